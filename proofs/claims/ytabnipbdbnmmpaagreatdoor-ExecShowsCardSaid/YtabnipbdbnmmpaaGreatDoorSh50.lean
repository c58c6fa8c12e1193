import Derived.Test.YtabnipbdbnmmpaaGreatDoorSh01
import Derived.Test.YtabnipbdbnmmpaaGreatDoorSh49
import Derived.Test.YtabnipbdbnmmpaaGreatDoorSh45
import Derived.Test.YtabnipbdbnmmpaaGreatDoorSh39
set_option linter.unusedVariables false
set_option linter.unusedSimpArgs false
namespace Go.Proofs.YtabnipbdbnmmpaaGreatDoor
section
open Go.RowKit Go.Shelf Rg
def wrF (Bq:Nat→Int) (M:Nat→Int) (x:Sg) : Nat→Int := Rm.wrM M x.va.toNat x.sz (fun j => Bq (x.wh+j))
theorem fold_far (Bq:Nat→Int) (a:Nat) : ∀ (S:List Sg) (M:Nat→Int),(∀ y ∈ S,¬ (y.va.toNat≤a∧a<y.va.toNat+y.sz))→S.foldl (wrF Bq) M a=M a
 | [],M,_ => rfl
 | y :: S,M,h => by
  rw [List.foldl_cons,fold_far Bq a S _ (fun z hz => h z (List.mem_cons_of_mem _ hz))]
  unfold wrF Rm.wrM
  rw [if_neg (h y (List.mem_cons_self ..))]
theorem sgM_eq (Bq:Nat→Int) (S:List Sg) : sgM Bq S=S.foldl (wrF Bq) (fun _ => 0) := rfl
theorem sok_page {S:List Sg} (h:Sok S) {i:Nat} {x:Sg} (hx:S[i]? = some x) (t:Nat) (ht:(t:Int)<x.mem) : rgP S (((x.va.toNat+t) / 4096 : Nat) : Int)=rga x.fl 3 := by
 have hg := (h i x hx).1
 have h1 := hg.v
 have h2 := hg.p
 refine rgP_hit hx (fun j y hj hy => ?_) ?_
 ·have h3 := (h i x hx).2 j y hj hy
  unfold pgs
  omega
 ·unfold pgs
  omega
theorem sok_byte {S:List Sg} (h:Sok S) (Bq:Nat→Int) {i:Nat} {x:Sg} (hx:S[i]? = some x) (t:Nat) (ht:(t:Int)<x.mem) : sgM Bq S (x.va.toNat+t)=if t<x.sz then Bq (x.wh+t) else 0 := by
 have hg := (h i x hx).1
 have h1 := hg.v
 obtain ⟨hi,hix⟩ := List.getElem?_eq_some_iff.1 hx
 have hs : S=S.take i ++ x :: S.drop (i+1) := by
  rw [← hix,← List.drop_eq_getElem_cons hi,List.take_append_drop]
 have hfar : ∀ (j:Nat) (y:Sg),j≠i→S[j]? = some y→¬ (y.va.toNat≤x.va.toNat+t∧x.va.toNat+t<y.va.toNat+y.sz) := fun j y hj hy => by
  have gy := (h j y hy).1
  have g1 := gy.v
  have g2 := gy.s
  rcases Nat.lt_or_gt_of_ne hj with c | c
  ·have := (h i x hx).2 j y c hy
   omega
  ·have := (h j y hy).2 i x c hx
   omega
 rw [sgM_eq,hs,List.foldl_append,List.foldl_cons,fold_far]
 ·unfold wrF Rm.wrM
  by_cases c : t<x.sz
  ·rw [if_pos ⟨by omega,by omega⟩,if_pos c,show x.va.toNat+t - x.va.toNat=t by omega]
  ·rw [if_neg (by omega),if_neg c]
   refine (fold_far Bq _ (S.take i) _ fun y hy => ?_)
   obtain ⟨j,hj⟩ := List.mem_iff_getElem?.1 hy
   have hji : j<i := by
    have := (List.getElem?_eq_some_iff.1 hj).1
    rw [List.length_take] at this
    omega
   rw [List.getElem?_take_of_lt hji] at hj
   exact hfar j y (by omega) hj
 ·intro y hy
  obtain ⟨j,hj⟩ := List.mem_iff_getElem?.1 hy
  rw [List.getElem?_drop] at hj
  exact hfar _ y (by omega) hj
theorem rga_bits {fl:Int} (h:fl=1∨fl=4∨fl=5∨fl=6∨fl=7) : Rm.hs (rga fl 3+208) (Rm.wnt 0)=(fl == 1 || fl == 5 || fl == 7)∧Rm.hs (rga fl 3+208) (Rm.wnt 1)=(fl == 4 || fl == 5 || fl == 6 || fl == 7)∧Rm.hs (rga fl 3+208) (Rm.wnt 2)=(fl == 6 || fl == 7) := by
 rcases h with rfl | rfl | rfl | rfl | rfl <;> decide
theorem guard_bits (t:Nat) : Rm.hs 198 (Rm.wnt t)=false := by
 unfold Rm.wnt
 split
 ·decide
 split <;> decide
theorem seg_atM {S:List Sg} (h:Sok S) (Bq Rp:Nat→Int) {e:Nat} (he:ePg S=(e:Int)) {i:Nat} {x:Sg} (hx:S[i]? = some x) (t:Nat) (ht:(t:Int)<x.mem) :
  x.va.toNat+t<e*4096∧pgM Bq S e Rp (x.va.toNat+t)=(if t<x.sz then Bq (x.wh+t) else 0)∧Rm.upd (cS S) e 198 ((x.va.toNat+t) / 4096)=rga x.fl 3+208 := by
 have hne : S ≠ [] := fun c => by rw [c] at hx; simp at hx
 have hg := (h i x hx).1
 have hlt : x.va.toNat+t<e*4096 := by
  have hl : S.getLast? = S[S.length - 1]? := List.getLast?_eq_getElem? ..
  have hi := (List.getElem?_eq_some_iff.1 hx).1
  obtain ⟨l,hll⟩ : ∃ l,S[S.length - 1]? = some l := ⟨S[S.length - 1],List.getElem?_eq_getElem (by omega)⟩
  have he2 : ePg S=(l.va+l.mem+4095) / 4096 := by unfold ePg; rw [hl,hll]
  have hend : x.va+x.mem≤l.va+l.mem := by
   by_cases c : i=S.length - 1
   ·rw [c,hll] at hx
    injection hx with hx
    rw [← hx]; exact Int.le_refl _
   ·have h1 := (h _ l hll).2 i x (by omega) hx
    have h2 := (h _ l hll).1.m
    omega
  have h1 := hg.v
  rw [he2] at he
  omega
 refine ⟨hlt,?_,?_⟩
 ·unfold pgM Rm.wrM
  rw [if_neg (by omega)]
  exact sok_byte h Bq hx t ht
 ·unfold Rm.upd cS
  rw [if_neg (by omega),sok_page h hx t ht]
end
namespace Rm
open Go Go.RowKit
set_option maxRecDepth 4000 in
theorem SpM.see {ox:Oxt} {w:World} {s p b m N r P K:Nat} {M c:Nat→Int} (h:SpM ox w s p b m N r P K M c) (x:Nat) (hx:x<P*4096) : ∃ pa : Int,
  (∀ t : Nat,t<3 → ∀ w',Below w.heap.size w w'→Calls Tryz.prog 18 #[.pointer (some ⟨p,0,.none⟩),.int .u64 (ad r),.int .u64 x,.int .i64 (1+t)] w' fun e w'' => e = .returned (.tuple #[.int .u64 (if accU c t x then pa else 0),.bool (accU c t x)])∧Below w'.heap.size w' w'') ∧
  ∀ w',Below w.heap.size w w'→Calls Tryz.prog 20 #[.pointer (some ⟨p,0,.none⟩),.int .u64 pa,.int .i64 1] w' fun e w'' => ReadP w' 1 (fun _ => M x) e w'' := by
 obtain ⟨B,L,F,lf,fr,h1,h2,-,-⟩ := h
 refine ⟨ad (fr (x / 4096))+(x % 4096 : Nat),fun t ht w' k => (h1.su.below k).tra x t hx ht,fun w' k => ?_⟩
 have hq := (h1.su.pag (x / 4096) (by omega)).qb
 have hR := h1.ram.below k
 have := read_ok hR.mem (fr (x / 4096)*4096+x % 4096) 1 (by omega) (by omega) (fun f e1 e2 => by
  obtain rfl : f=fr (x / 4096) := by omega
  rw [hdL_in hq.1]
  simpa using hq.2)
 have e : ad (fr (x / 4096))+(x % 4096 : Nat)=2147483648+((fr (x / 4096)*4096+x % 4096 : Nat) : Int) := by unfold ad; omega
 rw [e]
 refine this.mono ?_
 rintro E w2 ⟨g,g1,g2,rfl,g3,g4,b2⟩
 refine ⟨g,g1,g2,rfl,fun i hi => ?_,g4,b2⟩
 have h3 := g3 i hi
 have hi0 : i=0 := by omega
 have h4 := h2 x hx
 unfold btU at h4
 rw [h3,← h4,hi0]
 simp only [Nat.add_zero]
theorem SpM.see0 {ox:Oxt} {w:World} {s p b m N r P K:Nat} {M c:Nat→Int} (h:SpM ox w s p b m N r P K M c) : ∀ w',Below w.heap.size w w'→Calls Tryz.prog 20 #[.pointer (some ⟨p,0,.none⟩),.int .u64 0,.int .i64 1] w' fun e w'' => e = .returned (.tuple #[.slice .none 0 0,.bool false])∧Below w'.heap.size w' w'' := by
 intro w' k
 obtain ⟨B,L,F,lf,fr,h1,h2,-,-⟩ := h
 have hR := h1.ram.below k
 exact read_no 0 1 (reach_out hR.mem 0 1 (by omega) (by omega) (by omega) (by omega))
end Rm
section
open Go.RowKit Go.Shelf
def wkX : List Bs := [[97,98],[99]]
theorem Laid3.lt {w:World} (h:Laid3 w) : 2<w.heap.size := lt_of_cell h.c0
structure WkR (R:Nat→Int) : Prop where
 a0 : R 4032=240
 a1 : R 4033=47
 a8 : R 4040=224
 a9 : R 4041=47
 b0 : R 4048=0
 c0 : R 4064=99
 c1 : R 4065=0
 d0 : R 4080=97
 d1 : R 4081=98
 d2 : R 4082=0
theorem wk_of {R:Nat→Int} (h:StkR 8192 wkX R 4032) : WkR R := by
 obtain ⟨h1,h2,h3,h4⟩ := h
 obtain ⟨p,p0,p1,p2,p3,p4,p5⟩ := h4 0 [97,98] rfl
 obtain ⟨q,q0,q1,q2,q3,q4,q5⟩ := h4 1 [99] rfl
 have e1 : stx 4096 (wkX.take (0+1))=4080 := by decide
 have e2 : stx 4096 (wkX.take (1+1))=4064 := by decide
 rw [e1] at p0
 rw [e2] at q0
 obtain rfl : p=4080 := by omega
 obtain rfl : q=4064 := by omega
 exact ⟨(p5 0 (by omega)).trans (by decide),(p5 1 (by omega)).trans (by decide),(q5 0 (by omega)).trans (by decide),(q5 1 (by omega)).trans (by decide),h1 0 (by omega),(q3 0 99 rfl).trans (by decide),q4,(p3 0 97 rfl).trans (by decide),(p3 1 98 rfl).trans (by decide),p4⟩
def smC : Nat→Int := Rm.upd (cS [smG]) 1 198
def WkP (W:World) (p b m:Nat) (e:Ending) (w':World) : Prop := ∃ s r Rp K,e = .returned (.tuple #[.pointer (some ⟨s,0,.none⟩),.agg #[.int .u64 0,.int .u64 12224,.int .u64 12224],.int .i64 0])∧Rm.Fra p b m W w'∧Rm.SpM (Rm.oxt0 19) w' s p b m 20 r 3 K (pgM smB [smG] 1 Rp) smC∧WkR Rp
theorem wk_load {w2 w4:World} {p b m:Nat} {Bm:Nat→Int} {q:Option Addr} {cq:Nat} (hR:Rm.Ram w2 p b m 20 Bm (18 :: Rm.down 17)) (hL:Laid w2) (hL3:Laid3 w2) (h3:2<p∧2<b∧2<m) (b4:Below w2.heap.size w2 w4) (hq:Byt w4 q 124 cq smF) :
  Hid (∀ T,Calls Tryz.prog 11 #[.pointer (some ⟨p,0,.none⟩),.slice q 124 cq,.slice (some ⟨w4.heap.size,0,.none⟩) 2 2,.int .u64 (Rm.ad 19),.int .u64 2147483648] (w4.alloc (.cells #[.string ⟨#[97,98]⟩,.string ⟨#[99]⟩] T)) (WkP (w4.alloc (.cells #[.string ⟨#[97,98]⟩,.string ⟨#[99]⟩] T)) p b m)) := by
 intro T
 have b5 : Below w4.heap.size w4 (w4.alloc (.cells #[.string ⟨#[97,98]⟩,.string ⟨#[99]⟩] T)) := (Below.refl _ _).alloc (Nat.le_refl _) _
 have b25 := b4.trans (b5.mono b4.size)
 obtain ⟨fb,fo,rfl,hrow,hfb⟩ : ∃ b o,q=some ⟨b,o,.none⟩∧Row w4 b o 124 smB∧b<w4.heap.size := by
  rcases byt_fp hq with h | h
  ·exact h
  ·omega
 have hcq : 124≤cq∧cq≤9223372036854775807 := ⟨hq.2.1,hq.2.2.1⟩
 have hA : Arg (w4.alloc (.cells #[.string ⟨#[97,98]⟩,.string ⟨#[99]⟩] T)) (some ⟨w4.heap.size,0,.none⟩) 2 2 wkX := by
  refine ⟨⟨rfl,Nat.le_refl _,by decide,.inr ⟨w4.heap.size,0,rfl,by simp,fun i x hx => ?_⟩⟩,by omega,fun x hx => ?_⟩
  ·match i,hx with
   | 0,hx =>
    simp only [wkX,List.getElem?_cons_zero,Option.some.injEq] at hx
    subst hx
    simp [sv]
   | 1,hx =>
    simp only [wkX,List.getElem?_cons_succ,List.getElem?_cons_zero,Option.some.injEq] at hx
    subst hx
    simp [sv]
   | k+2,hx => simp [wkX] at hx
  ·simp only [wkX,List.mem_cons,List.not_mem_nil,or_false] at hx
   rcases hx with rfl | rfl <;> decide
 refine (load_20 (hR.below b25) (hL.below b25) (hL3.below b25) h3 (hrow.keep b5) (Nat.lt_of_lt_of_le hfb b5.size) hcq hA (by decide)).mono fun e w' h9 => ?_
 obtain ⟨s,r,Rp,spn,K,rfl,hf,hs,hM,hK,hspn,hstk⟩ := h9
 have e1 : (stx 4096 wkX - 8*((wkX.length:Int)+1)) / 16*16=4032 := by decide
 have e2 : spn=4032 := by
  have : (stx 4096 wkX - 8*((wkX.length:Int)+1)) / 16*16=(spn:Int) := hspn
  omega
 subst e2
 have e3 : (((1:Nat) : Int)+1)*4096=8192 := by decide
 rw [e3] at hstk
 exact ⟨s,r,Rp,K,by rfl,hf,hM,wk_of hstk⟩
end
section
open Go.RowKit Go.Shelf Rg
set_option maxRecDepth 10000 in
set_option maxHeartbeats 4000000 in
theorem works_any {W:World} (hL:Laid W) (hL3:Laid3 W) : Calls Tryz.prog 6 #[] W fun e w' => e = .returned (.bool true)∧Below W.heap.size W w' := by
 have c9 := memory_any 20 (by omega) (by omega) W
 have HL : Hid (Laid W∧Laid3 W) := ⟨hL,hL3⟩
 clear hL hL3
 go_enter Tryz.func6,Tryz.ntmps6
 go_upto_region 4 with (go_at_call 8; refine c9.mono ?_; rintro _ w2 ⟨p,b,m,Bm,hp,hb,hm,rfl,hR2,b2,-⟩; clear c9)
 have hR : Rm.Ram w2 p b m 20 Bm (18 :: Rm.down 17) := hR2
 have h3 : 2<p∧2<b∧2<m := by have := HL.out.2.lt; omega
 have H2 : Hid (Rm.Ram w2 p b m 20 Bm (18 :: Rm.down 17)∧Laid w2∧Laid3 w2∧(2<p∧2<b∧2<m)∧Below W.heap.size W w2∧W.heap.size≤p∧W.heap.size≤b∧W.heap.size≤m) := ⟨hR,HL.out.1.below b2,HL.out.2.below b2,h3,b2,hp,hb,hm⟩
 clear hR hR2 b2 hp hb hm h3
 have ht9 : Rm.ad (20 - 1)=Rm.ad 19 := rfl
 rw [ht9]
 clear ht9
 generalize ht : Rm.ad 19=t9
 have HT : Hid (Rm.ad 19=t9) := ht
 clear ht
 go_upto_region 5 with first | (go_at_call 31; refine (small_any _).mono ?_; rintro _ w4 ⟨q,cq,rfl,hq,b4⟩; have HL8 := wk_load H2.out.1 H2.out.2.1 H2.out.2.2.1 H2.out.2.2.2.1 b4 hq; have B4 : Hid (Below w2.heap.size w2 w4) := b4; rw [HT.out] at HL8; clear hq b4) | (go_at_call 11; refine (HL8.out _).mono ?_; rintro _ w6 ⟨s,r,Rp,K,rfl,hf6,hM6,hK6⟩)
 have hz6 : w4.heap.size+1≤w6.heap.size := by have := hf6.size; simpa using this
 have b7 : Below w6.heap.size w6 (w6.alloc (.cells #[.int .u64 0,.int .u64 12224,.int .u64 12224] 44)) := (Below.refl _ _).alloc (Nat.le_refl _) _
 have c14 := (hM6.below b7).inn 12224 64 (by omega) (by omega)
 have B25 : Below W.heap.size W (w4.alloc (.cells #[.string ⟨#[97,98]⟩,.string ⟨#[99]⟩] 9)) := (H2.out.2.2.2.2.1.trans (B4.out.mono H2.out.2.2.2.2.1.size)).alloc (Nat.le_trans H2.out.2.2.2.2.1.size B4.out.size) _
 have H7 : Hid (WkR Rp∧Below W.heap.size W (w6.alloc (.cells #[.int .u64 0,.int .u64 12224,.int .u64 12224] 44))) := ⟨hK6,(hf6.toBelow B25.size H2.out.2.2.2.2.2.1 H2.out.2.2.2.2.2.2.1 H2.out.2.2.2.2.2.2.2 |> fun h => B25.trans (h.mono (Nat.le_refl _))).alloc (by have := B25.size; have := hf6.size; omega) _⟩
 clear hK6 hf6 hM6 b7 B25
 go_upto_region 7 with fail
 obtain ⟨w7,hw7⟩ : ∃ w7,w7=w6.alloc (.cells #[.int .u64 0,.int .u64 12224,.int .u64 12224] 44) := ⟨_,rfl⟩
 rw [← hw7] at c14 H7 ⊢
 clear hw7
 have hac : ∀ j,j<64→Rm.accU smC 1 (12224+j)=true := fun j hj => by
  unfold Rm.accU
  rw [show (12224+j) / 4096=2 by omega]
  decide
 have hby : ∀ j,j<64→pgM smB [smG] 1 Rp (12224+j)=Rp (4032+j) := fun j hj => by
  unfold pgM Rm.wrM
  rw [if_pos (by omega)]
  exact congrArg Rp (by omega)
 go_upto_region 8 with (go_at_call 12; refine c14.mono ?_; rintro _ w9 ⟨b9,⟨-,g,hg1,hg2,rfl,hg3⟩ | ⟨⟨j,hj,hx⟩,-⟩⟩; all_goals first | (exact absurd hx (by rw [hac j hj]; decide)) | skip)
 have hc : ∀ j,j<64→w9.cell? ⟨g,j,.none⟩=some (.int .u8 (Rp (4032+j))) := fun j hj => by rw [← hby j hj]; exact hg3 j hj
 have k0 := hc 0 (by omega)
 have k1 := hc 1 (by omega)
 have k8 := hc 8 (by omega)
 have k9 := hc 9 (by omega)
 have k16 := hc 16 (by omega)
 have k32 := hc 32 (by omega)
 have k33 := hc 33 (by omega)
 have k48 := hc 48 (by omega)
 have k49 := hc 49 (by omega)
 have k50 := hc 50 (by omega)
 rw [show 4032+0=4032 from rfl,H7.out.1.a0] at k0
 rw [show 4032+1=4033 from rfl,H7.out.1.a1] at k1
 rw [show 4032+8=4040 from rfl,H7.out.1.a8] at k8
 rw [show 4032+9=4041 from rfl,H7.out.1.a9] at k9
 rw [show 4032+16=4048 from rfl,H7.out.1.b0] at k16
 rw [show 4032+32=4064 from rfl,H7.out.1.c0] at k32
 rw [show 4032+33=4065 from rfl,H7.out.1.c1] at k33
 rw [show 4032+48=4080 from rfl,H7.out.1.d0] at k48
 rw [show 4032+49=4081 from rfl,H7.out.1.d1] at k49
 rw [show 4032+50=4082 from rfl,H7.out.1.d2] at k50
 have s1 : ∀ X,(Instr.slice 24 (.slice (some ⟨g,0,.none⟩) 64 64) (some (.int .i64 32)) (some (.int .i64 34)) none).run Tryz.prog X = .ok (.slice (some ⟨g,32,.none⟩) 2 32) X := fun X => by
  rw [run_slice_lh X 24 (some ⟨g,0,.none⟩) 64 64 (by kernel_rfl) .i64 .i64 32 34 (by decide) (by decide) (by decide),elem22]
  simp [Result.andThen,sliced,Addr.add]
 have s2 : ∀ X,(Instr.slice 24 (.slice (some ⟨g,0,.none⟩) 64 64) (some (.int .i64 48)) (some (.int .i64 51)) none).run Tryz.prog X = .ok (.slice (some ⟨g,48,.none⟩) 3 16) X := fun X => by
  rw [run_slice_lh X 24 (some ⟨g,0,.none⟩) 64 64 (by kernel_rfl) .i64 .i64 48 51 (by decide) (by decide) (by decide),elem22]
  simp [Result.andThen,sliced,Addr.add]
 have v1 : (convert 24 9 (.slice (some ⟨g,32,.none⟩) 2 32)).run Tryz.prog w9 = .ok (.string ⟨#[99,0]⟩) w9 := by
  have := run_convert_bytes_arg w9 24 5 Tryz.underlying24 Tryz.underlying5 g 32 2 32 [99,0] rfl (fun i hi => by
   match i,hi with
   | 0,_ => exact k32
   | 1,_ => exact k33) 9 Tryz.underlying9
  exact this
 have v2 : (convert 24 9 (.slice (some ⟨g,48,.none⟩) 3 16)).run Tryz.prog w9 = .ok (.string ⟨#[97,98,0]⟩) w9 := by
  have := run_convert_bytes_arg w9 24 5 Tryz.underlying24 Tryz.underlying5 g 48 3 16 [97,98,0] rfl (fun i hi => by
   match i,hi with
   | 0,_ => exact k48
   | 1,_ => exact k49
   | 2,_ => exact k50) 9 Tryz.underlying9
  exact this
 have HB : Hid (Below W.heap.size W w9) := H7.out.2.trans (b9.mono H7.out.2.size)
 clear k32 k33 k48 k49 k50 hc hg1 hg2 hg3 b9 hac hby
 go_wp2
 go_ret
 exact ⟨rfl,HB.out⟩
end
namespace Rm
open Go Go.RowKit
structure HiT (w W:World) (p b m N r:Nat) (B:Nat→Int) (L:List Nat) (F:Nat→Option Nat) (l:List Pg) (B':Nat→Int) (L':List Nat) (F':Nat→Option Nat) (lf':Nat→Nat→Int) : Prop where
 ram : Ram W p b m N B' L'
 fra : Fra p b m w W
 pt : PT N L' B' F' lf'
 rt : F' 0=some r
 tl : TL F' lf' l
 len : L'.length+nodesF F'=L.length+nodesF F
 sub : ∀ x f,F' x=some f→F x=some f
 els : ∀ f,f ∉ L→(∀ x,F x≠some f)→f ∉ L' ∧ ∀ j,j<4096→B' (f*4096+j)=B (f*4096+j)
section
variable {w W:World} {s p b m N r P ft:Nat} {size:Int} {B B':Nat→Int} {L L':List Nat} {F F':Nat→Option Nat} {lf lf':Nat→Nat→Int} {fr:Nat→Nat} {c:Nat→Int} {l lm:List Pg}
def HiP (w:World) (p b m N r:Nat) (B:Nat→Int) (L:List Nat) (F:Nat→Option Nat) (lm:List Pg) (e:Ending) (W':World) : Prop := (∃ u v,e = .returned (.tuple #[.int .u64 u,.int .i64 v])) ∧ ∃ B2 L2 F2 lf2,HiT w W' p b m N r B L F lm B2 L2 F2 lf2
theorem HiT.unmap (h:HiT w W p b m N r B L F l B' L' F' lf') {x:Pg} (hx:x ∈ l) (hm:∀ y,y ∈ lm ↔ y ∈ l∧y≠x) : Calls Tryz.prog 114 #[.pointer (some ⟨p,0,.none⟩),.int .u64 (ad r),.int .u64 x.1] W (HiP w p b m N r B L F lm) := by
 have hok := h.tl.ok x hx
 have hl := h.tl.leaf x hx
 refine (unmap_byt h.ram h.pt h.rt x.1 hok.1 (by rw [hl]; exact hok.ne)).mono fun e W' hh => ?_
 obtain ⟨rfl,g,q,B2,L2,F2,lf2,hg,hq,P2,R2,r2,f2,y2⟩ := hh
 obtain ⟨s1,s2,s3⟩ := PrR.sub R2
 refine ⟨⟨_,_,rfl⟩,B2,L2,F2,lf2,r2,h.fra.trans f2,P2,s3.trans h.rt,TL.unmap h.tl hx hm R2,?_,fun y f hf => h.sub y f (s1 y f hf),fun f h1 h2 => ?_⟩
 ·have := R2.len hg hq
  have := h.len
  omega
 ·obtain ⟨a1,a2⟩ := h.els f h1 h2
  have hn : ∀ y,F' y≠some f := fun y hy => h2 y (h.sub y f hy)
  refine ⟨fun hmm => ?_,fun j hj => (y2 f hn j hj).trans (a2 j hj)⟩
  rcases s2 f hmm with e | e | e
  ·exact a1 e
  ·exact hn _ (by rw [e]; exact hq)
  ·exact hn _ (by rw [e]; exact hg)
def TfP (w:World) (p b m N:Nat) (B:Nat→Int) (L:List Nat) (F:Nat→Option Nat) (fr:Nat→Nat) (w':World) : Prop := Fra p b m w w' ∧ ∃ B' L',Ram w' p b m N B' L'∧L'.length=L.length+nodesF F+1∧Oth L F fr [] B L' (fun _ => none) fr [] B'
theorem HiT.free (h:HiT w W p b m N r B L F [] B' L' F' lf') : Calls Tryz.prog 115 #[.pointer (some ⟨p,0,.none⟩),.int .u64 (ad r)] W fun e w' => e = .returned (.int .i64 0)∧TfP w p b m N B L F fr w' := by
 refine (free_all2 h.ram h.pt h.rt h.tl List.Pairwise.nil rfl).mono fun e w' hh => ?_
 obtain ⟨rfl,r2,f2⟩ := hh
 have hn : nodesF F'=0 := by rw [h.tl.nodesF h.pt]; rfl
 refine ⟨rfl,h.fra.trans f2,_,_,r2,?_,fun f h1 h2 h3 => ?_⟩
 ·have := h.len
  rw [List.length_cons]
  omega
 ·obtain ⟨a1,a2⟩ := h.els f h1 h2
  have hne : f≠r := fun e => h2 0 (by rw [e]; exact h.sub 0 r h.rt)
  refine ⟨fun hm => ?_,fun x => by simp,h3,fun j hj => ?_⟩
  ·rcases List.mem_cons.1 hm with e | e
   ·exact hne e
   ·exact a1 e
  ·rw [thr_frame B' _ hne j hj]
   exact a2 j hj
set_option maxHeartbeats 1000000 in
theorem tfree_any (h:Ram w p b m N B L) (hs:SpL N r ft B L F lf fr c []) : Calls Tryz.prog 61 #[.agg #[.pointer (some ⟨p,0,.none⟩),.int .u64 (ad r)]] w fun e w' => e = .returned (.tuple #[])∧TfP w p b m N B L F fr w' := by
 obtain ⟨X,hX⟩ : ∃ X,X=w.heap.size := ⟨_,rfl⟩
 obtain ⟨w1,hw1⟩ : ∃ w1,w1=w.alloc (.cells #[.pointer (some ⟨p,0,.none⟩),.int .u64 (ad r)] 105) := ⟨_,rfl⟩
 have b1 : Below w.heap.size w w1 := by rw [hw1]; exact (Below.refl _ _).alloc (Nat.le_refl _) _
 have k1 : C2w w1 X (.pointer (some ⟨p,0,.none⟩)) (.int .u64 (ad r)) := by
  rw [hw1,hX]
  exact ⟨by simp,by simp,fun k => World.frozen?_alloc_new _ _ _ _⟩
 have hp : p<X := by rw [hX]; exact lt_of_cell h.mem.c0
 have hb : b<X := by rw [hX]; exact lt_of_cell (h.mem.cb 0 (by have := h.mem.n1; omega))
 have hm : m<X := by rw [hX]; exact h.mem.mlt
 have hl : pgL ft fr c [] = [(274877898752,ad ft,198),(274877902848,ad 0,74)] := rfl
 have t0 : HiT w1 w1 p b m N r B L F [(274877898752,ad ft,198),(274877902848,ad 0,74)] B L F lf := ⟨h.below b1,Fra.refl ..,hs.pt,hs.rt,by rw [← hl]; exact hs.tl,rfl,fun _ _ h => h,fun f h1 _ => ⟨h1,fun _ _ => rfl⟩⟩
 have c1 := t0.unmap (lm:=[(274877902848,ad 0,74)]) (x:=(274877898752,ad ft,198)) (by simp) (fun y => by
  rw [List.mem_singleton,List.mem_cons,List.mem_singleton]
  constructor
  ·rintro rfl
   exact ⟨.inr rfl,by simp⟩
  ·rintro ⟨e | e,hne⟩
   ·exact absurd e hne
   ·exact e)
 unfold HiP at c1
 have HK : Hid (Below w.heap.size w w1∧C2w w1 X (.pointer (some ⟨p,0,.none⟩)) (.int .u64 (ad r))) := ⟨b1,k1⟩
 have k0 := k1.a
 have kr := k1.b
 clear h hs hl t0 b1 k1
 go_enter Tryz.func61,Tryz.ntmps61
 go_upto_region 1 with fail
 rw [← hw1,← hX]
 have HXX : Hid (X=w.heap.size) := hX
 clear hw1 hX
 go_upto_region 2 with (go_at_call 114; refine c1.mono ?_; rintro _ w2 ⟨⟨u2,v2,rfl⟩,B2,L2,F2,lf2,t2⟩; have H2 : Hid (HiT w1 w2 p b m N r B L F [(274877902848,ad 0,74)] B2 L2 F2 lf2) := t2; clear t2 c1)
 have k2 := HK.out.2.fra H2.out.fra (by omega) (by omega) (by omega)
 have c2 := H2.out.unmap (lm:=[]) (x:=(274877902848,ad 0,74)) (by simp) (fun y => by
  rw [List.mem_singleton]
  constructor
  ·intro h
   cases h
  ·rintro ⟨e,hne⟩
   exact absurd e hne)
 unfold HiP at c2
 have k0 := k2.a
 have kr := k2.b
 clear k2
 go_upto_region 3 with (go_at_call 114; refine c2.mono ?_; rintro _ w3 ⟨⟨u3,v3,rfl⟩,B3,L3,F3,lf3,t3⟩; have H3 : Hid (HiT w1 w3 p b m N r B L F [] B3 L3 F3 lf3) := t3; clear t3 c2)
 have k3 := HK.out.2.fra H3.out.fra (by omega) (by omega) (by omega)
 have c3 := H3.out.free (fr:=fr)
 have k0 := k3.a
 have kr := k3.b
 clear k3
 go_wp2_with (go_at_call 115; refine c3.mono ?_; rintro _ w4 ⟨rfl,t4⟩; have H4 : Hid (TfP w1 p b m N B L F fr w4) := t4; clear t4 c3)
 exact bodyPost_end (v:=.tuple #[]) (by simp [results,Tryz.results61,go_sem]) rfl ⟨rfl,(Fra.below HK.out.1).trans H4.out.1,H4.out.2⟩
def FeP (w:World) (s p b m N P:Nat) (B:Nat→Int) (L:List Nat) (F:Nat→Option Nat) (fr:Nat→Nat) (e:Ending) (w':World) : Prop := e = .returned (.int .i64 0)∧Tch p b m s w w'∧w'.cell? ⟨s,0,.none⟩=some (.pointer .none) ∧ ∃ B' L',Ram w' p b m N B' L'∧L'.length=L.length+nodesF F+P+1∧Oth L F fr (List.range P) B L' (fun _ => none) fr [] B'
set_option maxHeartbeats 1000000 in
theorem sfree_any (h:SpT w s p b m N r P ft size B L F lf fr c) : Calls Tryz.prog 23 #[.pointer (some ⟨s,0,.none⟩)] w (FeP w s p b m N P B L F fr) := by
 have hne := h.ne
 have c43 := made_sp h.sp
 have c31 := shrink_any h 0 ⟨by omega,h.sz.1⟩ 0 rfl
 unfold ShP at c31
 clear h
 go_enter Tryz.func23,Tryz.ntmps23
 go_upto_region 4 with first | (go_at_call 46; refine c43.mono ?_; rintro _ w1 ⟨rfl,e1⟩; obtain rfl : w=w1 := e1.symm) | (go_at_call 60; refine c31.mono ?_; rintro _ w2 ⟨rfl,t2,B2,L2,F2,lf2,S2,n2,o2⟩; have H2 : Hid (Tch p b m s w w2∧SpT w2 s p b m N r 0 ft 0 B2 L2 F2 lf2 fr c∧L2.length+nodesF F2+0=L.length+nodesF F+P∧Oth L F fr (List.range P) B L2 F2 fr (List.range 0) B2) := ⟨t2,S2,n2,o2⟩; clear t2 S2 n2 o2 c31)
 have c68 := tfree_any H2.out.2.1.ram H2.out.2.1.tab
 have k0 := H2.out.2.1.sp.c0
 have kr := H2.out.2.1.sp.c1
 go_upto_region 5 with (go_at_call 61; refine c68.mono ?_; rintro _ w3 ⟨rfl,t3⟩; have H3 : Hid (TfP w2 p b m N B2 L2 F2 fr w3) := t3; clear t3 c68)
 have S3 := H2.out.2.1.sp.fra H3.out.1 hne.1 hne.2.1 hne.2.2
 have k0 := S3.c0
 have k1 := S3.c1
 have k2 := S3.c2
 have f0 := S3.fr 0
 have f1 := S3.fr 1
 have f2 := S3.fr 2
 clear S3 kr
 go_wp2_with fail
 go_ret
 obtain ⟨q1,B3,L3,q2,q3,q4⟩ := H3.out
 refine ⟨rfl,(((H2.out.1.trans (Tch.of q1)).trans (Tch.set 0 _)).trans (Tch.set 1 _)).trans (Tch.set 2 _),?_,B3,L3,?_,?_,H2.out.2.2.2.trans q4⟩
 ·rw [World.cell?_setCell_other _ _ _ _ (by simp),World.cell?_setCell_other _ _ _ _ (by simp)]
  exact World.cell?_setCell_same' _ _ _ (by rw [k0]; rfl)
 ·exact ((q2.beside ⟨s,0,.none⟩ _ (fun e => hne.1 e.symm) (fun e => hne.2.1 e.symm) (fun e => hne.2.2 e.symm)).beside ⟨s,1,.none⟩ _ (fun e => hne.1 e.symm) (fun e => hne.2.1 e.symm) (fun e => hne.2.2 e.symm)).beside ⟨s,2,.none⟩ _ (fun e => hne.1 e.symm) (fun e => hne.2.1 e.symm) (fun e => hne.2.2 e.symm)
 ·have := H2.out.2.2.1
  omega
end
end Rm
namespace Rm
open Go Go.RowKit
def FxP (ox:Oxt) (w:World) (s p b m N K:Nat) (e:Ending) (w':World) : Prop := e = .returned (.int .i64 0)∧Tch p b m s w w' ∧ ∃ B' L',Ram w' p b m N B' L'∧L'.length=K ∧ ∀ f,ox.T f→f ∉ L' ∧ ∀ j,j<4096→B' (f*4096+j)=ox.Z (f*4096+j)
section
variable {w:World} {s p b m N r P K:Nat} {M c:Nat→Int} {ox:Oxt}
theorem SpM.free (h:SpM ox w s p b m N r P K M c) : Calls Tryz.prog 23 #[.pointer (some ⟨s,0,.none⟩)] w (FxP ox w s p b m N K) := by
 obtain ⟨B,L,F,lf,fr,h1,h2,h5,h6⟩ := h
 refine (sfree_any h1).mono fun e w' h9 => ?_
 obtain ⟨he,ht,h0,B',L',hr,hl,ho⟩ := h9
 refine ⟨he,ht,B',L',hr,by omega,fun f hf => ?_⟩
 obtain ⟨a1,a2,a3,a4⟩ := h5 f hf
 obtain ⟨b1,_,_,b4⟩ := ho f a1 a2 (fun i hi => a3 i (List.mem_range.1 hi))
 exact ⟨b1,fun j hj => (b4 j hj).trans (a4 j hj)⟩
end
end Rm
end Go.Proofs.YtabnipbdbnmmpaaGreatDoor
