import Derived.Test.YtabnipbdbnmmpaaGreatDoorSh01
import Derived.Test.YtabnipbdbnmmpaaGreatDoorSh48
import Derived.Test.YtabnipbdbnmmpaaGreatDoorSh42
import Derived.Test.YtabnipbdbnmmpaaGreatDoorSh46
import Derived.Test.YtabnipbdbnmmpaaGreatDoorSh44
import Derived.Test.YtabnipbdbnmmpaaGreatDoorSh39
import Derived.Test.YtabnipbdbnmmpaaGreatDoorSh43
set_option linter.unusedVariables false
set_option linter.unusedSimpArgs false
namespace Go.Proofs.YtabnipbdbnmmpaaGreatDoor
section
open Go.RowKit
set_option maxRecDepth 10000 in
set_option maxHeartbeats 1000000 in
theorem small_any (w:World) : Calls Tryz.prog 31 #[] w fun e w' => ∃ q c,e = .returned (.slice q 124 c)∧Byt w' q 124 c smF∧Below w.heap.size w w' := by
 obtain ⟨w1,hw1⟩ : ∃ w1,w1=(w.alloc (.cells #[.int .u8 115,.int .u8 0,.int .u8 0,.int .u8 0] 5)).alloc (.cells #[.int .u64 0,.int .u32 5,.slice (some ⟨w.heap.size,0,.none⟩) 4 4,.int .u64 4] 38) := ⟨_,rfl⟩
 have hS : Sm w1 (w.heap.size+1) w.heap.size := by
  rw [hw1]
  exact ⟨by simp,by simp,by simp,by simp,by simp,by simp,by simp,by simp⟩
 have b1 : Below w.heap.size w w1 := by rw [hw1]; exact ((Below.refl _ _).alloc (Nat.le_refl _) _).alloc (by simp) _
 have c32 := writeS_any hS
 rw [hw1] at c32
 have HB : Hid (Below w.heap.size w w1∧w1=(w.alloc (.cells #[.int .u8 115,.int .u8 0,.int .u8 0,.int .u8 0] 5)).alloc (.cells #[.int .u64 0,.int .u32 5,.slice (some ⟨w.heap.size,0,.none⟩) 4 4,.int .u64 4] 38)) := ⟨b1,hw1⟩
 clear hS b1 hw1
 go_enter Tryz.func31,Tryz.ntmps31
 go_wp2_with (go_at_call 71; refine c32.mono ?_; rintro _ w2 ⟨q,c,rfl,h2,b2⟩; rw [← HB.out.2] at b2; have H2 : Hid (Byt w2 q 124 c smF∧Below w.heap.size w w2) := ⟨h2,HB.out.1.trans (b2.mono HB.out.1.size)⟩; clear h2 b2 c32)
 go_ret
 have ba : Below w2.heap.size w2 (w2.alloc (.cells #[.slice .none 0 0,.int .i64 0] 121)) := (Below.refl _ _).alloc (Nat.le_refl _) _
 exact ⟨q,c,rfl,bytU H2.out.1 ba,H2.out.2.trans (ba.mono H2.out.2.size)⟩
def smB : Nat→Int := fun i => smF.getD i 0
theorem smB_bd (i:Nat) : 0≤smB i∧smB i<256 := by
 by_cases h : i<124
 ·have : ∀ i,i<124→0≤smB i∧smB i<256 := by decide +kernel
  exact this i h
 ·have hl : smF.length=124 := by decide +kernel
  unfold smB
  rw [List.getD_eq_getElem?_getD,List.getElem?_eq_none (by omega)]
  simp
def smG : Sg := ⟨0,5,4,120,4⟩
theorem smB_rd : rdF 124 smB 0 0=((0,0),[smG]) := by kernel_rfl
theorem smB_hd : Hd smB 0 0 := by
 refine .inl ⟨rfl,rfl,?_⟩
 unfold chk
 decide +kernel
end
section
open Go.RowKit Go.Shelf
def MeP (w:World) (n:Nat) (e:Ending) (w':World) : Prop := ∃ p b m B,w.heap.size≤p∧w.heap.size≤b∧w.heap.size≤m∧e = .returned (.tuple #[.pointer (some ⟨p,0,.none⟩),.int .u64 (Rm.ad (n - 1)),.bool true])∧Rm.Ram w' p b m n B (Rm.down (n - 2))∧Below w.heap.size w w' ∧ ∀ j,j<4096→B ((n - 1)*4096+j)=0
set_option maxRecDepth 10000 in
set_option maxHeartbeats 1000000 in
theorem memory_any (n:Nat) (h1:2≤n) (h2:n≤4096) (w:World) : Calls Tryz.prog 8 #[.int .i64 n] w (MeP w n) := by
 have c30 := Rm.new_any n (by omega) h2 w
 have g1 : ¬ ((n:Int)<2) := by omega
 have g2 : ¬ ((n:Int) > 4096) := by omega
 have hdn : Rm.down (n - 1)=(n - 1) :: Rm.down (n - 2) := by
  obtain ⟨k,rfl⟩ : ∃ k,n=k+2 := ⟨n - 2,by omega⟩
  rfl
 have HD : Hid (Rm.down (n - 1)=(n - 1) :: Rm.down (n - 2)) := hdn
 clear hdn
 go_enter Tryz.func8,Tryz.ntmps8
 go_upto_region 8 with (go_at_call 32; refine c30.mono ?_; rintro _ w1 ⟨p,b,m,hp,hb,hm,rfl,hR,b1⟩; rw [HD.out] at hR; have H1 : Hid (w.heap.size≤p∧w.heap.size≤b∧w.heap.size≤m∧Rm.Ram w1 p b m n (Rm.newB (n - 1)) ((n - 1) :: Rm.down (n - 2))∧Below w.heap.size w w1) := ⟨hp,hb,hm,hR,b1⟩; clear hp hb hm hR b1 c30)
 have c17 := Rm.alloc_some (n - 1) H1.out.2.2.2.1
 generalize ht : (2147483648+((n - 1 : Nat) : Int)*4096)=t at c17
 have HT : Hid (t=Rm.ad (n - 1)) := ht.symm
 clear ht
 go_wp2_with (go_at_call 9; refine c17.mono ?_; rintro _ w2 ⟨rfl,hR2,hf2⟩; have H2 : Hid (Rm.Ram w2 p b m n (Rm.zer (Rm.newB (n - 1)) (n - 1)) (Rm.down (n - 2))∧Rm.Fra p b m w1 w2) := ⟨hR2,hf2⟩; clear hR2 hf2 c17)
 refine bodyPost_ret (v:=.tuple #[.pointer (some ⟨p,0,.none⟩),.int .u64 t,.bool true]) (by simp [results,Tryz.results8,go_sem]) rfl ?_
 exact ⟨p,b,m,_,H1.out.1,H1.out.2.1,H1.out.2.2.1,by rw [HT.out],H2.out.1,H1.out.2.2.2.2.trans (H2.out.2.toBelow H1.out.2.2.2.2.size H1.out.1 H1.out.2.1 H1.out.2.2.1),fun j hj => Rm.zer_in _ _ _ hj⟩
theorem byt_fp {w:World} {fp:Option Addr} {n c:Nat} {xs:List Int} (h:Byt w fp n c xs) : Fp w fp n (fun i => xs.getD i 0) := by
 obtain ⟨h1,h2,h3,h4⟩ := h
 rcases h4 with h4 | ⟨b',o',e,h5,h6⟩
 ·exact .inr h4
 ·refine .inl ⟨b',o',e,fun i hi => ?_,h5⟩
  have hx : xs[i]? = some (xs.getD i 0) := by rw [List.getD_eq_getElem?_getD,List.getElem?_eq_getElem (by omega)]; rfl
  exact h6 i _ hx
set_option maxRecDepth 10000 in
set_option maxHeartbeats 2000000 in
theorem load_refM {W:World} (v:Value) {fp:Option Addr} {fn fc:Nat} {B:Nat→Int} (hL:Laid W) (hF:Fp W fp fn B) (hB:∀ i,0≤B i∧B i<256) (hc:fn≤fc∧fc≤9223372036854775807) (ha hr:Int) (hH:Hd B ha hr)
  {p:Option Addr} {n c:Nat} {xs:List Bs} (hA:Arg W p n c xs) (tr:Int) (hne:dmE (rdF fn B ha hr).1.2 xs≠0) :
  Calls Tryz.prog 11 #[v,.slice fp fn fc,.slice p n c,.int .u64 tr,.int .u64 2147483648] W fun e w' => e = .returned (.tuple #[.pointer .none,.agg #[.int .u64 0,.int .u64 0,.int .u64 0],.int .i64 (dmE (rdF fn B ha hr).1.2 xs)])∧Below W.heap.size W w' := by
 obtain ⟨W1,hW1⟩ : ∃ W1,W1=W.alloc (.cells #[.int .u64 0,.int .u64 0,.int .u64 0] 44) := ⟨_,rfl⟩
 have b1 : Below W.heap.size W W1 := by rw [hW1]; exact (Below.refl _ _).alloc (Nat.le_refl _) _
 have k0 : W1.cell? ⟨W.heap.size,0,.none⟩=some (.int .u64 0) := by rw [hW1]; simp
 have k1 : W1.cell? ⟨W.heap.size,1,.none⟩=some (.int .u64 0) := by rw [hW1]; simp
 have k2 : W1.cell? ⟨W.heap.size,2,.none⟩=some (.int .u64 0) := by rw [hW1]; simp
 have k4 : ∀ i,W1.frozen? ⟨W.heap.size,i,.none⟩=false := fun i => by rw [hW1]; exact World.frozen?_alloc_new _ _ _ i
 have hF1 : Fp W1 fp fn B := by
  rcases hF with ⟨b,o,e,h1,h2⟩ | h
  ·exact .inl ⟨b,o,e,h1.keep b1,Nat.lt_of_lt_of_le h2 b1.size⟩
  ·exact .inr h
 have cP := planF_any (hL.below b1) hF1 hB hc ha hr hH (hA.below b1)
 have HU : Hid (True∧Below W.heap.size W W1 ∧ ∀ i,W1.frozen? ⟨W.heap.size,i,.none⟩=false) := ⟨trivial,b1,k4⟩
 generalize (rdF fn B ha hr).1.2=r at cP hne ⊢
 generalize sgO fn B ha hr=Sg' at cP
 generalize enO fn B ha hr=en9 at cP
 clear hL hF hB hH hA b1 k4 hF1
 unfold PlP at cP
 obtain ⟨x,hx⟩ : ∃ x,x=W.heap.size := ⟨_,rfl⟩
 have HX : Hid (x=W.heap.size) := hx
 have h0 := hne
 clear hne
 generalize dmE r xs=d at h0 cP ⊢
 have hd : (d != 0)=true := by simpa using h0
 go_enter Tryz.func11,Tryz.ntmps11
 go_upto_region 1 with fail
 rw [← hW1,← hx]
 rw [← hx] at k0 k1 k2
 clear hW1 hx
 go_upto_region 2 with (go_at_call 40; refine cP.mono ?_; rintro _ w2 ⟨b2,h2⟩; obtain rfl : _ = _ := (by rcases h2 with ⟨_,h⟩ | ⟨h,_⟩; exact h; exact absurd h h0); have H2 : Hid (Below W1.heap.size W1 w2) := b2; clear h2 cP b2)
 obtain ⟨w3,hw3⟩ : ∃ w3,w3=w2.alloc (.cells #[.int .u64 0,.slice .none 0 0,.slice .none 0 0,.int .u64 0] 92) := ⟨_,rfl⟩
 have B3 : Hid (Below W1.heap.size W1 w3) := by rw [hw3]; exact H2.out.alloc H2.out.size _
 rw [← hw3]
 clear hw3 H2
 have l0 := (B3.out.cell (lt_of_cell k0)).trans k0
 have l1 := (B3.out.cell (lt_of_cell k1)).trans k1
 have l2 := (B3.out.cell (lt_of_cell k2)).trans k2
 have f0 : w3.frozen? ⟨x,0,.none⟩=false := (B3.out.frozen (p:=⟨x,0,.none⟩) (lt_of_cell k0)).trans (by rw [HX.out]; exact HU.out.2.2 0)
 have f1 : w3.frozen? ⟨x,1,.none⟩=false := (B3.out.frozen (p:=⟨x,1,.none⟩) (lt_of_cell k1)).trans (by rw [HX.out]; exact HU.out.2.2 1)
 have f2 : w3.frozen? ⟨x,2,.none⟩=false := (B3.out.frozen (p:=⟨x,2,.none⟩) (lt_of_cell k2)).trans (by rw [HX.out]; exact HU.out.2.2 2)
 go_wp2_with fail
 have hxw := HX.out
 refine bodyPost_ret (v:=.tuple #[.pointer .none,.agg #[.int .u64 0,.int .u64 0,.int .u64 0],.int .i64 d]) (by simp [results,Tryz.results11,go_sem,l0,l1,l2]) rfl ⟨rfl,?_⟩
 have hb := HU.out.2.1.trans (B3.out.mono HU.out.2.1.size)
 exact ((hb.setCell (by show W.heap.size≤x; omega) _).setCell (by show W.heap.size≤x; omega) _).setCell (by show W.heap.size≤x; omega) _
theorem load_20 {W:World} {p b m:Nat} {Bm:Nat→Int} (hR:Rm.Ram W p b m 20 Bm (18 :: Rm.down 17)) (hL:Laid W) (hL3:Laid3 W) (h3:2<p∧2<b∧2<m) {fb fo cq:Nat} (hF:Row W fb fo 124 smB) (hfb:fb<W.heap.size) (hc:124≤cq∧cq≤9223372036854775807) {ap:Option Addr} {an ac:Nat} {xs:List Bs} (hA:Arg W ap an ac xs) (hdm:dmE 0 xs=0) :
  Calls Tryz.prog 11 #[.pointer (some ⟨p,0,.none⟩),.slice (some ⟨fb,fo,.none⟩) 124 cq,.slice ap an ac,.int .u64 (Rm.ad 19),.int .u64 2147483648] W (LdM (Rm.oxt0 19) W p b m 20 1 18 [smG] smB xs 0) := by
 have hsg : sgO 124 smB 0 0 = [smG] := by unfold sgO; rw [smB_rd]; rfl
 have hrd : (rdF 124 smB 0 0).1.2=0 := by rw [smB_rd]
 have hen : enO 124 smB 0 0=0 := by unfold enO; rw [smB_rd]; kernel_rfl
 have := loadM (ox:=Rm.oxt0 19) hR (ft:=19) ⟨rfl,fun f hf => hf.elim⟩ ⟨by omega,by omega,fun h => by have h' : 19 ∈ Rm.down 18 := h; rw [Rm.down_mem] at h'; omega⟩ hL hL3 h3 hF hfb smB_bd hc hA 0 0 smB_hd hrd hdm hsg 0 hen 1 (by decide) (by omega) (by decide) (fun x hx => by
  rw [List.mem_singleton] at hx
  subst hx
  exact ⟨by decide,by decide⟩) (by rw [Rm.down_len]; decide)
 rw [Rm.down_len] at this
 exact this
end
section
open Go.RowKit Go.Shelf
structure Sg1 (x:Sg) : Prop where
 v : 0≤x.va
 p : x.va % 4096=0
 m : 1≤x.mem
 s : (x.sz:Int)≤x.mem
 e : x.va+x.mem≤1073741824
 f : x.fl=1∨x.fl=4∨x.fl=5∨x.fl=6∨x.fl=7
def Sok (S:List Sg) : Prop := ∀ (i:Nat) (x:Sg),S[i]? = some x→Sg1 x ∧ ∀ (j:Nat) (y:Sg),j<i→S[j]? = some y→y.va+y.mem≤x.va
theorem ris_ok {S:List Sg} (h:Sok S) {va:Int} (hr:ris S va=true) : ∀ (j:Nat) (y:Sg),S[j]? = some y→y.va+y.mem≤va := fun j y hy => by
 unfold ris at hr
 have hj := (List.getElem?_eq_some_iff.1 hy).1
 have hl : S.getLast? = S[S.length - 1]? := List.getLast?_eq_getElem? ..
 obtain ⟨l,hll⟩ : ∃ l,S[S.length - 1]? = some l := ⟨S[S.length - 1],List.getElem?_eq_getElem (by omega)⟩
 rw [hl,hll] at hr
 have hr2 : l.va+l.mem≤va := by simpa using hr
 by_cases e : j=S.length - 1
 ·rw [e,hll] at hy
  injection hy with hy
  rw [← hy]; exact hr2
 ·have h1 := (h _ l hll).2 j y (by omega) hy
  have h2 := (h _ l hll).1.m
  omega
theorem stp_ok {n:Nat} {B:Nat→Int} (hB:∀ i,0≤B i∧B i<256) {S:List Sg} {a:Nat} (h:Sok S) (h0:(stp n B S a).1=0) : Sok (stp n B S a).2 := by
 unfold stp at *
 split at h0
 ·rename_i c1
  rw [if_pos c1]; exact h
 rename_i c1
 rw [if_neg c1]
 split at h0
 ·simp at h0
 rename_i c2
 rw [if_neg c2]
 split at h0
 ·simp at h0
 rename_i c3
 rw [if_neg c3]
 split at h0
 ·simp at h0
 rename_i c4
 rw [if_neg c4]
 split at h0
 ·simp at h0
 rename_i c5
 rw [if_neg c5]
 have hv := (sgOf_b B hB a).1.1
 have hok : ok1 (sgOf B a).va (sgOf B a).fl (sgOf B a).sz (sgOf B a).mem=true := by simpa using c3
 have hri : ris S (sgOf B a).va=true := by simpa using c5
 have hg : Sg1 (sgOf B a) := by
  unfold ok1 mf at hok
  simp only [Bool.and_eq_true,decide_eq_true_eq,Bool.or_eq_true,beq_iff_eq] at hok
  obtain ⟨⟨⟨⟨h1,h2⟩,h3⟩,h4⟩,h5⟩ := hok
  exact ⟨hv,by omega,by omega,by omega,by omega,by omega⟩
 intro i x hx
 rcases Nat.lt_or_ge i S.length with hi | hi
 ·rw [List.getElem?_append_left hi] at hx
  refine ⟨(h i x hx).1,fun j y hj hy => ?_⟩
  rw [List.getElem?_append_left (by omega)] at hy
  exact (h i x hx).2 j y hj hy
 ·rw [List.getElem?_append_right hi] at hx
  have hi2 : i - S.length=0 := by
   have := (List.getElem?_eq_some_iff.1 hx).1
   simp at this
   omega
  rw [hi2] at hx
  simp only [List.getElem?_cons_zero,Option.some.injEq] at hx
  subst hx
  refine ⟨hg,fun j y hj hy => ?_⟩
  rw [List.getElem?_append_left (by omega)] at hy
  exact ris_ok h hri j y hy
theorem lp_ok {n:Nat} {B:Nat→Int} (hB:∀ i,0≤B i∧B i<256) : ∀ (k a:Nat) (S:List Sg),Sok S→(lp n B k a S).1.2=0→Sok (lp n B k a S).2
 | 0,a,S,h,_ => h
 | k+1,a,S,h,h0 => by
  unfold lp at *
  by_cases c : (stp n B S a).1≠0
  ·rw [if_pos c] at h0
   exact absurd h0 c
  ·rw [if_neg c] at h0 ⊢
   exact lp_ok hB k (a+56) _ (stp_ok hB h (by simpa using c)) h0
theorem rd_ok {n:Nat} {B:Nat→Int} (hB:∀ i,0≤B i∧B i<256) {ha hr:Int} (h:(rdF n B ha hr).1.2=0) (hH:Hd B ha hr) : Sok (sgO n B ha hr)∧sgO n B ha hr ≠ [] := by
 have hne := rd_some h hH
 have hs : sgO n B ha hr=(rdF n B ha hr).2 := by unfold sgO; rw [if_neg (by simpa using h)]
 rw [hs]
 refine ⟨?_,hne⟩
 unfold rdF at *
 repeat' split at hne
 all_goals first | exact absurd rfl hne | skip
 all_goals (simp only [*,if_true,if_false,ne_eq,not_true_eq_false,not_false_eq_true] at *)
 all_goals (exact lp_ok hB _ _ [] (fun i x hx => by simp at hx) (Decidable.not_not.1 (by assumption)))
theorem sok_pages {S:List Sg} (h:Sok S) (hne:S ≠ []) : ∃ e : Nat,ePg S=(e:Int)∧1≤e∧rgP S (e:Int)=6 ∧ ∀ x ∈ S,0≤x.va∧x.va+x.sz≤(e:Int)*4096 := by
 have hl : S.getLast? = S[S.length - 1]? := List.getLast?_eq_getElem? ..
 have hlen : 0<S.length := List.length_pos_iff.2 hne
 obtain ⟨l,hll⟩ : ∃ l,S[S.length - 1]? = some l := ⟨S[S.length - 1],List.getElem?_eq_getElem (by omega)⟩
 have hg := (h _ l hll).1
 have he : ePg S=(l.va+l.mem+4095) / 4096 := by unfold ePg; rw [hl,hll]
 have hend : ∀ (j:Nat) (y:Sg),S[j]? = some y→y.va+y.mem≤l.va+l.mem := fun j y hy => by
  have hj := (List.getElem?_eq_some_iff.1 hy).1
  by_cases e : j=S.length - 1
  ·rw [e,hll] at hy
   injection hy with hy
   rw [← hy]; exact Int.le_refl _
  ·have h1 := (h _ l hll).2 j y (by omega) hy
   have h2 := hg.m
   omega
 have h1 := hg.v
 have h2 := hg.m
 refine ⟨((l.va+l.mem+4095) / 4096).toNat,by rw [he]; omega,by omega,?_,fun x hx => ?_⟩
 ·refine rgP_miss fun j y hy => ?_
  have := hend j y hy
  unfold pgs
  omega
 ·obtain ⟨j,hj⟩ := List.mem_iff_getElem?.1 hx
  have h3 := hend j x hj
  have h4 := (h j x hj).1
  have h5 := h4.v
  have h6 := h4.s
  exact ⟨h5,by omega⟩
end
section
open Go.RowKit Go.Shelf Rg
set_option maxRecDepth 10000 in
set_option maxHeartbeats 4000000 in
theorem load_room {W:World} {p b m N fb fo fn fc:Nat} {Bm Bq:Nat→Int} {L1:List Nat} (hR:Rm.Ram W p b m N Bm L1) (hL:Laid W) (hL3:Laid3 W) (h3:2<p∧2<b∧2<m) (hF:Row W fb fo fn Bq) (hfb:fb<W.heap.size) (hB:∀ i,0≤Bq i∧Bq i<256) (hc:fn≤fc∧fc≤9223372036854775807)
  {ap:Option Addr} {an ac:Nat} {xs:List Bs} (hA:Arg W ap an ac xs) (ha hr:Int) (hH:Hd Bq ha hr) (hrd:(rdF fn Bq ha hr).1.2=0) (hdm:dmE 0 xs=0) {S:List Sg} (hS:sgO fn Bq ha hr=S) (en:Int) (hen:enO fn Bq ha hr=en) (tr kd:Int) (hkd:ePg S+6+(ePg S+513) / 512=kd) (hlt:(L1.length:Int)<kd) :
  Calls Tryz.prog 11 #[.pointer (some ⟨p,0,.none⟩),.slice (some ⟨fb,fo,.none⟩) fn fc,.slice ap an ac,.int .u64 tr,.int .u64 2147483648] W fun e w' => e = .returned (.tuple #[.pointer .none,.agg #[.int .u64 0,.int .u64 0,.int .u64 0],.int .i64 284])∧Below W.heap.size W w' := by
 obtain ⟨W1,hW1⟩ : ∃ W1,W1=W.alloc (.cells #[.int .u64 0,.int .u64 0,.int .u64 0] 44) := ⟨_,rfl⟩
 have b1 : Below W.heap.size W W1 := by rw [hW1]; exact (Below.refl _ _).alloc (Nat.le_refl _) _
 have k0 : W1.cell? ⟨W.heap.size,0,.none⟩=some (.int .u64 0) := by rw [hW1]; simp
 have k1 : W1.cell? ⟨W.heap.size,1,.none⟩=some (.int .u64 0) := by rw [hW1]; simp
 have k2 : W1.cell? ⟨W.heap.size,2,.none⟩=some (.int .u64 0) := by rw [hW1]; simp
 have k4 : ∀ i,W1.frozen? ⟨W.heap.size,i,.none⟩=false := fun i => by rw [hW1]; exact World.frozen?_alloc_new _ _ _ i
 have hpw : p<W.heap.size∧b<W.heap.size∧m<W.heap.size := ⟨lt_of_cell hR.mem.c0,lt_of_cell (hR.mem.cb 0 (by have := hR.mem.n1; omega)),hR.mem.mlt⟩
 have cP := planOf_any (hL.below b1) (hF.keep b1) (Nat.lt_of_lt_of_le hfb b1.size) hB hc ha hr hH (hA.below b1)
 rw [hS,hrd,hen] at cP
 unfold PlP at cP
 rw [hdm] at cP
 have HU : Hid (Rm.Ram W1 p b m N Bm L1∧Below W.heap.size W W1∧(∀ i,W1.frozen? ⟨W.heap.size,i,.none⟩=false)∧Laid3 W1) := ⟨hR.below b1,b1,k4,hL3.below b1⟩
 have hfnc : fn≤fc∧fc≤9223372036854775807 := hc
 have hapc : an≤ac∧ac≤9223372036854775807 := ⟨hA.tex.2.1,hA.tex.2.2.1⟩
 clear hR hL hL3 hF hfb b1 k4 hS hrd hdm hen hB hH hA hc
 obtain ⟨x,hx⟩ : ∃ x,x=W.heap.size := ⟨_,rfl⟩
 have HX : Hid (x=W.heap.size) := hx
 go_enter Tryz.func11,Tryz.ntmps11
 go_upto_region 1 with fail
 rw [← hW1,← hx]
 rw [← hx] at k0 k1 k2
 clear hW1 hx
 go_upto_region 2 with (go_at_call 40; refine cP.mono ?_; rintro _ w2 ⟨b2,h2⟩; rcases h2 with ⟨h,_⟩ | ⟨_,X,q,cs,E,Bq,et,pq,pn,pc,sp,rfl,sg,hE,hl8,hS,hX,hPg,hBq,he0,rfl⟩; exact absurd rfl h; clear cP)
 subst he0
 obtain ⟨gp,Rp,rfl,rfl,rfl,hgp,hRp,hpg,spn,hsp,hspn,hstk⟩ := hPg
 clear hsp hspn hstk
 have hlE : E.length≤8 := hl8
 have hE0 : E ≠ [] := hE
 have HMS : Hid (E.map (·.1)=S) := hS
 have heE : ePg (E.map (·.1))=ePg S := by rw [hS]
 have HPl : Hid (Below W1.heap.size W1 w2∧Segs w2 X (.slice q E.length cs) E Bq∧True∧W1.heap.size≤X∧W1.heap.size≤gp∧(∀ i,0≤Rp i∧Rp i<256)∧(∀ i,i<4096→w2.cell? ⟨gp,i,.none⟩=some (.int .u8 (Rp i))) ∧ ∀ i,0≤Bq i∧Bq i<256) := ⟨b2,sg,trivial,hX,hgp,hRp,hpg,hBq⟩
 clear b2 sg hE hl8 hS hX hgp hRp hpg hBq
 obtain ⟨w3,hw3⟩ : ∃ w3,w3=w2.alloc (.cells #[.int .u64 et,.slice q E.length cs,.slice (some ⟨gp,0,.none⟩) 4096 4096,.int .u64 sp] 92) := ⟨_,rfl⟩
 have b3 : Below w2.heap.size w2 w3 := by rw [hw3]; exact (Below.refl _ _).alloc (Nat.le_refl _) _
 obtain ⟨Z,hZ⟩ : ∃ Z,Z=w2.heap.size := ⟨_,rfl⟩
 have kZ : Z4M w3 Z et q E.length cs gp sp := by rw [hw3,hZ]; exact ⟨by simp,by simp,by simp,by simp⟩
 have HZ : Hid (W1.heap.size≤Z) := by rw [hZ]; exact HPl.out.1.size
 rw [← hw3,← hZ]
 have B3 : Hid (Below w2.heap.size w2 w3∧Below W1.heap.size W1 w3) := ⟨b3,HPl.out.1.trans (b3.mono HPl.out.1.size)⟩
 clear hw3 hZ b3
 have hR3 := HU.out.1.below B3.out.2
 have n1 := hR3.mem.n1
 have c25 := Rm.frames_any hR3.mem
 have hN0 : ((N:Int) == 0)=false := by simp; omega
 have HR3 : Hid (Rm.Ram w3 p b m N Bm L1) := hR3
 clear hR3
 go_upto_region 6 with (go_at_call 41; refine c25.mono ?_; rintro _ w4 ⟨rfl,e4⟩; obtain rfl : w3=w4 := e4.symm)
 have kS : Z4M w3.drew Z et q E.length cs gp sp := kZ
 refine wp_region_held_drew (S:=fun U => Z4M U Z et q E.length cs gp sp) (by kernel_rfl) kS (fun hHeld => ?_)
 refine nT 0 (.pointer (some ⟨p,0,.none⟩)) rfl ?_ (fun ww hSw => by (try dsimp only at hSw); go_simp)
 simp only [X0,X1,X2,X3,X4,X5,X6]
 refine nT 2 (.agg #[.int .u64 et,.slice q E.length cs,.slice (some ⟨gp,0,.none⟩) 4096 4096,.int .u64 sp]) rfl ?_ (fun ww hSw => by (try dsimp only at hSw); obtain ⟨q0,q1,q2,q3⟩ := hSw; go_simp)
 simp only [X0,X1,X2,X3,X4,X5,X6]
 have c10 := Rm.count_ram (HR3.out.below (Below.refl _ _).drew)
 refine wpAnyH_ready (rs:=[1]) (by kernel_rfl) (by simp) ?_
 refine AllReadyH.cons rfl (fun K hK => ?_) AllReadyH.nil
 go_simp
 go_at_call 15
 refine c10.mono ?_
 rintro _ w5 ⟨rfl,k5,rfl⟩
 refine hK.out _ _ kS (fun hHeld => ?_)
 clear hK K
 try simp only [X0,X1,X2,X3,X4,X5,X6]
 have B5 : Hid (Below w3.heap.size w3 (w3.drew.drewN k5)) := ⟨rfl,rfl,rfl,Nat.le_refl _,fun _ _ => rfl⟩
 generalize w3.drew.drewN k5=w5 at *
 have sg5 := (HPl.out.2.1.below B3.out.1).below B5.out
 have c26 := demandP_any sg5 hE0 hlE et sp (some ⟨gp,0,.none⟩) 4096 4096
 rw [heE,hkd] at c26
 clear sg5
 refine wpAnyH_ready (rs:=[3]) (by kernel_rfl) (by simp) ?_
 refine AllReadyH.cons rfl (fun K hK => ?_) AllReadyH.nil
 go_simp
 go_at_call 42
 refine c26.mono ?_
 rintro _ w6 ⟨rfl,b6⟩
 have B6 : Hid (Below w3.heap.size w3 w6) := B5.out.trans (b6.mono B5.out.size)
 have kS6 : Z4M w6 Z et q E.length cs gp sp := kZ.of (B6.out.block Z (lt_of_cell (x:=⟨Z,0,.none⟩) kZ.1))
 clear b6 c26
 refine hK.out _ _ kS6 (fun hHeld => ?_)
 clear hK K
 try simp only [X0,X1,X2,X3,X4,X5,X6]
 refine nT 4 (.bool true) rfl ?_ (fun ww hSw => by (try dsimp only at hSw); go_simp)
 simp only [X0,X1,X2,X3,X4,X5,X6]
 refine nT 5 (.bool true) rfl ?_ (fun ww hSw => by (try dsimp only at hSw); go_simp)
 simp only [X0,X1,X2,X3,X4,X5,X6]
 refine wpAnyH_done (by kernel_rfl) ?_ _
 have l0 := ((B3.out.2.trans (B6.out.mono B3.out.2.size)).cell (lt_of_cell k0)).trans k0
 have l1 := ((B3.out.2.trans (B6.out.mono B3.out.2.size)).cell (lt_of_cell k1)).trans k1
 have l2 := ((B3.out.2.trans (B6.out.mono B3.out.2.size)).cell (lt_of_cell k2)).trans k2
 have hbf := B3.out.2.trans (B6.out.mono B3.out.2.size)
 have f0 : w6.frozen? ⟨x,0,.none⟩=false := (hbf.frozen (p:=⟨x,0,.none⟩) (lt_of_cell k0)).trans (by rw [HX.out]; exact HU.out.2.2.1 0)
 have f1 : w6.frozen? ⟨x,1,.none⟩=false := (hbf.frozen (p:=⟨x,1,.none⟩) (lt_of_cell k1)).trans (by rw [HX.out]; exact HU.out.2.2.1 1)
 have f2 : w6.frozen? ⟨x,2,.none⟩=false := (hbf.frozen (p:=⟨x,2,.none⟩) (lt_of_cell k2)).trans (by rw [HX.out]; exact HU.out.2.2.1 2)
 go_wp2_with fail
 have hxw := HX.out
 refine bodyPost_ret (v:=.tuple #[.pointer .none,.agg #[.int .u64 0,.int .u64 0,.int .u64 0],.int .i64 284]) (by simp [results,Tryz.results11,go_sem,l0,l1,l2]) rfl ⟨rfl,?_⟩
 have hb := HU.out.2.1.trans (hbf.mono HU.out.2.1.size)
 exact ((hb.setCell (by show W.heap.size≤x; omega) _).setCell (by show W.heap.size≤x; omega) _).setCell (by show W.heap.size≤x; omega) _
end
section
open Go.RowKit Go.Shelf Rg
def kdS (S:List Sg) : Int := ePg S+6+(ePg S+513) / 512
def LdA (ox:Rm.Oxt) (W:World) (p b m N n:Nat) (S:List Sg) (Bq:Nat→Int) (xs:List Bs) (en dm:Int) (E:Ending) (w':World) : Prop :=
 (dm≠0∧E = .returned (.tuple #[.pointer .none,.agg #[.int .u64 0,.int .u64 0,.int .u64 0],.int .i64 dm])∧Below W.heap.size W w') ∨
 (dm=0∧(n:Int)<kdS S∧E = .returned (.tuple #[.pointer .none,.agg #[.int .u64 0,.int .u64 0,.int .u64 0],.int .i64 284])∧Below W.heap.size W w') ∨
 (dm=0∧Sok S∧S ≠ [] ∧ ∃ e : Nat,ePg S=(e:Int)∧1≤e∧e+2≤4096∧kdS S≤n∧LdM ox W p b m N e n S Bq xs en E w')
theorem load_all {ox:Rm.Oxt} {W:World} {p b m N fb fo fn fc i ft:Nat} {Bm Bq:Nat→Int} {L1:List Nat} (hR:Rm.Ram W p b m N Bm (i :: L1)) (hox:ox.ft=ft ∧ ∀ f,ox.T f→f ∉ i :: L1 ∧ ∀ j,j<4096→Bm (f*4096+j)=ox.Z (f*4096+j)) (hft:1≤ft∧ft<N∧ft ∉ i :: L1) (hL:Laid W) (hL3:Laid3 W) (h3:2<p∧2<b∧2<m) (hF:Row W fb fo fn Bq) (hfb:fb<W.heap.size) (hB:∀ i,0≤Bq i∧Bq i<256) (hc:fn≤fc∧fc≤9223372036854775807)
  {ap:Option Addr} {an ac:Nat} {xs:List Bs} (hA:Arg W ap an ac xs) (ha hr:Int) (hH:Hd Bq ha hr) (hlen:L1.length+1≤4096) :
  Calls Tryz.prog 11 #[.pointer (some ⟨p,0,.none⟩),.slice (some ⟨fb,fo,.none⟩) fn fc,.slice ap an ac,.int .u64 (Rm.ad ft),.int .u64 2147483648] W (LdA ox W p b m N (L1.length+1) (sgO fn Bq ha hr) Bq xs (enO fn Bq ha hr) (dmE (rdF fn Bq ha hr).1.2 xs)) := by
 by_cases hd : dmE (rdF fn Bq ha hr).1.2 xs=0
 ·have hr0 : (rdF fn Bq ha hr).1.2=0 := by
   by_cases c : (rdF fn Bq ha hr).1.2=0
   ·exact c
   ·unfold dmE at hd
    rw [if_pos c] at hd
    first | exact hd | omega
  have hd0 : dmE 0 xs=0 := by rw [hr0] at hd; exact hd
  obtain ⟨hs,hne⟩ := rd_ok hB hr0 hH
  obtain ⟨e,he,he1,h6,hin⟩ := sok_pages hs hne
  by_cases hk : ((L1.length+1 : Nat) : Int)<kdS (sgO fn Bq ha hr)
  ·refine (load_room hR hL hL3 h3 hF hfb hB hc hA ha hr hH hr0 hd0 rfl _ rfl _ _ rfl hk).mono ?_
   rintro E w' ⟨rfl,hb⟩
   exact .inr (.inl ⟨hd,hk,rfl,hb⟩)
  ·have hle : kdS (sgO fn Bq ha hr)≤((L1.length+1 : Nat) : Int) := by omega
   have hkd : (e:Int)+6+((e:Int)+513) / 512≤(L1.length:Int)+1 := by
    unfold kdS at hle
    rw [he] at hle
    omega
   refine (loadM hR hox hft hL hL3 h3 hF hfb hB hc hA ha hr hH hr0 hd0 rfl _ rfl e he ⟨he1,by omega⟩ h6 hin hkd).mono ?_
   intro E w' h
   exact .inr (.inr ⟨hd,hs,hne,e,he,he1,by omega,hle,h⟩)
 ·refine (load_refM _ hL (.inl ⟨_,_,rfl,hF,hfb⟩) hB hc ha hr hH hA _ hd).mono ?_
  rintro E w' ⟨rfl,hb⟩
  exact .inl ⟨hd,rfl,hb⟩
end
end Go.Proofs.YtabnipbdbnmmpaaGreatDoor
