import Derived.Test.YtabnipbdbnmmpaaGreatDoorSh01
import Derived.Test.YtabnipbdbnmmpaaGreatDoorSh41
import Derived.Test.YtabnipbdbnmmpaaGreatDoorSh40
set_option linter.unusedVariables false
set_option linter.unusedSimpArgs false
namespace Go.Proofs.YtabnipbdbnmmpaaGreatDoor
section
open Go.RowKit Go.Shelf
theorem set2' {V:World} {rs:Nat} {x y:Value} (r0:V.cell? ⟨rs,0,.none⟩=some x) (r1:V.cell? ⟨rs,1,.none⟩=some y) (a b:Value) :
  ((V.setCell ⟨rs,0,.none⟩ a).setCell ⟨rs,1,.none⟩ b).cell? ⟨rs,0,.none⟩=some a∧((V.setCell ⟨rs,0,.none⟩ a).setCell ⟨rs,1,.none⟩ b).cell? ⟨rs,1,.none⟩=some b := by
 refine ⟨?_,?_⟩
 ·rw [World.cell?_setCell_other _ _ _ _ (by simp)]
  exact World.cell?_setCell_same' _ _ _ (by rw [r0]; rfl)
 ·exact World.cell?_setCell_same' _ _ _ (by rw [World.cell?_setCell_other _ _ _ _ (by simp),r1]; rfl)
def PgB (w w':World) (pq:Option Addr) (pn pc:Nat) (at_:Int) (xs:List Bs) (spv:Int) : Prop := ∃ g,∃ R : Nat→Int,pq=some ⟨g,0,.none⟩∧pn=4096∧pc=4096∧w.heap.size≤g∧(∀ i,0≤R i∧R i<256)∧(∀ i,i<4096→w'.cell? ⟨g,i,.none⟩=some (.int .u8 (R i))) ∧ ∃ sp : Nat,spv=at_ + sp∧(stx 4096 xs - 8*(xs.length+1)) / 16*16=(sp:Int)∧StkR at_ xs R sp
def StP (w:World) (at_:Int) (xs:List Bs) (e:Ending) (w':World) : Prop := ∃ pq pn pc sp,e = .returned (.tuple #[.agg #[.slice pq pn pc,.int .u64 sp],.bool (rm xs)])∧Below w.heap.size w w'∧(rm xs=true→PgB w w' pq pn pc at_ xs sp)
set_option maxRecDepth 10000 in
set_option maxHeartbeats 2000000 in
theorem stackOf_any (w:World) (p:Option Addr) (n c:Nat) (xs:List Bs) (h:Tex w p n c xs) (hn:n≤32) (hx:∀ x ∈ xs,x.length≤400000) (at_:Int) (hat:0≤at_ ∧ at_ ≤ 2000000000) :
  Calls Tryz.prog 88 #[.int .u64 at_,.slice p n c] w (StP w at_ xs) := by
 have HT : Hid (Tex w p n c xs) := h
 have HL : Hid (xs.length=n) := h.1
 have HX : Hid (∀ x ∈ xs,x.length≤400000) := hx
 have hc : n≤c∧c≤9223372036854775807 := ⟨h.2.1,h.2.2.1⟩
 clear h hx
 obtain ⟨w2,hmk,hz2,HS0⟩ := page_new w
 go_enter Tryz.func88,Tryz.ntmps88
 go_wp2_with fail
 clear hmk
 go_loopw [9,18] (fun v k wr => ∃ i : Nat,i≤n∧k = .int .i64 i ∧ ∃ q' c' R bs,v = .slice q' (8*i) c'∧Hid (0≤stx 4096 (xs.take i)∧Sk w wr R (stx 4096 (xs.take i))∧wr.ownsRow (w.heap.size+4) 5 1 (.slice q' (8*i) c') (8*i) (by8 bs)∧U8 bs)∧Hid (StI at_ xs i R bs)) (fun _ k _ => (n - intOf k).toNat)
 case atStart => exact ⟨0,by omega,rfl,none,0,fun _ => 0,[],rfl,⟨by simp [stx],HS0.out,World.ownsRow_nil _ _ _ _,fun b hb => by simp at hb⟩,StI.zero _ _⟩
 case round =>
  obtain ⟨i,hi,rfl,q',c',R,bs,rfl,HR,HT9⟩ := hrel
  obtain ⟨pl,hpl⟩ : ∃ pl,pl=stx 4096 (xs.take i) := ⟨_,rfl⟩
  rw [← hpl] at HR
  have h0 : 0≤pl := HR.out.1
  have h1 : pl≤4096 := by rw [hpl]; exact stx_le _ _
  by_cases hlt : i<n
  ·have g0 : (i:Int)<n := by omega
   obtain ⟨b,o,x,rfl,hxi,a0⟩ := (HT.out.below HR.out.2.1.bel).at hlt
   have hxl := HX.out x (List.mem_of_getElem? hxi)
   have hnx := stx_next hxi 4096
   rw [← hpl] at hnx
   have c1 := lay_any HR.out.2.1.pgs ⟨h0,h1⟩ x hxl 1 (by omega)
   have HN : Hid (stx 4096 (xs.take (i+1))=(pl - x.length - 1) / 16*16) := hnx
   have HP : Hid (pl=stx 4096 (xs.take i)) := hpl
   have HXI : Hid (xs[i]? = some x) := hxi
   clear hnx hpl hxi
   by_cases hneg : pl - x.length - 1<0
   ·have hd : decide (0≤pl - x.length - 1)=false := by simp; omega
    unfold LyP at c1
    rw [hd] at c1
    clear hd
    go_wp2_with (go_at_call 140; refine c1.mono ?_; rintro _ w3 ⟨rfl,hP3,hL3⟩; have H3 : Hid (∃ R',Sk w w3 R' ((pl - x.length - 1) / 16*16)) := ⟨_,HR.out.2.1.laid hP3 hL3⟩; obtain ⟨R3,h3⟩ := H3.out; have r0 := h3.r0; have r1 := h3.r1; have rf0 := h3.rf 0; have rf1 := h3.rf 1; have HBL : Hid (Below w.heap.size w w3) := h3.bel; clear hP3 hL3 c1 h3)
    obtain ⟨s0,s1⟩ := set2' r0 r1 (.slice .none 0 0) (.int .u64 0)
    refine bodyPost_ret (v:=.tuple #[.agg #[.slice .none 0 0,.int .u64 0],.bool false]) (by simp [results,Tryz.results88,go_sem,s0,s1]) rfl ⟨none,0,0,0,?_,?_,fun e => by rw [rm_no (i:=i+1) (by rw [HN.out]; omega)] at e; cases e⟩
    ·rw [rm_no (i:=i+1) (by rw [HN.out]; omega)]
    ·exact (HBL.out.setCell (Nat.le_refl _) _).setCell (Nat.le_refl _) _
   ·have hd : decide (0≤pl - x.length - 1)=true := by simp; omega
    unfold LyP at c1
    rw [hd] at c1
    clear hd
    obtain ⟨y,hy⟩ : ∃ y,y=(pl - x.length - 1) / 16*16 := ⟨_,rfl⟩
    rw [← hy,if_pos (show 0≤pl - (x.length:Int) - 1 by omega)] at c1
    rw [← hy] at HN
    have hy0 : 0≤y∧y≤4096 := by omega
    have hw0 : IntKind.u64.wrap y=y := by rw [IntKind.wrap_u64]; omega
    have hw1 : IntKind.u64.wrap (at_ + y)=at_ + y := by rw [IntKind.wrap_u64]; omega
    have HY : Hid (y=(pl - x.length - 1) / 16*16) := hy
    obtain ⟨ob,ub⟩ := HR.out.2.2
    have HO : Hid (wr.ownsRow (w.heap.size+4) 5 1 (.slice q' (8*i) c') (8*i) (by8 bs)∧U8 bs) := ⟨ob,ub⟩
    clear ob ub hy
    have hneg' := hneg
    clear hneg
    go_wp2_with first | (go_at_call 140; refine c1.mono ?_; rintro _ w3 ⟨rfl,hP3,hL3⟩; have H3 : Hid (Sk w w3 (layR R y.toNat x) y) := HR.out.2.1.laid hP3 hL3; have O3 : Hid (w3.ownsRow (w.heap.size+4) 5 1 (.slice q' (8*i) c') (8*i) (by8 bs)) := own_same HO.out.1 (fun g hg => hL3.oth g (by omega) (by omega)); have r3 := H3.out.pgs.pc; clear hP3 hL3 c1) | (go_at_call 141; refine (appendA_any O3.out HO.out.2 (by have := H3.out.sz; omega) (by omega) (at_ + y) (by omega)).mono ?_; rintro _ w4 ⟨q4,c4,rfl,o4,u4,b4⟩; have H4 : Hid (Sk w w4 (layR R y.toNat x) y∧w4.ownsRow (w.heap.size+4) 5 1 (.slice q4 (8*i+8) c4) (8*i+8) (by8 (bs ++ l8 (at_ + y) 8))∧U8 (bs ++ l8 (at_ + y) 8)) := ⟨H3.out.above b4,o4,u4⟩; clear o4 u4 b4 r3)
    refine ⟨⟨i+1,by omega,rfl,q4,c4,layR R y.toNat x,bs ++ l8 (at_ + y) 8,rfl,⟨?_,?_,?_,H4.out.2.2⟩,?_⟩,by simp only [intOf]; omega⟩
    ·rw [HN.out]; omega
    ·rw [HN.out]; exact H4.out.1
    ·exact H4.out.2.1
    ·have := HT9.out.step HXI.out (y:=y.toNat) (by rw [HN.out]; omega)
     rw [show ((y.toNat:Nat) : Int)=y by omega] at this
     exact this
  ·obtain rfl : i=n := by omega
   obtain ⟨ob,ub⟩ := HR.out.2.2
   obtain ⟨t,ht,hcv,htm⟩ := conv_own ob ub
   have HTM : Hid (t.map (fun u => (u.toNat:Int))=bs) := htm
   have HST : Hid (pl=stx 4096 xs) := by show _ = _; rw [hpl,← HL.out,List.take_length]
   clear htm
   have c1 := lay_any HR.out.2.1.pgs ⟨h0,h1⟩ t (by omega) 8 (by omega)
   have hst : stx 4096 xs=pl := by rw [hpl,← HL.out,List.take_length]
   have hR : rm xs=decide (0≤pl - t.length - 8) := by
    unfold rm
    rw [hst,HL.out]
    congr 1
    apply propext
    omega
   have HR2 : Hid (rm xs=decide (0≤pl - t.length - 8)) := hR
   clear ob ub hR hst hpl
   by_cases hneg : pl - t.length - 8<0
   ·have hd : decide (0≤pl - t.length - 8)=false := by simp; omega
    unfold LyP at c1
    rw [hd] at c1 HR2
    clear hd
    go_wp2_with (go_at_call 140; refine c1.mono ?_; rintro _ w3 ⟨rfl,hP3,hL3⟩; have H3 : Hid (∃ R',Sk w w3 R' ((pl - t.length - 8) / 16*16)) := ⟨_,HR.out.2.1.laid hP3 hL3⟩; obtain ⟨R3,h3⟩ := H3.out; have r0 := h3.r0; have r1 := h3.r1; have rf0 := h3.rf 0; have rf1 := h3.rf 1; have HBL : Hid (Below w.heap.size w w3) := h3.bel; clear hP3 hL3 c1 h3)
    obtain ⟨s0,s1⟩ := set2' r0 r1 (.slice .none 0 0) (.int .u64 0)
    refine bodyPost_ret (v:=.tuple #[.agg #[.slice .none 0 0,.int .u64 0],.bool false]) (by simp [results,Tryz.results88,go_sem,s0,s1]) rfl ⟨none,0,0,0,?_,?_,fun e => by rw [HR2.out] at e; cases e⟩
    ·rw [HR2.out]
    ·exact (HBL.out.setCell (Nat.le_refl _) _).setCell (Nat.le_refl _) _
   ·have hd : decide (0≤pl - t.length - 8)=true := by simp; omega
    unfold LyP at c1
    rw [hd] at c1 HR2
    clear hd
    obtain ⟨y,hy⟩ : ∃ y,y=(pl - t.length - 8) / 16*16 := ⟨_,rfl⟩
    rw [← hy,if_pos (show 0≤pl - (t.length:Int) - 8 by omega)] at c1
    have hy0 : 0≤y∧y≤4096 := by omega
    have hw0 : IntKind.u64.wrap y=y := by rw [IntKind.wrap_u64]; omega
    have hw1 : IntKind.u64.wrap (at_ + y)=at_ + y := by rw [IntKind.wrap_u64]; omega
    have HSP : Hid (StkR at_ xs (layR R y.toNat t) y.toNat∧(stx 4096 xs - 8*(xs.length+1)) / 16*16=((y.toNat:Nat) : Int)) := by
     have e9 : (stx 4096 xs - 8*(xs.length+1)) / 16*16=((y.toNat:Nat) : Int) := by rw [← HST.out,HL.out]; omega
     have e8 := HT9.out
     rw [← HL.out] at e8
     exact ⟨e8.done HTM.out e9,e9⟩
    clear hy hneg
    go_wp2_with (go_at_call 140; refine c1.mono ?_; rintro _ w3 ⟨rfl,hP3,hL3⟩; have H3 : Hid (Sk w w3 (layR R y.toNat t) y) := HR.out.2.1.laid hP3 hL3; have r0 := H3.out.r0; have r1 := H3.out.r1; have rf0 := H3.out.rf 0; have rf1 := H3.out.rf 1; have r3 := H3.out.pgs.pc; have r4 := H3.out.pgs.pp; clear hP3 hL3 c1)
    obtain ⟨s0,s1⟩ := set2' r0 r1 (.slice (some ⟨w.heap.size+1,0,.none⟩) 4096 4096) (.int .u64 (at_ + y))
    refine bodyPost_ret (v:=.tuple #[.agg #[.slice (some ⟨w.heap.size+1,0,.none⟩) 4096 4096,.int .u64 (at_ + y)],.bool true]) (by simp [results,Tryz.results88,go_sem,s0,s1]) rfl ⟨some ⟨w.heap.size+1,0,.none⟩,4096,4096,at_ + y,?_,?_,fun _ => ?_⟩
    ·rw [HR2.out]
    ·exact (H3.out.bel.setCell (Nat.le_refl _) _).setCell (Nat.le_refl _) _
    ·obtain ⟨hR,hrow⟩ := H3.out.pgs.pg
     refine ⟨w.heap.size+1,_,rfl,rfl,rfl,by omega,hR,fun i hi => ?_,y.toNat,by omega,HSP.out.2,HSP.out.1⟩
     rw [World.cell?_setCell_other _ _ _ _ (by simp),World.cell?_setCell_other _ _ _ _ (by simp)]
     exact hrow.cell hi
end
section
open Go.RowKit Go.Shelf
end
section
open Go.RowKit
set_option maxHeartbeats 1000000 in
theorem one_any (va fl sz mem:Int) (w:World) (hv:0≤va∧va<18446744073709551616) (hf:0≤fl∧fl<4294967296) (hs:0≤sz∧sz<18446744073709551616) (hm:0≤mem∧mem<18446744073709551616) :
  Calls Tryz.prog 164 #[.int .u64 va,.int .u32 fl,.int .u64 sz,.int .u64 mem] w fun e w' => e = .returned (.bool (ok1 va fl sz mem))∧w'=w := by
 by_cases h0 : va % 4096=0
 ·by_cases h1 : va > 1073741824
  ·go_enter Tryz.func164,Tryz.ntmps164
   go_wp2
   all_goals go_ret
   all_goals exact ⟨by simp [ok1]; omega,rfl⟩
  ·by_cases h2 : mem<1
   ·go_enter Tryz.func164,Tryz.ntmps164
    go_wp2
    all_goals go_ret
    all_goals exact ⟨by simp [ok1]; omega,rfl⟩
   ·by_cases h3 : mem<sz
    ·go_enter Tryz.func164,Tryz.ntmps164
     go_wp2
     all_goals go_ret
     all_goals exact ⟨by simp [ok1]; omega,rfl⟩
    ·by_cases h4 : mem > 1073741824 - va
     ·go_enter Tryz.func164,Tryz.ntmps164
      go_wp2
      all_goals go_ret
      all_goals exact ⟨by simp [ok1]; omega,rfl⟩
     ·have q1 : decide (1≤mem)=true := by simp; omega
      have q2 : decide (sz≤mem)=true := by simp; omega
      have q3 : decide (va+mem≤1073741824)=true := by simp; omega
      have q0 : decide (va % 4096=0)=true := by simpa using h0
      have e : ok1 va fl sz mem=mf fl := by simp only [ok1,q0,q1,q2,q3,Bool.and_true,Bool.true_and]
      rw [e]
      clear q0 q1 q2 q3 e
      by_cases h : 1≤fl∧fl≤7
      ·have : fl=1∨fl=2∨fl=3∨fl=4∨fl=5∨fl=6∨fl=7 := by omega
       rcases this with rfl | rfl | rfl | rfl | rfl | rfl | rfl
       all_goals
        go_enter Tryz.func164,Tryz.ntmps164
        go_wp2
        all_goals go_ret
        all_goals exact ⟨by rfl,rfl⟩
      ·go_enter Tryz.func164,Tryz.ntmps164
       go_wp2
       all_goals go_ret
       all_goals exact ⟨by simp [mf]; omega,rfl⟩
 ·have h0' : (va % 4096 != 0)=true := by simpa using h0
  go_enter Tryz.func164,Tryz.ntmps164
  go_wp2
  all_goals go_ret
  all_goals exact ⟨by simp [ok1,h0],rfl⟩
end
section
open Go.RowKit
theorem none_any (w:World) : Calls Tryz.prog 163 #[] w fun e w' => e = .returned (.agg #[.slice .none 0 0,.int .i64 0])∧w'=w.alloc (.cells #[.slice .none 0 0,.int .i64 0] 121) := by
 go_enter Tryz.func163,Tryz.ntmps163
 go_wp2
 exact bodyPost_ret (v:=.agg #[.slice .none 0 0,.int .i64 0]) (by simp [results,Tryz.results163,go_sem]) rfl ⟨rfl,rfl⟩
def LFault (w:World) (v:Value) (a r:Int) : Prop := ∃ B,B<w.heap.size∧v = .agg #[.slice (some ⟨B,0,.none⟩) 1 1,.int .i64 r]∧w.cell? ⟨B,0,.none⟩=some (.string ramB)∧w.cell? ⟨B,1,.none⟩=some (.int .i64 a)
def RefR (w:World) (g:Value) (a r:Int) : Prop := (r≠0∧LFault w g a r)∨(r=0∧g = .agg #[.slice .none 0 0,.int .i64 0])
theorem any_any (w:World) (g:Value) (a r:Int) (h:RefR w g a r) : Calls Tryz.prog 120 #[g] w fun e w' => e = .returned (.bool (decide (r≠0)))∧Below w.heap.size w w' := by
 rcases h with ⟨h1,B,_,rfl,_⟩ | ⟨rfl,rfl⟩
 ·have h2 : (r != 0)=true := by simpa using h1
  go_enter Tryz.func120,Tryz.ntmps120
  go_wp2
  go_ret
  exact ⟨by simp [h1],(Below.refl _ _).alloc (Nat.le_refl _) _⟩
 ·go_enter Tryz.func120,Tryz.ntmps120
  go_wp2
  go_ret
  exact ⟨rfl,(Below.refl _ _).alloc (Nat.le_refl _) _⟩
end
section
open Go.RowKit
end
section
open Go.RowKit
def enO (n:Nat) (B:Nat→Int) (ha hr:Int) : Int := if (rdF n B ha hr).1.2≠0 then 0 else num B 24 8
def sgO (n:Nat) (B:Nat→Int) (ha hr:Int) : List Sg := if (rdF n B ha hr).1.2≠0 then [] else (rdF n B ha hr).2
def PO (W:World) (n:Nat) (B:Nat→Int) (ha hr:Int) (e:Ending) (w':World) : Prop := ∃ q cs E v,e = .returned (.tuple #[.agg #[.int .u64 (enO n B ha hr),.slice q E.length cs],v])∧E.map (·.1)=sgO n B ha hr∧Segs w' W.heap.size (.slice q E.length cs) E B∧E.length≤8∧(((rdF n B ha hr).1.2≠0∧FaultIn w' 0 v (rdF n B ha hr).1.1 (rdF n B ha hr).1.2)∨((rdF n B ha hr).1.2=0∧v = .nilIface))∧Below W.heap.size W w'
theorem segs_nil (w:World) (X:Nat) (B:Nat→Int) : Segs w X (.slice .none 0 0) [] B := ⟨World.ownsRow_nil _ _ _ _,fun x hx => by simp at hx,fun x hx => by simp at hx⟩
theorem readP {W:World} {b o n c:Nat} {B:Nat→Int} (hL:Laid W) (hrow:Row W b o n B) (hbW:b<W.heap.size) (hB:∀ i,0≤B i∧B i<256) (hc:n≤c∧c≤9223372036854775807) (ha hr:Int) (hH:Hd B ha hr) : Calls Tryz.prog 85 #[.slice (some ⟨b,o,.none⟩) n c] W fun e w' => PO W n B ha hr e w' := by
 refine (read_any hL hrow hbW hB hc ha hr hH).mono fun e w' h => ?_
 rcases h with ⟨h1,v,rfl,hf,hb⟩ | ⟨h1,sv,E,rfl,hE,hS,hl,hb⟩
 ·exact ⟨none,0,[],v,by unfold enO; rw [if_pos h1]; rfl,by unfold sgO; rw [if_pos h1]; rfl,segs_nil _ _ _,by simp,.inl ⟨h1,hf⟩,hb⟩
 ·obtain ⟨q,cs,rfl,_⟩ := own_form hS.own
  exact ⟨q,cs,E,_,by unfold enO; rw [if_neg (by simpa using h1)],by unfold sgO; rw [if_neg (by simpa using h1)]; exact hE,hS,hl,.inr ⟨h1,rfl⟩,hb⟩
theorem Segs.low {w:World} {X:Nat} {sv:Value} {E:List (Sg × Value)} {B:Nat→Int} (h:Segs w X sv E B) {a:Addr} (ha:a.block<X) (v:Value) : Segs (w.setCell a v) X sv E B :=
 ⟨ownsRow_setCell_below h.own ha v,fun x hx => ownsRow_setCell_below (h.dat x hx) ha v,h.gd⟩
end
end Go.Proofs.YtabnipbdbnmmpaaGreatDoor
