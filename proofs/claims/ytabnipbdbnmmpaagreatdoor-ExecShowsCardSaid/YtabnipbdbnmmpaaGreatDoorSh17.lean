import Derived.Test.YtabnipbdbnmmpaaGreatDoorSh01
import Derived.Test.YtabnipbdbnmmpaaGreatDoorSh15
import Derived.Test.YtabnipbdbnmmpaaGreatDoorSh16
import Derived.Handy
set_option linter.unusedVariables false
set_option linter.unusedSimpArgs false
namespace Go.Proofs.YtabnipbdbnmmpaaGreatDoor
namespace Rm
open Go.RowKit
theorem Ram.below {w w':World} {p b m N:Nat} {B:Nat→Int} {L:List Nat} (h:Ram w p b m N B L) (k:Below w.heap.size w w') : Ram w' p b m N B L := ⟨h.mem.below k,h.nd,h.lt,h.thr⟩
theorem C6.set045 {W:World} {P:Nat} {x0 x1 x2 x3 x4 x5:Value} (h:C6 W P x0 x1 x2 x3 x4 x5) (y u v:Value) : C6 (((W.setCell ⟨P,0,.none⟩ y).setCell ⟨P,4,.none⟩ u).setCell ⟨P,5,.none⟩ v) P y x1 x2 x3 u v :=
 ⟨(World.cell?_setCell_other _ _ _ _ (by simp)).trans ((World.cell?_setCell_other _ _ _ _ (by simp)).trans (World.cell?_setCell_same' _ _ _ (by rw [h.c0]; rfl))),(World.cell?_setCell_other _ _ _ _ (by simp)).trans ((World.cell?_setCell_other _ _ _ _ (by simp)).trans ((World.cell?_setCell_other _ _ _ _ (by simp)).trans (h.c1))),(World.cell?_setCell_other _ _ _ _ (by simp)).trans ((World.cell?_setCell_other _ _ _ _ (by simp)).trans ((World.cell?_setCell_other _ _ _ _ (by simp)).trans (h.c2))),(World.cell?_setCell_other _ _ _ _ (by simp)).trans ((World.cell?_setCell_other _ _ _ _ (by simp)).trans ((World.cell?_setCell_other _ _ _ _ (by simp)).trans (h.c3))),(World.cell?_setCell_other _ _ _ _ (by simp)).trans (World.cell?_setCell_same' _ _ _ (by rw [World.cell?_setCell_other _ _ _ _ (by simp),h.c4]; rfl)),World.cell?_setCell_same' _ _ _ (by rw [World.cell?_setCell_other _ _ _ _ (by simp),World.cell?_setCell_other _ _ _ _ (by simp),h.c5]; rfl),
  by rw [World.frozen?_setCell,World.frozen?_setCell,World.frozen?_setCell]; exact h.f0,by rw [World.frozen?_setCell,World.frozen?_setCell,World.frozen?_setCell]; exact h.f1,by rw [World.frozen?_setCell,World.frozen?_setCell,World.frozen?_setCell]; exact h.f2,by rw [World.frozen?_setCell,World.frozen?_setCell,World.frozen?_setCell]; exact h.f3,by rw [World.frozen?_setCell,World.frozen?_setCell,World.frozen?_setCell]; exact h.f4,by rw [World.frozen?_setCell,World.frozen?_setCell,World.frozen?_setCell]; exact h.f5⟩
theorem C6.set145 {W:World} {P:Nat} {x0 x1 x2 x3 x4 x5:Value} (h:C6 W P x0 x1 x2 x3 x4 x5) (y u v:Value) : C6 (((W.setCell ⟨P,1,.none⟩ y).setCell ⟨P,4,.none⟩ u).setCell ⟨P,5,.none⟩ v) P x0 y x2 x3 u v :=
 ⟨(World.cell?_setCell_other _ _ _ _ (by simp)).trans ((World.cell?_setCell_other _ _ _ _ (by simp)).trans ((World.cell?_setCell_other _ _ _ _ (by simp)).trans (h.c0))),(World.cell?_setCell_other _ _ _ _ (by simp)).trans ((World.cell?_setCell_other _ _ _ _ (by simp)).trans (World.cell?_setCell_same' _ _ _ (by rw [h.c1]; rfl))),(World.cell?_setCell_other _ _ _ _ (by simp)).trans ((World.cell?_setCell_other _ _ _ _ (by simp)).trans ((World.cell?_setCell_other _ _ _ _ (by simp)).trans (h.c2))),(World.cell?_setCell_other _ _ _ _ (by simp)).trans ((World.cell?_setCell_other _ _ _ _ (by simp)).trans ((World.cell?_setCell_other _ _ _ _ (by simp)).trans (h.c3))),(World.cell?_setCell_other _ _ _ _ (by simp)).trans (World.cell?_setCell_same' _ _ _ (by rw [World.cell?_setCell_other _ _ _ _ (by simp),h.c4]; rfl)),World.cell?_setCell_same' _ _ _ (by rw [World.cell?_setCell_other _ _ _ _ (by simp),World.cell?_setCell_other _ _ _ _ (by simp),h.c5]; rfl),
  by rw [World.frozen?_setCell,World.frozen?_setCell,World.frozen?_setCell]; exact h.f0,by rw [World.frozen?_setCell,World.frozen?_setCell,World.frozen?_setCell]; exact h.f1,by rw [World.frozen?_setCell,World.frozen?_setCell,World.frozen?_setCell]; exact h.f2,by rw [World.frozen?_setCell,World.frozen?_setCell,World.frozen?_setCell]; exact h.f3,by rw [World.frozen?_setCell,World.frozen?_setCell,World.frozen?_setCell]; exact h.f4,by rw [World.frozen?_setCell,World.frozen?_setCell,World.frozen?_setCell]; exact h.f5⟩
theorem C6.set245 {W:World} {P:Nat} {x0 x1 x2 x3 x4 x5:Value} (h:C6 W P x0 x1 x2 x3 x4 x5) (y u v:Value) : C6 (((W.setCell ⟨P,2,.none⟩ y).setCell ⟨P,4,.none⟩ u).setCell ⟨P,5,.none⟩ v) P x0 x1 y x3 u v :=
 ⟨(World.cell?_setCell_other _ _ _ _ (by simp)).trans ((World.cell?_setCell_other _ _ _ _ (by simp)).trans ((World.cell?_setCell_other _ _ _ _ (by simp)).trans (h.c0))),(World.cell?_setCell_other _ _ _ _ (by simp)).trans ((World.cell?_setCell_other _ _ _ _ (by simp)).trans ((World.cell?_setCell_other _ _ _ _ (by simp)).trans (h.c1))),(World.cell?_setCell_other _ _ _ _ (by simp)).trans ((World.cell?_setCell_other _ _ _ _ (by simp)).trans (World.cell?_setCell_same' _ _ _ (by rw [h.c2]; rfl))),(World.cell?_setCell_other _ _ _ _ (by simp)).trans ((World.cell?_setCell_other _ _ _ _ (by simp)).trans ((World.cell?_setCell_other _ _ _ _ (by simp)).trans (h.c3))),(World.cell?_setCell_other _ _ _ _ (by simp)).trans (World.cell?_setCell_same' _ _ _ (by rw [World.cell?_setCell_other _ _ _ _ (by simp),h.c4]; rfl)),World.cell?_setCell_same' _ _ _ (by rw [World.cell?_setCell_other _ _ _ _ (by simp),World.cell?_setCell_other _ _ _ _ (by simp),h.c5]; rfl),
  by rw [World.frozen?_setCell,World.frozen?_setCell,World.frozen?_setCell]; exact h.f0,by rw [World.frozen?_setCell,World.frozen?_setCell,World.frozen?_setCell]; exact h.f1,by rw [World.frozen?_setCell,World.frozen?_setCell,World.frozen?_setCell]; exact h.f2,by rw [World.frozen?_setCell,World.frozen?_setCell,World.frozen?_setCell]; exact h.f3,by rw [World.frozen?_setCell,World.frozen?_setCell,World.frozen?_setCell]; exact h.f4,by rw [World.frozen?_setCell,World.frozen?_setCell,World.frozen?_setCell]; exact h.f5⟩
theorem C6.one3 {W:World} {P:Nat} {x0 x1 x2 x3 x4 x5:Value} (h:C6 W P x0 x1 x2 x3 x4 x5) (y:Value) : C6 (W.setCell ⟨P,3,.none⟩ y) P x0 x1 x2 y x4 x5 :=
 ⟨(World.cell?_setCell_other _ _ _ _ (by simp)).trans (h.c0),(World.cell?_setCell_other _ _ _ _ (by simp)).trans (h.c1),(World.cell?_setCell_other _ _ _ _ (by simp)).trans (h.c2),World.cell?_setCell_same' _ _ _ (by rw [h.c3]; rfl),(World.cell?_setCell_other _ _ _ _ (by simp)).trans (h.c4),(World.cell?_setCell_other _ _ _ _ (by simp)).trans (h.c5),
  by rw [World.frozen?_setCell]; exact h.f0,by rw [World.frozen?_setCell]; exact h.f1,by rw [World.frozen?_setCell]; exact h.f2,by rw [World.frozen?_setCell]; exact h.f3,by rw [World.frozen?_setCell]; exact h.f4,by rw [World.frozen?_setCell]; exact h.f5⟩
theorem C6.one5 {W:World} {P:Nat} {x0 x1 x2 x3 x4 x5:Value} (h:C6 W P x0 x1 x2 x3 x4 x5) (y:Value) : C6 (W.setCell ⟨P,5,.none⟩ y) P x0 x1 x2 x3 x4 y :=
 ⟨(World.cell?_setCell_other _ _ _ _ (by simp)).trans (h.c0),(World.cell?_setCell_other _ _ _ _ (by simp)).trans (h.c1),(World.cell?_setCell_other _ _ _ _ (by simp)).trans (h.c2),(World.cell?_setCell_other _ _ _ _ (by simp)).trans (h.c3),(World.cell?_setCell_other _ _ _ _ (by simp)).trans (h.c4),World.cell?_setCell_same' _ _ _ (by rw [h.c5]; rfl),
  by rw [World.frozen?_setCell]; exact h.f0,by rw [World.frozen?_setCell]; exact h.f1,by rw [World.frozen?_setCell]; exact h.f2,by rw [World.frozen?_setCell]; exact h.f3,by rw [World.frozen?_setCell]; exact h.f4,by rw [World.frozen?_setCell]; exact h.f5⟩
theorem C6.off {W:World} {P:Nat} {x0 x1 x2 x3 x4 x5:Value} (h:C6 W P x0 x1 x2 x3 x4 x5) {a:Addr} (ha:a.block≠P) (y:Value) : C6 (W.setCell a y) P x0 x1 x2 x3 x4 x5 := by
 have e : (W.setCell a y).heap[P]? = W.heap[P]? := Below.heap_setCell _ _ _ _ (fun e => ha e.symm)
 exact ⟨(World.cell?_of_block (a:=⟨P,0,.none⟩) e).trans h.c0,(World.cell?_of_block (a:=⟨P,1,.none⟩) e).trans h.c1,(World.cell?_of_block (a:=⟨P,2,.none⟩) e).trans h.c2,(World.cell?_of_block (a:=⟨P,3,.none⟩) e).trans h.c3,(World.cell?_of_block (a:=⟨P,4,.none⟩) e).trans h.c4,(World.cell?_of_block (a:=⟨P,5,.none⟩) e).trans h.c5,
  (World.frozen?_of_block (a:=⟨P,0,.none⟩) e).trans h.f0,(World.frozen?_of_block (a:=⟨P,1,.none⟩) e).trans h.f1,(World.frozen?_of_block (a:=⟨P,2,.none⟩) e).trans h.f2,(World.frozen?_of_block (a:=⟨P,3,.none⟩) e).trans h.f3,(World.frozen?_of_block (a:=⟨P,4,.none⟩) e).trans h.f4,(World.frozen?_of_block (a:=⟨P,5,.none⟩) e).trans h.f5⟩
theorem C6.drew {W:World} {P:Nat} {x0 x1 x2 x3 x4 x5:Value} (h:C6 W P x0 x1 x2 x3 x4 x5) : C6 W.drew P x0 x1 x2 x3 x4 x5 := h.below (Below.refl _ _).drew
theorem wk_stop0 {N:Nat} {L:List Nat} {B:Nat→Int} {va nd a0 a1 a2 e:Int} (h:ndB N L nd=true) : wk N L B va 0 nd a0 a1 a2 e=⟨st nd va 0,a1,a2,0,ent B nd va 0,kd (ent B nd va 0) 0⟩ := if_pos h
theorem wk_stop1 {N:Nat} {L:List Nat} {B:Nat→Int} {va nd a0 a1 a2 e:Int} (h:ndB N L nd=true) (hk:¬ kd (ent B nd va 1) 1=3) : wk N L B va 1 nd a0 a1 a2 e=⟨a0,st nd va 1,a2,1,ent B nd va 1,kd (ent B nd va 1) 1⟩ := (if_pos h).trans (if_neg hk)
theorem wk_stop2 {N:Nat} {L:List Nat} {B:Nat→Int} {va nd a0 a1 a2 e:Int} (h:ndB N L nd=true) (hk:¬ kd (ent B nd va 2) 2=3) : wk N L B va 2 nd a0 a1 a2 e=⟨a0,a1,st nd va 2,2,ent B nd va 2,kd (ent B nd va 2) 2⟩ := (if_pos h).trans (if_neg hk)
theorem wk_go1 {N:Nat} {L:List Nat} {B:Nat→Int} {va nd a0 a1 a2 e:Int} (h:ndB N L nd=true) (hk:kd (ent B nd va 1) 1=3) : wk N L B va 1 nd a0 a1 a2 e=wk N L B va 0 (adE (ent B nd va 1)) a0 (st nd va 1) a2 (ent B nd va 1) := (if_pos h).trans (if_pos hk)
theorem wk_go2 {N:Nat} {L:List Nat} {B:Nat→Int} {va nd a0 a1 a2 e:Int} (h:ndB N L nd=true) (hk:kd (ent B nd va 2) 2=3) : wk N L B va 2 nd a0 a1 a2 e=wk N L B va 1 (adE (ent B nd va 2)) a0 a1 (st nd va 2) (ent B nd va 2) := (if_pos h).trans (if_pos hk)
def WR (w:World) (N:Nat) (L:List Nat) (B:Nat→Int) (va:Int) (R:Pt) (v:Value) (W:World) : Prop := ∃ (l:Nat) (nd a0 a1 a2 e k:Int),l≤2∧v = .int .u64 nd∧0≤nd∧nd<18446744073709551616∧C6 W (w.heap.size+1+1) (.int .u64 a0) (.int .u64 a1) (.int .u64 a2) (.int .i64 l) (.int .u64 e) (.int .i64 k)∧C6 W (w.heap.size+1) (.int .u64 0) (.int .u64 0) (.int .u64 0) (.int .i64 0) (.int .u64 0) (.int .i64 0)∧Below w.heap.size w W∧wk N L B va l nd a0 a1 a2 e=R
section
variable {w:World} {p b m N:Nat} {B:Nat→Int} {L:List Nat}
set_option maxHeartbeats 4000000 in
theorem look_any (h:Ram w p b m N B L) (root va:Int) (hr:0≤root∧root<18446744073709551616) (hv:0≤va∧va<18446744073709551616) : Calls Tryz.prog 104 #[.pointer (some ⟨p,0,.none⟩),.int .u64 root,.int .u64 va,.agg #[]] w fun e w' => e = .returned (look N L B root va).val∧Below w.heap.size w w' := by
 have HR : Hid (Ram w p b m N B L) := h
 have h0 : WR w N L B va (look N L B root va) (.int .u64 root) (((w.alloc (.cells #[] 171)).alloc (.cells #[.int .u64 0,.int .u64 0,.int .u64 0,.int .i64 0,.int .u64 0,.int .i64 0] 169)).alloc (.cells #[.int .u64 0,.int .u64 0,.int .u64 0,.int .i64 2,.int .u64 0,.int .i64 0] 169)) := by
  refine ⟨2,root,0,0,0,0,0,by omega,rfl,hr.1,hr.2,?_,?_,below3 _ _ _ _,rfl⟩
  ·have := C6.new ((w.alloc (.cells #[] 171)).alloc (.cells #[.int .u64 0,.int .u64 0,.int .u64 0,.int .i64 0,.int .u64 0,.int .i64 0] 169)) (.int .u64 0) (.int .u64 0) (.int .u64 0) (.int .i64 2) (.int .u64 0) (.int .i64 0) 169
   rw [World.size_alloc,World.size_alloc] at this
   exact this
  ·have := C6.new (w.alloc (.cells #[] 171)) (.int .u64 0) (.int .u64 0) (.int .u64 0) (.int .i64 0) (.int .u64 0) (.int .i64 0) 169
   rw [World.size_alloc] at this
   exact this.below (below1 _ _)
 have H0 : Hid (WR w N L B va (look N L B root va) (.int .u64 root) _) := h0
 clear h h0
 go_enter Tryz.func104,Tryz.ntmps104
 go_wp2
 go_step3
 go_wp2
 go_step3
 go_wp2
 go_loopw [10] (fun v wr => WR w N L B va (look N L B root va) v wr) (fun v wr => match wr.cell? ⟨w.heap.size+1+1,3,.none⟩ with | some (.int _ l) => l.toNat | _ => 0)
 case atStart => exact H0.out
 case round =>
  obtain ⟨l,nd,a0,a1,a2,e,k,hl,rfl,hn0,hn1,C,CR,hb,hw⟩ := hrel
  have HC : Hid (C6 wr (w.heap.size+1+1) (.int .u64 a0) (.int .u64 a1) (.int .u64 a2) (.int .i64 l) (.int .u64 e) (.int .i64 k)) := C
  have HCR0 : Hid (C6 wr (w.heap.size+1) (.int .u64 0) (.int .u64 0) (.int .u64 0) (.int .i64 0) (.int .u64 0) (.int .i64 0)) := CR
  have HB : Hid (Below w.heap.size w wr) := hb
  have Hw : Hid (wk N L B va l nd a0 a1 a2 e=look N L B root va) := hw
  have c63 := fun W => index_any va l hv (by omega) W
  have hix := ix_b va l
  have w1 : IntKind.u64.wrap (ix va l*8)=ix va l*8 := by rw [IntKind.wrap_u64]; omega
  have R := HR.out.below hb
  obtain ⟨z0,z1,z2,z3,z4,z5,y0,y1,y2,y3,y4,y5⟩ := C
  clear CR H0
  cases hnd : ndB N L nd
  ·have hfin : look N L B root va=⟨a0,a1,a2,l,e,4⟩ := by
    rw [← Hw.out]
    cases l <;> simp [wk,hnd]
   have HF : Hid (look N L B root va=⟨a0,a1,a2,l,e,4⟩) := hfin
   have c65 := fun W => mayBeNode_any nd ⟨hn0,hn1⟩ W
   have hat : 0≤IntKind.u64.wrap (nd+ix va l*8)∧IntKind.u64.wrap (nd+ix va l*8)<18446744073709551616 := by rw [IntKind.wrap_u64]; omega
   by_cases hal : nd % 4096=0∧nd≠2147483648
   ·have w2 : IntKind.u64.wrap (nd+ix va l*8)=nd+ix va l*8 := by rw [IntKind.wrap_u64]; omega
    have c64 := load_nd_no R nd va l ⟨hn0,hn1⟩ hnd hal.1 hal.2
    clear R hfin hw hb hnd hat
    generalize ix va l=ii at *
    go_upto_region 6 with (first | (go_at_call 151; refine (c63 _).mono ?_; rintro r wr ⟨rfl,rfl⟩) | (go_at_call 152; refine c64.mono ?_; rintro r V1 ⟨rfl,hb1⟩))
    have C1 := HC.out.below hb1
    have HCR1 := HCR0.out.below hb1
    have hbw := HB.out.trans (hb1.mono HB.out.size)
    have HCL : Hid (C6 (V1.setCell ⟨w.heap.size+1+1,5,.none⟩ (.int .i64 4)) (w.heap.size+1+1) (.int .u64 a0) (.int .u64 a1) (.int .u64 a2) (.int .i64 l) (.int .u64 e) (.int .i64 4)) := C1.one5 _
    have HCR : Hid (C6 (V1.setCell ⟨w.heap.size+1+1,5,.none⟩ (.int .i64 4)) (w.heap.size+1) (.int .u64 0) (.int .u64 0) (.int .u64 0) (.int .i64 0) (.int .u64 0) (.int .i64 0)) := HCR1.off (a:=⟨w.heap.size+1+1,5,.none⟩) (by simp) _
    have HBV : Hid (Below w.heap.size w (V1.setCell ⟨w.heap.size+1+1,5,.none⟩ (.int .i64 4))) := hbw.setCell (p:=⟨w.heap.size+1+1,5,.none⟩) (by show w.heap.size≤w.heap.size+1+1; omega) _
    clear z0 z1 z2 z3 z4 z5 y0 y1 y2 y3 y4 y5 hb1 HCR1 hbw
    obtain ⟨z0,z1,z2,z3,z4,z5,y0,y1,y2,y3,y4,y5⟩ := C1
    go_upto_region 12 with fail
    clear z0 z1 z2 z3 z4 z5 y0 y1 y2 y3 y4 y5
    generalize V1.setCell ⟨w.heap.size+1+1,5,.none⟩ (.int .i64 4)=V3 at *
    obtain ⟨z0,z1,z2,z3,z4,z5,y0,y1,y2,y3,y4,y5⟩ := id HCL.out
    obtain ⟨r0,r1,r2,r3,r4,r5,s0,s1,s2,s3,s4,s5⟩ := id HCR.out
    go_wp2
    have CF := HCR.out.set (.int .u64 a0) (.int .u64 a1) (.int .u64 a2) (.int .i64 l) (.int .u64 e) (.int .i64 4)
    have BF := below6 (P:=w.heap.size+1) HBV.out (by omega) (.int .u64 a0) (.int .u64 a1) (.int .u64 a2) (.int .i64 l) (.int .u64 e) (.int .i64 4)
    generalize ((((((V3.setCell ⟨w.heap.size+1,0,.none⟩ (.int .u64 a0)).setCell ⟨w.heap.size+1,1,.none⟩ (.int .u64 a1)).setCell ⟨w.heap.size+1,2,.none⟩ (.int .u64 a2)).setCell ⟨w.heap.size+1,3,.none⟩ (.int .i64 l)).setCell ⟨w.heap.size+1,4,.none⟩ (.int .u64 e)).setCell ⟨w.heap.size+1,5,.none⟩ (.int .i64 4))=VF at *
    obtain ⟨f0,f1,f2,f3,f4,f5,_,_,_,_,_,_⟩ := CF
    rw [Exit.noGoto_ret]
    refine bodyPost_ret (v:=.agg #[.int .u64 a0,.int .u64 a1,.int .u64 a2,.int .i64 l,.int .u64 e,.int .i64 4]) (by simp [results,Tryz.results104,go_sem,f0,f1,f2,f3,f4,f5]) rfl ⟨?_,BF⟩
    rw [HF.out]
    rfl
   ·have mb : decide (nd % 4096=0∧nd≠2147483648)=false := by simpa using hal
    rw [mb] at c65
    have c64 := load_any R _ hat
    clear R hfin hw hb hnd hat mb hal
    generalize ix va l=ii at *
    go_upto_region 5 with (first | (go_at_call 151; refine (c63 _).mono ?_; rintro r wr ⟨rfl,rfl⟩) | (go_at_call 152; refine c64.mono ?_; rintro r V1 ⟨⟨x,ok,rfl,hx0,hx1⟩,hb1⟩))
    cases ok
    ·go_upto_region 6 with fail
     have C1 := HC.out.below hb1
     have HCR1 := HCR0.out.below hb1
     have hbw := HB.out.trans (hb1.mono HB.out.size)
     have HCL : Hid (C6 (V1.setCell ⟨w.heap.size+1+1,5,.none⟩ (.int .i64 4)) (w.heap.size+1+1) (.int .u64 a0) (.int .u64 a1) (.int .u64 a2) (.int .i64 l) (.int .u64 e) (.int .i64 4)) := C1.one5 _
     have HCR : Hid (C6 (V1.setCell ⟨w.heap.size+1+1,5,.none⟩ (.int .i64 4)) (w.heap.size+1) (.int .u64 0) (.int .u64 0) (.int .u64 0) (.int .i64 0) (.int .u64 0) (.int .i64 0)) := HCR1.off (a:=⟨w.heap.size+1+1,5,.none⟩) (by simp) _
     have HBV : Hid (Below w.heap.size w (V1.setCell ⟨w.heap.size+1+1,5,.none⟩ (.int .i64 4))) := hbw.setCell (p:=⟨w.heap.size+1+1,5,.none⟩) (by show w.heap.size≤w.heap.size+1+1; omega) _
     clear z0 z1 z2 z3 z4 z5 y0 y1 y2 y3 y4 y5 hb1 HCR1 hbw
     obtain ⟨z0,z1,z2,z3,z4,z5,y0,y1,y2,y3,y4,y5⟩ := C1
     go_upto_region 12 with fail
     clear z0 z1 z2 z3 z4 z5 y0 y1 y2 y3 y4 y5
     generalize V1.setCell ⟨w.heap.size+1+1,5,.none⟩ (.int .i64 4)=V3 at *
     obtain ⟨z0,z1,z2,z3,z4,z5,y0,y1,y2,y3,y4,y5⟩ := id HCL.out
     obtain ⟨r0,r1,r2,r3,r4,r5,s0,s1,s2,s3,s4,s5⟩ := id HCR.out
     go_wp2
     have CF := HCR.out.set (.int .u64 a0) (.int .u64 a1) (.int .u64 a2) (.int .i64 l) (.int .u64 e) (.int .i64 4)
     have BF := below6 (P:=w.heap.size+1) HBV.out (by omega) (.int .u64 a0) (.int .u64 a1) (.int .u64 a2) (.int .i64 l) (.int .u64 e) (.int .i64 4)
     generalize ((((((V3.setCell ⟨w.heap.size+1,0,.none⟩ (.int .u64 a0)).setCell ⟨w.heap.size+1,1,.none⟩ (.int .u64 a1)).setCell ⟨w.heap.size+1,2,.none⟩ (.int .u64 a2)).setCell ⟨w.heap.size+1,3,.none⟩ (.int .i64 l)).setCell ⟨w.heap.size+1,4,.none⟩ (.int .u64 e)).setCell ⟨w.heap.size+1,5,.none⟩ (.int .i64 4))=VF at *
     obtain ⟨f0,f1,f2,f3,f4,f5,_,_,_,_,_,_⟩ := CF
     rw [Exit.noGoto_ret]
     refine bodyPost_ret (v:=.agg #[.int .u64 a0,.int .u64 a1,.int .u64 a2,.int .i64 l,.int .u64 e,.int .i64 4]) (by simp [results,Tryz.results104,go_sem,f0,f1,f2,f3,f4,f5]) rfl ⟨?_,BF⟩
     rw [HF.out]
     rfl
    ·go_upto_region 6 with (first | (go_at_call 153; refine (c65 _).mono ?_; rintro r V1 ⟨rfl,rfl⟩))
     have C1 := HC.out.below hb1
     have HCR1 := HCR0.out.below hb1
     have hbw := HB.out.trans (hb1.mono HB.out.size)
     have HCL : Hid (C6 (V1.setCell ⟨w.heap.size+1+1,5,.none⟩ (.int .i64 4)) (w.heap.size+1+1) (.int .u64 a0) (.int .u64 a1) (.int .u64 a2) (.int .i64 l) (.int .u64 e) (.int .i64 4)) := C1.one5 _
     have HCR : Hid (C6 (V1.setCell ⟨w.heap.size+1+1,5,.none⟩ (.int .i64 4)) (w.heap.size+1) (.int .u64 0) (.int .u64 0) (.int .u64 0) (.int .i64 0) (.int .u64 0) (.int .i64 0)) := HCR1.off (a:=⟨w.heap.size+1+1,5,.none⟩) (by simp) _
     have HBV : Hid (Below w.heap.size w (V1.setCell ⟨w.heap.size+1+1,5,.none⟩ (.int .i64 4))) := hbw.setCell (p:=⟨w.heap.size+1+1,5,.none⟩) (by show w.heap.size≤w.heap.size+1+1; omega) _
     clear z0 z1 z2 z3 z4 z5 y0 y1 y2 y3 y4 y5 hb1 HCR1 hbw
     obtain ⟨z0,z1,z2,z3,z4,z5,y0,y1,y2,y3,y4,y5⟩ := C1
     go_upto_region 12 with fail
     clear z0 z1 z2 z3 z4 z5 y0 y1 y2 y3 y4 y5
     generalize V1.setCell ⟨w.heap.size+1+1,5,.none⟩ (.int .i64 4)=V3 at *
     obtain ⟨z0,z1,z2,z3,z4,z5,y0,y1,y2,y3,y4,y5⟩ := id HCL.out
     obtain ⟨r0,r1,r2,r3,r4,r5,s0,s1,s2,s3,s4,s5⟩ := id HCR.out
     go_wp2
     have CF := HCR.out.set (.int .u64 a0) (.int .u64 a1) (.int .u64 a2) (.int .i64 l) (.int .u64 e) (.int .i64 4)
     have BF := below6 (P:=w.heap.size+1) HBV.out (by omega) (.int .u64 a0) (.int .u64 a1) (.int .u64 a2) (.int .i64 l) (.int .u64 e) (.int .i64 4)
     generalize ((((((V3.setCell ⟨w.heap.size+1,0,.none⟩ (.int .u64 a0)).setCell ⟨w.heap.size+1,1,.none⟩ (.int .u64 a1)).setCell ⟨w.heap.size+1,2,.none⟩ (.int .u64 a2)).setCell ⟨w.heap.size+1,3,.none⟩ (.int .i64 l)).setCell ⟨w.heap.size+1,4,.none⟩ (.int .u64 e)).setCell ⟨w.heap.size+1,5,.none⟩ (.int .i64 4))=VF at *
     obtain ⟨f0,f1,f2,f3,f4,f5,_,_,_,_,_,_⟩ := CF
     rw [Exit.noGoto_ret]
     refine bodyPost_ret (v:=.agg #[.int .u64 a0,.int .u64 a1,.int .u64 a2,.int .i64 l,.int .u64 e,.int .i64 4]) (by simp [results,Tryz.results104,go_sem,f0,f1,f2,f3,f4,f5]) rfl ⟨?_,BF⟩
     rw [HF.out]
     rfl
  ·obtain ⟨q1,q2,q3,q4⟩ := ndB_spec hnd
   have n2 := HR.out.mem.n2
   have w2 : IntKind.u64.wrap (nd+ix va l*8)=nd+ix va l*8 := by rw [IntKind.wrap_u64]; omega
   have c64 := load_nd R nd va l hnd
   have c65 := fun W => mayBeNode_any nd ⟨hn0,hn1⟩ W
   have mb : decide (nd % 4096=0∧nd≠2147483648)=true := by simp; omega
   rw [mb] at c65
   have he := ent_b HR.out.mem.bb nd va l
   have c66 := fun W => kind_any (ent B nd va l) l he (by omega) W
   have c46 := fun W => address_any (ent B nd va l) W he
   have Hnd : Hid (ndB N L nd=true) := hnd
   clear mb q1 q2 q3 q4 hw hb R hnd
   have ad := adE_b (ent B nd va l)
   generalize hx : ent B nd va l=x at *
   have Hx : Hid (ent B nd va l=x) := hx
   generalize hi : ix va l=ii at *
   have Hi : Hid (ix va l=ii) := hi
   generalize hkk : kd x l=kx at *
   have Hk : Hid (kd x l=kx) := hkk
   generalize hay : adE x=ax at *
   have Ha : Hid (adE x=ax) := hay
   clear hx hi hkk hay
   have hl3 : l=0∨l=1∨l=2 := by omega
   rcases hl3 with rfl | rfl | rfl
   ·go_upto_region 8 with (first | (go_at_call 151; refine (c63 _).mono ?_; rintro r wr ⟨rfl,rfl⟩) | (go_at_call 152; refine c64.mono ?_; rintro r V1 ⟨rfl,hb1⟩; have C1 := HC.out.below hb1; clear z0 z1 z2 z3 z4 z5 y0 y1 y2 y3 y4 y5 c64; obtain ⟨z0,z1,z2,z3,z4,z5,y0,y1,y2,y3,y4,y5⟩ := C1; have HB1 : Hid (Below wr.heap.size wr V1) := hb1; clear hb1) | (go_at_call 153; refine (c65 _).mono ?_; rintro r V1 ⟨rfl,rfl⟩) | (go_at_call 242; refine (meet_any _ _ _ _).mono ?_; rintro r w0 ⟨rfl,rfl⟩))
    have bV := below1 V1 (.cells #[] 171)
    have bW := HB1.out.trans (bV.mono HB1.out.size)
    have C2 : C6 (V1.alloc (.cells #[] 171)) (w.heap.size+1+1) (.int .u64 a0) (.int .u64 a1) (.int .u64 a2) (.int .i64 0) (.int .u64 e) (.int .i64 k) := C6.below ⟨z0,z1,z2,z3,z4,z5,y0,y1,y2,y3,y4,y5⟩ bV
    have HCR2 : Hid (C6 (V1.alloc (.cells #[] 171)) (w.heap.size+1) (.int .u64 0) (.int .u64 0) (.int .u64 0) (.int .i64 0) (.int .u64 0) (.int .i64 0)) := HCR0.out.below bW
    have HB2 : Hid (Below w.heap.size w (V1.alloc (.cells #[] 171))) := HB.out.trans (bW.mono HB.out.size)
    clear bV bW HB1 z0 z1 z2 z3 z4 z5 y0 y1 y2 y3 y4 y5
    generalize V1.alloc (.cells #[] 171)=V2 at *
    have HC2 : Hid (C6 V2 (w.heap.size+1+1) (.int .u64 a0) (.int .u64 a1) (.int .u64 a2) (.int .i64 0) (.int .u64 e) (.int .i64 k)) := C2
    obtain ⟨z0,z1,z2,z3,z4,z5,y0,y1,y2,y3,y4,y5⟩ := C2
    have t1 : (V2.setCell ⟨w.heap.size+1+1,0,.none⟩ (.int .u64 (nd+ii*8))).drew.cell? ⟨w.heap.size+1+1,3,.none⟩=some (.int .i64 0) := (World.cell?_setCell_other _ _ _ _ (by simp)).trans z3
    have t2 : ((V2.setCell ⟨w.heap.size+1+1,0,.none⟩ (.int .u64 (nd+ii*8))).setCell ⟨w.heap.size+1+1,4,.none⟩ (.int .u64 x)).drew.cell? ⟨w.heap.size+1+1,3,.none⟩=some (.int .i64 0) := (World.cell?_setCell_other _ _ _ _ (by simp)).trans t1
    have t3 : (((V2.setCell ⟨w.heap.size+1+1,0,.none⟩ (.int .u64 (nd+ii*8))).setCell ⟨w.heap.size+1+1,4,.none⟩ (.int .u64 x)).setCell ⟨w.heap.size+1+1,5,.none⟩ (.int .i64 kx)).drew.cell? ⟨w.heap.size+1+1,3,.none⟩=some (.int .i64 0) := (World.cell?_setCell_other _ _ _ _ (by simp)).trans t2
    go_region_held3 (fun W => W.cell? ⟨w.heap.size+1+1,3,.none⟩=some (.int .i64 0)) (first | assumption) (first | (go_at_call 154; refine (c66 _).mono ?_; rintro r V2 ⟨rfl,rfl⟩))
    have C3 : C6 (((V2.setCell ⟨w.heap.size+1+1,0,.none⟩ (.int .u64 (nd+ii*8))).setCell ⟨w.heap.size+1+1,4,.none⟩ (.int .u64 x)).setCell ⟨w.heap.size+1+1,5,.none⟩ (.int .i64 kx)).drew (w.heap.size+1+1) (.int .u64 (nd+ii*8)) (.int .u64 a1) (.int .u64 a2) (.int .i64 0) (.int .u64 x) (.int .i64 kx) := (HC2.out.set045 _ _ _).drew
    have HCR : Hid (C6 (((V2.setCell ⟨w.heap.size+1+1,0,.none⟩ (.int .u64 (nd+ii*8))).setCell ⟨w.heap.size+1+1,4,.none⟩ (.int .u64 x)).setCell ⟨w.heap.size+1+1,5,.none⟩ (.int .i64 kx)).drew (w.heap.size+1) (.int .u64 0) (.int .u64 0) (.int .u64 0) (.int .i64 0) (.int .u64 0) (.int .i64 0)) := (((HCR2.out.off (a:=⟨w.heap.size+1+1,0,.none⟩) (by simp) _).off (a:=⟨w.heap.size+1+1,4,.none⟩) (by simp) _).off (a:=⟨w.heap.size+1+1,5,.none⟩) (by simp) _).drew
    have HBV : Hid (Below w.heap.size w (((V2.setCell ⟨w.heap.size+1+1,0,.none⟩ (.int .u64 (nd+ii*8))).setCell ⟨w.heap.size+1+1,4,.none⟩ (.int .u64 x)).setCell ⟨w.heap.size+1+1,5,.none⟩ (.int .i64 kx)).drew) := (((HB2.out.setCell (p:=⟨w.heap.size+1+1,0,.none⟩) (by show w.heap.size≤w.heap.size+1+1; omega) _).setCell (p:=⟨w.heap.size+1+1,4,.none⟩) (by show w.heap.size≤w.heap.size+1+1; omega) _).setCell (p:=⟨w.heap.size+1+1,5,.none⟩) (by show w.heap.size≤w.heap.size+1+1; omega) _).drew
    clear t1 t2 t3 z0 z1 z2 z3 z4 z5 y0 y1 y2 y3 y4 y5 HC2 HCR2 HB2
    generalize (((V2.setCell ⟨w.heap.size+1+1,0,.none⟩ (.int .u64 (nd+ii*8))).setCell ⟨w.heap.size+1+1,4,.none⟩ (.int .u64 x)).setCell ⟨w.heap.size+1+1,5,.none⟩ (.int .i64 kx)).drew=V3 at *
    have HC3 : Hid (C6 V3 (w.heap.size+1+1) (.int .u64 (nd+ii*8)) (.int .u64 a1) (.int .u64 a2) (.int .i64 0) (.int .u64 x) (.int .i64 kx)) := C3
    obtain ⟨z0,z1,z2,z3,z4,z5,y0,y1,y2,y3,y4,y5⟩ := C3
    have hk3 : ¬ kx=3 := by rw [← Hk.out]; exact kd0 x
    obtain ⟨r0,r1,r2,r3,r4,r5,s0,s1,s2,s3,s4,s5⟩ := id HCR.out
    go_wp2
    have CF := HCR.out.set (.int .u64 (nd+ii*8)) (.int .u64 a1) (.int .u64 a2) (.int .i64 0) (.int .u64 x) (.int .i64 kx)
    have BF := below6 (P:=w.heap.size+1) HBV.out (by omega) (.int .u64 (nd+ii*8)) (.int .u64 a1) (.int .u64 a2) (.int .i64 0) (.int .u64 x) (.int .i64 kx)
    generalize ((((((V3.setCell ⟨w.heap.size+1,0,.none⟩ (.int .u64 (nd+ii*8))).setCell ⟨w.heap.size+1,1,.none⟩ (.int .u64 a1)).setCell ⟨w.heap.size+1,2,.none⟩ (.int .u64 a2)).setCell ⟨w.heap.size+1,3,.none⟩ (.int .i64 0)).setCell ⟨w.heap.size+1,4,.none⟩ (.int .u64 x)).setCell ⟨w.heap.size+1,5,.none⟩ (.int .i64 kx))=VF at *
    obtain ⟨f0,f1,f2,f3,f4,f5,_,_,_,_,_,_⟩ := CF
    rw [Exit.noGoto_ret]
    refine bodyPost_ret (v:=.agg #[.int .u64 (nd+ii*8),.int .u64 a1,.int .u64 a2,.int .i64 0,.int .u64 x,.int .i64 kx]) (by simp [results,Tryz.results104,go_sem,f0,f1,f2,f3,f4,f5]) rfl ⟨?_,BF⟩
    have e1 : ent B nd va 0=x := Hx.out
    have e2 : ix va 0=ii := Hi.out
    have e3 : kd x 0=kx := Hk.out
    rw [← Hw.out,wk_stop0 Hnd.out]
    simp only [Pt.val,e1,e3,st,e2]
   ·go_upto_region 8 with (first | (go_at_call 151; refine (c63 _).mono ?_; rintro r wr ⟨rfl,rfl⟩) | (go_at_call 152; refine c64.mono ?_; rintro r V1 ⟨rfl,hb1⟩; have C1 := HC.out.below hb1; clear z0 z1 z2 z3 z4 z5 y0 y1 y2 y3 y4 y5 c64; obtain ⟨z0,z1,z2,z3,z4,z5,y0,y1,y2,y3,y4,y5⟩ := C1; have HB1 : Hid (Below wr.heap.size wr V1) := hb1; clear hb1) | (go_at_call 153; refine (c65 _).mono ?_; rintro r V1 ⟨rfl,rfl⟩) | (go_at_call 242; refine (meet_any _ _ _ _).mono ?_; rintro r w0 ⟨rfl,rfl⟩))
    have bV := below1 V1 (.cells #[] 171)
    have bW := HB1.out.trans (bV.mono HB1.out.size)
    have C2 : C6 (V1.alloc (.cells #[] 171)) (w.heap.size+1+1) (.int .u64 a0) (.int .u64 a1) (.int .u64 a2) (.int .i64 1) (.int .u64 e) (.int .i64 k) := C6.below ⟨z0,z1,z2,z3,z4,z5,y0,y1,y2,y3,y4,y5⟩ bV
    have HCR2 : Hid (C6 (V1.alloc (.cells #[] 171)) (w.heap.size+1) (.int .u64 0) (.int .u64 0) (.int .u64 0) (.int .i64 0) (.int .u64 0) (.int .i64 0)) := HCR0.out.below bW
    have HB2 : Hid (Below w.heap.size w (V1.alloc (.cells #[] 171))) := HB.out.trans (bW.mono HB.out.size)
    clear bV bW HB1 z0 z1 z2 z3 z4 z5 y0 y1 y2 y3 y4 y5
    generalize V1.alloc (.cells #[] 171)=V2 at *
    have HC2 : Hid (C6 V2 (w.heap.size+1+1) (.int .u64 a0) (.int .u64 a1) (.int .u64 a2) (.int .i64 1) (.int .u64 e) (.int .i64 k)) := C2
    obtain ⟨z0,z1,z2,z3,z4,z5,y0,y1,y2,y3,y4,y5⟩ := C2
    have t1 : (V2.setCell ⟨w.heap.size+1+1,1,.none⟩ (.int .u64 (nd+ii*8))).drew.cell? ⟨w.heap.size+1+1,3,.none⟩=some (.int .i64 1) := (World.cell?_setCell_other _ _ _ _ (by simp)).trans z3
    have t2 : ((V2.setCell ⟨w.heap.size+1+1,1,.none⟩ (.int .u64 (nd+ii*8))).setCell ⟨w.heap.size+1+1,4,.none⟩ (.int .u64 x)).drew.cell? ⟨w.heap.size+1+1,3,.none⟩=some (.int .i64 1) := (World.cell?_setCell_other _ _ _ _ (by simp)).trans t1
    have t3 : (((V2.setCell ⟨w.heap.size+1+1,1,.none⟩ (.int .u64 (nd+ii*8))).setCell ⟨w.heap.size+1+1,4,.none⟩ (.int .u64 x)).setCell ⟨w.heap.size+1+1,5,.none⟩ (.int .i64 kx)).drew.cell? ⟨w.heap.size+1+1,3,.none⟩=some (.int .i64 1) := (World.cell?_setCell_other _ _ _ _ (by simp)).trans t2
    go_region_held3 (fun W => W.cell? ⟨w.heap.size+1+1,3,.none⟩=some (.int .i64 1)) (first | assumption) (first | (go_at_call 154; refine (c66 _).mono ?_; rintro r V2 ⟨rfl,rfl⟩))
    have C3 : C6 (((V2.setCell ⟨w.heap.size+1+1,1,.none⟩ (.int .u64 (nd+ii*8))).setCell ⟨w.heap.size+1+1,4,.none⟩ (.int .u64 x)).setCell ⟨w.heap.size+1+1,5,.none⟩ (.int .i64 kx)).drew (w.heap.size+1+1) (.int .u64 a0) (.int .u64 (nd+ii*8)) (.int .u64 a2) (.int .i64 1) (.int .u64 x) (.int .i64 kx) := (HC2.out.set145 _ _ _).drew
    have HCR : Hid (C6 (((V2.setCell ⟨w.heap.size+1+1,1,.none⟩ (.int .u64 (nd+ii*8))).setCell ⟨w.heap.size+1+1,4,.none⟩ (.int .u64 x)).setCell ⟨w.heap.size+1+1,5,.none⟩ (.int .i64 kx)).drew (w.heap.size+1) (.int .u64 0) (.int .u64 0) (.int .u64 0) (.int .i64 0) (.int .u64 0) (.int .i64 0)) := (((HCR2.out.off (a:=⟨w.heap.size+1+1,1,.none⟩) (by simp) _).off (a:=⟨w.heap.size+1+1,4,.none⟩) (by simp) _).off (a:=⟨w.heap.size+1+1,5,.none⟩) (by simp) _).drew
    have HBV : Hid (Below w.heap.size w (((V2.setCell ⟨w.heap.size+1+1,1,.none⟩ (.int .u64 (nd+ii*8))).setCell ⟨w.heap.size+1+1,4,.none⟩ (.int .u64 x)).setCell ⟨w.heap.size+1+1,5,.none⟩ (.int .i64 kx)).drew) := (((HB2.out.setCell (p:=⟨w.heap.size+1+1,1,.none⟩) (by show w.heap.size≤w.heap.size+1+1; omega) _).setCell (p:=⟨w.heap.size+1+1,4,.none⟩) (by show w.heap.size≤w.heap.size+1+1; omega) _).setCell (p:=⟨w.heap.size+1+1,5,.none⟩) (by show w.heap.size≤w.heap.size+1+1; omega) _).drew
    clear t1 t2 t3 z0 z1 z2 z3 z4 z5 y0 y1 y2 y3 y4 y5 HC2 HCR2 HB2
    generalize (((V2.setCell ⟨w.heap.size+1+1,1,.none⟩ (.int .u64 (nd+ii*8))).setCell ⟨w.heap.size+1+1,4,.none⟩ (.int .u64 x)).setCell ⟨w.heap.size+1+1,5,.none⟩ (.int .i64 kx)).drew=V3 at *
    have HC3 : Hid (C6 V3 (w.heap.size+1+1) (.int .u64 a0) (.int .u64 (nd+ii*8)) (.int .u64 a2) (.int .i64 1) (.int .u64 x) (.int .i64 kx)) := C3
    obtain ⟨z0,z1,z2,z3,z4,z5,y0,y1,y2,y3,y4,y5⟩ := C3
    by_cases hk3 : kx=3
    ·subst hk3
     have e1 : ent B nd va 1=x := Hx.out
     have e2 : ix va 1=ii := Hi.out
     have e3 : kd x 1=3 := Hk.out
     have e4 : adE x=ax := Ha.out
     have hw2 := Hw.out
     rw [wk_go1 Hnd.out (by rw [e1,e3]),e1,e4,st,e2] at hw2
     have HE : Hid (wk N L B va 0 ax a0 (nd+ii*8) a2 x=look N L B root va) := hw2
     have C9 := HC3.out.one3 (.int .i64 0)
     have HCR9 := HCR.out.off (a:=⟨w.heap.size+1+1,3,.none⟩) (by simp) (.int .i64 0)
     have HB9 := HBV.out.setCell (p:=⟨w.heap.size+1+1,3,.none⟩) (by show w.heap.size≤w.heap.size+1+1; omega) (.int .i64 0)
     have H9 : Hid (WR w N L B va (look N L B root va) (.int .u64 ax) (V3.setCell ⟨w.heap.size+1+1,3,.none⟩ (.int .i64 0))∧(V3.setCell ⟨w.heap.size+1+1,3,.none⟩ (.int .i64 0)).cell? ⟨w.heap.size+1+1,3,.none⟩=some (.int .i64 0)∧wr.cell? ⟨w.heap.size+1+1,3,.none⟩=some (.int .i64 1)) := ⟨⟨0,ax,a0,nd+ii*8,a2,x,3,by omega,rfl,ad.1,ad.2,C9,HCR9,HB9,hw2⟩,C9.c3,HC.out.c3⟩
     clear e1 e2 e3 e4 hw2 C9 HCR9 HB9
     go_wp2_with (first | (go_at_call 56; refine (c46 _).mono ?_; rintro r V3 ⟨rfl,rfl⟩) | fail)
     refine ⟨H9.out.1,?_⟩
     rw [H9.out.2.1,H9.out.2.2]
     simp
    ·skip
     obtain ⟨r0,r1,r2,r3,r4,r5,s0,s1,s2,s3,s4,s5⟩ := id HCR.out
     go_wp2
     have CF := HCR.out.set (.int .u64 a0) (.int .u64 (nd+ii*8)) (.int .u64 a2) (.int .i64 1) (.int .u64 x) (.int .i64 kx)
     have BF := below6 (P:=w.heap.size+1) HBV.out (by omega) (.int .u64 a0) (.int .u64 (nd+ii*8)) (.int .u64 a2) (.int .i64 1) (.int .u64 x) (.int .i64 kx)
     generalize ((((((V3.setCell ⟨w.heap.size+1,0,.none⟩ (.int .u64 a0)).setCell ⟨w.heap.size+1,1,.none⟩ (.int .u64 (nd+ii*8))).setCell ⟨w.heap.size+1,2,.none⟩ (.int .u64 a2)).setCell ⟨w.heap.size+1,3,.none⟩ (.int .i64 1)).setCell ⟨w.heap.size+1,4,.none⟩ (.int .u64 x)).setCell ⟨w.heap.size+1,5,.none⟩ (.int .i64 kx))=VF at *
     obtain ⟨f0,f1,f2,f3,f4,f5,_,_,_,_,_,_⟩ := CF
     rw [Exit.noGoto_ret]
     refine bodyPost_ret (v:=.agg #[.int .u64 a0,.int .u64 (nd+ii*8),.int .u64 a2,.int .i64 1,.int .u64 x,.int .i64 kx]) (by simp [results,Tryz.results104,go_sem,f0,f1,f2,f3,f4,f5]) rfl ⟨?_,BF⟩
     have e1 : ent B nd va 1=x := Hx.out
     have e2 : ix va 1=ii := Hi.out
     have e3 : kd x 1=kx := Hk.out
     rw [← Hw.out,wk_stop1 Hnd.out (by rw [e1,e3]; exact hk3)]
     simp only [Pt.val,e1,e3,st,e2]
   ·go_upto_region 8 with (first | (go_at_call 151; refine (c63 _).mono ?_; rintro r wr ⟨rfl,rfl⟩) | (go_at_call 152; refine c64.mono ?_; rintro r V1 ⟨rfl,hb1⟩; have C1 := HC.out.below hb1; clear z0 z1 z2 z3 z4 z5 y0 y1 y2 y3 y4 y5 c64; obtain ⟨z0,z1,z2,z3,z4,z5,y0,y1,y2,y3,y4,y5⟩ := C1; have HB1 : Hid (Below wr.heap.size wr V1) := hb1; clear hb1) | (go_at_call 153; refine (c65 _).mono ?_; rintro r V1 ⟨rfl,rfl⟩) | (go_at_call 242; refine (meet_any _ _ _ _).mono ?_; rintro r w0 ⟨rfl,rfl⟩))
    have bV := below1 V1 (.cells #[] 171)
    have bW := HB1.out.trans (bV.mono HB1.out.size)
    have C2 : C6 (V1.alloc (.cells #[] 171)) (w.heap.size+1+1) (.int .u64 a0) (.int .u64 a1) (.int .u64 a2) (.int .i64 2) (.int .u64 e) (.int .i64 k) := C6.below ⟨z0,z1,z2,z3,z4,z5,y0,y1,y2,y3,y4,y5⟩ bV
    have HCR2 : Hid (C6 (V1.alloc (.cells #[] 171)) (w.heap.size+1) (.int .u64 0) (.int .u64 0) (.int .u64 0) (.int .i64 0) (.int .u64 0) (.int .i64 0)) := HCR0.out.below bW
    have HB2 : Hid (Below w.heap.size w (V1.alloc (.cells #[] 171))) := HB.out.trans (bW.mono HB.out.size)
    clear bV bW HB1 z0 z1 z2 z3 z4 z5 y0 y1 y2 y3 y4 y5
    generalize V1.alloc (.cells #[] 171)=V2 at *
    have HC2 : Hid (C6 V2 (w.heap.size+1+1) (.int .u64 a0) (.int .u64 a1) (.int .u64 a2) (.int .i64 2) (.int .u64 e) (.int .i64 k)) := C2
    obtain ⟨z0,z1,z2,z3,z4,z5,y0,y1,y2,y3,y4,y5⟩ := C2
    have t1 : (V2.setCell ⟨w.heap.size+1+1,2,.none⟩ (.int .u64 (nd+ii*8))).drew.cell? ⟨w.heap.size+1+1,3,.none⟩=some (.int .i64 2) := (World.cell?_setCell_other _ _ _ _ (by simp)).trans z3
    have t2 : ((V2.setCell ⟨w.heap.size+1+1,2,.none⟩ (.int .u64 (nd+ii*8))).setCell ⟨w.heap.size+1+1,4,.none⟩ (.int .u64 x)).drew.cell? ⟨w.heap.size+1+1,3,.none⟩=some (.int .i64 2) := (World.cell?_setCell_other _ _ _ _ (by simp)).trans t1
    have t3 : (((V2.setCell ⟨w.heap.size+1+1,2,.none⟩ (.int .u64 (nd+ii*8))).setCell ⟨w.heap.size+1+1,4,.none⟩ (.int .u64 x)).setCell ⟨w.heap.size+1+1,5,.none⟩ (.int .i64 kx)).drew.cell? ⟨w.heap.size+1+1,3,.none⟩=some (.int .i64 2) := (World.cell?_setCell_other _ _ _ _ (by simp)).trans t2
    go_region_held3 (fun W => W.cell? ⟨w.heap.size+1+1,3,.none⟩=some (.int .i64 2)) (first | assumption) (first | (go_at_call 154; refine (c66 _).mono ?_; rintro r V2 ⟨rfl,rfl⟩))
    have C3 : C6 (((V2.setCell ⟨w.heap.size+1+1,2,.none⟩ (.int .u64 (nd+ii*8))).setCell ⟨w.heap.size+1+1,4,.none⟩ (.int .u64 x)).setCell ⟨w.heap.size+1+1,5,.none⟩ (.int .i64 kx)).drew (w.heap.size+1+1) (.int .u64 a0) (.int .u64 a1) (.int .u64 (nd+ii*8)) (.int .i64 2) (.int .u64 x) (.int .i64 kx) := (HC2.out.set245 _ _ _).drew
    have HCR : Hid (C6 (((V2.setCell ⟨w.heap.size+1+1,2,.none⟩ (.int .u64 (nd+ii*8))).setCell ⟨w.heap.size+1+1,4,.none⟩ (.int .u64 x)).setCell ⟨w.heap.size+1+1,5,.none⟩ (.int .i64 kx)).drew (w.heap.size+1) (.int .u64 0) (.int .u64 0) (.int .u64 0) (.int .i64 0) (.int .u64 0) (.int .i64 0)) := (((HCR2.out.off (a:=⟨w.heap.size+1+1,2,.none⟩) (by simp) _).off (a:=⟨w.heap.size+1+1,4,.none⟩) (by simp) _).off (a:=⟨w.heap.size+1+1,5,.none⟩) (by simp) _).drew
    have HBV : Hid (Below w.heap.size w (((V2.setCell ⟨w.heap.size+1+1,2,.none⟩ (.int .u64 (nd+ii*8))).setCell ⟨w.heap.size+1+1,4,.none⟩ (.int .u64 x)).setCell ⟨w.heap.size+1+1,5,.none⟩ (.int .i64 kx)).drew) := (((HB2.out.setCell (p:=⟨w.heap.size+1+1,2,.none⟩) (by show w.heap.size≤w.heap.size+1+1; omega) _).setCell (p:=⟨w.heap.size+1+1,4,.none⟩) (by show w.heap.size≤w.heap.size+1+1; omega) _).setCell (p:=⟨w.heap.size+1+1,5,.none⟩) (by show w.heap.size≤w.heap.size+1+1; omega) _).drew
    clear t1 t2 t3 z0 z1 z2 z3 z4 z5 y0 y1 y2 y3 y4 y5 HC2 HCR2 HB2
    generalize (((V2.setCell ⟨w.heap.size+1+1,2,.none⟩ (.int .u64 (nd+ii*8))).setCell ⟨w.heap.size+1+1,4,.none⟩ (.int .u64 x)).setCell ⟨w.heap.size+1+1,5,.none⟩ (.int .i64 kx)).drew=V3 at *
    have HC3 : Hid (C6 V3 (w.heap.size+1+1) (.int .u64 a0) (.int .u64 a1) (.int .u64 (nd+ii*8)) (.int .i64 2) (.int .u64 x) (.int .i64 kx)) := C3
    obtain ⟨z0,z1,z2,z3,z4,z5,y0,y1,y2,y3,y4,y5⟩ := C3
    by_cases hk3 : kx=3
    ·subst hk3
     have e1 : ent B nd va 2=x := Hx.out
     have e2 : ix va 2=ii := Hi.out
     have e3 : kd x 2=3 := Hk.out
     have e4 : adE x=ax := Ha.out
     have hw2 := Hw.out
     rw [wk_go2 Hnd.out (by rw [e1,e3]),e1,e4,st,e2] at hw2
     have HE : Hid (wk N L B va 1 ax a0 a1 (nd+ii*8) x=look N L B root va) := hw2
     have C9 := HC3.out.one3 (.int .i64 1)
     have HCR9 := HCR.out.off (a:=⟨w.heap.size+1+1,3,.none⟩) (by simp) (.int .i64 1)
     have HB9 := HBV.out.setCell (p:=⟨w.heap.size+1+1,3,.none⟩) (by show w.heap.size≤w.heap.size+1+1; omega) (.int .i64 1)
     have H9 : Hid (WR w N L B va (look N L B root va) (.int .u64 ax) (V3.setCell ⟨w.heap.size+1+1,3,.none⟩ (.int .i64 1))∧(V3.setCell ⟨w.heap.size+1+1,3,.none⟩ (.int .i64 1)).cell? ⟨w.heap.size+1+1,3,.none⟩=some (.int .i64 1)∧wr.cell? ⟨w.heap.size+1+1,3,.none⟩=some (.int .i64 2)) := ⟨⟨1,ax,a0,a1,nd+ii*8,x,3,by omega,rfl,ad.1,ad.2,C9,HCR9,HB9,hw2⟩,C9.c3,HC.out.c3⟩
     clear e1 e2 e3 e4 hw2 C9 HCR9 HB9
     go_wp2_with (first | (go_at_call 56; refine (c46 _).mono ?_; rintro r V3 ⟨rfl,rfl⟩) | fail)
     refine ⟨H9.out.1,?_⟩
     rw [H9.out.2.1,H9.out.2.2]
     simp
    ·skip
     obtain ⟨r0,r1,r2,r3,r4,r5,s0,s1,s2,s3,s4,s5⟩ := id HCR.out
     go_wp2
     have CF := HCR.out.set (.int .u64 a0) (.int .u64 a1) (.int .u64 (nd+ii*8)) (.int .i64 2) (.int .u64 x) (.int .i64 kx)
     have BF := below6 (P:=w.heap.size+1) HBV.out (by omega) (.int .u64 a0) (.int .u64 a1) (.int .u64 (nd+ii*8)) (.int .i64 2) (.int .u64 x) (.int .i64 kx)
     generalize ((((((V3.setCell ⟨w.heap.size+1,0,.none⟩ (.int .u64 a0)).setCell ⟨w.heap.size+1,1,.none⟩ (.int .u64 a1)).setCell ⟨w.heap.size+1,2,.none⟩ (.int .u64 (nd+ii*8))).setCell ⟨w.heap.size+1,3,.none⟩ (.int .i64 2)).setCell ⟨w.heap.size+1,4,.none⟩ (.int .u64 x)).setCell ⟨w.heap.size+1,5,.none⟩ (.int .i64 kx))=VF at *
     obtain ⟨f0,f1,f2,f3,f4,f5,_,_,_,_,_,_⟩ := CF
     rw [Exit.noGoto_ret]
     refine bodyPost_ret (v:=.agg #[.int .u64 a0,.int .u64 a1,.int .u64 (nd+ii*8),.int .i64 2,.int .u64 x,.int .i64 kx]) (by simp [results,Tryz.results104,go_sem,f0,f1,f2,f3,f4,f5]) rfl ⟨?_,BF⟩
     have e1 : ent B nd va 2=x := Hx.out
     have e2 : ix va 2=ii := Hi.out
     have e3 : kd x 2=kx := Hk.out
     rw [← Hw.out,wk_stop2 Hnd.out (by rw [e1,e3]; exact hk3)]
     simp only [Pt.val,e1,e3,st,e2]
end
end Rm
end Go.Proofs.YtabnipbdbnmmpaaGreatDoor
