import Derived.Test.YtabnipbdbnmmpaaGreatDoorLd01
import Derived.Test.YtabnipbdbnmmpaaGreatDoorLd07
import Derived.Test.YtabnipbdbnmmpaaGreatDoorLd08
import Derived.Laws.StructEq
set_option linter.unusedVariables false
set_option linter.unusedSimpArgs false
set_option maxHeartbeats 8000000
namespace Go.Proofs.YtabnipbdbnmmpaaGreatDoor
namespace Rm
open Go.RowKit
def wkT (N:Nat) (L:List Nat) (B:Nat->Int) (fol:Int->Int->Bool) (va:Int):Nat->Int->Int->Int->Int->Int->Pt
 |0,nd,a0,a1,a2,e=>if ndB N L nd=true then ⟨st nd va 0,a1,a2,0,ent B nd va 0,kd (ent B nd va 0) 0⟩ else ⟨a0,a1,a2,0,e,4⟩
 |l+1,nd,a0,a1,a2,e=>if ndB N L nd=true then
   (if kd (ent B nd va (l+1:Nat)) (l+1:Nat)=3∧fol (l+1:Nat) (ent B nd va (l+1:Nat))=true then wkT N L B fol va l (adE (ent B nd va (l+1:Nat))) a0 (if l=0 then st nd va 1 else a1) (if l=1 then st nd va 2 else a2) (ent B nd va (l+1:Nat))
    else ⟨a0,if l=0 then st nd va 1 else a1,if l=1 then st nd va 2 else a2,(l+1:Nat),ent B nd va (l+1:Nat),kd (ent B nd va (l+1:Nat)) (l+1:Nat)⟩)
  else ⟨a0,a1,a2,(l+1:Nat),e,4⟩
def lookT (N:Nat) (L:List Nat) (B:Nat->Int) (fol:Int->Int->Bool) (root va:Int):Pt:=wkT N L B fol va 2 root 0 0 0 0
theorem wkT_stop0 {N:Nat} {L:List Nat} {B:Nat->Int} {fol:Int->Int->Bool} {va nd a0 a1 a2 e:Int} (h:ndB N L nd=true):wkT N L B fol va 0 nd a0 a1 a2 e=⟨st nd va 0,a1,a2,0,ent B nd va 0,kd (ent B nd va 0) 0⟩:=if_pos h
theorem wkT_stop1 {N:Nat} {L:List Nat} {B:Nat->Int} {fol:Int->Int->Bool} {va nd a0 a1 a2 e:Int} (h:ndB N L nd=true) (hk:¬ (kd (ent B nd va 1) 1=3∧fol 1 (ent B nd va 1)=true)):wkT N L B fol va 1 nd a0 a1 a2 e=⟨a0,st nd va 1,a2,1,ent B nd va 1,kd (ent B nd va 1) 1⟩:=(if_pos h).trans (if_neg hk)
theorem wkT_stop2 {N:Nat} {L:List Nat} {B:Nat->Int} {fol:Int->Int->Bool} {va nd a0 a1 a2 e:Int} (h:ndB N L nd=true) (hk:¬ (kd (ent B nd va 2) 2=3∧fol 2 (ent B nd va 2)=true)):wkT N L B fol va 2 nd a0 a1 a2 e=⟨a0,a1,st nd va 2,2,ent B nd va 2,kd (ent B nd va 2) 2⟩:=(if_pos h).trans (if_neg hk)
theorem wkT_go1 {N:Nat} {L:List Nat} {B:Nat->Int} {fol:Int->Int->Bool} {va nd a0 a1 a2 e:Int} (h:ndB N L nd=true) (hk:kd (ent B nd va 1) 1=3∧fol 1 (ent B nd va 1)=true):wkT N L B fol va 1 nd a0 a1 a2 e=wkT N L B fol va 0 (adE (ent B nd va 1)) a0 (st nd va 1) a2 (ent B nd va 1):=(if_pos h).trans (if_pos hk)
theorem wkT_go2 {N:Nat} {L:List Nat} {B:Nat->Int} {fol:Int->Int->Bool} {va nd a0 a1 a2 e:Int} (h:ndB N L nd=true) (hk:kd (ent B nd va 2) 2=3∧fol 2 (ent B nd va 2)=true):wkT N L B fol va 2 nd a0 a1 a2 e=wkT N L B fol va 1 (adE (ent B nd va 2)) a0 a1 (st nd va 2) (ent B nd va 2):=(if_pos h).trans (if_pos hk)
def WRT (w:World) (N:Nat) (L:List Nat) (B:Nat->Int) (fol:Int->Int->Bool) (va:Int) (R:Pt) (v:Value) (W:World):Prop:=∃ (l:Nat) (nd a0 a1 a2 e k:Int),l<=2∧v = .int .u64 nd∧0<=nd∧nd<18446744073709551616∧C6 W (w.heap.size+1) (.int .u64 a0) (.int .u64 a1) (.int .u64 a2) (.int .i64 l) (.int .u64 e) (.int .i64 k)∧C6 W (w.heap.size) (.int .u64 0) (.int .u64 0) (.int .u64 0) (.int .i64 0) (.int .u64 0) (.int .i64 0)∧Below w.heap.size w W∧wkT N L B fol va l nd a0 a1 a2 e=R
section
variable {w:World} {p b m N:Nat} {B:Nat->Int} {L:List Nat}
theorem walkT_any (h:Ram w p b m N B L) (fol:Int->Int->Bool) (tv:Value) (hm:∀ (l a e:Int) (W:World),(l=0∨l=1∨l=2)->0<=e∧e<18446744073709551616->Below w.heap.size w W->Calls Tryz.prog 244 #[tv,.int .i64 l,.int .u64 a,.int .u64 e] W fun r W'=>r = .returned (.tuple #[.int .u64 e,.bool (fol l e)])∧Below W.heap.size W W') (root va:Int) (hr:0<=root∧root<18446744073709551616) (hv:0<=va∧va<18446744073709551616):Calls Tryz.prog 211 #[.pointer (some ⟨p,0,.none⟩),.int .u64 root,.int .u64 va,tv] w fun e w'=>e = .returned (lookT N L B fol root va).val∧Below w.heap.size w w':=by
 have HR:Hid (Ram w p b m N B L):=h
 have HM:Hid (∀ (l a e:Int) (W:World),(l=0∨l=1∨l=2)->0<=e∧e<18446744073709551616->Below w.heap.size w W->Calls Tryz.prog 244 #[tv,.int .i64 l,.int .u64 a,.int .u64 e] W fun r W'=>r = .returned (.tuple #[.int .u64 e,.bool (fol l e)])∧Below W.heap.size W W'):=hm
 clear hm
 have h0:WRT w N L B fol va (lookT N L B fol root va) (.int .u64 root) ((w.alloc (.cells #[.int .u64 0,.int .u64 0,.int .u64 0,.int .i64 0,.int .u64 0,.int .i64 0] 169)).alloc (.cells #[.int .u64 0,.int .u64 0,.int .u64 0,.int .i64 2,.int .u64 0,.int .i64 0] 169)):=by
  refine⟨2,root,0,0,0,0,0,by omega,rfl,hr.1,hr.2,?_,?_,below2 _ _ _,rfl⟩
  ·have:=C6.new (w.alloc (.cells #[.int .u64 0,.int .u64 0,.int .u64 0,.int .i64 0,.int .u64 0,.int .i64 0] 169)) (.int .u64 0) (.int .u64 0) (.int .u64 0) (.int .i64 2) (.int .u64 0) (.int .i64 0) 169
   rw[World.size_alloc] at this
   exact this
  ·exact(C6.new w (.int .u64 0) (.int .u64 0) (.int .u64 0) (.int .i64 0) (.int .u64 0) (.int .i64 0) 169).below (below1 _ _)
 have H0:Hid (WRT w N L B fol va (lookT N L B fol root va) (.int .u64 root) _):=h0
 clear h h0
 go_enter Tryz.func211,Tryz.ntmps211
 go_wp2
 go_step3
 go_wp2
 go_step3
 go_wp2
 go_loopw [10] (fun v wr=>WRT w N L B fol va (lookT N L B fol root va) v wr) (fun v wr=>match wr.cell? ⟨w.heap.size+1,3,.none⟩ with|some (.int _ l)=>l.toNat|_=>0)
 case atStart=>exact H0.out
 case round=>
  obtain⟨l,nd,a0,a1,a2,e,k,hl,rfl,hn0,hn1,C,CR,hb,hw⟩:=hrel
  have HC:Hid (C6 wr (w.heap.size+1) (.int .u64 a0) (.int .u64 a1) (.int .u64 a2) (.int .i64 l) (.int .u64 e) (.int .i64 k)):=C
  have HCR0:Hid (C6 wr (w.heap.size) (.int .u64 0) (.int .u64 0) (.int .u64 0) (.int .i64 0) (.int .u64 0) (.int .i64 0)):=CR
  have HB:Hid (Below w.heap.size w wr):=hb
  have Hw:Hid (wkT N L B fol va l nd a0 a1 a2 e=lookT N L B fol root va):=hw
  have c63:=fun W=>index_any va l hv (by omega) W
  have hix:=ix_b va l
  have w1:IntKind.u64.wrap (ix va l*8)=ix va l*8:=by rw[IntKind.wrap_u64];omega
  have R:=HR.out.below hb
  obtain⟨z0,z1,z2,z3,z4,z5,y0,y1,y2,y3,y4,y5⟩:=C
  clear CR H0
  cases hnd:ndB N L nd
  ·have hfin:lookT N L B fol root va=⟨a0,a1,a2,l,e,4⟩:=by
    rw[<-Hw.out]
    cases l<;>simp[wkT,hnd]
   have HF:Hid (lookT N L B fol root va=⟨a0,a1,a2,l,e,4⟩):=hfin
   have c65:=fun W=>mayBeNode_any nd ⟨hn0,hn1⟩ W
   have hat:0<=IntKind.u64.wrap (nd+ix va l*8)∧IntKind.u64.wrap (nd+ix va l*8)<18446744073709551616:=by rw[IntKind.wrap_u64];omega
   by_cases hal:nd%4096=0∧nd≠2147483648
   ·have w2:IntKind.u64.wrap (nd+ix va l*8)=nd+ix va l*8:=by rw[IntKind.wrap_u64];omega
    have c64:=load_nd_no R nd va l ⟨hn0,hn1⟩ hnd hal.1 hal.2
    clear R hfin hw hb hnd hat
    generalize ix va l=ii at *
    go_upto_region 6 with(first|(go_at_call 151;refine(c63 _).mono ?_;rintro r wr ⟨rfl,rfl⟩)|(go_at_call 152;refine c64.mono ?_;rintro r V1 ⟨rfl,hb1⟩))
    have C1:=HC.out.below hb1
    have HCR1:=HCR0.out.below hb1
    have hbw:=HB.out.trans (hb1.mono HB.out.size)
    have HCL:Hid (C6 (V1.setCell ⟨w.heap.size+1,5,.none⟩ (.int .i64 4)) (w.heap.size+1) (.int .u64 a0) (.int .u64 a1) (.int .u64 a2) (.int .i64 l) (.int .u64 e) (.int .i64 4)):=C1.one5 _
    have HCR:Hid (C6 (V1.setCell ⟨w.heap.size+1,5,.none⟩ (.int .i64 4)) (w.heap.size) (.int .u64 0) (.int .u64 0) (.int .u64 0) (.int .i64 0) (.int .u64 0) (.int .i64 0)):=HCR1.off (a:=⟨w.heap.size+1,5,.none⟩) (by simp) _
    have HBV:Hid (Below w.heap.size w (V1.setCell ⟨w.heap.size+1,5,.none⟩ (.int .i64 4))):=hbw.setCell (p:=⟨w.heap.size+1,5,.none⟩) (by show w.heap.size<=w.heap.size+1;omega) _
    clear z0 z1 z2 z3 z4 z5 y0 y1 y2 y3 y4 y5 hb1 HCR1 hbw
    obtain⟨z0,z1,z2,z3,z4,z5,y0,y1,y2,y3,y4,y5⟩:=C1
    go_upto_region 12 with fail
    clear z0 z1 z2 z3 z4 z5 y0 y1 y2 y3 y4 y5
    generalize V1.setCell ⟨w.heap.size+1,5,.none⟩ (.int .i64 4)=V3 at *
    obtain⟨z0,z1,z2,z3,z4,z5,y0,y1,y2,y3,y4,y5⟩:=id HCL.out
    obtain⟨r0,r1,r2,r3,r4,r5,s0,s1,s2,s3,s4,s5⟩:=id HCR.out
    go_wp2
    have CF:=HCR.out.set (.int .u64 a0) (.int .u64 a1) (.int .u64 a2) (.int .i64 l) (.int .u64 e) (.int .i64 4)
    have BF:=below6 (P:=w.heap.size) HBV.out (by omega) (.int .u64 a0) (.int .u64 a1) (.int .u64 a2) (.int .i64 l) (.int .u64 e) (.int .i64 4)
    generalize ((((((V3.setCell ⟨w.heap.size,0,.none⟩ (.int .u64 a0)).setCell ⟨w.heap.size,1,.none⟩ (.int .u64 a1)).setCell ⟨w.heap.size,2,.none⟩ (.int .u64 a2)).setCell ⟨w.heap.size,3,.none⟩ (.int .i64 l)).setCell ⟨w.heap.size,4,.none⟩ (.int .u64 e)).setCell ⟨w.heap.size,5,.none⟩ (.int .i64 4))=VF at *
    obtain⟨f0,f1,f2,f3,f4,f5,_,_,_,_,_,_⟩:=CF
    try rw[Exit.noGoto_ret]
    refine bodyPost_ret (v:=.agg #[.int .u64 a0,.int .u64 a1,.int .u64 a2,.int .i64 l,.int .u64 e,.int .i64 4]) (by simp[results,Tryz.results211,go_sem,f0,f1,f2,f3,f4,f5]) rfl ⟨?_,BF⟩
    rw[HF.out]
    rfl
   ·have mb:decide (nd%4096=0∧nd≠2147483648)=false:=by simpa using hal
    rw[mb] at c65
    have c64:=load_any R _ hat
    clear R hfin hw hb hnd hat mb hal
    generalize ix va l=ii at *
    go_upto_region 5 with(first|(go_at_call 151;refine(c63 _).mono ?_;rintro r wr ⟨rfl,rfl⟩)|(go_at_call 152;refine c64.mono ?_;rintro r V1 ⟨⟨x,ok,rfl,hx0,hx1⟩,hb1⟩))
    cases ok
    ·go_upto_region 6 with fail
     have C1:=HC.out.below hb1
     have HCR1:=HCR0.out.below hb1
     have hbw:=HB.out.trans (hb1.mono HB.out.size)
     have HCL:Hid (C6 (V1.setCell ⟨w.heap.size+1,5,.none⟩ (.int .i64 4)) (w.heap.size+1) (.int .u64 a0) (.int .u64 a1) (.int .u64 a2) (.int .i64 l) (.int .u64 e) (.int .i64 4)):=C1.one5 _
     have HCR:Hid (C6 (V1.setCell ⟨w.heap.size+1,5,.none⟩ (.int .i64 4)) (w.heap.size) (.int .u64 0) (.int .u64 0) (.int .u64 0) (.int .i64 0) (.int .u64 0) (.int .i64 0)):=HCR1.off (a:=⟨w.heap.size+1,5,.none⟩) (by simp) _
     have HBV:Hid (Below w.heap.size w (V1.setCell ⟨w.heap.size+1,5,.none⟩ (.int .i64 4))):=hbw.setCell (p:=⟨w.heap.size+1,5,.none⟩) (by show w.heap.size<=w.heap.size+1;omega) _
     clear z0 z1 z2 z3 z4 z5 y0 y1 y2 y3 y4 y5 hb1 HCR1 hbw
     obtain⟨z0,z1,z2,z3,z4,z5,y0,y1,y2,y3,y4,y5⟩:=C1
     go_upto_region 12 with fail
     clear z0 z1 z2 z3 z4 z5 y0 y1 y2 y3 y4 y5
     generalize V1.setCell ⟨w.heap.size+1,5,.none⟩ (.int .i64 4)=V3 at *
     obtain⟨z0,z1,z2,z3,z4,z5,y0,y1,y2,y3,y4,y5⟩:=id HCL.out
     obtain⟨r0,r1,r2,r3,r4,r5,s0,s1,s2,s3,s4,s5⟩:=id HCR.out
     go_wp2
     have CF:=HCR.out.set (.int .u64 a0) (.int .u64 a1) (.int .u64 a2) (.int .i64 l) (.int .u64 e) (.int .i64 4)
     have BF:=below6 (P:=w.heap.size) HBV.out (by omega) (.int .u64 a0) (.int .u64 a1) (.int .u64 a2) (.int .i64 l) (.int .u64 e) (.int .i64 4)
     generalize ((((((V3.setCell ⟨w.heap.size,0,.none⟩ (.int .u64 a0)).setCell ⟨w.heap.size,1,.none⟩ (.int .u64 a1)).setCell ⟨w.heap.size,2,.none⟩ (.int .u64 a2)).setCell ⟨w.heap.size,3,.none⟩ (.int .i64 l)).setCell ⟨w.heap.size,4,.none⟩ (.int .u64 e)).setCell ⟨w.heap.size,5,.none⟩ (.int .i64 4))=VF at *
     obtain⟨f0,f1,f2,f3,f4,f5,_,_,_,_,_,_⟩:=CF
     try rw[Exit.noGoto_ret]
     refine bodyPost_ret (v:=.agg #[.int .u64 a0,.int .u64 a1,.int .u64 a2,.int .i64 l,.int .u64 e,.int .i64 4]) (by simp[results,Tryz.results211,go_sem,f0,f1,f2,f3,f4,f5]) rfl ⟨?_,BF⟩
     rw[HF.out]
     rfl
    ·go_upto_region 6 with(first|(go_at_call 153;refine(c65 _).mono ?_;rintro r V1 ⟨rfl,rfl⟩))
     have C1:=HC.out.below hb1
     have HCR1:=HCR0.out.below hb1
     have hbw:=HB.out.trans (hb1.mono HB.out.size)
     have HCL:Hid (C6 (V1.setCell ⟨w.heap.size+1,5,.none⟩ (.int .i64 4)) (w.heap.size+1) (.int .u64 a0) (.int .u64 a1) (.int .u64 a2) (.int .i64 l) (.int .u64 e) (.int .i64 4)):=C1.one5 _
     have HCR:Hid (C6 (V1.setCell ⟨w.heap.size+1,5,.none⟩ (.int .i64 4)) (w.heap.size) (.int .u64 0) (.int .u64 0) (.int .u64 0) (.int .i64 0) (.int .u64 0) (.int .i64 0)):=HCR1.off (a:=⟨w.heap.size+1,5,.none⟩) (by simp) _
     have HBV:Hid (Below w.heap.size w (V1.setCell ⟨w.heap.size+1,5,.none⟩ (.int .i64 4))):=hbw.setCell (p:=⟨w.heap.size+1,5,.none⟩) (by show w.heap.size<=w.heap.size+1;omega) _
     clear z0 z1 z2 z3 z4 z5 y0 y1 y2 y3 y4 y5 hb1 HCR1 hbw
     obtain⟨z0,z1,z2,z3,z4,z5,y0,y1,y2,y3,y4,y5⟩:=C1
     go_upto_region 12 with fail
     clear z0 z1 z2 z3 z4 z5 y0 y1 y2 y3 y4 y5
     generalize V1.setCell ⟨w.heap.size+1,5,.none⟩ (.int .i64 4)=V3 at *
     obtain⟨z0,z1,z2,z3,z4,z5,y0,y1,y2,y3,y4,y5⟩:=id HCL.out
     obtain⟨r0,r1,r2,r3,r4,r5,s0,s1,s2,s3,s4,s5⟩:=id HCR.out
     go_wp2
     have CF:=HCR.out.set (.int .u64 a0) (.int .u64 a1) (.int .u64 a2) (.int .i64 l) (.int .u64 e) (.int .i64 4)
     have BF:=below6 (P:=w.heap.size) HBV.out (by omega) (.int .u64 a0) (.int .u64 a1) (.int .u64 a2) (.int .i64 l) (.int .u64 e) (.int .i64 4)
     generalize ((((((V3.setCell ⟨w.heap.size,0,.none⟩ (.int .u64 a0)).setCell ⟨w.heap.size,1,.none⟩ (.int .u64 a1)).setCell ⟨w.heap.size,2,.none⟩ (.int .u64 a2)).setCell ⟨w.heap.size,3,.none⟩ (.int .i64 l)).setCell ⟨w.heap.size,4,.none⟩ (.int .u64 e)).setCell ⟨w.heap.size,5,.none⟩ (.int .i64 4))=VF at *
     obtain⟨f0,f1,f2,f3,f4,f5,_,_,_,_,_,_⟩:=CF
     try rw[Exit.noGoto_ret]
     refine bodyPost_ret (v:=.agg #[.int .u64 a0,.int .u64 a1,.int .u64 a2,.int .i64 l,.int .u64 e,.int .i64 4]) (by simp[results,Tryz.results211,go_sem,f0,f1,f2,f3,f4,f5]) rfl ⟨?_,BF⟩
     rw[HF.out]
     rfl
  ·obtain⟨q1,q2,q3,q4⟩:=ndB_spec hnd
   have n2:=HR.out.mem.n2
   have w2:IntKind.u64.wrap (nd+ix va l*8)=nd+ix va l*8:=by rw[IntKind.wrap_u64];omega
   have c64:=load_nd R nd va l hnd
   have c65:=fun W=>mayBeNode_any nd ⟨hn0,hn1⟩ W
   have mb:decide (nd%4096=0∧nd≠2147483648)=true:=by simp;omega
   rw[mb] at c65
   have he:=ent_b HR.out.mem.bb nd va l
   have c66:=fun W=>kind_any (ent B nd va l) l he (by omega) W
   have c46:=fun W=>address_any (ent B nd va l) W he
   have Hnd:Hid (ndB N L nd=true):=hnd
   clear mb q1 q2 q3 q4 hw hb R hnd
   have ad:=adE_b (ent B nd va l)
   generalize hx:ent B nd va l=x at *
   have Hx:Hid (ent B nd va l=x):=hx
   generalize hi:ix va l=ii at *
   have Hi:Hid (ix va l=ii):=hi
   generalize hkk:kd x l=kx at *
   have Hk:Hid (kd x l=kx):=hkk
   generalize hay:adE x=ax at *
   have Ha:Hid (adE x=ax):=hay
   clear hx hi hkk hay
   have hl3:l=0∨l=1∨l=2:=by omega
   rcases hl3 with rfl|rfl|rfl
   ·go_upto_region 8 with(first|(go_at_call 151;refine(c63 _).mono ?_;rintro r wr ⟨rfl,rfl⟩)|(go_at_call 152;refine c64.mono ?_;rintro r V1 ⟨rfl,hb1⟩;have C1:=HC.out.below hb1;clear z0 z1 z2 z3 z4 z5 y0 y1 y2 y3 y4 y5 c64;obtain⟨z0,z1,z2,z3,z4,z5,y0,y1,y2,y3,y4,y5⟩:=C1;have HB1:Hid (Below wr.heap.size wr V1):=hb1;clear hb1)|(go_at_call 153;refine(c65 _).mono ?_;rintro r V1 ⟨rfl,rfl⟩)|(go_at_call 244;refine(HM.out _ _ _ _ (by omega) he (HB.out.trans (HB1.out.mono HB.out.size))).mono ?_;rintro r Vm ⟨rfl,hbm⟩;have HBm:Hid (Below V1.heap.size V1 Vm):=hbm;clear hbm))
    have hfx:∃ fx,fx=fol 0 x:=⟨_,rfl⟩
    obtain⟨fx,hfx⟩:=hfx
    have Hfx:Hid (fol 0 x=fx):=hfx.symm
    rw[<-hfx]
    clear hfx
    have bV:=HBm.out
    have bW:=HB1.out.trans (bV.mono HB1.out.size)
    have C2:C6 Vm (w.heap.size+1) (.int .u64 a0) (.int .u64 a1) (.int .u64 a2) (.int .i64 0) (.int .u64 e) (.int .i64 k):=C6.below ⟨z0,z1,z2,z3,z4,z5,y0,y1,y2,y3,y4,y5⟩ bV
    have HCR2:Hid (C6 Vm (w.heap.size) (.int .u64 0) (.int .u64 0) (.int .u64 0) (.int .i64 0) (.int .u64 0) (.int .i64 0)):=HCR0.out.below bW
    have HB2:Hid (Below w.heap.size w Vm):=HB.out.trans (bW.mono HB.out.size)
    clear bV bW HB1 HBm z0 z1 z2 z3 z4 z5 y0 y1 y2 y3 y4 y5
    generalize Vm=V2 at *
    have HC2:Hid (C6 V2 (w.heap.size+1) (.int .u64 a0) (.int .u64 a1) (.int .u64 a2) (.int .i64 0) (.int .u64 e) (.int .i64 k)):=C2
    obtain⟨z0,z1,z2,z3,z4,z5,y0,y1,y2,y3,y4,y5⟩:=C2
    have t1:(V2.setCell ⟨w.heap.size+1,0,.none⟩ (.int .u64 (nd+ii*8))).drew.cell? ⟨w.heap.size+1,3,.none⟩=some (.int .i64 0):=(zO (by simp)).trans z3
    have t2:((V2.setCell ⟨w.heap.size+1,0,.none⟩ (.int .u64 (nd+ii*8))).setCell ⟨w.heap.size+1,4,.none⟩ (.int .u64 x)).drew.cell? ⟨w.heap.size+1,3,.none⟩=some (.int .i64 0):=(zO (by simp)).trans t1
    have t3:(((V2.setCell ⟨w.heap.size+1,0,.none⟩ (.int .u64 (nd+ii*8))).setCell ⟨w.heap.size+1,4,.none⟩ (.int .u64 x)).setCell ⟨w.heap.size+1,5,.none⟩ (.int .i64 kx)).drew.cell? ⟨w.heap.size+1,3,.none⟩=some (.int .i64 0):=(zO (by simp)).trans t2
    go_region_held3 (fun W=>W.cell? ⟨w.heap.size+1,3,.none⟩=some (.int .i64 0)) (first|assumption) (first|(go_at_call 154;refine(c66 _).mono ?_;rintro r V2 ⟨rfl,rfl⟩))
    have C3:C6 (((V2.setCell ⟨w.heap.size+1,0,.none⟩ (.int .u64 (nd+ii*8))).setCell ⟨w.heap.size+1,4,.none⟩ (.int .u64 x)).setCell ⟨w.heap.size+1,5,.none⟩ (.int .i64 kx)).drew (w.heap.size+1) (.int .u64 (nd+ii*8)) (.int .u64 a1) (.int .u64 a2) (.int .i64 0) (.int .u64 x) (.int .i64 kx):=(HC2.out.set045 _ _ _).drew
    have HCR:Hid (C6 (((V2.setCell ⟨w.heap.size+1,0,.none⟩ (.int .u64 (nd+ii*8))).setCell ⟨w.heap.size+1,4,.none⟩ (.int .u64 x)).setCell ⟨w.heap.size+1,5,.none⟩ (.int .i64 kx)).drew (w.heap.size) (.int .u64 0) (.int .u64 0) (.int .u64 0) (.int .i64 0) (.int .u64 0) (.int .i64 0)):=(((HCR2.out.off (a:=⟨w.heap.size+1,0,.none⟩) (by simp) _).off (a:=⟨w.heap.size+1,4,.none⟩) (by simp) _).off (a:=⟨w.heap.size+1,5,.none⟩) (by simp) _).drew
    have HBV:Hid (Below w.heap.size w (((V2.setCell ⟨w.heap.size+1,0,.none⟩ (.int .u64 (nd+ii*8))).setCell ⟨w.heap.size+1,4,.none⟩ (.int .u64 x)).setCell ⟨w.heap.size+1,5,.none⟩ (.int .i64 kx)).drew):=(((HB2.out.setCell (p:=⟨w.heap.size+1,0,.none⟩) (by show w.heap.size<=w.heap.size+1;omega) _).setCell (p:=⟨w.heap.size+1,4,.none⟩) (by show w.heap.size<=w.heap.size+1;omega) _).setCell (p:=⟨w.heap.size+1,5,.none⟩) (by show w.heap.size<=w.heap.size+1;omega) _).drew
    clear t1 t2 t3 z0 z1 z2 z3 z4 z5 y0 y1 y2 y3 y4 y5 HC2 HCR2 HB2
    generalize (((V2.setCell ⟨w.heap.size+1,0,.none⟩ (.int .u64 (nd+ii*8))).setCell ⟨w.heap.size+1,4,.none⟩ (.int .u64 x)).setCell ⟨w.heap.size+1,5,.none⟩ (.int .i64 kx)).drew=V3 at *
    have HC3:Hid (C6 V3 (w.heap.size+1) (.int .u64 (nd+ii*8)) (.int .u64 a1) (.int .u64 a2) (.int .i64 0) (.int .u64 x) (.int .i64 kx)):=C3
    obtain⟨z0,z1,z2,z3,z4,z5,y0,y1,y2,y3,y4,y5⟩:=C3
    have hk3:¬ kx=3:=by rw[<-Hk.out];exact kd0 x
    obtain⟨r0,r1,r2,r3,r4,r5,s0,s1,s2,s3,s4,s5⟩:=id HCR.out
    go_wp2
    have CF:=HCR.out.set (.int .u64 (nd+ii*8)) (.int .u64 a1) (.int .u64 a2) (.int .i64 0) (.int .u64 x) (.int .i64 kx)
    have BF:=below6 (P:=w.heap.size) HBV.out (by omega) (.int .u64 (nd+ii*8)) (.int .u64 a1) (.int .u64 a2) (.int .i64 0) (.int .u64 x) (.int .i64 kx)
    generalize ((((((V3.setCell ⟨w.heap.size,0,.none⟩ (.int .u64 (nd+ii*8))).setCell ⟨w.heap.size,1,.none⟩ (.int .u64 a1)).setCell ⟨w.heap.size,2,.none⟩ (.int .u64 a2)).setCell ⟨w.heap.size,3,.none⟩ (.int .i64 0)).setCell ⟨w.heap.size,4,.none⟩ (.int .u64 x)).setCell ⟨w.heap.size,5,.none⟩ (.int .i64 kx))=VF at *
    obtain⟨f0,f1,f2,f3,f4,f5,_,_,_,_,_,_⟩:=CF
    try rw[Exit.noGoto_ret]
    refine bodyPost_ret (v:=.agg #[.int .u64 (nd+ii*8),.int .u64 a1,.int .u64 a2,.int .i64 0,.int .u64 x,.int .i64 kx]) (by simp[results,Tryz.results211,go_sem,f0,f1,f2,f3,f4,f5]) rfl ⟨?_,BF⟩
    have e1:ent B nd va 0=x:=Hx.out
    have e2:ix va 0=ii:=Hi.out
    have e3:kd x 0=kx:=Hk.out
    rw[<-Hw.out,wkT_stop0 Hnd.out]
    simp only[Pt.val,e1,e3,st,e2]
   ·go_upto_region 8 with(first|(go_at_call 151;refine(c63 _).mono ?_;rintro r wr ⟨rfl,rfl⟩)|(go_at_call 152;refine c64.mono ?_;rintro r V1 ⟨rfl,hb1⟩;have C1:=HC.out.below hb1;clear z0 z1 z2 z3 z4 z5 y0 y1 y2 y3 y4 y5 c64;obtain⟨z0,z1,z2,z3,z4,z5,y0,y1,y2,y3,y4,y5⟩:=C1;have HB1:Hid (Below wr.heap.size wr V1):=hb1;clear hb1)|(go_at_call 153;refine(c65 _).mono ?_;rintro r V1 ⟨rfl,rfl⟩)|(go_at_call 244;refine(HM.out _ _ _ _ (by omega) he (HB.out.trans (HB1.out.mono HB.out.size))).mono ?_;rintro r Vm ⟨rfl,hbm⟩;have HBm:Hid (Below V1.heap.size V1 Vm):=hbm;clear hbm))
    have hfx:∃ fx,fx=fol 1 x:=⟨_,rfl⟩
    obtain⟨fx,hfx⟩:=hfx
    have Hfx:Hid (fol 1 x=fx):=hfx.symm
    rw[<-hfx]
    clear hfx
    have bV:=HBm.out
    have bW:=HB1.out.trans (bV.mono HB1.out.size)
    have C2:C6 Vm (w.heap.size+1) (.int .u64 a0) (.int .u64 a1) (.int .u64 a2) (.int .i64 1) (.int .u64 e) (.int .i64 k):=C6.below ⟨z0,z1,z2,z3,z4,z5,y0,y1,y2,y3,y4,y5⟩ bV
    have HCR2:Hid (C6 Vm (w.heap.size) (.int .u64 0) (.int .u64 0) (.int .u64 0) (.int .i64 0) (.int .u64 0) (.int .i64 0)):=HCR0.out.below bW
    have HB2:Hid (Below w.heap.size w Vm):=HB.out.trans (bW.mono HB.out.size)
    clear bV bW HB1 HBm z0 z1 z2 z3 z4 z5 y0 y1 y2 y3 y4 y5
    generalize Vm=V2 at *
    have HC2:Hid (C6 V2 (w.heap.size+1) (.int .u64 a0) (.int .u64 a1) (.int .u64 a2) (.int .i64 1) (.int .u64 e) (.int .i64 k)):=C2
    obtain⟨z0,z1,z2,z3,z4,z5,y0,y1,y2,y3,y4,y5⟩:=C2
    have t1:(V2.setCell ⟨w.heap.size+1,1,.none⟩ (.int .u64 (nd+ii*8))).drew.cell? ⟨w.heap.size+1,3,.none⟩=some (.int .i64 1):=(zO (by simp)).trans z3
    have t2:((V2.setCell ⟨w.heap.size+1,1,.none⟩ (.int .u64 (nd+ii*8))).setCell ⟨w.heap.size+1,4,.none⟩ (.int .u64 x)).drew.cell? ⟨w.heap.size+1,3,.none⟩=some (.int .i64 1):=(zO (by simp)).trans t1
    have t3:(((V2.setCell ⟨w.heap.size+1,1,.none⟩ (.int .u64 (nd+ii*8))).setCell ⟨w.heap.size+1,4,.none⟩ (.int .u64 x)).setCell ⟨w.heap.size+1,5,.none⟩ (.int .i64 kx)).drew.cell? ⟨w.heap.size+1,3,.none⟩=some (.int .i64 1):=(zO (by simp)).trans t2
    go_region_held3 (fun W=>W.cell? ⟨w.heap.size+1,3,.none⟩=some (.int .i64 1)) (first|assumption) (first|(go_at_call 154;refine(c66 _).mono ?_;rintro r V2 ⟨rfl,rfl⟩))
    have C3:C6 (((V2.setCell ⟨w.heap.size+1,1,.none⟩ (.int .u64 (nd+ii*8))).setCell ⟨w.heap.size+1,4,.none⟩ (.int .u64 x)).setCell ⟨w.heap.size+1,5,.none⟩ (.int .i64 kx)).drew (w.heap.size+1) (.int .u64 a0) (.int .u64 (nd+ii*8)) (.int .u64 a2) (.int .i64 1) (.int .u64 x) (.int .i64 kx):=(HC2.out.set145 _ _ _).drew
    have HCR:Hid (C6 (((V2.setCell ⟨w.heap.size+1,1,.none⟩ (.int .u64 (nd+ii*8))).setCell ⟨w.heap.size+1,4,.none⟩ (.int .u64 x)).setCell ⟨w.heap.size+1,5,.none⟩ (.int .i64 kx)).drew (w.heap.size) (.int .u64 0) (.int .u64 0) (.int .u64 0) (.int .i64 0) (.int .u64 0) (.int .i64 0)):=(((HCR2.out.off (a:=⟨w.heap.size+1,1,.none⟩) (by simp) _).off (a:=⟨w.heap.size+1,4,.none⟩) (by simp) _).off (a:=⟨w.heap.size+1,5,.none⟩) (by simp) _).drew
    have HBV:Hid (Below w.heap.size w (((V2.setCell ⟨w.heap.size+1,1,.none⟩ (.int .u64 (nd+ii*8))).setCell ⟨w.heap.size+1,4,.none⟩ (.int .u64 x)).setCell ⟨w.heap.size+1,5,.none⟩ (.int .i64 kx)).drew):=(((HB2.out.setCell (p:=⟨w.heap.size+1,1,.none⟩) (by show w.heap.size<=w.heap.size+1;omega) _).setCell (p:=⟨w.heap.size+1,4,.none⟩) (by show w.heap.size<=w.heap.size+1;omega) _).setCell (p:=⟨w.heap.size+1,5,.none⟩) (by show w.heap.size<=w.heap.size+1;omega) _).drew
    clear t1 t2 t3 z0 z1 z2 z3 z4 z5 y0 y1 y2 y3 y4 y5 HC2 HCR2 HB2
    generalize (((V2.setCell ⟨w.heap.size+1,1,.none⟩ (.int .u64 (nd+ii*8))).setCell ⟨w.heap.size+1,4,.none⟩ (.int .u64 x)).setCell ⟨w.heap.size+1,5,.none⟩ (.int .i64 kx)).drew=V3 at *
    have HC3:Hid (C6 V3 (w.heap.size+1) (.int .u64 a0) (.int .u64 (nd+ii*8)) (.int .u64 a2) (.int .i64 1) (.int .u64 x) (.int .i64 kx)):=C3
    obtain⟨z0,z1,z2,z3,z4,z5,y0,y1,y2,y3,y4,y5⟩:=C3
    by_cases hk3:kx=3∧fx=true
    ·obtain⟨hk3,hfx3⟩:=hk3
     subst hk3
     subst hfx3
     have e1:ent B nd va 1=x:=Hx.out
     have e2:ix va 1=ii:=Hi.out
     have e3:kd x 1=3:=Hk.out
     have e4:adE x=ax:=Ha.out
     have hw2:=Hw.out
     rw[wkT_go1 Hnd.out (by rw[e1,e3];exact⟨rfl,Hfx.out⟩),e1,e4,st,e2] at hw2
     have HE:Hid (wkT N L B fol va 0 ax a0 (nd+ii*8) a2 x=lookT N L B fol root va):=hw2
     have C9:=HC3.out.one3 (.int .i64 0)
     have HCR9:=HCR.out.off (a:=⟨w.heap.size+1,3,.none⟩) (by simp) (.int .i64 0)
     have HB9:=HBV.out.setCell (p:=⟨w.heap.size+1,3,.none⟩) (by show w.heap.size<=w.heap.size+1;omega) (.int .i64 0)
     have H9:Hid (WRT w N L B fol va (lookT N L B fol root va) (.int .u64 ax) (V3.setCell ⟨w.heap.size+1,3,.none⟩ (.int .i64 0))∧(V3.setCell ⟨w.heap.size+1,3,.none⟩ (.int .i64 0)).cell? ⟨w.heap.size+1,3,.none⟩=some (.int .i64 0)∧wr.cell? ⟨w.heap.size+1,3,.none⟩=some (.int .i64 1)):=⟨⟨0,ax,a0,nd+ii*8,a2,x,3,by omega,rfl,ad.1,ad.2,C9,HCR9,HB9,hw2⟩,C9.c3,HC.out.c3⟩
     clear e1 e2 e3 e4 hw2 C9 HCR9 HB9
     go_wp2_with (first|(go_at_call 56;refine(c46 _).mono ?_;rintro r V3 ⟨rfl,rfl⟩)|fail)
     refine⟨H9.out.1,?_⟩
     rw[H9.out.2.1,H9.out.2.2]
     simp
    ·by_cases hk4:kx=3
     ·subst hk4
      obtain rfl:fx=false:=by
       cases fx
       ·rfl
       ·exact absurd ⟨rfl,rfl⟩ hk3
      obtain⟨r0,r1,r2,r3,r4,r5,s0,s1,s2,s3,s4,s5⟩:=id HCR.out
      go_wp2
      have CF:=HCR.out.set (.int .u64 a0) (.int .u64 (nd+ii*8)) (.int .u64 a2) (.int .i64 1) (.int .u64 x) (.int .i64 3)
      have BF:=below6 (P:=w.heap.size) HBV.out (by omega) (.int .u64 a0) (.int .u64 (nd+ii*8)) (.int .u64 a2) (.int .i64 1) (.int .u64 x) (.int .i64 3)
      generalize ((((((V3.setCell ⟨w.heap.size,0,.none⟩ (.int .u64 a0)).setCell ⟨w.heap.size,1,.none⟩ (.int .u64 (nd+ii*8))).setCell ⟨w.heap.size,2,.none⟩ (.int .u64 a2)).setCell ⟨w.heap.size,3,.none⟩ (.int .i64 1)).setCell ⟨w.heap.size,4,.none⟩ (.int .u64 x)).setCell ⟨w.heap.size,5,.none⟩ (.int .i64 3))=VF at *
      obtain⟨f0,f1,f2,f3,f4,f5,_,_,_,_,_,_⟩:=CF
      try rw[Exit.noGoto_ret]
      refine bodyPost_ret (v:=.agg #[.int .u64 a0,.int .u64 (nd+ii*8),.int .u64 a2,.int .i64 1,.int .u64 x,.int .i64 3]) (by simp[results,Tryz.results211,go_sem,f0,f1,f2,f3,f4,f5]) rfl ⟨?_,BF⟩
      have e1:ent B nd va 1=x:=Hx.out
      have e2:ix va 1=ii:=Hi.out
      have e3:kd x 1=3:=Hk.out
      rw[<-Hw.out,wkT_stop1 Hnd.out (by rw[e1,e3,Hfx.out];simp)]
      simp only[Pt.val,e1,e3,st,e2]
     ·skip
      obtain⟨r0,r1,r2,r3,r4,r5,s0,s1,s2,s3,s4,s5⟩:=id HCR.out
      go_wp2
      have CF:=HCR.out.set (.int .u64 a0) (.int .u64 (nd+ii*8)) (.int .u64 a2) (.int .i64 1) (.int .u64 x) (.int .i64 kx)
      have BF:=below6 (P:=w.heap.size) HBV.out (by omega) (.int .u64 a0) (.int .u64 (nd+ii*8)) (.int .u64 a2) (.int .i64 1) (.int .u64 x) (.int .i64 kx)
      generalize ((((((V3.setCell ⟨w.heap.size,0,.none⟩ (.int .u64 a0)).setCell ⟨w.heap.size,1,.none⟩ (.int .u64 (nd+ii*8))).setCell ⟨w.heap.size,2,.none⟩ (.int .u64 a2)).setCell ⟨w.heap.size,3,.none⟩ (.int .i64 1)).setCell ⟨w.heap.size,4,.none⟩ (.int .u64 x)).setCell ⟨w.heap.size,5,.none⟩ (.int .i64 kx))=VF at *
      obtain⟨f0,f1,f2,f3,f4,f5,_,_,_,_,_,_⟩:=CF
      try rw[Exit.noGoto_ret]
      refine bodyPost_ret (v:=.agg #[.int .u64 a0,.int .u64 (nd+ii*8),.int .u64 a2,.int .i64 1,.int .u64 x,.int .i64 kx]) (by simp[results,Tryz.results211,go_sem,f0,f1,f2,f3,f4,f5]) rfl ⟨?_,BF⟩
      have e1:ent B nd va 1=x:=Hx.out
      have e2:ix va 1=ii:=Hi.out
      have e3:kd x 1=kx:=Hk.out
      rw[<-Hw.out,wkT_stop1 Hnd.out (by rw[e1,e3];exact fun h=>hk4 h.1)]
      simp only[Pt.val,e1,e3,st,e2]
   ·go_upto_region 8 with(first|(go_at_call 151;refine(c63 _).mono ?_;rintro r wr ⟨rfl,rfl⟩)|(go_at_call 152;refine c64.mono ?_;rintro r V1 ⟨rfl,hb1⟩;have C1:=HC.out.below hb1;clear z0 z1 z2 z3 z4 z5 y0 y1 y2 y3 y4 y5 c64;obtain⟨z0,z1,z2,z3,z4,z5,y0,y1,y2,y3,y4,y5⟩:=C1;have HB1:Hid (Below wr.heap.size wr V1):=hb1;clear hb1)|(go_at_call 153;refine(c65 _).mono ?_;rintro r V1 ⟨rfl,rfl⟩)|(go_at_call 244;refine(HM.out _ _ _ _ (by omega) he (HB.out.trans (HB1.out.mono HB.out.size))).mono ?_;rintro r Vm ⟨rfl,hbm⟩;have HBm:Hid (Below V1.heap.size V1 Vm):=hbm;clear hbm))
    have hfx:∃ fx,fx=fol 2 x:=⟨_,rfl⟩
    obtain⟨fx,hfx⟩:=hfx
    have Hfx:Hid (fol 2 x=fx):=hfx.symm
    rw[<-hfx]
    clear hfx
    have bV:=HBm.out
    have bW:=HB1.out.trans (bV.mono HB1.out.size)
    have C2:C6 Vm (w.heap.size+1) (.int .u64 a0) (.int .u64 a1) (.int .u64 a2) (.int .i64 2) (.int .u64 e) (.int .i64 k):=C6.below ⟨z0,z1,z2,z3,z4,z5,y0,y1,y2,y3,y4,y5⟩ bV
    have HCR2:Hid (C6 Vm (w.heap.size) (.int .u64 0) (.int .u64 0) (.int .u64 0) (.int .i64 0) (.int .u64 0) (.int .i64 0)):=HCR0.out.below bW
    have HB2:Hid (Below w.heap.size w Vm):=HB.out.trans (bW.mono HB.out.size)
    clear bV bW HB1 HBm z0 z1 z2 z3 z4 z5 y0 y1 y2 y3 y4 y5
    generalize Vm=V2 at *
    have HC2:Hid (C6 V2 (w.heap.size+1) (.int .u64 a0) (.int .u64 a1) (.int .u64 a2) (.int .i64 2) (.int .u64 e) (.int .i64 k)):=C2
    obtain⟨z0,z1,z2,z3,z4,z5,y0,y1,y2,y3,y4,y5⟩:=C2
    have t1:(V2.setCell ⟨w.heap.size+1,2,.none⟩ (.int .u64 (nd+ii*8))).drew.cell? ⟨w.heap.size+1,3,.none⟩=some (.int .i64 2):=(zO (by simp)).trans z3
    have t2:((V2.setCell ⟨w.heap.size+1,2,.none⟩ (.int .u64 (nd+ii*8))).setCell ⟨w.heap.size+1,4,.none⟩ (.int .u64 x)).drew.cell? ⟨w.heap.size+1,3,.none⟩=some (.int .i64 2):=(zO (by simp)).trans t1
    have t3:(((V2.setCell ⟨w.heap.size+1,2,.none⟩ (.int .u64 (nd+ii*8))).setCell ⟨w.heap.size+1,4,.none⟩ (.int .u64 x)).setCell ⟨w.heap.size+1,5,.none⟩ (.int .i64 kx)).drew.cell? ⟨w.heap.size+1,3,.none⟩=some (.int .i64 2):=(zO (by simp)).trans t2
    go_region_held3 (fun W=>W.cell? ⟨w.heap.size+1,3,.none⟩=some (.int .i64 2)) (first|assumption) (first|(go_at_call 154;refine(c66 _).mono ?_;rintro r V2 ⟨rfl,rfl⟩))
    have C3:C6 (((V2.setCell ⟨w.heap.size+1,2,.none⟩ (.int .u64 (nd+ii*8))).setCell ⟨w.heap.size+1,4,.none⟩ (.int .u64 x)).setCell ⟨w.heap.size+1,5,.none⟩ (.int .i64 kx)).drew (w.heap.size+1) (.int .u64 a0) (.int .u64 a1) (.int .u64 (nd+ii*8)) (.int .i64 2) (.int .u64 x) (.int .i64 kx):=(HC2.out.set245 _ _ _).drew
    have HCR:Hid (C6 (((V2.setCell ⟨w.heap.size+1,2,.none⟩ (.int .u64 (nd+ii*8))).setCell ⟨w.heap.size+1,4,.none⟩ (.int .u64 x)).setCell ⟨w.heap.size+1,5,.none⟩ (.int .i64 kx)).drew (w.heap.size) (.int .u64 0) (.int .u64 0) (.int .u64 0) (.int .i64 0) (.int .u64 0) (.int .i64 0)):=(((HCR2.out.off (a:=⟨w.heap.size+1,2,.none⟩) (by simp) _).off (a:=⟨w.heap.size+1,4,.none⟩) (by simp) _).off (a:=⟨w.heap.size+1,5,.none⟩) (by simp) _).drew
    have HBV:Hid (Below w.heap.size w (((V2.setCell ⟨w.heap.size+1,2,.none⟩ (.int .u64 (nd+ii*8))).setCell ⟨w.heap.size+1,4,.none⟩ (.int .u64 x)).setCell ⟨w.heap.size+1,5,.none⟩ (.int .i64 kx)).drew):=(((HB2.out.setCell (p:=⟨w.heap.size+1,2,.none⟩) (by show w.heap.size<=w.heap.size+1;omega) _).setCell (p:=⟨w.heap.size+1,4,.none⟩) (by show w.heap.size<=w.heap.size+1;omega) _).setCell (p:=⟨w.heap.size+1,5,.none⟩) (by show w.heap.size<=w.heap.size+1;omega) _).drew
    clear t1 t2 t3 z0 z1 z2 z3 z4 z5 y0 y1 y2 y3 y4 y5 HC2 HCR2 HB2
    generalize (((V2.setCell ⟨w.heap.size+1,2,.none⟩ (.int .u64 (nd+ii*8))).setCell ⟨w.heap.size+1,4,.none⟩ (.int .u64 x)).setCell ⟨w.heap.size+1,5,.none⟩ (.int .i64 kx)).drew=V3 at *
    have HC3:Hid (C6 V3 (w.heap.size+1) (.int .u64 a0) (.int .u64 a1) (.int .u64 (nd+ii*8)) (.int .i64 2) (.int .u64 x) (.int .i64 kx)):=C3
    obtain⟨z0,z1,z2,z3,z4,z5,y0,y1,y2,y3,y4,y5⟩:=C3
    by_cases hk3:kx=3∧fx=true
    ·obtain⟨hk3,hfx3⟩:=hk3
     subst hk3
     subst hfx3
     have e1:ent B nd va 2=x:=Hx.out
     have e2:ix va 2=ii:=Hi.out
     have e3:kd x 2=3:=Hk.out
     have e4:adE x=ax:=Ha.out
     have hw2:=Hw.out
     rw[wkT_go2 Hnd.out (by rw[e1,e3];exact⟨rfl,Hfx.out⟩),e1,e4,st,e2] at hw2
     have HE:Hid (wkT N L B fol va 1 ax a0 a1 (nd+ii*8) x=lookT N L B fol root va):=hw2
     have C9:=HC3.out.one3 (.int .i64 1)
     have HCR9:=HCR.out.off (a:=⟨w.heap.size+1,3,.none⟩) (by simp) (.int .i64 1)
     have HB9:=HBV.out.setCell (p:=⟨w.heap.size+1,3,.none⟩) (by show w.heap.size<=w.heap.size+1;omega) (.int .i64 1)
     have H9:Hid (WRT w N L B fol va (lookT N L B fol root va) (.int .u64 ax) (V3.setCell ⟨w.heap.size+1,3,.none⟩ (.int .i64 1))∧(V3.setCell ⟨w.heap.size+1,3,.none⟩ (.int .i64 1)).cell? ⟨w.heap.size+1,3,.none⟩=some (.int .i64 1)∧wr.cell? ⟨w.heap.size+1,3,.none⟩=some (.int .i64 2)):=⟨⟨1,ax,a0,a1,nd+ii*8,x,3,by omega,rfl,ad.1,ad.2,C9,HCR9,HB9,hw2⟩,C9.c3,HC.out.c3⟩
     clear e1 e2 e3 e4 hw2 C9 HCR9 HB9
     go_wp2_with (first|(go_at_call 56;refine(c46 _).mono ?_;rintro r V3 ⟨rfl,rfl⟩)|fail)
     refine⟨H9.out.1,?_⟩
     rw[H9.out.2.1,H9.out.2.2]
     simp
    ·by_cases hk4:kx=3
     ·subst hk4
      obtain rfl:fx=false:=by
       cases fx
       ·rfl
       ·exact absurd ⟨rfl,rfl⟩ hk3
      obtain⟨r0,r1,r2,r3,r4,r5,s0,s1,s2,s3,s4,s5⟩:=id HCR.out
      go_wp2
      have CF:=HCR.out.set (.int .u64 a0) (.int .u64 a1) (.int .u64 (nd+ii*8)) (.int .i64 2) (.int .u64 x) (.int .i64 3)
      have BF:=below6 (P:=w.heap.size) HBV.out (by omega) (.int .u64 a0) (.int .u64 a1) (.int .u64 (nd+ii*8)) (.int .i64 2) (.int .u64 x) (.int .i64 3)
      generalize ((((((V3.setCell ⟨w.heap.size,0,.none⟩ (.int .u64 a0)).setCell ⟨w.heap.size,1,.none⟩ (.int .u64 a1)).setCell ⟨w.heap.size,2,.none⟩ (.int .u64 (nd+ii*8))).setCell ⟨w.heap.size,3,.none⟩ (.int .i64 2)).setCell ⟨w.heap.size,4,.none⟩ (.int .u64 x)).setCell ⟨w.heap.size,5,.none⟩ (.int .i64 3))=VF at *
      obtain⟨f0,f1,f2,f3,f4,f5,_,_,_,_,_,_⟩:=CF
      try rw[Exit.noGoto_ret]
      refine bodyPost_ret (v:=.agg #[.int .u64 a0,.int .u64 a1,.int .u64 (nd+ii*8),.int .i64 2,.int .u64 x,.int .i64 3]) (by simp[results,Tryz.results211,go_sem,f0,f1,f2,f3,f4,f5]) rfl ⟨?_,BF⟩
      have e1:ent B nd va 2=x:=Hx.out
      have e2:ix va 2=ii:=Hi.out
      have e3:kd x 2=3:=Hk.out
      rw[<-Hw.out,wkT_stop2 Hnd.out (by rw[e1,e3,Hfx.out];simp)]
      simp only[Pt.val,e1,e3,st,e2]
     ·skip
      obtain⟨r0,r1,r2,r3,r4,r5,s0,s1,s2,s3,s4,s5⟩:=id HCR.out
      go_wp2
      have CF:=HCR.out.set (.int .u64 a0) (.int .u64 a1) (.int .u64 (nd+ii*8)) (.int .i64 2) (.int .u64 x) (.int .i64 kx)
      have BF:=below6 (P:=w.heap.size) HBV.out (by omega) (.int .u64 a0) (.int .u64 a1) (.int .u64 (nd+ii*8)) (.int .i64 2) (.int .u64 x) (.int .i64 kx)
      generalize ((((((V3.setCell ⟨w.heap.size,0,.none⟩ (.int .u64 a0)).setCell ⟨w.heap.size,1,.none⟩ (.int .u64 a1)).setCell ⟨w.heap.size,2,.none⟩ (.int .u64 (nd+ii*8))).setCell ⟨w.heap.size,3,.none⟩ (.int .i64 2)).setCell ⟨w.heap.size,4,.none⟩ (.int .u64 x)).setCell ⟨w.heap.size,5,.none⟩ (.int .i64 kx))=VF at *
      obtain⟨f0,f1,f2,f3,f4,f5,_,_,_,_,_,_⟩:=CF
      try rw[Exit.noGoto_ret]
      refine bodyPost_ret (v:=.agg #[.int .u64 a0,.int .u64 a1,.int .u64 (nd+ii*8),.int .i64 2,.int .u64 x,.int .i64 kx]) (by simp[results,Tryz.results211,go_sem,f0,f1,f2,f3,f4,f5]) rfl ⟨?_,BF⟩
      have e1:ent B nd va 2=x:=Hx.out
      have e2:ix va 2=ii:=Hi.out
      have e3:kd x 2=kx:=Hk.out
      rw[<-Hw.out,wkT_stop2 Hnd.out (by rw[e1,e3];exact fun h=>hk4 h.1)]
      simp only[Pt.val,e1,e3,st,e2]
end
end Rm
namespace Rm
open Go.RowKit
def eM:Nat:=402653184
theorem eM_val:eM=402653184:=rfl
attribute [local irreducible] eM
def x1 (P:Nat):Nat:=1+P/262144
def x0 (P:Nat):Nat:=513+512*(P/262144)+P/512%512
def vaP (P:Nat):Int:=(P:Int)*4096
theorem vaP_i2 (P:Nat) (h:P<134217728):i2 (vaP P)=P/262144:=by
 unfold i2 vaP ix spn
 simp
 omega
theorem vaP_i1 (P:Nat) (h:P<134217728):i1 (vaP P)=P/512%512:=by
 unfold i1 vaP ix spn
 simp
 omega
theorem vaP_i0 (P:Nat) (h:P<134217728):i0 (vaP P)=P%512:=by
 unfold i0 vaP ix spn
 simp
 omega
theorem vaP_y1 (P:Nat) (h:P<134217728):y1 (vaP P)=x1 P:=by
 unfold y1 ch x1
 rw[vaP_i2 P h]
 simp
theorem vaP_y0 (P:Nat) (h:P<134217728):y0 (vaP P)=x0 P:=by
 unfold y0
 rw[vaP_y1 P h,vaP_i1 P h]
 unfold ch x1 x0
 rw[if_neg (by omega)]
 omega
structure Ev where
 va:Int
 l:Int
 p:Pt
def rtF (F:Nat->Option Nat):Nat:=(F 0).getD 0
def ev (F:Nat->Option Nat) (lf:Nat->Nat->Int) (c:Nat):Option Ev:=
 if c%3=0 then (if c/3%262144=0 then (F (x1 (c/3))).map fun g=>⟨vaP (c/3),2,⟨0,0,st (ad (rtF F)) (vaP (c/3)) 2,2,ptr (some g),3⟩⟩ else none)
 else if c%3=1 then (if c/3%512=0 then (F (x1 (c/3))).bind fun g=>(F (x0 (c/3))).map fun q=>⟨vaP (c/3),1,⟨0,st (ad g) (vaP (c/3)) 1,st (ad (rtF F)) (vaP (c/3)) 2,1,ptr (some q),3⟩⟩ else none)
 else (F (x1 (c/3))).bind fun g=>(F (x0 (c/3))).bind fun q=>if lf (x0 (c/3)) (c/3%512)=0 then none else some ⟨vaP (c/3),0,⟨st (ad q) (vaP (c/3)) 0,st (ad g) (vaP (c/3)) 1,st (ad (rtF F)) (vaP (c/3)) 2,0,lf (x0 (c/3)) (c/3%512),2⟩⟩
def evs (F:Nat->Option Nat) (lf:Nat->Nat->Int) (c:Nat):List Ev:=(List.range' c (eM-c)).filterMap (ev F lf)
theorem evs_end (F:Nat->Option Nat) (lf:Nat->Nat->Int) (c:Nat) (h:eM<=c):evs F lf c = []:=by
 unfold evs
 rw[show eM-c=0 by omega]
 rfl
theorem evs_step (F:Nat->Option Nat) (lf:Nat->Nat->Int) (c:Nat) (h:c<eM):evs F lf c=(ev F lf c).toList ++ evs F lf (c+1):=by
 unfold evs
 obtain⟨k,hk⟩:∃ k,eM-c=k+1:=⟨eM-c-1,by omega⟩
 rw[hk,List.range'_succ,List.filterMap_cons,show eM-(c+1)=k by omega]
 cases ev F lf c<;>rfl
theorem evs_none (F:Nat->Option Nat) (lf:Nat->Nat->Int):∀ (k c:Nat),c+k<=eM->(∀ j,c<=j->j<c+k->ev F lf j=none)->evs F lf c=evs F lf (c+k)
 |0,_,_,_=>rfl
 |k+1,c,h,hn=>by
  rw[evs_step F lf c (by omega),hn c zL (by omega),evs_none F lf k (c+1) (by omega) (fun j h1 h2=>hn j (by omega) (by omega))]
  rw[show c+1+k=c+(k+1) by omega]
  rfl
theorem evs_skip {F:Nat->Option Nat} {lf:Nat->Nat->Int} {c d:Nat} (h:c<=d) (hd:d<=eM) (hn:∀ j,c<=j->j<d->ev F lf j=none):evs F lf c=evs F lf d:=by
 obtain⟨k,rfl⟩:∃ k,d=c+k:=⟨d-c,by omega⟩
 exact evs_none F lf k c hd hn
theorem evs_hit {F:Nat->Option Nat} {lf:Nat->Nat->Int} {c d:Nat} {x:Ev} (h:c<=d) (hd:d<eM) (hn:∀ j,c<=j->j<d->ev F lf j=none) (hx:ev F lf d=some x):evs F lf c=x :: evs F lf (d+1):=by
 rw[evs_skip h (Nat.le_of_lt hd) hn,evs_step F lf d hd,hx]
 rfl
theorem ev_none2 {F:Nat->Option Nat} {lf:Nat->Nat->Int} {j:Nat} (h:F (x1 (j/3))=none):ev F lf j=none:=by
 unfold ev
 rw[h]
 split
 ·split<;>rfl
 ·split
  ·split<;>rfl
  ·rfl
theorem ev_none1 {F:Nat->Option Nat} {lf:Nat->Nat->Int} {j:Nat} (h:F (x0 (j/3))=none) (h3:j%3≠0∨j/3%262144≠0):ev F lf j=none:=by
 unfold ev
 rw[h]
 split
 ·rw[if_neg (by omega)]
 ·split
  ·split
   ·cases F (x1 (j/3))<;>rfl
   ·rfl
  ·cases F (x1 (j/3))<;>rfl
theorem ev_none0 {F:Nat->Option Nat} {lf:Nat->Nat->Int} {j:Nat} (h:lf (x0 (j/3)) (j/3%512)=0) (h3:j%3=2∨(j/3%512≠0)):ev F lf j=none:=by
 unfold ev
 rw[h]
 split
 ·rw[if_neg (by omega)]
 ·split
  ·rw[if_neg (by omega)]
  ·cases F (x1 (j/3)) with
   |none=>rfl
   |some g=>cases F (x0 (j/3))<;>rfl
end Rm
namespace Rm
open Go.RowKit
def brElem:Value->Option (DataW Unit×List MemPlace)
 |.agg cs=>match cs.toList with
  |[.int .u64 a,.int .i64 b]=>some (.agg [.lit (.int .u64 a),.lit (.int .i64 b)],[])
  |_=>none
 |_=>none
def brD (x:Int×Int):DataW Unit:=.agg [.lit (.int .u64 x.1),.lit (.int .i64 x.2)]
def brV (x:Int×Int):Value:=.agg #[.int .u64 x.1,.int .i64 x.2]
theorem brElem_mk (x:Int×Int):brElem (brV x)=some (brD x,[]):=rfl
theorem brElem_inv {v:Value} {x:Int×Int} {ps:List MemPlace} (h:brElem v=some (brD x,ps)):v=brV x:=by
 unfold brElem at h
 split at h
 ·rename_i cs
  split at h
  ·rename_i a b hl
   simp only[Option.some.injEq,Prod.mk.injEq,brD,DataW.agg.injEq,List.cons.injEq,DataW.lit.injEq,Lit.int.injEq,true_and,and_true] at h
   obtain⟨⟨h1,h2⟩,_⟩:=h
   unfold brV
   rw[<-h1,<-h2]
   congr 1
   cases cs
   simp only at hl
   rw[hl]
  ·cases h
 ·cases h
structure Tm (w:World) (m:Nat) (tm:Int->Option (Int×Int)) (n:Nat):Prop where
 own:∃ D:DataW Unit,w.ownsMap Tryz.prog 23 brElem m n D∧∀ a:Int,0<=a->a<18446744073709551616->Maps.has D (.int .u64 a)=(tm a).isSome∧D.atKey (.int .u64 a) (brD (0,0))=brD ((tm a).getD (0,0))
theorem zero100 (w:World):(zeroValue 236).run Tryz.prog w = .ok (brV (0,0)) w:=by kernel_rfl
theorem key28 (a:Int) (h:0<=a∧a<18446744073709551616):keyOf Tryz.prog 23 (.int .u64 a)=some (.int .u64 a):=Maps.keyOf_int_mk Tryz.underlying23 (by simp[Lit.wf,IntKind.min,IntKind.max,IntKind.signed,IntKind.bits];omega)
theorem Tm.below {w w':World} {m n:Nat} {tm:Int->Option (Int×Int)} (h:Tm w m tm n) (b:Below w.heap.size w w'):Tm w' m tm n:=by
 obtain⟨D,h1,h2⟩:=h.own
 have hl:=h1.lt
 obtain⟨es,cl,hb,r⟩:=h1
 exact⟨D,⟨es,cl,(b.block m hl).trans hb,r⟩,h2⟩
theorem Tm.new (w:World):Tm (w.alloc (.map #[] 0)) w.heap.size (fun _=>none) 0:=
 ⟨.map [],World.ownsMap_made w Tryz.prog 23 brElem,fun a _ _=>⟨rfl,rfl⟩⟩
theorem Tm.look {w:World} {m n:Nat} {tm:Int->Option (Int×Int)} (h:Tm w m tm n) (a:Int) (ha:0<=a∧a<18446744073709551616):(Instr.lookup 259 (.map (some m)) (.int .u64 a) false).run Tryz.prog w = .ok (brV ((tm a).getD (0,0))) w:=by
 obtain⟨D,h1,h2⟩:=h.own
 obtain⟨v,ps,hr,hv⟩:=h1.lookup law22 Tryz.underlying259 (zero100 w) (brElem_mk (0,0)) (key28 a ha)
 rw[(h2 a ha.1 ha.2).2] at hv
 rw[hr,brElem_inv hv]
theorem Tm.look2 {w:World} {m n:Nat} {tm:Int->Option (Int×Int)} (h:Tm w m tm n) (a:Int) (ha:0<=a∧a<18446744073709551616):(Instr.lookup 259 (.map (some m)) (.int .u64 a) true).run Tryz.prog w = .ok (.tuple #[brV ((tm a).getD (0,0)),.bool (tm a).isSome]) w:=by
 obtain⟨D,h1,h2⟩:=h.own
 obtain⟨v,ps,hr,hv⟩:=h1.look_ok law22 Tryz.underlying259 (zero100 w) (brElem_mk (0,0)) (key28 a ha)
 rw[(h2 a ha.1 ha.2).2] at hv
 rw[hr,brElem_inv hv,(h2 a ha.1 ha.2).1]
def setM (tm:Int->Option (Int×Int)) (a:Int) (x:Int×Int):Int->Option (Int×Int):=fun b=>if b=a then some x else tm b
theorem Tm.put {w:World} {m n:Nat} {tm:Int->Option (Int×Int)} (h:Tm w m tm n) (hn:n<1000000000) (a:Int) (ha:0<=a∧a<18446744073709551616) (x:Int×Int):∃ w',(Instr.mapUpdate 259 (.map (some m)) (.int .u64 a) (brV x)).run Tryz.prog w = .ok () w'∧Tm w' m (setM tm a x) (n+1)∧w.mapTurned w' m:=by
 obtain⟨D,h1,h2⟩:=h.own
 obtain⟨w',hr,ho,ht⟩:=h1.store law22 Tryz.underlying259 (by simp only[maxLen];omega) (key28 a ha) (brElem_mk x)
 refine⟨w',hr,⟨_,ho,fun b h3 h4=>?_⟩,ht⟩
 unfold setM
 by_cases e:b=a
 ·subst e
  rw[if_pos rfl]
  exact⟨Maps.has_put_same h1.isMap (isKey _) _,Maps.atKey_put_same h1.isMap (isKey _) _ _⟩
 ·rw[if_neg e]
  refine⟨?_,?_⟩
  ·rw[Maps.has_put_other (ne_lit e)]
   exact(h2 b h3 h4).1
  ·rw[Maps.atKey_put_other (ne_lit e)]
   exact(h2 b h3 h4).2
theorem guard_br (x y:Operand) (a b c d:Int) (w:World):(eqGuard .eql 236 x y (.agg #[.int .u64 a,.int .i64 b]) (.agg #[.int .u64 c,.int .i64 d])).run Tryz.prog w = .ok () w:=by kernel_rfl
def folT (tm:Int->Option (Int×Int)) (va l e:Int):Bool:=decide ((tm (adE e)).getD (0,0)=(va-va%spn l,l))
section
variable {w:World} {v:Value}
attribute [local go_sem] guard_br
set_option maxRecDepth 10000 in
theorem meetT_any {T m n:Nat} {root va:Int} {tm:Int->Option (Int×Int)} (t:Tour w T v root va (.map (some m))) (h:Tm w m tm n) (hv:0<=va∧va<18446744073709551616) (l a e:Int) (hl:l=0∨l=1∨l=2) (he:0<=e∧e<18446744073709551616) :
  Calls Tryz.prog 244 #[.pointer (some ⟨T,0,.none⟩),.int .i64 l,.int .u64 a,.int .u64 e] w fun r w'=>r = .returned (.tuple #[.int .u64 e,.bool (folT tm va l e)])∧Below w.heap.size w w':=by
 have c46:=fun W=>address_any e W he
 have had:=adE_b e
 have HS:Hid (∀ U,Below w.heap.size w U->Tour U T v root va (.map (some m))∧Tm U m tm n):=fun U b=>⟨t.below b,h.below b⟩
 have kS:Below w.heap.size w w.drew:=zB.drew
 have c82:=fun (U:World) (hU:Below w.heap.size w U)=>branch_any T va l (by omega) hv (HS.out U hU).1.c2
 have hf:folT tm va l e=decide ((tm (adE e)).getD (0,0)=(va-va%spn l,l)):=rfl
 have hlk:=fun (U:World) (hU:Below w.heap.size w U)=>(HS.out U hU).2.look (adE e) had
 generalize (tm (adE e)).getD (0,0)=x at hf hlk
 obtain⟨x1,x2⟩:=x
 rw[hf]
 generalize va-va%spn l=y at c82
 generalize adE e=z at c46 hlk had
 clear t h hf
 simp only[brV] at hlk
 go_enter Tryz.func244,Tryz.ntmps244
 go_upto_region 1 with fail
 refine wp_region_held_drew (S:=fun U=>Below w.heap.size w U) (by kernel_rfl) kS (fun hHeld=>?_)
 refine aT 0 (.int .u64 e) rfl ?_
 simp only[xX]
 refine aT 1 (.pointer (some ⟨T,0,.none⟩)) rfl ?_
 simp only[xX]
 refine aT 2 (.pointer (some ⟨T,0,.none⟩)) rfl ?_
 simp only[xX]
 refine aT 3 (.pointer (some ⟨T,3,.none⟩)) rfl ?_
 simp only[xX]
 refine aT 4 (.map (some m)) rfl ?_ (fun ww hSw=>by (try dsimp only at hSw);have q3:=(HS.out ww hSw).1.c3;go_simp)
 simp only[xX]
 refine aT 5 (.int .u64 e) rfl ?_
 simp only[xX]
 refine aT 8 (.pointer (some ⟨T,0,.none⟩)) rfl ?_
 simp only[xX]
 refine aT 9 (.int .i64 l) rfl ?_
 simp only[xX]
 refine zR 6 rfl (fun K hK=>?_)
 go_simp
 go_at_call 56
 refine(c46 _).mono ?_
 rintro _ w1 ⟨rfl,e1⟩
 refine hK.out _ _ (by rw[e1];exact kS) (fun hHeld=>?_)
 clear hK K
 try simp only[xX]
 clear e1
 refine aT 7 (.agg #[.int .u64 x1,.int .i64 x2]) rfl ?_ (fun ww hSw=>by (try dsimp only at hSw);have q3:=hlk ww hSw;go_simp)
 simp only[xX]
 have kS1:Below w.heap.size w w1:=by assumption
 refine zR 10 rfl (fun K hK=>?_)
 go_simp
 go_at_call 212
 refine(c82 _ kS1).mono ?_
 rintro _ w2 ⟨rfl,b2⟩
 have kS2:Below w.heap.size w w2:=kS1.trans (b2.mono kS1.size)
 refine hK.out _ _ kS2 (fun hHeld=>?_)
 clear hK K
 try simp only[xX]
 refine aT 11 (.bool (decide ((x1,x2)=(y,l)))) rfl ?_ (fun ww hSw=>by (try dsimp only at hSw);go_simp;(by_cases hh1:x1=y<;>by_cases hh2:x2=l<;>simp[hh1,hh2]))
 simp only[xX]
 refine aT 12 (.int .u64 e) rfl ?_
 simp only[xX]
 refine aT 13 (.bool (decide ((x1,x2)=(y,l)))) rfl ?_
 simp only[xX]
 refine wpAnyH_done (by kernel_rfl) ?_ _
 go_wp2_with fail
 exact bodyPost_ret (v:=.tuple #[.int .u64 e,.bool (decide ((x1,x2)=(y,l)))]) (by simp[results,Tryz.results244,go_sem]) rfl ⟨rfl,kS2⟩
set_option maxRecDepth 10000 in
theorem tells_any {p b mm N T m n:Nat} {B:Nat->Int} {L:List Nat} {root va pa:Int} {tm:Int->Option (Int×Int)} (hR:Ram w p b mm N B L) (t:Tour w T (.pointer (some ⟨p,0,.none⟩)) root va (.map (some m))) (h:Tm w m tm n) (hp:0<=pa∧pa<18446744073709551616) (hr:pa≠root) (hn:ndB N L pa=true) (hno:tm pa=none) :
  Calls Tryz.prog 213 #[.pointer (some ⟨T,0,.none⟩),.int .u64 pa] w fun r w'=>r = .returned (.bool true)∧Below w.heap.size w w':=by
 have c42:=isNode_any hR pa hp
 rw[hn] at c42
 have k0:=t.c0
 have k1:=t.c1
 have hne:(pa == root)=false:=by simpa using hr
 have HT:Hid (Tour w T (.pointer (some ⟨p,0,.none⟩)) root va (.map (some m))∧Tm w m tm n):=⟨t,h⟩
 clear hR hn hr t h
 go_enter Tryz.func213,Tryz.ntmps213
 go_upto_region 3 with(go_at_call 159;refine c42.mono ?_;rintro _ w1 ⟨rfl,b1⟩;have H1:Hid (Below w.heap.size w w1):=b1;clear b1 c42)
 have q3:=(HT.out.1.below H1.out).c3
 have ql:=(HT.out.2.below H1.out).look2 pa hp
 rw[hno] at ql
 simp only[brV,Option.getD_none,Option.isSome_none] at ql
 go_wp2_with fail
 go_ret
 exact⟨rfl,H1.out.alloc H1.out.size _⟩
end
end Rm
end Go.Proofs.YtabnipbdbnmmpaaGreatDoor
