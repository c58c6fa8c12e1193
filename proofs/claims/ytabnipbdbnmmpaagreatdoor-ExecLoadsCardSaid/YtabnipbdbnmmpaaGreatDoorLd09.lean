import Derived.Test.YtabnipbdbnmmpaaGreatDoorLd01
import Derived.Test.YtabnipbdbnmmpaaGreatDoorLd08
set_option linter.unusedVariables false
set_option linter.unusedSimpArgs false
set_option maxHeartbeats 8000000
namespace Go.Proofs.YtabnipbdbnmmpaaGreatDoor
namespace Rm
open Go.RowKit
theorem Ram.beside {W:World} {p b m N:Nat} {B:Nat->Int} {L:List Nat} (h:Ram W p b m N B L) (a:Addr) (v:Value) (h1:p≠a.block) (h2:b≠a.block) (h3:m≠a.block):Ram (W.setCell a v) p b m N B L:=⟨h.mem.setOther h1 h2 h3 v,h.nd,h.lt,h.thr⟩
theorem Ram.drew {W:World} {p b m N:Nat} {B:Nat->Int} {L:List Nat} (h:Ram W p b m N B L):Ram W.drew p b m N B L:=h.below zB.drew
def WY (w:World) (p b m N:Nat) (va leaf:Int) (B':Nat->Int) (L':List Nat) (v:Value) (W:World):Prop:=∃ (l:Nat) (nd a0 a1 a2 e k:Int) (B1:Nat->Int) (L1:List Nat),l<=2∧v = .int .u64 nd∧0<=nd∧nd<18446744073709551616∧LW w W p b m leaf a0 a1 a2 l e k∧Ram W p b m N B1 L1∧Lays N va leaf l B1 L1 nd B' L'
section
variable {w:World} {p b m N:Nat} {B B':Nat->Int} {L L':List Nat}
theorem lay_any (h:Ram w p b m N B L) (root va leaf:Int) (hr:0<=root∧root<18446744073709551616) (hv:0<=va∧va<18446744073709551616) (hf:0<=leaf∧leaf<18446744073709551616) (hL:Lays N va leaf 2 B L root B' L'):Calls Tryz.prog 179 #[.pointer (some ⟨p,0,.none⟩),.int .u64 root,.int .u64 va,.agg #[.pointer (some ⟨p,0,.none⟩),.int .u64 leaf]] w fun e w'=>(∃ v,e = .returned v)∧Ram w' p b m N B' L'∧Fra p b m w w':=by
 have hp:p<w.heap.size:=h.mem.plt
 have hb:b<w.heap.size:=h.mem.blt
 have hm:m<w.heap.size:=h.mem.mlt
 have n2:=h.mem.n2
 have HP:Hid (p<w.heap.size∧b<w.heap.size∧m<w.heap.size):=⟨hp,hb,hm⟩
 have h0:WY w p b m N va leaf B' L' (.int .u64 root) (((w.alloc (.cells #[.pointer (some ⟨p,0,.none⟩),.int .u64 leaf] 248)).alloc (.cells #[.int .u64 0,.int .u64 0,.int .u64 0,.int .i64 0,.int .u64 0,.int .i64 0] 169)).alloc (.cells #[.int .u64 0,.int .u64 0,.int .u64 0,.int .i64 2,.int .u64 0,.int .i64 0] 169)):=by
  have b3:=below3 w (.cells #[.pointer (some ⟨p,0,.none⟩),.int .u64 leaf] 248) (.cells #[.int .u64 0,.int .u64 0,.int .u64 0,.int .i64 0,.int .u64 0,.int .i64 0] 169) (.cells #[.int .u64 0,.int .u64 0,.int .u64 0,.int .i64 2,.int .u64 0,.int .i64 0] 169)
  refine⟨2,root,0,0,0,0,0,B,L,by omega,rfl,hr.1,hr.2,⟨?_,?_,?_,?_,Fra.below b3⟩,h.below b3,hL⟩
  ·have:=C6.new ((w.alloc (.cells #[.pointer (some ⟨p,0,.none⟩),.int .u64 leaf] 248)).alloc (.cells #[.int .u64 0,.int .u64 0,.int .u64 0,.int .i64 0,.int .u64 0,.int .i64 0] 169)) (.int .u64 0) (.int .u64 0) (.int .u64 0) (.int .i64 2) (.int .u64 0) (.int .i64 0) 169
   rw[World.size_alloc,World.size_alloc] at this
   exact this
  ·have:=C6.new (w.alloc (.cells #[.pointer (some ⟨p,0,.none⟩),.int .u64 leaf] 248)) (.int .u64 0) (.int .u64 0) (.int .u64 0) (.int .i64 0) (.int .u64 0) (.int .i64 0) 169
   rw[World.size_alloc] at this
   exact this.below (below1 _ _)
  ·rw[World.cell?_alloc_past _ _ _ (by simp only[World.size_alloc];omega),World.cell?_alloc_past _ _ _ (by simp),World.cell?_alloc_at _ _ _ _ rfl]
   rfl
  ·rw[World.cell?_alloc_past _ _ _ (by simp only[World.size_alloc];omega),World.cell?_alloc_past _ _ _ (by simp),World.cell?_alloc_at _ _ _ _ rfl]
   rfl
 have H0:Hid (WY w p b m N va leaf B' L' (.int .u64 root) _):=h0
 clear h h0 hL hp hb hm
 go_enter Tryz.func179,Tryz.ntmps179
 go_wp2
 go_step3
 go_wp2
 go_step3
 go_wp2
 go_loopw [10] (fun v wr=>WY w p b m N va leaf B' L' v wr) (fun v wr=>match wr.cell? ⟨w.heap.size+1+1,3,.none⟩ with|some (.int _ l)=>l.toNat|_=>0)
 case atStart=>exact H0.out
 case round=>
  obtain⟨l,nd,a0,a1,a2,e,k,B1,L1,hl,rfl,hn0,hn1,hW,hR,hY⟩:=hrel
  have HW:Hid (LW w wr p b m leaf a0 a1 a2 l e k):=hW
  have HR:Hid (Ram wr p b m N B1 L1):=hR
  have hnd:ndB N L1 nd=true:=by
   cases l
   ·exact hY.1
   ·exact hY.1
  have c63:=fun W=>index_any va l hv (by omega) W
  have hix:=ix_b va l
  obtain⟨q1,q2,q3,q4⟩:=ndB_spec hnd
  have w1:IntKind.u64.wrap (ix va l*8)=ix va l*8:=by rw[IntKind.wrap_u64];omega
  have w2:IntKind.u64.wrap (nd+ix va l*8)=nd+ix va l*8:=by rw[IntKind.wrap_u64];omega
  have c64:=load_nd hR nd va l hnd
  have c65:=fun W=>mayBeNode_any nd ⟨hn0,hn1⟩ W
  have mb:decide (nd%4096=0∧nd≠2147483648)=true:=by simp;omega
  rw[mb] at c65
  have he:=ent_b hR.mem.bb nd va l
  obtain⟨z0,z1,z2,z3,z4,z5,y0,y1,y2,y3,y4,y5⟩:=hW.c
  have g0:=hW.g0
  have g1:=hW.g1
  clear mb q1 q2 q3 q4 hW hR H0
  have hl3:l=0∨l=1∨l=2:=by omega
  rcases hl3 with rfl|rfl|rfl
  ·skip
   have c105:∀ V1,Below wr.heap.size wr V1->Calls Tryz.prog 243 #[.agg #[.pointer (some ⟨p,0,.none⟩),.int .u64 leaf],.int .i64 0,.int .u64 (nd+ix va 0*8),.int .u64 (ent B1 nd va 0)] V1 fun r W'=>r = .returned (.tuple #[.int .u64 leaf,.bool true])∧Hid (LW w W' p b m leaf a0 a1 a2 0 e k∧Ram W' p b m N (over B1 (fi nd*4096+(ix va 0).toNat*8) (le leaf 8)) L1):=fun V1 hb1=>by
    have R1:=HR.out.below hb1
    have LW1:=HW.out.below HP.out.1 HP.out.2.1 HP.out.2.2 hb1
    refine(meetL_leaf R1 nd va leaf (ent B1 nd va 0) hnd hf he hY.2.1).mono ?_
    rintro r W' ⟨hr,hR,hF⟩
    exact⟨hr,LW1.fra HP.out.1 HP.out.2.1 HP.out.2.2 hF,hR⟩
   have c66:=fun W=>kind_any leaf 0 hf (by omega) W
   have HE:Hid (B'=(over B1 (fi nd*4096+(ix va 0).toNat*8) (le leaf 8))∧L'=L1):=⟨hY.2.2.1,hY.2.2.2⟩
   have hk9:¬ kd leaf 0=3:=kd0 leaf
   generalize kd leaf 0=kx at *
   obtain⟨nw,hnw⟩:∃ nw,nw=leaf:=⟨_,rfl⟩
   obtain⟨ii,hii⟩:∃ ii,ii=ix va 0:=⟨_,rfl⟩
   obtain⟨x,hx⟩:∃ x,x=ent B1 nd va 0:=⟨_,rfl⟩
   have c105':∀ V1,Below wr.heap.size wr V1->Calls Tryz.prog 243 #[.agg #[.pointer (some ⟨p,0,.none⟩),.int .u64 leaf],.int .i64 0,.int .u64 (nd+ii*8),.int .u64 x] V1 fun r W'=>r = .returned (.tuple #[.int .u64 nw,.bool true])∧Hid (LW w W' p b m leaf a0 a1 a2 0 e k∧Ram W' p b m N (over B1 (fi nd*4096+(ix va 0).toNat*8) (le leaf 8)) L1):=by rw[hnw,hii,hx];exact c105
   have c64':Calls Tryz.prog 152 #[.pointer (some ⟨p,0,.none⟩),.int .u64 (nd+ii*8),.int .i64 8] wr fun e w'=>e = .returned (.tuple #[.int .u64 x,.bool true])∧Below wr.heap.size wr w':=by rw[hii,hx];exact c64
   have c63':∀ W:World,Calls Tryz.prog 151 #[.int .u64 va,.int .i64 0] W fun e w'=>e = .returned (.int .u64 ii)∧w'=W:=by rw[hii];exact c63
   have c66':∀ W:World,Calls Tryz.prog 154 #[.int .u64 nw,.int .i64 0] W fun e w'=>e = .returned (.int .i64 kx)∧w'=W:=by rw[hnw];exact c66
   have w1':IntKind.u64.wrap (ii*8)=ii*8:=by rw[hii];exact w1
   have w2':IntKind.u64.wrap (nd+ii*8)=nd+ii*8:=by rw[hii];exact w2
   clear c105 c64 c63 c66 w1 w2 hnw hii hx hY hnd he hix
   go_upto_region 8 with(first|(go_at_call 151;refine(c63' _).mono ?_;rintro r wr ⟨rfl,rfl⟩)|(go_at_call 152;refine c64'.mono ?_;rintro r V1 ⟨rfl,hb1⟩;have LW1:=HW.out.below HP.out.1 HP.out.2.1 HP.out.2.2 hb1;clear z0 z1 z2 z3 z4 z5 y0 y1 y2 y3 y4 y5 g0 g1 c64';obtain⟨z0,z1,z2,z3,z4,z5,y0,y1,y2,y3,y4,y5⟩:=LW1.c;have g0:=LW1.g0;have g1:=LW1.g1;have c105x:=c105' V1 hb1;clear hb1 LW1 c105')|(go_at_call 153;refine(c65 _).mono ?_;rintro r V1 ⟨rfl,rfl⟩)|(go_at_call 243;refine c105x.mono ?_;rintro r V2 ⟨rfl,H2⟩))
   clear z0 z1 z2 z3 z4 z5 y0 y1 y2 y3 y4 y5 g0 g1 c105x
   obtain⟨z0,z1,z2,z3,z4,z5,y0,y1,y2,y3,y4,y5⟩:=H2.out.1.c
   have t1:(V2.setCell ⟨w.heap.size+1+1,0,.none⟩ (.int .u64 (nd+ii*8))).drew.cell? ⟨w.heap.size+1+1,3,.none⟩=some (.int .i64 0):=(zO (by simp)).trans z3
   have t2:((V2.setCell ⟨w.heap.size+1+1,0,.none⟩ (.int .u64 (nd+ii*8))).setCell ⟨w.heap.size+1+1,4,.none⟩ (.int .u64 nw)).drew.cell? ⟨w.heap.size+1+1,3,.none⟩=some (.int .i64 0):=(zO (by simp)).trans t1
   have t3:(((V2.setCell ⟨w.heap.size+1+1,0,.none⟩ (.int .u64 (nd+ii*8))).setCell ⟨w.heap.size+1+1,4,.none⟩ (.int .u64 nw)).setCell ⟨w.heap.size+1+1,5,.none⟩ (.int .i64 kx)).drew.cell? ⟨w.heap.size+1+1,3,.none⟩=some (.int .i64 0):=(zO (by simp)).trans t2
   go_region_held3 (fun W=>W.cell? ⟨w.heap.size+1+1,3,.none⟩=some (.int .i64 0)) (first|assumption) (first|(go_at_call 154;refine(c66' _).mono ?_;rintro r V2 ⟨rfl,rfl⟩))
   have C3:C6 (((V2.setCell ⟨w.heap.size+1+1,0,.none⟩ (.int .u64 (nd+ii*8))).setCell ⟨w.heap.size+1+1,4,.none⟩ (.int .u64 nw)).setCell ⟨w.heap.size+1+1,5,.none⟩ (.int .i64 kx)).drew (w.heap.size+1+1) (.int .u64 (nd+ii*8)) (.int .u64 a1) (.int .u64 a2) (.int .i64 0) (.int .u64 nw) (.int .i64 kx):=(H2.out.1.c.set045 _ _ _).drew
   have CR:C6 (((V2.setCell ⟨w.heap.size+1+1,0,.none⟩ (.int .u64 (nd+ii*8))).setCell ⟨w.heap.size+1+1,4,.none⟩ (.int .u64 nw)).setCell ⟨w.heap.size+1+1,5,.none⟩ (.int .i64 kx)).drew (w.heap.size+1) (.int .u64 0) (.int .u64 0) (.int .u64 0) (.int .i64 0) (.int .u64 0) (.int .i64 0):=(((H2.out.1.r.off (a:=⟨w.heap.size+1+1,0,.none⟩) (by simp) _).off (a:=⟨w.heap.size+1+1,4,.none⟩) (by simp) _).off (a:=⟨w.heap.size+1+1,5,.none⟩) (by simp) _).drew
   have G0:(((V2.setCell ⟨w.heap.size+1+1,0,.none⟩ (.int .u64 (nd+ii*8))).setCell ⟨w.heap.size+1+1,4,.none⟩ (.int .u64 nw)).setCell ⟨w.heap.size+1+1,5,.none⟩ (.int .i64 kx)).drew.cell? ⟨w.heap.size,0,.none⟩=some (.pointer (some ⟨p,0,.none⟩)):=(zO (by simp)).trans ((zO (by simp)).trans ((zO (by simp)).trans H2.out.1.g0))
   have G1:(((V2.setCell ⟨w.heap.size+1+1,0,.none⟩ (.int .u64 (nd+ii*8))).setCell ⟨w.heap.size+1+1,4,.none⟩ (.int .u64 nw)).setCell ⟨w.heap.size+1+1,5,.none⟩ (.int .i64 kx)).drew.cell? ⟨w.heap.size,1,.none⟩=some (.int .u64 leaf):=(zO (by simp)).trans ((zO (by simp)).trans ((zO (by simp)).trans H2.out.1.g1))
   have hpp:=HP.out
   have FR:Fra p b m w (((V2.setCell ⟨w.heap.size+1+1,0,.none⟩ (.int .u64 (nd+ii*8))).setCell ⟨w.heap.size+1+1,4,.none⟩ (.int .u64 nw)).setCell ⟨w.heap.size+1+1,5,.none⟩ (.int .i64 kx)).drew:=(((H2.out.1.f.beside ⟨w.heap.size+1+1,0,.none⟩ _ (by show w.heap.size<=w.heap.size+1+1;omega)).beside ⟨w.heap.size+1+1,4,.none⟩ _ (by show w.heap.size<=w.heap.size+1+1;omega)).beside ⟨w.heap.size+1+1,5,.none⟩ _ (by show w.heap.size<=w.heap.size+1+1;omega)).drewN 1
   have RR:Ram (((V2.setCell ⟨w.heap.size+1+1,0,.none⟩ (.int .u64 (nd+ii*8))).setCell ⟨w.heap.size+1+1,4,.none⟩ (.int .u64 nw)).setCell ⟨w.heap.size+1+1,5,.none⟩ (.int .i64 kx)).drew p b m N (over B1 (fi nd*4096+(ix va 0).toNat*8) (le leaf 8)) L1:=(((H2.out.2.beside ⟨w.heap.size+1+1,0,.none⟩ _ (by show p≠w.heap.size+1+1;omega) (by show b≠w.heap.size+1+1;omega) (by show m≠w.heap.size+1+1;omega)).beside ⟨w.heap.size+1+1,4,.none⟩ _ (by show p≠w.heap.size+1+1;omega) (by show b≠w.heap.size+1+1;omega) (by show m≠w.heap.size+1+1;omega)).beside ⟨w.heap.size+1+1,5,.none⟩ _ (by show p≠w.heap.size+1+1;omega) (by show b≠w.heap.size+1+1;omega) (by show m≠w.heap.size+1+1;omega)).drew
   clear t1 t2 t3 z0 z1 z2 z3 z4 z5 y0 y1 y2 y3 y4 y5 hpp
   have H3:Hid (LW w (((V2.setCell ⟨w.heap.size+1+1,0,.none⟩ (.int .u64 (nd+ii*8))).setCell ⟨w.heap.size+1+1,4,.none⟩ (.int .u64 nw)).setCell ⟨w.heap.size+1+1,5,.none⟩ (.int .i64 kx)).drew p b m leaf (nd+ii*8) a1 a2 0 nw kx∧Ram (((V2.setCell ⟨w.heap.size+1+1,0,.none⟩ (.int .u64 (nd+ii*8))).setCell ⟨w.heap.size+1+1,4,.none⟩ (.int .u64 nw)).setCell ⟨w.heap.size+1+1,5,.none⟩ (.int .i64 kx)).drew p b m N (over B1 (fi nd*4096+(ix va 0).toNat*8) (le leaf 8)) L1):=⟨⟨C3,CR,G0,G1,FR⟩,RR⟩
   clear C3 CR G0 G1 FR RR
   generalize (((V2.setCell ⟨w.heap.size+1+1,0,.none⟩ (.int .u64 (nd+ii*8))).setCell ⟨w.heap.size+1+1,4,.none⟩ (.int .u64 nw)).setCell ⟨w.heap.size+1+1,5,.none⟩ (.int .i64 kx)).drew=V3 at *
   obtain⟨z0,z1,z2,z3,z4,z5,y0,y1,y2,y3,y4,y5⟩:=H3.out.1.c
   obtain⟨r0,r1,r2,r3,r4,r5,s0,s1,s2,s3,s4,s5⟩:=H3.out.1.r
   go_wp2
   have hpp:=HP.out
   have CF:=H3.out.1.r.set (.int .u64 (nd+ii*8)) (.int .u64 a1) (.int .u64 a2) (.int .i64 0) (.int .u64 nw) (.int .i64 kx)
   have RF:=((((((H3.out.2.beside ⟨w.heap.size+1,0,.none⟩ (.int .u64 (nd+ii*8)) (by show p≠w.heap.size+1;omega) (by show b≠w.heap.size+1;omega) (by show m≠w.heap.size+1;omega)).beside ⟨w.heap.size+1,1,.none⟩ (.int .u64 a1) (by show p≠w.heap.size+1;omega) (by show b≠w.heap.size+1;omega) (by show m≠w.heap.size+1;omega)).beside ⟨w.heap.size+1,2,.none⟩ (.int .u64 a2) (by show p≠w.heap.size+1;omega) (by show b≠w.heap.size+1;omega) (by show m≠w.heap.size+1;omega)).beside ⟨w.heap.size+1,3,.none⟩ (.int .i64 0) (by show p≠w.heap.size+1;omega) (by show b≠w.heap.size+1;omega) (by show m≠w.heap.size+1;omega)).beside ⟨w.heap.size+1,4,.none⟩ (.int .u64 nw) (by show p≠w.heap.size+1;omega) (by show b≠w.heap.size+1;omega) (by show m≠w.heap.size+1;omega)).beside ⟨w.heap.size+1,5,.none⟩ (.int .i64 kx) (by show p≠w.heap.size+1;omega) (by show b≠w.heap.size+1;omega) (by show m≠w.heap.size+1;omega))
   have FF:=((((((H3.out.1.f.beside ⟨w.heap.size+1,0,.none⟩ (.int .u64 (nd+ii*8)) (by show w.heap.size<=w.heap.size+1;omega)).beside ⟨w.heap.size+1,1,.none⟩ (.int .u64 a1) (by show w.heap.size<=w.heap.size+1;omega)).beside ⟨w.heap.size+1,2,.none⟩ (.int .u64 a2) (by show w.heap.size<=w.heap.size+1;omega)).beside ⟨w.heap.size+1,3,.none⟩ (.int .i64 0) (by show w.heap.size<=w.heap.size+1;omega)).beside ⟨w.heap.size+1,4,.none⟩ (.int .u64 nw) (by show w.heap.size<=w.heap.size+1;omega)).beside ⟨w.heap.size+1,5,.none⟩ (.int .i64 kx) (by show w.heap.size<=w.heap.size+1;omega))
   generalize ((((((V3.setCell ⟨w.heap.size+1,0,.none⟩ (.int .u64 (nd+ii*8))).setCell ⟨w.heap.size+1,1,.none⟩ (.int .u64 a1)).setCell ⟨w.heap.size+1,2,.none⟩ (.int .u64 a2)).setCell ⟨w.heap.size+1,3,.none⟩ (.int .i64 0)).setCell ⟨w.heap.size+1,4,.none⟩ (.int .u64 nw)).setCell ⟨w.heap.size+1,5,.none⟩ (.int .i64 kx))=VF at *
   obtain⟨f0,f1,f2,f3,f4,f5,_,_,_,_,_,_⟩:=CF
   rw[Exit.noGoto_ret]
   refine bodyPost_ret (v:=.agg #[.int .u64 (nd+ii*8),.int .u64 a1,.int .u64 a2,.int .i64 0,.int .u64 nw,.int .i64 kx]) (by simp[results,Tryz.results179,go_sem,f0,f1,f2,f3,f4,f5]) rfl ⟨⟨_,rfl⟩,?_,FF⟩
   rw[HE.out.1,HE.out.2]
   exact RF
  ·rcases hY.2 with⟨hk3,hY2⟩|⟨hk0,i,L2,rfl,hn2,hY2⟩
   ·replace hk3:kd (ent B1 nd va 1) 1=3:=hk3
    replace hY2:Lays N va leaf 0 B1 L1 (adE (ent B1 nd va 1)) B' L':=hY2
    have c105:∀ V1,Below wr.heap.size wr V1->Calls Tryz.prog 243 #[.agg #[.pointer (some ⟨p,0,.none⟩),.int .u64 leaf],.int .i64 1,.int .u64 (nd+ix va 1*8),.int .u64 (ent B1 nd va 1)] V1 fun r W'=>r = .returned (.tuple #[.int .u64 (ent B1 nd va 1),.bool true])∧Hid (LW w W' p b m leaf a0 a1 a2 1 e k∧Ram W' p b m N B1 L1):=fun V1 hb1=>by
     have R1:=HR.out.below hb1
     have LW1:=HW.out.below HP.out.1 HP.out.2.1 HP.out.2.2 hb1
     refine(meetL_keep (some ⟨p,0,.none⟩) leaf 1 (nd+ix va 1*8) (ent B1 nd va 1) he (by omega) (by rw[hk3];omega) V1).mono ?_
     rintro r W' ⟨hr,hb2⟩
     exact⟨hr,LW1.below HP.out.1 HP.out.2.1 HP.out.2.2 hb2,R1.below hb2⟩
    have c66:=fun W=>kind_any (ent B1 nd va 1) 1 he (by omega) W
    simp only[hk3] at c66
    have c46:=fun W=>address_any (ent B1 nd va 1) W he
    have ad:=adE_b (ent B1 nd va 1)
    obtain⟨ax,hax⟩:∃ ax,ax=(adE (ent B1 nd va 1)):=⟨_,rfl⟩
    have HE:Hid (Lays N va leaf 0 B1 L1 ax B' L'):=by rw[hax];exact hY2
    rw[<-hax] at c46 ad
    obtain⟨nw,hnw⟩:∃ nw,nw=(ent B1 nd va 1):=⟨_,rfl⟩
    obtain⟨ii,hii⟩:∃ ii,ii=ix va 1:=⟨_,rfl⟩
    obtain⟨x,hx⟩:∃ x,x=ent B1 nd va 1:=⟨_,rfl⟩
    have c105':∀ V1,Below wr.heap.size wr V1->Calls Tryz.prog 243 #[.agg #[.pointer (some ⟨p,0,.none⟩),.int .u64 leaf],.int .i64 1,.int .u64 (nd+ii*8),.int .u64 x] V1 fun r W'=>r = .returned (.tuple #[.int .u64 nw,.bool true])∧Hid (LW w W' p b m leaf a0 a1 a2 1 e k∧Ram W' p b m N B1 L1):=by rw[hnw,hii,hx];exact c105
    have c64':Calls Tryz.prog 152 #[.pointer (some ⟨p,0,.none⟩),.int .u64 (nd+ii*8),.int .i64 8] wr fun e w'=>e = .returned (.tuple #[.int .u64 x,.bool true])∧Below wr.heap.size wr w':=by rw[hii,hx];exact c64
    have c63':∀ W:World,Calls Tryz.prog 151 #[.int .u64 va,.int .i64 1] W fun e w'=>e = .returned (.int .u64 ii)∧w'=W:=by rw[hii];exact c63
    have c66':∀ W:World,Calls Tryz.prog 154 #[.int .u64 nw,.int .i64 1] W fun e w'=>e = .returned (.int .i64 3)∧w'=W:=by rw[hnw];exact c66
    have c46':∀ W:World,Calls Tryz.prog 56 #[.int .u64 nw] W fun e w'=>e = .returned (.int .u64 ax)∧w'=W:=by rw[hnw];exact c46
    have w1':IntKind.u64.wrap (ii*8)=ii*8:=by rw[hii];exact w1
    have w2':IntKind.u64.wrap (nd+ii*8)=nd+ii*8:=by rw[hii];exact w2
    clear c105 c64 c63 c66 w1 w2 hnw hii hx hY hnd he hix c46 hax hk3 hY2
    go_upto_region 8 with(first|(go_at_call 151;refine(c63' _).mono ?_;rintro r wr ⟨rfl,rfl⟩)|(go_at_call 152;refine c64'.mono ?_;rintro r V1 ⟨rfl,hb1⟩;have LW1:=HW.out.below HP.out.1 HP.out.2.1 HP.out.2.2 hb1;clear z0 z1 z2 z3 z4 z5 y0 y1 y2 y3 y4 y5 g0 g1 c64';obtain⟨z0,z1,z2,z3,z4,z5,y0,y1,y2,y3,y4,y5⟩:=LW1.c;have g0:=LW1.g0;have g1:=LW1.g1;have c105x:=c105' V1 hb1;clear hb1 LW1 c105')|(go_at_call 153;refine(c65 _).mono ?_;rintro r V1 ⟨rfl,rfl⟩)|(go_at_call 243;refine c105x.mono ?_;rintro r V2 ⟨rfl,H2⟩))
    clear z0 z1 z2 z3 z4 z5 y0 y1 y2 y3 y4 y5 g0 g1 c105x
    obtain⟨z0,z1,z2,z3,z4,z5,y0,y1,y2,y3,y4,y5⟩:=H2.out.1.c
    have t1:(V2.setCell ⟨w.heap.size+1+1,1,.none⟩ (.int .u64 (nd+ii*8))).drew.cell? ⟨w.heap.size+1+1,3,.none⟩=some (.int .i64 1):=(zO (by simp)).trans z3
    have t2:((V2.setCell ⟨w.heap.size+1+1,1,.none⟩ (.int .u64 (nd+ii*8))).setCell ⟨w.heap.size+1+1,4,.none⟩ (.int .u64 nw)).drew.cell? ⟨w.heap.size+1+1,3,.none⟩=some (.int .i64 1):=(zO (by simp)).trans t1
    have t3:(((V2.setCell ⟨w.heap.size+1+1,1,.none⟩ (.int .u64 (nd+ii*8))).setCell ⟨w.heap.size+1+1,4,.none⟩ (.int .u64 nw)).setCell ⟨w.heap.size+1+1,5,.none⟩ (.int .i64 3)).drew.cell? ⟨w.heap.size+1+1,3,.none⟩=some (.int .i64 1):=(zO (by simp)).trans t2
    go_region_held3 (fun W=>W.cell? ⟨w.heap.size+1+1,3,.none⟩=some (.int .i64 1)) (first|assumption) (first|(go_at_call 154;refine(c66' _).mono ?_;rintro r V2 ⟨rfl,rfl⟩))
    have C3:C6 (((V2.setCell ⟨w.heap.size+1+1,1,.none⟩ (.int .u64 (nd+ii*8))).setCell ⟨w.heap.size+1+1,4,.none⟩ (.int .u64 nw)).setCell ⟨w.heap.size+1+1,5,.none⟩ (.int .i64 3)).drew (w.heap.size+1+1) (.int .u64 a0) (.int .u64 (nd+ii*8)) (.int .u64 a2) (.int .i64 1) (.int .u64 nw) (.int .i64 3):=(H2.out.1.c.set145 _ _ _).drew
    have CR:C6 (((V2.setCell ⟨w.heap.size+1+1,1,.none⟩ (.int .u64 (nd+ii*8))).setCell ⟨w.heap.size+1+1,4,.none⟩ (.int .u64 nw)).setCell ⟨w.heap.size+1+1,5,.none⟩ (.int .i64 3)).drew (w.heap.size+1) (.int .u64 0) (.int .u64 0) (.int .u64 0) (.int .i64 0) (.int .u64 0) (.int .i64 0):=(((H2.out.1.r.off (a:=⟨w.heap.size+1+1,1,.none⟩) (by simp) _).off (a:=⟨w.heap.size+1+1,4,.none⟩) (by simp) _).off (a:=⟨w.heap.size+1+1,5,.none⟩) (by simp) _).drew
    have G0:(((V2.setCell ⟨w.heap.size+1+1,1,.none⟩ (.int .u64 (nd+ii*8))).setCell ⟨w.heap.size+1+1,4,.none⟩ (.int .u64 nw)).setCell ⟨w.heap.size+1+1,5,.none⟩ (.int .i64 3)).drew.cell? ⟨w.heap.size,0,.none⟩=some (.pointer (some ⟨p,0,.none⟩)):=(zO (by simp)).trans ((zO (by simp)).trans ((zO (by simp)).trans H2.out.1.g0))
    have G1:(((V2.setCell ⟨w.heap.size+1+1,1,.none⟩ (.int .u64 (nd+ii*8))).setCell ⟨w.heap.size+1+1,4,.none⟩ (.int .u64 nw)).setCell ⟨w.heap.size+1+1,5,.none⟩ (.int .i64 3)).drew.cell? ⟨w.heap.size,1,.none⟩=some (.int .u64 leaf):=(zO (by simp)).trans ((zO (by simp)).trans ((zO (by simp)).trans H2.out.1.g1))
    have hpp:=HP.out
    have FR:Fra p b m w (((V2.setCell ⟨w.heap.size+1+1,1,.none⟩ (.int .u64 (nd+ii*8))).setCell ⟨w.heap.size+1+1,4,.none⟩ (.int .u64 nw)).setCell ⟨w.heap.size+1+1,5,.none⟩ (.int .i64 3)).drew:=(((H2.out.1.f.beside ⟨w.heap.size+1+1,1,.none⟩ _ (by show w.heap.size<=w.heap.size+1+1;omega)).beside ⟨w.heap.size+1+1,4,.none⟩ _ (by show w.heap.size<=w.heap.size+1+1;omega)).beside ⟨w.heap.size+1+1,5,.none⟩ _ (by show w.heap.size<=w.heap.size+1+1;omega)).drewN 1
    have RR:Ram (((V2.setCell ⟨w.heap.size+1+1,1,.none⟩ (.int .u64 (nd+ii*8))).setCell ⟨w.heap.size+1+1,4,.none⟩ (.int .u64 nw)).setCell ⟨w.heap.size+1+1,5,.none⟩ (.int .i64 3)).drew p b m N B1 L1:=(((H2.out.2.beside ⟨w.heap.size+1+1,1,.none⟩ _ (by show p≠w.heap.size+1+1;omega) (by show b≠w.heap.size+1+1;omega) (by show m≠w.heap.size+1+1;omega)).beside ⟨w.heap.size+1+1,4,.none⟩ _ (by show p≠w.heap.size+1+1;omega) (by show b≠w.heap.size+1+1;omega) (by show m≠w.heap.size+1+1;omega)).beside ⟨w.heap.size+1+1,5,.none⟩ _ (by show p≠w.heap.size+1+1;omega) (by show b≠w.heap.size+1+1;omega) (by show m≠w.heap.size+1+1;omega)).drew
    clear t1 t2 t3 z0 z1 z2 z3 z4 z5 y0 y1 y2 y3 y4 y5 hpp
    have H3:Hid (LW w (((V2.setCell ⟨w.heap.size+1+1,1,.none⟩ (.int .u64 (nd+ii*8))).setCell ⟨w.heap.size+1+1,4,.none⟩ (.int .u64 nw)).setCell ⟨w.heap.size+1+1,5,.none⟩ (.int .i64 3)).drew p b m leaf a0 (nd+ii*8) a2 1 nw 3∧Ram (((V2.setCell ⟨w.heap.size+1+1,1,.none⟩ (.int .u64 (nd+ii*8))).setCell ⟨w.heap.size+1+1,4,.none⟩ (.int .u64 nw)).setCell ⟨w.heap.size+1+1,5,.none⟩ (.int .i64 3)).drew p b m N B1 L1):=⟨⟨C3,CR,G0,G1,FR⟩,RR⟩
    clear C3 CR G0 G1 FR RR
    generalize (((V2.setCell ⟨w.heap.size+1+1,1,.none⟩ (.int .u64 (nd+ii*8))).setCell ⟨w.heap.size+1+1,4,.none⟩ (.int .u64 nw)).setCell ⟨w.heap.size+1+1,5,.none⟩ (.int .i64 3)).drew=V3 at *
    obtain⟨z0,z1,z2,z3,z4,z5,y0,y1,y2,y3,y4,y5⟩:=H3.out.1.c
    have hpp:=HP.out
    have H9:Hid (WY w p b m N va leaf B' L' (.int .u64 ax) (V3.setCell ⟨w.heap.size+1+1,3,.none⟩ (.int .i64 0))∧(V3.setCell ⟨w.heap.size+1+1,3,.none⟩ (.int .i64 0)).cell? ⟨w.heap.size+1+1,3,.none⟩=some (.int .i64 0)∧wr.cell? ⟨w.heap.size+1+1,3,.none⟩=some (.int .i64 1)):=⟨⟨0,ax,a0,(nd+ii*8),a2,nw,3,B1,L1,by omega,rfl,ad.1,ad.2,⟨H3.out.1.c.one3 _,H3.out.1.r.off (a:=⟨w.heap.size+1+1,3,.none⟩) (by simp) _,(zO (by simp)).trans H3.out.1.g0,(zO (by simp)).trans H3.out.1.g1,H3.out.1.f.beside ⟨w.heap.size+1+1,3,.none⟩ _ (by show w.heap.size<=w.heap.size+1+1;omega)⟩,H3.out.2.beside ⟨w.heap.size+1+1,3,.none⟩ _ (by show p≠w.heap.size+1+1;omega) (by show b≠w.heap.size+1+1;omega) (by show m≠w.heap.size+1+1;omega),HE.out⟩,(H3.out.1.c.one3 _).c3,HW.out.c.c3⟩
    clear hpp
    go_wp2_with (first|(go_at_call 56;refine(c46' _).mono ?_;rintro r V3 ⟨rfl,rfl⟩)|fail)
    refine⟨H9.out.1,?_⟩
    rw[H9.out.2.1,H9.out.2.2]
    simp
   ·replace hk0:kd (ent B1 nd va 1) 1=0:=hk0
    replace hY2:Lays N va leaf 0 (over (zer B1 i) (fi nd*4096+(ix va 1).toNat*8) (le (toP (2147483648+i*4096) 0) 8)) L2 (2147483648+(i:Int)*4096) B' L':=hY2
    have h9:=HR.out.lt i (by simp)
    have c105:∀ V1,Below wr.heap.size wr V1->Calls Tryz.prog 243 #[.agg #[.pointer (some ⟨p,0,.none⟩),.int .u64 leaf],.int .i64 1,.int .u64 (nd+ix va 1*8),.int .u64 (ent B1 nd va 1)] V1 fun r W'=>r = .returned (.tuple #[.int .u64 (toP (2147483648+(i:Int)*4096) 0),.bool true])∧Hid (LW w W' p b m leaf a0 a1 a2 1 e k∧Ram W' p b m N (over (zer B1 i) (fi nd*4096+(ix va 1).toNat*8) (le (toP (2147483648+i*4096) 0) 8)) L2):=fun V1 hb1=>by
     have R1:=HR.out.below hb1
     have LW1:=HW.out.below HP.out.1 HP.out.2.1 HP.out.2.2 hb1
     refine(meetL_node R1 nd va leaf 1 (ent B1 nd va 1) (by omega) hn2 he hk0).mono ?_
     rintro r W' ⟨hr,hR,hF⟩
     exact⟨hr,LW1.fra HP.out.1 HP.out.2.1 HP.out.2.2 hF,hR⟩
    have hia:=h9
    have tb:=toP_b (2147483648+(i:Int)*4096) 0
    have c66:=fun W=>kind_any (toP (2147483648+(i:Int)*4096) 0) 1 tb (by omega) W
    have hk9:=kd_node (2147483648+(i:Int)*4096) 1 (by omega) (by omega)
    simp only[hk9] at c66
    have c46:=fun W=>address_any (toP (2147483648+(i:Int)*4096) 0) W tb
    rw[adE_toP (2147483648+(i:Int)*4096) 0 (by omega) (by omega) (by omega) (by omega)] at c46
    obtain⟨ax,hax⟩:∃ ax,ax=(2147483648+(i:Int)*4096):=⟨_,rfl⟩
    have HE:Hid (Lays N va leaf 0 (over (zer B1 i) (fi nd*4096+(ix va 1).toNat*8) (le (toP (2147483648+i*4096) 0) 8)) L2 ax B' L'):=by
     have hY3:=hY2
     rw[hax]
     exact hY3
    have ad:0<=ax∧ax<18446744073709551616:=by rw[hax];omega
    obtain⟨nw,hnw⟩:∃ nw,nw=(toP (2147483648+(i:Int)*4096) 0):=⟨_,rfl⟩
    obtain⟨ii,hii⟩:∃ ii,ii=ix va 1:=⟨_,rfl⟩
    obtain⟨x,hx⟩:∃ x,x=ent B1 nd va 1:=⟨_,rfl⟩
    have c105':∀ V1,Below wr.heap.size wr V1->Calls Tryz.prog 243 #[.agg #[.pointer (some ⟨p,0,.none⟩),.int .u64 leaf],.int .i64 1,.int .u64 (nd+ii*8),.int .u64 x] V1 fun r W'=>r = .returned (.tuple #[.int .u64 nw,.bool true])∧Hid (LW w W' p b m leaf a0 a1 a2 1 e k∧Ram W' p b m N (over (zer B1 i) (fi nd*4096+(ix va 1).toNat*8) (le (toP (2147483648+i*4096) 0) 8)) L2):=by rw[hnw,hii,hx];exact c105
    have c64':Calls Tryz.prog 152 #[.pointer (some ⟨p,0,.none⟩),.int .u64 (nd+ii*8),.int .i64 8] wr fun e w'=>e = .returned (.tuple #[.int .u64 x,.bool true])∧Below wr.heap.size wr w':=by rw[hii,hx];exact c64
    have c63':∀ W:World,Calls Tryz.prog 151 #[.int .u64 va,.int .i64 1] W fun e w'=>e = .returned (.int .u64 ii)∧w'=W:=by rw[hii];exact c63
    have c66':∀ W:World,Calls Tryz.prog 154 #[.int .u64 nw,.int .i64 1] W fun e w'=>e = .returned (.int .i64 3)∧w'=W:=by rw[hnw];exact c66
    have c46':∀ W:World,Calls Tryz.prog 56 #[.int .u64 nw] W fun e w'=>e = .returned (.int .u64 ax)∧w'=W:=by rw[hnw,hax];exact c46
    have w1':IntKind.u64.wrap (ii*8)=ii*8:=by rw[hii];exact w1
    have w2':IntKind.u64.wrap (nd+ii*8)=nd+ii*8:=by rw[hii];exact w2
    clear c105 c64 c63 c66 w1 w2 hnw hii hx hY hnd he hix c46 hax hk0 hY2 hn2 hk9 hia h9 tb
    go_upto_region 8 with(first|(go_at_call 151;refine(c63' _).mono ?_;rintro r wr ⟨rfl,rfl⟩)|(go_at_call 152;refine c64'.mono ?_;rintro r V1 ⟨rfl,hb1⟩;have LW1:=HW.out.below HP.out.1 HP.out.2.1 HP.out.2.2 hb1;clear z0 z1 z2 z3 z4 z5 y0 y1 y2 y3 y4 y5 g0 g1 c64';obtain⟨z0,z1,z2,z3,z4,z5,y0,y1,y2,y3,y4,y5⟩:=LW1.c;have g0:=LW1.g0;have g1:=LW1.g1;have c105x:=c105' V1 hb1;clear hb1 LW1 c105')|(go_at_call 153;refine(c65 _).mono ?_;rintro r V1 ⟨rfl,rfl⟩)|(go_at_call 243;refine c105x.mono ?_;rintro r V2 ⟨rfl,H2⟩))
    clear z0 z1 z2 z3 z4 z5 y0 y1 y2 y3 y4 y5 g0 g1 c105x
    obtain⟨z0,z1,z2,z3,z4,z5,y0,y1,y2,y3,y4,y5⟩:=H2.out.1.c
    have t1:(V2.setCell ⟨w.heap.size+1+1,1,.none⟩ (.int .u64 (nd+ii*8))).drew.cell? ⟨w.heap.size+1+1,3,.none⟩=some (.int .i64 1):=(zO (by simp)).trans z3
    have t2:((V2.setCell ⟨w.heap.size+1+1,1,.none⟩ (.int .u64 (nd+ii*8))).setCell ⟨w.heap.size+1+1,4,.none⟩ (.int .u64 nw)).drew.cell? ⟨w.heap.size+1+1,3,.none⟩=some (.int .i64 1):=(zO (by simp)).trans t1
    have t3:(((V2.setCell ⟨w.heap.size+1+1,1,.none⟩ (.int .u64 (nd+ii*8))).setCell ⟨w.heap.size+1+1,4,.none⟩ (.int .u64 nw)).setCell ⟨w.heap.size+1+1,5,.none⟩ (.int .i64 3)).drew.cell? ⟨w.heap.size+1+1,3,.none⟩=some (.int .i64 1):=(zO (by simp)).trans t2
    go_region_held3 (fun W=>W.cell? ⟨w.heap.size+1+1,3,.none⟩=some (.int .i64 1)) (first|assumption) (first|(go_at_call 154;refine(c66' _).mono ?_;rintro r V2 ⟨rfl,rfl⟩))
    have C3:C6 (((V2.setCell ⟨w.heap.size+1+1,1,.none⟩ (.int .u64 (nd+ii*8))).setCell ⟨w.heap.size+1+1,4,.none⟩ (.int .u64 nw)).setCell ⟨w.heap.size+1+1,5,.none⟩ (.int .i64 3)).drew (w.heap.size+1+1) (.int .u64 a0) (.int .u64 (nd+ii*8)) (.int .u64 a2) (.int .i64 1) (.int .u64 nw) (.int .i64 3):=(H2.out.1.c.set145 _ _ _).drew
    have CR:C6 (((V2.setCell ⟨w.heap.size+1+1,1,.none⟩ (.int .u64 (nd+ii*8))).setCell ⟨w.heap.size+1+1,4,.none⟩ (.int .u64 nw)).setCell ⟨w.heap.size+1+1,5,.none⟩ (.int .i64 3)).drew (w.heap.size+1) (.int .u64 0) (.int .u64 0) (.int .u64 0) (.int .i64 0) (.int .u64 0) (.int .i64 0):=(((H2.out.1.r.off (a:=⟨w.heap.size+1+1,1,.none⟩) (by simp) _).off (a:=⟨w.heap.size+1+1,4,.none⟩) (by simp) _).off (a:=⟨w.heap.size+1+1,5,.none⟩) (by simp) _).drew
    have G0:(((V2.setCell ⟨w.heap.size+1+1,1,.none⟩ (.int .u64 (nd+ii*8))).setCell ⟨w.heap.size+1+1,4,.none⟩ (.int .u64 nw)).setCell ⟨w.heap.size+1+1,5,.none⟩ (.int .i64 3)).drew.cell? ⟨w.heap.size,0,.none⟩=some (.pointer (some ⟨p,0,.none⟩)):=(zO (by simp)).trans ((zO (by simp)).trans ((zO (by simp)).trans H2.out.1.g0))
    have G1:(((V2.setCell ⟨w.heap.size+1+1,1,.none⟩ (.int .u64 (nd+ii*8))).setCell ⟨w.heap.size+1+1,4,.none⟩ (.int .u64 nw)).setCell ⟨w.heap.size+1+1,5,.none⟩ (.int .i64 3)).drew.cell? ⟨w.heap.size,1,.none⟩=some (.int .u64 leaf):=(zO (by simp)).trans ((zO (by simp)).trans ((zO (by simp)).trans H2.out.1.g1))
    have hpp:=HP.out
    have FR:Fra p b m w (((V2.setCell ⟨w.heap.size+1+1,1,.none⟩ (.int .u64 (nd+ii*8))).setCell ⟨w.heap.size+1+1,4,.none⟩ (.int .u64 nw)).setCell ⟨w.heap.size+1+1,5,.none⟩ (.int .i64 3)).drew:=(((H2.out.1.f.beside ⟨w.heap.size+1+1,1,.none⟩ _ (by show w.heap.size<=w.heap.size+1+1;omega)).beside ⟨w.heap.size+1+1,4,.none⟩ _ (by show w.heap.size<=w.heap.size+1+1;omega)).beside ⟨w.heap.size+1+1,5,.none⟩ _ (by show w.heap.size<=w.heap.size+1+1;omega)).drewN 1
    have RR:Ram (((V2.setCell ⟨w.heap.size+1+1,1,.none⟩ (.int .u64 (nd+ii*8))).setCell ⟨w.heap.size+1+1,4,.none⟩ (.int .u64 nw)).setCell ⟨w.heap.size+1+1,5,.none⟩ (.int .i64 3)).drew p b m N (over (zer B1 i) (fi nd*4096+(ix va 1).toNat*8) (le (toP (2147483648+i*4096) 0) 8)) L2:=(((H2.out.2.beside ⟨w.heap.size+1+1,1,.none⟩ _ (by show p≠w.heap.size+1+1;omega) (by show b≠w.heap.size+1+1;omega) (by show m≠w.heap.size+1+1;omega)).beside ⟨w.heap.size+1+1,4,.none⟩ _ (by show p≠w.heap.size+1+1;omega) (by show b≠w.heap.size+1+1;omega) (by show m≠w.heap.size+1+1;omega)).beside ⟨w.heap.size+1+1,5,.none⟩ _ (by show p≠w.heap.size+1+1;omega) (by show b≠w.heap.size+1+1;omega) (by show m≠w.heap.size+1+1;omega)).drew
    clear t1 t2 t3 z0 z1 z2 z3 z4 z5 y0 y1 y2 y3 y4 y5 hpp
    have H3:Hid (LW w (((V2.setCell ⟨w.heap.size+1+1,1,.none⟩ (.int .u64 (nd+ii*8))).setCell ⟨w.heap.size+1+1,4,.none⟩ (.int .u64 nw)).setCell ⟨w.heap.size+1+1,5,.none⟩ (.int .i64 3)).drew p b m leaf a0 (nd+ii*8) a2 1 nw 3∧Ram (((V2.setCell ⟨w.heap.size+1+1,1,.none⟩ (.int .u64 (nd+ii*8))).setCell ⟨w.heap.size+1+1,4,.none⟩ (.int .u64 nw)).setCell ⟨w.heap.size+1+1,5,.none⟩ (.int .i64 3)).drew p b m N (over (zer B1 i) (fi nd*4096+(ix va 1).toNat*8) (le (toP (2147483648+i*4096) 0) 8)) L2):=⟨⟨C3,CR,G0,G1,FR⟩,RR⟩
    clear C3 CR G0 G1 FR RR
    generalize (((V2.setCell ⟨w.heap.size+1+1,1,.none⟩ (.int .u64 (nd+ii*8))).setCell ⟨w.heap.size+1+1,4,.none⟩ (.int .u64 nw)).setCell ⟨w.heap.size+1+1,5,.none⟩ (.int .i64 3)).drew=V3 at *
    obtain⟨z0,z1,z2,z3,z4,z5,y0,y1,y2,y3,y4,y5⟩:=H3.out.1.c
    have hpp:=HP.out
    have H9:Hid (WY w p b m N va leaf B' L' (.int .u64 ax) (V3.setCell ⟨w.heap.size+1+1,3,.none⟩ (.int .i64 0))∧(V3.setCell ⟨w.heap.size+1+1,3,.none⟩ (.int .i64 0)).cell? ⟨w.heap.size+1+1,3,.none⟩=some (.int .i64 0)∧wr.cell? ⟨w.heap.size+1+1,3,.none⟩=some (.int .i64 1)):=⟨⟨0,ax,a0,(nd+ii*8),a2,nw,3,(over (zer B1 i) (fi nd*4096+(ix va 1).toNat*8) (le (toP (2147483648+i*4096) 0) 8)),L2,by omega,rfl,ad.1,ad.2,⟨H3.out.1.c.one3 _,H3.out.1.r.off (a:=⟨w.heap.size+1+1,3,.none⟩) (by simp) _,(zO (by simp)).trans H3.out.1.g0,(zO (by simp)).trans H3.out.1.g1,H3.out.1.f.beside ⟨w.heap.size+1+1,3,.none⟩ _ (by show w.heap.size<=w.heap.size+1+1;omega)⟩,H3.out.2.beside ⟨w.heap.size+1+1,3,.none⟩ _ (by show p≠w.heap.size+1+1;omega) (by show b≠w.heap.size+1+1;omega) (by show m≠w.heap.size+1+1;omega),HE.out⟩,(H3.out.1.c.one3 _).c3,HW.out.c.c3⟩
    clear hpp
    go_wp2_with (first|(go_at_call 56;refine(c46' _).mono ?_;rintro r V3 ⟨rfl,rfl⟩)|fail)
    refine⟨H9.out.1,?_⟩
    rw[H9.out.2.1,H9.out.2.2]
    simp
  ·rcases hY.2 with⟨hk3,hY2⟩|⟨hk0,i,L2,rfl,hn2,hY2⟩
   ·replace hk3:kd (ent B1 nd va 2) 2=3:=hk3
    replace hY2:Lays N va leaf 1 B1 L1 (adE (ent B1 nd va 2)) B' L':=hY2
    have c105:∀ V1,Below wr.heap.size wr V1->Calls Tryz.prog 243 #[.agg #[.pointer (some ⟨p,0,.none⟩),.int .u64 leaf],.int .i64 2,.int .u64 (nd+ix va 2*8),.int .u64 (ent B1 nd va 2)] V1 fun r W'=>r = .returned (.tuple #[.int .u64 (ent B1 nd va 2),.bool true])∧Hid (LW w W' p b m leaf a0 a1 a2 2 e k∧Ram W' p b m N B1 L1):=fun V1 hb1=>by
     have R1:=HR.out.below hb1
     have LW1:=HW.out.below HP.out.1 HP.out.2.1 HP.out.2.2 hb1
     refine(meetL_keep (some ⟨p,0,.none⟩) leaf 2 (nd+ix va 2*8) (ent B1 nd va 2) he (by omega) (by rw[hk3];omega) V1).mono ?_
     rintro r W' ⟨hr,hb2⟩
     exact⟨hr,LW1.below HP.out.1 HP.out.2.1 HP.out.2.2 hb2,R1.below hb2⟩
    have c66:=fun W=>kind_any (ent B1 nd va 2) 2 he (by omega) W
    simp only[hk3] at c66
    have c46:=fun W=>address_any (ent B1 nd va 2) W he
    have ad:=adE_b (ent B1 nd va 2)
    obtain⟨ax,hax⟩:∃ ax,ax=(adE (ent B1 nd va 2)):=⟨_,rfl⟩
    have HE:Hid (Lays N va leaf 1 B1 L1 ax B' L'):=by rw[hax];exact hY2
    rw[<-hax] at c46 ad
    obtain⟨nw,hnw⟩:∃ nw,nw=(ent B1 nd va 2):=⟨_,rfl⟩
    obtain⟨ii,hii⟩:∃ ii,ii=ix va 2:=⟨_,rfl⟩
    obtain⟨x,hx⟩:∃ x,x=ent B1 nd va 2:=⟨_,rfl⟩
    have c105':∀ V1,Below wr.heap.size wr V1->Calls Tryz.prog 243 #[.agg #[.pointer (some ⟨p,0,.none⟩),.int .u64 leaf],.int .i64 2,.int .u64 (nd+ii*8),.int .u64 x] V1 fun r W'=>r = .returned (.tuple #[.int .u64 nw,.bool true])∧Hid (LW w W' p b m leaf a0 a1 a2 2 e k∧Ram W' p b m N B1 L1):=by rw[hnw,hii,hx];exact c105
    have c64':Calls Tryz.prog 152 #[.pointer (some ⟨p,0,.none⟩),.int .u64 (nd+ii*8),.int .i64 8] wr fun e w'=>e = .returned (.tuple #[.int .u64 x,.bool true])∧Below wr.heap.size wr w':=by rw[hii,hx];exact c64
    have c63':∀ W:World,Calls Tryz.prog 151 #[.int .u64 va,.int .i64 2] W fun e w'=>e = .returned (.int .u64 ii)∧w'=W:=by rw[hii];exact c63
    have c66':∀ W:World,Calls Tryz.prog 154 #[.int .u64 nw,.int .i64 2] W fun e w'=>e = .returned (.int .i64 3)∧w'=W:=by rw[hnw];exact c66
    have c46':∀ W:World,Calls Tryz.prog 56 #[.int .u64 nw] W fun e w'=>e = .returned (.int .u64 ax)∧w'=W:=by rw[hnw];exact c46
    have w1':IntKind.u64.wrap (ii*8)=ii*8:=by rw[hii];exact w1
    have w2':IntKind.u64.wrap (nd+ii*8)=nd+ii*8:=by rw[hii];exact w2
    clear c105 c64 c63 c66 w1 w2 hnw hii hx hY hnd he hix c46 hax hk3 hY2
    go_upto_region 8 with(first|(go_at_call 151;refine(c63' _).mono ?_;rintro r wr ⟨rfl,rfl⟩)|(go_at_call 152;refine c64'.mono ?_;rintro r V1 ⟨rfl,hb1⟩;have LW1:=HW.out.below HP.out.1 HP.out.2.1 HP.out.2.2 hb1;clear z0 z1 z2 z3 z4 z5 y0 y1 y2 y3 y4 y5 g0 g1 c64';obtain⟨z0,z1,z2,z3,z4,z5,y0,y1,y2,y3,y4,y5⟩:=LW1.c;have g0:=LW1.g0;have g1:=LW1.g1;have c105x:=c105' V1 hb1;clear hb1 LW1 c105')|(go_at_call 153;refine(c65 _).mono ?_;rintro r V1 ⟨rfl,rfl⟩)|(go_at_call 243;refine c105x.mono ?_;rintro r V2 ⟨rfl,H2⟩))
    clear z0 z1 z2 z3 z4 z5 y0 y1 y2 y3 y4 y5 g0 g1 c105x
    obtain⟨z0,z1,z2,z3,z4,z5,y0,y1,y2,y3,y4,y5⟩:=H2.out.1.c
    have t1:(V2.setCell ⟨w.heap.size+1+1,2,.none⟩ (.int .u64 (nd+ii*8))).drew.cell? ⟨w.heap.size+1+1,3,.none⟩=some (.int .i64 2):=(zO (by simp)).trans z3
    have t2:((V2.setCell ⟨w.heap.size+1+1,2,.none⟩ (.int .u64 (nd+ii*8))).setCell ⟨w.heap.size+1+1,4,.none⟩ (.int .u64 nw)).drew.cell? ⟨w.heap.size+1+1,3,.none⟩=some (.int .i64 2):=(zO (by simp)).trans t1
    have t3:(((V2.setCell ⟨w.heap.size+1+1,2,.none⟩ (.int .u64 (nd+ii*8))).setCell ⟨w.heap.size+1+1,4,.none⟩ (.int .u64 nw)).setCell ⟨w.heap.size+1+1,5,.none⟩ (.int .i64 3)).drew.cell? ⟨w.heap.size+1+1,3,.none⟩=some (.int .i64 2):=(zO (by simp)).trans t2
    go_region_held3 (fun W=>W.cell? ⟨w.heap.size+1+1,3,.none⟩=some (.int .i64 2)) (first|assumption) (first|(go_at_call 154;refine(c66' _).mono ?_;rintro r V2 ⟨rfl,rfl⟩))
    have C3:C6 (((V2.setCell ⟨w.heap.size+1+1,2,.none⟩ (.int .u64 (nd+ii*8))).setCell ⟨w.heap.size+1+1,4,.none⟩ (.int .u64 nw)).setCell ⟨w.heap.size+1+1,5,.none⟩ (.int .i64 3)).drew (w.heap.size+1+1) (.int .u64 a0) (.int .u64 a1) (.int .u64 (nd+ii*8)) (.int .i64 2) (.int .u64 nw) (.int .i64 3):=(H2.out.1.c.set245 _ _ _).drew
    have CR:C6 (((V2.setCell ⟨w.heap.size+1+1,2,.none⟩ (.int .u64 (nd+ii*8))).setCell ⟨w.heap.size+1+1,4,.none⟩ (.int .u64 nw)).setCell ⟨w.heap.size+1+1,5,.none⟩ (.int .i64 3)).drew (w.heap.size+1) (.int .u64 0) (.int .u64 0) (.int .u64 0) (.int .i64 0) (.int .u64 0) (.int .i64 0):=(((H2.out.1.r.off (a:=⟨w.heap.size+1+1,2,.none⟩) (by simp) _).off (a:=⟨w.heap.size+1+1,4,.none⟩) (by simp) _).off (a:=⟨w.heap.size+1+1,5,.none⟩) (by simp) _).drew
    have G0:(((V2.setCell ⟨w.heap.size+1+1,2,.none⟩ (.int .u64 (nd+ii*8))).setCell ⟨w.heap.size+1+1,4,.none⟩ (.int .u64 nw)).setCell ⟨w.heap.size+1+1,5,.none⟩ (.int .i64 3)).drew.cell? ⟨w.heap.size,0,.none⟩=some (.pointer (some ⟨p,0,.none⟩)):=(zO (by simp)).trans ((zO (by simp)).trans ((zO (by simp)).trans H2.out.1.g0))
    have G1:(((V2.setCell ⟨w.heap.size+1+1,2,.none⟩ (.int .u64 (nd+ii*8))).setCell ⟨w.heap.size+1+1,4,.none⟩ (.int .u64 nw)).setCell ⟨w.heap.size+1+1,5,.none⟩ (.int .i64 3)).drew.cell? ⟨w.heap.size,1,.none⟩=some (.int .u64 leaf):=(zO (by simp)).trans ((zO (by simp)).trans ((zO (by simp)).trans H2.out.1.g1))
    have hpp:=HP.out
    have FR:Fra p b m w (((V2.setCell ⟨w.heap.size+1+1,2,.none⟩ (.int .u64 (nd+ii*8))).setCell ⟨w.heap.size+1+1,4,.none⟩ (.int .u64 nw)).setCell ⟨w.heap.size+1+1,5,.none⟩ (.int .i64 3)).drew:=(((H2.out.1.f.beside ⟨w.heap.size+1+1,2,.none⟩ _ (by show w.heap.size<=w.heap.size+1+1;omega)).beside ⟨w.heap.size+1+1,4,.none⟩ _ (by show w.heap.size<=w.heap.size+1+1;omega)).beside ⟨w.heap.size+1+1,5,.none⟩ _ (by show w.heap.size<=w.heap.size+1+1;omega)).drewN 1
    have RR:Ram (((V2.setCell ⟨w.heap.size+1+1,2,.none⟩ (.int .u64 (nd+ii*8))).setCell ⟨w.heap.size+1+1,4,.none⟩ (.int .u64 nw)).setCell ⟨w.heap.size+1+1,5,.none⟩ (.int .i64 3)).drew p b m N B1 L1:=(((H2.out.2.beside ⟨w.heap.size+1+1,2,.none⟩ _ (by show p≠w.heap.size+1+1;omega) (by show b≠w.heap.size+1+1;omega) (by show m≠w.heap.size+1+1;omega)).beside ⟨w.heap.size+1+1,4,.none⟩ _ (by show p≠w.heap.size+1+1;omega) (by show b≠w.heap.size+1+1;omega) (by show m≠w.heap.size+1+1;omega)).beside ⟨w.heap.size+1+1,5,.none⟩ _ (by show p≠w.heap.size+1+1;omega) (by show b≠w.heap.size+1+1;omega) (by show m≠w.heap.size+1+1;omega)).drew
    clear t1 t2 t3 z0 z1 z2 z3 z4 z5 y0 y1 y2 y3 y4 y5 hpp
    have H3:Hid (LW w (((V2.setCell ⟨w.heap.size+1+1,2,.none⟩ (.int .u64 (nd+ii*8))).setCell ⟨w.heap.size+1+1,4,.none⟩ (.int .u64 nw)).setCell ⟨w.heap.size+1+1,5,.none⟩ (.int .i64 3)).drew p b m leaf a0 a1 (nd+ii*8) 2 nw 3∧Ram (((V2.setCell ⟨w.heap.size+1+1,2,.none⟩ (.int .u64 (nd+ii*8))).setCell ⟨w.heap.size+1+1,4,.none⟩ (.int .u64 nw)).setCell ⟨w.heap.size+1+1,5,.none⟩ (.int .i64 3)).drew p b m N B1 L1):=⟨⟨C3,CR,G0,G1,FR⟩,RR⟩
    clear C3 CR G0 G1 FR RR
    generalize (((V2.setCell ⟨w.heap.size+1+1,2,.none⟩ (.int .u64 (nd+ii*8))).setCell ⟨w.heap.size+1+1,4,.none⟩ (.int .u64 nw)).setCell ⟨w.heap.size+1+1,5,.none⟩ (.int .i64 3)).drew=V3 at *
    obtain⟨z0,z1,z2,z3,z4,z5,y0,y1,y2,y3,y4,y5⟩:=H3.out.1.c
    have hpp:=HP.out
    have H9:Hid (WY w p b m N va leaf B' L' (.int .u64 ax) (V3.setCell ⟨w.heap.size+1+1,3,.none⟩ (.int .i64 1))∧(V3.setCell ⟨w.heap.size+1+1,3,.none⟩ (.int .i64 1)).cell? ⟨w.heap.size+1+1,3,.none⟩=some (.int .i64 1)∧wr.cell? ⟨w.heap.size+1+1,3,.none⟩=some (.int .i64 2)):=⟨⟨1,ax,a0,a1,(nd+ii*8),nw,3,B1,L1,by omega,rfl,ad.1,ad.2,⟨H3.out.1.c.one3 _,H3.out.1.r.off (a:=⟨w.heap.size+1+1,3,.none⟩) (by simp) _,(zO (by simp)).trans H3.out.1.g0,(zO (by simp)).trans H3.out.1.g1,H3.out.1.f.beside ⟨w.heap.size+1+1,3,.none⟩ _ (by show w.heap.size<=w.heap.size+1+1;omega)⟩,H3.out.2.beside ⟨w.heap.size+1+1,3,.none⟩ _ (by show p≠w.heap.size+1+1;omega) (by show b≠w.heap.size+1+1;omega) (by show m≠w.heap.size+1+1;omega),HE.out⟩,(H3.out.1.c.one3 _).c3,HW.out.c.c3⟩
    clear hpp
    go_wp2_with (first|(go_at_call 56;refine(c46' _).mono ?_;rintro r V3 ⟨rfl,rfl⟩)|fail)
    refine⟨H9.out.1,?_⟩
    rw[H9.out.2.1,H9.out.2.2]
    simp
   ·replace hk0:kd (ent B1 nd va 2) 2=0:=hk0
    replace hY2:Lays N va leaf 1 (over (zer B1 i) (fi nd*4096+(ix va 2).toNat*8) (le (toP (2147483648+i*4096) 0) 8)) L2 (2147483648+(i:Int)*4096) B' L':=hY2
    have h9:=HR.out.lt i (by simp)
    have c105:∀ V1,Below wr.heap.size wr V1->Calls Tryz.prog 243 #[.agg #[.pointer (some ⟨p,0,.none⟩),.int .u64 leaf],.int .i64 2,.int .u64 (nd+ix va 2*8),.int .u64 (ent B1 nd va 2)] V1 fun r W'=>r = .returned (.tuple #[.int .u64 (toP (2147483648+(i:Int)*4096) 0),.bool true])∧Hid (LW w W' p b m leaf a0 a1 a2 2 e k∧Ram W' p b m N (over (zer B1 i) (fi nd*4096+(ix va 2).toNat*8) (le (toP (2147483648+i*4096) 0) 8)) L2):=fun V1 hb1=>by
     have R1:=HR.out.below hb1
     have LW1:=HW.out.below HP.out.1 HP.out.2.1 HP.out.2.2 hb1
     refine(meetL_node R1 nd va leaf 2 (ent B1 nd va 2) (by omega) hn2 he hk0).mono ?_
     rintro r W' ⟨hr,hR,hF⟩
     exact⟨hr,LW1.fra HP.out.1 HP.out.2.1 HP.out.2.2 hF,hR⟩
    have hia:=h9
    have tb:=toP_b (2147483648+(i:Int)*4096) 0
    have c66:=fun W=>kind_any (toP (2147483648+(i:Int)*4096) 0) 2 tb (by omega) W
    have hk9:=kd_node (2147483648+(i:Int)*4096) 2 (by omega) (by omega)
    simp only[hk9] at c66
    have c46:=fun W=>address_any (toP (2147483648+(i:Int)*4096) 0) W tb
    rw[adE_toP (2147483648+(i:Int)*4096) 0 (by omega) (by omega) (by omega) (by omega)] at c46
    obtain⟨ax,hax⟩:∃ ax,ax=(2147483648+(i:Int)*4096):=⟨_,rfl⟩
    have HE:Hid (Lays N va leaf 1 (over (zer B1 i) (fi nd*4096+(ix va 2).toNat*8) (le (toP (2147483648+i*4096) 0) 8)) L2 ax B' L'):=by
     have hY3:=hY2
     rw[hax]
     exact hY3
    have ad:0<=ax∧ax<18446744073709551616:=by rw[hax];omega
    obtain⟨nw,hnw⟩:∃ nw,nw=(toP (2147483648+(i:Int)*4096) 0):=⟨_,rfl⟩
    obtain⟨ii,hii⟩:∃ ii,ii=ix va 2:=⟨_,rfl⟩
    obtain⟨x,hx⟩:∃ x,x=ent B1 nd va 2:=⟨_,rfl⟩
    have c105':∀ V1,Below wr.heap.size wr V1->Calls Tryz.prog 243 #[.agg #[.pointer (some ⟨p,0,.none⟩),.int .u64 leaf],.int .i64 2,.int .u64 (nd+ii*8),.int .u64 x] V1 fun r W'=>r = .returned (.tuple #[.int .u64 nw,.bool true])∧Hid (LW w W' p b m leaf a0 a1 a2 2 e k∧Ram W' p b m N (over (zer B1 i) (fi nd*4096+(ix va 2).toNat*8) (le (toP (2147483648+i*4096) 0) 8)) L2):=by rw[hnw,hii,hx];exact c105
    have c64':Calls Tryz.prog 152 #[.pointer (some ⟨p,0,.none⟩),.int .u64 (nd+ii*8),.int .i64 8] wr fun e w'=>e = .returned (.tuple #[.int .u64 x,.bool true])∧Below wr.heap.size wr w':=by rw[hii,hx];exact c64
    have c63':∀ W:World,Calls Tryz.prog 151 #[.int .u64 va,.int .i64 2] W fun e w'=>e = .returned (.int .u64 ii)∧w'=W:=by rw[hii];exact c63
    have c66':∀ W:World,Calls Tryz.prog 154 #[.int .u64 nw,.int .i64 2] W fun e w'=>e = .returned (.int .i64 3)∧w'=W:=by rw[hnw];exact c66
    have c46':∀ W:World,Calls Tryz.prog 56 #[.int .u64 nw] W fun e w'=>e = .returned (.int .u64 ax)∧w'=W:=by rw[hnw,hax];exact c46
    have w1':IntKind.u64.wrap (ii*8)=ii*8:=by rw[hii];exact w1
    have w2':IntKind.u64.wrap (nd+ii*8)=nd+ii*8:=by rw[hii];exact w2
    clear c105 c64 c63 c66 w1 w2 hnw hii hx hY hnd he hix c46 hax hk0 hY2 hn2 hk9 hia h9 tb
    go_upto_region 8 with(first|(go_at_call 151;refine(c63' _).mono ?_;rintro r wr ⟨rfl,rfl⟩)|(go_at_call 152;refine c64'.mono ?_;rintro r V1 ⟨rfl,hb1⟩;have LW1:=HW.out.below HP.out.1 HP.out.2.1 HP.out.2.2 hb1;clear z0 z1 z2 z3 z4 z5 y0 y1 y2 y3 y4 y5 g0 g1 c64';obtain⟨z0,z1,z2,z3,z4,z5,y0,y1,y2,y3,y4,y5⟩:=LW1.c;have g0:=LW1.g0;have g1:=LW1.g1;have c105x:=c105' V1 hb1;clear hb1 LW1 c105')|(go_at_call 153;refine(c65 _).mono ?_;rintro r V1 ⟨rfl,rfl⟩)|(go_at_call 243;refine c105x.mono ?_;rintro r V2 ⟨rfl,H2⟩))
    clear z0 z1 z2 z3 z4 z5 y0 y1 y2 y3 y4 y5 g0 g1 c105x
    obtain⟨z0,z1,z2,z3,z4,z5,y0,y1,y2,y3,y4,y5⟩:=H2.out.1.c
    have t1:(V2.setCell ⟨w.heap.size+1+1,2,.none⟩ (.int .u64 (nd+ii*8))).drew.cell? ⟨w.heap.size+1+1,3,.none⟩=some (.int .i64 2):=(zO (by simp)).trans z3
    have t2:((V2.setCell ⟨w.heap.size+1+1,2,.none⟩ (.int .u64 (nd+ii*8))).setCell ⟨w.heap.size+1+1,4,.none⟩ (.int .u64 nw)).drew.cell? ⟨w.heap.size+1+1,3,.none⟩=some (.int .i64 2):=(zO (by simp)).trans t1
    have t3:(((V2.setCell ⟨w.heap.size+1+1,2,.none⟩ (.int .u64 (nd+ii*8))).setCell ⟨w.heap.size+1+1,4,.none⟩ (.int .u64 nw)).setCell ⟨w.heap.size+1+1,5,.none⟩ (.int .i64 3)).drew.cell? ⟨w.heap.size+1+1,3,.none⟩=some (.int .i64 2):=(zO (by simp)).trans t2
    go_region_held3 (fun W=>W.cell? ⟨w.heap.size+1+1,3,.none⟩=some (.int .i64 2)) (first|assumption) (first|(go_at_call 154;refine(c66' _).mono ?_;rintro r V2 ⟨rfl,rfl⟩))
    have C3:C6 (((V2.setCell ⟨w.heap.size+1+1,2,.none⟩ (.int .u64 (nd+ii*8))).setCell ⟨w.heap.size+1+1,4,.none⟩ (.int .u64 nw)).setCell ⟨w.heap.size+1+1,5,.none⟩ (.int .i64 3)).drew (w.heap.size+1+1) (.int .u64 a0) (.int .u64 a1) (.int .u64 (nd+ii*8)) (.int .i64 2) (.int .u64 nw) (.int .i64 3):=(H2.out.1.c.set245 _ _ _).drew
    have CR:C6 (((V2.setCell ⟨w.heap.size+1+1,2,.none⟩ (.int .u64 (nd+ii*8))).setCell ⟨w.heap.size+1+1,4,.none⟩ (.int .u64 nw)).setCell ⟨w.heap.size+1+1,5,.none⟩ (.int .i64 3)).drew (w.heap.size+1) (.int .u64 0) (.int .u64 0) (.int .u64 0) (.int .i64 0) (.int .u64 0) (.int .i64 0):=(((H2.out.1.r.off (a:=⟨w.heap.size+1+1,2,.none⟩) (by simp) _).off (a:=⟨w.heap.size+1+1,4,.none⟩) (by simp) _).off (a:=⟨w.heap.size+1+1,5,.none⟩) (by simp) _).drew
    have G0:(((V2.setCell ⟨w.heap.size+1+1,2,.none⟩ (.int .u64 (nd+ii*8))).setCell ⟨w.heap.size+1+1,4,.none⟩ (.int .u64 nw)).setCell ⟨w.heap.size+1+1,5,.none⟩ (.int .i64 3)).drew.cell? ⟨w.heap.size,0,.none⟩=some (.pointer (some ⟨p,0,.none⟩)):=(zO (by simp)).trans ((zO (by simp)).trans ((zO (by simp)).trans H2.out.1.g0))
    have G1:(((V2.setCell ⟨w.heap.size+1+1,2,.none⟩ (.int .u64 (nd+ii*8))).setCell ⟨w.heap.size+1+1,4,.none⟩ (.int .u64 nw)).setCell ⟨w.heap.size+1+1,5,.none⟩ (.int .i64 3)).drew.cell? ⟨w.heap.size,1,.none⟩=some (.int .u64 leaf):=(zO (by simp)).trans ((zO (by simp)).trans ((zO (by simp)).trans H2.out.1.g1))
    have hpp:=HP.out
    have FR:Fra p b m w (((V2.setCell ⟨w.heap.size+1+1,2,.none⟩ (.int .u64 (nd+ii*8))).setCell ⟨w.heap.size+1+1,4,.none⟩ (.int .u64 nw)).setCell ⟨w.heap.size+1+1,5,.none⟩ (.int .i64 3)).drew:=(((H2.out.1.f.beside ⟨w.heap.size+1+1,2,.none⟩ _ (by show w.heap.size<=w.heap.size+1+1;omega)).beside ⟨w.heap.size+1+1,4,.none⟩ _ (by show w.heap.size<=w.heap.size+1+1;omega)).beside ⟨w.heap.size+1+1,5,.none⟩ _ (by show w.heap.size<=w.heap.size+1+1;omega)).drewN 1
    have RR:Ram (((V2.setCell ⟨w.heap.size+1+1,2,.none⟩ (.int .u64 (nd+ii*8))).setCell ⟨w.heap.size+1+1,4,.none⟩ (.int .u64 nw)).setCell ⟨w.heap.size+1+1,5,.none⟩ (.int .i64 3)).drew p b m N (over (zer B1 i) (fi nd*4096+(ix va 2).toNat*8) (le (toP (2147483648+i*4096) 0) 8)) L2:=(((H2.out.2.beside ⟨w.heap.size+1+1,2,.none⟩ _ (by show p≠w.heap.size+1+1;omega) (by show b≠w.heap.size+1+1;omega) (by show m≠w.heap.size+1+1;omega)).beside ⟨w.heap.size+1+1,4,.none⟩ _ (by show p≠w.heap.size+1+1;omega) (by show b≠w.heap.size+1+1;omega) (by show m≠w.heap.size+1+1;omega)).beside ⟨w.heap.size+1+1,5,.none⟩ _ (by show p≠w.heap.size+1+1;omega) (by show b≠w.heap.size+1+1;omega) (by show m≠w.heap.size+1+1;omega)).drew
    clear t1 t2 t3 z0 z1 z2 z3 z4 z5 y0 y1 y2 y3 y4 y5 hpp
    have H3:Hid (LW w (((V2.setCell ⟨w.heap.size+1+1,2,.none⟩ (.int .u64 (nd+ii*8))).setCell ⟨w.heap.size+1+1,4,.none⟩ (.int .u64 nw)).setCell ⟨w.heap.size+1+1,5,.none⟩ (.int .i64 3)).drew p b m leaf a0 a1 (nd+ii*8) 2 nw 3∧Ram (((V2.setCell ⟨w.heap.size+1+1,2,.none⟩ (.int .u64 (nd+ii*8))).setCell ⟨w.heap.size+1+1,4,.none⟩ (.int .u64 nw)).setCell ⟨w.heap.size+1+1,5,.none⟩ (.int .i64 3)).drew p b m N (over (zer B1 i) (fi nd*4096+(ix va 2).toNat*8) (le (toP (2147483648+i*4096) 0) 8)) L2):=⟨⟨C3,CR,G0,G1,FR⟩,RR⟩
    clear C3 CR G0 G1 FR RR
    generalize (((V2.setCell ⟨w.heap.size+1+1,2,.none⟩ (.int .u64 (nd+ii*8))).setCell ⟨w.heap.size+1+1,4,.none⟩ (.int .u64 nw)).setCell ⟨w.heap.size+1+1,5,.none⟩ (.int .i64 3)).drew=V3 at *
    obtain⟨z0,z1,z2,z3,z4,z5,y0,y1,y2,y3,y4,y5⟩:=H3.out.1.c
    have hpp:=HP.out
    have H9:Hid (WY w p b m N va leaf B' L' (.int .u64 ax) (V3.setCell ⟨w.heap.size+1+1,3,.none⟩ (.int .i64 1))∧(V3.setCell ⟨w.heap.size+1+1,3,.none⟩ (.int .i64 1)).cell? ⟨w.heap.size+1+1,3,.none⟩=some (.int .i64 1)∧wr.cell? ⟨w.heap.size+1+1,3,.none⟩=some (.int .i64 2)):=⟨⟨1,ax,a0,a1,(nd+ii*8),nw,3,(over (zer B1 i) (fi nd*4096+(ix va 2).toNat*8) (le (toP (2147483648+i*4096) 0) 8)),L2,by omega,rfl,ad.1,ad.2,⟨H3.out.1.c.one3 _,H3.out.1.r.off (a:=⟨w.heap.size+1+1,3,.none⟩) (by simp) _,(zO (by simp)).trans H3.out.1.g0,(zO (by simp)).trans H3.out.1.g1,H3.out.1.f.beside ⟨w.heap.size+1+1,3,.none⟩ _ (by show w.heap.size<=w.heap.size+1+1;omega)⟩,H3.out.2.beside ⟨w.heap.size+1+1,3,.none⟩ _ (by show p≠w.heap.size+1+1;omega) (by show b≠w.heap.size+1+1;omega) (by show m≠w.heap.size+1+1;omega),HE.out⟩,(H3.out.1.c.one3 _).c3,HW.out.c.c3⟩
    clear hpp
    go_wp2_with (first|(go_at_call 56;refine(c46' _).mono ?_;rintro r V3 ⟨rfl,rfl⟩)|fail)
    refine⟨H9.out.1,?_⟩
    rw[H9.out.2.1,H9.out.2.2]
    simp
end
end Rm
end Go.Proofs.YtabnipbdbnmmpaaGreatDoor
