import Derived.Test.YtabnipbdbnmmpaaGreatDoorLd01
import Derived.Test.YtabnipbdbnmmpaaGreatDoorLd26
import Derived.Test.YtabnipbdbnmmpaaGreatDoorLd27
import Derived.Test.YtabnipbdbnmmpaaGreatDoorLd24
import Derived.Test.YtabnipbdbnmmpaaGreatDoorLd19
import Derived.Test.YtabnipbdbnmmpaaGreatDoorLd25
set_option linter.unusedVariables false
set_option linter.unusedSimpArgs false
set_option maxHeartbeats 8000000
namespace Go.Proofs.YtabnipbdbnmmpaaGreatDoor
namespace Rm
open Go Go.RowKit Fz Rg
structure QSp (w:World) (q pl P g cq:Nat) (pr:Nat->Int) (d:Nat->Nat) (M:Nat->Int):Prop where
 c0:w.cell? ⟨q,0,.none⟩=some (.int .u64 ((P:Int)*4096))
 c1:w.cell? ⟨q,1,.none⟩=some (.slice (some ⟨g,0,.none⟩) P cq)
 c2:w.cell? ⟨q,2,.none⟩=some (.pointer (some ⟨pl,0,.none⟩))
 cp:P<=cq∧cq<=9223372036854775807
 pg:∀ k,k<P->w.cell? ⟨g,k*2,.none⟩=some (.int .u64 (pr k))∧w.cell? ⟨g,k*2+1,.none⟩=some (.slice (some ⟨d k,0,.none⟩) 4096 4096)
 by_:∀ k,k<P -> ∀ i,i<4096->w.cell? ⟨d k,i,.none⟩=some (.int .u8 (M (k*4096+i)))
theorem QSp.below {w w':World} {q pl P g cq:Nat} {pr:Nat->Int} {d:Nat->Nat} {M:Nat->Int} (h:QSp w q pl P g cq pr d M) (b:Below w.heap.size w w'):QSp w' q pl P g cq pr d M:=
 ⟨(b.cell (zC h.c0)).trans h.c0,(b.cell (zC h.c1)).trans h.c1,(b.cell (zC h.c2)).trans h.c2,h.cp,fun k hk=>⟨(b.cell (zC (h.pg k hk).1)).trans (h.pg k hk).1,(b.cell (zC (h.pg k hk).2)).trans (h.pg k hk).2⟩,fun k hk i hi=>(b.cell (zC (h.by_ k hk i hi))).trans (h.by_ k hk i hi)⟩
theorem lkP_get (fr:Nat->Nat) (c:Nat->Int) (P i:Nat) (hi:i<P):(lkP fr c P)[i]? = some ((i:Int),ad (fr i),bits .and .u64 (toP (ad (fr i)) (c i)) 30):=by
 unfold lkP
 rw[List.getElem?_map,List.getElem?_range hi]
 rfl
theorem ndP_small {P:Nat} (h:P<=4096):ndP P<=12:=by
 unfold ndP
 split<;>omega
set_option maxRecDepth 100000 in
theorem same_any {w:World} {s p b m N r P ft:Nat} {B:Nat->Int} {L:List Nat} {F:Nat->Option Nat} {lf:Nat->Nat->Int} {fr:Nat->Nat} {c:Nat->Int} (h:SpT w s p b m N r P ft ((P:Int)*4096) B L F lf fr c)
  {q pl g cq:Nat} {pr:Nat->Int} {d:Nat->Nat} {M:Nat->Int} (hq:QSp w q pl P g cq pr d M) (hP:1<=P) (hM:∀ a,a<P*4096->btU B fr a=M a) (hpr:∀ k,k<P->pr k=bits .and .u64 (toP (ad (fr k)) (c k)) 30) :
  Calls Tryz.prog 30 #[.pointer (some ⟨p,0,.none⟩),.pointer (some ⟨s,0,.none⟩),.pointer (some ⟨q,0,.none⟩)] w fun e w'=>e = .returned (.bool true)∧Below w.heap.size w w':=by
 have hpm:=h.pm
 have hnd:=h.tab.nodes hpm
 have hsm:=ndP_small hpm
 have c69:=slook_any h (by omega)
 have HH:Hid (SpT w s p b m N r P ft ((P:Int)*4096) B L F lf fr c∧QSp w q pl P g cq pr d M):=⟨h,hq⟩
 have HM:Hid ((∀ a,a<P*4096->btU B fr a=M a)∧∀ k,k<P->pr k=bits .and .u64 (toP (ad (fr k)) (c k)) 30):=⟨hM,hpr⟩
 have cpq:=hq.cp
 generalize hn:nodesF F+1=n at c69
 have hn0:(n:Int)=ndP P:=by rw[<-hnd,<-hn];push_cast;rfl
 clear h hq hM hpr hnd hn
 go_enter Tryz.func30,Tryz.ntmps30
 go_upto_region 2 with(go_at_call 69;refine c69.mono ?_;rintro _ W2 ⟨gn,cn,ys,qq,cqq,rfl,hys,on,op,b2⟩)
 clear c69 hys on
 have hcq:=own_form op
 obtain⟨q',c',e',hc1,hc2,_⟩:=hcq
 injection e' with e1 e2 e3
 subst e1 e3
 obtain⟨gq,rfl,-⟩:=own_cell op (pcs_get _ 0 _ (lkP_get fr c P 0 (by omega))).1 (by omega) (by omega)
 have HL:Hid (∀ i,i<P->W2.cell? ⟨gq,i*3,.none⟩=some (.int .u64 i)∧W2.cell? ⟨gq,i*3+1,.none⟩=some (.int .u64 (ad (fr i)))∧W2.cell? ⟨gq,i*3+2,.none⟩=some (.int .u64 (pr i))):=by
  intro i hi
  have hg:=pcs_get _ i _ (lkP_get fr c P i hi)
  obtain⟨g1,e1,k1⟩:=own_cell op hg.1 (by omega) (by omega)
  obtain⟨g2,e2,k2⟩:=own_cell op hg.2.1 (by omega) (by omega)
  obtain⟨g3,e3,k3⟩:=own_cell op hg.2.2 (by omega) (by omega)
  simp only[Option.some.injEq,Addr.mk.injEq,and_true] at e1 e2 e3
  subst e1 e2 e3
  exact⟨k1,k2,by rw[HM.out.2 i hi];exact k3⟩
 have H2:Hid (SpT W2 s p b m N r P ft ((P:Int)*4096) B L F lf fr c∧QSp W2 q pl P g cq pr d M∧Below w.heap.size w W2):=⟨HH.out.1.below b2,HH.out.2.below b2,b2⟩
 clear op b2
 have c22:=fun U (k:Below W2.heap.size W2 U)=>size_sp (H2.out.1.sp.below k)
 have c70:=fun U=>nodes8_any P hpm U
 have hndI:(if P=0 then (3:Int) else 4+((P:Int)+511)/512)=n:=by rw[hn0,if_neg (by omega)];unfold ndP;rw[if_neg (by omega)]
 rw[hndI] at c70
 have kS:W2.drew.cell? ⟨q,0,.none⟩=some (.int .u64 ((P:Int)*4096))∧W2.drew.cell? ⟨q,1,.none⟩=some (.slice (some ⟨g,0,.none⟩) P cq):=⟨((zB.drew).cell (zC H2.out.2.1.c0)).trans H2.out.2.1.c0,((zB.drew).cell (zC H2.out.2.1.c1)).trans H2.out.2.1.c1⟩
 refine wp_region_held_drew (S:=fun U=>U.cell? ⟨q,0,.none⟩=some (.int .u64 ((P:Int)*4096))∧U.cell? ⟨q,1,.none⟩=some (.slice (some ⟨g,0,.none⟩) P cq)) (by kernel_rfl) kS (fun hHeld=>?_)
 refine nT 0 (.pointer (some ⟨s,0,.none⟩)) rfl ?_ (hw:=by kernel_rfl)
 simp only[xX]
 refine nT 2 (.pointer (some ⟨q,0,.none⟩)) rfl ?_ (hw:=by kernel_rfl)
 simp only[xX]
 refine nT 3 (.pointer (some ⟨q,0,.none⟩)) rfl ?_ (hw:=by kernel_rfl)
 simp only[xX]
 refine nT 4 (.pointer (some ⟨q,0,.none⟩)) rfl ?_ (hw:=by kernel_rfl)
 simp only[xX]
 refine nT 5 (.int .u64 ((P:Int)*4096)) rfl ?_ (fun ww hSw=>by (try dsimp only at hSw);obtain⟨q0,q1⟩:=hSw;go_simp) (hw:=by kernel_rfl)
 simp only[xX]
 refine zR 1 rfl (fun K hK=>?_)
 go_simp
 go_at_call 22
 refine(c22 _ (zB.drew)).mono ?_
 rintro _ w3 ⟨rfl,e9⟩
 obtain rfl:W2.drew=w3:=e9.symm
 refine hK.out _ _ kS (fun hHeld=>?_)
 clear hK K
 try simp only[xX]
 refine nT 6 (.bool false) rfl ?_ (hw:=by kernel_rfl)
 simp only[xX]
 refine nT 7 (.bool false) rfl ?_ (hw:=by kernel_rfl)
 simp only[xX]
 refine nT 8 (.slice (some ⟨gq,0,.none⟩) P cqq) rfl ?_ (hw:=by kernel_rfl)
 simp only[xX]
 refine nT 9 (.int .i64 P) rfl ?_ (hw:=by kernel_rfl)
 simp only[xX]
 refine nT 10 (.pointer (some ⟨q,0,.none⟩)) rfl ?_ (hw:=by kernel_rfl)
 simp only[xX]
 refine nT 11 (.pointer (some ⟨q,0,.none⟩)) rfl ?_ (hw:=by kernel_rfl)
 simp only[xX]
 refine nT 12 (.pointer (some ⟨q,1,.none⟩)) rfl ?_ (hw:=by kernel_rfl)
 simp only[xX]
 refine nT 13 (.slice (some ⟨g,0,.none⟩) P cq) rfl ?_ (fun ww hSw=>by (try dsimp only at hSw);obtain⟨q0,q1⟩:=hSw;go_simp) (hw:=by kernel_rfl)
 simp only[xX]
 refine nT 14 (.int .i64 P) rfl ?_ (hw:=by kernel_rfl)
 simp only[xX]
 refine nT 15 (.bool false) rfl ?_ (hw:=by kernel_rfl)
 simp only[xX]
 refine nT 16 (.bool false) rfl ?_ (hw:=by kernel_rfl)
 simp only[xX]
 refine nT 17 (.bool false) rfl ?_ (hw:=by kernel_rfl)
 simp only[xX]
 refine nT 18 (.slice (some ⟨gn,0,.none⟩) n cn) rfl ?_ (hw:=by kernel_rfl)
 simp only[xX]
 refine nT 19 (.int .i64 n) rfl ?_ (hw:=by kernel_rfl)
 simp only[xX]
 refine nT 20 (.pointer (some ⟨q,0,.none⟩)) rfl ?_ (hw:=by kernel_rfl)
 simp only[xX]
 refine nT 21 (.pointer (some ⟨q,0,.none⟩)) rfl ?_ (hw:=by kernel_rfl)
 simp only[xX]
 refine nT 22 (.pointer (some ⟨q,1,.none⟩)) rfl ?_ (hw:=by kernel_rfl)
 simp only[xX]
 refine nT 23 (.slice (some ⟨g,0,.none⟩) P cq) rfl ?_ (fun ww hSw=>by (try dsimp only at hSw);obtain⟨q0,q1⟩:=hSw;go_simp) (hw:=by kernel_rfl)
 simp only[xX]
 refine nT 24 (.int .i64 P) rfl ?_ (hw:=by kernel_rfl)
 simp only[xX]
 refine zR 25 rfl (fun K hK=>?_)
 go_simp
 go_at_call 70
 refine(c70 _).mono ?_
 rintro _ w3 ⟨rfl,e9⟩
 obtain rfl:W2.drew=w3:=e9.symm
 refine hK.out _ _ kS (fun hHeld=>?_)
 clear hK K
 try simp only[xX]
 refine nT 26 (.bool false) rfl ?_ (hw:=by kernel_rfl)
 simp only[xX]
 refine nT 27 (.bool false) rfl ?_ (hw:=by kernel_rfl)
 simp only[xX]
 refine wpAnyH_done (by kernel_rfl) ?_ _
 clear kS c22 c70
 have H3:Hid (Below W2.heap.size W2 W2.drew):=zB.drew
 generalize W2.drew=W3 at H3 ⊢
 go_wp2_with fail
 go_loopw [9] (fun k wr=>∃ i:Nat,i<=P∧k = .int .i64 i∧Hid (Below W2.heap.size W2 wr)) (fun k _=>(P-intOf k).toNat)
 case atStart=>exact⟨0,by omega,rfl,H3.out⟩
 case round=>
  obtain⟨i,hi,rfl,HB⟩:=hrel
  by_cases hlt:i<P
  ·have g0:(i:Int)<P:=by omega
   have g1:IntKind.u64.wrap (i:Int)=i:=by simp only[IntKind.wrap,IntKind.bits,IntKind.signed];simp;omega
   obtain⟨l0,l1,l2⟩:=HL.out i hlt
   have a1:=(HB.out.cell (zC l1)).trans l1
   have S3:=H2.out.1.below HB.out
   have hq:=(S3.su.pag i hlt).qb
   have c20:=pg_read S3.ram (fr i) hq
   have HR:Hid (∀ j,j<4096->B (fr i*4096+j)=M (i*4096+j)):=fun j hj=>by
    have:=HM.out.1 (i*4096+j) (by omega)
    unfold btU at this
    rw[show (i*4096+j)/4096=i by omega,show (i*4096+j)%4096=j by omega] at this
    exact this
   have HC:Hid (W2.cell? ⟨gq,i*3,.none⟩=some (.int .u64 i)∧W2.cell? ⟨gq,i*3+2,.none⟩=some (.int .u64 (pr i))):=⟨l0,l2⟩
   clear l0 l1 l2 S3 hq
   go_upto_region 8 with(go_at_call 20;refine c20.mono ?_;rintro _ W4 ⟨gb,b1,b2,rfl,b3,b4,b5⟩)
   clear c20 b4 a1
   have B4:Hid (Below W2.heap.size W2 W4∧See W4 .u8 (some ⟨gb,0,.none⟩) 4096 (fun j=>M (i*4096+j))):=⟨HB.out.trans (b5.mono HB.out.size),.inr ⟨gb,0,rfl,b2,fun j hj=>by rw[Nat.zero_add];exact(b3 j hj).trans (congrArg (fun x=>some (Value.int .u8 x)) (HR.out j hj))⟩⟩
   have BD:Hid (Below W2.heap.size W2 W4.drew):=B4.out.1.drew
   clear b1 b2 b3 b5
   have hQ:=H2.out.2.1
   have hpg:=hQ.pg i hlt
   have kS:(W4.drew.cell? ⟨gq,i*3,.none⟩=some (.int .u64 i)∧W4.drew.cell? ⟨gq,i*3+2,.none⟩=some (.int .u64 (pr i)))∧W4.drew.cell? ⟨q,1,.none⟩=some (.slice (some ⟨g,0,.none⟩) P cq)∧W4.drew.cell? ⟨g,i*2,.none⟩=some (.int .u64 (pr i))∧W4.drew.cell? ⟨g,i*2+1,.none⟩=some (.slice (some ⟨d i,0,.none⟩) 4096 4096):=⟨⟨(BD.out.cell (zC HC.out.1)).trans HC.out.1,(BD.out.cell (zC HC.out.2)).trans HC.out.2⟩,(BD.out.cell (zC hQ.c1)).trans hQ.c1,(BD.out.cell (zC hpg.1)).trans hpg.1,(BD.out.cell (zC hpg.2)).trans hpg.2⟩
   have c14:Calls Tryz.prog 14 #[.slice (some ⟨gb,0,.none⟩) 4096 4096,.slice (some ⟨d i,0,.none⟩) 4096 4096] W4.drew fun e w'=>e = .returned (.bool true)∧Below W4.drew.heap.size W4.drew w':=by
    refine bytes_same (R:=fun j=>M (i*4096+j)) (by omega) ?_ ?_
    ·rcases B4.out.2 with h0|⟨g1,o1,e1,e2,e3⟩
     ·exact .inl h0
     ·exact .inr ⟨g1,o1,e1,e2,e3⟩
    ·exact .inr ⟨d i,0,rfl,by have:=zC (((BD.out.cell (zC (hQ.by_ i hlt 0 (by omega)))).trans (hQ.by_ i hlt 0 (by omega))));exact this,fun j hj=>by rw[Nat.zero_add];exact(BD.out.cell (zC (hQ.by_ i hlt j hj))).trans (hQ.by_ i hlt j hj)⟩
   clear hpg hQ
   refine wp_region_held_drew (S:=fun U=>(U.cell? ⟨gq,i*3,.none⟩=some (.int .u64 i)∧U.cell? ⟨gq,i*3+2,.none⟩=some (.int .u64 (pr i)))∧U.cell? ⟨q,1,.none⟩=some (.slice (some ⟨g,0,.none⟩) P cq)∧U.cell? ⟨g,i*2,.none⟩=some (.int .u64 (pr i))∧U.cell? ⟨g,i*2+1,.none⟩=some (.slice (some ⟨d i,0,.none⟩) 4096 4096)) (by kernel_rfl) kS (fun hHeld=>?_)
   refine nT 0 (.bool true) rfl ?_ (hw:=by kernel_rfl)
   simp only[xX]
   refine nT 1 (.bool false) rfl ?_ (hw:=by kernel_rfl)
   simp only[xX]
   refine nT 2 (.bool false) rfl ?_ (hw:=by kernel_rfl)
   simp only[xX]
   refine nT 3 (.slice (some ⟨gq,0,.none⟩) P cqq) rfl ?_ (hw:=by kernel_rfl)
   simp only[xX]
   refine nT 4 (.int .i64 i) rfl ?_ (hw:=by kernel_rfl)
   simp only[xX]
   refine nT 5 (.pointer (some ⟨gq,i*3,.none⟩)) rfl ?_ (hw:=by kernel_rfl)
   simp only[xX]
   refine nT 6 (.pointer (some ⟨gq,i*3,.none⟩)) rfl ?_ (hw:=by kernel_rfl)
   simp only[xX]
   refine nT 7 (.int .u64 i) rfl ?_ (fun ww hSw=>by (try dsimp only at hSw);obtain⟨⟨q0,q1⟩,q2,q3,q4⟩:=hSw;go_simp) (hw:=by kernel_rfl)
   simp only[xX]
   refine nT 8 (.int .i64 i) rfl ?_ (hw:=by kernel_rfl)
   simp only[xX]
   refine nT 9 (.int .u64 i) rfl ?_ (hw:=by kernel_rfl)
   simp only[xX]
   refine nT 10 (.bool false) rfl ?_ (hw:=by kernel_rfl)
   simp only[xX]
   refine nT 11 (.bool false) rfl ?_ (hw:=by kernel_rfl)
   simp only[xX]
   refine nT 12 (.bool false) rfl ?_ (hw:=by kernel_rfl)
   simp only[xX]
   refine nT 13 (.slice (some ⟨gq,0,.none⟩) P cqq) rfl ?_ (hw:=by kernel_rfl)
   simp only[xX]
   refine nT 14 (.int .i64 i) rfl ?_ (hw:=by kernel_rfl)
   simp only[xX]
   refine nT 15 (.pointer (some ⟨gq,i*3,.none⟩)) rfl ?_ (hw:=by kernel_rfl)
   simp only[xX]
   refine nT 16 (.pointer (some ⟨gq,i*3+2,.none⟩)) rfl ?_ (hw:=by kernel_rfl)
   simp only[xX]
   refine nT 17 (.int .u64 (pr i)) rfl ?_ (fun ww hSw=>by (try dsimp only at hSw);obtain⟨⟨q0,q1⟩,q2,q3,q4⟩:=hSw;go_simp) (hw:=by kernel_rfl)
   simp only[xX]
   refine nT 18 (.pointer (some ⟨q,0,.none⟩)) rfl ?_ (hw:=by kernel_rfl)
   simp only[xX]
   refine nT 19 (.pointer (some ⟨q,0,.none⟩)) rfl ?_ (hw:=by kernel_rfl)
   simp only[xX]
   refine nT 20 (.pointer (some ⟨q,1,.none⟩)) rfl ?_ (hw:=by kernel_rfl)
   simp only[xX]
   refine nT 21 (.slice (some ⟨g,0,.none⟩) P cq) rfl ?_ (fun ww hSw=>by (try dsimp only at hSw);obtain⟨⟨q0,q1⟩,q2,q3,q4⟩:=hSw;go_simp) (hw:=by kernel_rfl)
   simp only[xX]
   refine nT 22 (.int .i64 i) rfl ?_ (hw:=by kernel_rfl)
   simp only[xX]
   refine nT 23 (.pointer (some ⟨g,i*2,.none⟩)) rfl ?_ (hw:=by kernel_rfl)
   simp only[xX]
   refine nT 24 (.pointer (some ⟨g,i*2,.none⟩)) rfl ?_ (hw:=by kernel_rfl)
   simp only[xX]
   refine nT 25 (.int .u64 (pr i)) rfl ?_ (fun ww hSw=>by (try dsimp only at hSw);obtain⟨⟨q0,q1⟩,q2,q3,q4⟩:=hSw;go_simp) (hw:=by kernel_rfl)
   simp only[xX]
   refine nT 26 (.bool false) rfl ?_ (hw:=by kernel_rfl)
   simp only[xX]
   refine nT 27 (.bool false) rfl ?_ (hw:=by kernel_rfl)
   simp only[xX]
   refine nT 28 (.bool false) rfl ?_ (hw:=by kernel_rfl)
   simp only[xX]
   refine nT 29 (.slice (some ⟨gb,0,.none⟩) 4096 4096) rfl ?_ (hw:=by kernel_rfl)
   simp only[xX]
   refine nT 30 (.pointer (some ⟨q,0,.none⟩)) rfl ?_ (hw:=by kernel_rfl)
   simp only[xX]
   refine nT 31 (.pointer (some ⟨q,0,.none⟩)) rfl ?_ (hw:=by kernel_rfl)
   simp only[xX]
   refine nT 32 (.pointer (some ⟨q,1,.none⟩)) rfl ?_ (hw:=by kernel_rfl)
   simp only[xX]
   refine nT 33 (.slice (some ⟨g,0,.none⟩) P cq) rfl ?_ (fun ww hSw=>by (try dsimp only at hSw);obtain⟨⟨q0,q1⟩,q2,q3,q4⟩:=hSw;go_simp) (hw:=by kernel_rfl)
   simp only[xX]
   refine nT 34 (.int .i64 i) rfl ?_ (hw:=by kernel_rfl)
   simp only[xX]
   refine nT 35 (.pointer (some ⟨g,i*2,.none⟩)) rfl ?_ (hw:=by kernel_rfl)
   simp only[xX]
   refine nT 36 (.pointer (some ⟨g,i*2+1,.none⟩)) rfl ?_ (hw:=by kernel_rfl)
   simp only[xX]
   refine nT 37 (.slice (some ⟨d i,0,.none⟩) 4096 4096) rfl ?_ (fun ww hSw=>by (try dsimp only at hSw);obtain⟨⟨q0,q1⟩,q2,q3,q4⟩:=hSw;go_simp) (hw:=by kernel_rfl)
   simp only[xX]
   refine zR 38 rfl (fun K hK=>?_)
   go_simp
   go_at_call 14
   refine(c14).mono ?_
   rintro _ w5 ⟨rfl,b5⟩
   have B5:Hid (Below W2.heap.size W2 w5):=BD.out.trans (b5.mono BD.out.size)
   have kS5:(w5.cell? ⟨gq,i*3,.none⟩=some (.int .u64 i)∧w5.cell? ⟨gq,i*3+2,.none⟩=some (.int .u64 (pr i)))∧w5.cell? ⟨q,1,.none⟩=some (.slice (some ⟨g,0,.none⟩) P cq)∧w5.cell? ⟨g,i*2,.none⟩=some (.int .u64 (pr i))∧w5.cell? ⟨g,i*2+1,.none⟩=some (.slice (some ⟨d i,0,.none⟩) 4096 4096):=⟨⟨(b5.cell (zC kS.1.1)).trans kS.1.1,(b5.cell (zC kS.1.2)).trans kS.1.2⟩,(b5.cell (zC kS.2.1)).trans kS.2.1,(b5.cell (zC kS.2.2.1)).trans kS.2.2.1,(b5.cell (zC kS.2.2.2)).trans kS.2.2.2⟩
   clear kS b5
   refine hK.out _ _ kS5 (fun hHeld=>?_)
   clear hK K
   try simp only[xX]
   refine nT 39 (.bool false) rfl ?_ (hw:=by kernel_rfl)
   simp only[xX]
   refine nT 40 (.bool false) rfl ?_ (hw:=by kernel_rfl)
   simp only[xX]
   refine wpAnyH_done (by kernel_rfl) ?_ _
   clear kS5 c14
   go_wp2_with fail
   exact⟨⟨i+1,by omega,rfl,B5.out⟩,by simp only[intOf];omega⟩
  ·obtain rfl:i=P:=by omega
   go_wp2_with fail
   go_ret
   exact⟨rfl,H2.out.2.2.trans (HB.out.mono H2.out.2.2.size)⟩
end Rm
section
open Go.RowKit Go.Shelf
def adS (at_:Int) (xs:List Bs) (i:Nat):List Int:=(List.range i).map fun k=>at_+stx 4096 (xs.take (k+1))
theorem layR_step (R:Nat->Int) (m j:Nat) (x:Bs) (hj:j<x.length):(fun a=>if a=m+j then ((x.getD j 0).toNat:Int) else layR R m (x.take j) a)=layR R m (x.take (j+1)):=by
 funext a
 unfold layR
 rw[List.length_take,List.length_take,Nat.min_eq_left (by omega),Nat.min_eq_left (by omega)]
 by_cases h1:a=m+j
 ·subst h1
  rw[if_pos rfl,if_pos (by omega),show m+j-m=j by omega]
  congr 2
  simp[List.getD_eq_getElem?_getD,List.getElem?_take]
 ·rw[if_neg h1]
  by_cases h2:m<=a∧a<m+j
  ·rw[if_pos h2,if_pos (by omega)]
   congr 2
   simp[List.getD_eq_getElem?_getD,List.getElem?_take,show a-m<j by omega,show a-m<j+1 by omega]
  ·rw[if_neg h2,if_neg (by omega)]
theorem layR_nil (R:Nat->Int) (m:Nat) (x:Bs):layR R m (x.take 0)=R:=by
 funext a
 unfold layR
 rw[if_neg (by simp)]
theorem ptR_step (at_:Int) (xs:List Bs) (R:Nat->Int) (sp k l:Nat) (hl:l<8):(fun a=>if a=sp+8*k+l then ptB at_ xs k l else ptR at_ xs R sp (8*k+l) a)=ptR at_ xs R sp (8*k+(l+1)):=by
 funext a
 unfold ptR
 by_cases h1:a=sp+8*k+l
 ·subst h1
  rw[if_pos rfl,if_pos (by omega),show (sp+8*k+l-sp)/8=k by omega,show (sp+8*k+l-sp)%8=l by omega]
 ·rw[if_neg h1]
  by_cases h2:sp<=a∧a<sp+(8*k+l)
  ·rw[if_pos h2,if_pos (by omega)]
  ·rw[if_neg h2,if_neg (by omega)]
structure PqR (w wr:World) (R:Nat->Int):Prop where
 pg:wr.rowIs w.heap.size 5 4096 (fun j=>.int .u8 (R j))
 bel:Below w.heap.size w wr
 sz:w.heap.size+1<=wr.heap.size
theorem PqR.set {w wr:World} {R:Nat->Int} (h:PqR w wr R) (k:Nat) (z:Int) {R':Nat->Int} (e:(fun a=>if a=k then z else R a)=R'):PqR w (wr.setCell ⟨w.heap.size,k,.none⟩ (.int .u8 z)) R':=by
 obtain⟨h1,h2,h3⟩:=h
 subst e
 refine⟨(h1.set k (.int .u8 z)).congr fun i hi=>?_,h2.setCell zL _,by simpa [World.setCell] using h3⟩
 split<;>rfl
theorem PqR.above {w a b:World} {R:Nat->Int} (h:PqR w a R) (hb:Below (w.heap.size+1) a b):PqR w b R:=by
 obtain⟨h1,h2,h3⟩:=h
 exact⟨h1.of_block (hb.block _ (by omega)),h2.trans (hb.mono (by omega)),Nat.le_trans h3 hb.size⟩
theorem PqR.at {w wr:World} {R:Nat->Int} (h:PqR w wr R) {k:Nat} (hk:k<4096):(∃ v,wr.cell? ⟨w.heap.size,k,.none⟩=some v)∧wr.frozen? ⟨w.heap.size,k,.none⟩=false:=by
 obtain⟨h1,h2,h3⟩:=h
 exact⟨⟨_,h1.cell hk⟩,h1.frozen k⟩
theorem pageR_new (w:World):∃ w2,(Instr.makeSlice 24 (.int .i64 4096) (.int .i64 4096)).run Tryz.prog w = .ok (.slice (some ⟨w.heap.size,0,.none⟩) 4096 4096) w2∧Hid (PqR w w2 (fun _=>0)):=by
 have h:=run_make_row' (P:=Tryz.prog) 24 5 (.int .u8 0) 1 Tryz.underlying24 info5 rfl .i64 .i64 4096 (by decide) (by decide) w
 have hr:=World.rowIs_made w (.int .u8 0) 4096 5
 exact⟨_,h,hr,zB.alloc zL _,by simp⟩
structure AqR (w wr:World) (q:Option Addr) (i c:Nat) (at_:Int) (xs:List Bs):Prop where
 own:wr.ownsRow (w.heap.size+1) 23 1 (.slice q i c) i (w64 (adS at_ xs i))
theorem AqR.set {w wr:World} {q:Option Addr} {i c:Nat} {at_:Int} {xs:List Bs} (h:AqR w wr q i c at_ xs) (k:Nat) (v:Value):AqR w (wr.setCell ⟨w.heap.size,k,.none⟩ v) q i c at_ xs:=
 ⟨own_same h.own (fun g hg=>Below.heap_setCell _ _ _ _ (fun e=>by have:g=w.heap.size:=e;omega))⟩
def StD (w:World) (at_:Int) (xs:List Bs) (e:Ending) (w':World):Prop:=∃ g sp:Nat,e = .returned (.tuple #[.slice (some ⟨g,0,.none⟩) 4096 4096,.int .u64 (at_+sp),.bool true])∧Below w.heap.size w w'∧w.heap.size<=g∧(stx 4096 xs-8*(xs.length+1))/16*16=(sp:Int)∧w'.rowIs g 5 4096 (fun j=>.int .u8 (ptR at_ xs (stF xs xs.length) sp (8*xs.length) j))
set_option maxRecDepth 10000 in
theorem stackD_any (w:World) (at_:Int) (hat:0<=at_∧at_ <= 1000000000) (p:Option Addr) (n c:Nat) (xs:List Bs) (h:Tex w p n c xs) (hn:n<=32) (hx:∀ x∈xs,x.length<=400000) (hrm:rm xs=true) :
  Calls Tryz.prog 67 #[.slice p n c,.int .u64 at_] w (StD w at_ xs):=by
 have HT:Hid (Tex w p n c xs):=h
 have HL:Hid (xs.length=n):=h.1
 have HX:Hid (∀ x∈xs,x.length<=400000):=hx
 have hc:n<=c∧c<=9223372036854775807:=⟨h.2.1,h.2.2.1⟩
 clear h hx
 obtain⟨i3,z3,hi3,hz3,hs3,hb3,hzs3⟩:=u64_info
 have HI:Hid (Tryz.prog.info? 23=some i3∧i3.zero=some z3∧i3.size=1∧i3.bytes=8∧z3.cells.size=1):=⟨hi3,hz3,hs3,hb3,hzs3⟩
 clear hi3 hz3 hs3 hb3 hzs3
 obtain⟨w2,hmk,HP0⟩:=pageR_new w
 go_enter Tryz.func67,Tryz.ntmps67
 go_wp2_with fail
 clear hmk
 go_loopw [8,9,10] (fun s v k wr=>∃ i:Nat,i<=n∧k = .int .i64 i∧∃ pl q' c',s = .int .i64 pl∧v = .slice q' i c'∧Hid (pl=stx 4096 (xs.take i)∧0<=pl∧PqR w wr (stF xs i)∧AqR w wr q' i c' at_ xs)) (fun _ _ k _=>(n-intOf k).toNat)
 case atStart=>exact⟨0,by omega,rfl,4096,none,0,rfl,rfl,by simp[stx],by omega,HP0.out,⟨World.ownsRow_nil _ _ _ _⟩⟩
 case round=>
  obtain⟨i,hi,rfl,pl,q',c',rfl,rfl,HR⟩:=hrel
  have h0:0<=pl:=HR.out.2.1
  have h1:pl<=4096:=by rw[HR.out.1];exact stx_le _ _
  by_cases hlt:i<n
  ·have g0:(i:Int)<n:=by omega
   obtain⟨b,o,x,rfl,hxi,aw⟩:=HT.out.at hlt
   have hxl:=HX.out x (List.mem_of_getElem? hxi)
   have hnx:=stx_next hxi 4096
   rw[<-HR.out.1] at hnx
   have HN:Hid (stx 4096 (xs.take (i+1))=(pl-x.length-1)/16*16):=hnx
   have HA:Hid (w.cell? ⟨b,o+i,.none⟩=some (.string ⟨x.toArray⟩)):=aw
   have a0:wr.cell? ⟨b,o+i,.none⟩=some (.string ⟨x.toArray⟩):=(HR.out.2.2.1.bel.cell (zC aw)).trans aw
   have HXI:Hid (xs[i]? = some x):=hxi
   clear hnx hxi aw
   have hns:¬ pl-x.length-1<0:=fun hneg=>by
    have:=rm_no (xs:=xs) (i:=i+1) (by rw[HN.out];omega)
    rw[hrm] at this
    cases this
   obtain⟨y,hy⟩:∃ y,y=(pl-x.length-1)/16*16:=⟨_,rfl⟩
   have hy0:0<=y∧y+x.length<4096:=by omega
   have HY:Hid (y=(pl-x.length-1)/16*16):=hy
   have hq1:0<=pl-x.length-1:=by omega
   have HQ:Hid (AqR w wr q' i c' at_ xs):=HR.out.2.2.2
   rw[<-HY.out] at HN
   have HF:Hid (layR (stF xs i) y.toNat x=stF xs (i+1)):=by
    show _=layR (stF xs i) (stx 4096 (xs.take (i+1))).toNat (xs.getD i [])
    rw[HN.out,List.getD_eq_getElem?_getD,HXI.out]
    rfl
   clear hns hy
   go_wp2_with fail
   rw[<-HY.out]
   go_loopw [11] (fun k wv=>∃ j:Nat,j<=x.length∧k = .int .i64 j∧Hid (PqR w wv (layR (stF xs i) y.toNat (x.take j))∧AqR w wv q' i c' at_ xs)) (fun k _=>(x.length-intOf k).toNat)
   case atStart=>exact⟨0,by omega,rfl,by rw[layR_nil];exact HR.out.2.2.1,HQ.out⟩
   case round=>
    obtain⟨j,hj,rfl,HJ⟩:=hrel
    have a0:wr.cell? ⟨b,o+i,.none⟩=some (.string ⟨x.toArray⟩):=(HJ.out.1.bel.cell (zC HA.out)).trans HA.out
    by_cases hjl:j<x.length
    ·have gj:(j:Int)<x.length:=by omega
     obtain⟨⟨v0,cv⟩,cf⟩:=HJ.out.1.at (k:=(y+j).toNat) (by omega)
     have hsj:y+(j:Int)<4096:=by omega
     go_wp2_with fail
     refine⟨⟨j+1,by omega,rfl,HJ.out.1.set _ _ ?_,HJ.out.2.set _ _⟩,by simp only[intOf];omega⟩
     rw[<-layR_step _ _ _ _ hjl]
     funext a
     rw[show (y+(j:Int)).toNat=y.toNat+j by omega]
     simp[List.getD_eq_getElem?_getD,hjl]
     rfl
    ·obtain rfl:j=x.length:=by omega
     have z1:=HJ.out.1.sz
     have hwy:IntKind.u64.wrap y=y:=by rw[IntKind.wrap_u64];omega
     have hwa:IntKind.u64.wrap (at_+y)=at_+y:=by rw[IntKind.wrap_u64];omega
     clear hjl hj
     go_wp2_with (first|(at_builtin;refine wpList_append_own _ rfl _ _ 133 rfl (w.heap.size+1) 23 i3 z3 1 8 Tryz.underlying133 HI.out.1 HI.out.2.1 HI.out.2.2.1 HI.out.2.2.2.1 HI.out.2.2.2.2 (by decide) (.slice q' i c') i (w64 (adS at_ xs i)) rfl (HJ.out.2.own.alloc _) ⟨wr.heap.size,0,.none⟩ 1 1 [.int .u64 (at_+y)] rfl rfl (cell1_new _ _ _) (fun u hu=>by rw[List.mem_singleton] at hu;rw[hu];rfl) ?c4 ?c5 ?c6 ?_)|go_in)
     case c4=>simp only[maxLen];omega
     case c5=>omega
     case c6=>simp only[World.size_alloc];omega
     intro v' w2 own' grow fb
     clear fb
     obtain⟨p',c2,rfl⟩:=one_slice own'
     have HW:Hid (PqR w w2 (stF xs (i+1))∧AqR w w2 p' (i+1) c2 at_ xs):=by
      refine⟨?_,⟨?_⟩⟩
      ·rw[<-HF.out]
       have:=HJ.out.1.above (below_append zB _ grow z1 (own_block HJ.out.2.own))
       rw[List.take_length] at this
       exact this
      ·unfold w64 adS
       rw[List.range_succ,List.map_append,List.map_append]
       simp only[List.map_cons,List.map_nil]
       rw[HN.out]
       exact own'
     clear own' grow
     go_wp2
     exact⟨⟨i+1,by omega,rfl,y,p',c2,rfl,rfl,HN.out.symm,hy0.1,HW.out.1,HW.out.2⟩,by simp only[intOf];omega⟩
  ·obtain rfl:i=n:=by omega
   have hst:stx 4096 xs=pl:=by rw[HR.out.1,<-HL.out,List.take_length]
   have hq1:0<=pl-8*(i+1):=by
    have:=of_decide_eq_true hrm
    rw[hst,HL.out] at this
    exact this
   have HS:Hid (stx 4096 xs=pl∧∀ k,k<i->pl<=stx 4096 (xs.take (k+1))∧stx 4096 (xs.take (k+1))<=4096):=⟨hst,fun k hk=>⟨by
    have h1:stx 4096 xs=stx (stx 4096 (xs.take (k+1))) (xs.drop (k+1)):=by
     conv=>lhs;rw[<-List.take_append_drop (k+1) xs]
     simp only[stx,List.foldl_append]
    have h2:=stx_le (xs.drop (k+1)) (stx 4096 (xs.take (k+1)))
    omega,stx_le _ _⟩⟩
   have HQ:Hid (AqR w wr q' i c' at_ xs):=HR.out.2.2.2
   clear hst hi
   obtain⟨y,hy⟩:∃ y,y=(pl-8*(i+1))/16*16:=⟨_,rfl⟩
   have hy0:0<=y∧y+8*i+8<=4096:=by omega
   have HY:Hid (y=(pl-8*(i+1))/16*16):=hy
   clear hy
   go_wp2_with fail
   rw[<-HY.out]
   go_loopw [12] (fun k wv=>∃ j:Nat,j<=i∧k = .int .i64 j∧Hid (PqR w wv (ptR at_ xs (stF xs i) y.toNat (8*j))∧AqR w wv q' i c' at_ xs)) (fun k _=>(i-intOf k).toNat)
   case atStart=>
    refine⟨0,by omega,rfl,?_,HQ.out⟩
    have e:ptR at_ xs (stF xs i) y.toNat (8*0)=stF xs i:=by
     funext a
     unfold ptR
     rw[if_neg (by omega)]
    rw[e]
    exact HR.out.2.2.1
   case round=>
    obtain⟨j,hj,rfl,HJ⟩:=hrel
    by_cases hjl:j<i
    ·have gj:(j:Int)<i:=by omega
     obtain⟨v,hvd⟩:∃ v,v=at_+stx 4096 (xs.take (j+1)):=⟨_,rfl⟩
     have hv0:0<=v∧v<2000000000:=by have:=HS.out.2 j hjl;omega
     have HVD:Hid (v=at_+stx 4096 (xs.take (j+1))):=hvd
     have hvw:(w64 (adS at_ xs i))[j]? = some (.int .u64 v):=by rw[hvd];simp[w64,adS,List.getElem?_range hjl]
     obtain⟨g,rfl,ag⟩:=own_cell HJ.out.2.own hvw (by omega) (by omega)
     have hgl:w.heap.size+1<=g:=own_block HJ.out.2.own g rfl
     have HG:Hid (w.heap.size+1<=g):=hgl
     obtain⟨_,_,e9,hc9⟩:=own_form HJ.out.2.own
     cases e9
     have hcc:i<=c'∧c'<=9223372036854775807:=⟨hc9.1,hc9.2.1⟩
     have HV:Hid (wr.cell? ⟨g,j,.none⟩=some (.int .u64 v)):=ag
     clear hvd hvw ag hgl hc9
     go_wp2_with fail
     go_loopw [13] (fun k wv=>∃ l:Nat,l<=8∧k = .int .i64 l∧Hid (PqR w wv (ptR at_ xs (stF xs i) y.toNat (8*j+l))∧AqR w wv (some ⟨g,0,.none⟩) i c' at_ xs∧wv.cell? ⟨g,j,.none⟩=some (.int .u64 v))) (fun k _=>(8-intOf k).toNat)
     case atStart=>exact⟨0,by omega,rfl,HJ.out.1,HJ.out.2,HV.out⟩
     case round=>
      obtain⟨l,hl,rfl,HK⟩:=hrel
      by_cases hll:l<8
      ·have gl:(l:Int)<8:=by omega
       have av:=HK.out.2.2
       obtain⟨⟨v0,cv⟩,cf⟩:=HK.out.1.at (k:=(y+8*(j:Int)+l).toNat) (by omega)
       have hsj:y+8*(j:Int)+l<4096:=by omega
       have hwl:IntKind.u64.wrap (8*(l:Int))=8*l:=by rw[IntKind.wrap_u64];omega
       go_wp2_with fail
       refine⟨⟨l+1,by omega,rfl,HK.out.1.set _ _ ?_,HK.out.2.1.set _ _,(zO (by have:=HG.out;simp only[ne_eq,Addr.mk.injEq,not_and];intro e;omega)).trans av⟩,by simp only[intOf];omega⟩
       rw[<-ptR_step _ _ _ _ _ _ hll]
       funext a
       rw[show (y+8*(j:Int)+l).toNat=y.toNat+8*j+l by omega]
       unfold ptB
       rw[<-HVD.out]
       have h28:∀ l:Nat,l<8->(2:Int) ^ (8*l)=256 ^ l:=by decide
       have h29:=h28 l hll
       simp only[h29]
      ·obtain rfl:l=8:=by omega
       go_wp2_with fail
       exact⟨⟨j+1,by omega,rfl,HK.out.1,HK.out.2.1⟩,by simp only[intOf];omega⟩
    ·obtain rfl:j=i:=by omega
     have hwy:IntKind.u64.wrap y=y:=by rw[IntKind.wrap_u64];omega
     have hwa:IntKind.u64.wrap (at_+y)=at_+y:=by rw[IntKind.wrap_u64];omega
     go_wp2_with fail
     refine bodyPost_ret (v:=.tuple #[.slice (some ⟨w.heap.size,0,.none⟩) 4096 4096,.int .u64 (at_+y),.bool true]) (by simp[results,Tryz.results67,go_sem]) rfl ⟨w.heap.size,y.toNat,?_,HJ.out.1.bel,Nat.le_refl _,?_,?_⟩
     ·rw[show ((y.toNat:Nat):Int)=y by omega]
     ·rw[HS.out.1,HL.out,<-HY.out];omega
     ·rw[HL.out];exact HJ.out.1.pg
end
namespace Rm
open Go Go.RowKit
theorem perm_low (q:Nat) (hq:q<4096) (c:Nat) (hc:c<1023) (he:c%2=0):bits .and .u64 (toP (ad q) c) 30=(((c+1) &&& 30:Nat):Int):=by
 have hv:=toP_val (ad q) c (by unfold ad;omega) (by omega) (by omega)
 rw[hv]
 have h:=and_low (ad q/4096*1024+c+1) (by unfold ad;omega) 30 (by omega)
 have e:((ad q/4096*1024+(c:Int)+1)%1024).toNat=c+1:=by unfold ad;omega
 rw[e] at h
 exact h
theorem perm_rgt (q:Nat) (hq:q<4096) {x:Int} (h:rgt x):bits .and .u64 (toP (ad q) (x+208)) 30=x+16:=by
 rcases h with rfl|rfl|rfl|rfl|rfl
 ·exact perm_low q hq 216 (by omega) (by omega)
 ·exact perm_low q hq 210 (by omega) (by omega)
 ·exact perm_low q hq 218 (by omega) (by omega)
 ·exact perm_low q hq 214 (by omega) (by omega)
 ·exact perm_low q hq 222 (by omega) (by omega)
def prS (S:List Sg) (e:Nat):Nat->Int:=fun k=>if k=e then 6 else rgP S k+16
theorem SpM.same {ox:Oxt} {w:World} {s p b m N r K e:Nat} {M:Nat->Int} {S:List Sg} (h:SpM ox w s p b m N r (e+2) K M (upd (cS S) e 198)) (hf:∀ y∈S,y.fl=1∨y.fl=4∨y.fl=5∨y.fl=6∨y.fl=7)
  {q pl g cq:Nat} {d:Nat->Nat} (hq:QSp w q pl (e+2) g cq (prS S e) d M) :
  Calls Tryz.prog 30 #[.pointer (some ⟨p,0,.none⟩),.pointer (some ⟨s,0,.none⟩),.pointer (some ⟨q,0,.none⟩)] w fun e w'=>e = .returned (.bool true)∧Below w.heap.size w w':=by
 obtain⟨B,L,F,lf,fr,h1,h2,-,-⟩:=h
 refine same_any h1 hq (by omega) h2 fun k hk=>?_
 have hN:=h1.ram.mem.n2
 have hfr:=(h1.su.pag k hk).qb.1
 unfold prS upd
 by_cases hke:k=e
 ·rw[if_pos hke,if_pos hke]
  exact(perm_low (fr k) (by omega) 198 (by omega) (by omega)).symm
 ·rw[if_neg hke,if_neg hke]
  exact(perm_rgt (fr k) (by omega) (rgP_bM S hf k)).symm
end Rm
section
open Go.RowKit Go.Shelf
set_option maxRecDepth 10000 in
theorem memory_few (z:Int) (hz:z<2) (w:World):Calls Tryz.prog 8 #[.int .i64 z] w (MeP w 2):=by
 have c30:=Rm.new_any 2 (by omega) (by omega) w
 have HD:Hid (Rm.down (2-1)=(2-1) :: Rm.down (2-2)):=rfl
 go_enter Tryz.func8,Tryz.ntmps8
 go_upto_region 8 with(go_at_call 32;refine c30.mono ?_;rintro _ w1 ⟨p,b,m,hp,hb,hm,rfl,hR,b1⟩;rw[HD.out] at hR;have H1:Hid (w.heap.size<=p∧w.heap.size<=b∧w.heap.size<=m∧Rm.Ram w1 p b m 2 (Rm.newB (2-1)) ((2-1) :: Rm.down (2-2))∧Below w.heap.size w w1):=⟨hp,hb,hm,hR,b1⟩;clear hp hb hm hR b1 c30)
 have c17:=Rm.alloc_some (2-1) H1.out.2.2.2.1
 generalize ht:(2147483648+((2-1:Nat):Int)*4096)=t at c17
 have HT:Hid (t=Rm.ad (2-1)):=ht.symm
 clear ht
 go_wp2_with (go_at_call 9;refine c17.mono ?_;rintro _ w2 ⟨rfl,hR2,hf2⟩;have H2:Hid (Rm.Ram w2 p b m 2 (Rm.zer (Rm.newB (2-1)) (2-1)) (Rm.down (2-2))∧Rm.Fra p b m w1 w2):=⟨hR2,hf2⟩;clear hR2 hf2 c17)
 refine bodyPost_ret (v:=.tuple #[.pointer (some ⟨p,0,.none⟩),.int .u64 t,.bool true]) (by simp[results,Tryz.results8,go_sem]) rfl ?_
 exact⟨p,b,m,_,H1.out.1,H1.out.2.1,H1.out.2.2.1,by rw[HT.out],H2.out.1,H1.out.2.2.2.2.trans (H2.out.2.toBelow H1.out.2.2.2.2.size H1.out.1 H1.out.2.1 H1.out.2.2.1),fun j hj=>Rm.zer_in _ _ _ hj⟩
set_option maxRecDepth 10000 in
theorem memory_many (z:Int) (hz:4096<z) (w:World):Calls Tryz.prog 8 #[.int .i64 z] w (MeP w 4096):=by
 have g1:¬ z<2:=by omega
 have g2:z > 4096:=hz
 have c30:=Rm.new_any 4096 (by omega) (by omega) w
 have HD:Hid (Rm.down (4096-1)=(4096-1) :: Rm.down (4096-2)):=rfl
 go_enter Tryz.func8,Tryz.ntmps8
 go_upto_region 8 with(go_at_call 32;refine c30.mono ?_;rintro _ w1 ⟨p,b,m,hp,hb,hm,rfl,hR,b1⟩;rw[HD.out] at hR;have H1:Hid (w.heap.size<=p∧w.heap.size<=b∧w.heap.size<=m∧Rm.Ram w1 p b m 4096 (Rm.newB (4096-1)) ((4096-1) :: Rm.down (4096-2))∧Below w.heap.size w w1):=⟨hp,hb,hm,hR,b1⟩;clear hp hb hm hR b1 c30)
 have c17:=Rm.alloc_some (4096-1) H1.out.2.2.2.1
 generalize ht:(2147483648+((4096-1:Nat):Int)*4096)=t at c17
 have HT:Hid (t=Rm.ad (4096-1)):=ht.symm
 clear ht
 go_wp2_with (go_at_call 9;refine c17.mono ?_;rintro _ w2 ⟨rfl,hR2,hf2⟩;have H2:Hid (Rm.Ram w2 p b m 4096 (Rm.zer (Rm.newB (4096-1)) (4096-1)) (Rm.down (4096-2))∧Rm.Fra p b m w1 w2):=⟨hR2,hf2⟩;clear hR2 hf2 c17)
 refine bodyPost_ret (v:=.tuple #[.pointer (some ⟨p,0,.none⟩),.int .u64 t,.bool true]) (by simp[results,Tryz.results8,go_sem]) rfl ?_
 exact⟨p,b,m,_,H1.out.1,H1.out.2.1,H1.out.2.2.1,by rw[HT.out],H2.out.1,H1.out.2.2.2.2.trans (H2.out.2.toBelow H1.out.2.2.2.2.size H1.out.1 H1.out.2.1 H1.out.2.2.1),fun j hj=>Rm.zer_in _ _ _ hj⟩
def clN (z:Int):Nat:=if z<2 then 2 else if 4096<z then 4096 else z.toNat
theorem clN_b (z:Int):2<=clN z∧clN z<=4096:=by
 unfold clN
 split
 ·omega
 ·split<;>omega
theorem memory_all (z:Int) (w:World):Calls Tryz.prog 8 #[.int .i64 z] w (MeP w (clN z)):=by
 unfold clN
 by_cases h1:z<2
 ·rw[if_pos h1]
  exact memory_few z h1 w
 ·rw[if_neg h1]
  by_cases h2:4096<z
  ·rw[if_pos h2]
   exact memory_many z h2 w
  ·rw[if_neg h2]
   have:=memory_any z.toNat (by omega) (by omega) w
   rwa [show ((z.toNat:Nat):Int)=z by omega] at this
theorem num4 (B:Nat->Int):num B 0 4=B 0+256*B 1+65536*B 2+16777216*B 3:=by
 simp[num]
theorem first_127 {B:Nat->Int} (hB:∀ i,0<=B i∧B i<256) (h:chk B 0):B 0=127:=by
 rcases h with h|h
 ·exact absurd h (by decide)
 ·have h:num B 0 4=1179403647:=h
  rw[num4] at h
  have:=hB 0
  omega
theorem hd_turned {C:Nat->Int} (h:C 0=37):Hd C 0 141:=by
 refine .inr ⟨0,by omega,fun j hj=>by omega,fun hc=>?_,rfl,rfl⟩
 rcases hc with hc|hc
 ·exact absurd hc (by decide)
 ·have hc:num C 0 4=1179403647:=hc
  rw[num4] at hc
  omega
theorem rd_turned (n:Nat) (C:Nat->Int):(rdF n C 0 141).1.2≠0:=by
 unfold rdF
 split
 ·show (147:Int)≠0
  decide
 ·split
  ·show (140:Int)≠0
   decide
  ·rw[if_pos (by decide)]
   show (141:Int)≠0
   decide
theorem turned_127:bits .xor .u8 127 90=37:=by decide
theorem rd_first {n:Nat} {B:Nat->Int} (hB:∀ i,0<=B i∧B i<256) {a r:Int} (hH:Hd B a r) (h:(rdF n B a r).1.2=0):B 0=127∧64<=n:=by
 unfold rdF at h
 split at h
 ·cases h
 ·rename_i g1
  split at h
  ·cases h
  ·rename_i g2
   refine⟨?_,by omega⟩
   by_cases hr:r=0
   ·rcases hH with⟨_,_,h3⟩|⟨i,_,_,_,_,h6⟩
    ·exact first_127 hB (h3 0 (by omega))
    ·rw[hr] at h6
     split at h6<;>cases h6
   ·rw[if_pos hr] at h
    exact absurd h hr
end
section
open Go.RowKit Go.Shelf
def flP (pr:Nat->Int) (d:Nat->Nat) (k:Nat):List Value:=(List.range k).flatMap fun j=>[.int .u64 (pr j),.slice (some ⟨d j,0,.none⟩) 4096 4096]
theorem flP_next (pr:Nat->Int) (d:Nat->Nat) (k:Nat):flP pr d (k+1)=flP pr d k ++ [.int .u64 (pr k),.slice (some ⟨d k,0,.none⟩) 4096 4096]:=by
 unfold flP
 rw[List.range_succ,List.flatMap_append]
 simp
theorem flP_len (pr:Nat->Int) (d:Nat->Nat):∀ k,(flP pr d k).length=k*2
 |0=>rfl
 |k+1=>by rw[flP_next,List.length_append,flP_len pr d k];simp;omega
theorem flP_get (pr:Nat->Int) (d:Nat->Nat):∀ (k j:Nat),j<k->(flP pr d k)[j*2]? = some (.int .u64 (pr j))∧(flP pr d k)[j*2+1]? = some (.slice (some ⟨d j,0,.none⟩) 4096 4096)
 |0,j,h=>by omega
 |k+1,j,h=>by
  rw[flP_next]
  have hl:=flP_len pr d k
  by_cases hj:j<k
  ·obtain⟨h1,h2⟩:=flP_get pr d k j hj
   exact⟨by rw[List.getElem?_append_left (by omega)];exact h1,by rw[List.getElem?_append_left (by omega)];exact h2⟩
  ·obtain rfl:j=k:=by omega
   exact⟨by rw[List.getElem?_append_right (by omega),hl,Nat.sub_self];rfl,by rw[List.getElem?_append_right (by omega),hl,show j*2+1-j*2=1 by omega];rfl⟩
theorem flP_congr {pr:Nat->Int} {d d':Nat->Nat}:∀ {k:Nat},(∀ j,j<k->d j=d' j)->flP pr d k=flP pr d' k
 |0,_=>rfl
 |k+1,h=>by rw[flP_next,flP_next,flP_congr (fun j hj=>h j (by omega)),h k (by omega)]
structure DPg (w:World) (X:Nat) (v:Value) (k:Nat) (pr:Nat->Int) (d:Nat->Nat) (M:Nat->Int):Prop where
 own:w.ownsRow X 130 2 v k (flP pr d k)
 row:∀ j,j<k->w.rowIs (d j) 5 4096 (fun i=>.int .u8 (M (j*4096+i)))
 bd:∀ j,j<k->X<=d j
 inj:∀ i j,i<k->j<k->d i=d j->i=j
theorem DPg.cell {w:World} {X k g c j:Nat} {pr:Nat->Int} {d:Nat->Nat} {M:Nat->Int} (h:DPg w X (.slice (some ⟨g,0,.none⟩) k c) k pr d M) (hj:j<k):w.cell? ⟨g,j*2,.none⟩=some (.int .u64 (pr j))∧w.cell? ⟨g,j*2+1,.none⟩=some (.slice (some ⟨d j,0,.none⟩) 4096 4096):=by
 obtain⟨h1,h2⟩:=flP_get pr d k j hj
 obtain⟨g1,e1,k1⟩:=own_cell h.own h1 (by omega) (by omega)
 obtain⟨g2,e2,k2⟩:=own_cell h.own h2 (by omega) (by omega)
 simp only[Option.some.injEq,Addr.mk.injEq,and_true] at e1 e2
 subst e1 e2
 exact⟨k1,k2⟩
theorem own_keepB {w w':World} {B e k n:Nat} {v:Value} {xs:List Value} (h:w.ownsRow B e k v n xs) (hk:∀ (g:Nat) (cur:Array Value) (f:Nat×Nat),w.heap[g]? = some (Obj.cells cur e f)->w'.heap[g]? = w.heap[g]?):w'.ownsRow B e k v n xs:=by
 refine⟨h.1,?_⟩
 rcases h.2 with h0|⟨g,cap,cur,hv,h1,h2,h3⟩
 ·exact .inl h0
 ·exact .inr ⟨g,cap,cur,hv,h1,(hk g _ _ h2).trans h2,h3⟩
theorem DPg.write {w:World} {X k j i:Nat} {v:Value} {pr:Nat->Int} {d:Nat->Nat} {M:Nat->Int} (h:DPg w X v k pr d M) (hj:j<k) (hi:i<4096) (z:Int):DPg (w.setCell ⟨d j,i,.none⟩ (.int .u8 z)) X v k pr d (fun a=>if a=j*4096+i then z else M a):=by
 refine⟨own_keepB h.own (fun g cur f hg=>Below.heap_setCell _ _ _ _ (fun e9=>by
  have e9:g=d j:=e9
  obtain⟨c9,h9,_⟩:=h.row j hj
  rw[e9,h9] at hg
  simp at hg)),fun j' hj'=>?_,h.bd,h.inj⟩
 by_cases e:j'=j
 ·subst e
  refine((h.row j' hj').set i (.int .u8 z)).congr fun a ha=>?_
  by_cases e2:a=i
  ·subst e2
   rw[if_pos rfl]
   simp
  ·rw[if_neg e2,if_neg (by omega)]
 ·refine((h.row j' hj').setOther (a:=⟨d j,i,.none⟩) (fun e2=>e (h.inj j' j hj' hj e2)) _).congr fun a ha=>?_
  rw[if_neg (by omega)]
theorem DPg.keep {w w':World} {X k:Nat} {v:Value} {pr:Nat->Int} {d:Nat->Nat} {M:Nat->Int} (h:DPg w X v k pr d M) (hb:Below w.heap.size w w'):DPg w' X v k pr d M:=
 ⟨owns_below h.own hb,fun j hj=>(h.row j hj).of_block (hb.block _ (h.row j hj).lt),h.bd,h.inj⟩
end
section
open Go.RowKit Go.Shelf
set_option maxRecDepth 10000 in
theorem loadQ_ref {W:World} {pl:Nat} {fp:Option Addr} {b o fn fc:Nat} {B:Nat->Int} (hp:64<=fn->fp=some ⟨b,o,.none⟩) (hrow:Row W b o fn B) (hB:∀ i,0<=B i∧B i<256) (hc:fn<=fc∧fc<=9223372036854775807) (hn3:fn<=400000) (ha hr:Int) (hH:Hd B ha hr)
  {p:Option Addr} {n c:Nat} {xs:List Bs} (hA:Arg W p n c xs) (hne:dmE (rdF fn B ha hr).1.2 xs≠0) :
  Calls Tryz.prog 26 #[.pointer (some ⟨pl,0,.none⟩),.slice fp fn fc,.slice p n c] W fun e w'=>e = .returned (.tuple #[.pointer .none,.agg #[.int .u64 0,.int .u64 0,.int .u64 0],.int .i64 (dmE (rdF fn B ha hr).1.2 xs)])∧Below W.heap.size W w':=by
 obtain⟨W1,hW1⟩:∃ W1,W1=W.alloc (.cells #[.int .u64 0,.int .u64 0,.int .u64 0] 44):=⟨_,rfl⟩
 have b1:Below W.heap.size W W1:=by rw[hW1];exact zB.alloc zL _
 have k0:W1.cell? ⟨W.heap.size,0,.none⟩=some (.int .u64 0):=by rw[hW1];simp
 have k1:W1.cell? ⟨W.heap.size,1,.none⟩=some (.int .u64 0):=by rw[hW1];simp
 have k2:W1.cell? ⟨W.heap.size,2,.none⟩=some (.int .u64 0):=by rw[hW1];simp
 have k4:∀ i,W1.frozen? ⟨W.heap.size,i,.none⟩=false:=fun i=>by rw[hW1];exact World.frozen?_alloc_new _ _ _ i
 have cD:=demandQ_any hp (hrow.keep b1) hB hc hn3 ha hr hH (hA.below b1)
 have HU:Hid (True∧Below W.heap.size W W1∧∀ i,W1.frozen? ⟨W.heap.size,i,.none⟩=false):=⟨trivial,b1,k4⟩
 generalize (rdF fn B ha hr).1.2=r at cD hne ⊢
 generalize ePg (sgO fn B ha hr)=eP at cD
 have hN:dmN r eP xs=0:=by simp[dmN,hne]
 rw[hN] at cD
 clear hp hrow hB hc hn3 hH hA b1 k4 hN
 obtain⟨x,hx⟩:∃ x,x=W.heap.size:=⟨_,rfl⟩
 have HX:Hid (x=W.heap.size):=hx
 generalize dmE r xs=d at hne cD ⊢
 have hd:(d != 0)=true:=by simpa using hne
 clear hne
 go_enter Tryz.func26,Tryz.ntmps26
 go_upto_region 1 with fail
 rw[<-hW1,<-hx]
 rw[<-hx] at k0 k1 k2
 clear hW1 hx
 go_upto_region 2 with(go_at_call 62;refine cD.mono ?_;rintro _ w3 ⟨rfl,b3⟩)
 have B3:Hid (Below W1.heap.size W1 w3):=b3
 clear b3 cD
 have l0:=(B3.out.cell (zC k0)).trans k0
 have l1:=(B3.out.cell (zC k1)).trans k1
 have l2:=(B3.out.cell (zC k2)).trans k2
 have f0:w3.frozen? ⟨x,0,.none⟩=false:=(B3.out.frozen (p:=⟨x,0,.none⟩) (zC k0)).trans (by rw[HX.out];exact HU.out.2.2 0)
 have f1:w3.frozen? ⟨x,1,.none⟩=false:=(B3.out.frozen (p:=⟨x,1,.none⟩) (zC k1)).trans (by rw[HX.out];exact HU.out.2.2 1)
 have f2:w3.frozen? ⟨x,2,.none⟩=false:=(B3.out.frozen (p:=⟨x,2,.none⟩) (zC k2)).trans (by rw[HX.out];exact HU.out.2.2 2)
 go_wp2_with fail
 have hxw:=HX.out
 refine bodyPost_ret (v:=.tuple #[.pointer .none,.agg #[.int .u64 0,.int .u64 0,.int .u64 0],.int .i64 d]) (by simp[results,Tryz.results26,go_sem,l0,l1,l2]) rfl ⟨rfl,?_⟩
 have hb:=HU.out.2.1.trans (B3.out.mono HU.out.2.1.size)
 exact((hb.setCell (by show W.heap.size<=x;omega) _).setCell (by show W.heap.size<=x;omega) _).setCell (by show W.heap.size<=x;omega) _
set_option maxRecDepth 10000 in
theorem loadQ_room {W:World} {pl f kn:Nat} (hpl:W.cell? ⟨pl,0,.none⟩=some (.int .i64 f)) (hpz:W.frozen? ⟨pl,0,.none⟩=false) (hf:f<=1000000) {fp:Option Addr} {b o fn fc:Nat} {B:Nat->Int} (hp:64<=fn->fp=some ⟨b,o,.none⟩) (hrow:Row W b o fn B) (hB:∀ i,0<=B i∧B i<256) (hc:fn<=fc∧fc<=9223372036854775807) (hn3:fn<=400000) (ha hr:Int) (hH:Hd B ha hr)
  {p:Option Addr} {n c:Nat} {xs:List Bs} (hA:Arg W p n c xs) (hne:dmE (rdF fn B ha hr).1.2 xs=0) (hk:ePg (sgO fn B ha hr)+6+(ePg (sgO fn B ha hr)+513)/512=(kn:Int)) (hkn:kn<=1000000) (hlt:f<kn) :
  Calls Tryz.prog 26 #[.pointer (some ⟨pl,0,.none⟩),.slice fp fn fc,.slice p n c] W fun e w'=>e = .returned (.tuple #[.pointer .none,.agg #[.int .u64 0,.int .u64 0,.int .u64 0],.int .i64 284])∧Below W.heap.size W w':=by
 obtain⟨W1,hW1⟩:∃ W1,W1=W.alloc (.cells #[.int .u64 0,.int .u64 0,.int .u64 0] 44):=⟨_,rfl⟩
 have b1:Below W.heap.size W W1:=by rw[hW1];exact zB.alloc zL _
 have k0:W1.cell? ⟨W.heap.size,0,.none⟩=some (.int .u64 0):=by rw[hW1];simp
 have k1:W1.cell? ⟨W.heap.size,1,.none⟩=some (.int .u64 0):=by rw[hW1];simp
 have k2:W1.cell? ⟨W.heap.size,2,.none⟩=some (.int .u64 0):=by rw[hW1];simp
 have k4:∀ i,W1.frozen? ⟨W.heap.size,i,.none⟩=false:=fun i=>by rw[hW1];exact World.frozen?_alloc_new _ _ _ i
 have cD:=demandQ_any hp (hrow.keep b1) hB hc hn3 ha hr hH (hA.below b1)
 have HU:Hid (True∧Below W.heap.size W W1∧∀ i,W1.frozen? ⟨W.heap.size,i,.none⟩=false):=⟨trivial,b1,k4⟩
 generalize (rdF fn B ha hr).1.2=r at cD hne
 generalize ePg (sgO fn B ha hr)=eP at cD hk
 have hN:dmN r eP xs=kn:=by rw[<-hk];simp[dmN,hne]
 rw[hN,hne] at cD
 have HP:Hid (W1.cell? ⟨pl,0,.none⟩=some (.int .i64 f)∧W1.frozen? ⟨pl,0,.none⟩=false∧pl<W1.heap.size):=⟨(b1.cell (zC hpl)).trans hpl,(b1.frozen (p:=⟨pl,0,.none⟩) (zC hpl)).trans hpz,Nat.lt_of_lt_of_le (zC hpl) b1.size⟩
 clear hp hrow hB hc hn3 hH hA b1 k4 hN hpl hpz hk
 obtain⟨x,hx⟩:∃ x,x=W.heap.size:=⟨_,rfl⟩
 have HX:Hid (x=W.heap.size):=hx
 clear hne
 go_enter Tryz.func26,Tryz.ntmps26
 go_upto_region 1 with fail
 rw[<-hW1,<-hx]
 rw[<-hx] at k0 k1 k2
 clear hW1 hx
 go_upto_region 2 with(go_at_call 62;refine cD.mono ?_;rintro _ w3 ⟨rfl,b3⟩)
 have B3:Hid (Below W1.heap.size W1 w3):=b3
 clear b3 cD
 have c63:=take_any ((B3.out.cell HP.out.2.2).trans HP.out.1) ((B3.out.frozen (p:=⟨pl,0,.none⟩) HP.out.2.2).trans HP.out.2.1) hf kn hkn
 have l0:=(B3.out.cell (zC k0)).trans k0
 have l1:=(B3.out.cell (zC k1)).trans k1
 have l2:=(B3.out.cell (zC k2)).trans k2
 have f0:w3.frozen? ⟨x,0,.none⟩=false:=(B3.out.frozen (p:=⟨x,0,.none⟩) (zC k0)).trans (by rw[HX.out];exact HU.out.2.2 0)
 have f1:w3.frozen? ⟨x,1,.none⟩=false:=(B3.out.frozen (p:=⟨x,1,.none⟩) (zC k1)).trans (by rw[HX.out];exact HU.out.2.2 1)
 have f2:w3.frozen? ⟨x,2,.none⟩=false:=(B3.out.frozen (p:=⟨x,2,.none⟩) (zC k2)).trans (by rw[HX.out];exact HU.out.2.2 2)
 go_wp2_with (go_at_call 63;refine c63.mono ?_;rintro _ w4 h4;obtain⟨rfl,e4⟩:_∧w4=w3:=(by rcases h4 with⟨h,_⟩|⟨_,h1,h2⟩;exact absurd hlt (by omega);exact⟨h1,h2⟩);subst e4;clear h4 c63)
 have hxw:=HX.out
 refine bodyPost_ret (v:=.tuple #[.pointer .none,.agg #[.int .u64 0,.int .u64 0,.int .u64 0],.int .i64 284]) (by simp[results,Tryz.results26,go_sem,l0,l1,l2]) rfl ⟨rfl,?_⟩
 have hb:=HU.out.2.1.trans (B3.out.mono HU.out.2.1.size)
 exact((hb.setCell (by show W.heap.size<=x;omega) _).setCell (by show W.heap.size<=x;omega) _).setCell (by show W.heap.size<=x;omega) _
end
end Go.Proofs.YtabnipbdbnmmpaaGreatDoor
