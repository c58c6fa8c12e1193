import Derived.Test.YtabnipbdbnmmpaaGreatDoorLd01
import Derived.Test.YtabnipbdbnmmpaaGreatDoorLd19
set_option linter.unusedVariables false
set_option linter.unusedSimpArgs false
set_option maxHeartbeats 8000000
namespace Go.Proofs.YtabnipbdbnmmpaaGreatDoor
section
open Go.RowKit
theorem set2 {V:World} {rs:Nat} {x y:Value} (r0:V.cell? ⟨rs,0,.none⟩=some x) (r1:V.cell? ⟨rs,1,.none⟩=some y) (a b:Value) :
  ((V.setCell ⟨rs,0,.none⟩ a).setCell ⟨rs,1,.none⟩ b).cell? ⟨rs,0,.none⟩=some a∧((V.setCell ⟨rs,0,.none⟩ a).setCell ⟨rs,1,.none⟩ b).cell? ⟨rs,1,.none⟩=some b∧rs<((V.setCell ⟨rs,0,.none⟩ a).setCell ⟨rs,1,.none⟩ b).heap.size∧(∀ B k,B≠rs->((V.setCell ⟨rs,0,.none⟩ a).setCell ⟨rs,1,.none⟩ b).cell? ⟨B,k,.none⟩=V.cell? ⟨B,k,.none⟩)∧(∀ k w,k<=rs->Below k w V->Below k w ((V.setCell ⟨rs,0,.none⟩ a).setCell ⟨rs,1,.none⟩ b)):=by
 have s0:((V.setCell ⟨rs,0,.none⟩ a).setCell ⟨rs,1,.none⟩ b).cell? ⟨rs,0,.none⟩=some a:=by
  rw[zO (by simp)]
  exact World.cell?_setCell_same' _ _ _ (by rw[r0];rfl)
 refine⟨s0,World.cell?_setCell_same' _ _ _ (by rw[zO (by simp),r1];rfl),zC (x:=⟨rs,0,.none⟩) s0,fun B k hB=>?_,fun k w hk h=>(h.setCell (p:=⟨rs,0,.none⟩) hk _).setCell (p:=⟨rs,1,.none⟩) hk _⟩
 rw[zO (by simp only[ne_eq,Addr.mk.injEq,not_and];intro e;omega),zO (by simp only[ne_eq,Addr.mk.injEq,not_and];intro e;omega)]
theorem LFault.put {V:World} {rs:Nat} {y:Value} {a r:Int} {p:Option Addr} {n c:Nat} {B:Nat} (r0:V.cell? ⟨rs,0,.none⟩=some (.slice p n c)) (r1:V.cell? ⟨rs,1,.none⟩=some y) (hB:B<V.heap.size) (c0:V.cell? ⟨B,0,.none⟩=some (.string ramB)) (c1:V.cell? ⟨B,1,.none⟩=some (.int .i64 a)) (u v:Value) :
  LFault ((V.setCell ⟨rs,0,.none⟩ u).setCell ⟨rs,1,.none⟩ v) (.agg #[.slice (some ⟨B,0,.none⟩) 1 1,.int .i64 r]) a r:=by
 have hne:B≠rs:=fun e=>by
  rw[e,r0] at c0
  cases c0
 obtain⟨_,_,_,so,_⟩:=set2 r0 r1 u v
 have h0:=(so B 0 hne).trans c0
 exact⟨B,zC (x:=⟨B,0,.none⟩) h0,rfl,h0,(so B 1 hne).trans c1⟩
theorem num1 (B:Nat->Int) (o:Nat):num B o 1=B o:=by simp[num]
theorem chk_small (B:Nat->Int) (k:Nat) (h:k<3):chk B (k+1)↔B (4+k)=if k=0 then 2 else 1:=by
 rcases (show k=0∨k=1∨k=2 by omega) with rfl|rfl|rfl
 ·show (2:Int)=0∨num B 4 1=2↔_
  rw[num1];simp
 ·show (1:Int)=0∨num B 5 1=1↔_
  rw[num1];simp
 ·show (1:Int)=0∨num B 6 1=1↔_
  rw[num1];simp
theorem hOf_small (k:Nat) (h:k<3):(4+(k:Int))=(hOf (k+1):Nat):=by
 rcases (show k=0∨k=1∨k=2 by omega) with rfl|rfl|rfl<;>decide
def HdP (w:World) (B:Nat->Int) (e:Ending) (w':World):Prop:=∃ a r g,Hd B a r∧e = .returned g∧RefR w' g a r∧Below w.heap.size w w'
theorem headNo_any {w:World} {b o n c:Nat} {B:Nat->Int} (hrow:Row w b o n B) (hB:∀ i,0<=B i∧B i<256) (hc:n<=c∧c<=9223372036854775807) (h64:64<=n):Calls Tryz.prog 119 #[.slice (some ⟨b,o,.none⟩) n c] w fun e w'=>HdP w B e w':=by
 have HRw:Hid (Row w b o n B):=hrow
 have HB1:Hid (Below w.heap.size w (w.alloc (.cells #[.slice .none 0 0,.int .i64 0] 121))):=zB.alloc zL _
 have HQ:Hid ((w.alloc (.cells #[.slice .none 0 0,.int .i64 0] 121)).cell? ⟨w.heap.size,0,.none⟩=some (.slice .none 0 0)∧(w.alloc (.cells #[.slice .none 0 0,.int .i64 0] 121)).cell? ⟨w.heap.size,1,.none⟩=some (.int .i64 0)∧∀ k,(w.alloc (.cells #[.slice .none 0 0,.int .i64 0] 121)).frozen? ⟨w.heap.size,k,.none⟩=false):=⟨by simp,by simp,fun k=>World.frozen?_alloc_new _ _ _ _⟩
 clear hrow
 go_enter Tryz.func119,Tryz.ntmps119
 go_wp2_with fail
 generalize (w.alloc (.cells #[.slice .none 0 0,.int .i64 0] 121))=W1 at *
 refine(value_any b o n c 0 4 B W1 (by omega) hc.1 hc.2 (by omega) hB (HRw.out.keep (HB1.out))).mono ?_
 rintro e w9 ⟨rfl,hw9⟩
 cases hw9
 by_cases c0:num B 0 4=1179403647
 rotate_left
 ·have g0:(num B 0 4 != 1179403647)=true:=by simpa using c0
  go_wp2_with fail
  refine(no_any 141 0 W1).mono ?_
  rintro e V9 ⟨⟨v9,rfl,B9,hB9,rfl,c90,c91⟩,hb9⟩
  have kb:=(Below.refl W1.heap.size W1).trans (hb9.mono (Below.refl W1.heap.size W1).size)
  have r0:=(kb.cell (zC HQ.out.1)).trans HQ.out.1
  have r1:=(kb.cell (zC HQ.out.2.1)).trans HQ.out.2.1
  have z0:=(kb.frozen (p:=⟨w.heap.size,0,.none⟩) (zC HQ.out.1)).trans (HQ.out.2.2 0)
  have z1:=(kb.frozen (p:=⟨w.heap.size,1,.none⟩) (zC HQ.out.2.1)).trans (HQ.out.2.2 1)
  go_wp2_with fail
  obtain⟨s0,s1,s2,_,s4⟩:=set2 r0 r1 (.slice (some ⟨B9,0,.none⟩) 1 1) (.int .i64 141)
  have hLF:=LFault.put (r:=141) r0 r1 hB9 c90 c91 (.slice (some ⟨B9,0,.none⟩) 1 1) (.int .i64 141)
  have hbb:=s4 _ w zL (HB1.out.trans (kb.mono HB1.out.size))
  generalize ((V9.setCell ⟨w.heap.size,0,.none⟩ (.slice (some ⟨B9,0,.none⟩) 1 1)).setCell ⟨w.heap.size,1,.none⟩ (.int .i64 141))=W9 at *
  refine bodyPost_ret (v:=.agg #[.slice (some ⟨B9,0,.none⟩) 1 1,.int .i64 141]) (by simp[results,Tryz.results119,go_sem,s0,s1,s2]) rfl ?_
  exact⟨_,_,_,.inr ⟨0,by omega,fun j hj=>by omega,fun h=>h.elim (by decide) c0,rfl,rfl⟩,rfl,.inl ⟨by decide,hLF⟩,hbb⟩
 have g0:(num B 0 4 != 1179403647)=false:=by simpa using c0
 have K0:Hid (chk B 0):=.inr c0
 clear c0
 go_upto_block 0 with fail
 go_cut [4] (fun _ wx=>Hid ((∀ j,j<4->chk B j)∧Below W1.heap.size W1 wx))
 case first=>
  go_wp2_with fail
  have HW2:Hid (Below W1.heap.size W1 (W1.alloc (.cells #[.int .u8 2,.int .u8 1,.int .u8 1] 5))):=zB.alloc zL _
  have HWn:Hid (∀ k,k<3->(W1.alloc (.cells #[.int .u8 2,.int .u8 1,.int .u8 1] 5)).cell? ⟨W1.heap.size,k,.none⟩=some (.int .u8 (if k=0 then 2 else 1))):=by
   intro k hk
   rcases (show k=0∨k=1∨k=2 by omega) with rfl|rfl|rfl<;>simp
  generalize (W1.alloc (.cells #[.int .u8 2,.int .u8 1,.int .u8 1] 5))=W2 at *
  go_loopw [4] (fun a wr=>∃ k:Nat,k<=3∧a = .int .i64 k∧Hid ((∀ j,j<k+1->chk B j)∧Below W2.heap.size W2 wr)) (fun a _=>(3-intOf a).toNat)
  case atStart=>exact⟨0,by omega,rfl,fun j hj=>(show 0=j by omega) ▸ K0.out,Below.refl _ _⟩
  case round=>
   obtain⟨k,hk,rfl,HS⟩:=hrel
   by_cases hlt:k<3
   ·have g1:(k:Int)<3:=by omega
    have hWr:Below w.heap.size w wr:=(HB1.out.trans (HW2.out.mono HB1.out.size)).trans (HS.out.2.mono (HB1.out.trans (HW2.out.mono HB1.out.size)).size)
    have x0:wr.drew.cell? ⟨b,o+(4+k),.none⟩=some (.int .u8 (B (4+k))):=(HRw.out.keep hWr) (4+k) (by omega)
    have x1:wr.drew.cell? ⟨W1.heap.size,k,.none⟩=some (.int .u8 (if k=0 then 2 else 1)):=(HS.out.2.cell (zC (HWn.out k hlt))).trans (HWn.out k hlt)
    generalize hwn:(if k=0 then (2:Int) else 1)=wn at *
    have HWNe:Hid ((if k=0 then (2:Int) else 1)=wn):=hwn
    clear hwn
    have kS:wr.drew.cell? ⟨b,o+(4+k),.none⟩=some (.int .u8 (B (4+k)))∧wr.drew.cell? ⟨W1.heap.size,k,.none⟩=some (.int .u8 wn):=⟨x0,x1⟩
    have gk:(4+(k:Int))<n:=by omega
    have hw4:IntKind.i64.wrap (4+(k:Int))=4+(k:Int):=by rw[IntKind.wrap_i64];omega
    have h04:0<=4+(k:Int):=by omega
    have ht4:(4+(k:Int)).toNat=4+k:=by omega
    go_upto_region 7 with fail
    by_cases hm:B (4+k)=wn
    ·have hm':(B (4+k) != wn)=false:=by simpa using hm
     have HM:Hid (B (4+k)=wn):=hm
     clear hm
     refine wp_region_held_drew (S:=fun U2=>U2.cell? ⟨b,o+(4+k),.none⟩=some (.int .u8 (B (4+k)))∧U2.cell? ⟨W1.heap.size,k,.none⟩=some (.int .u8 wn)) (by kernel_rfl) kS (fun hHeld=>?_)
     refine aT 0 (.slice (some ⟨b,o,.none⟩) n c) rfl ?_
     simp only[xX]
     refine aT 1 (.int .i64 k) rfl ?_
     simp only[xX]
     refine aT 2 (.int .i64 (4+(k:Int))) rfl ?_
     simp only[xX]
     refine aT 3 (.pointer (some ⟨b,o+(4+k),.none⟩)) rfl ?_
     simp only[xX]
     refine aT 4 (.int .u8 (B (4+k))) rfl ?_
     simp only[xX]
     refine aT 5 (.slice (some ⟨W1.heap.size,0,.none⟩) 3 3) rfl ?_
     simp only[xX]
     refine aT 6 (.int .i64 k) rfl ?_
     simp only[xX]
     refine aT 7 (.pointer (some ⟨W1.heap.size,k,.none⟩)) rfl ?_
     simp only[xX]
     refine aT 8 (.int .u8 wn) rfl ?_
     simp only[xX]
     refine aT 9 (.bool false) rfl ?_
     simp only[xX]
     refine wpAnyH_done (by kernel_rfl) ?_ _
     clear hHeld kS x0 x1
     have HN:Hid (∀ j,j<k+1+1->chk B j):=fun j hj=>by
      by_cases e:j=k+1
      ·subst e;exact(chk_small B k hlt).2 (HM.out.trans HWNe.out.symm)
      ·exact HS.out.1 j (by omega)
     go_wp2_with fail
     exact⟨⟨k+1,by omega,by simp,HN.out,HS.out.2.drew⟩,by simp[intOf];omega⟩
    ·have hm':(B (4+k) != wn)=true:=by simpa using hm
     have HM:Hid (¬ B (4+k)=wn):=hm
     clear hm
     refine wp_region_held_drew (S:=fun U2=>U2.cell? ⟨b,o+(4+k),.none⟩=some (.int .u8 (B (4+k)))∧U2.cell? ⟨W1.heap.size,k,.none⟩=some (.int .u8 wn)) (by kernel_rfl) kS (fun hHeld=>?_)
     refine aT 0 (.slice (some ⟨b,o,.none⟩) n c) rfl ?_
     simp only[xX]
     refine aT 1 (.int .i64 k) rfl ?_
     simp only[xX]
     refine aT 2 (.int .i64 (4+(k:Int))) rfl ?_
     simp only[xX]
     refine aT 3 (.pointer (some ⟨b,o+(4+k),.none⟩)) rfl ?_
     simp only[xX]
     refine aT 4 (.int .u8 (B (4+k))) rfl ?_
     simp only[xX]
     refine aT 5 (.slice (some ⟨W1.heap.size,0,.none⟩) 3 3) rfl ?_
     simp only[xX]
     refine aT 6 (.int .i64 k) rfl ?_
     simp only[xX]
     refine aT 7 (.pointer (some ⟨W1.heap.size,k,.none⟩)) rfl ?_
     simp only[xX]
     refine aT 8 (.int .u8 wn) rfl ?_
     simp only[xX]
     refine aT 9 (.bool true) rfl ?_
     simp only[xX]
     refine wpAnyH_done (by kernel_rfl) ?_ _
     clear hHeld kS x0 x1
     have hWd:Below W1.heap.size W1 wr.drew:=(HW2.out.trans (HS.out.2.mono HW2.out.size)).drew
     go_wp2_with fail
     refine(no_any 141 (4+(k:Int)) wr.drew).mono ?_
     rintro e V9 ⟨⟨v9,rfl,B9,hB9,rfl,c90,c91⟩,hb9⟩
     have kb:=(hWd).trans (hb9.mono (hWd).size)
     have r0:=(kb.cell (zC HQ.out.1)).trans HQ.out.1
     have r1:=(kb.cell (zC HQ.out.2.1)).trans HQ.out.2.1
     have z0:=(kb.frozen (p:=⟨w.heap.size,0,.none⟩) (zC HQ.out.1)).trans (HQ.out.2.2 0)
     have z1:=(kb.frozen (p:=⟨w.heap.size,1,.none⟩) (zC HQ.out.2.1)).trans (HQ.out.2.2 1)
     go_wp2_with fail
     obtain⟨s0,s1,s2,_,s4⟩:=set2 r0 r1 (.slice (some ⟨B9,0,.none⟩) 1 1) (.int .i64 141)
     have hLF:=LFault.put (r:=141) r0 r1 hB9 c90 c91 (.slice (some ⟨B9,0,.none⟩) 1 1) (.int .i64 141)
     have hbb:=s4 _ w zL (HB1.out.trans (kb.mono HB1.out.size))
     generalize ((V9.setCell ⟨w.heap.size,0,.none⟩ (.slice (some ⟨B9,0,.none⟩) 1 1)).setCell ⟨w.heap.size,1,.none⟩ (.int .i64 141))=W9 at *
     refine bodyPost_ret (v:=.agg #[.slice (some ⟨B9,0,.none⟩) 1 1,.int .i64 141]) (by simp[results,Tryz.results119,go_sem,s0,s1,s2]) rfl ?_
     exact⟨_,_,_,.inr ⟨k+1,by omega,HS.out.1,fun h=>HM.out (((chk_small B k hlt).1 h).trans HWNe.out),hOf_small k hlt,by rw[if_pos (by omega)]⟩,rfl,.inl ⟨by decide,hLF⟩,hbb⟩
   ·have he:k=3:=by omega
    subst he
    go_wp2_with fail
    go_meet
    case rel=>exact⟨HS.out.1,HW2.out.trans (HS.out.2.mono HW2.out.size)⟩
 case rest=>
  have HK:Hid ((∀ j,j<4->chk B j)∧Below W1.heap.size W1 wc):=hcut
  clear hcut
  have HWc:Hid (Below w.heap.size w wc):=HB1.out.trans (HK.out.2.mono HB1.out.size)
  have HKa:Hid (∀ j,j<4->chk B j):=HK.out.1
  go_wp2_with fail
  refine(value_any b o n c 16 2 B wc (by omega) hc.1 hc.2 (by omega) hB (HRw.out.keep (HWc.out))).mono ?_
  rintro e w9 ⟨rfl,hw9⟩
  cases hw9
  by_cases d4:num B 16 2=2
  rotate_left
  ·have g9:(num B 16 2 != 2)=true:=by simpa using d4
   go_wp2_with fail
   refine(no_any 142 16 wc).mono ?_
   rintro e V9 ⟨⟨v9,rfl,B9,hB9,rfl,c90,c91⟩,hb9⟩
   have kb:=(HK.out.2).trans (hb9.mono (HK.out.2).size)
   have r0:=(kb.cell (zC HQ.out.1)).trans HQ.out.1
   have r1:=(kb.cell (zC HQ.out.2.1)).trans HQ.out.2.1
   have z0:=(kb.frozen (p:=⟨w.heap.size,0,.none⟩) (zC HQ.out.1)).trans (HQ.out.2.2 0)
   have z1:=(kb.frozen (p:=⟨w.heap.size,1,.none⟩) (zC HQ.out.2.1)).trans (HQ.out.2.2 1)
   go_wp2_with fail
   obtain⟨s0,s1,s2,_,s4⟩:=set2 r0 r1 (.slice (some ⟨B9,0,.none⟩) 1 1) (.int .i64 142)
   have hLF:=LFault.put (r:=142) r0 r1 hB9 c90 c91 (.slice (some ⟨B9,0,.none⟩) 1 1) (.int .i64 142)
   have hbb:=s4 _ w zL (HB1.out.trans (kb.mono HB1.out.size))
   generalize ((V9.setCell ⟨w.heap.size,0,.none⟩ (.slice (some ⟨B9,0,.none⟩) 1 1)).setCell ⟨w.heap.size,1,.none⟩ (.int .i64 142))=W9 at *
   refine bodyPost_ret (v:=.agg #[.slice (some ⟨B9,0,.none⟩) 1 1,.int .i64 142]) (by simp[results,Tryz.results119,go_sem,s0,s1,s2]) rfl ?_
   exact⟨_,_,_,.inr ⟨4,by omega,HKa.out,fun h=>h.elim (by decide) d4,rfl,rfl⟩,rfl,.inl ⟨by decide,hLF⟩,hbb⟩
  have g4:(num B 16 2 != 2)=false:=by simpa using d4
  have HK4:Hid (∀ j,j<5->chk B j):=fun j hj=>by
   by_cases e:j=4
   ·subst e;exact .inr d4
   ·exact HKa.out j (by omega)
  clear d4
  go_wp2_with fail
  refine(value_any b o n c 18 2 B wc (by omega) hc.1 hc.2 (by omega) hB (HRw.out.keep (HWc.out))).mono ?_
  rintro e w9 ⟨rfl,hw9⟩
  cases hw9
  by_cases d5:num B 18 2=243
  rotate_left
  ·have g9:(num B 18 2 != 243)=true:=by simpa using d5
   go_wp2_with fail
   refine(no_any 142 18 wc).mono ?_
   rintro e V9 ⟨⟨v9,rfl,B9,hB9,rfl,c90,c91⟩,hb9⟩
   have kb:=(HK.out.2).trans (hb9.mono (HK.out.2).size)
   have r0:=(kb.cell (zC HQ.out.1)).trans HQ.out.1
   have r1:=(kb.cell (zC HQ.out.2.1)).trans HQ.out.2.1
   have z0:=(kb.frozen (p:=⟨w.heap.size,0,.none⟩) (zC HQ.out.1)).trans (HQ.out.2.2 0)
   have z1:=(kb.frozen (p:=⟨w.heap.size,1,.none⟩) (zC HQ.out.2.1)).trans (HQ.out.2.2 1)
   go_wp2_with fail
   obtain⟨s0,s1,s2,_,s4⟩:=set2 r0 r1 (.slice (some ⟨B9,0,.none⟩) 1 1) (.int .i64 142)
   have hLF:=LFault.put (r:=142) r0 r1 hB9 c90 c91 (.slice (some ⟨B9,0,.none⟩) 1 1) (.int .i64 142)
   have hbb:=s4 _ w zL (HB1.out.trans (kb.mono HB1.out.size))
   generalize ((V9.setCell ⟨w.heap.size,0,.none⟩ (.slice (some ⟨B9,0,.none⟩) 1 1)).setCell ⟨w.heap.size,1,.none⟩ (.int .i64 142))=W9 at *
   refine bodyPost_ret (v:=.agg #[.slice (some ⟨B9,0,.none⟩) 1 1,.int .i64 142]) (by simp[results,Tryz.results119,go_sem,s0,s1,s2]) rfl ?_
   exact⟨_,_,_,.inr ⟨5,by omega,HK4.out,fun h=>h.elim (by decide) d5,rfl,rfl⟩,rfl,.inl ⟨by decide,hLF⟩,hbb⟩
  have g5:(num B 18 2 != 243)=false:=by simpa using d5
  have HK5:Hid (∀ j,j<6->chk B j):=fun j hj=>by
   by_cases e:j=5
   ·subst e;exact .inr d5
   ·exact HK4.out j (by omega)
  clear d5
  go_wp2_with fail
  refine(value_any b o n c 20 4 B wc (by omega) hc.1 hc.2 (by omega) hB (HRw.out.keep (HWc.out))).mono ?_
  rintro e w9 ⟨rfl,hw9⟩
  cases hw9
  by_cases d6:num B 20 4=1
  rotate_left
  ·have g9:(num B 20 4 != 1)=true:=by simpa using d6
   go_wp2_with fail
   refine(no_any 142 20 wc).mono ?_
   rintro e V9 ⟨⟨v9,rfl,B9,hB9,rfl,c90,c91⟩,hb9⟩
   have kb:=(HK.out.2).trans (hb9.mono (HK.out.2).size)
   have r0:=(kb.cell (zC HQ.out.1)).trans HQ.out.1
   have r1:=(kb.cell (zC HQ.out.2.1)).trans HQ.out.2.1
   have z0:=(kb.frozen (p:=⟨w.heap.size,0,.none⟩) (zC HQ.out.1)).trans (HQ.out.2.2 0)
   have z1:=(kb.frozen (p:=⟨w.heap.size,1,.none⟩) (zC HQ.out.2.1)).trans (HQ.out.2.2 1)
   go_wp2_with fail
   obtain⟨s0,s1,s2,_,s4⟩:=set2 r0 r1 (.slice (some ⟨B9,0,.none⟩) 1 1) (.int .i64 142)
   have hLF:=LFault.put (r:=142) r0 r1 hB9 c90 c91 (.slice (some ⟨B9,0,.none⟩) 1 1) (.int .i64 142)
   have hbb:=s4 _ w zL (HB1.out.trans (kb.mono HB1.out.size))
   generalize ((V9.setCell ⟨w.heap.size,0,.none⟩ (.slice (some ⟨B9,0,.none⟩) 1 1)).setCell ⟨w.heap.size,1,.none⟩ (.int .i64 142))=W9 at *
   refine bodyPost_ret (v:=.agg #[.slice (some ⟨B9,0,.none⟩) 1 1,.int .i64 142]) (by simp[results,Tryz.results119,go_sem,s0,s1,s2]) rfl ?_
   exact⟨_,_,_,.inr ⟨6,by omega,HK5.out,fun h=>h.elim (by decide) d6,rfl,rfl⟩,rfl,.inl ⟨by decide,hLF⟩,hbb⟩
  have g6:(num B 20 4 != 1)=false:=by simpa using d6
  have HK6:Hid (∀ j,j<7->chk B j):=fun j hj=>by
   by_cases e:j=6
   ·subst e;exact .inr d6
   ·exact HK5.out j (by omega)
  clear d6
  have HKx:Hid (∀ j,j<9->chk B j):=fun j hj=>by
   by_cases e:j<7
   ·exact HK6.out j e
   ·rcases (show j=7∨j=8 by omega) with rfl|rfl
    ·exact .inl rfl
    ·exact .inl rfl
  go_wp2_with fail
  refine(value_any b o n c 52 2 B wc (by omega) hc.1 hc.2 (by omega) hB (HRw.out.keep (HWc.out))).mono ?_
  rintro e w9 ⟨rfl,hw9⟩
  cases hw9
  by_cases d9:num B 52 2=64
  rotate_left
  ·have g9:(num B 52 2 != 64)=true:=by simpa using d9
   go_wp2_with fail
   refine(no_any 142 52 wc).mono ?_
   rintro e V9 ⟨⟨v9,rfl,B9,hB9,rfl,c90,c91⟩,hb9⟩
   have kb:=(HK.out.2).trans (hb9.mono (HK.out.2).size)
   have r0:=(kb.cell (zC HQ.out.1)).trans HQ.out.1
   have r1:=(kb.cell (zC HQ.out.2.1)).trans HQ.out.2.1
   have z0:=(kb.frozen (p:=⟨w.heap.size,0,.none⟩) (zC HQ.out.1)).trans (HQ.out.2.2 0)
   have z1:=(kb.frozen (p:=⟨w.heap.size,1,.none⟩) (zC HQ.out.2.1)).trans (HQ.out.2.2 1)
   go_wp2_with fail
   obtain⟨s0,s1,s2,_,s4⟩:=set2 r0 r1 (.slice (some ⟨B9,0,.none⟩) 1 1) (.int .i64 142)
   have hLF:=LFault.put (r:=142) r0 r1 hB9 c90 c91 (.slice (some ⟨B9,0,.none⟩) 1 1) (.int .i64 142)
   have hbb:=s4 _ w zL (HB1.out.trans (kb.mono HB1.out.size))
   generalize ((V9.setCell ⟨w.heap.size,0,.none⟩ (.slice (some ⟨B9,0,.none⟩) 1 1)).setCell ⟨w.heap.size,1,.none⟩ (.int .i64 142))=W9 at *
   refine bodyPost_ret (v:=.agg #[.slice (some ⟨B9,0,.none⟩) 1 1,.int .i64 142]) (by simp[results,Tryz.results119,go_sem,s0,s1,s2]) rfl ?_
   exact⟨_,_,_,.inr ⟨9,by omega,HKx.out,fun h=>h.elim (by decide) d9,rfl,rfl⟩,rfl,.inl ⟨by decide,hLF⟩,hbb⟩
  have g9:(num B 52 2 != 64)=false:=by simpa using d9
  have HK9:Hid (∀ j,j<10->chk B j):=fun j hj=>by
   by_cases e:j=9
   ·subst e;exact .inr d9
   ·exact HKx.out j (by omega)
  clear d9
  go_wp2_with fail
  refine(value_any b o n c 54 2 B wc (by omega) hc.1 hc.2 (by omega) hB (HRw.out.keep (HWc.out))).mono ?_
  rintro e w9 ⟨rfl,hw9⟩
  cases hw9
  by_cases d10:num B 54 2=56
  rotate_left
  ·have g9:(num B 54 2 != 56)=true:=by simpa using d10
   go_wp2_with fail
   refine(no_any 142 54 wc).mono ?_
   rintro e V9 ⟨⟨v9,rfl,B9,hB9,rfl,c90,c91⟩,hb9⟩
   have kb:=(HK.out.2).trans (hb9.mono (HK.out.2).size)
   have r0:=(kb.cell (zC HQ.out.1)).trans HQ.out.1
   have r1:=(kb.cell (zC HQ.out.2.1)).trans HQ.out.2.1
   have z0:=(kb.frozen (p:=⟨w.heap.size,0,.none⟩) (zC HQ.out.1)).trans (HQ.out.2.2 0)
   have z1:=(kb.frozen (p:=⟨w.heap.size,1,.none⟩) (zC HQ.out.2.1)).trans (HQ.out.2.2 1)
   go_wp2_with fail
   obtain⟨s0,s1,s2,_,s4⟩:=set2 r0 r1 (.slice (some ⟨B9,0,.none⟩) 1 1) (.int .i64 142)
   have hLF:=LFault.put (r:=142) r0 r1 hB9 c90 c91 (.slice (some ⟨B9,0,.none⟩) 1 1) (.int .i64 142)
   have hbb:=s4 _ w zL (HB1.out.trans (kb.mono HB1.out.size))
   generalize ((V9.setCell ⟨w.heap.size,0,.none⟩ (.slice (some ⟨B9,0,.none⟩) 1 1)).setCell ⟨w.heap.size,1,.none⟩ (.int .i64 142))=W9 at *
   refine bodyPost_ret (v:=.agg #[.slice (some ⟨B9,0,.none⟩) 1 1,.int .i64 142]) (by simp[results,Tryz.results119,go_sem,s0,s1,s2]) rfl ?_
   exact⟨_,_,_,.inr ⟨10,by omega,HK9.out,fun h=>h.elim (by decide) d10,rfl,rfl⟩,rfl,.inl ⟨by decide,hLF⟩,hbb⟩
  have g10:(num B 54 2 != 56)=false:=by simpa using d10
  have HK10:Hid (∀ j,j<11->chk B j):=fun j hj=>by
   by_cases e:j=10
   ·subst e;exact .inr d10
   ·exact HK9.out j (by omega)
  clear d10
  go_wp2_with fail
  refine(none_any wc).mono ?_
  rintro e V9 ⟨rfl,hv9⟩
  have hb9:Below wc.heap.size wc V9:=by rw[hv9];exact zB.alloc zL _
  clear hv9
  have kb:=HK.out.2.trans (hb9.mono HK.out.2.size)
  have r0:=(kb.cell (zC HQ.out.1)).trans HQ.out.1
  have r1:=(kb.cell (zC HQ.out.2.1)).trans HQ.out.2.1
  have z0:=(kb.frozen (p:=⟨w.heap.size,0,.none⟩) (zC HQ.out.1)).trans (HQ.out.2.2 0)
  have z1:=(kb.frozen (p:=⟨w.heap.size,1,.none⟩) (zC HQ.out.2.1)).trans (HQ.out.2.2 1)
  go_wp2_with fail
  obtain⟨s0,s1,s2,_,s4⟩:=set2 r0 r1 (.slice .none 0 0) (.int .i64 0)
  have hbb:=s4 _ w zL (HB1.out.trans (kb.mono HB1.out.size))
  generalize ((V9.setCell ⟨w.heap.size,0,.none⟩ (.slice .none 0 0)).setCell ⟨w.heap.size,1,.none⟩ (.int .i64 0))=W9 at *
  refine bodyPost_ret (v:=.agg #[.slice .none 0 0,.int .i64 0]) (by simp[results,Tryz.results119,go_sem,s0,s1,s2]) rfl ?_
  refine⟨0,0,_,.inl ⟨rfl,rfl,fun j hj=>?_⟩,rfl,.inr ⟨rfl,rfl⟩,hbb⟩
  by_cases e:j=11
  ·subst e;exact .inl rfl
  ·exact HK10.out j (by omega)
end
section
open Go.RowKit
theorem inside_any {w:World} {X:Nat} {sv:Value} {E:List (Sg×Value)} {B:Nat->Int} (h:Segs w X sv E B) (hl:E.length<=8) (en:Int) (he:0<=en∧en<18446744073709551616) :
  Calls Tryz.prog 124 #[.int .u64 en,sv] w fun e w'=>e = .returned (.bool (hasE (E.map (·.1)) en))∧Below w.heap.size w w':=by
 obtain⟨q,c,rfl,hc1,hc2,hq⟩:=own_form h.own
 have HS:Hid (Segs w X (.slice q E.length c) E B):=h
 clear h
 go_enter Tryz.func124,Tryz.ntmps124
 go_wp2_with fail
 go_loopw [5] (fun a wr=>∃ i:Nat,i<=E.length∧a = .int .i64 i∧Hid ((∀ j x,j<i->E[j]? = some x->inE en x.1=false)∧Below w.heap.size w wr)) (fun a _=>(E.length-intOf a).toNat)
 case atStart=>exact⟨0,by omega,rfl,fun j x hj=>by omega,Below.refl _ _⟩
 case round=>
  obtain⟨i,hi,rfl,HR⟩:=hrel
  by_cases hlt:i<E.length
  ·have g0:(i:Int)<E.length:=by omega
   obtain⟨x,hx⟩:∃ x,E[i]? = some x:=⟨E[i],List.getElem?_eq_getElem hlt⟩
   have HS1:=HS.out.below HR.out.2
   obtain⟨f0,f1,f2,f3⟩:=flatE_get E _ x hx
   obtain⟨g,rfl,a0⟩:=own_cell HS1.own f0 (by omega) (by omega)
   obtain⟨g1,e1,a1⟩:=own_cell HS1.own f1 (by omega) (by omega)
   obtain⟨g3,e3,a3⟩:=own_cell HS1.own f3 (by omega) (by omega)
   simp only[Option.some.injEq,Addr.mk.injEq,and_true] at e1 e3
   subst e1 e3
   have hgd:=HS1.gd x (List.mem_of_getElem? hx)
   have kS:wr.drew.cell? ⟨g,i*4,.none⟩=some (.int .u64 x.1.va)∧wr.drew.cell? ⟨g,i*4+1,.none⟩=some (.int .u32 x.1.fl)∧wr.drew.cell? ⟨g,i*4+3,.none⟩=some (.int .u64 x.1.mem):=⟨a0,a1,a3⟩
   have h1:=hgd.v
   have h3:=hgd.m
   have h4:=hgd.e
   have ha:=and1 x.1.fl hgd.f
   have hwv:IntKind.u64.wrap (x.1.va+x.1.mem)=x.1.va+x.1.mem:=by rw[IntKind.wrap_u64];omega
   clear f0 f1 f2 f3 HS1 hgd hq a0 a1 a3
   go_upto_region 4 with fail
   by_cases p1:x.1.fl%2=1
   ·have p1b:(x.1.fl%2 != 0)=true:=by simp;omega
    have P1:Hid (x.1.fl%2=1):=p1
    clear p1
    by_cases p2:x.1.va<=en
    ·by_cases p3:en<x.1.va+x.1.mem
     ·have hY:en%2=0->hasE (E.map (·.1)) en=true:=fun h2=>hasE_yes h2 hx (by simp[inE,P1.out,p2,p3])
      refine wp_region_held_drew (S:=fun U2=>U2.cell? ⟨g,i*4,.none⟩=some (.int .u64 x.1.va)∧U2.cell? ⟨g,i*4+1,.none⟩=some (.int .u32 x.1.fl)∧U2.cell? ⟨g,i*4+3,.none⟩=some (.int .u64 x.1.mem)) (by kernel_rfl) kS (fun hHeld=>?_)
      refine aT 0 (.slice (some ⟨g,0,.none⟩) E.length c) rfl ?_
      simp only[xX]
      refine aT 1 (.int .i64 i) rfl ?_
      simp only[xX]
      refine aT 2 (.pointer (some ⟨g,i*4,.none⟩)) rfl ?_
      simp only[xX]
      refine aT 3 (.pointer (some ⟨g,i*4+1,.none⟩)) rfl ?_
      simp only[xX]
      refine aT 4 (.int .u32 x.1.fl) rfl ?_
      simp only[xX]
      refine aT 5 (.int .u32 (x.1.fl%2)) rfl ?_
      simp only[xX]
      refine aT 6 (.bool true) rfl ?_
      simp only[xX]
      refine aT 7 (.bool true) rfl ?_
      simp only[xX]
      refine aT 8 (.int .u64 en) rfl ?_
      simp only[xX]
      refine aT 9 (.slice (some ⟨g,0,.none⟩) E.length c) rfl ?_
      simp only[xX]
      refine aT 10 (.int .i64 i) rfl ?_
      simp only[xX]
      refine aT 11 (.pointer (some ⟨g,i*4,.none⟩)) rfl ?_
      simp only[xX]
      refine aT 12 (.pointer (some ⟨g,i*4,.none⟩)) rfl ?_
      simp only[xX]
      refine aT 13 (.int .u64 x.1.va) rfl ?_
      simp only[xX]
      refine aT 14 (.bool true) rfl ?_
      simp only[xX]
      refine aT 15 (.bool true) rfl ?_
      simp only[xX]
      refine aT 16 (.bool true) rfl ?_
      simp only[xX]
      refine aT 17 (.int .u64 en) rfl ?_
      simp only[xX]
      refine aT 18 (.slice (some ⟨g,0,.none⟩) E.length c) rfl ?_
      simp only[xX]
      refine aT 19 (.int .i64 i) rfl ?_
      simp only[xX]
      refine aT 20 (.pointer (some ⟨g,i*4,.none⟩)) rfl ?_
      simp only[xX]
      refine aT 21 (.pointer (some ⟨g,i*4,.none⟩)) rfl ?_
      simp only[xX]
      refine aT 22 (.int .u64 x.1.va) rfl ?_
      simp only[xX]
      refine aT 23 (.slice (some ⟨g,0,.none⟩) E.length c) rfl ?_
      simp only[xX]
      refine aT 24 (.int .i64 i) rfl ?_
      simp only[xX]
      refine aT 25 (.pointer (some ⟨g,i*4,.none⟩)) rfl ?_
      simp only[xX]
      refine aT 26 (.pointer (some ⟨g,i*4+3,.none⟩)) rfl ?_
      simp only[xX]
      refine aT 27 (.int .u64 x.1.mem) rfl ?_
      simp only[xX]
      refine aT 28 (.int .u64 (x.1.va+x.1.mem)) rfl ?_
      simp only[xX]
      refine aT 29 (.bool true) rfl ?_
      simp only[xX]
      refine aT 30 (.bool true) rfl ?_
      simp only[xX]
      refine wpAnyH_done (by kernel_rfl) ?_ _
      clear hHeld kS
      by_cases h2:en%2=0
      ·have h2b:(en%2 == 0)=true:=by simpa using h2
       have HY:=hY h2
       clear h2 hY
       go_wp2_with fail
       go_ret
       exact⟨by first|rfl|(rw[HY];rfl),HR.out.2.drew⟩
      ·have h2b:(en%2 == 0)=false:=by simpa using h2
       have HN:hasE (E.map (·.1)) en=false:=by simp[hasE,h2]
       clear hY
       go_wp2_with fail
       go_ret
       exact⟨by first|rfl|(rw[HN];rfl),HR.out.2.drew⟩
     ·
      refine wp_region_held_drew (S:=fun U2=>U2.cell? ⟨g,i*4,.none⟩=some (.int .u64 x.1.va)∧U2.cell? ⟨g,i*4+1,.none⟩=some (.int .u32 x.1.fl)∧U2.cell? ⟨g,i*4+3,.none⟩=some (.int .u64 x.1.mem)) (by kernel_rfl) kS (fun hHeld=>?_)
      refine aT 0 (.slice (some ⟨g,0,.none⟩) E.length c) rfl ?_
      simp only[xX]
      refine aT 1 (.int .i64 i) rfl ?_
      simp only[xX]
      refine aT 2 (.pointer (some ⟨g,i*4,.none⟩)) rfl ?_
      simp only[xX]
      refine aT 3 (.pointer (some ⟨g,i*4+1,.none⟩)) rfl ?_
      simp only[xX]
      refine aT 4 (.int .u32 x.1.fl) rfl ?_
      simp only[xX]
      refine aT 5 (.int .u32 (x.1.fl%2)) rfl ?_
      simp only[xX]
      refine aT 6 (.bool true) rfl ?_
      simp only[xX]
      refine aT 7 (.bool true) rfl ?_
      simp only[xX]
      refine aT 8 (.int .u64 en) rfl ?_
      simp only[xX]
      refine aT 9 (.slice (some ⟨g,0,.none⟩) E.length c) rfl ?_
      simp only[xX]
      refine aT 10 (.int .i64 i) rfl ?_
      simp only[xX]
      refine aT 11 (.pointer (some ⟨g,i*4,.none⟩)) rfl ?_
      simp only[xX]
      refine aT 12 (.pointer (some ⟨g,i*4,.none⟩)) rfl ?_
      simp only[xX]
      refine aT 13 (.int .u64 x.1.va) rfl ?_
      simp only[xX]
      refine aT 14 (.bool true) rfl ?_
      simp only[xX]
      refine aT 15 (.bool true) rfl ?_
      simp only[xX]
      refine aT 16 (.bool true) rfl ?_
      simp only[xX]
      refine aT 17 (.int .u64 en) rfl ?_
      simp only[xX]
      refine aT 18 (.slice (some ⟨g,0,.none⟩) E.length c) rfl ?_
      simp only[xX]
      refine aT 19 (.int .i64 i) rfl ?_
      simp only[xX]
      refine aT 20 (.pointer (some ⟨g,i*4,.none⟩)) rfl ?_
      simp only[xX]
      refine aT 21 (.pointer (some ⟨g,i*4,.none⟩)) rfl ?_
      simp only[xX]
      refine aT 22 (.int .u64 x.1.va) rfl ?_
      simp only[xX]
      refine aT 23 (.slice (some ⟨g,0,.none⟩) E.length c) rfl ?_
      simp only[xX]
      refine aT 24 (.int .i64 i) rfl ?_
      simp only[xX]
      refine aT 25 (.pointer (some ⟨g,i*4,.none⟩)) rfl ?_
      simp only[xX]
      refine aT 26 (.pointer (some ⟨g,i*4+3,.none⟩)) rfl ?_
      simp only[xX]
      refine aT 27 (.int .u64 x.1.mem) rfl ?_
      simp only[xX]
      refine aT 28 (.int .u64 (x.1.va+x.1.mem)) rfl ?_
      simp only[xX]
      refine aT 29 (.bool false) rfl ?_
      simp only[xX]
      refine aT 30 (.bool false) rfl ?_
      simp only[xX]
      refine wpAnyH_done (by kernel_rfl) ?_ _
      clear hHeld kS
      have P1':=P1.out
      go_wp2_with fail
      exact⟨⟨i+1,by omega,by simp,inE_step hx (by simp[inE];omega) HR.out.1,HR.out.2.drew⟩,by simp[intOf];omega⟩
    ·
     refine wp_region_held_drew (S:=fun U2=>U2.cell? ⟨g,i*4,.none⟩=some (.int .u64 x.1.va)∧U2.cell? ⟨g,i*4+1,.none⟩=some (.int .u32 x.1.fl)∧U2.cell? ⟨g,i*4+3,.none⟩=some (.int .u64 x.1.mem)) (by kernel_rfl) kS (fun hHeld=>?_)
     refine aT 0 (.slice (some ⟨g,0,.none⟩) E.length c) rfl ?_
     simp only[xX]
     refine aT 1 (.int .i64 i) rfl ?_
     simp only[xX]
     refine aT 2 (.pointer (some ⟨g,i*4,.none⟩)) rfl ?_
     simp only[xX]
     refine aT 3 (.pointer (some ⟨g,i*4+1,.none⟩)) rfl ?_
     simp only[xX]
     refine aT 4 (.int .u32 x.1.fl) rfl ?_
     simp only[xX]
     refine aT 5 (.int .u32 (x.1.fl%2)) rfl ?_
     simp only[xX]
     refine aT 6 (.bool true) rfl ?_
     simp only[xX]
     refine aT 7 (.bool true) rfl ?_
     simp only[xX]
     refine aT 8 (.int .u64 en) rfl ?_
     simp only[xX]
     refine aT 9 (.slice (some ⟨g,0,.none⟩) E.length c) rfl ?_
     simp only[xX]
     refine aT 10 (.int .i64 i) rfl ?_
     simp only[xX]
     refine aT 11 (.pointer (some ⟨g,i*4,.none⟩)) rfl ?_
     simp only[xX]
     refine aT 12 (.pointer (some ⟨g,i*4,.none⟩)) rfl ?_
     simp only[xX]
     refine aT 13 (.int .u64 x.1.va) rfl ?_
     simp only[xX]
     refine aT 14 (.bool false) rfl ?_
     simp only[xX]
     refine aT 15 (.bool false) rfl ?_
     simp only[xX]
     refine aT 16 (.bool false) rfl ?_
     simp only[xX]
     refine aU 17 rfl ?_
     simp only[xX]
     refine aU 18 rfl ?_
     simp only[xX]
     refine aU 19 rfl ?_
     simp only[xX]
     refine aU 20 rfl ?_
     simp only[xX]
     refine aU 21 rfl ?_
     simp only[xX]
     refine aU 22 rfl ?_
     simp only[xX]
     refine aU 23 rfl ?_
     simp only[xX]
     refine aU 24 rfl ?_
     simp only[xX]
     refine aU 25 rfl ?_
     simp only[xX]
     refine aU 26 rfl ?_
     simp only[xX]
     refine aU 27 rfl ?_
     simp only[xX]
     refine aU 28 rfl ?_
     simp only[xX]
     refine aU 29 rfl ?_
     simp only[xX]
     refine aT 30 (.bool false) rfl ?_
     simp only[xX]
     refine wpAnyH_done (by kernel_rfl) ?_ _
     clear hHeld kS
     have P1':=P1.out
     go_wp2_with fail
     exact⟨⟨i+1,by omega,by simp,inE_step hx (by simp[inE];omega) HR.out.1,HR.out.2.drew⟩,by simp[intOf];omega⟩
   ·have p1b:(x.1.fl%2 != 0)=false:=by simp;omega
    refine wp_region_held_drew (S:=fun U2=>U2.cell? ⟨g,i*4,.none⟩=some (.int .u64 x.1.va)∧U2.cell? ⟨g,i*4+1,.none⟩=some (.int .u32 x.1.fl)∧U2.cell? ⟨g,i*4+3,.none⟩=some (.int .u64 x.1.mem)) (by kernel_rfl) kS (fun hHeld=>?_)
    refine aT 0 (.slice (some ⟨g,0,.none⟩) E.length c) rfl ?_
    simp only[xX]
    refine aT 1 (.int .i64 i) rfl ?_
    simp only[xX]
    refine aT 2 (.pointer (some ⟨g,i*4,.none⟩)) rfl ?_
    simp only[xX]
    refine aT 3 (.pointer (some ⟨g,i*4+1,.none⟩)) rfl ?_
    simp only[xX]
    refine aT 4 (.int .u32 x.1.fl) rfl ?_
    simp only[xX]
    refine aT 5 (.int .u32 (x.1.fl%2)) rfl ?_
    simp only[xX]
    refine aT 6 (.bool false) rfl ?_
    simp only[xX]
    refine aT 7 (.bool false) rfl ?_
    simp only[xX]
    refine aU 8 rfl ?_
    simp only[xX]
    refine aU 9 rfl ?_
    simp only[xX]
    refine aU 10 rfl ?_
    simp only[xX]
    refine aU 11 rfl ?_
    simp only[xX]
    refine aU 12 rfl ?_
    simp only[xX]
    refine aU 13 rfl ?_
    simp only[xX]
    refine aU 14 rfl ?_
    simp only[xX]
    refine aT 15 (.bool false) rfl ?_
    simp only[xX]
    refine aT 16 (.bool false) rfl ?_
    simp only[xX]
    refine aU 17 rfl ?_
    simp only[xX]
    refine aU 18 rfl ?_
    simp only[xX]
    refine aU 19 rfl ?_
    simp only[xX]
    refine aU 20 rfl ?_
    simp only[xX]
    refine aU 21 rfl ?_
    simp only[xX]
    refine aU 22 rfl ?_
    simp only[xX]
    refine aU 23 rfl ?_
    simp only[xX]
    refine aU 24 rfl ?_
    simp only[xX]
    refine aU 25 rfl ?_
    simp only[xX]
    refine aU 26 rfl ?_
    simp only[xX]
    refine aU 27 rfl ?_
    simp only[xX]
    refine aU 28 rfl ?_
    simp only[xX]
    refine aU 29 rfl ?_
    simp only[xX]
    refine aT 30 (.bool false) rfl ?_
    simp only[xX]
    refine wpAnyH_done (by kernel_rfl) ?_ _
    clear hHeld kS
    go_wp2_with fail
    exact⟨⟨i+1,by omega,by simp,inE_step hx (by simp[inE];omega) HR.out.1,HR.out.2.drew⟩,by simp[intOf];omega⟩
  ·have hn:¬ ((i:Int)<E.length):=by omega
   have hE:=hasE_no (E:=E) (en:=en) (fun j x hj hx=>HR.out.1 j x (by omega) hx)
   go_wp2_with fail
   go_ret
   exact⟨by first|rfl|(rw[hE];rfl),HR.out.2⟩
theorem Segs.push {w:World} {Y:Nat} {B:Nat->Int} {E:List (Sg×Value)} {q:Option Addr} {cs:Nat} (h:Segs w Y (.slice q E.length cs) E B) (hY:Y<=w.heap.size) {g:Sg} {dv:Value} (hd:w.ownsRow Y 5 1 dv g.sz (by8 (byt B g))) (hg:Gd g) {ob:Obj} {w5:World} {gr cap:Nat}
  (hown:w5.ownsRow Y 38 4 (.slice (some ⟨gr,0,.none⟩) (E.length+1) cap) (E.length+1) (flatE E ++ [.int .u64 g.va,.int .u32 g.fl,dv,.int .u64 g.mem])) (hgr:(w.alloc ob).grownBy w5 (Value.ownBlock (.slice q E.length cs))) :
  Segs w5 Y (.slice (some ⟨gr,0,.none⟩) (E.length+1) cap) (E ++ [(g,dv)]) B∧Below Y w w5:=by
 have keepD:∀ {v:Value} {k:Nat} {ys:List Value},w.ownsRow Y 5 1 v k ys->w5.ownsRow Y 5 1 v k ys:=fun {v k ys} hv=>by
  refine(World.ownsRow.alloc hv ob).kept hgr ?_
  obtain⟨q',c',rfl,_⟩:=own_form hv
  cases e:Value.ownBlock (.slice q' k c') with
  |none=>exact .inl rfl
  |some y=>
   refine .inr fun e'=>?_
   obtain⟨c1,e1⟩:=own_blk hv e
   obtain⟨c2,e2⟩:=own_blk h.own e'.symm
   rw[e1] at e2
   cases e2
 refine⟨⟨?_,?_,?_⟩,?_⟩
 ·rw[flatE_app,List.length_append,List.length_singleton]
  exact hown
 ·intro x hx
  rcases List.mem_append.1 hx with hx|hx
  ·exact keepD (h.dat x hx)
  ·rw[List.mem_singleton] at hx
   subst hx
   exact keepD hd
 ·intro x hx
  rcases List.mem_append.1 hx with hx|hx
  ·exact h.gd x hx
  ·rw[List.mem_singleton] at hx
   subst hx
   exact hg
 ·exact((Below.refl Y w).alloc hY ob).grown hgr (by simp only[World.size_alloc];omega) (fun r e=>by have:=(h.own.lt _ e).1;omega)
end
end Go.Proofs.YtabnipbdbnmmpaaGreatDoor
