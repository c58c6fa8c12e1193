import Derived.Test.YtabnipbdbnmmpaaGreatDoorLd01
import Derived.Test.YtabnipbdbnmmpaaGreatDoorLd20
set_option linter.unusedVariables false
set_option linter.unusedSimpArgs false
set_option maxHeartbeats 8000000
namespace Go.Proofs.YtabnipbdbnmmpaaGreatDoor
section
open Go.RowKit
def LodP (w:World) (Y n:Nat) (B:Nat->Int) (E:List (Sg×Value)) (a:Nat) (e:Ending) (w':World):Prop:=∃ sv' E',e = .returned (.tuple #[sv',.int .i64 (stp n B (E.map (·.1)) a).1])∧E'.map (·.1)=(stp n B (E.map (·.1)) a).2∧Segs w' Y sv' E' B∧E'.length<=8∧Below Y w w'
theorem next_lt (va e:Int) (h:va%4096=0) (he:0<=e):va<(e+4095)/4096*4096↔va<e:=by omega
set_option maxRecDepth 100000 in
theorem load_any {w:World} {b o n c:Nat} {B:Nat->Int} {Y:Nat} {sv:Value} {E:List (Sg×Value)} (hrow:Row w b o n B) (hB:∀ i,0<=B i∧B i<256) (hc:n<=c∧c<=9223372036854775807) (hn:n<=262144) (hS:Segs w Y sv E B) (hY:Y<=w.heap.size) (hl:E.length<=8) (a:Nat) (ha:a+56<=n) (ht:num B a 4=1) :
  Calls Tryz.prog 123 #[.slice (some ⟨b,o,.none⟩) n c,.int .i64 a,sv] w fun e w'=>LodP w Y n B E a e w':=by
 obtain⟨q,cs,rfl,hcs1,hcs2,hq⟩:=own_form hS.own
 have HRw:Hid (Row w b o n B):=hrow
 have HSw:Hid (Segs w Y (.slice q E.length cs) E B):=hS
 have hst:stp n B (E.map (·.1)) a=if E.length=8 then (143,E.map (·.1)) else if ok1 (sgOf B a).va (sgOf B a).fl (sgOf B a).sz (sgOf B a).mem=false then (144,E.map (·.1)) else if 0<(sgOf B a).sz∧n<(sgOf B a).wh+(sgOf B a).sz then (140,E.map (·.1)) else if ris (E.map (·.1)) (sgOf B a).va=false then (145,E.map (·.1)) else (0,E.map (·.1) ++ [sgOf B a]):=by
  unfold stp
  rw[if_neg (by simpa using ht),List.length_map]
 have HST:Hid (stp n B (E.map (·.1)) a=_):=hst
 clear hst hrow hS ht
 have hsb:=sgOf_b B hB a
 have hwr:IntKind.u32.wrap (num B (a+4) 4)=num B (a+4) 4:=by rw[IntKind.wrap_u32];omega
 have ez:((sgOf B a).sz:Int)=num B (a+32) 8:=Int.toNat_of_nonneg hsb.2.2.2.2.1
 have ew:((sgOf B a).wh:Int)=num B (a+8) 8:=Int.toNat_of_nonneg hsb.2.2.2.1.1
 have HEz:Hid (((sgOf B a).sz:Int)=num B (a+32) 8∧((sgOf B a).wh:Int)=num B (a+8) 8):=⟨ez,ew⟩
 clear ez ew
 go_enter Tryz.func123,Tryz.ntmps123
 by_cases h8:E.length=8
 ·have h8b:((E.length:Int) == 8)=true:=by rw[beq_iff_eq];omega
  have H8:Hid (E.length=8):=h8
  clear h8
  go_wp2_with fail
  refine bodyPost_ret (v:=.tuple #[(.slice q E.length cs),.int .i64 143]) (by simp[results,Tryz.results123,go_sem]) rfl ?_
  have e1:=HST.out
  rw[if_pos H8.out] at e1
  unfold LodP
  rw[e1]
  exact⟨_,E,rfl,rfl,HSw.out,by have:=H8.out;omega,Below.refl _ _⟩
 have h8b:((E.length:Int) == 8)=false:=by rw[beq_eq_false_iff_ne];omega
 go_wp2_with fail
 refine(value_any b o n c (a+4) 4 B w (by omega) hc.1 hc.2 (by omega) hB (HRw.out.keep zB)).mono ?_
 rintro e w9 ⟨rfl,hw9⟩
 cases hw9
 go_wp2_with fail
 refine(value_any b o n c (a+16) 8 B w (by omega) hc.1 hc.2 (by omega) hB (HRw.out.keep zB)).mono ?_
 rintro e w9 ⟨rfl,hw9⟩
 cases hw9
 go_wp2_with fail
 refine(value_any b o n c (a+40) 8 B w (by omega) hc.1 hc.2 (by omega) hB (HRw.out.keep zB)).mono ?_
 rintro e w9 ⟨rfl,hw9⟩
 cases hw9
 go_wp2_with fail
 have HX0:Hid (C4 (w.alloc (.cells #[.int .u64 (num B (a+16) 8),.int .u32 (num B (a+4) 4),.slice .none 0 0,.int .u64 (num B (a+40) 8)] 38)) w.heap.size (.int .u64 (num B (a+16) 8)) (.int .u32 (num B (a+4) 4)) (.slice .none 0 0) (.int .u64 (num B (a+40) 8))∧Below w.heap.size w (w.alloc (.cells #[.int .u64 (num B (a+16) 8),.int .u32 (num B (a+4) 4),.slice .none 0 0,.int .u64 (num B (a+40) 8)] 38))):=⟨C4.new _ _ _ _ _ _,zB.alloc zL _⟩
 generalize w.alloc (.cells #[.int .u64 (num B (a+16) 8),.int .u32 (num B (a+4) 4),.slice .none 0 0,.int .u64 (num B (a+40) 8)] 38)=W1 at *
 refine(value_any b o n c (a+8) 8 B W1 (by omega) hc.1 hc.2 (by omega) hB (HRw.out.keep (HX0.out.2))).mono ?_
 rintro e w9 ⟨rfl,hw9⟩
 cases hw9
 go_wp2_with fail
 refine(value_any b o n c (a+32) 8 B W1 (by omega) hc.1 hc.2 (by omega) hB (HRw.out.keep (HX0.out.2))).mono ?_
 rintro e w9 ⟨rfl,hw9⟩
 cases hw9
 have y0:=HX0.out.1.a
 have y1:=HX0.out.1.b
 have y2:=HX0.out.1.c
 have y3:=HX0.out.1.d
 go_wp2_with fail
 refine(one_any (num B (a+16) 8) (num B (a+4) 4) (num B (a+32) 8) (num B (a+40) 8) W1 hsb.1 hsb.2.1 hsb.2.2.2.2 hsb.2.2.1).mono ?_
 rintro e w9 ⟨rfl,hw9⟩
 cases hw9
 cases hok:ok1 (num B (a+16) 8) (num B (a+4) 4) (num B (a+32) 8) (num B (a+40) 8) with
 |false=>
  go_wp2_with fail
  refine bodyPost_ret (v:=.tuple #[(.slice q E.length cs),.int .i64 144]) (by simp[results,Tryz.results123,go_sem]) rfl ?_
  have e1:=HST.out
  rw[if_neg h8,if_pos (by rw[HEz.out.1];exact hok)] at e1
  unfold LodP
  rw[e1]
  exact⟨_,E,rfl,rfl,HSw.out.below HX0.out.2,hl,HX0.out.2.mono hY⟩
 |true=>
  have hoks:ok1 (sgOf B a).va (sgOf B a).fl (sgOf B a).sz (sgOf B a).mem=true:=by rw[HEz.out.1];exact hok
  have HOKS:Hid (ok1 (sgOf B a).va (sgOf B a).fl (sgOf B a).sz (sgOf B a).mem=true):=hoks
  clear hoks
  have hz2:=HEz.out
  by_cases hlie:0<(sgOf B a).sz∧n<(sgOf B a).wh+(sgOf B a).sz
  ·have g1:num B (a+32) 8 > 0:=by omega
   have c17:=liesQ_any n (num B (a+8) 8) (num B (a+32) 8) W1 (by omega) hsb.2.2.2.1 hsb.2.2.2.2
   rw[show decide (num B (a+8) 8+num B (a+32) 8<=n)=false by simp;omega] at c17
   clear hz2
   go_wp2_with fail
   refine c17.mono ?_
   rintro e w9 ⟨rfl,hw9⟩
   cases hw9
   go_wp2_with fail
   refine bodyPost_ret (v:=.tuple #[(.slice q E.length cs),.int .i64 140]) (by simp[results,Tryz.results123,go_sem]) rfl ?_
   have e1:=HST.out
   rw[if_neg h8,if_neg (by rw[HOKS.out];decide),if_pos hlie] at e1
   unfold LodP
   rw[e1]
   exact⟨_,E,rfl,rfl,HSw.out.below HX0.out.2,hl,HX0.out.2.mono hY⟩
  have HLie:Hid (¬ (0<(sgOf B a).sz∧n<(sgOf B a).wh+(sgOf B a).sz)):=hlie
  clear hlie
  go_upto_region 8 with fail
  go_cut [57] (fun p wx=>p = .bool false∧wx=W1)
  case first=>
   by_cases hzp:num B (a+32) 8 > 0
   ·have c17:=liesQ_any n (num B (a+8) 8) (num B (a+32) 8) W1 (by omega) hsb.2.2.2.1 hsb.2.2.2.2
    rw[show decide (num B (a+8) 8+num B (a+32) 8<=n)=true by have:=HLie.out;simp;omega] at c17
    clear hz2
    go_wp2_with fail
    refine c17.mono ?_
    rintro e w9 ⟨rfl,hw9⟩
    cases hw9
    go_wp2_with fail
    go_meet
    case rel=>exact⟨rfl,rfl⟩
   ·clear hz2
    go_wp2_with fail
    go_meet
    case rel=>exact⟨rfl,rfl⟩
  case rest=>
   obtain⟨rfl,rfl⟩:=hcut
   clear hz2
   have HX:Hid (C4 wc w.heap.size (.int .u64 (num B (a+16) 8)) (.int .u32 (num B (a+4) 4)) (.slice .none 0 0) (.int .u64 (num B (a+40) 8))∧Below w.heap.size w wc):=HX0.out
   have HSc:Hid (Segs wc Y (.slice q E.length cs) E B):=HSw.out.below HX.out.2
   clear y0 y1 y2 y3 HX0
   have ev:(sgOf B a).va=num B (a+16) 8:=rfl
   have hva:num B (a+16) 8%4096=0:=by
    have h5:=HOKS.out
    unfold ok1 at h5
    simp only[Bool.and_eq_true,decide_eq_true_eq] at h5
    exact h5.1.1.1.1
   have HVa:Hid (num B (a+16) 8%4096=0):=hva
   clear hva hok
   go_upto_region 10 with fail
   obtain⟨Wp,hWp⟩:∃ u,u=wc:=⟨_,rfl⟩
   subst hWp
   go_cut [82] (fun p wx=>p = .bool (!ris (E.map (·.1)) (num B (a+16) 8))∧Hid (Below Wp.heap.size Wp wx))
   case first=>
    by_cases h0:E = []
    ·subst h0
     have kS:Wp.drew.cell? ⟨w.heap.size,0,.none⟩=some (.int .u64 (num B (a+16) 8)):=HX.out.1.a
     simp only[List.length_nil] at *
     refine wp_region_held_drew (S:=fun U2=>U2.cell? ⟨w.heap.size,0,.none⟩=some (.int .u64 (num B (a+16) 8))) (by kernel_rfl) kS (fun hHeld=>?_)
     refine aT 0 (.slice q 0 cs) rfl ?_
     simp only[xX]
     refine aT 1 (.int .i64 0) rfl ?_
     simp only[xX]
     refine aT 2 (.bool false) rfl ?_
     simp only[xX]
     refine aT 3 (.bool false) rfl ?_
     simp only[xX]
     refine aU 4 rfl ?_
     simp only[xX]
     refine aU 5 rfl ?_
     simp only[xX]
     refine aU 6 rfl ?_
     simp only[xX]
     refine aU 7 rfl ?_
     simp only[xX]
     refine aU 8 rfl ?_
     simp only[xX]
     refine aU 9 rfl ?_
     simp only[xX]
     refine aU 10 rfl ?_
     simp only[xX]
     refine aU 11 rfl ?_
     simp only[xX]
     refine aU 12 rfl ?_
     simp only[xX]
     refine aU 13 rfl ?_
     simp only[xX]
     refine aU 14 rfl ?_
     simp only[xX]
     refine aU 15 rfl ?_
     simp only[xX]
     refine aU 16 rfl ?_
     simp only[xX]
     refine aU 17 rfl ?_
     simp only[xX]
     refine aU 18 rfl ?_
     simp only[xX]
     refine aU 19 rfl ?_
     simp only[xX]
     refine aU 20 rfl ?_
     simp only[xX]
     refine aU 21 rfl ?_
     simp only[xX]
     refine aU 22 rfl ?_
     simp only[xX]
     refine aT 23 (.bool false) rfl ?_
     simp only[xX]
     refine wpAnyH_done (by kernel_rfl) ?_ _
     clear hHeld kS
     go_wp2_with fail
     go_meet
     case rel=>exact⟨rfl,zB.drew⟩
    ·obtain⟨l,hlast⟩:∃ l,E.getLast? = some l:=⟨E.getLast h0,List.getLast?_eq_some_getLast h0⟩
     have hn0:0<E.length:=List.length_pos_iff.2 h0
     obtain⟨m,hm⟩:∃ m,E.length=m+1:=⟨E.length-1,by omega⟩
     have hg:E[m]? = some l:=by
      have:E.length-1=m:=by omega
      rw[<-this,<-List.getLast?_eq_getElem?]
      exact hlast
     obtain⟨f0,f1,f2,f3⟩:=flatE_get E _ l hg
     obtain⟨g,rfl,a0⟩:=own_cell HSc.out.own f0 hn0 (by omega)
     obtain⟨g3,e3,a3⟩:=own_cell HSc.out.own f3 hn0 (by omega)
     simp only[Option.some.injEq,Addr.mk.injEq,and_true] at e3
     subst e3
     have hgd:=HSc.out.gd l (List.mem_of_getElem? hg)
     have er:ris (E.map (·.1)) (num B (a+16) 8)=decide (l.1.va+l.1.mem<=num B (a+16) 8):=by
      unfold ris
      rw[List.getLast?_map,hlast]
      rfl
     have h1:=hgd.v
     have h2:=hgd.m
     have h3:=hgd.e
     have hm8:m<8:=by omega
     have gi:(m:Int)<m+1:=by omega
     have hwm:IntKind.i64.wrap (m:Int)=m:=by rw[IntKind.wrap_i64];omega
     have hwv:IntKind.u64.wrap (l.1.va+l.1.mem)=l.1.va+l.1.mem:=by rw[IntKind.wrap_u64];omega
     have hnx:=next_lt (num B (a+16) 8) (l.1.va+l.1.mem) HVa.out (by omega)
     have kS:Wp.drew.cell? ⟨w.heap.size,0,.none⟩=some (.int .u64 (num B (a+16) 8))∧Wp.drew.cell? ⟨g,m*4,.none⟩=some (.int .u64 l.1.va)∧Wp.drew.cell? ⟨g,m*4+3,.none⟩=some (.int .u64 l.1.mem):=⟨HX.out.1.a,a0,a3⟩
     have HEr:Hid (ris (E.map (·.1)) (num B (a+16) 8)=decide (l.1.va+l.1.mem<=num B (a+16) 8)):=er
     have HEl:Hid (E.length=m+1):=hm
     rw[hm] at *
     clear f0 f1 f2 f3 hlast hgd hg er hn0 h0 hq a0 a3
     by_cases hr:num B (a+16) 8<l.1.va+l.1.mem
     ·have hr':num B (a+16) 8<(l.1.va+l.1.mem+4095)/4096*4096:=hnx.2 hr
      refine wp_region_held_drew (S:=fun U2=>U2.cell? ⟨w.heap.size,0,.none⟩=some (.int .u64 (num B (a+16) 8))∧U2.cell? ⟨g,m*4,.none⟩=some (.int .u64 l.1.va)∧U2.cell? ⟨g,m*4+3,.none⟩=some (.int .u64 l.1.mem)) (by kernel_rfl) kS (fun hHeld=>?_)
      refine aT 0 (.slice (some ⟨g,0,.none⟩) (m+1) cs) rfl ?_
      simp only[xX]
      refine aT 1 (.int .i64 ((m:Int)+1)) rfl ?_
      simp only[xX]
      refine aT 2 (.bool true) rfl ?_
      simp only[xX]
      refine aT 3 (.bool true) rfl ?_
      simp only[xX]
      refine aT 4 (.pointer (some ⟨w.heap.size,0,.none⟩)) rfl ?_
      simp only[xX]
      refine aT 5 (.int .u64 (num B (a+16) 8)) rfl ?_
      simp only[xX]
      refine aT 6 (.slice (some ⟨g,0,.none⟩) (m+1) cs) rfl ?_
      simp only[xX]
      refine aT 7 (.slice (some ⟨g,0,.none⟩) (m+1) cs) rfl ?_
      simp only[xX]
      refine aT 8 (.int .i64 ((m:Int)+1)) rfl ?_
      simp only[xX]
      refine aT 9 (.int .i64 m) rfl ?_
      simp only[xX]
      refine aT 10 (.pointer (some ⟨g,m*4,.none⟩)) rfl ?_
      simp only[xX]
      refine aT 11 (.pointer (some ⟨g,m*4,.none⟩)) rfl ?_
      simp only[xX]
      refine aT 12 (.int .u64 l.1.va) rfl ?_
      simp only[xX]
      refine aT 13 (.slice (some ⟨g,0,.none⟩) (m+1) cs) rfl ?_
      simp only[xX]
      refine aT 14 (.slice (some ⟨g,0,.none⟩) (m+1) cs) rfl ?_
      simp only[xX]
      refine aT 15 (.int .i64 ((m:Int)+1)) rfl ?_
      simp only[xX]
      refine aT 16 (.int .i64 m) rfl ?_
      simp only[xX]
      refine aT 17 (.pointer (some ⟨g,m*4,.none⟩)) rfl ?_
      simp only[xX]
      refine aT 18 (.pointer (some ⟨g,m*4+3,.none⟩)) rfl ?_
      simp only[xX]
      refine aT 19 (.int .u64 l.1.mem) rfl ?_
      simp only[xX]
      refine aT 20 (.int .u64 (l.1.va+l.1.mem)) rfl ?_
      simp only[xX]
      refine zR 21 rfl (fun K hK=>?_)
      go_simp
      go_at_call 165
      refine(next_any (l.1.va+l.1.mem) _ (by omega)).mono ?_
      rintro e w9 ⟨rfl,hw9⟩
      cases hw9
      refine hK.out _ _ kS (fun hHeld=>?_)
      clear hK K
      try simp only[xX]
      refine aT 22 (.bool true) rfl ?_
      simp only[xX]
      refine aT 23 (.bool true) rfl ?_
      simp only[xX]
      refine wpAnyH_done (by kernel_rfl) ?_ _
      clear hHeld kS
      go_wp2_with fail
      go_meet
      case rel=>exact⟨by rw[HEr.out,show decide (l.1.va+l.1.mem<=num B (a+16) 8)=false by simp;omega];rfl,zB.drew⟩
     ·have hr':¬ (num B (a+16) 8<(l.1.va+l.1.mem+4095)/4096*4096):=fun h=>hr (hnx.1 h)
      refine wp_region_held_drew (S:=fun U2=>U2.cell? ⟨w.heap.size,0,.none⟩=some (.int .u64 (num B (a+16) 8))∧U2.cell? ⟨g,m*4,.none⟩=some (.int .u64 l.1.va)∧U2.cell? ⟨g,m*4+3,.none⟩=some (.int .u64 l.1.mem)) (by kernel_rfl) kS (fun hHeld=>?_)
      refine aT 0 (.slice (some ⟨g,0,.none⟩) (m+1) cs) rfl ?_
      simp only[xX]
      refine aT 1 (.int .i64 ((m:Int)+1)) rfl ?_
      simp only[xX]
      refine aT 2 (.bool true) rfl ?_
      simp only[xX]
      refine aT 3 (.bool true) rfl ?_
      simp only[xX]
      refine aT 4 (.pointer (some ⟨w.heap.size,0,.none⟩)) rfl ?_
      simp only[xX]
      refine aT 5 (.int .u64 (num B (a+16) 8)) rfl ?_
      simp only[xX]
      refine aT 6 (.slice (some ⟨g,0,.none⟩) (m+1) cs) rfl ?_
      simp only[xX]
      refine aT 7 (.slice (some ⟨g,0,.none⟩) (m+1) cs) rfl ?_
      simp only[xX]
      refine aT 8 (.int .i64 ((m:Int)+1)) rfl ?_
      simp only[xX]
      refine aT 9 (.int .i64 m) rfl ?_
      simp only[xX]
      refine aT 10 (.pointer (some ⟨g,m*4,.none⟩)) rfl ?_
      simp only[xX]
      refine aT 11 (.pointer (some ⟨g,m*4,.none⟩)) rfl ?_
      simp only[xX]
      refine aT 12 (.int .u64 l.1.va) rfl ?_
      simp only[xX]
      refine aT 13 (.slice (some ⟨g,0,.none⟩) (m+1) cs) rfl ?_
      simp only[xX]
      refine aT 14 (.slice (some ⟨g,0,.none⟩) (m+1) cs) rfl ?_
      simp only[xX]
      refine aT 15 (.int .i64 ((m:Int)+1)) rfl ?_
      simp only[xX]
      refine aT 16 (.int .i64 m) rfl ?_
      simp only[xX]
      refine aT 17 (.pointer (some ⟨g,m*4,.none⟩)) rfl ?_
      simp only[xX]
      refine aT 18 (.pointer (some ⟨g,m*4+3,.none⟩)) rfl ?_
      simp only[xX]
      refine aT 19 (.int .u64 l.1.mem) rfl ?_
      simp only[xX]
      refine aT 20 (.int .u64 (l.1.va+l.1.mem)) rfl ?_
      simp only[xX]
      refine zR 21 rfl (fun K hK=>?_)
      go_simp
      go_at_call 165
      refine(next_any (l.1.va+l.1.mem) _ (by omega)).mono ?_
      rintro e w9 ⟨rfl,hw9⟩
      cases hw9
      refine hK.out _ _ kS (fun hHeld=>?_)
      clear hK K
      try simp only[xX]
      refine aT 22 (.bool false) rfl ?_
      simp only[xX]
      refine aT 23 (.bool false) rfl ?_
      simp only[xX]
      refine wpAnyH_done (by kernel_rfl) ?_ _
      clear hHeld kS
      go_wp2_with fail
      go_meet
      case rel=>exact⟨by rw[HEr.out,show decide (l.1.va+l.1.mem<=num B (a+16) 8)=true by simp;omega];rfl,zB.drew⟩
   case rest=>
    obtain⟨rfl,HB10⟩:=hcut
    have HXc:Hid (C4 wc w.heap.size (.int .u64 (num B (a+16) 8)) (.int .u32 (num B (a+4) 4)) (.slice .none 0 0) (.int .u64 (num B (a+40) 8))∧Below w.heap.size w wc):=⟨HX.out.1.below HB10.out,HX.out.2.trans (HB10.out.mono HX.out.2.size)⟩
    clear HX HB10 HSc
    cases hri:ris (E.map (·.1)) (num B (a+16) 8) with
    |false=>
     go_wp2_with fail
     refine bodyPost_ret (v:=.tuple #[(.slice q E.length cs),.int .i64 145]) (by simp[results,Tryz.results123,go_sem]) rfl ?_
     have e1:=HST.out
     rw[if_neg h8,if_neg (by rw[HOKS.out];decide),if_neg HLie.out,if_pos (by rw[ev,hri])] at e1
     unfold LodP
     rw[e1]
     exact⟨_,E,rfl,rfl,HSw.out.below HXc.out.2,hl,HXc.out.2.mono hY⟩
    |true=>
     rw[<-HEz.out.1,<-HEz.out.2]
     have hgd:Gd (sgOf B a):=ok1_gd HOKS.out hsb.1.1 (by have:=HLie.out;omega)
     have hfit:(sgOf B a).sz=0∨(sgOf B a).wh+(sgOf B a).sz<=n:=by have:=HLie.out;omega
     have HRI:Hid (ris (E.map (·.1)) (num B (a+16) 8)=true):=hri
     clear hri
     go_upto_block 0 with fail
     go_cut [11] (fun _ wx=>∃ dq dc,Hid (C4 wx w.heap.size (.int .u64 (num B (a+16) 8)) (.int .u32 (num B (a+4) 4)) (.slice dq (sgOf B a).sz dc) (.int .u64 (num B (a+40) 8))∧wx.ownsRow (w.heap.size+1) 5 1 (.slice dq (sgOf B a).sz dc) (sgOf B a).sz (by8 (byt B (sgOf B a)))∧Below w.heap.size w wx∧w.heap.size+1<=wx.heap.size))
     case first=>
      go_wp2_with fail
      go_loopw [11] (fun i wr=>∃ (k:Nat) (dq:Option Addr) (dc:Nat),k<=(sgOf B a).sz∧i = .int .u64 k∧Hid (C4 wr w.heap.size (.int .u64 (num B (a+16) 8)) (.int .u32 (num B (a+4) 4)) (.slice dq k dc) (.int .u64 (num B (a+40) 8))∧wr.ownsRow (w.heap.size+1) 5 1 (.slice dq k dc) k (by8 ((byt B (sgOf B a)).take k))∧Below w.heap.size w wr∧w.heap.size+1<=wr.heap.size)) (fun i _=>((sgOf B a).sz-intOf i).toNat)
      case atStart=>exact⟨0,none,0,Nat.zero_le _,rfl,HXc.out.1,World.ownsRow_nil _ _ _ _,HXc.out.2,Nat.succ_le_of_lt (zC (x:=⟨w.heap.size,0,.none⟩) HXc.out.1.a)⟩
      case round=>
       obtain⟨k,dq,dc,hk,rfl,HR⟩:=hrel
       by_cases hlt:k<(sgOf B a).sz
       ·have g0:(k:Int)<(sgOf B a).sz:=by omega
        have hw4:IntKind.u64.wrap (((sgOf B a).wh:Int)+k)=((sgOf B a).wh:Int)+k:=by rw[IntKind.wrap_u64];omega
        have h04:0<=((sgOf B a).wh:Int)+k:=by omega
        have hl4:((sgOf B a).wh:Int)+k<n:=by omega
        have ht4:(((sgOf B a).wh:Int)+k).toNat=(sgOf B a).wh+k:=by omega
        have k0:wr.drew.cell? ⟨b,o+((sgOf B a).wh+k),.none⟩=some (.int .u8 (B ((sgOf B a).wh+k))):=(HRw.out.keep HR.out.2.2.1) ((sgOf B a).wh+k) (by omega)
        have HR0:Hid (C4 wr.drew w.heap.size (.int .u64 (num B (a+16) 8)) (.int .u32 (num B (a+4) 4)) (.slice dq k dc) (.int .u64 (num B (a+40) 8))∧wr.drew.ownsRow (w.heap.size+1) 5 1 (.slice dq k dc) k (by8 ((byt B (sgOf B a)).take k))∧Below w.heap.size w wr.drew∧w.heap.size+1<=wr.drew.heap.size):=⟨HR.out.1.below (zB.drew),owns_below HR.out.2.1 (zB.drew),HR.out.2.2.1.drew,HR.out.2.2.2⟩
        have c1a:=HR0.out.1.c
        have kA:(wr.drew.alloc (.cells #[.int .u8 (B ((sgOf B a).wh+k))] 5)).cell? ⟨b,o+((sgOf B a).wh+k),.none⟩=some (.int .u8 (B ((sgOf B a).wh+k))):=(((Below.refl wr.drew.heap.size wr.drew).alloc zL _).cell (zC k0)).trans k0
        have c1c:(wr.alloc (.cells #[.int .u8 (B ((sgOf B a).wh+k))] 5)).cell? ⟨w.heap.size,2,.none⟩=some (.slice dq k dc):=(HR0.out.1.below (zB.alloc zL (.cells #[.int .u8 (B ((sgOf B a).wh+k))] 5))).c
        have hsz9:w.heap.size+1<=(wr.drew.alloc (.cells #[.int .u8 (B ((sgOf B a).wh+k))] 5)).heap.size:=Nat.le_trans HR0.out.2.2.2 ((Below.refl wr.drew.heap.size wr.drew).alloc zL _).size
        have hbb:=hB ((sgOf B a).wh+k)
        obtain⟨i3,z3,hi3,hz3,hs3,hb3,hzs3⟩:=byte_info
        clear HR
        go_upto_region 15 with fail
        refine wp_region_held_drew (S:=fun U2=>U2.cell? ⟨b,o+((sgOf B a).wh+k),.none⟩=some (.int .u8 (B ((sgOf B a).wh+k)))) (by kernel_rfl) k0 (fun hHeld=>?_)
        refine aT 0 (.pointer (some ⟨w.heap.size,2,.none⟩)) rfl ?_
        simp only[xX]
        refine aT 2 (.slice (some ⟨b,o,.none⟩) n c) rfl ?_
        simp only[xX]
        refine aT 3 (.int .u64 (sgOf B a).wh) rfl ?_
        simp only[xX]
        refine aT 4 (.int .u64 k) rfl ?_
        simp only[xX]
        refine aT 5 (.int .u64 (((sgOf B a).wh:Int)+k)) rfl ?_
        simp only[xX]
        refine aT 6 (.pointer (some ⟨b,o+((sgOf B a).wh+k),.none⟩)) rfl ?_
        simp only[xX]
        refine aT 7 (.int .u8 (B ((sgOf B a).wh+k))) rfl ?_
        simp only[xX]
        refine wpAnyH_ready (rs:=[1,8]) (by kernel_rfl) (by simp) ?_
        refine AllReadyH.cons rfl (fun K hK=>?_) (AllReadyH.cons rfl (fun K hK=>?_) AllReadyH.nil)
        ·
         go_simp
         refine hK.out _ _ k0 (fun hHeld=>?_)
         clear hK K
         try simp only[xX]
         refine zR 8 rfl (fun K hK=>?_)
         go_simp
         refine hK.out _ _ kA (fun hHeld=>?_)
         clear hK K
         try simp only[xX]
         clear c1a c1c
         refine zR 9 rfl (fun K hK=>?_)
         refine step_append_at rfl (.tmp 90) (.tmp 97) 24 rfl (w.heap.size+1) 5 i3 z3 1 1 Tryz.underlying24 hi3 hz3 hs3 hb3 hzs3 (by decide) (.slice dq k dc) k (by8 ((byt B (sgOf B a)).take k)) (by simp[Act.eval,Act.put]) (HR0.out.2.1.alloc _) ⟨wr.heap.size,0,.none⟩ 1 1 (by8 [B ((sgOf B a).wh+k)]) (by simp[Act.eval,Act.put]) rfl (le_cell1_new wr.drew _ _) (by8_one _) (by unfold maxLen;omega) (by omega) hsz9 ?_
         intro v' w5 hown5 hgr5 hat5
         obtain⟨gr,cap1,rfl⟩:=ownsRow_succ hown5
         have hne:some w.heap.size≠Value.ownBlock (.slice dq k dc):=fun e=>by have:=(HR0.out.2.1.lt _ e.symm).1;omega
         have C5:C4 w5 w.heap.size (.int .u64 (num B (a+16) 8)) (.int .u32 (num B (a+4) 4)) (.slice dq k dc) (.int .u64 (num B (a+40) 8)):=(HR0.out.1.below (zB.alloc zL _)).grown hgr5 hne
         have B5:Below w.heap.size w w5:=(HR0.out.2.2.1.alloc HR0.out.2.2.1.size _).grown hgr5 (by have:=HR0.out.2.2.1.size;simp only[World.size_alloc];omega) (fun r e=>by have:=(HR0.out.2.1.lt _ e).1;omega)
         have k7:w5.cell? ⟨b,o+((sgOf B a).wh+k),.none⟩=some (.int .u8 (B ((sgOf B a).wh+k))):=(B5.cell (p:=⟨b,o+((sgOf B a).wh+k),.none⟩) (zC (HRw.out ((sgOf B a).wh+k) (by omega)))).trans (HRw.out ((sgOf B a).wh+k) (by omega))
         have B6:Below w.heap.size w (w5.setCell ⟨w.heap.size,2,.none⟩ (.slice (some ⟨gr,0,.none⟩) (k+1) cap1)):=B5.setCell (p:=⟨w.heap.size,2,.none⟩) zL _
         have k8:(w5.setCell ⟨w.heap.size,2,.none⟩ (.slice (some ⟨gr,0,.none⟩) (k+1) cap1)).cell? ⟨b,o+((sgOf B a).wh+k),.none⟩=some (.int .u8 (B ((sgOf B a).wh+k))):=(B6.cell (p:=⟨b,o+((sgOf B a).wh+k),.none⟩) (zC (HRw.out ((sgOf B a).wh+k) (by omega)))).trans (HRw.out ((sgOf B a).wh+k) (by omega))
         have eby:by8 ((byt B (sgOf B a)).take k) ++ by8 [B ((sgOf B a).wh+k)]=by8 ((byt B (sgOf B a)).take (k+1)):=by
          rw[List.take_add_one,byt_get _ _ _ hlt]
          simp[by8]
         rw[eby] at hown5
         have HN:Hid (C4 (w5.setCell ⟨w.heap.size,2,.none⟩ (.slice (some ⟨gr,0,.none⟩) (k+1) cap1)) w.heap.size (.int .u64 (num B (a+16) 8)) (.int .u32 (num B (a+4) 4)) (.slice (some ⟨gr,0,.none⟩) (k+1) cap1) (.int .u64 (num B (a+40) 8))∧(w5.setCell ⟨w.heap.size,2,.none⟩ (.slice (some ⟨gr,0,.none⟩) (k+1) cap1)).ownsRow (w.heap.size+1) 5 1 (.slice (some ⟨gr,0,.none⟩) (k+1) cap1) (k+1) (by8 ((byt B (sgOf B a)).take (k+1)))∧Below w.heap.size w (w5.setCell ⟨w.heap.size,2,.none⟩ (.slice (some ⟨gr,0,.none⟩) (k+1) cap1))∧w.heap.size+1<=(w5.setCell ⟨w.heap.size,2,.none⟩ (.slice (some ⟨gr,0,.none⟩) (k+1) cap1)).heap.size):=⟨C5.setc _,ownsRow_setCell_below hown5 (a:=⟨w.heap.size,2,.none⟩) (by show w.heap.size<w.heap.size+1;omega) _,B6,Nat.succ_le_of_lt (zC (x:=⟨w.heap.size,0,.none⟩) (C5.setc _).a)⟩
         have m2:=C5.c
         have n2:=C5.f 2
         clear hown5 hgr5 hat5 eby C5 B5 B6
         refine hK.out _ _ k7 (fun hHeld=>?_)
         clear hK K
         try simp only[xX]
         refine aT 10 (.pointer (some ⟨w.heap.size,2,.none⟩)) rfl ?_
         simp only[xX]
         refine zR 11 rfl (fun K hK=>?_)
         go_simp
         refine hK.out _ _ k8 (fun hHeld=>?_)
         clear hK K
         try simp only[xX]
         refine wpAnyH_done (by kernel_rfl) ?_ _
         clear hHeld k7 k8 m2 n2 k0 kA
         generalize (w5.setCell ⟨w.heap.size,2,.none⟩ (.slice (some ⟨gr,0,.none⟩) (k+1) cap1))=w6 at *
         go_wp2_with fail
         refine⟨⟨_,_,_,_,_,_,_,_,_,_,_,_,_,_,_,_,_,?_,rfl⟩,?_⟩
         ·exact⟨k+1,_,_,by omega,by simp,HN⟩
         ·simp[intOf];omega
        ·
         go_simp
         refine hK.out _ _ kA (fun hHeld=>?_)
         clear hK K
         try simp only[xX]
         refine zR 1 rfl (fun K hK=>?_)
         go_simp
         refine hK.out _ _ kA (fun hHeld=>?_)
         clear hK K
         try simp only[xX]
         clear c1a c1c
         refine zR 9 rfl (fun K hK=>?_)
         refine step_append_at rfl (.tmp 90) (.tmp 97) 24 rfl (w.heap.size+1) 5 i3 z3 1 1 Tryz.underlying24 hi3 hz3 hs3 hb3 hzs3 (by decide) (.slice dq k dc) k (by8 ((byt B (sgOf B a)).take k)) (by simp[Act.eval,Act.put]) (HR0.out.2.1.alloc _) ⟨wr.heap.size,0,.none⟩ 1 1 (by8 [B ((sgOf B a).wh+k)]) (by simp[Act.eval,Act.put]) rfl (le_cell1_new wr.drew _ _) (by8_one _) (by unfold maxLen;omega) (by omega) hsz9 ?_
         intro v' w5 hown5 hgr5 hat5
         obtain⟨gr,cap1,rfl⟩:=ownsRow_succ hown5
         have hne:some w.heap.size≠Value.ownBlock (.slice dq k dc):=fun e=>by have:=(HR0.out.2.1.lt _ e.symm).1;omega
         have C5:C4 w5 w.heap.size (.int .u64 (num B (a+16) 8)) (.int .u32 (num B (a+4) 4)) (.slice dq k dc) (.int .u64 (num B (a+40) 8)):=(HR0.out.1.below (zB.alloc zL _)).grown hgr5 hne
         have B5:Below w.heap.size w w5:=(HR0.out.2.2.1.alloc HR0.out.2.2.1.size _).grown hgr5 (by have:=HR0.out.2.2.1.size;simp only[World.size_alloc];omega) (fun r e=>by have:=(HR0.out.2.1.lt _ e).1;omega)
         have k7:w5.cell? ⟨b,o+((sgOf B a).wh+k),.none⟩=some (.int .u8 (B ((sgOf B a).wh+k))):=(B5.cell (p:=⟨b,o+((sgOf B a).wh+k),.none⟩) (zC (HRw.out ((sgOf B a).wh+k) (by omega)))).trans (HRw.out ((sgOf B a).wh+k) (by omega))
         have B6:Below w.heap.size w (w5.setCell ⟨w.heap.size,2,.none⟩ (.slice (some ⟨gr,0,.none⟩) (k+1) cap1)):=B5.setCell (p:=⟨w.heap.size,2,.none⟩) zL _
         have k8:(w5.setCell ⟨w.heap.size,2,.none⟩ (.slice (some ⟨gr,0,.none⟩) (k+1) cap1)).cell? ⟨b,o+((sgOf B a).wh+k),.none⟩=some (.int .u8 (B ((sgOf B a).wh+k))):=(B6.cell (p:=⟨b,o+((sgOf B a).wh+k),.none⟩) (zC (HRw.out ((sgOf B a).wh+k) (by omega)))).trans (HRw.out ((sgOf B a).wh+k) (by omega))
         have eby:by8 ((byt B (sgOf B a)).take k) ++ by8 [B ((sgOf B a).wh+k)]=by8 ((byt B (sgOf B a)).take (k+1)):=by
          rw[List.take_add_one,byt_get _ _ _ hlt]
          simp[by8]
         rw[eby] at hown5
         have HN:Hid (C4 (w5.setCell ⟨w.heap.size,2,.none⟩ (.slice (some ⟨gr,0,.none⟩) (k+1) cap1)) w.heap.size (.int .u64 (num B (a+16) 8)) (.int .u32 (num B (a+4) 4)) (.slice (some ⟨gr,0,.none⟩) (k+1) cap1) (.int .u64 (num B (a+40) 8))∧(w5.setCell ⟨w.heap.size,2,.none⟩ (.slice (some ⟨gr,0,.none⟩) (k+1) cap1)).ownsRow (w.heap.size+1) 5 1 (.slice (some ⟨gr,0,.none⟩) (k+1) cap1) (k+1) (by8 ((byt B (sgOf B a)).take (k+1)))∧Below w.heap.size w (w5.setCell ⟨w.heap.size,2,.none⟩ (.slice (some ⟨gr,0,.none⟩) (k+1) cap1))∧w.heap.size+1<=(w5.setCell ⟨w.heap.size,2,.none⟩ (.slice (some ⟨gr,0,.none⟩) (k+1) cap1)).heap.size):=⟨C5.setc _,ownsRow_setCell_below hown5 (a:=⟨w.heap.size,2,.none⟩) (by show w.heap.size<w.heap.size+1;omega) _,B6,Nat.succ_le_of_lt (zC (x:=⟨w.heap.size,0,.none⟩) (C5.setc _).a)⟩
         have m2:=C5.c
         have n2:=C5.f 2
         clear hown5 hgr5 hat5 eby C5 B5 B6
         refine hK.out _ _ k7 (fun hHeld=>?_)
         clear hK K
         try simp only[xX]
         refine aT 10 (.pointer (some ⟨w.heap.size,2,.none⟩)) rfl ?_
         simp only[xX]
         refine zR 11 rfl (fun K hK=>?_)
         go_simp
         refine hK.out _ _ k8 (fun hHeld=>?_)
         clear hK K
         try simp only[xX]
         refine wpAnyH_done (by kernel_rfl) ?_ _
         clear hHeld k7 k8 m2 n2 k0 kA
         generalize (w5.setCell ⟨w.heap.size,2,.none⟩ (.slice (some ⟨gr,0,.none⟩) (k+1) cap1))=w6 at *
         go_wp2_with fail
         refine⟨⟨_,_,_,_,_,_,_,_,_,_,_,_,_,_,_,_,_,?_,rfl⟩,?_⟩
         ·exact⟨k+1,_,_,by omega,by simp,HN⟩
         ·simp[intOf];omega
       ·have he:k=(sgOf B a).sz:=by omega
        have hn9:¬ ((k:Int)<(sgOf B a).sz):=by omega
        subst he
        go_wp2_with fail
        go_meet
        case rel=>exact⟨dq,dc,HR.out.1,by have h7:=HR.out.2.1;rwa [List.take_of_length_le (by rw[byt_len];exact Nat.le_refl _)] at h7,HR.out.2.2⟩
     case rest=>
      obtain⟨dq,dc,HF⟩:=hcut
      have y0:=HF.out.1.a
      have y1:=HF.out.1.b
      have y2:=HF.out.1.c
      have y3:=HF.out.1.d
      have HSf:Hid (Segs wc Y (.slice q E.length cs) E B):=HSw.out.below HF.out.2.2.1
      obtain⟨j1,hk0,hkz,hk1,hk2⟩:=info59
      have hYc:Y<=wc.heap.size:=Nat.le_trans hY HF.out.2.2.1.size
      go_wp2_with (first|(at_builtin;refine wpList_append_own _ rfl _ _ 39 rfl Y 38 j1 (.agg #[.int .u64 0,.int .u32 0,.slice .none 0 0,.int .u64 0]) 4 48 Tryz.underlying39 hk0 hkz hk1 hk2 rfl (by decide) (.slice q E.length cs) E.length (flatE E) rfl (HSf.out.own.alloc _) ⟨wc.heap.size,0,.none⟩ 1 1 [(.int .u64 (num B (a+16) 8)),(.int .u32 (num B (a+4) 4)),.slice dq (sgOf B a).sz dc,(.int .u64 (num B (a+40) 8))] rfl rfl (cell4_new wc _ _ _ _ _) (by simp[Value.oneCell']) (by unfold maxLen;omega) (by omega) (by simp only[World.size_alloc];exact Nat.le_succ_of_le hYc) ?_;intro v' w5 hown5 hgr5 _;obtain⟨gr,cap1,rfl⟩:=ownsRow_succ hown5)|fail)
      obtain⟨hs5,hb5⟩:=HSf.out.push (g:=sgOf B a) hYc (own_base HF.out.2.1 (Nat.le_succ_of_le hY)) hgd hown5 hgr5
      refine bodyPost_ret (v:=.tuple #[.slice (some ⟨gr,0,.none⟩) (E.length+1) cap1,.int .i64 0]) (by simp[results,Tryz.results123,go_sem]) rfl ?_
      have e1:=HST.out
      rw[if_neg h8,if_neg (by rw[HOKS.out];decide),if_neg HLie.out,if_neg (by rw[ev,HRI.out];decide)] at e1
      unfold LodP
      rw[e1]
      exact⟨_,E ++ [(sgOf B a,.slice dq (sgOf B a).sz dc)],rfl,by simp,hs5,by simp;omega,(HF.out.2.2.1.mono hY).trans hb5⟩
end
end Go.Proofs.YtabnipbdbnmmpaaGreatDoor
