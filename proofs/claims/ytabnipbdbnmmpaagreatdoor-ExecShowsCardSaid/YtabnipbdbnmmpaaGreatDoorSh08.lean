import Derived.Test.YtabnipbdbnmmpaaGreatDoorSh01
import Derived.Test.YtabnipbdbnmmpaaGreatDoorSh07
import Derived.Test.YtabnipbdbnmmpaaGreatDoorSh02
set_option linter.unusedVariables false
set_option linter.unusedSimpArgs false
namespace Go.Proofs.YtabnipbdbnmmpaaGreatDoor
section
open Go.RowKit
set_option maxHeartbeats 4000000 in
set_option maxRecDepth 100000 in
theorem checkV_any {w:World} {sv:Value} {E:List (Sg × Value)} {B:Nat→Int} (h:Prv w sv E B) (hl:E.length≤1000) (en:Int) (he:0≤en∧en<18446744073709551616) :
  Calls Tryz.prog 36 #[.agg #[.int .u64 en,sv]] w fun e w' => Below w.heap.size w w'∧((Good en (E.map (·.1))∧e = .returned .nilIface)∨(¬ Good en (E.map (·.1)) ∧ ∃ p,e = .returned (.iface 86 (.pointer p)))) := by
 obtain ⟨q,c,rfl,hc1,hc2,hq⟩ := h.sv.fm
 have HP : Hid (Prv w (.slice q E.length c) E B) := h
 have HB : Hid (Below w.heap.size w (w.alloc (.cells #[.int .u64 en,.slice q E.length c] 41))) := (Below.refl _ _).alloc (Nat.le_refl _) _
 have q0 : (w.alloc (.cells #[.int .u64 en,.slice q E.length c] 41)).cell? ⟨w.heap.size,0,.none⟩=some (.int .u64 en) := World.cell?_alloc_at _ _ _ _ rfl
 have q1 : (w.alloc (.cells #[.int .u64 en,.slice q E.length c] 41)).cell? ⟨w.heap.size,1,.none⟩=some (.slice q E.length c) := World.cell?_alloc_at _ _ _ _ rfl
 have hE : (E.map (·.1)).length=E.length := List.length_map ..
 clear h hq
 by_cases h0 : E.length=0
 ·rw [h0] at HB ⊢
  go_enter Tryz.func36,Tryz.ntmps36
  go_wp2_with (go_at_call 38; refine (refusal_any _ _ _).mono ?_; rintro _ _ ⟨rfl,rfl⟩)
  go_ret
  exact ⟨HB.out.alloc HB.out.size _,.inr ⟨fun hg => by have := hg.1; omega,_,rfl⟩⟩
 ·by_cases h8 : 8<E.length
  ·have h8i : (8:Int)<E.length := by omega
   go_enter Tryz.func36,Tryz.ntmps36
   go_wp2_with (go_at_call 38; refine (refusal_any _ _ _).mono ?_; rintro _ _ ⟨rfl,rfl⟩)
   go_ret
   exact ⟨HB.out.alloc HB.out.size _,.inr ⟨fun hg => by have := hg.2.1; omega,_,rfl⟩⟩
  ·have h8i : ¬ (8:Int)<E.length := by omega
   have h0i : ¬ (E.length:Int)=0 := by omega
   have HQ0 : Hid _ := q0
   have HQ1 : Hid _ := q1
   go_enter Tryz.func36,Tryz.ntmps36
   go_upto_region 3 with fail
   clear q0
   generalize (w.alloc (.cells #[.int .u64 en,.slice q E.length c] 41))=W1 at *
   go_wp2_with fail
   go_loopw [20] (fun a wr => ∃ i : Nat,i≤E.length∧a = .int .i64 i∧Hid (Gk (E.map (·.1)) i∧Below W1.heap.size W1 wr)) (fun a _ => (E.length - intOf a).toNat)
   case atStart => exact ⟨0,by omega,rfl,fun j x hj => by omega,Below.refl _ _⟩
   case round =>
    obtain ⟨i,hi,rfl,HR⟩ := hrel
    by_cases hlt : i<E.length
    ·have g0 : (i:Int)<E.length := by omega
     obtain ⟨x,hx⟩ : ∃ x,E[i]? = some x := ⟨E[i],List.getElem?_eq_getElem hlt⟩
     have hxm : (E.map (·.1))[i]? = some x.1 := by rw [List.getElem?_map,hx]; rfl
     have HX : Hid ((E.map (·.1))[i]? = some x.1) := hxm
     have HP1 : Hid (Prv wr (.slice q E.length c) E B) := HP.out.below (HB.out.trans (HR.out.2.mono HB.out.size))
     obtain ⟨g,o,dq,dc,rfl,hd,hd1,hd2,a0,a1,a2,a3⟩ := HP1.out.cells hx
     have hm := List.mem_of_getElem? hx
     have hv := HP1.out.va x hm
     have hf := HP1.out.fl x hm
     have hmm := HP1.out.mem x hm
     have hs := HP1.out.sz x hm
     have d1 : wr.cell? ⟨w.heap.size,1,.none⟩=some (.slice (some ⟨g,o,.none⟩) E.length c) := (HR.out.2.cell (lt_of_cell HQ1.out)).trans HQ1.out
     have HB2 : Hid (Below wr.heap.size wr (wr.alloc (.cells #[.int .u64 x.1.va,.int .u32 x.1.fl,.slice dq x.1.sz dc,.int .u64 x.1.mem] 38))) := (Below.refl _ _).alloc (Nat.le_refl _) _
     have k0 : (wr.alloc (.cells #[.int .u64 x.1.va,.int .u32 x.1.fl,.slice dq x.1.sz dc,.int .u64 x.1.mem] 38)).cell? ⟨wr.heap.size,0,.none⟩=some (.int .u64 x.1.va) := World.cell?_alloc_at _ _ _ _ rfl
     have k1 : (wr.alloc (.cells #[.int .u64 x.1.va,.int .u32 x.1.fl,.slice dq x.1.sz dc,.int .u64 x.1.mem] 38)).cell? ⟨wr.heap.size,1,.none⟩=some (.int .u32 x.1.fl) := World.cell?_alloc_at _ _ _ _ rfl
     have k2 : (wr.alloc (.cells #[.int .u64 x.1.va,.int .u32 x.1.fl,.slice dq x.1.sz dc,.int .u64 x.1.mem] 38)).cell? ⟨wr.heap.size,2,.none⟩=some (.slice dq x.1.sz dc) := World.cell?_alloc_at _ _ _ _ rfl
     have k3 : (wr.alloc (.cells #[.int .u64 x.1.va,.int .u32 x.1.fl,.slice dq x.1.sz dc,.int .u64 x.1.mem] 38)).cell? ⟨wr.heap.size,3,.none⟩=some (.int .u64 x.1.mem) := World.cell?_alloc_at _ _ _ _ rfl
     have d2 : (wr.alloc (.cells #[.int .u64 x.1.va,.int .u32 x.1.fl,.slice dq x.1.sz dc,.int .u64 x.1.mem] 38)).cell? ⟨w.heap.size,1,.none⟩=some (.slice (some ⟨g,o,.none⟩) E.length c) := (HB2.out.cell (lt_of_cell d1)).trans d1
     have HP2 : Hid (Prv (wr.alloc (.cells #[.int .u64 x.1.va,.int .u32 x.1.fl,.slice dq x.1.sz dc,.int .u64 x.1.mem] 38)) (.slice (some ⟨g,o,.none⟩) E.length c) E B) := HP1.out.below HB2.out
     clear d1
     go_upto_region 6 with fail
     generalize hW2 : (wr.alloc (.cells #[.int .u64 x.1.va,.int .u32 x.1.fl,.slice dq x.1.sz dc,.int .u64 x.1.mem] 38))=W2 at *
     clear hW2 a0 a1 a2 a3
     have c17 := mayBe_any x.1.va x.1.fl x.1.sz x.1.mem (.slice dq x.1.sz dc) W2 hv hf ⟨by omega,by omega⟩ hmm ⟨_,_,_,rfl⟩
     cases hok : ok1 x.1.va x.1.fl x.1.sz x.1.mem with
     | false =>
      rw [hok] at c17
      have HK : Hid (ok1 x.1.va x.1.fl x.1.sz x.1.mem=false) := hok
      clear hok
      go_wp2_with (first | (go_at_call 79; refine c17.mono ?_; rintro _ W3 ⟨rfl,hW3⟩; have HB3 : Hid (Below W2.heap.size W2 W3) := hW3; clear hW3) | (go_at_call 38; refine (refusal_any _ _ _).mono ?_; rintro _ _ ⟨rfl,rfl⟩))
      go_ret
      have hb4 := HB.out.trans ((HR.out.2.trans ((HB2.out.trans (HB3.out.mono HB2.out.size)).mono HR.out.2.size)).mono HB.out.size)
      exact ⟨hb4.alloc hb4.size _,.inr ⟨not_good1 HX.out HK.out,_,rfl⟩⟩
     | true =>
      rw [hok] at c17
      have HK : Hid (ok1 x.1.va x.1.fl x.1.sz x.1.mem=true) := hok
      clear hok
      go_upto_region 8 with (go_at_call 79; refine c17.mono ?_; rintro _ W3 ⟨rfl,hW3⟩; have HB3 : Hid (Below W2.heap.size W2 W3) := hW3; clear hW3)
      have e0 := (HB3.out.cell (lt_of_cell k0)).trans k0
      have e1 := (HB3.out.cell (lt_of_cell k1)).trans k1
      have e2 := (HB3.out.cell (lt_of_cell k2)).trans k2
      have e3 := (HB3.out.cell (lt_of_cell k3)).trans k3
      have e4 := (HB3.out.cell (lt_of_cell d2)).trans d2
      have HP3 : Hid (Prv W3 (.slice (some ⟨g,o,.none⟩) E.length c) E B) := HP2.out.below HB3.out
      clear k0 k1 k2 k3 d2 c17
      have hSg := HP3.out.sv.pre i hi
      have hGg := HR.out.1.gdV HP3.out hi
      have bd : Below W3.heap.size W3 W3.drew := (Below.refl _ _).drew
      have c18 := risesV_any (hSg.below bd) hGg (by rw [List.length_take]; omega) x.1.va x.1.fl x.1.mem dq x.1.sz dc
      have em : (E.take i).map (·.1)=(E.map (·.1)).take i := List.map_take
      rw [em] at c18
      clear hSg hGg em
      have hid : 0≤(i:Int) := by omega
      have hic : (i:Int)≤c := by omega
      have kS : (W3.drew.cell? ⟨w.heap.size,1,.none⟩=some (.slice (some ⟨g,o,.none⟩) E.length c)∧W3.drew.cell? ⟨wr.heap.size,0,.none⟩=some (.int .u64 x.1.va)∧W3.drew.cell? ⟨wr.heap.size,1,.none⟩=some (.int .u32 x.1.fl)∧W3.drew.cell? ⟨wr.heap.size,2,.none⟩=some (.slice dq x.1.sz dc)∧W3.drew.cell? ⟨wr.heap.size,3,.none⟩=some (.int .u64 x.1.mem)) := ⟨(bd.cell (lt_of_cell e4)).trans e4,(bd.cell (lt_of_cell e0)).trans e0,(bd.cell (lt_of_cell e1)).trans e1,(bd.cell (lt_of_cell e2)).trans e2,(bd.cell (lt_of_cell e3)).trans e3⟩
      have HBd : Hid (Below W3.heap.size W3 W3.drew) := bd
      clear bd e0 e1 e2 e3 e4
      have HRI : Hid (∃ b,ris ((E.map (·.1)).take i) x.1.va=b) := ⟨_,rfl⟩
      generalize hri : ris ((E.map (·.1)).take i) x.1.va=rb at *
      have HI : Hid (ris ((E.map (·.1)).take i) x.1.va=rb) := hri
      clear hri HRI
      refine wp_region_held_drew (S:=fun U2 => (U2.cell? ⟨w.heap.size,1,.none⟩=some (.slice (some ⟨g,o,.none⟩) E.length c)∧U2.cell? ⟨wr.heap.size,0,.none⟩=some (.int .u64 x.1.va)∧U2.cell? ⟨wr.heap.size,1,.none⟩=some (.int .u32 x.1.fl)∧U2.cell? ⟨wr.heap.size,2,.none⟩=some (.slice dq x.1.sz dc)∧U2.cell? ⟨wr.heap.size,3,.none⟩=some (.int .u64 x.1.mem))) (by kernel_rfl) kS (fun hHeld => ?_)
      refine aT 0 (.pointer (some ⟨w.heap.size,1,.none⟩)) rfl ?_
      simp only [X0,X1,X2,X3,X4,X5,X6]
      refine aT 1 (.slice (some ⟨g,o,.none⟩) E.length c) rfl ?_
      simp only [X0,X1,X2,X3,X4,X5,X6]
      refine aT 2 (.int .i64 i) rfl ?_
      simp only [X0,X1,X2,X3,X4,X5,X6]
      refine aT 3 (.slice (some ⟨g,o,.none⟩) i c) rfl ?_
      simp only [X0,X1,X2,X3,X4,X5,X6]
      refine aT 4 (.agg #[.int .u64 x.1.va,.int .u32 x.1.fl,.slice dq x.1.sz dc,.int .u64 x.1.mem]) rfl ?_
      simp only [X0,X1,X2,X3,X4,X5,X6]
      refine wpAnyH_ready (rs:=[5]) (by kernel_rfl) (by simp) ?_
      refine AllReadyH.cons rfl (fun K hK => ?_) AllReadyH.nil
      go_simp
      go_at_call 80
      refine c18.mono ?_
      rintro _ W4 ⟨rfl,hW4⟩
      have kS4 : (W4.cell? ⟨w.heap.size,1,.none⟩=some (.slice (some ⟨g,o,.none⟩) E.length c)∧W4.cell? ⟨wr.heap.size,0,.none⟩=some (.int .u64 x.1.va)∧W4.cell? ⟨wr.heap.size,1,.none⟩=some (.int .u32 x.1.fl)∧W4.cell? ⟨wr.heap.size,2,.none⟩=some (.slice dq x.1.sz dc)∧W4.cell? ⟨wr.heap.size,3,.none⟩=some (.int .u64 x.1.mem)) := ⟨(hW4.cell (lt_of_cell kS.1)).trans kS.1,(hW4.cell (lt_of_cell kS.2.1)).trans kS.2.1,(hW4.cell (lt_of_cell kS.2.2.1)).trans kS.2.2.1,(hW4.cell (lt_of_cell kS.2.2.2.1)).trans kS.2.2.2.1,(hW4.cell (lt_of_cell kS.2.2.2.2)).trans kS.2.2.2.2⟩
      have HB4 : Hid (Below W1.heap.size W1 W4) := HR.out.2.trans ((HB2.out.trans ((HB3.out.trans ((HBd.out.trans (hW4.mono HBd.out.size)).mono HB3.out.size)).mono HB2.out.size)).mono HR.out.2.size)
      refine hK.out _ _ kS4 (fun hHeld => ?_)
      clear hK K
      try simp only [X0,X1,X2,X3,X4,X5,X6]
      clear hW4 kS c18
      refine aT 6 (.bool (!rb)) rfl ?_
      simp only [X0,X1,X2,X3,X4,X5,X6]
      refine wpAnyH_done (by kernel_rfl) ?_ _
      clear kS4
      cases rb with
      | false =>
       go_wp2_with (go_at_call 38; refine (refusal_any _ _ _).mono ?_; rintro _ _ ⟨rfl,rfl⟩)
       go_ret
       have hb5 := HB.out.trans (HB4.out.mono HB.out.size)
       exact ⟨hb5.alloc hb5.size _,.inr ⟨not_good2 HX.out HI.out,_,rfl⟩⟩
      | true =>
       go_wp2_with fail
       exact ⟨⟨i+1,by omega,by simp,HR.out.1.succ HX.out HK.out HI.out,HB4.out⟩,by simp [intOf]; omega⟩
    ·have he' : i=E.length := by omega
     have hn : ¬ ((i:Int)<E.length) := by omega
     subst he'
     have HPe : Hid (Prv wr (.slice q E.length c) E B) := HP.out.below (HB.out.trans (HR.out.2.mono HB.out.size))
     have hSe := HPe.out.sv
     have hGe := HR.out.1.gdV HPe.out (Nat.le_refl _)
     rw [List.take_length] at hGe
     have c19 := hasEntryV_any hSe hGe (by omega) en he
     have d0 : wr.cell? ⟨w.heap.size,0,.none⟩=some (.int .u64 en) := (HR.out.2.cell (lt_of_cell HQ0.out)).trans HQ0.out
     have d1 : wr.cell? ⟨w.heap.size,1,.none⟩=some (.slice q E.length c) := (HR.out.2.cell (lt_of_cell HQ1.out)).trans HQ1.out
     clear hSe hGe
     cases hh : hasE (E.map (·.1)) en with
     | false =>
      rw [hh] at c19
      have HH : Hid (hasE (E.map (·.1)) en=false) := hh
      clear hh
      go_wp2_with (first | (go_at_call 81; refine c19.mono ?_; rintro _ W4 ⟨rfl,hW4⟩; have HB4 : Hid (Below wr.heap.size wr W4) := hW4; clear hW4) | (go_at_call 38; refine (refusal_any _ _ _).mono ?_; rintro _ _ ⟨rfl,rfl⟩))
      go_ret
      have hb5 := HB.out.trans ((HR.out.2.trans (HB4.out.mono HR.out.2.size)).mono HB.out.size)
      exact ⟨hb5.alloc hb5.size _,.inr ⟨fun hg => Bool.noConfusion (HH.out.symm.trans hg.2.2.2),_,rfl⟩⟩
     | true =>
      rw [hh] at c19
      have HH : Hid (hasE (E.map (·.1)) en=true) := hh
      clear hh
      go_wp2_with (first | (go_at_call 81; refine c19.mono ?_; rintro _ W4 ⟨rfl,hW4⟩; have HB4 : Hid (Below wr.heap.size wr W4) := hW4; clear hW4) | fail)
      go_ret
      have hb5 := HB.out.trans ((HR.out.2.trans (HB4.out.mono HR.out.2.size)).mono HB.out.size)
      have hgk : Gk (E.map (·.1)) (E.map (·.1)).length := by rw [hE]; exact HR.out.1
      exact ⟨hb5,.inl ⟨⟨by omega,by omega,hgk,HH.out⟩,rfl⟩⟩
end
section
open Go.RowKit
theorem run_append_none (g n cp:Nat) (p:Option Addr) (c:Nat) (ty:TypeId) (w:World) (hn:n≤cp) : (Builtin.append_ #[24,24] ty #[.slice (some ⟨g,0,.none⟩) n cp,.slice p 0 c]).run Tryz.prog w = .ok (.slice (some ⟨g,0,.none⟩) n cp) w := by
 obtain ⟨i,z,hi,_⟩ := byte_info
 cases p <;> simp [Builtin.append_,run_underlying Tryz.underlying24,sizeOf,typeInfo,hi,Builtin.lenOf,Builtin.firstCells,loadCells,loadCellsFrom,hn] <;> rfl
theorem wpList_append_none {w:World} {ops:Array Oper} {rest:List Oper} {o:Oper} {a:Act} {Q:Exit→Act→World→Prop} (hgd:o.guard=none) (s x:Operand)
  (ho:o.op = .call { callee := .builtin .append,args := #[s,x],argTypes := #[24,24] }) (g n cp:Nat) (hn:n≤cp) (p:Option Addr) (c:Nat) (hs:a.eval s = .slice (some ⟨g,0,.none⟩) n cp) (hx:a.eval x = .slice p 0 c)
  (h:wpList Tryz.prog ops Q rest (a.put o.dst (.slice (some ⟨g,0,.none⟩) n cp)) w) : wpList Tryz.prog ops Q (o :: rest) a w := by
 refine wpList_plain hgd fun K hK => ?_
 unfold Oper.wp execOp
 simp only [ho,resolve,invoke,builtin,Sem.run_bind,Sem.run_pure,Result.andThen_ok,List.map_toArray,List.map_cons,List.map_nil,hs,hx,run_append_none _ _ _ _ _ _ _ hn]
 exact hK _ _ h
end
section
open Go.RowKit
set_option maxHeartbeats 4000000 in
set_option maxRecDepth 100000 in
theorem layV_any {w:World} {sv:Value} {E:List (Sg × Value)} {B:Nat→Int} (h:Prv w sv E B) (h0:0<E.length) (h8:E.length≤8) (hP:Plc (E.map (·.1))) (hL:Laid w) (en:Int) (he:0≤en∧en<18446744073709551616) (hz:szs (E.map (·.1)) E.length≤300000) :
  Calls Tryz.prog 39 #[.agg #[.int .u64 en,sv],.int .u64 ((64+56*E.length+szs (E.map (·.1)) E.length : Nat) : Int)] w fun e w' => ∃ v,e = .returned v∧w'.ownsRow w.heap.size 5 1 v (64+56*E.length+szs (E.map (·.1)) E.length) (lst (fil en (E.map (·.1)) B) (64+56*E.length+szs (E.map (·.1)) E.length))∧Below w.heap.size w w' := by
 obtain ⟨q,c,rfl,hc1,hc2,hq⟩ := h.sv.fm
 have HP : Hid (Prv w (.slice q E.length c) E B) := h
 have HB : Hid (Below w.heap.size w (w.alloc (.cells #[.int .u64 en,.slice q E.length c] 41))) := (Below.refl _ _).alloc (Nat.le_refl _) _
 have q0 : (w.alloc (.cells #[.int .u64 en,.slice q E.length c] 41)).cell? ⟨w.heap.size,0,.none⟩=some (.int .u64 en) := World.cell?_alloc_at _ _ _ _ rfl
 have q1 : (w.alloc (.cells #[.int .u64 en,.slice q E.length c] 41)).cell? ⟨w.heap.size,1,.none⟩=some (.slice q E.length c) := World.cell?_alloc_at _ _ _ _ rfl
 have hE : (E.map (·.1)).length=E.length := List.length_map ..
 have HPl : Hid (Plc (E.map (·.1))) := hP
 have HL : Hid (Laid w) := hL
 clear h hP hL hq
 obtain ⟨i3,z3,hi3,hz3,hs3,hb3,hzs3⟩ := byte_info
 have HI : Hid (Tryz.prog.info? 5=some i3∧i3.zero=some z3∧i3.size=1∧i3.bytes=1∧z3.cells.size=1) := ⟨hi3,hz3,hs3,hb3,hzs3⟩
 clear hi3 hz3 hs3 hb3 hzs3
 generalize hS : E.map (·.1)=S at *
 have HS : Hid (E.map (·.1)=S) := hS
 clear hS
 generalize hT : 64+56*E.length+szs S E.length=T at *
 have HT : Hid (64+56*E.length+szs S E.length=T) := hT
 have hTb : T≤400000 := by omega
 clear hT
 go_enter Tryz.func39,Tryz.ntmps39
 go_upto_region 1 with fail
 have HQ0 : Hid _ := q0
 have HQ1 : Hid _ := q1
 clear q0 q1
 generalize (w.alloc (.cells #[.int .u64 en,.slice q E.length c] 41))=W1 at *
 obtain ⟨W2,hmk,own2,gr2⟩ := run_make_own (P:=Tryz.prog) W1 W1.heap.size 24 5 i3 z3 1 Tryz.underlying24 HI.out.1 HI.out.2.1 HI.out.2.2.1 .i64 .u64 T (by rw [HI.out.2.2.2.1]; omega) (by simp only [maxLen]; omega) (Nat.le_refl _)
 have HM : Hid (W2.ownsRow W1.heap.size 5 1 (.slice (some ⟨W1.heap.size,0,.none⟩) 0 T) 0 []∧Below W1.heap.size W1 W2) := ⟨own2,(Below.refl _ _).grown gr2 (Nat.le_refl _) (fun r e => by cases e)⟩
 clear own2 gr2
 go_upto_region 2 with fail
 clear hmk
 have HA2 : Hid (Below w.heap.size w W2) := HB.out.trans (HM.out.2.mono HB.out.size)
 have r2 : W2.rangeAt w.heap.size 0 [.int .u64 en,.slice q E.length c] := by
  intro j v hj
  rw [Nat.zero_add]
  match j,hj with
  | 0,hj => injection hj with hj; subst hj; exact (HM.out.2.cell (lt_of_cell HQ0.out)).trans HQ0.out
  | 1,hj => injection hj with hj; subst hj; exact (HM.out.2.cell (lt_of_cell HQ1.out)).trans HQ1.out
 have HQ2 : Hid (W2.cell? ⟨w.heap.size,1,.none⟩=some (.slice q E.length c)) := (HM.out.2.cell (lt_of_cell HQ1.out)).trans HQ1.out
 refine wp_region_lit ?_
 refine wpList_load_mid rfl 41 (.tmp 2) rfl w.heap.size 0 (by simp [Act.eval]) _ _ r2 Tryz.underlying41 rfl (by kernel_rfl) ?_
 try simp only [X0,X1,X2,X3]
 clear r2
 refine wpList_plain rfl fun K hK => ?_
 go_simp
 go_at_call 83
 refine (headW_any en q E.length c W2 (HL.out.below HA2.out) h8 he ⟨hc1,hc2⟩).mono ?_
 rintro _ W3 ⟨rfl,hW3⟩
 refine hK _ _ ?_
 clear hK K
 try simp only [X0,X1,X2,X3]
 refine wpList_new rfl (.pointer (some ⟨W3.heap.size,0,.none⟩)) (.cells (List.replicate 64 (.int .u8 0)).toArray 152) (by kernel_rfl) ?_
 try simp only [X0,X1,X2,X3]
 refine wpList_store_mid rfl 152 (.tmp 6) (.tmp 16) rfl W3.heap.size 0 (lst (headB en E.length) 64).toArray (by simp [Act.eval]) (by simp [Act.eval]) (by rw [lst_size]; exact there_z W3 64 152) (by rw [lst_size]; kernel_rfl) (lst_one _ _) ?_
 try simp only [X0,X1,X2,X3]
 have hb4 : Below W3.heap.size W3 ((W3.alloc (.cells (List.replicate 64 (.int .u8 0)).toArray 152)).setCells W3.heap.size 0 (lst (headB en E.length) 64)) := ((Below.refl _ _).alloc (Nat.le_refl _) _).trans (below_setCells _ _ (Nat.le_refl _) _ _ _)
 have HR4 : Hid (((W3.alloc (.cells (List.replicate 64 (.int .u8 0)).toArray 152)).setCells W3.heap.size 0 (lst (headB en E.length) 64)).rangeAt W3.heap.size 0 (lst (headB en E.length) 64)) := World.rangeAt_setCells_same _ _ _ _ (by rw [lst_len]; exact there_z W3 64 152)
 have HB4 : Hid (Below W2.heap.size W2 ((W3.alloc (.cells (List.replicate 64 (.int .u8 0)).toArray 152)).setCells W3.heap.size 0 (lst (headB en E.length) 64))) := hW3.trans (hb4.mono hW3.size)
 clear hb4 hW3
 generalize ((W3.alloc (.cells (List.replicate 64 (.int .u8 0)).toArray 152)).setCells W3.heap.size 0 (lst (headB en E.length) 64))=W4 at *
 generalize W3.heap.size=hb at *
 clear W3
 have HO4 : Hid (W4.ownsRow W1.heap.size 5 1 (.slice (some ⟨W1.heap.size,0,.none⟩) 0 T) 0 []) := owns_below HM.out.1 HB4.out
 have HA4 : Hid (Below w.heap.size w W4) := HA2.out.trans (HB4.out.mono HA2.out.size)
 go_upto_region 3 with fail
 have hsl : ∀ j u,(lst (headB en E.length) 64)[j]? = some u→W4.cell? ((⟨hb,0,.none⟩ : Addr).add j)=some u := fun j u hj => by
  rw [le_addr_add]
  exact HR4.out j u hj
 have HSl : Hid (∀ j u,(lst (headB en E.length) 64)[j]? = some u→W4.cell? ((⟨hb,0,.none⟩ : Addr).add j)=some u) := hsl
 have hone : ∀ u ∈ lst (headB en E.length) 64,u.oneCell'=true := fun u hu => by
  simp only [lst,List.mem_map] at hu
  obtain ⟨x,_,rfl⟩ := hu
  rfl
 have HOne : Hid (∀ u ∈ lst (headB en E.length) 64,u.oneCell'=true) := hone
 clear hsl hone
 have hW4s : W1.heap.size≤W4.heap.size := Nat.le_trans HM.out.2.size HB4.out.size
 have HW4 : Hid (Below W1.heap.size W1 W4) := HM.out.2.trans (HB4.out.mono HM.out.2.size)
 go_upto_region 4 with (at_builtin; refine wpList_append_own _ rfl _ _ 24 rfl W1.heap.size 5 i3 z3 1 1 Tryz.underlying24 HI.out.1 HI.out.2.1 HI.out.2.2.1 HI.out.2.2.2.1 HI.out.2.2.2.2 (by decide) (.slice (some ⟨W1.heap.size,0,.none⟩) 0 T) 0 [] rfl HO4.out ⟨hb,0,.none⟩ 64 64 (lst (headB en E.length) 64) rfl (by rw [lst_len]) HSl.out HOne.out (by unfold maxLen; omega) (by omega) hW4s ?_; intro v5 W5 own5 gr5 _; simp only [Nat.zero_add,List.nil_append] at own5)
 have HO5 : Hid (W5.ownsRow W1.heap.size 5 1 v5 (64+56*0) (lst (fil en S B) (64+56*0))) := by
  have e := fil_head en S B
  rw [hE] at e
  show W5.ownsRow W1.heap.size 5 1 v5 64 (lst (fil en S B) 64)
  rw [e]
  exact own5
 have HB5 : Hid (Below W1.heap.size W4 W5) := (Below.refl _ _).grown gr5 (by have := HM.out.2.size; have := HB4.out.size; omega) (fun r e => by simp [Value.ownBlock] at e; omega)
 have HA5 : Hid (Below w.heap.size w W5) := HA4.out.trans (HB5.out.mono HB.out.size)
 have hlt1 : w.heap.size<W1.heap.size := lt_of_cell HQ1.out
 have c51 : W5.cell? ⟨w.heap.size,1,.none⟩=some (.slice q E.length c) := (HB5.out.cell hlt1).trans ((HB4.out.cell (lt_of_cell HQ2.out)).trans HQ2.out)
 clear own5 gr5 HSl HOne HR4 HO4 HB4 HA2 HQ2 HM hW4s
 have c20 := begin_any q E.length c W5 (by omega) ⟨hc1,hc2⟩
 go_upto_region 5 with (go_at_call 82; refine c20.mono ?_; rintro _ W6 ⟨rfl,hW6⟩; rw [hW6]; clear hW6 W6)
 have HP1 : Hid (Prv W1 (.slice q E.length c) E B) := HP.out.below HB.out
 have HL1 : Hid (Laid W1) := HL.out.below HB.out
 have HW5 : Hid (Below W1.heap.size W1 W5) := HW4.out.trans HB5.out
 clear c51 c20 HB5 HA5 HW4 HA4
 have c51 : W5.cell? ⟨w.heap.size,1,.none⟩=some (.slice q E.length c) := (HW5.out.cell hlt1).trans HQ1.out
 go_wp2_with fail
 go_loopw [5,7,26] (fun v a k wr => ∃ i : Nat,i≤E.length∧k = .int .i64 i∧a = .int .u64 (64+56*E.length+szs S i)∧Hid (wr.ownsRow W1.heap.size 5 1 v (64+56*i) (lst (fil en S B) (64+56*i))∧Below W1.heap.size W1 wr)) (fun _ _ k _ => (E.length - intOf k).toNat)
 case atStart => exact ⟨0,by omega,rfl,by simp [szs],HO5.out,HW5.out⟩
 case round =>
  obtain ⟨i,hi,rfl,rfl,HR⟩ := hrel
  have hsi : szs S i≤300000 := Nat.le_trans (szs_mono S i E.length hi) hz
  by_cases hlt : i<E.length
  ·have g0 : (i:Int)<E.length := by omega
   obtain ⟨x,hx⟩ : ∃ x,E[i]? = some x := ⟨E[i],List.getElem?_eq_getElem hlt⟩
   have hxm : S[i]? = some x.1 := by rw [← HS.out,List.getElem?_map,hx]; rfl
   have HX : Hid (S[i]? = some x.1) := hxm
   have HPw : Hid (Prv wr (.slice q E.length c) E B) := HP1.out.below HR.out.2
   obtain ⟨g,o,dq,dc,rfl,hd,hd1,hd2,a0,a1,a2,a3⟩ := HPw.out.cells hx
   have hm := List.mem_of_getElem? hx
   have hv := HPw.out.va x hm
   have hf := HPw.out.fl x hm
   have hmm := HPw.out.mem x hm
   have hs := HPw.out.sz x hm
   have hwh : x.1.wh=64+56*E.length+szs S i := by have := HPl.out i x.1 hxm; rw [hE] at this; exact this
   have hss := szs_succ S i x.1 hxm
   clear hxm
   go_upto_region 8 with fail
   have HB6 : Hid (Below wr.heap.size wr (wr.alloc (.cells #[.int .u64 x.1.va,.int .u32 x.1.fl,.slice dq x.1.sz dc,.int .u64 x.1.mem] 38))) := (Below.refl _ _).alloc (Nat.le_refl _) _
   have r6 : (wr.alloc (.cells #[.int .u64 x.1.va,.int .u32 x.1.fl,.slice dq x.1.sz dc,.int .u64 x.1.mem] 38)).rangeAt wr.heap.size 0 [.int .u64 x.1.va,.int .u32 x.1.fl,.slice dq x.1.sz dc,.int .u64 x.1.mem] := by
    intro j v hj
    rw [Nat.zero_add,World.cell?_alloc_at _ _ _ _ rfl]
    rw [← hj]
    simp
   have k2 : (wr.alloc (.cells #[.int .u64 x.1.va,.int .u32 x.1.fl,.slice dq x.1.sz dc,.int .u64 x.1.mem] 38)).cell? ⟨wr.heap.size,2,.none⟩=some (.slice dq x.1.sz dc) := World.cell?_alloc_at _ _ _ _ rfl
   have hlr : wr.heap.size<(wr.alloc (.cells #[.int .u64 x.1.va,.int .u32 x.1.fl,.slice dq x.1.sz dc,.int .u64 x.1.mem] 38)).heap.size := by simp
   generalize (wr.alloc (.cells #[.int .u64 x.1.va,.int .u32 x.1.fl,.slice dq x.1.sz dc,.int .u64 x.1.mem] 38))=W6 at *
   clear a0 a1 a2 a3
   have HW6 : Hid (Below W1.heap.size W1 W6) := HR.out.2.trans (HB6.out.mono HR.out.2.size)
   refine wp_region_lit ?_
   refine wpList_load_mid rfl 38 (.tmp 9) rfl wr.heap.size 0 (by simp [Act.eval]) _ _ r6 Tryz.underlying38 rfl (by kernel_rfl) ?_
   try simp only [X0,X1,X2,X3]
   clear r6
   refine wpList_read rfl (.int .u64 (64+56*E.length+szs S i)) (by kernel_rfl) ?_
   try simp only [X0,X1,X2,X3]
   refine wpList_plain rfl fun K hK => ?_
   go_simp
   go_at_call 84
   have c22 := segHeadW_any x.1.va x.1.fl x.1.mem (64+56*E.length+szs S i) dq x.1.sz dc W6 (HL1.out.below HW6.out) hv hf hmm ⟨by omega,by omega⟩ ⟨by omega,by omega⟩
   have e7 : segB x.1.va x.1.fl x.1.mem (64+56*E.length+szs S i) x.1.sz=segB x.1.va x.1.fl x.1.mem x.1.wh x.1.sz := by rw [hwh]; push_cast; rfl
   rw [e7] at c22
   refine c22.mono ?_
   rintro _ W7 ⟨rfl,hW7⟩
   refine hK _ _ ?_
   clear hK K c22
   try simp only [X0,X1,X2,X3]
   refine wpList_new rfl (.pointer (some ⟨W7.heap.size,0,.none⟩)) (.cells (List.replicate 56 (.int .u8 0)).toArray 154) (by kernel_rfl) ?_
   try simp only [X0,X1,X2,X3]
   refine wpList_store_mid rfl 154 (.tmp 10) (.tmp 32) rfl W7.heap.size 0 (lst (segB x.1.va x.1.fl x.1.mem x.1.wh x.1.sz) 56).toArray (by simp [Act.eval]) (by simp [Act.eval]) (by rw [lst_size]; exact there_z W7 56 154) (by rw [lst_size]; kernel_rfl) (lst_one _ _) ?_
   try simp only [X0,X1,X2,X3]
   have hb8 : Below W7.heap.size W7 ((W7.alloc (.cells (List.replicate 56 (.int .u8 0)).toArray 154)).setCells W7.heap.size 0 (lst (segB x.1.va x.1.fl x.1.mem x.1.wh x.1.sz) 56)) := ((Below.refl _ _).alloc (Nat.le_refl _) _).trans (below_setCells _ _ (Nat.le_refl _) _ _ _)
   have HR8 : Hid (((W7.alloc (.cells (List.replicate 56 (.int .u8 0)).toArray 154)).setCells W7.heap.size 0 (lst (segB x.1.va x.1.fl x.1.mem x.1.wh x.1.sz) 56)).rangeAt W7.heap.size 0 (lst (segB x.1.va x.1.fl x.1.mem x.1.wh x.1.sz) 56)) := World.rangeAt_setCells_same _ _ _ _ (by rw [lst_len]; exact there_z W7 56 154)
   have HB8 : Hid (Below W6.heap.size W6 ((W7.alloc (.cells (List.replicate 56 (.int .u8 0)).toArray 154)).setCells W7.heap.size 0 (lst (segB x.1.va x.1.fl x.1.mem x.1.wh x.1.sz) 56))) := hW7.trans (hb8.mono hW7.size)
   clear hb8 hW7
   generalize ((W7.alloc (.cells (List.replicate 56 (.int .u8 0)).toArray 154)).setCells W7.heap.size 0 (lst (segB x.1.va x.1.fl x.1.mem x.1.wh x.1.sz) 56))=W8 at *
   generalize W7.heap.size=hb7 at *
   clear W7
   have HO8 : Hid (W8.ownsRow W1.heap.size 5 1 u5 (64+56*i) (lst (fil en S B) (64+56*i))) := owns_below (owns_below HR.out.1 HB6.out) HB8.out
   have HW8 : Hid (Below W1.heap.size W1 W8) := HW6.out.trans (HB8.out.mono HW6.out.size)
   have k8 : W8.cell? ⟨wr.heap.size,2,.none⟩=some (.slice dq x.1.sz dc) := (HB8.out.cell (lt_of_cell k2)).trans k2
   have HK8 : Hid (W8.cell? ⟨wr.heap.size,2,.none⟩=some (.slice dq x.1.sz dc)) := k8
   clear k2 k8
   have HSl : Hid (∀ j u,(lst (segB x.1.va x.1.fl x.1.mem x.1.wh x.1.sz) 56)[j]? = some u→W8.cell? ((⟨hb7,0,.none⟩ : Addr).add j)=some u) := fun j u hj => by
    rw [le_addr_add]
    exact HR8.out j u hj
   have HOne : Hid (∀ u ∈ lst (segB x.1.va x.1.fl x.1.mem x.1.wh x.1.sz) 56,u.oneCell'=true) := fun u hu => by
    simp only [lst,List.mem_map] at hu
    obtain ⟨x,_,rfl⟩ := hu
    rfl
   have hW8s := HW8.out.size
   go_upto_region 10 with (at_builtin; refine wpList_append_own _ rfl _ _ 24 rfl W1.heap.size 5 i3 z3 1 1 Tryz.underlying24 HI.out.1 HI.out.2.1 HI.out.2.2.1 HI.out.2.2.2.1 HI.out.2.2.2.2 (by decide) u5 (64+56*i) (lst (fil en S B) (64+56*i)) rfl HO8.out ⟨hb7,0,.none⟩ 56 56 (lst (segB x.1.va x.1.fl x.1.mem x.1.wh x.1.sz) 56) rfl (by rw [lst_len]) HSl.out HOne.out (by unfold maxLen; omega) (by omega) hW8s ?_; intro v9 W9 own9 gr9 _)
   have HO9 : Hid (W9.ownsRow W1.heap.size 5 1 v9 (64+56*(i+1)) (lst (fil en S B) (64+56*(i+1)))) := by
    rw [fil_seg en S B i x.1 HX.out]
    exact own9
   have hob : ∀ r,u5.ownBlock=some r→W1.heap.size≤r := own_block HO8.out
   have HB9 : Hid (Below W1.heap.size W8 W9) := (Below.refl _ _).grown gr9 (by omega) hob
   have HW9 : Hid (Below W1.heap.size W1 W9) := HW8.out.trans HB9.out
   have hne : u5.ownBlock≠some wr.heap.size := fun e => by
    obtain ⟨q5,c5,rfl,_⟩ := own_form HO8.out
    obtain ⟨cur,hcur⟩ := own_blk HR.out.1 e
    have := (Array.getElem?_eq_some_iff.1 hcur).1
    omega
   have k9 : W9.cell? ⟨wr.heap.size,2,.none⟩=some (.slice dq x.1.sz dc) := gr9.cell HK8.out (fun e => hne e.symm)
   clear own9 gr9 HSl HOne HR8 hob hne
   go_wp2_with fail
   exact ⟨⟨i+1,by omega,by simp,by rw [hss]; congr 1; push_cast; omega,HO9.out,HW9.out⟩,by simp [intOf]; omega⟩
  ·have he' : i=E.length := by omega
   have hn : ¬ ((i:Int)<E.length) := by omega
   subst he'
   have c6 : wr.cell? ⟨w.heap.size,1,.none⟩=some (.slice q E.length c) := (HR.out.2.cell hlt1).trans HQ1.out
   go_upto_region 13 with fail
   have HOe : Hid (wr.ownsRow W1.heap.size 5 1 u5 (64+56*E.length+szs S 0) (lst (fil en S B) (64+56*E.length+szs S 0))∧Below W1.heap.size W1 wr) := by
    have e0 : szs S 0=0 := by cases S <;> rfl
    rw [e0]
    exact HR.out
   clear HR c6
   go_loopw [5,46] (fun v k wr => ∃ i : Nat,i≤E.length∧k = .int .i64 i∧Hid (wr.ownsRow W1.heap.size 5 1 v (64+56*E.length+szs S i) (lst (fil en S B) (64+56*E.length+szs S i))∧Below W1.heap.size W1 wr)) (fun _ k _ => (E.length - intOf k).toNat)
   case atStart => exact ⟨0,by omega,rfl,HOe.out⟩
   case round =>
    obtain ⟨j,hj,rfl,HR⟩ := hrel
    by_cases hlj : j<E.length
    ·have g1 : (j:Int)<E.length := by omega
     obtain ⟨x,hx⟩ : ∃ x,E[j]? = some x := ⟨E[j],List.getElem?_eq_getElem hlj⟩
     have hxm : S[j]? = some x.1 := by rw [← HS.out,List.getElem?_map,hx]; rfl
     have HX : Hid (S[j]? = some x.1) := hxm
     have HPw : Hid (Prv wr (.slice q E.length c) E B) := HP1.out.below HR.out.2
     obtain ⟨g,o,dq,dc,rfl,hd,hd1,hd2,a0,a1,a2,a3⟩ := HPw.out.cells hx
     have hm := List.mem_of_getElem? hx
     have hs := HPw.out.sz x hm
     by_cases hz0 : x.1.sz=0
     ·have hsj : szs S j≤300000 := Nat.le_trans (szs_mono S j E.length hj) hz
      have hss := szs_succ S j x.1 hxm
      rw [hz0] at a2
      have hsz : szs S (j+1)=szs S j := by omega
      have HO9 : Hid (wr.ownsRow W1.heap.size 5 1 u5 (64+56*E.length+szs S (j+1)) (lst (fil en S B) (64+56*E.length+szs S (j+1)))) := by
       rw [hsz]
       exact HR.out.1
      obtain ⟨gu,cu,rfl⟩ := own_slice HR.out.1 (by omega)
      have hcu := (own_capN HR.out.1).1
      have HB6 : Hid (Below W1.heap.size W1 (wr.alloc (.cells #[.int .u64 x.1.va,.int .u32 x.1.fl,.slice dq 0 dc,.int .u64 x.1.mem] 38))) := HR.out.2.alloc HR.out.2.size _
      have HO10 : Hid ((wr.alloc (.cells #[.int .u64 x.1.va,.int .u32 x.1.fl,.slice dq 0 dc,.int .u64 x.1.mem] 38)).ownsRow W1.heap.size 5 1 (.slice (some ⟨gu,0,.none⟩) (64+56*E.length+szs S j) cu) (64+56*E.length+szs S (j+1)) (lst (fil en S B) (64+56*E.length+szs S (j+1)))) := World.ownsRow.alloc HO9.out _
      clear hxm hss hsz hs
      go_wp2_with (first | (at_builtin; refine wpList_append_none rfl _ _ rfl gu (64+56*E.length+szs S j) cu hcu dq dc rfl rfl ?_) | fail)
      exact ⟨⟨j+1,by omega,by simp,HO10.out,HB6.out⟩,by simp [intOf]; omega⟩
     ·have hds := hd
      obtain ⟨dg,dO,rfl,hdat⟩ : ∃ dg dO,dq=some ⟨dg,dO,.none⟩ ∧ ∀ j,j<x.1.sz→W1.cell? ⟨dg,dO+j,.none⟩=some (.int .u8 (B (x.1.wh+j))) := by
       rcases HP1.out.dt x hm with h0 | ⟨dg,dO,dc',e,hd9⟩
       ·exact absurd h0 hz0
       ·rw [hd] at e
        injection e with e1
        exact ⟨dg,dO,e1,hd9⟩
      have hsj : szs S j≤300000 := Nat.le_trans (szs_mono S j E.length hj) hz
      have HD : Hid (∀ j,j<x.1.sz→W1.cell? ⟨dg,dO+j,.none⟩=some (.int .u8 (B (x.1.wh+j)))) := hdat
      have hss := szs_succ S j x.1 hxm
      clear hxm hds hdat
      have HB6 : Hid (Below wr.heap.size wr (wr.alloc (.cells #[.int .u64 x.1.va,.int .u32 x.1.fl,.slice (some ⟨dg,dO,.none⟩) x.1.sz dc,.int .u64 x.1.mem] 38))) := (Below.refl _ _).alloc (Nat.le_refl _) _
      have k2 : (wr.alloc (.cells #[.int .u64 x.1.va,.int .u32 x.1.fl,.slice (some ⟨dg,dO,.none⟩) x.1.sz dc,.int .u64 x.1.mem] 38)).cell? ⟨wr.heap.size,2,.none⟩=some (.slice (some ⟨dg,dO,.none⟩) x.1.sz dc) := World.cell?_alloc_at _ _ _ _ rfl
      go_upto_region 15 with fail
      clear a0 a1 a2 a3
      generalize (wr.alloc (.cells #[.int .u64 x.1.va,.int .u32 x.1.fl,.slice (some ⟨dg,dO,.none⟩) x.1.sz dc,.int .u64 x.1.mem] 38))=W6 at *
      have HW6 : Hid (Below W1.heap.size W1 W6) := HR.out.2.trans (HB6.out.mono HR.out.2.size)
      have HO8 : Hid (W6.ownsRow W1.heap.size 5 1 u5 (64+56*E.length+szs S j) (lst (fil en S B) (64+56*E.length+szs S j))) := owns_below HR.out.1 HB6.out
      have HSl : Hid (∀ j u,(by8 (byt B x.1))[j]? = some u→W6.cell? ((⟨dg,dO,.none⟩ : Addr).add j)=some u) := fun k u hk => by
       rw [le_addr_add]
       have hlk : k<x.1.sz := by
        have := (List.getElem?_eq_some_iff.1 hk).1
        rwa [by8_len,byt_len] at this
       have h9 := HD.out k hlk
       have e9 := by8_get (byt_get B x.1 k hlk)
       rw [e9] at hk
       injection hk with hk
       rw [← hk]
       exact ((HR.out.2.trans (HB6.out.mono HR.out.2.size)).cell (lt_of_cell h9)).trans h9
      have hW6s := HW6.out.size
      go_wp2_with (first | (at_builtin; refine wpList_append_own _ rfl _ _ 24 rfl W1.heap.size 5 i3 z3 1 1 Tryz.underlying24 HI.out.1 HI.out.2.1 HI.out.2.2.1 HI.out.2.2.2.1 HI.out.2.2.2.2 (by decide) u5 (64+56*E.length+szs S j) (lst (fil en S B) (64+56*E.length+szs S j)) rfl HO8.out ⟨dg,dO,.none⟩ x.1.sz dc (by8 (byt B x.1)) rfl (by rw [by8_len,byt_len,Nat.mul_one]) HSl.out (by8_one _) (by unfold maxLen; omega) (by omega) hW6s ?_; intro v9 W9 own9 gr9 _) | fail)
      have HO9 : Hid (W9.ownsRow W1.heap.size 5 1 v9 (64+56*E.length+szs S (j+1)) (lst (fil en S B) (64+56*E.length+szs S (j+1)))) := by
       have e := fil_dat en S B HPl.out j x.1 HX.out
       rw [hE] at e
       rw [e,hss,← Nat.add_assoc]
       exact own9
      have HW9 : Hid (Below W1.heap.size W1 W9) := HW6.out.trans ((Below.refl _ _).grown gr9 (by omega) (own_block HO8.out))
      exact ⟨⟨j+1,by omega,by simp,HO9.out,HW9.out⟩,by simp [intOf]; omega⟩
    ·have he' : j=E.length := by omega
     have hn1 : ¬ ((j:Int)<E.length) := by omega
     subst he'
     go_wp2_with fail
     go_ret
     have hR := HR.out
     rw [HT.out] at hR
     exact ⟨u5,rfl,own_mono hR.1 HB.out.size,HB.out.trans (hR.2.mono HB.out.size)⟩
end
end Go.Proofs.YtabnipbdbnmmpaaGreatDoor
