import Derived.Test.YthopgmmodldljaaCk
import Derived.Test.YthopgmmodldljaaAa
namespace Go.Proofs.Ythopgmmodldljaa
open Go Go.RowKit
set_option linter.unusedVariables false
set_option linter.unusedSimpArgs false
def KS (w : World) (g Z : Nat) (AL BL : List Value) (W4 wr : World) : Prop := wr.heap[w.heap.size]? = some (.cells AL.toArray 33) ∧ wr.heap[g]? = some (.cells BL.toArray 33) ∧ Below Z W4 wr ∧ Below w.heap.size w wr ∧ Z ≤ wr.heap.size
theorem KS.step {w : World} {g Z : Nat} {AL BL : List Value} {W4 wr wr' : World} (h : KS w g Z AL BL W4 wr) (hb : Below Z wr wr') (h1 : w.heap.size < Z) (h2 : g < Z) : KS w g Z AL BL W4 wr' :=
  ⟨(hb.block _ h1).trans h.1, (hb.block _ h2).trans h.2.1, h.2.2.1.trans hb, h.2.2.2.1.trans (hb.mono (by omega)), Nat.le_trans h.2.2.2.2 hb.size⟩
theorem KS.top {w : World} {g Z : Nat} {AL BL : List Value} {W4 wr wr' : World} (h : KS w g Z AL BL W4 wr) (hb : Below wr.heap.size wr wr') (h1 : w.heap.size < Z) (h2 : g < Z) : KS w g Z AL BL W4 wr' := h.step (hb.mono h.2.2.2.2) h1 h2
theorem cells_new {w : World} {R : List Row} {arr : Array Value} {t : TypeId} (h : arr.toList = R.map (·.v)) : ∀ i r, R[i]? = some r → (w.alloc (.cells arr t)).cell? ⟨w.heap.size, i, .none⟩ = some r.v := by
  intro i r hr
  have h1 : (w.alloc (.cells arr t)).heap[w.heap.size]? = some (.cells arr t (0, 0)) := by
    show (w.heap.push _)[w.heap.size]? = _
    simp
  rw [cell_heap h1, ← Array.getElem?_toList, h, List.getElem?_map, hr]
  rfl
theorem perm4 (P D A T : List Row) : (P ++ (D ++ (A ++ T))).Perm ((A ++ D) ++ (P ++ T)) := by
  rw [List.append_assoc]
  exact ((List.perm_append_comm_assoc P D _).trans ((List.perm_append_comm_assoc P A T).append_left D)).trans (List.perm_append_comm_assoc D A _)
def rowK (l : List Int) (v : Value) : Row := ⟨3, 1, l.length, v, l.map (.int .i64)⟩
set_option maxRecDepth 100000 in
set_option maxHeartbeats 4000000 in
theorem tells_any {w : World} {X : Nat} {pv fv iv qv rv lv : Value} {L : Lk} (h : LkW w X pv fv iv qv rv lv L) (hX : X ≤ w.heap.size) (hs : Sml L) (hf : fewN L 0 ≤ 1000000000000000000) (s p : Int) (hp0 : -9223372036854775808 ≤ p) (hp1 : p ≤ 9223372036854775807) : Calls Try.prog 7 #[.agg (lkL L.tramp pv fv iv qv rv lv L.ticks L.next L.free).toArray, .int .i64 s, .int .i64 p] w fun e w' => e = .returned (.bool true) ∧ Below w.heap.size w w' := by
  obtain ⟨pp, pc, rfl⟩ := h.ps.form
  obtain ⟨np, hnp⟩ : ∃ n, n = L.procs.length := ⟨_, rfl⟩
  rw [← hnp] at h ⊢
  obtain ⟨AL, hAL⟩ : ∃ AL, AL = lkL L.tramp (.slice pp np pc) fv iv qv rv lv L.ticks L.next L.free := ⟨_, rfl⟩
  rw [← hAL]
  have HL1 : Hid (AL.length = 10 ∧ AL[1]? = some (.slice pp np pc)) := by rw [hAL]; exact ⟨rfl, rfl⟩
  have kp : ∀ w', Below w.heap.size w w' → LkW w' X (.slice pp np pc) fv iv qv rv lv L ∧ X ≤ w'.heap.size := fun w' hb => ⟨h.keep (Nat.le_refl _) (hb.mono hX), Nat.le_trans hX hb.size⟩
  have HKP : Hid (∀ w', Below w.heap.size w w' → LkW w' X (.slice pp np pc) fv iv qv rv lv L ∧ X ≤ w'.heap.size) := kp
  have HF : Hid (∀ w', Below w.heap.size w w' → Calls Try.prog 10 #[.agg AL.toArray, .slice none 0 0] w' fun e w'' => e = .returned (.bool (decide (fewN L 0 ≤ 6000))) ∧ Below w'.heap.size w' w'') := fun w' hb => by rw [hAL]; exact few_any (kp w' hb).1 (kp w' hb).2 none 0 0 hf
  have HT : Hid (∀ w', Below w.heap.size w w' → Calls Try.prog 12 #[.agg AL.toArray] w' fun e w'' => ∃ pv' fv' iv' qv' rv' lv', e = .returned (.agg (lkL L.tramp pv' fv' iv' qv' rv' lv' L.ticks L.next L.free).toArray) ∧ LkW w'' w''.heap.size pv' fv' iv' qv' rv' lv' L ∧ Below w'.heap.size w' w'') := fun w' hb => by rw [hAL]; exact twin_lk (kp w' hb).1 (kp w' hb).2 hs
  have hpg : ∀ p ∈ L.procs, p.pages.length ≤ 1000000 ∨ True := fun _ _ => .inr trivial
  have HS : Hid (Sml L ∧ np = L.procs.length ∧ AL = lkL L.tramp (.slice pp np pc) fv iv qv rv lv L.ticks L.next L.free) := ⟨hs, hnp, hAL⟩
  have bnp : np ≤ 1048576 := by have := hs.p; omega
  clear h hX hs hf kp hpg hnp hAL
  go_enter Try.func7, Try.ntmps7
  go_wp2_with (first
    | (refine wpList_is (.box 33 (.tmp 0)) rfl ?_; refine wpList_boxG 33 AL 3 (.tmp 0) _ rfl rfl rfl rfl ?_; intro W1 hW1 hB1 hs1; have r1 : W1.rangeAt w.heap.size 0 AL := range_heap hW1)
    | (refine wpList_is (.load 33 (.tmp 3)) rfl ?_; refine wpList_loadG 33 10 176 info33 _ Try.underlying33 rfl AL HL1.out.1 w.heap.size 0 (.tmp 3) rfl rfl rfl r1 (some 21) rfl ?_)
    | fail)
  clear r1
  go_at_call 10
  refine (HF.out _ hB1).mono ?_
  rintro e W2 ⟨rfl, hB2⟩
  have HK2 : Hid (W2.heap[w.heap.size]? = some (.cells AL.toArray 33) ∧ Below w.heap.size w W2 ∧ w.heap.size < W2.heap.size) := ⟨(hB2.block _ (by omega)).trans hW1, hB1.trans (hB2.mono (by omega)), by have := hB2.size; omega⟩
  clear HF hW1 hB1 hB2 hs1
  by_cases hfew : fewN L 0 ≤ 6000
  case neg =>
    rw [decide_eq_false hfew]
    clear hfew
    go_wp2
    go_ret
    exact ⟨rfl, HK2.out.2.1⟩
  rw [decide_eq_true hfew]
  have HFW : Hid (fewN L 0 ≤ 6000) := hfew
  clear hfew
  have r1 : W2.rangeAt w.heap.size 0 AL := range_heap HK2.out.1
  go_wp2_with (first
    | (refine wpList_is (.load 33 (.tmp 3)) rfl ?_; refine wpList_loadG 33 10 176 info33 _ Try.underlying33 rfl AL HL1.out.1 w.heap.size 0 (.tmp 3) rfl rfl rfl r1 (some 24) rfl ?_)
    | fail)
  clear r1
  go_at_call 12
  refine (HT.out _ HK2.out.2.1).mono ?_
  rintro e W3 ⟨pv', fv', iv', qv', rv', lv', rfl, hLm, hB3⟩
  obtain ⟨pp', pc', rfl⟩ := hLm.ps.form
  rw [← HS.out.2.1] at hLm ⊢
  obtain ⟨BL, hBL⟩ : ∃ BL, BL = lkL L.tramp (.slice pp' np pc') fv' iv' qv' rv' lv' L.ticks L.next L.free := ⟨_, rfl⟩
  rw [← hBL]
  have HL2 : Hid (BL.length = 10 ∧ BL[1]? = some (.slice pp' np pc') ∧ ∀ v ∈ BL, v.oneCell' = true) := by rw [hBL]; exact ⟨rfl, rfl, lkL_one _ _ _ _ hLm.ps.one hLm.fs.one hLm.is.one hLm.qs.one hLm.rd.one hLm.ln.one⟩
  have HK3 : Hid (W3.heap[w.heap.size]? = some (.cells AL.toArray 33) ∧ Below w.heap.size w W3 ∧ w.heap.size < W3.heap.size) := ⟨(hB3.block _ HK2.out.2.2).trans HK2.out.1, HK2.out.2.1.trans (hB3.mono (by have := HK2.out.2.2; omega)), by have := hB3.size; have := HK2.out.2.2; omega⟩
  have HLM : Hid (LkW W3 W3.heap.size (.slice pp' np pc') fv' iv' qv' rv' lv' L ∧ BL = lkL L.tramp (.slice pp' np pc') fv' iv' qv' rv' lv' L.ticks L.next L.free) := ⟨hLm, hBL⟩
  clear hLm hBL hB3 HK2 HT
  go_wp2_with (first
    | (refine wpList_is (.alloc 33) rfl ?_; refine wpList_laidG 33 10 176 info33 BL HL2.out.1 HL2.out.2.2 7 (.tmp 25) _ _ rfl rfl rfl rfl rfl rfl rfl rfl ?_; intro W4 hW4 hB4 hs4)
    | fail)
  obtain ⟨Z, hZ⟩ : ∃ Z, Z = W4.heap.size := ⟨_, rfl⟩
  have hLm4 : LkW W4 Z (.slice pp' np pc') fv' iv' qv' rv' lv' L := HLM.out.1.keep (by omega) hB4
  have hwZ : w.heap.size < Z := by have := HK3.out.2.2; omega
  have hgZ : W3.heap.size < Z := by omega
  have HK4 : Hid (KS w W3.heap.size Z AL BL W4 W4) := ⟨(hB4.block _ HK3.out.2.2).trans HK3.out.1, hW4, Below.refl _ _, HK3.out.2.1.trans (hB4.mono (by have := HK3.out.2.2; omega)), by omega⟩
  have HBL : Hid (BL = lkL L.tramp (.slice pp' np pc') fv' iv' qv' rv' lv' L.ticks L.next L.free) := HLM.out.2
  clear HLM HK3 hW4 hB4 hs4
  generalize W3.heap.size = g at *
  have HZ : Hid (Z = W4.heap.size ∧ w.heap.size < Z ∧ g < Z) := ⟨hZ, hwZ, hgZ⟩
  have km : ∀ wr, KS w g Z AL BL W4 wr → LkW wr Z (.slice pp' np pc') fv' iv' qv' rv' lv' L ∧ Z ≤ wr.heap.size := fun wr hk => ⟨hLm4.keep (Nat.le_refl _) hk.2.2.1, hk.2.2.2.2⟩
  have HKM : Hid (∀ wr, KS w g Z AL BL W4 wr → LkW wr Z (.slice pp' np pc') fv' iv' qv' rv' lv' L ∧ Z ≤ wr.heap.size) := km
  have hpg : ∀ p ∈ L.procs, p.pages.length ≤ 1000000 := fun x hx => by
    have h1 := sumN_mem (fun p : Pc => p.nodes.length + p.pages.length) L.procs x hx
    have h2 := HFW.out
    unfold fewN at h2
    omega
  have HSM : Hid (∀ wr, KS w g Z AL BL W4 wr → Calls Try.prog 19 #[.agg BL.toArray, .agg AL.toArray] wr fun e w'' => e = .returned (.bool true) ∧ Below wr.heap.size wr w'') := fun wr hk => by
    rw [HBL.out, HS.out.2.2]
    refine same_eq (km wr hk).1 (HKP.out wr hk.2.2.2.1).1 (km wr hk).2 (HKP.out wr hk.2.2.2.1).2 ?_ ?_ ?_ ?_ ?_ ?_
    · have := HS.out.1.r; omega
    · have := HS.out.1.l; omega
    · intro x hx; have := HS.out.1.pg x hx; omega
    · intro x hx; have := HS.out.1.qb x hx; omega
    · exact ⟨HS.out.1.p, HS.out.1.f, HS.out.1.i, HS.out.1.q⟩
    · have h1 := allL_len L []
      have h2 := HFW.out
      simp only [List.length_nil] at h1
      omega
  have HRC : Hid (∀ wr, KS w g Z AL BL W4 wr → Calls Try.prog 21 #[.agg AL.toArray, .int .i64 s] wr (KdP wr (kids s L.procs))) := fun wr hk => by
    rw [HS.out.2.2]
    exact rchildren_any (HKP.out wr hk.2.2.2.1).1.ps (HKP.out wr hk.2.2.2.1).2 HS.out.1.p s
  have HRR : Hid (∀ a wr, KS w g Z AL BL W4 wr → Calls Try.prog 22 #[.agg AL.toArray, .int .i64 s, .int .u64 a] wr (RcP wr (rcL s a L.procs))) := fun a wr hk => by
    rw [HS.out.2.2]
    exact rreach_any (HKP.out wr hk.2.2.2.1).1.ps (HKP.out wr hk.2.2.2.1).2 HS.out.1.p hpg s a
  have HCR : Hid (∀ wr, KS w g Z AL BL W4 wr → Calls Try.prog 14 #[.agg BL.toArray, .int .i64 s] wr (RhP wr s L.procs)) := fun wr hk => by
    rw [HBL.out]
    exact reach_any (km wr hk).1.ps (km wr hk).2 HS.out.1.p hpg s
  have HCC : Hid (∀ wr, KS w g Z AL BL W4 wr → Calls Try.prog 23 #[.agg BL.toArray, .int .i64 s] wr (KdP wr (kids s L.procs))) := fun wr hk => by
    rw [HBL.out]
    exact children_any (km wr hk).1.ps (km wr hk).2 HS.out.1.p s
  have HLN : Hid ((kids s L.procs).length ≤ 1048576 ∧ ∀ a, (rcL s a L.procs).length ≤ 1048576) := by
    constructor
    · have h1 := List.length_filter_le (fun p : Pc => p.c 3 == s && p.c 0 != s) L.procs
      have := HS.out.1.p
      unfold kids
      rw [List.length_map]
      omega
    · intro a
      unfold rcL
      cases hq : rcP s L.procs with
      | none => simp
      | some x =>
        have hx : x ∈ L.procs := by
          unfold rcP at hq
          cases hf : L.procs.find? (fun p => p.c 0 == s) with
          | none => rw [hf] at hq; cases hq
          | some y =>
            rw [hf] at hq
            simp only at hq
            split at hq
            · cases hq
            · injection hq with hq
              subst hq
              exact List.mem_of_find?_eq_some hf
        have h1 := List.length_filter_le (fun g : Pg => bits .and .u64 g.pm a == a) x.pages
        have h2 := HS.out.1.pg x hx
        simp only [rch, List.length_map]
        omega
  have HPS : Hid (∀ wr, KS w g Z AL BL W4 wr → Ps wr X (.slice pp np pc) L.procs ∧ Ps wr Z (.slice pp' np pc') L.procs ∧ X ≤ Z) := fun wr hk => ⟨(HKP.out wr hk.2.2.2.1).1.ps, (km wr hk).1.ps, by have := (HKP.out w (Below.refl _ _)).2; omega⟩
  clear hpg km hLm4 hZ HKP
  clear hwZ hgZ HBL HFW
  go_wp2
  go_loopw [8] (fun k wr => ∃ i : Nat, i ≤ np ∧ k = .int .i64 i ∧ Hid (KS w g Z AL BL W4 wr)) (fun v _ => (np - intOf v).toNat)
  case atStart => exact ⟨0, by omega, rfl, HK4.out⟩
  case round =>
    clear HK4
    obtain ⟨i, hi, rfl, HB⟩ := hrel
    have a1 := cell_heap (o := 1) HB.out.1
    rw [List.getElem?_toArray, HL1.out.2] at a1
    by_cases hin : i < np
    · as_aux_lemma =>
        have i1 : (i : Int) < np := by omega
        have b1' := cell_heap (o := 1) HB.out.2.1
        rw [List.getElem?_toArray, HL2.out.2.1] at b1'
        obtain ⟨-, b1, o1, x, cs, rfl, hbX, hx, ⟨nv, gv, rfl, hN, hG⟩, hcl, hr⟩ := (HPS.out wr HB.out).1.at hin
        obtain ⟨-, b2, o2, x2, cs2, rfl, hbY, hx2, ⟨nv2, gv2, rfl, hN2, hG2⟩, hcl2, hr2⟩ := (HPS.out wr HB.out).2.1.at hin
        rw [hx] at hx2
        injection hx2 with hx2
        subst hx2
        obtain ⟨np1, nc1, rfl⟩ := hN.form
        obtain ⟨gp1, gc1, rfl⟩ := hG.form
        obtain ⟨np2, nc2, rfl⟩ := hN2.form
        obtain ⟨gp2, gc2, rfl⟩ := hG2.form
        have bn : x.nodes.length ≤ 1000000000 := by have := HS.out.1.pn x (List.mem_of_getElem? hx); omega
        have bg : x.pages.length ≤ 1000000000 := by have := HS.out.1.pg x (List.mem_of_getElem? hx); omega
        obtain ⟨n1, hn1⟩ : ∃ n, n = x.nodes.length := ⟨_, rfl⟩
        obtain ⟨g1, hg1⟩ : ∃ n, n = x.pages.length := ⟨_, rfl⟩
        rw [← hn1] at hr hr2 bn
        rw [← hg1] at hr hr2 bg
        have HD : Hid (KS w g Z AL BL W4 wr.drew) := HB.out.step (Below.refl _ _).drew HZ.out.2.1 HZ.out.2.2
        have hbXw : b1 < wr.drew.heap.size := by have := (HPS.out wr HB.out).2.2; have := HB.out.2.2.2.2; show b1 < wr.heap.size; omega
        have hbYw : b2 < wr.drew.heap.size := by have := HB.out.2.2.2.2; show b2 < wr.heap.size; omega
        have r1 : wr.drew.rangeAt b1 (o1 + i * 70) (x.l (.slice np1 n1 nc1) (.slice gp1 g1 gc1)) := hr
        have r2 : wr.drew.rangeAt b2 (o2 + i * 70) (x.l (.slice np2 n1 nc2) (.slice gp2 g1 gc2)) := hr2
        have a1d : wr.drew.cell? ⟨w.heap.size, 1, .none⟩ = some (.slice (some ⟨b1, o1, .none⟩) np pc) := a1
        have b1d : wr.drew.cell? ⟨g, 1, .none⟩ = some (.slice (some ⟨b2, o2, .none⟩) np pc') := b1'
        clear hr hr2 hcl hcl2 hbX hbY hx hN hN2 hG hG2 hn1 hg1
        go_upto_region 7 with fail
        clear a1 b1' HB
        refine region_set (fun V => V.cell? ⟨w.heap.size, 1, .none⟩ = some (.slice (some ⟨b1, o1, .none⟩) np pc) ∧ V.cell? ⟨g, 1, .none⟩ = some (.slice (some ⟨b2, o2, .none⟩) np pc') ∧ V.rangeAt b1 (o1 + i * 70) (x.l (.slice np1 n1 nc1) (.slice gp1 g1 gc1)) ∧ V.rangeAt b2 (o2 + i * 70) (x.l (.slice np2 n1 nc2) (.slice gp2 g1 gc2))) 12 [0, 2, 6, 8] (by kernel_rfl) ?_
        generalize wr.drew = WD at *
        have hz1 : w.heap.size < WD.heap.size := by have := HZ.out.2.1; have := HD.out.2.2.2.2; omega
        have hz2 : g < WD.heap.size := by have := HZ.out.2.2; have := HD.out.2.2.2.2; omega
        have HK : Hid (∀ V, Below WD.heap.size WD V → V.cell? ⟨w.heap.size, 1, .none⟩ = some (.slice (some ⟨b1, o1, .none⟩) np pc) ∧ V.cell? ⟨g, 1, .none⟩ = some (.slice (some ⟨b2, o2, .none⟩) np pc') ∧ V.rangeAt b1 (o1 + i * 70) (x.l (.slice np1 n1 nc1) (.slice gp1 g1 gc1)) ∧ V.rangeAt b2 (o2 + i * 70) (x.l (.slice np2 n1 nc2) (.slice gp2 g1 gc2))) := fun V hV => ⟨(hV.cell (p := ⟨w.heap.size, 1, .none⟩) hz1).trans a1d, (hV.cell (p := ⟨g, 1, .none⟩) hz2).trans b1d, range_keep r1 hV hbXw, range_keep r2 hV hbYw⟩
        have hS : (fun V : World => V.cell? ⟨w.heap.size, 1, .none⟩ = some (.slice (some ⟨b1, o1, .none⟩) np pc) ∧ V.cell? ⟨g, 1, .none⟩ = some (.slice (some ⟨b2, o2, .none⟩) np pc') ∧ V.rangeAt b1 (o1 + i * 70) (x.l (.slice np1 n1 nc1) (.slice gp1 g1 gc1)) ∧ V.rangeAt b2 (o2 + i * 70) (x.l (.slice np2 n1 nc2) (.slice gp2 g1 gc2))) WD := ⟨a1d, b1d, r1, r2⟩
        clear a1d b1d r1 r2 hbXw hbYw hz1 hz2
        refine set_pure (i := 0) (v := .pointer (some ⟨g, 1, .none⟩)) rfl (by kernel_rfl) (by kernel_rfl) (by kernel_rfl) (by kernel_rfl) (fun _ _ _ h => h) (Or.inl ⟨by rfl, fun ww hSw => by go_simp⟩) ?_
        simp only [Act.put, List.setIfInBounds_toArray, List.set_cons_zero, List.set_cons_succ, List.getElem_toArray, List.getElem_cons_succ, List.getElem_cons_zero]
        refine set_pure (i := 2) (v := .int .i64 i) rfl (by kernel_rfl) (by kernel_rfl) (by kernel_rfl) (by kernel_rfl) (fun _ _ _ h => h) (Or.inl ⟨by rfl, fun ww hSw => by go_simp⟩) ?_
        simp only [Act.put, List.setIfInBounds_toArray, List.set_cons_zero, List.set_cons_succ, List.getElem_toArray, List.getElem_cons_succ, List.getElem_cons_zero]
        refine set_pure (i := 6) (v := .pointer (some ⟨w.heap.size, 1, .none⟩)) rfl (by kernel_rfl) (by kernel_rfl) (by kernel_rfl) (by kernel_rfl) (fun _ _ _ h => h) (Or.inl ⟨by rfl, fun ww hSw => by go_simp⟩) ?_
        simp only [Act.put, List.setIfInBounds_toArray, List.set_cons_zero, List.set_cons_succ, List.getElem_toArray, List.getElem_cons_succ, List.getElem_cons_zero]
        refine set_pure (i := 8) (v := .int .i64 i) rfl (by kernel_rfl) (by kernel_rfl) (by kernel_rfl) (by kernel_rfl) (fun _ _ _ h => h) (Or.inl ⟨by rfl, fun ww hSw => by go_simp⟩) ?_
        simp only [Act.put, List.setIfInBounds_toArray, List.set_cons_zero, List.set_cons_succ, List.getElem_toArray, List.getElem_cons_succ, List.getElem_cons_zero]
        refine set_take (i := 1) (v := .slice (some ⟨b2, o2, .none⟩) np pc') rfl (by kernel_rfl) (by kernel_rfl) (by kernel_rfl) (by kernel_rfl) (fun _ _ _ h => h) (Or.inl ⟨by rfl, fun ww hSw => by obtain ⟨hs1, hs2, hs3, hs4⟩ := hSw; go_simp⟩) hS ?_
        simp only [Act.put, List.setIfInBounds_toArray, List.set_cons_zero, List.set_cons_succ, List.getElem_toArray, List.getElem_cons_succ, List.getElem_cons_zero]
        refine set_take (i := 3) (v := .pointer (some ⟨b2, o2 + i * 70, .none⟩)) rfl (by kernel_rfl) (by kernel_rfl) (by kernel_rfl) (by kernel_rfl) (fun _ _ _ h => h) (Or.inl ⟨by rfl, fun ww hSw => by obtain ⟨hs1, hs2, hs3, hs4⟩ := hSw; go_simp⟩) hS ?_
        simp only [Act.put, List.setIfInBounds_toArray, List.set_cons_zero, List.set_cons_succ, List.getElem_toArray, List.getElem_cons_succ, List.getElem_cons_zero]
        refine set_take (i := 4) (v := .agg ((x.l (.slice np2 n1 nc2) (.slice gp2 g1 gc2))).toArray) rfl (by kernel_rfl) (by kernel_rfl) (by kernel_rfl) (by kernel_rfl) (fun _ _ _ h => h) (yieldsIf_load_mid (by rfl) 55 (.tmp 36) rfl (b2) (o2 + i * 70) rfl ((x.l (.slice np2 n1 nc2) (.slice gp2 g1 gc2))) _ (fun ww hSw => hSw.2.2.2) Try.underlying55 rfl (by first | kernel_rfl | (rw [rfl]; kernel_rfl))) hS ?_
        simp only [Act.put, List.setIfInBounds_toArray, List.set_cons_zero, List.set_cons_succ, List.getElem_toArray, List.getElem_cons_succ, List.getElem_cons_zero]
        refine set_take (i := 7) (v := .slice (some ⟨b1, o1, .none⟩) np pc) rfl (by kernel_rfl) (by kernel_rfl) (by kernel_rfl) (by kernel_rfl) (fun _ _ _ h => h) (Or.inl ⟨by rfl, fun ww hSw => by obtain ⟨hs1, hs2, hs3, hs4⟩ := hSw; go_simp⟩) hS ?_
        simp only [Act.put, List.setIfInBounds_toArray, List.set_cons_zero, List.set_cons_succ, List.getElem_toArray, List.getElem_cons_succ, List.getElem_cons_zero]
        refine set_take (i := 9) (v := .pointer (some ⟨b1, o1 + i * 70, .none⟩)) rfl (by kernel_rfl) (by kernel_rfl) (by kernel_rfl) (by kernel_rfl) (fun _ _ _ h => h) (Or.inl ⟨by rfl, fun ww hSw => by obtain ⟨hs1, hs2, hs3, hs4⟩ := hSw; go_simp⟩) hS ?_
        simp only [Act.put, List.setIfInBounds_toArray, List.set_cons_zero, List.set_cons_succ, List.getElem_toArray, List.getElem_cons_succ, List.getElem_cons_zero]
        refine set_take (i := 10) (v := .agg ((x.l (.slice np1 n1 nc1) (.slice gp1 g1 gc1))).toArray) rfl (by kernel_rfl) (by kernel_rfl) (by kernel_rfl) (by kernel_rfl) (fun _ _ _ h => h) (yieldsIf_load_mid (by rfl) 55 (.tmp 42) rfl (b1) (o1 + i * 70) rfl ((x.l (.slice np1 n1 nc1) (.slice gp1 g1 gc1))) _ (fun ww hSw => hSw.2.2.1) Try.underlying55 rfl (by first | kernel_rfl | (rw [rfl]; kernel_rfl))) hS ?_
        simp only [Act.put, List.setIfInBounds_toArray, List.set_cons_zero, List.set_cons_succ, List.getElem_toArray, List.getElem_cons_succ, List.getElem_cons_zero]
        refine set_only (i := 5) (by kernel_rfl) rfl (by rfl) (fun K hK => ?_)
        go_simp
        go_at_call 16
        refine (worth_any x np2 gp2 n1 nc2 g1 gc2 bn bg _).mono ?_
        rintro e V1 ⟨rfl, q1⟩
        refine hK.out _ _ (fun _ => HK.out V1 q1) ?_
        clear hK K
        try simp only [Act.put, List.setIfInBounds_toArray, List.set_cons_zero, List.set_cons_succ, List.getElem_toArray, List.getElem_cons_succ, List.getElem_cons_zero]
        refine set_only (i := 11) (by kernel_rfl) rfl (by rfl) (fun K hK => ?_)
        go_simp
        go_at_call 20
        refine (rworth_any x np1 gp1 n1 nc1 g1 gc1 bn bg _).mono ?_
        rintro e V2 ⟨rfl, q2⟩
        have q3 : Below WD.heap.size WD V2 := q1.trans (q2.mono q1.size)
        refine hK.out _ _ (fun _ => HK.out V2 q3) ?_
        clear hK K
        try simp only [Act.put, List.setIfInBounds_toArray, List.set_cons_zero, List.set_cons_succ, List.getElem_toArray, List.getElem_cons_succ, List.getElem_cons_zero]
        refine set_tail 1 12 _ _ _ _ (by kernel_rfl) (by decide) ?_
        simp only [List.toList_toArray, List.drop_succ_cons, List.drop_zero]
        have HV : Hid (KS w g Z AL BL W4 V2) := HD.out.top q3 HZ.out.2.1 HZ.out.2.2
        clear q1 q2 q3 HK HD hS
        go_wp2
        exact ⟨⟨i + 1, by omega, by go_num, HV.out⟩, by simp [intOf]; omega⟩
    · have hnn : i = np := by omega
      subst i
      have g0 : ¬ (np : Int) < np := by omega
      clear hi hin
      have HB0 := HB
      have HO : Hid (Owns wr Z []) := Owns.nil _ _
      have r1 : wr.rangeAt w.heap.size 0 AL := range_heap HB.out.1
      go_wp2_with (first
        | (refine wpList_is (.load 33 (.tmp 3)) rfl ?_; refine wpList_loadG 33 10 176 info33 _ Try.underlying33 rfl AL HL1.out.1 w.heap.size 0 (.tmp 3) rfl rfl rfl r1 (some 46) rfl ?_)
        | fail)
      clear r1
      go_at_call 21
      refine (HRC.out _ HB.out).mono ?_
      rintro e V1 ⟨u0, rfl, o1, b1⟩
      obtain ⟨qu0, cu0, rfl⟩ := own_form o1
      have HB1 : Hid (KS w g Z AL BL W4 V1) := HB.out.top b1 HZ.out.2.1 HZ.out.2.2
      have HO1 : Hid (Owns V1 Z [rowK (kids s L.procs) (.slice qu0 (kids s L.procs).length cu0)]) := HO.out.push b1 (r := rowK (kids s L.procs) (.slice qu0 (kids s L.procs).length cu0)) o1 HB.out.2.2.2.2
      clear HB HO b1
      clear o1
      have r1 : V1.rangeAt w.heap.size 0 AL := range_heap HB1.out.1
      go_wp2_with (first
        | (refine wpList_is (.load 33 (.tmp 3)) rfl ?_; refine wpList_loadG 33 10 176 info33 _ Try.underlying33 rfl AL HL1.out.1 w.heap.size 0 (.tmp 3) rfl rfl rfl r1 (some 49) rfl ?_)
        | fail)
      clear r1
      go_at_call 22
      refine (HRR.out 18 _ HB1.out).mono ?_
      rintro e V2 ⟨u1, rfl, o2, b2⟩
      obtain ⟨qu1, cu1, rfl⟩ := own_form o2
      have HB2 : Hid (KS w g Z AL BL W4 V2) := HB1.out.top b2 HZ.out.2.1 HZ.out.2.2
      have HO2 : Hid (Owns V2 Z [rowN (rcL s 18 L.procs) (.slice qu1 (rcL s 18 L.procs).length cu1), rowK (kids s L.procs) (.slice qu0 (kids s L.procs).length cu0)]) := HO1.out.push b2 (r := rowN (rcL s 18 L.procs) (.slice qu1 (rcL s 18 L.procs).length cu1)) o2 HB1.out.2.2.2.2
      clear HB1 HO1 b2
      clear o2
      have r1 : V2.rangeAt w.heap.size 0 AL := range_heap HB2.out.1
      go_wp2_with (first
        | (refine wpList_is (.load 33 (.tmp 3)) rfl ?_; refine wpList_loadG 33 10 176 info33 _ Try.underlying33 rfl AL HL1.out.1 w.heap.size 0 (.tmp 3) rfl rfl rfl r1 (some 52) rfl ?_)
        | fail)
      clear r1
      go_at_call 22
      refine (HRR.out 20 _ HB2.out).mono ?_
      rintro e V3 ⟨u2, rfl, o3, b3⟩
      obtain ⟨qu2, cu2, rfl⟩ := own_form o3
      have HB3 : Hid (KS w g Z AL BL W4 V3) := HB2.out.top b3 HZ.out.2.1 HZ.out.2.2
      have HO3 : Hid (Owns V3 Z [rowN (rcL s 20 L.procs) (.slice qu2 (rcL s 20 L.procs).length cu2), rowN (rcL s 18 L.procs) (.slice qu1 (rcL s 18 L.procs).length cu1), rowK (kids s L.procs) (.slice qu0 (kids s L.procs).length cu0)]) := HO2.out.push b3 (r := rowN (rcL s 20 L.procs) (.slice qu2 (rcL s 20 L.procs).length cu2)) o3 HB2.out.2.2.2.2
      clear HB2 HO2 b3
      clear o3
      have r1 : V3.rangeAt w.heap.size 0 AL := range_heap HB3.out.1
      go_wp2_with (first
        | (refine wpList_is (.load 33 (.tmp 3)) rfl ?_; refine wpList_loadG 33 10 176 info33 _ Try.underlying33 rfl AL HL1.out.1 w.heap.size 0 (.tmp 3) rfl rfl rfl r1 (some 55) rfl ?_)
        | fail)
      clear r1
      go_at_call 22
      refine (HRR.out 24 _ HB3.out).mono ?_
      rintro e V4 ⟨u3, rfl, o4, b4⟩
      obtain ⟨qu3, cu3, rfl⟩ := own_form o4
      have HB4 : Hid (KS w g Z AL BL W4 V4) := HB3.out.top b4 HZ.out.2.1 HZ.out.2.2
      have HO4 : Hid (Owns V4 Z [rowN (rcL s 24 L.procs) (.slice qu3 (rcL s 24 L.procs).length cu3), rowN (rcL s 20 L.procs) (.slice qu2 (rcL s 20 L.procs).length cu2), rowN (rcL s 18 L.procs) (.slice qu1 (rcL s 18 L.procs).length cu1), rowK (kids s L.procs) (.slice qu0 (kids s L.procs).length cu0)]) := HO3.out.push b4 (r := rowN (rcL s 24 L.procs) (.slice qu3 (rcL s 24 L.procs).length cu3)) o4 HB3.out.2.2.2.2
      clear HB3 HO3 b4
      clear o4
      have r2 : V4.rangeAt g 0 BL := range_heap HB4.out.2.1
      go_wp2_with (first
        | (refine wpList_is (.load 33 (.tmp 7)) rfl ?_; refine wpList_loadG 33 10 176 info33 _ Try.underlying33 rfl BL HL2.out.1 g 0 (.tmp 7) rfl rfl rfl r2 (some 59) rfl ?_)
        | fail)
      clear r2
      go_at_call 14
      refine (HCR.out _ HB4.out).mono ?_
      rintro e V5 ⟨a1, a2, a3, rfl, o5, b5⟩
      obtain ⟨qa1, ca1, ea1⟩ := own_form (o5.own (rowN (rcL s 18 L.procs) a1) (by simp))
      replace ea1 : a1 = .slice qa1 (rcL s 18 L.procs).length ca1 := ea1
      subst ea1
      obtain ⟨qa2, ca2, ea2⟩ := own_form (o5.own (rowN (rcL s 20 L.procs) a2) (by simp))
      replace ea2 : a2 = .slice qa2 (rcL s 20 L.procs).length ca2 := ea2
      subst ea2
      obtain ⟨qa3, ca3, ea3⟩ := own_form (o5.own (rowN (rcL s 24 L.procs) a3) (by simp))
      replace ea3 : a3 = .slice qa3 (rcL s 24 L.procs).length ca3 := ea3
      subst ea3
      have HB5 : Hid (KS w g Z AL BL W4 V5) := HB4.out.top b5 HZ.out.2.1 HZ.out.2.2
      have HO5 : Hid (Owns V5 Z [rowN (rcL s 18 L.procs) (.slice qa1 (rcL s 18 L.procs).length ca1), rowN (rcL s 20 L.procs) (.slice qa2 (rcL s 20 L.procs).length ca2), rowN (rcL s 24 L.procs) (.slice qa3 (rcL s 24 L.procs).length ca3), rowN (rcL s 24 L.procs) (.slice qu3 (rcL s 24 L.procs).length cu3), rowN (rcL s 20 L.procs) (.slice qu2 (rcL s 20 L.procs).length cu2), rowN (rcL s 18 L.procs) (.slice qu1 (rcL s 18 L.procs).length cu1), rowK (kids s L.procs) (.slice qu0 (kids s L.procs).length cu0)]) := HO4.out.join b5 o5 HB4.out.2.2.2.2
      clear HB4 HO4 b5
      clear o5
      have r2 : V5.rangeAt g 0 BL := range_heap HB5.out.2.1
      go_wp2_with (first
        | (refine wpList_is (.load 33 (.tmp 7)) rfl ?_; refine wpList_loadG 33 10 176 info33 _ Try.underlying33 rfl BL HL2.out.1 g 0 (.tmp 7) rfl rfl rfl r2 (some 66) rfl ?_)
        | fail)
      clear r2
      go_at_call 14
      refine (HCR.out _ HB5.out).mono ?_
      rintro e V6 ⟨d1, d2, d3, rfl, o6, b6⟩
      obtain ⟨qd1, cd1, ed1⟩ := own_form (o6.own (rowN (rcL s 18 L.procs) d1) (by simp))
      replace ed1 : d1 = .slice qd1 (rcL s 18 L.procs).length cd1 := ed1
      subst ed1
      obtain ⟨qd2, cd2, ed2⟩ := own_form (o6.own (rowN (rcL s 20 L.procs) d2) (by simp))
      replace ed2 : d2 = .slice qd2 (rcL s 20 L.procs).length cd2 := ed2
      subst ed2
      obtain ⟨qd3, cd3, ed3⟩ := own_form (o6.own (rowN (rcL s 24 L.procs) d3) (by simp))
      replace ed3 : d3 = .slice qd3 (rcL s 24 L.procs).length cd3 := ed3
      subst ed3
      have HB6 : Hid (KS w g Z AL BL W4 V6) := HB5.out.top b6 HZ.out.2.1 HZ.out.2.2
      have HO6 : Hid (Owns V6 Z [rowN (rcL s 18 L.procs) (.slice qd1 (rcL s 18 L.procs).length cd1), rowN (rcL s 20 L.procs) (.slice qd2 (rcL s 20 L.procs).length cd2), rowN (rcL s 24 L.procs) (.slice qd3 (rcL s 24 L.procs).length cd3), rowN (rcL s 18 L.procs) (.slice qa1 (rcL s 18 L.procs).length ca1), rowN (rcL s 20 L.procs) (.slice qa2 (rcL s 20 L.procs).length ca2), rowN (rcL s 24 L.procs) (.slice qa3 (rcL s 24 L.procs).length ca3), rowN (rcL s 24 L.procs) (.slice qu3 (rcL s 24 L.procs).length cu3), rowN (rcL s 20 L.procs) (.slice qu2 (rcL s 20 L.procs).length cu2), rowN (rcL s 18 L.procs) (.slice qu1 (rcL s 18 L.procs).length cu1), rowK (kids s L.procs) (.slice qu0 (kids s L.procs).length cu0)]) := HO5.out.join b6 o6 HB5.out.2.2.2.2
      clear HB5 HO5 b6
      clear o6
      have r2 : V6.rangeAt g 0 BL := range_heap HB6.out.2.1
      go_wp2_with (first
        | (refine wpList_is (.load 33 (.tmp 7)) rfl ?_; refine wpList_loadG 33 10 176 info33 _ Try.underlying33 rfl BL HL2.out.1 g 0 (.tmp 7) rfl rfl rfl r2 (some 72) rfl ?_)
        | fail)
      clear r2
      go_at_call 23
      refine (HCC.out _ HB6.out).mono ?_
      rintro e V7 ⟨u4, rfl, o7, b7⟩
      obtain ⟨qu4, cu4, rfl⟩ := own_form o7
      have HB7 : Hid (KS w g Z AL BL W4 V7) := HB6.out.top b7 HZ.out.2.1 HZ.out.2.2
      have HO7 : Hid (Owns V7 Z [rowK (kids s L.procs) (.slice qu4 (kids s L.procs).length cu4), rowN (rcL s 18 L.procs) (.slice qd1 (rcL s 18 L.procs).length cd1), rowN (rcL s 20 L.procs) (.slice qd2 (rcL s 20 L.procs).length cd2), rowN (rcL s 24 L.procs) (.slice qd3 (rcL s 24 L.procs).length cd3), rowN (rcL s 18 L.procs) (.slice qa1 (rcL s 18 L.procs).length ca1), rowN (rcL s 20 L.procs) (.slice qa2 (rcL s 20 L.procs).length ca2), rowN (rcL s 24 L.procs) (.slice qa3 (rcL s 24 L.procs).length ca3), rowN (rcL s 24 L.procs) (.slice qu3 (rcL s 24 L.procs).length cu3), rowN (rcL s 20 L.procs) (.slice qu2 (rcL s 20 L.procs).length cu2), rowN (rcL s 18 L.procs) (.slice qu1 (rcL s 18 L.procs).length cu1), rowK (kids s L.procs) (.slice qu0 (kids s L.procs).length cu0)]) := HO6.out.push b7 (r := rowK (kids s L.procs) (.slice qu4 (kids s L.procs).length cu4)) o7 HB6.out.2.2.2.2
      clear HB6 HO6 b7
      clear o7
      have r2 : V7.rangeAt g 0 BL := range_heap HB7.out.2.1
      go_wp2_with (first
        | (refine wpList_is (.load 33 (.tmp 7)) rfl ?_; refine wpList_loadG 33 10 176 info33 _ Try.underlying33 rfl BL HL2.out.1 g 0 (.tmp 7) rfl rfl rfl r2 (some 75) rfl ?_)
        | fail)
      clear r2
      go_at_call 23
      refine (HCC.out _ HB7.out).mono ?_
      rintro e V8 ⟨u5, rfl, o8, b8⟩
      obtain ⟨qu5, cu5, rfl⟩ := own_form o8
      have HB8 : Hid (KS w g Z AL BL W4 V8) := HB7.out.top b8 HZ.out.2.1 HZ.out.2.2
      have HO8 : Hid (Owns V8 Z [rowK (kids s L.procs) (.slice qu5 (kids s L.procs).length cu5), rowK (kids s L.procs) (.slice qu4 (kids s L.procs).length cu4), rowN (rcL s 18 L.procs) (.slice qd1 (rcL s 18 L.procs).length cd1), rowN (rcL s 20 L.procs) (.slice qd2 (rcL s 20 L.procs).length cd2), rowN (rcL s 24 L.procs) (.slice qd3 (rcL s 24 L.procs).length cd3), rowN (rcL s 18 L.procs) (.slice qa1 (rcL s 18 L.procs).length ca1), rowN (rcL s 20 L.procs) (.slice qa2 (rcL s 20 L.procs).length ca2), rowN (rcL s 24 L.procs) (.slice qa3 (rcL s 24 L.procs).length ca3), rowN (rcL s 24 L.procs) (.slice qu3 (rcL s 24 L.procs).length cu3), rowN (rcL s 20 L.procs) (.slice qu2 (rcL s 20 L.procs).length cu2), rowN (rcL s 18 L.procs) (.slice qu1 (rcL s 18 L.procs).length cu1), rowK (kids s L.procs) (.slice qu0 (kids s L.procs).length cu0)]) := HO7.out.push b8 (r := rowK (kids s L.procs) (.slice qu5 (kids s L.procs).length cu5)) o8 HB7.out.2.2.2.2
      clear HB7 HO7 b8
      clear o8
      go_wp2_with fail
      go_at_call 9
      refine (nodes_any p hp0 hp1 _).mono ?_
      rintro e V9 ⟨rfl, hw9⟩
      subst hw9
      go_wp2_with fail
      go_at_call 24
      refine (rnodes_any p hp0 hp1 _).mono ?_
      rintro e V10 ⟨rfl, hw10⟩
      subst hw10
      go_wp2_with fail
      go_at_call 25
      refine (sameInts_eq (Sl.ofI (HO8.out.own (rowK (kids s L.procs) (.slice qu4 (kids s L.procs).length cu4)) (by simp))) (Sl.ofI (HO8.out.own (rowK (kids s L.procs) (.slice qu0 (kids s L.procs).length cu0)) (by simp))) (by have := HLN.out.1; omega)).mono ?_
      rintro e V11 ⟨rfl, b11⟩
      have HB11 : Hid (KS w g Z AL BL W4 V11) := HB8.out.top b11 HZ.out.2.1 HZ.out.2.2
      have HO11 : Hid (Owns V11 Z [rowK (kids s L.procs) (.slice qu5 (kids s L.procs).length cu5), rowK (kids s L.procs) (.slice qu4 (kids s L.procs).length cu4), rowN (rcL s 18 L.procs) (.slice qd1 (rcL s 18 L.procs).length cd1), rowN (rcL s 20 L.procs) (.slice qd2 (rcL s 20 L.procs).length cd2), rowN (rcL s 24 L.procs) (.slice qd3 (rcL s 24 L.procs).length cd3), rowN (rcL s 18 L.procs) (.slice qa1 (rcL s 18 L.procs).length ca1), rowN (rcL s 20 L.procs) (.slice qa2 (rcL s 20 L.procs).length ca2), rowN (rcL s 24 L.procs) (.slice qa3 (rcL s 24 L.procs).length ca3), rowN (rcL s 24 L.procs) (.slice qu3 (rcL s 24 L.procs).length cu3), rowN (rcL s 20 L.procs) (.slice qu2 (rcL s 20 L.procs).length cu2), rowN (rcL s 18 L.procs) (.slice qu1 (rcL s 18 L.procs).length cu1), rowK (kids s L.procs) (.slice qu0 (kids s L.procs).length cu0)]) := HO8.out.keep b11
      clear HB8 HO8 b11
      go_wp2_with fail
      go_at_call 25
      refine (sameInts_eq (Sl.ofI (HO11.out.own (rowK (kids s L.procs) (.slice qu5 (kids s L.procs).length cu5)) (by simp))) (Sl.ofI (HO11.out.own (rowK (kids s L.procs) (.slice qu0 (kids s L.procs).length cu0)) (by simp))) (by have := HLN.out.1; omega)).mono ?_
      rintro e V12 ⟨rfl, b12⟩
      have HB12 : Hid (KS w g Z AL BL W4 V12) := HB11.out.top b12 HZ.out.2.1 HZ.out.2.2
      have HO12 : Hid (Owns V12 Z [rowK (kids s L.procs) (.slice qu5 (kids s L.procs).length cu5), rowK (kids s L.procs) (.slice qu4 (kids s L.procs).length cu4), rowN (rcL s 18 L.procs) (.slice qd1 (rcL s 18 L.procs).length cd1), rowN (rcL s 20 L.procs) (.slice qd2 (rcL s 20 L.procs).length cd2), rowN (rcL s 24 L.procs) (.slice qd3 (rcL s 24 L.procs).length cd3), rowN (rcL s 18 L.procs) (.slice qa1 (rcL s 18 L.procs).length ca1), rowN (rcL s 20 L.procs) (.slice qa2 (rcL s 20 L.procs).length ca2), rowN (rcL s 24 L.procs) (.slice qa3 (rcL s 24 L.procs).length ca3), rowN (rcL s 24 L.procs) (.slice qu3 (rcL s 24 L.procs).length cu3), rowN (rcL s 20 L.procs) (.slice qu2 (rcL s 20 L.procs).length cu2), rowN (rcL s 18 L.procs) (.slice qu1 (rcL s 18 L.procs).length cu1), rowK (kids s L.procs) (.slice qu0 (kids s L.procs).length cu0)]) := HO11.out.keep b12
      clear HB11 HO11 b12
      have r1 : V12.rangeAt w.heap.size 0 AL := range_heap HB12.out.1
      have r2 : V12.rangeAt g 0 BL := range_heap HB12.out.2.1
      go_wp2_with (first
        | (refine wpList_is (.load 33 (.tmp 7)) rfl ?_; refine wpList_loadW 33 _ Try.underlying33 rfl BL (by rw [HL2.out.1]; kernel_rfl) g 0 (.tmp 7) rfl rfl rfl r2 (some 96) rfl ?_)
        | (refine wpList_is (.load 33 (.tmp 3)) rfl ?_; refine wpList_loadW 33 _ Try.underlying33 rfl AL (by rw [HL1.out.1]; kernel_rfl) w.heap.size 0 (.tmp 3) rfl rfl rfl r1 (some 97) rfl ?_)
        | fail)
      clear r1 r2
      go_at_call 19
      refine (HSM.out _ HB12.out).mono ?_
      rintro e V13 ⟨rfl, b13⟩
      have HB13 : Hid (KS w g Z AL BL W4 V13) := HB12.out.top b13 HZ.out.2.1 HZ.out.2.2
      have HO13 : Hid (Owns V13 Z [rowK (kids s L.procs) (.slice qu5 (kids s L.procs).length cu5), rowK (kids s L.procs) (.slice qu4 (kids s L.procs).length cu4), rowN (rcL s 18 L.procs) (.slice qd1 (rcL s 18 L.procs).length cd1), rowN (rcL s 20 L.procs) (.slice qd2 (rcL s 20 L.procs).length cd2), rowN (rcL s 24 L.procs) (.slice qd3 (rcL s 24 L.procs).length cd3), rowN (rcL s 18 L.procs) (.slice qa1 (rcL s 18 L.procs).length ca1), rowN (rcL s 20 L.procs) (.slice qa2 (rcL s 20 L.procs).length ca2), rowN (rcL s 24 L.procs) (.slice qa3 (rcL s 24 L.procs).length ca3), rowN (rcL s 24 L.procs) (.slice qu3 (rcL s 24 L.procs).length cu3), rowN (rcL s 20 L.procs) (.slice qu2 (rcL s 20 L.procs).length cu2), rowN (rcL s 18 L.procs) (.slice qu1 (rcL s 18 L.procs).length cu1), rowK (kids s L.procs) (.slice qu0 (kids s L.procs).length cu0)]) := HO12.out.keep b13
      clear HB12 HO12 b13
      go_wp2_with fail
      go_at_call 26
      refine (sameWords_eq (Sl.ofI (HO13.out.own (rowN (rcL s 18 L.procs) (.slice qa1 (rcL s 18 L.procs).length ca1)) (by simp))) (Sl.ofI (HO13.out.own (rowN (rcL s 18 L.procs) (.slice qu1 (rcL s 18 L.procs).length cu1)) (by simp))) (by have := HLN.out.2 18; omega)).mono ?_
      rintro e V14 ⟨rfl, b14⟩
      have HB14 : Hid (KS w g Z AL BL W4 V14) := HB13.out.top b14 HZ.out.2.1 HZ.out.2.2
      have HO14 : Hid (Owns V14 Z [rowK (kids s L.procs) (.slice qu5 (kids s L.procs).length cu5), rowK (kids s L.procs) (.slice qu4 (kids s L.procs).length cu4), rowN (rcL s 18 L.procs) (.slice qd1 (rcL s 18 L.procs).length cd1), rowN (rcL s 20 L.procs) (.slice qd2 (rcL s 20 L.procs).length cd2), rowN (rcL s 24 L.procs) (.slice qd3 (rcL s 24 L.procs).length cd3), rowN (rcL s 18 L.procs) (.slice qa1 (rcL s 18 L.procs).length ca1), rowN (rcL s 20 L.procs) (.slice qa2 (rcL s 20 L.procs).length ca2), rowN (rcL s 24 L.procs) (.slice qa3 (rcL s 24 L.procs).length ca3), rowN (rcL s 24 L.procs) (.slice qu3 (rcL s 24 L.procs).length cu3), rowN (rcL s 20 L.procs) (.slice qu2 (rcL s 20 L.procs).length cu2), rowN (rcL s 18 L.procs) (.slice qu1 (rcL s 18 L.procs).length cu1), rowK (kids s L.procs) (.slice qu0 (kids s L.procs).length cu0)]) := HO13.out.keep b14
      clear HB13 HO13 b14
      go_wp2_with fail
      go_at_call 26
      refine (sameWords_eq (Sl.ofI (HO14.out.own (rowN (rcL s 20 L.procs) (.slice qa2 (rcL s 20 L.procs).length ca2)) (by simp))) (Sl.ofI (HO14.out.own (rowN (rcL s 20 L.procs) (.slice qu2 (rcL s 20 L.procs).length cu2)) (by simp))) (by have := HLN.out.2 20; omega)).mono ?_
      rintro e V15 ⟨rfl, b15⟩
      have HB15 : Hid (KS w g Z AL BL W4 V15) := HB14.out.top b15 HZ.out.2.1 HZ.out.2.2
      have HO15 : Hid (Owns V15 Z [rowK (kids s L.procs) (.slice qu5 (kids s L.procs).length cu5), rowK (kids s L.procs) (.slice qu4 (kids s L.procs).length cu4), rowN (rcL s 18 L.procs) (.slice qd1 (rcL s 18 L.procs).length cd1), rowN (rcL s 20 L.procs) (.slice qd2 (rcL s 20 L.procs).length cd2), rowN (rcL s 24 L.procs) (.slice qd3 (rcL s 24 L.procs).length cd3), rowN (rcL s 18 L.procs) (.slice qa1 (rcL s 18 L.procs).length ca1), rowN (rcL s 20 L.procs) (.slice qa2 (rcL s 20 L.procs).length ca2), rowN (rcL s 24 L.procs) (.slice qa3 (rcL s 24 L.procs).length ca3), rowN (rcL s 24 L.procs) (.slice qu3 (rcL s 24 L.procs).length cu3), rowN (rcL s 20 L.procs) (.slice qu2 (rcL s 20 L.procs).length cu2), rowN (rcL s 18 L.procs) (.slice qu1 (rcL s 18 L.procs).length cu1), rowK (kids s L.procs) (.slice qu0 (kids s L.procs).length cu0)]) := HO14.out.keep b15
      clear HB14 HO14 b15
      go_wp2_with fail
      go_at_call 26
      refine (sameWords_eq (Sl.ofI (HO15.out.own (rowN (rcL s 24 L.procs) (.slice qa3 (rcL s 24 L.procs).length ca3)) (by simp))) (Sl.ofI (HO15.out.own (rowN (rcL s 24 L.procs) (.slice qu3 (rcL s 24 L.procs).length cu3)) (by simp))) (by have := HLN.out.2 24; omega)).mono ?_
      rintro e V16 ⟨rfl, b16⟩
      have HB16 : Hid (KS w g Z AL BL W4 V16) := HB15.out.top b16 HZ.out.2.1 HZ.out.2.2
      have HO16 : Hid (Owns V16 Z [rowK (kids s L.procs) (.slice qu5 (kids s L.procs).length cu5), rowK (kids s L.procs) (.slice qu4 (kids s L.procs).length cu4), rowN (rcL s 18 L.procs) (.slice qd1 (rcL s 18 L.procs).length cd1), rowN (rcL s 20 L.procs) (.slice qd2 (rcL s 20 L.procs).length cd2), rowN (rcL s 24 L.procs) (.slice qd3 (rcL s 24 L.procs).length cd3), rowN (rcL s 18 L.procs) (.slice qa1 (rcL s 18 L.procs).length ca1), rowN (rcL s 20 L.procs) (.slice qa2 (rcL s 20 L.procs).length ca2), rowN (rcL s 24 L.procs) (.slice qa3 (rcL s 24 L.procs).length ca3), rowN (rcL s 24 L.procs) (.slice qu3 (rcL s 24 L.procs).length cu3), rowN (rcL s 20 L.procs) (.slice qu2 (rcL s 20 L.procs).length cu2), rowN (rcL s 18 L.procs) (.slice qu1 (rcL s 18 L.procs).length cu1), rowK (kids s L.procs) (.slice qu0 (kids s L.procs).length cu0)]) := HO15.out.keep b16
      clear HB15 HO15 b16
      go_wp2_with fail
      go_at_call 26
      refine (sameWords_eq (Sl.ofI (HO16.out.own (rowN (rcL s 18 L.procs) (.slice qd1 (rcL s 18 L.procs).length cd1)) (by simp))) (Sl.ofI (HO16.out.own (rowN (rcL s 18 L.procs) (.slice qu1 (rcL s 18 L.procs).length cu1)) (by simp))) (by have := HLN.out.2 18; omega)).mono ?_
      rintro e V17 ⟨rfl, b17⟩
      have HB17 : Hid (KS w g Z AL BL W4 V17) := HB16.out.top b17 HZ.out.2.1 HZ.out.2.2
      have HO17 : Hid (Owns V17 Z [rowK (kids s L.procs) (.slice qu5 (kids s L.procs).length cu5), rowK (kids s L.procs) (.slice qu4 (kids s L.procs).length cu4), rowN (rcL s 18 L.procs) (.slice qd1 (rcL s 18 L.procs).length cd1), rowN (rcL s 20 L.procs) (.slice qd2 (rcL s 20 L.procs).length cd2), rowN (rcL s 24 L.procs) (.slice qd3 (rcL s 24 L.procs).length cd3), rowN (rcL s 18 L.procs) (.slice qa1 (rcL s 18 L.procs).length ca1), rowN (rcL s 20 L.procs) (.slice qa2 (rcL s 20 L.procs).length ca2), rowN (rcL s 24 L.procs) (.slice qa3 (rcL s 24 L.procs).length ca3), rowN (rcL s 24 L.procs) (.slice qu3 (rcL s 24 L.procs).length cu3), rowN (rcL s 20 L.procs) (.slice qu2 (rcL s 20 L.procs).length cu2), rowN (rcL s 18 L.procs) (.slice qu1 (rcL s 18 L.procs).length cu1), rowK (kids s L.procs) (.slice qu0 (kids s L.procs).length cu0)]) := HO16.out.keep b17
      clear HB16 HO16 b17
      go_wp2_with fail
      go_at_call 26
      refine (sameWords_eq (Sl.ofI (HO17.out.own (rowN (rcL s 20 L.procs) (.slice qd2 (rcL s 20 L.procs).length cd2)) (by simp))) (Sl.ofI (HO17.out.own (rowN (rcL s 20 L.procs) (.slice qu2 (rcL s 20 L.procs).length cu2)) (by simp))) (by have := HLN.out.2 20; omega)).mono ?_
      rintro e V18 ⟨rfl, b18⟩
      have HB18 : Hid (KS w g Z AL BL W4 V18) := HB17.out.top b18 HZ.out.2.1 HZ.out.2.2
      have HO18 : Hid (Owns V18 Z [rowK (kids s L.procs) (.slice qu5 (kids s L.procs).length cu5), rowK (kids s L.procs) (.slice qu4 (kids s L.procs).length cu4), rowN (rcL s 18 L.procs) (.slice qd1 (rcL s 18 L.procs).length cd1), rowN (rcL s 20 L.procs) (.slice qd2 (rcL s 20 L.procs).length cd2), rowN (rcL s 24 L.procs) (.slice qd3 (rcL s 24 L.procs).length cd3), rowN (rcL s 18 L.procs) (.slice qa1 (rcL s 18 L.procs).length ca1), rowN (rcL s 20 L.procs) (.slice qa2 (rcL s 20 L.procs).length ca2), rowN (rcL s 24 L.procs) (.slice qa3 (rcL s 24 L.procs).length ca3), rowN (rcL s 24 L.procs) (.slice qu3 (rcL s 24 L.procs).length cu3), rowN (rcL s 20 L.procs) (.slice qu2 (rcL s 20 L.procs).length cu2), rowN (rcL s 18 L.procs) (.slice qu1 (rcL s 18 L.procs).length cu1), rowK (kids s L.procs) (.slice qu0 (kids s L.procs).length cu0)]) := HO17.out.keep b18
      clear HB17 HO17 b18
      go_wp2_with fail
      go_at_call 26
      refine (sameWords_eq (Sl.ofI (HO18.out.own (rowN (rcL s 24 L.procs) (.slice qd3 (rcL s 24 L.procs).length cd3)) (by simp))) (Sl.ofI (HO18.out.own (rowN (rcL s 24 L.procs) (.slice qu3 (rcL s 24 L.procs).length cu3)) (by simp))) (by have := HLN.out.2 24; omega)).mono ?_
      rintro e V19 ⟨rfl, b19⟩
      have HB19 : Hid (KS w g Z AL BL W4 V19) := HB18.out.top b19 HZ.out.2.1 HZ.out.2.2
      have HO19 : Hid (Owns V19 Z [rowK (kids s L.procs) (.slice qu5 (kids s L.procs).length cu5), rowK (kids s L.procs) (.slice qu4 (kids s L.procs).length cu4), rowN (rcL s 18 L.procs) (.slice qd1 (rcL s 18 L.procs).length cd1), rowN (rcL s 20 L.procs) (.slice qd2 (rcL s 20 L.procs).length cd2), rowN (rcL s 24 L.procs) (.slice qd3 (rcL s 24 L.procs).length cd3), rowN (rcL s 18 L.procs) (.slice qa1 (rcL s 18 L.procs).length ca1), rowN (rcL s 20 L.procs) (.slice qa2 (rcL s 20 L.procs).length ca2), rowN (rcL s 24 L.procs) (.slice qa3 (rcL s 24 L.procs).length ca3), rowN (rcL s 24 L.procs) (.slice qu3 (rcL s 24 L.procs).length cu3), rowN (rcL s 20 L.procs) (.slice qu2 (rcL s 20 L.procs).length cu2), rowN (rcL s 18 L.procs) (.slice qu1 (rcL s 18 L.procs).length cu1), rowK (kids s L.procs) (.slice qu0 (kids s L.procs).length cu0)]) := HO18.out.keep b19
      clear HB18 HO18 b19
      go_wp2_with fail
      have HP : Hid (Owns V19 Z ([rowN (rcL s 18 L.procs) (.slice qa1 (rcL s 18 L.procs).length ca1), rowN (rcL s 20 L.procs) (.slice qa2 (rcL s 20 L.procs).length ca2), rowN (rcL s 24 L.procs) (.slice qa3 (rcL s 24 L.procs).length ca3), rowN (rcL s 18 L.procs) (.slice qd1 (rcL s 18 L.procs).length cd1), rowN (rcL s 20 L.procs) (.slice qd2 (rcL s 20 L.procs).length cd2), rowN (rcL s 24 L.procs) (.slice qd3 (rcL s 24 L.procs).length cd3)] ++ [rowK (kids s L.procs) (.slice qu5 (kids s L.procs).length cu5), rowK (kids s L.procs) (.slice qu4 (kids s L.procs).length cu4), rowN (rcL s 24 L.procs) (.slice qu3 (rcL s 24 L.procs).length cu3), rowN (rcL s 20 L.procs) (.slice qu2 (rcL s 20 L.procs).length cu2), rowN (rcL s 18 L.procs) (.slice qu1 (rcL s 18 L.procs).length cu1), rowK (kids s L.procs) (.slice qu0 (kids s L.procs).length cu0)])) := HO19.out.perm (perm4 [rowK (kids s L.procs) (.slice qu5 (kids s L.procs).length cu5), rowK (kids s L.procs) (.slice qu4 (kids s L.procs).length cu4)] [rowN (rcL s 18 L.procs) (.slice qd1 (rcL s 18 L.procs).length cd1), rowN (rcL s 20 L.procs) (.slice qd2 (rcL s 20 L.procs).length cd2), rowN (rcL s 24 L.procs) (.slice qd3 (rcL s 24 L.procs).length cd3)] [rowN (rcL s 18 L.procs) (.slice qa1 (rcL s 18 L.procs).length ca1), rowN (rcL s 20 L.procs) (.slice qa2 (rcL s 20 L.procs).length ca2), rowN (rcL s 24 L.procs) (.slice qa3 (rcL s 24 L.procs).length ca3)] [rowN (rcL s 24 L.procs) (.slice qu3 (rcL s 24 L.procs).length cu3), rowN (rcL s 20 L.procs) (.slice qu2 (rcL s 20 L.procs).length cu2), rowN (rcL s 18 L.procs) (.slice qu1 (rcL s 18 L.procs).length cu1), rowK (kids s L.procs) (.slice qu0 (kids s L.procs).length cu0)])
      refine (freeW_list (Z := Z) (R := [rowN (rcL s 18 L.procs) (.slice qa1 (rcL s 18 L.procs).length ca1), rowN (rcL s 20 L.procs) (.slice qa2 (rcL s 20 L.procs).length ca2), rowN (rcL s 24 L.procs) (.slice qa3 (rcL s 24 L.procs).length ca3), rowN (rcL s 18 L.procs) (.slice qd1 (rcL s 18 L.procs).length cd1), rowN (rcL s 20 L.procs) (.slice qd2 (rcL s 20 L.procs).length cd2), rowN (rcL s 24 L.procs) (.slice qd3 (rcL s 24 L.procs).length cd3)]) (T := [rowK (kids s L.procs) (.slice qu5 (kids s L.procs).length cu5), rowK (kids s L.procs) (.slice qu4 (kids s L.procs).length cu4), rowN (rcL s 24 L.procs) (.slice qu3 (rcL s 24 L.procs).length cu3), rowN (rcL s 20 L.procs) (.slice qu2 (rcL s 20 L.procs).length cu2), rowN (rcL s 18 L.procs) (.slice qu1 (rcL s 18 L.procs).length cu1), rowK (kids s L.procs) (.slice qu0 (kids s L.procs).length cu0)]) (HP.out.alloc _) (by simp only [World.size_alloc]; have := HB19.out.2.2.2.2; omega) (by intro r hr; simp only [List.mem_cons, List.not_mem_nil, or_false] at hr; rcases hr with rfl | rfl | rfl | rfl | rfl | rfl <;> exact ⟨rfl, rfl⟩) (by intro r hr; have h0 := HLN.out.1; have h1 := HLN.out.2 18; have h2 := HLN.out.2 20; have h3 := HLN.out.2 24; simp only [List.mem_cons, List.not_mem_nil, or_false] at hr; rcases hr with rfl | rfl | rfl | rfl | rfl | rfl <;> (simp only [rowN, rowK]; omega)) (by simp) (by simp) (by intro r hr e; have := ((HP.out.own r (List.mem_append.2 (.inl hr))).lt _ e).2; omega) (cells_new rfl)).mono ?_
      rintro e V20 ⟨rfl, b20, o20⟩
      have HB20 : Hid (KS w g Z AL BL W4 V20) := HB19.out.step (((below1 V19 _).mono HB19.out.2.2.2.2).trans b20) HZ.out.2.1 HZ.out.2.2
      have HO20 : Hid (Owns V20 Z [rowK (kids s L.procs) (.slice qu5 (kids s L.procs).length cu5), rowK (kids s L.procs) (.slice qu4 (kids s L.procs).length cu4), rowN (rcL s 24 L.procs) (.slice qu3 (rcL s 24 L.procs).length cu3), rowN (rcL s 20 L.procs) (.slice qu2 (rcL s 20 L.procs).length cu2), rowN (rcL s 18 L.procs) (.slice qu1 (rcL s 18 L.procs).length cu1), rowK (kids s L.procs) (.slice qu0 (kids s L.procs).length cu0)]) := o20
      clear HB19 HO19 HP b20 o20
      go_wp2_with fail
      have HP : Hid (Owns V20 Z ([rowK (kids s L.procs) (.slice qu4 (kids s L.procs).length cu4), rowK (kids s L.procs) (.slice qu5 (kids s L.procs).length cu5)] ++ [rowN (rcL s 24 L.procs) (.slice qu3 (rcL s 24 L.procs).length cu3), rowN (rcL s 20 L.procs) (.slice qu2 (rcL s 20 L.procs).length cu2), rowN (rcL s 18 L.procs) (.slice qu1 (rcL s 18 L.procs).length cu1), rowK (kids s L.procs) (.slice qu0 (kids s L.procs).length cu0)])) := HO20.out.perm (List.Perm.swap _ _ _)
      refine (freeI_list (Z := Z) (R := [rowK (kids s L.procs) (.slice qu4 (kids s L.procs).length cu4), rowK (kids s L.procs) (.slice qu5 (kids s L.procs).length cu5)]) (T := [rowN (rcL s 24 L.procs) (.slice qu3 (rcL s 24 L.procs).length cu3), rowN (rcL s 20 L.procs) (.slice qu2 (rcL s 20 L.procs).length cu2), rowN (rcL s 18 L.procs) (.slice qu1 (rcL s 18 L.procs).length cu1), rowK (kids s L.procs) (.slice qu0 (kids s L.procs).length cu0)]) (HP.out.alloc _) (by simp only [World.size_alloc]; have := HB20.out.2.2.2.2; omega) (by intro r hr; simp only [List.mem_cons, List.not_mem_nil, or_false] at hr; rcases hr with rfl | rfl <;> exact ⟨rfl, rfl⟩) (by intro r hr; have h0 := HLN.out.1; have h1 := HLN.out.2 18; have h2 := HLN.out.2 20; have h3 := HLN.out.2 24; simp only [List.mem_cons, List.not_mem_nil, or_false] at hr; rcases hr with rfl | rfl <;> (simp only [rowN, rowK]; omega)) (by simp) (by simp) (by intro r hr e; have := ((HP.out.own r (List.mem_append.2 (.inl hr))).lt _ e).2; omega) (cells_new rfl)).mono ?_
      rintro e V21 ⟨rfl, b21, o21⟩
      have HB21 : Hid (KS w g Z AL BL W4 V21) := HB20.out.step (((below1 V20 _).mono HB20.out.2.2.2.2).trans b21) HZ.out.2.1 HZ.out.2.2
      have HO21 : Hid (Owns V21 Z [rowN (rcL s 24 L.procs) (.slice qu3 (rcL s 24 L.procs).length cu3), rowN (rcL s 20 L.procs) (.slice qu2 (rcL s 20 L.procs).length cu2), rowN (rcL s 18 L.procs) (.slice qu1 (rcL s 18 L.procs).length cu1), rowK (kids s L.procs) (.slice qu0 (kids s L.procs).length cu0)]) := o21
      clear HB20 HO20 HP b21 o21
      have r1 : V21.rangeAt w.heap.size 0 AL := range_heap HB21.out.1
      have r2 : V21.rangeAt g 0 BL := range_heap HB21.out.2.1
      go_wp2_with (first
        | (refine wpList_is (.load 33 (.tmp 7)) rfl ?_; refine wpList_loadW 33 _ Try.underlying33 rfl BL (by rw [HL2.out.1]; kernel_rfl) g 0 (.tmp 7) rfl rfl rfl r2 (some 150) rfl ?_)
        | (refine wpList_is (.load 33 (.tmp 3)) rfl ?_; refine wpList_loadW 33 _ Try.underlying33 rfl AL (by rw [HL1.out.1]; kernel_rfl) w.heap.size 0 (.tmp 3) rfl rfl rfl r1 (some 151) rfl ?_)
        | fail)
      clear r1 r2
      go_at_call 19
      refine (HSM.out _ HB21.out).mono ?_
      rintro e V22 ⟨rfl, b22⟩
      have HB22 : Hid (KS w g Z AL BL W4 V22) := HB21.out.top b22 HZ.out.2.1 HZ.out.2.2
      have HO22 : Hid (Owns V22 Z [rowN (rcL s 24 L.procs) (.slice qu3 (rcL s 24 L.procs).length cu3), rowN (rcL s 20 L.procs) (.slice qu2 (rcL s 20 L.procs).length cu2), rowN (rcL s 18 L.procs) (.slice qu1 (rcL s 18 L.procs).length cu1), rowK (kids s L.procs) (.slice qu0 (kids s L.procs).length cu0)]) := HO21.out.keep b22
      clear HB21 HO21 b22
      go_wp2
      go_ret
      exact ⟨rfl, HB22.out.2.2.2.1⟩
end Go.Proofs.Ythopgmmodldljaa
