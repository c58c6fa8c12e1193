import Derived.Test.YtloldhcljdmofaaDoorWq2
import Derived.Test.YtloldhcljdmofaaDoorVd
import Derived.Test.YtloldhcljdmofaaDoorRq1
namespace Go.Proofs.YtloldhcljdmofaaDoor
open Go.RowKit
set_option linter.unusedVariables false
set_option linter.unusedSimpArgs false
theorem next_lt (va e : Int) (h : va % 4096 = 0) (he : 0 ≤ e) : va < (e + 4095) / 4096 * 4096 ↔ va < e := by omega
/-- What the document's look at a program comes to. -/
def FmP (w : World) (en : Int) (S : Nat → Sr) (m : Nat) (e : Ending) (w' : World) : Prop := ∃ a r v, Vd en (sgsG S m) a r ∧ e = .returned v ∧ RefR w' v a r ∧ Below w.heap.size w w'
theorem fin_fault {V : World} {b n c : Nat} {p : Option Addr} {a r : Int} (h : RefR V (.agg #[.slice p n c, .int .i64 r]) a r) (k0 : V.cell? ⟨b, 0, .none⟩ = some (.slice .none 0 0)) (k1 : V.cell? ⟨b, 1, .none⟩ = some (.int .i64 0)) :
    RefR ((V.setCell ⟨b, 0, .none⟩ (.slice p n c)).setCell ⟨b, 1, .none⟩ (.int .i64 r)) (.agg #[.slice p n c, .int .i64 r]) a r ∧ ((V.setCell ⟨b, 0, .none⟩ (.slice p n c)).setCell ⟨b, 1, .none⟩ (.int .i64 r)).rangeAt b 0 [.slice p n c, .int .i64 r] := by
  constructor
  · rcases h with ⟨h0, B, hB, hv, c0, c1⟩ | h
    · have hne : B ≠ b := fun e => by rw [e, k0] at c0; cases c0
      refine .inl ⟨h0, B, by rw [World.size_setCell, World.size_setCell]; exact hB, hv, ?_, ?_⟩
      · rw [World.cell?_setCell_other _ _ _ _ (by simp [Ne.symm hne]), World.cell?_setCell_other _ _ _ _ (by simp [Ne.symm hne])]
        exact c0
      · rw [World.cell?_setCell_other _ _ _ _ (by simp [Ne.symm hne]), World.cell?_setCell_other _ _ _ _ (by simp [Ne.symm hne])]
        exact c1
    · exact .inr h
  · intro j v hj
    rw [Nat.zero_add]
    match j, hj with
    | 0, hj =>
      injection hj with hj
      subst hj
      exact (World.cell?_setCell_other _ _ _ _ (by simp)).trans (World.cell?_setCell_same' _ _ _ (by rw [k0]; rfl))
    | 1, hj =>
      injection hj with hj
      subst hj
      exact World.cell?_setCell_same' _ _ _ (by rw [World.cell?_setCell_other _ _ _ _ (by simp), k1]; rfl)
theorem sg_at {S : Nat → Sr} {m i : Nat} (h : i < m) : (sgsG S m)[i]? = some ⟨(S i).va, (S i).fl, (S i).mem, 64 + 56 * m + sumN S i, (S i).n⟩ := by
  obtain ⟨s, hs⟩ : ∃ s, (sgsG S m)[i]? = some s := ⟨(sgsG S m)[i]'(by rw [sgsG_len]; exact h), List.getElem?_eq_getElem _⟩
  rw [hs, (sgsG_get hs).2]
set_option maxHeartbeats 8000000 in
set_option maxRecDepth 100000 in
theorem formNo_any {w : World} {q : Option Addr} {m c : Nat} {S : Nat → Sr} {D : Nat → List Int} (h : Arg w q m c S D) (hz : ∀ i, i < m → (S i).n ≤ 400000) (en : Int) (he : 0 ≤ en ∧ en < 18446744073709551616) :
    Calls Tryd.prog 24 #[.agg #[.int .u64 en, .slice q m c]] w fun e w' => FmP w en S m e w' := by
  have HA : Hid (Arg w q m c S D) := h
  have HZ : Hid (∀ i, i < m → (S i).n ≤ 400000) := hz
  have hmc := h.mc
  clear h hz
  have s1 : (w.alloc (.cells #[.int .u64 en, .slice q m c] 25)).heap.size = w.heap.size + 1 := World.size_alloc ..
  have HB1 : Hid (Below w.heap.size w ((w.alloc (.cells #[.int .u64 en, .slice q m c] 25)).alloc (.cells #[.slice .none 0 0, .int .i64 0] 35))) := ((Below.refl _ _).alloc (Nat.le_refl _) _).alloc (by rw [s1]; omega) _
  have HQ0 : Hid (((w.alloc (.cells #[.int .u64 en, .slice q m c] 25)).alloc (.cells #[.slice .none 0 0, .int .i64 0] 35)).cell? ⟨w.heap.size, 0, .none⟩ = some (.int .u64 en)) := by
    show _ = _
    rw [World.cell?_alloc_past _ _ _ (by rw [s1]; show w.heap.size < _; omega), World.cell?_alloc_at _ _ _ _ rfl]
    rfl
  have HQ1 : Hid (((w.alloc (.cells #[.int .u64 en, .slice q m c] 25)).alloc (.cells #[.slice .none 0 0, .int .i64 0] 35)).cell? ⟨w.heap.size, 1, .none⟩ = some (.slice q m c)) := by
    show _ = _
    rw [World.cell?_alloc_past _ _ _ (by rw [s1]; show w.heap.size < _; omega), World.cell?_alloc_at _ _ _ _ rfl]
    rfl
  have HQ2 : Hid (((w.alloc (.cells #[.int .u64 en, .slice q m c] 25)).alloc (.cells #[.slice .none 0 0, .int .i64 0] 35)).cell? ⟨w.heap.size + 1, 0, .none⟩ = some (.slice .none 0 0)) := World.cell?_alloc_at _ _ _ _ s1.symm
  have HQ3 : Hid (((w.alloc (.cells #[.int .u64 en, .slice q m c] 25)).alloc (.cells #[.slice .none 0 0, .int .i64 0] 35)).cell? ⟨w.heap.size + 1, 1, .none⟩ = some (.int .i64 0)) := World.cell?_alloc_at _ _ _ _ s1.symm
  have HQ4 : Hid (∀ i, ((w.alloc (.cells #[.int .u64 en, .slice q m c] 25)).alloc (.cells #[.slice .none 0 0, .int .i64 0] 35)).frozen? ⟨w.heap.size + 1, i, .none⟩ = false) := fun i => by
    have := World.frozen?_alloc_new (w.alloc (.cells #[.int .u64 en, .slice q m c] 25)) #[.slice .none 0 0, .int .i64 0] 35 i
    rwa [s1] at this
  clear s1
  go_enter Tryd.func24, Tryd.ntmps24
  go_upto_region 1 with fail
  generalize ((w.alloc (.cells #[.int .u64 en, .slice q m c] 25)).alloc (.cells #[.slice .none 0 0, .int .i64 0] 35)) = W1 at *
  have q1 := HQ1.out
  by_cases hm : m = 0 ∨ 8 < m
  · have hmi : ((m : Int) = 0) ∨ (8 : Int) < m := by omega
    have hvd : Vd en (sgsG S m) 0 143 := .inl ⟨by rw [sgsG_len]; exact hm, rfl, rfl⟩
    have HVd0 : Hid (Vd en (sgsG S m) 0 143) := hvd
    clear hvd
    rcases hmi with hm0 | hm8
    ·
      have HVd : Hid (Vd en (sgsG S m) (0) 143) := HVd0.out
      go_wp2_with fail
      refine (no_any 143 (0) _).mono ?_
      rintro e5 V5 ⟨⟨v5, rfl, hL5⟩, hb5⟩
      have HB5 : Hid (Below W1.heap.size W1 V5) := (Below.refl W1.heap.size W1).trans (hb5.mono (Below.refl W1.heap.size W1).size)
      have HBw5 : Hid (Below w.heap.size w V5) := HB1.out.trans (HB5.out.mono HB1.out.size)
      have hR5 : RefR V5 v5 (0) 143 := .inl ⟨by decide, hL5⟩
      clear hb5 hL5
      obtain ⟨fp, fn, fc, hfv⟩ := hR5.form
      subst hfv
      have bx0 : V5.cell? ⟨w.heap.size + 1, 0, .none⟩ = some (.slice .none 0 0) := (HB5.out.cell (lt_of_cell HQ2.out)).trans HQ2.out
      have bx1 : V5.cell? ⟨w.heap.size + 1, 1, .none⟩ = some (.int .i64 0) := (HB5.out.cell (lt_of_cell HQ3.out)).trans HQ3.out
      have fx0 : V5.frozen? ⟨w.heap.size + 1, 0, .none⟩ = false := (HB5.out.frozen (p := ⟨w.heap.size + 1, 0, .none⟩) (lt_of_cell HQ2.out)).trans (HQ4.out 0)
      have fx1 : V5.frozen? ⟨w.heap.size + 1, 1, .none⟩ = false := (HB5.out.frozen (p := ⟨w.heap.size + 1, 1, .none⟩) (lt_of_cell HQ3.out)).trans (HQ4.out 1)
      have HFin : Hid (∀ VZ, VZ = ((V5.setCell ⟨w.heap.size + 1, 0, .none⟩ (.slice fp fn fc)).setCell ⟨w.heap.size + 1, 1, .none⟩ (.int .i64 143)) → FmP w en S m (.returned (.agg #[.slice fp fn fc, .int .i64 143])) VZ ∧ VZ.rangeAt (w.heap.size + 1) 0 [.slice fp fn fc, .int .i64 143]) := fun VZ hVZ => by
        subst hVZ
        obtain ⟨g1, g2⟩ := fin_fault hR5 bx0 bx1
        exact ⟨⟨_, _, _, HVd.out, rfl, g1, (HBw5.out.setCell (p := ⟨w.heap.size + 1, 0, .none⟩) (by show w.heap.size ≤ w.heap.size + 1; omega) _).setCell (p := ⟨w.heap.size + 1, 1, .none⟩) (by show w.heap.size ≤ w.heap.size + 1; omega) _⟩, g2⟩
      clear hR5
      dsimp only
      go_wp2_with fail
      have hfin := HFin.out _ rfl
      generalize ((V5.setCell ⟨w.heap.size + 1, 0, .none⟩ (.slice fp fn fc)).setCell ⟨w.heap.size + 1, 1, .none⟩ (.int .i64 143)) = VZ at *
      have hld := run_loadVar_mid (P := Tryd.prog) VZ (w.heap.size + 1) 0 35 _ _ hfin.2 Tryd.underlying35 rfl (by kernel_rfl)
      exact bodyPost_ret (v := .agg #[.slice fp fn fc, .int .i64 143]) (results_cell_any (p := 2) (ty := 35) rfl _ _ ⟨w.heap.size + 1, 0, .none⟩ _ rfl hld) rfl hfin.1
    · have hm0 : ¬ ((m : Int) = 0) := by omega
      have HVd : Hid (Vd en (sgsG S m) (0) 143) := HVd0.out
      go_wp2_with fail
      refine (no_any 143 (0) _).mono ?_
      rintro e5 V5 ⟨⟨v5, rfl, hL5⟩, hb5⟩
      have HB5 : Hid (Below W1.heap.size W1 V5) := (Below.refl W1.heap.size W1).trans (hb5.mono (Below.refl W1.heap.size W1).size)
      have HBw5 : Hid (Below w.heap.size w V5) := HB1.out.trans (HB5.out.mono HB1.out.size)
      have hR5 : RefR V5 v5 (0) 143 := .inl ⟨by decide, hL5⟩
      clear hb5 hL5
      obtain ⟨fp, fn, fc, hfv⟩ := hR5.form
      subst hfv
      have bx0 : V5.cell? ⟨w.heap.size + 1, 0, .none⟩ = some (.slice .none 0 0) := (HB5.out.cell (lt_of_cell HQ2.out)).trans HQ2.out
      have bx1 : V5.cell? ⟨w.heap.size + 1, 1, .none⟩ = some (.int .i64 0) := (HB5.out.cell (lt_of_cell HQ3.out)).trans HQ3.out
      have fx0 : V5.frozen? ⟨w.heap.size + 1, 0, .none⟩ = false := (HB5.out.frozen (p := ⟨w.heap.size + 1, 0, .none⟩) (lt_of_cell HQ2.out)).trans (HQ4.out 0)
      have fx1 : V5.frozen? ⟨w.heap.size + 1, 1, .none⟩ = false := (HB5.out.frozen (p := ⟨w.heap.size + 1, 1, .none⟩) (lt_of_cell HQ3.out)).trans (HQ4.out 1)
      have HFin : Hid (∀ VZ, VZ = ((V5.setCell ⟨w.heap.size + 1, 0, .none⟩ (.slice fp fn fc)).setCell ⟨w.heap.size + 1, 1, .none⟩ (.int .i64 143)) → FmP w en S m (.returned (.agg #[.slice fp fn fc, .int .i64 143])) VZ ∧ VZ.rangeAt (w.heap.size + 1) 0 [.slice fp fn fc, .int .i64 143]) := fun VZ hVZ => by
        subst hVZ
        obtain ⟨g1, g2⟩ := fin_fault hR5 bx0 bx1
        exact ⟨⟨_, _, _, HVd.out, rfl, g1, (HBw5.out.setCell (p := ⟨w.heap.size + 1, 0, .none⟩) (by show w.heap.size ≤ w.heap.size + 1; omega) _).setCell (p := ⟨w.heap.size + 1, 1, .none⟩) (by show w.heap.size ≤ w.heap.size + 1; omega) _⟩, g2⟩
      clear hR5
      dsimp only
      go_wp2_with fail
      have hfin := HFin.out _ rfl
      generalize ((V5.setCell ⟨w.heap.size + 1, 0, .none⟩ (.slice fp fn fc)).setCell ⟨w.heap.size + 1, 1, .none⟩ (.int .i64 143)) = VZ at *
      have hld := run_loadVar_mid (P := Tryd.prog) VZ (w.heap.size + 1) 0 35 _ _ hfin.2 Tryd.underlying35 rfl (by kernel_rfl)
      exact bodyPost_ret (v := .agg #[.slice fp fn fc, .int .i64 143]) (results_cell_any (p := 2) (ty := 35) rfl _ _ ⟨w.heap.size + 1, 0, .none⟩ _ rfl hld) rfl hfin.1
  have hm0 : ¬ ((m : Int) = 0) := by omega
  have hm8 : ¬ ((8 : Int) < m) := by omega
  have hmb : 0 < m ∧ m ≤ 8 := by omega
  clear hm
  go_upto_region 3 with fail
  go_wp2_with fail
  go_loopw [3] (fun a wr => ∃ i : Nat, i ≤ m ∧ a = .int .i64 i ∧ Hid (Gk (sgsG S m) i ∧ Below W1.heap.size W1 wr)) (fun a _ => (m - intOf a).toNat)
  case atStart => exact ⟨0, by omega, rfl, fun j x hj => by omega, Below.refl _ _⟩
  case round =>
    obtain ⟨i, hi, rfl, HR⟩ := hrel
    have d0 : wr.cell? ⟨w.heap.size, 0, .none⟩ = some (.int .u64 en) := (HR.out.2.cell (lt_of_cell HQ0.out)).trans HQ0.out
    have d1 : wr.cell? ⟨w.heap.size, 1, .none⟩ = some (.slice q m c) := (HR.out.2.cell (lt_of_cell HQ1.out)).trans HQ1.out
    have HBw : Hid (Below w.heap.size w wr) := HB1.out.trans (HR.out.2.mono HB1.out.size)
    by_cases hlt : i < m
    · have g0 : (i : Int) < m := by omega
      obtain ⟨b, o, rfl, a0, a1, a2, a3⟩ := (HA.out.below HBw.out).seg hlt
      have hv := HA.out.va i hlt
      have hf := HA.out.fl i hlt
      have hmm := HA.out.mem i hlt
      have hn := HZ.out i hlt
      have hdm := (HA.out.dat i hlt).2.1
      have hdm2 : (S i).c ≤ 9223372036854775807 := (HA.out.dat i hlt).2.2.1
      have HV1 : Hid (Below wr.heap.size wr (wr.alloc (.cells #[.int .u64 (S i).va, .int .u32 (S i).fl, .slice (S i).q (S i).n (S i).c, .int .u64 (S i).mem] 54))) := (Below.refl _ _).alloc (Nat.le_refl _) _
      have HC1 : Hid (C4 (wr.alloc (.cells #[.int .u64 (S i).va, .int .u32 (S i).fl, .slice (S i).q (S i).n (S i).c, .int .u64 (S i).mem] 54)) wr.heap.size (.int .u64 (S i).va) (.int .u32 (S i).fl) (.slice (S i).q (S i).n (S i).c) (.int .u64 (S i).mem)) := C4.new _ _ _ _ _ _
      go_upto_region 7 with fail
      clear a0 a1 a2 a3
      generalize (wr.alloc (.cells #[.int .u64 (S i).va, .int .u32 (S i).fl, .slice (S i).q (S i).n (S i).c, .int .u64 (S i).mem] 54)) = V1 at *
      have k0 := HC1.out.a
      have k1 := HC1.out.b
      have k2 := HC1.out.c
      have k3 := HC1.out.d
      have HBV : Hid (Below W1.heap.size W1 V1) := HR.out.2.trans (HV1.out.mono HR.out.2.size)
      have HBwV : Hid (Below w.heap.size w V1) := HB1.out.trans (HBV.out.mono HB1.out.size)
      have c46 := one_any (S i).va (S i).fl (S i).n (S i).mem V1 hv hf ⟨by omega, by omega⟩ hmm
      have HSG : Hid ((sgsG S m)[i]? = some ⟨(S i).va, (S i).fl, (S i).mem, 64 + 56 * m + sumN S i, (S i).n⟩) := sg_at hlt
      cases hok : ok1 (S i).va (S i).fl (S i).n (S i).mem with
      | false =>
        rw [hok] at c46
        have HVd0 : Hid (Vd en (sgsG S m) (1 + (i : Int)) 144) := .inr ⟨by rw [sgsG_len]; exact hmb.1, by rw [sgsG_len]; exact hmb.2, .inl ⟨i, _, HSG.out, HR.out.1, .inl ⟨hok, rfl, rfl⟩⟩⟩
        clear hok
        go_upto_region 8 with (go_at_call 46; refine c46.mono ?_; rintro _ V2 ⟨rfl, hV2⟩; rw [hV2]; clear hV2 V2)
        have HVd : Hid (Vd en (sgsG S m) (1 + (i : Int)) 144) := HVd0.out
        go_wp2_with fail
        refine (no_any 144 (1 + (i : Int)) _).mono ?_
        rintro e5 V5 ⟨⟨v5, rfl, hL5⟩, hb5⟩
        have HB5 : Hid (Below W1.heap.size W1 V5) := HBV.out.trans (hb5.mono HBV.out.size)
        have HBw5 : Hid (Below w.heap.size w V5) := HB1.out.trans (HB5.out.mono HB1.out.size)
        have hR5 : RefR V5 v5 (1 + (i : Int)) 144 := .inl ⟨by decide, hL5⟩
        clear hb5 hL5
        obtain ⟨fp, fn, fc, hfv⟩ := hR5.form
        subst hfv
        have bx0 : V5.cell? ⟨w.heap.size + 1, 0, .none⟩ = some (.slice .none 0 0) := (HB5.out.cell (lt_of_cell HQ2.out)).trans HQ2.out
        have bx1 : V5.cell? ⟨w.heap.size + 1, 1, .none⟩ = some (.int .i64 0) := (HB5.out.cell (lt_of_cell HQ3.out)).trans HQ3.out
        have fx0 : V5.frozen? ⟨w.heap.size + 1, 0, .none⟩ = false := (HB5.out.frozen (p := ⟨w.heap.size + 1, 0, .none⟩) (lt_of_cell HQ2.out)).trans (HQ4.out 0)
        have fx1 : V5.frozen? ⟨w.heap.size + 1, 1, .none⟩ = false := (HB5.out.frozen (p := ⟨w.heap.size + 1, 1, .none⟩) (lt_of_cell HQ3.out)).trans (HQ4.out 1)
        have HFin : Hid (∀ VZ, VZ = ((V5.setCell ⟨w.heap.size + 1, 0, .none⟩ (.slice fp fn fc)).setCell ⟨w.heap.size + 1, 1, .none⟩ (.int .i64 144)) → FmP w en S m (.returned (.agg #[.slice fp fn fc, .int .i64 144])) VZ ∧ VZ.rangeAt (w.heap.size + 1) 0 [.slice fp fn fc, .int .i64 144]) := fun VZ hVZ => by
          subst hVZ
          obtain ⟨g1, g2⟩ := fin_fault hR5 bx0 bx1
          exact ⟨⟨_, _, _, HVd.out, rfl, g1, (HBw5.out.setCell (p := ⟨w.heap.size + 1, 0, .none⟩) (by show w.heap.size ≤ w.heap.size + 1; omega) _).setCell (p := ⟨w.heap.size + 1, 1, .none⟩) (by show w.heap.size ≤ w.heap.size + 1; omega) _⟩, g2⟩
        clear hR5
        dsimp only
        go_wp2_with fail
        have hfin := HFin.out _ rfl
        generalize ((V5.setCell ⟨w.heap.size + 1, 0, .none⟩ (.slice fp fn fc)).setCell ⟨w.heap.size + 1, 1, .none⟩ (.int .i64 144)) = VZ at *
        have hld := run_loadVar_mid (P := Tryd.prog) VZ (w.heap.size + 1) 0 35 _ _ hfin.2 Tryd.underlying35 rfl (by kernel_rfl)
        exact bodyPost_ret (v := .agg #[.slice fp fn fc, .int .i64 144]) (results_cell_any (p := 2) (ty := 35) rfl _ _ ⟨w.heap.size + 1, 0, .none⟩ _ rfl hld) rfl hfin.1
      | true =>
        rw [hok] at c46
        have HOk : Hid (ok1 (S i).va (S i).fl (S i).n (S i).mem = true) := hok
        have h4096 : (S i).va % 4096 = 0 := by
          unfold ok1 at hok
          simp only [Bool.and_eq_true, decide_eq_true_eq] at hok
          exact hok.1.1.1.1
        clear hok
        go_upto_region 9 with (go_at_call 46; refine c46.mono ?_; rintro _ V2 ⟨rfl, hV2⟩; rw [hV2]; clear hV2 V2)
        have hbd : Below V1.heap.size V1 V1.drew := (Below.refl _ _).drew
        have HBVd : Hid (Below W1.heap.size W1 V1.drew) := HBV.out.trans (hbd.mono HBV.out.size)
        have e1 : V1.cell? ⟨w.heap.size, 1, .none⟩ = some (.slice (some ⟨b, o, .none⟩) m c) := (HBV.out.cell (lt_of_cell HQ1.out)).trans HQ1.out
        by_cases hi0 : i = 0
        · have hI : ¬ (0 < (i : Int)) := by omega
          have HRs : Hid (ris ((sgsG S m).take i) (S i).va = true) := by
            show _ = _
            rw [hi0, List.take_zero]
            rfl
          have kS : True := trivial
          refine wp_region_held_drew (S := fun U2 => True) (by kernel_rfl) kS (fun hHeld => ?_)
          refine wpAnyH_take (i := 0) (v := (.int .i64 i)) rfl (by kernel_rfl) (by kernel_rfl) (by kernel_rfl) (fun _ _ _ h => h) (Or.inl ⟨by rfl, fun ww hSw => by (try dsimp only at hSw); go_simp⟩) (by assumption) ?_
          simp only [Act.put, List.setIfInBounds_toArray, List.set_cons_zero, List.set_cons_succ, List.getElem_toArray, List.getElem_cons_succ, List.getElem_cons_zero]
          refine wpAnyH_take (i := 1) (v := (.bool false)) rfl (by kernel_rfl) (by kernel_rfl) (by kernel_rfl) (fun _ _ _ h => h) (Or.inl ⟨by rfl, fun ww hSw => by (try dsimp only at hSw); go_simp⟩) (by assumption) ?_
          simp only [Act.put, List.setIfInBounds_toArray, List.set_cons_zero, List.set_cons_succ, List.getElem_toArray, List.getElem_cons_succ, List.getElem_cons_zero]
          refine wpAnyH_take (i := 2) (v := (.bool false)) rfl (by kernel_rfl) (by kernel_rfl) (by kernel_rfl) (fun _ _ _ h => h) (Or.inl ⟨by rfl, fun ww hSw => by (try dsimp only at hSw); go_simp⟩) (by assumption) ?_
          simp only [Act.put, List.setIfInBounds_toArray, List.set_cons_zero, List.set_cons_succ, List.getElem_toArray, List.getElem_cons_succ, List.getElem_cons_zero]
          refine wpAnyH_take (i := 3) (v := undef) rfl (by kernel_rfl) (by kernel_rfl) (by kernel_rfl) (fun _ _ _ h => h) (Or.inr ⟨by rfl, rfl⟩) (by assumption) ?_
          simp only [Act.put, List.setIfInBounds_toArray, List.set_cons_zero, List.set_cons_succ, List.getElem_toArray, List.getElem_cons_succ, List.getElem_cons_zero]
          refine wpAnyH_take (i := 4) (v := undef) rfl (by kernel_rfl) (by kernel_rfl) (by kernel_rfl) (fun _ _ _ h => h) (Or.inr ⟨by rfl, rfl⟩) (by assumption) ?_
          simp only [Act.put, List.setIfInBounds_toArray, List.set_cons_zero, List.set_cons_succ, List.getElem_toArray, List.getElem_cons_succ, List.getElem_cons_zero]
          refine wpAnyH_take (i := 5) (v := undef) rfl (by kernel_rfl) (by kernel_rfl) (by kernel_rfl) (fun _ _ _ h => h) (Or.inr ⟨by rfl, rfl⟩) (by assumption) ?_
          simp only [Act.put, List.setIfInBounds_toArray, List.set_cons_zero, List.set_cons_succ, List.getElem_toArray, List.getElem_cons_succ, List.getElem_cons_zero]
          refine wpAnyH_take (i := 6) (v := undef) rfl (by kernel_rfl) (by kernel_rfl) (by kernel_rfl) (fun _ _ _ h => h) (Or.inr ⟨by rfl, rfl⟩) (by assumption) ?_
          simp only [Act.put, List.setIfInBounds_toArray, List.set_cons_zero, List.set_cons_succ, List.getElem_toArray, List.getElem_cons_succ, List.getElem_cons_zero]
          refine wpAnyH_take (i := 7) (v := undef) rfl (by kernel_rfl) (by kernel_rfl) (by kernel_rfl) (fun _ _ _ h => h) (Or.inr ⟨by rfl, rfl⟩) (by assumption) ?_
          simp only [Act.put, List.setIfInBounds_toArray, List.set_cons_zero, List.set_cons_succ, List.getElem_toArray, List.getElem_cons_succ, List.getElem_cons_zero]
          refine wpAnyH_take (i := 8) (v := undef) rfl (by kernel_rfl) (by kernel_rfl) (by kernel_rfl) (fun _ _ _ h => h) (Or.inr ⟨by rfl, rfl⟩) (by assumption) ?_
          simp only [Act.put, List.setIfInBounds_toArray, List.set_cons_zero, List.set_cons_succ, List.getElem_toArray, List.getElem_cons_succ, List.getElem_cons_zero]
          refine wpAnyH_take (i := 9) (v := undef) rfl (by kernel_rfl) (by kernel_rfl) (by kernel_rfl) (fun _ _ _ h => h) (Or.inr ⟨by rfl, rfl⟩) (by assumption) ?_
          simp only [Act.put, List.setIfInBounds_toArray, List.set_cons_zero, List.set_cons_succ, List.getElem_toArray, List.getElem_cons_succ, List.getElem_cons_zero]
          refine wpAnyH_take (i := 10) (v := undef) rfl (by kernel_rfl) (by kernel_rfl) (by kernel_rfl) (fun _ _ _ h => h) (Or.inr ⟨by rfl, rfl⟩) (by assumption) ?_
          simp only [Act.put, List.setIfInBounds_toArray, List.set_cons_zero, List.set_cons_succ, List.getElem_toArray, List.getElem_cons_succ, List.getElem_cons_zero]
          refine wpAnyH_take (i := 11) (v := undef) rfl (by kernel_rfl) (by kernel_rfl) (by kernel_rfl) (fun _ _ _ h => h) (Or.inr ⟨by rfl, rfl⟩) (by assumption) ?_
          simp only [Act.put, List.setIfInBounds_toArray, List.set_cons_zero, List.set_cons_succ, List.getElem_toArray, List.getElem_cons_succ, List.getElem_cons_zero]
          refine wpAnyH_take (i := 12) (v := undef) rfl (by kernel_rfl) (by kernel_rfl) (by kernel_rfl) (fun _ _ _ h => h) (Or.inr ⟨by rfl, rfl⟩) (by assumption) ?_
          simp only [Act.put, List.setIfInBounds_toArray, List.set_cons_zero, List.set_cons_succ, List.getElem_toArray, List.getElem_cons_succ, List.getElem_cons_zero]
          refine wpAnyH_take (i := 13) (v := undef) rfl (by kernel_rfl) (by kernel_rfl) (by kernel_rfl) (fun _ _ _ h => h) (Or.inr ⟨by rfl, rfl⟩) (by assumption) ?_
          simp only [Act.put, List.setIfInBounds_toArray, List.set_cons_zero, List.set_cons_succ, List.getElem_toArray, List.getElem_cons_succ, List.getElem_cons_zero]
          refine wpAnyH_take (i := 14) (v := undef) rfl (by kernel_rfl) (by kernel_rfl) (by kernel_rfl) (fun _ _ _ h => h) (Or.inr ⟨by rfl, rfl⟩) (by assumption) ?_
          simp only [Act.put, List.setIfInBounds_toArray, List.set_cons_zero, List.set_cons_succ, List.getElem_toArray, List.getElem_cons_succ, List.getElem_cons_zero]
          refine wpAnyH_take (i := 15) (v := undef) rfl (by kernel_rfl) (by kernel_rfl) (by kernel_rfl) (fun _ _ _ h => h) (Or.inr ⟨by rfl, rfl⟩) (by assumption) ?_
          simp only [Act.put, List.setIfInBounds_toArray, List.set_cons_zero, List.set_cons_succ, List.getElem_toArray, List.getElem_cons_succ, List.getElem_cons_zero]
          refine wpAnyH_take (i := 16) (v := undef) rfl (by kernel_rfl) (by kernel_rfl) (by kernel_rfl) (fun _ _ _ h => h) (Or.inr ⟨by rfl, rfl⟩) (by assumption) ?_
          simp only [Act.put, List.setIfInBounds_toArray, List.set_cons_zero, List.set_cons_succ, List.getElem_toArray, List.getElem_cons_succ, List.getElem_cons_zero]
          refine wpAnyH_take (i := 17) (v := undef) rfl (by kernel_rfl) (by kernel_rfl) (by kernel_rfl) (fun _ _ _ h => h) (Or.inr ⟨by rfl, rfl⟩) (by assumption) ?_
          simp only [Act.put, List.setIfInBounds_toArray, List.set_cons_zero, List.set_cons_succ, List.getElem_toArray, List.getElem_cons_succ, List.getElem_cons_zero]
          refine wpAnyH_take (i := 18) (v := undef) rfl (by kernel_rfl) (by kernel_rfl) (by kernel_rfl) (fun _ _ _ h => h) (Or.inr ⟨by rfl, rfl⟩) (by assumption) ?_
          simp only [Act.put, List.setIfInBounds_toArray, List.set_cons_zero, List.set_cons_succ, List.getElem_toArray, List.getElem_cons_succ, List.getElem_cons_zero]
          refine wpAnyH_take (i := 19) (v := undef) rfl (by kernel_rfl) (by kernel_rfl) (by kernel_rfl) (fun _ _ _ h => h) (Or.inr ⟨by rfl, rfl⟩) (by assumption) ?_
          simp only [Act.put, List.setIfInBounds_toArray, List.set_cons_zero, List.set_cons_succ, List.getElem_toArray, List.getElem_cons_succ, List.getElem_cons_zero]
          refine wpAnyH_take (i := 20) (v := undef) rfl (by kernel_rfl) (by kernel_rfl) (by kernel_rfl) (fun _ _ _ h => h) (Or.inr ⟨by rfl, rfl⟩) (by assumption) ?_
          simp only [Act.put, List.setIfInBounds_toArray, List.set_cons_zero, List.set_cons_succ, List.getElem_toArray, List.getElem_cons_succ, List.getElem_cons_zero]
          refine wpAnyH_take (i := 21) (v := undef) rfl (by kernel_rfl) (by kernel_rfl) (by kernel_rfl) (fun _ _ _ h => h) (Or.inr ⟨by rfl, rfl⟩) (by assumption) ?_
          simp only [Act.put, List.setIfInBounds_toArray, List.set_cons_zero, List.set_cons_succ, List.getElem_toArray, List.getElem_cons_succ, List.getElem_cons_zero]
          refine wpAnyH_take (i := 22) (v := (.bool false)) rfl (by kernel_rfl) (by kernel_rfl) (by kernel_rfl) (fun _ _ _ h => h) (Or.inl ⟨by rfl, fun ww hSw => by (try dsimp only at hSw); go_simp⟩) (by assumption) ?_
          simp only [Act.put, List.setIfInBounds_toArray, List.set_cons_zero, List.set_cons_succ, List.getElem_toArray, List.getElem_cons_succ, List.getElem_cons_zero]
          refine wpAnyH_done (by kernel_rfl) ?_ _
          clear hHeld kS
          go_wp2_with fail
          exact ⟨⟨i + 1, by omega, by simp; omega, HR.out.1.succ HSG.out HOk.out HRs.out, HBVd.out⟩, by simp [intOf]; omega⟩
        · obtain ⟨k, hik⟩ : ∃ k : Nat, i = k + 1 := ⟨i - 1, by omega⟩
          have hki : (i : Int) - 1 = k := by omega
          have hkm : k < m := by omega
          have hI : 0 < (i : Int) := by omega
          have hIn : 0 < i := by omega
          have hwk : IntKind.i64.wrap (k : Int) = k := by rw [IntKind.wrap_i64]; omega
          have gki : (k : Int) < m := by omega
          obtain ⟨b', o', eq', s0, _, _, s3⟩ := (HA.out.below HBwV.out).seg hkm
          injection eq' with eq'
          injection eq' with eb eo
          subst eb eo
          have hgk := HR.out.1 k _ (by omega) (sg_at hkm)
          have hgd : Gd ⟨(S k).va, (S k).fl, (S k).mem, 64 + 56 * m + sumN S k, (S k).n⟩ := ok1_gd hgk.1 (HA.out.va k hkm).1 (by have := HZ.out k hkm; show (S k).n < _; omega)
          have hp1 : 0 ≤ (S k).va := hgd.v
          have hp2 : 0 ≤ (S k).mem := hgd.m
          have hp3 : (S k).va + (S k).mem ≤ 1073741824 := hgd.e
          have HRs : Hid (ris ((sgsG S m).take i) (S i).va = decide ((S k).va + (S k).mem ≤ (S i).va)) := by
            show _ = _
            have hlast : ((sgsG S m).take i).getLast? = some ⟨(S k).va, (S k).fl, (S k).mem, 64 + 56 * m + sumN S k, (S k).n⟩ := by
              rw [List.getLast?_eq_getElem?, List.length_take, sgsG_len, Nat.min_eq_left (by omega), hik, Nat.add_sub_cancel, List.getElem?_take, if_pos (by omega)]
              exact sg_at hkm
            unfold ris
            rw [hlast]
          have hnl := next_lt (S i).va ((S k).va + (S k).mem) h4096 (by omega)
          have HNl : Hid ((S i).va < ((S k).va + (S k).mem + 4095) / 4096 * 4096 ↔ (S i).va < (S k).va + (S k).mem) := hnl
          clear hgk hgd hnl hik
          have hwv : IntKind.u64.wrap ((S k).va + (S k).mem) = (S k).va + (S k).mem := by rw [IntKind.wrap_u64]; omega
          have c29 := next_any ((S k).va + (S k).mem) V1.drew ⟨by omega, by omega⟩
          have kS : (V1.drew.cell? ⟨wr.heap.size, 0, .none⟩ = some (.int .u64 (S i).va) ∧ V1.drew.cell? ⟨w.heap.size, 1, .none⟩ = some (.slice (some ⟨b, o, .none⟩) m c) ∧ V1.drew.cell? ⟨b, o + k * 4, .none⟩ = some (.int .u64 (S k).va) ∧ V1.drew.cell? ⟨b, o + k * 4 + 3, .none⟩ = some (.int .u64 (S k).mem)) := ⟨(hbd.cell (lt_of_cell k0)).trans k0, (hbd.cell (lt_of_cell e1)).trans e1, (hbd.cell (lt_of_cell s0)).trans s0, (hbd.cell (lt_of_cell s3)).trans s3⟩
          clear s0 s3 hbd
          refine wp_region_held_drew (S := fun U2 => (U2.cell? ⟨wr.heap.size, 0, .none⟩ = some (.int .u64 (S i).va) ∧ U2.cell? ⟨w.heap.size, 1, .none⟩ = some (.slice (some ⟨b, o, .none⟩) m c) ∧ U2.cell? ⟨b, o + k * 4, .none⟩ = some (.int .u64 (S k).va) ∧ U2.cell? ⟨b, o + k * 4 + 3, .none⟩ = some (.int .u64 (S k).mem))) (by kernel_rfl) kS (fun hHeld => ?_)
          refine wpAnyH_take (i := 0) (v := (.int .i64 i)) rfl (by kernel_rfl) (by kernel_rfl) (by kernel_rfl) (fun _ _ _ h => h) (Or.inl ⟨by rfl, fun ww hSw => by (try dsimp only at hSw); go_simp⟩) (by assumption) ?_
          simp only [Act.put, List.setIfInBounds_toArray, List.set_cons_zero, List.set_cons_succ, List.getElem_toArray, List.getElem_cons_succ, List.getElem_cons_zero]
          refine wpAnyH_take (i := 1) (v := (.bool true)) rfl (by kernel_rfl) (by kernel_rfl) (by kernel_rfl) (fun _ _ _ h => h) (Or.inl ⟨by rfl, fun ww hSw => by (try dsimp only at hSw); go_simp⟩) (by assumption) ?_
          simp only [Act.put, List.setIfInBounds_toArray, List.set_cons_zero, List.set_cons_succ, List.getElem_toArray, List.getElem_cons_succ, List.getElem_cons_zero]
          refine wpAnyH_take (i := 2) (v := (.bool true)) rfl (by kernel_rfl) (by kernel_rfl) (by kernel_rfl) (fun _ _ _ h => h) (Or.inl ⟨by rfl, fun ww hSw => by (try dsimp only at hSw); go_simp⟩) (by assumption) ?_
          simp only [Act.put, List.setIfInBounds_toArray, List.set_cons_zero, List.set_cons_succ, List.getElem_toArray, List.getElem_cons_succ, List.getElem_cons_zero]
          refine wpAnyH_take (i := 3) (v := (.pointer (some ⟨wr.heap.size, 0, .none⟩))) rfl (by kernel_rfl) (by kernel_rfl) (by kernel_rfl) (fun _ _ _ h => h) (Or.inl ⟨by rfl, fun ww hSw => by (try dsimp only at hSw); go_simp⟩) (by assumption) ?_
          simp only [Act.put, List.setIfInBounds_toArray, List.set_cons_zero, List.set_cons_succ, List.getElem_toArray, List.getElem_cons_succ, List.getElem_cons_zero]
          refine wpAnyH_take (i := 4) (v := (.int .u64 (S i).va)) rfl (by kernel_rfl) (by kernel_rfl) (by kernel_rfl) (fun _ _ _ h => h) (Or.inl ⟨by rfl, fun ww hSw => by (try dsimp only at hSw); go_simp⟩) (by assumption) ?_
          simp only [Act.put, List.setIfInBounds_toArray, List.set_cons_zero, List.set_cons_succ, List.getElem_toArray, List.getElem_cons_succ, List.getElem_cons_zero]
          refine wpAnyH_take (i := 5) (v := (.pointer (some ⟨w.heap.size, 1, .none⟩))) rfl (by kernel_rfl) (by kernel_rfl) (by kernel_rfl) (fun _ _ _ h => h) (Or.inl ⟨by rfl, fun ww hSw => by (try dsimp only at hSw); go_simp⟩) (by assumption) ?_
          simp only [Act.put, List.setIfInBounds_toArray, List.set_cons_zero, List.set_cons_succ, List.getElem_toArray, List.getElem_cons_succ, List.getElem_cons_zero]
          refine wpAnyH_take (i := 6) (v := (.slice (some ⟨b, o, .none⟩) m c)) rfl (by kernel_rfl) (by kernel_rfl) (by kernel_rfl) (fun _ _ _ h => h) (Or.inl ⟨by rfl, fun ww hSw => by (try dsimp only at hSw); go_simp⟩) (by assumption) ?_
          simp only [Act.put, List.setIfInBounds_toArray, List.set_cons_zero, List.set_cons_succ, List.getElem_toArray, List.getElem_cons_succ, List.getElem_cons_zero]
          refine wpAnyH_take (i := 7) (v := (.int .i64 i)) rfl (by kernel_rfl) (by kernel_rfl) (by kernel_rfl) (fun _ _ _ h => h) (Or.inl ⟨by rfl, fun ww hSw => by (try dsimp only at hSw); go_simp⟩) (by assumption) ?_
          simp only [Act.put, List.setIfInBounds_toArray, List.set_cons_zero, List.set_cons_succ, List.getElem_toArray, List.getElem_cons_succ, List.getElem_cons_zero]
          refine wpAnyH_take (i := 8) (v := (.int .i64 k)) rfl (by kernel_rfl) (by kernel_rfl) (by kernel_rfl) (fun _ _ _ h => h) (Or.inl ⟨by rfl, fun ww hSw => by (try dsimp only at hSw); go_simp⟩) (by assumption) ?_
          simp only [Act.put, List.setIfInBounds_toArray, List.set_cons_zero, List.set_cons_succ, List.getElem_toArray, List.getElem_cons_succ, List.getElem_cons_zero]
          refine wpAnyH_take (i := 9) (v := (.pointer (some ⟨b, o + k * 4, .none⟩))) rfl (by kernel_rfl) (by kernel_rfl) (by kernel_rfl) (fun _ _ _ h => h) (Or.inl ⟨by rfl, fun ww hSw => by (try dsimp only at hSw); go_simp⟩) (by assumption) ?_
          simp only [Act.put, List.setIfInBounds_toArray, List.set_cons_zero, List.set_cons_succ, List.getElem_toArray, List.getElem_cons_succ, List.getElem_cons_zero]
          refine wpAnyH_take (i := 10) (v := (.pointer (some ⟨b, o + k * 4, .none⟩))) rfl (by kernel_rfl) (by kernel_rfl) (by kernel_rfl) (fun _ _ _ h => h) (Or.inl ⟨by rfl, fun ww hSw => by (try dsimp only at hSw); go_simp⟩) (by assumption) ?_
          simp only [Act.put, List.setIfInBounds_toArray, List.set_cons_zero, List.set_cons_succ, List.getElem_toArray, List.getElem_cons_succ, List.getElem_cons_zero]
          refine wpAnyH_take (i := 11) (v := (.int .u64 (S k).va)) rfl (by kernel_rfl) (by kernel_rfl) (by kernel_rfl) (fun _ _ _ h => h) (Or.inl ⟨by rfl, fun ww hSw => by (try dsimp only at hSw); go_simp⟩) (by assumption) ?_
          simp only [Act.put, List.setIfInBounds_toArray, List.set_cons_zero, List.set_cons_succ, List.getElem_toArray, List.getElem_cons_succ, List.getElem_cons_zero]
          refine wpAnyH_take (i := 12) (v := (.pointer (some ⟨w.heap.size, 1, .none⟩))) rfl (by kernel_rfl) (by kernel_rfl) (by kernel_rfl) (fun _ _ _ h => h) (Or.inl ⟨by rfl, fun ww hSw => by (try dsimp only at hSw); go_simp⟩) (by assumption) ?_
          simp only [Act.put, List.setIfInBounds_toArray, List.set_cons_zero, List.set_cons_succ, List.getElem_toArray, List.getElem_cons_succ, List.getElem_cons_zero]
          refine wpAnyH_take (i := 13) (v := (.slice (some ⟨b, o, .none⟩) m c)) rfl (by kernel_rfl) (by kernel_rfl) (by kernel_rfl) (fun _ _ _ h => h) (Or.inl ⟨by rfl, fun ww hSw => by (try dsimp only at hSw); go_simp⟩) (by assumption) ?_
          simp only [Act.put, List.setIfInBounds_toArray, List.set_cons_zero, List.set_cons_succ, List.getElem_toArray, List.getElem_cons_succ, List.getElem_cons_zero]
          refine wpAnyH_take (i := 14) (v := (.int .i64 i)) rfl (by kernel_rfl) (by kernel_rfl) (by kernel_rfl) (fun _ _ _ h => h) (Or.inl ⟨by rfl, fun ww hSw => by (try dsimp only at hSw); go_simp⟩) (by assumption) ?_
          simp only [Act.put, List.setIfInBounds_toArray, List.set_cons_zero, List.set_cons_succ, List.getElem_toArray, List.getElem_cons_succ, List.getElem_cons_zero]
          refine wpAnyH_take (i := 15) (v := (.int .i64 k)) rfl (by kernel_rfl) (by kernel_rfl) (by kernel_rfl) (fun _ _ _ h => h) (Or.inl ⟨by rfl, fun ww hSw => by (try dsimp only at hSw); go_simp⟩) (by assumption) ?_
          simp only [Act.put, List.setIfInBounds_toArray, List.set_cons_zero, List.set_cons_succ, List.getElem_toArray, List.getElem_cons_succ, List.getElem_cons_zero]
          refine wpAnyH_take (i := 16) (v := (.pointer (some ⟨b, o + k * 4, .none⟩))) rfl (by kernel_rfl) (by kernel_rfl) (by kernel_rfl) (fun _ _ _ h => h) (Or.inl ⟨by rfl, fun ww hSw => by (try dsimp only at hSw); go_simp⟩) (by assumption) ?_
          simp only [Act.put, List.setIfInBounds_toArray, List.set_cons_zero, List.set_cons_succ, List.getElem_toArray, List.getElem_cons_succ, List.getElem_cons_zero]
          refine wpAnyH_take (i := 17) (v := (.pointer (some ⟨b, o + k * 4 + 3, .none⟩))) rfl (by kernel_rfl) (by kernel_rfl) (by kernel_rfl) (fun _ _ _ h => h) (Or.inl ⟨by rfl, fun ww hSw => by (try dsimp only at hSw); go_simp⟩) (by assumption) ?_
          simp only [Act.put, List.setIfInBounds_toArray, List.set_cons_zero, List.set_cons_succ, List.getElem_toArray, List.getElem_cons_succ, List.getElem_cons_zero]
          refine wpAnyH_take (i := 18) (v := (.int .u64 (S k).mem)) rfl (by kernel_rfl) (by kernel_rfl) (by kernel_rfl) (fun _ _ _ h => h) (Or.inl ⟨by rfl, fun ww hSw => by (try dsimp only at hSw); go_simp⟩) (by assumption) ?_
          simp only [Act.put, List.setIfInBounds_toArray, List.set_cons_zero, List.set_cons_succ, List.getElem_toArray, List.getElem_cons_succ, List.getElem_cons_zero]
          refine wpAnyH_take (i := 19) (v := (.int .u64 ((S k).va + (S k).mem))) rfl (by kernel_rfl) (by kernel_rfl) (by kernel_rfl) (fun _ _ _ h => h) (Or.inl ⟨by rfl, fun ww hSw => by (try dsimp only at hSw); go_simp⟩) (by assumption) ?_
          simp only [Act.put, List.setIfInBounds_toArray, List.set_cons_zero, List.set_cons_succ, List.getElem_toArray, List.getElem_cons_succ, List.getElem_cons_zero]
          refine wpAnyH_ready (rs := [20]) (by kernel_rfl) (by simp) ?_
          refine AllReadyH.cons rfl (fun K hK => ?_) AllReadyH.nil
          go_simp
          go_at_call 29
          refine c29.mono ?_
          rintro _ V3 ⟨rfl, hV3⟩
          rw [hV3]
          clear hV3 V3
          refine hK.out _ _ kS (fun hHeld => ?_)
          clear hK K
          try simp only [Act.put, List.setIfInBounds_toArray, List.set_cons_zero, List.set_cons_succ, List.getElem_toArray, List.getElem_cons_succ, List.getElem_cons_zero]
          clear c29
          generalize hnx : ((S k).va + (S k).mem + 4095) / 4096 * 4096 = nx at *
          have HNx : Hid (((S k).va + (S k).mem + 4095) / 4096 * 4096 = nx) := hnx
          clear hnx
          by_cases hx : (S i).va < nx
          · have hris : ris ((sgsG S m).take i) (S i).va = false := by
              rw [HRs.out, decide_eq_false_iff_not]
              have := HNl.out.1 hx
              omega
            have HVd0 : Hid (Vd en (sgsG S m) (1 + (i : Int)) 145) := .inr ⟨by rw [sgsG_len]; exact hmb.1, by rw [sgsG_len]; exact hmb.2, .inl ⟨i, _, HSG.out, HR.out.1, .inr ⟨HOk.out, hris, rfl, rfl⟩⟩⟩
            clear hris
            refine wpAnyH_take (i := 21) (v := (.bool true)) rfl (by kernel_rfl) (by kernel_rfl) (by kernel_rfl) (fun _ _ _ h => h) (Or.inl ⟨by rfl, fun ww hSw => by (try dsimp only at hSw); go_simp⟩) (by assumption) ?_
            simp only [Act.put, List.setIfInBounds_toArray, List.set_cons_zero, List.set_cons_succ, List.getElem_toArray, List.getElem_cons_succ, List.getElem_cons_zero]
            refine wpAnyH_take (i := 22) (v := (.bool true)) rfl (by kernel_rfl) (by kernel_rfl) (by kernel_rfl) (fun _ _ _ h => h) (Or.inl ⟨by rfl, fun ww hSw => by (try dsimp only at hSw); go_simp⟩) (by assumption) ?_
            simp only [Act.put, List.setIfInBounds_toArray, List.set_cons_zero, List.set_cons_succ, List.getElem_toArray, List.getElem_cons_succ, List.getElem_cons_zero]
            refine wpAnyH_done (by kernel_rfl) ?_ _
            clear hHeld kS
            go_upto_region 10 with fail
            have HVd : Hid (Vd en (sgsG S m) (1 + (i : Int)) 145) := HVd0.out
            go_wp2_with fail
            refine (no_any 145 (1 + (i : Int)) _).mono ?_
            rintro e5 V5 ⟨⟨v5, rfl, hL5⟩, hb5⟩
            have HB5 : Hid (Below W1.heap.size W1 V5) := HBVd.out.trans (hb5.mono HBVd.out.size)
            have HBw5 : Hid (Below w.heap.size w V5) := HB1.out.trans (HB5.out.mono HB1.out.size)
            have hR5 : RefR V5 v5 (1 + (i : Int)) 145 := .inl ⟨by decide, hL5⟩
            clear hb5 hL5
            obtain ⟨fp, fn, fc, hfv⟩ := hR5.form
            subst hfv
            have bx0 : V5.cell? ⟨w.heap.size + 1, 0, .none⟩ = some (.slice .none 0 0) := (HB5.out.cell (lt_of_cell HQ2.out)).trans HQ2.out
            have bx1 : V5.cell? ⟨w.heap.size + 1, 1, .none⟩ = some (.int .i64 0) := (HB5.out.cell (lt_of_cell HQ3.out)).trans HQ3.out
            have fx0 : V5.frozen? ⟨w.heap.size + 1, 0, .none⟩ = false := (HB5.out.frozen (p := ⟨w.heap.size + 1, 0, .none⟩) (lt_of_cell HQ2.out)).trans (HQ4.out 0)
            have fx1 : V5.frozen? ⟨w.heap.size + 1, 1, .none⟩ = false := (HB5.out.frozen (p := ⟨w.heap.size + 1, 1, .none⟩) (lt_of_cell HQ3.out)).trans (HQ4.out 1)
            have HFin : Hid (∀ VZ, VZ = ((V5.setCell ⟨w.heap.size + 1, 0, .none⟩ (.slice fp fn fc)).setCell ⟨w.heap.size + 1, 1, .none⟩ (.int .i64 145)) → FmP w en S m (.returned (.agg #[.slice fp fn fc, .int .i64 145])) VZ ∧ VZ.rangeAt (w.heap.size + 1) 0 [.slice fp fn fc, .int .i64 145]) := fun VZ hVZ => by
              subst hVZ
              obtain ⟨g1, g2⟩ := fin_fault hR5 bx0 bx1
              exact ⟨⟨_, _, _, HVd.out, rfl, g1, (HBw5.out.setCell (p := ⟨w.heap.size + 1, 0, .none⟩) (by show w.heap.size ≤ w.heap.size + 1; omega) _).setCell (p := ⟨w.heap.size + 1, 1, .none⟩) (by show w.heap.size ≤ w.heap.size + 1; omega) _⟩, g2⟩
            clear hR5
            dsimp only
            go_wp2_with fail
            have hfin := HFin.out _ rfl
            generalize ((V5.setCell ⟨w.heap.size + 1, 0, .none⟩ (.slice fp fn fc)).setCell ⟨w.heap.size + 1, 1, .none⟩ (.int .i64 145)) = VZ at *
            have hld := run_loadVar_mid (P := Tryd.prog) VZ (w.heap.size + 1) 0 35 _ _ hfin.2 Tryd.underlying35 rfl (by kernel_rfl)
            exact bodyPost_ret (v := .agg #[.slice fp fn fc, .int .i64 145]) (results_cell_any (p := 2) (ty := 35) rfl _ _ ⟨w.heap.size + 1, 0, .none⟩ _ rfl hld) rfl hfin.1
          · have HRt : Hid (ris ((sgsG S m).take i) (S i).va = true) := by
              show _ = _
              rw [HRs.out, decide_eq_true_eq]
              have : ¬ (S i).va < (S k).va + (S k).mem := fun h => hx (HNl.out.2 h)
              omega
            refine wpAnyH_take (i := 21) (v := (.bool false)) rfl (by kernel_rfl) (by kernel_rfl) (by kernel_rfl) (fun _ _ _ h => h) (Or.inl ⟨by rfl, fun ww hSw => by (try dsimp only at hSw); go_simp⟩) (by assumption) ?_
            simp only [Act.put, List.setIfInBounds_toArray, List.set_cons_zero, List.set_cons_succ, List.getElem_toArray, List.getElem_cons_succ, List.getElem_cons_zero]
            refine wpAnyH_take (i := 22) (v := (.bool false)) rfl (by kernel_rfl) (by kernel_rfl) (by kernel_rfl) (fun _ _ _ h => h) (Or.inl ⟨by rfl, fun ww hSw => by (try dsimp only at hSw); go_simp⟩) (by assumption) ?_
            simp only [Act.put, List.setIfInBounds_toArray, List.set_cons_zero, List.set_cons_succ, List.getElem_toArray, List.getElem_cons_succ, List.getElem_cons_zero]
            refine wpAnyH_done (by kernel_rfl) ?_ _
            clear hHeld kS
            go_wp2_with fail
            exact ⟨⟨i + 1, by omega, by simp, HR.out.1.succ HSG.out HOk.out HRt.out, HBVd.out⟩, by simp [intOf]; omega⟩
    · have he' : i = m := by omega
      have hn9 : ¬ ((i : Int) < m) := by omega
      subst he'
      have hgd : ∀ s ∈ sgsG S i, Gd s := fun s hs => by
        obtain ⟨k, hk, hke⟩ := List.getElem_of_mem hs
        have hs2 : (sgsG S i)[k]? = some s := by rw [List.getElem?_eq_getElem hk, hke]
        obtain ⟨hk2, e⟩ := sgsG_get hs2
        have := (HR.out.1 k s hk2 hs2).1
        refine ok1_gd this ?_ ?_
        · rw [e]; exact (HA.out.va k hk2).1
        · rw [e]; have := HZ.out k hk2; show (S k).n < _; omega
      have c39 := insideA_any (HA.out.below HBw.out) hgd hmb.2 en he
      have HGl : Hid (Gk (sgsG S i) (sgsG S i).length) := by
        show Gk _ _
        rw [sgsG_len]
        exact HR.out.1
      clear hgd
      cases hh : hasE (sgsG S i) en with
      | false =>
        rw [hh] at c39
        have HVd0 : Hid (Vd en (sgsG S i) 0 146) := .inr ⟨by rw [sgsG_len]; exact hmb.1, by rw [sgsG_len]; exact hmb.2, .inr (.inl ⟨HGl.out, hh, rfl, rfl⟩)⟩
        clear hh
        go_upto_region 12 with (go_at_call 39; refine c39.mono ?_; rintro _ V2 ⟨rfl, hV2⟩; have HBV2 : Hid (Below W1.heap.size W1 V2) := HR.out.2.trans (hV2.mono HR.out.2.size); clear hV2)
        have HVd : Hid (Vd en (sgsG S i) (0) 146) := HVd0.out
        go_wp2_with fail
        refine (no_any 146 (0) _).mono ?_
        rintro e5 V5 ⟨⟨v5, rfl, hL5⟩, hb5⟩
        have HB5 : Hid (Below W1.heap.size W1 V5) := HBV2.out.trans (hb5.mono HBV2.out.size)
        have HBw5 : Hid (Below w.heap.size w V5) := HB1.out.trans (HB5.out.mono HB1.out.size)
        have hR5 : RefR V5 v5 (0) 146 := .inl ⟨by decide, hL5⟩
        clear hb5 hL5
        obtain ⟨fp, fn, fc, hfv⟩ := hR5.form
        subst hfv
        have bx0 : V5.cell? ⟨w.heap.size + 1, 0, .none⟩ = some (.slice .none 0 0) := (HB5.out.cell (lt_of_cell HQ2.out)).trans HQ2.out
        have bx1 : V5.cell? ⟨w.heap.size + 1, 1, .none⟩ = some (.int .i64 0) := (HB5.out.cell (lt_of_cell HQ3.out)).trans HQ3.out
        have fx0 : V5.frozen? ⟨w.heap.size + 1, 0, .none⟩ = false := (HB5.out.frozen (p := ⟨w.heap.size + 1, 0, .none⟩) (lt_of_cell HQ2.out)).trans (HQ4.out 0)
        have fx1 : V5.frozen? ⟨w.heap.size + 1, 1, .none⟩ = false := (HB5.out.frozen (p := ⟨w.heap.size + 1, 1, .none⟩) (lt_of_cell HQ3.out)).trans (HQ4.out 1)
        have HFin : Hid (∀ VZ, VZ = ((V5.setCell ⟨w.heap.size + 1, 0, .none⟩ (.slice fp fn fc)).setCell ⟨w.heap.size + 1, 1, .none⟩ (.int .i64 146)) → FmP w en S i (.returned (.agg #[.slice fp fn fc, .int .i64 146])) VZ ∧ VZ.rangeAt (w.heap.size + 1) 0 [.slice fp fn fc, .int .i64 146]) := fun VZ hVZ => by
          subst hVZ
          obtain ⟨g1, g2⟩ := fin_fault hR5 bx0 bx1
          exact ⟨⟨_, _, _, HVd.out, rfl, g1, (HBw5.out.setCell (p := ⟨w.heap.size + 1, 0, .none⟩) (by show w.heap.size ≤ w.heap.size + 1; omega) _).setCell (p := ⟨w.heap.size + 1, 1, .none⟩) (by show w.heap.size ≤ w.heap.size + 1; omega) _⟩, g2⟩
        clear hR5
        dsimp only
        go_wp2_with fail
        have hfin := HFin.out _ rfl
        generalize ((V5.setCell ⟨w.heap.size + 1, 0, .none⟩ (.slice fp fn fc)).setCell ⟨w.heap.size + 1, 1, .none⟩ (.int .i64 146)) = VZ at *
        have hld := run_loadVar_mid (P := Tryd.prog) VZ (w.heap.size + 1) 0 35 _ _ hfin.2 Tryd.underlying35 rfl (by kernel_rfl)
        exact bodyPost_ret (v := .agg #[.slice fp fn fc, .int .i64 146]) (results_cell_any (p := 2) (ty := 35) rfl _ _ ⟨w.heap.size + 1, 0, .none⟩ _ rfl hld) rfl hfin.1
      | true =>
        rw [hh] at c39
        have HVd : Hid (Vd en (sgsG S i) 0 0) := .inr ⟨by rw [sgsG_len]; exact hmb.1, by rw [sgsG_len]; exact hmb.2, .inr (.inr ⟨HGl.out, hh, rfl, rfl⟩)⟩
        clear hh
        go_upto_region 13 with (go_at_call 39; refine c39.mono ?_; rintro _ V2 ⟨rfl, hV2⟩; have HBV2 : Hid (Below W1.heap.size W1 V2) := HR.out.2.trans (hV2.mono HR.out.2.size); clear hV2)
        go_wp2_with fail
        refine (none_any V2).mono ?_
        rintro e5 V5 ⟨rfl, hV5⟩
        have HB5 : Hid (Below W1.heap.size W1 V5) := by
          show Below _ _ _
          rw [hV5]
          exact HBV2.out.alloc HBV2.out.size _
        have HBw5 : Hid (Below w.heap.size w V5) := HB1.out.trans (HB5.out.mono HB1.out.size)
        have hR5 : RefR V5 (.agg #[.slice .none 0 0, .int .i64 0]) 0 0 := .inr ⟨rfl, rfl⟩
        clear hV5
        have bx0 : V5.cell? ⟨w.heap.size + 1, 0, .none⟩ = some (.slice .none 0 0) := (HB5.out.cell (lt_of_cell HQ2.out)).trans HQ2.out
        have bx1 : V5.cell? ⟨w.heap.size + 1, 1, .none⟩ = some (.int .i64 0) := (HB5.out.cell (lt_of_cell HQ3.out)).trans HQ3.out
        have fx0 : V5.frozen? ⟨w.heap.size + 1, 0, .none⟩ = false := (HB5.out.frozen (p := ⟨w.heap.size + 1, 0, .none⟩) (lt_of_cell HQ2.out)).trans (HQ4.out 0)
        have fx1 : V5.frozen? ⟨w.heap.size + 1, 1, .none⟩ = false := (HB5.out.frozen (p := ⟨w.heap.size + 1, 1, .none⟩) (lt_of_cell HQ3.out)).trans (HQ4.out 1)
        have HFin : Hid (∀ VZ, VZ = ((V5.setCell ⟨w.heap.size + 1, 0, .none⟩ (.slice .none 0 0)).setCell ⟨w.heap.size + 1, 1, .none⟩ (.int .i64 0)) → FmP w en S i (.returned (.agg #[.slice .none 0 0, .int .i64 0])) VZ ∧ VZ.rangeAt (w.heap.size + 1) 0 [.slice .none 0 0, .int .i64 0]) := fun VZ hVZ => by
          subst hVZ
          obtain ⟨g1, g2⟩ := fin_fault hR5 bx0 bx1
          exact ⟨⟨_, _, _, HVd.out, rfl, g1, (HBw5.out.setCell (p := ⟨w.heap.size + 1, 0, .none⟩) (by show w.heap.size ≤ w.heap.size + 1; omega) _).setCell (p := ⟨w.heap.size + 1, 1, .none⟩) (by show w.heap.size ≤ w.heap.size + 1; omega) _⟩, g2⟩
        clear hR5
        dsimp only
        go_wp2_with fail
        have hfin := HFin.out _ rfl
        generalize ((V5.setCell ⟨w.heap.size + 1, 0, .none⟩ (.slice .none 0 0)).setCell ⟨w.heap.size + 1, 1, .none⟩ (.int .i64 0)) = VZ at *
        have hld := run_loadVar_mid (P := Tryd.prog) VZ (w.heap.size + 1) 0 35 _ _ hfin.2 Tryd.underlying35 rfl (by kernel_rfl)
        exact bodyPost_ret (v := .agg #[.slice .none 0 0, .int .i64 0]) (results_cell_any (p := 2) (ty := 35) rfl _ _ ⟨w.heap.size + 1, 0, .none⟩ _ rfl hld) rfl hfin.1
end Go.Proofs.YtloldhcljdmofaaDoor
