import Derived.Test.YtloldhcljdmofaaDoorWq3
import Derived.Test.YtloldhcljdmofaaDoorTc
namespace Go.Proofs.YtloldhcljdmofaaDoor
open Go.RowKit
set_option linter.unusedVariables false
set_option linter.unusedSimpArgs false
def lstI (H : Nat → Int) (n : Nat) : List Int := (List.range n).map H
theorem lstI_len (H : Nat → Int) (n : Nat) : (lstI H n).length = n := by simp [lstI]
theorem lst_by8 (H : Nat → Int) (n : Nat) : lst H n = by8 (lstI H n) := by simp [lst, by8, lstI]
theorem lstI_add (H : Nat → Int) (n k : Nat) : lstI H (n + k) = lstI H n ++ (List.range k).map fun j => H (n + j) := by
  simp only [lstI]
  rw [List.range_add, List.map_append, List.map_map]
  rfl
theorem filI_head (en : Int) (S : List Sg) (B : Nat → Int) : lstI (fil en S B) 64 = headL en S.length := by
  rw [headL_eq]
  simp only [lstI]
  apply List.map_congr_left
  intro k hk
  simp only [fil, if_pos (List.mem_range.1 hk)]
theorem filI_seg (en : Int) (S : List Sg) (B : Nat → Int) (i : Nat) (s : Sg) (hs : S[i]? = some s) : lstI (fil en S B) (64 + 56 * (i + 1)) = lstI (fil en S B) (64 + 56 * i) ++ segL s := by
  have hlt := (List.getElem?_eq_some_iff.1 hs).1
  rw [show 64 + 56 * (i + 1) = 64 + 56 * i + 56 by omega, lstI_add, segL_eq]
  congr 1
  apply List.map_congr_left
  intro k hk
  have hk := List.mem_range.1 hk
  simp only [fil, if_neg (show ¬ 64 + 56 * i + k < 64 by omega), if_pos (show 64 + 56 * i + k < 64 + 56 * S.length by omega)]
  rw [show (64 + 56 * i + k - 64) / 56 = i by omega, show (64 + 56 * i + k - 64) % 56 = k by omega]
  simp only [sgB, hs]
theorem filI_dat (en : Int) (S : List Sg) (B : Nat → Int) (hP : Plc S) (i : Nat) (s : Sg) (hs : S[i]? = some s) : lstI (fil en S B) (64 + 56 * S.length + szs S (i + 1)) = lstI (fil en S B) (64 + 56 * S.length + szs S i) ++ byt B s := by
  rw [szs_succ S i s hs, ← Nat.add_assoc, lstI_add]
  congr 1
  simp only [byt]
  apply List.map_congr_left
  intro k hk
  have := hP i s hs
  simp only [fil, if_neg (show ¬ 64 + 56 * S.length + szs S i + k < 64 by omega), if_neg (show ¬ 64 + 56 * S.length + szs S i + k < 64 + 56 * S.length by omega)]
  rw [this]
theorem byt_belowQ {w w' : World} {p : Option Addr} {n c : Nat} {xs : List Int} (h : Byt w p n c xs) (k : Below w.heap.size w w') : Byt w' p n c xs := by
  by_cases hn : 0 < n
  · exact byt_keep h k (byt_lt h hn)
  · exact ⟨h.1, h.2.1, h.2.2.1, .inl (by omega)⟩
theorem byt_set {w : World} {p : Option Addr} {n c : Nat} {xs : List Int} (h : Byt w p n c xs) {a : Addr} (ha : ∀ b o, p = some ⟨b, o, .none⟩ → b ≠ a.block) (v : Value) : Byt (w.setCell a v) p n c xs := by
  obtain ⟨h1, h2, h3, h4⟩ := h
  refine ⟨h1, h2, h3, ?_⟩
  rcases h4 with h4 | ⟨b, o, rfl, h5, h6⟩
  · exact .inl h4
  · refine .inr ⟨b, o, rfl, by rw [World.size_setCell]; exact h5, fun i x hx => ?_⟩
    rw [World.cell?_setCell_other _ _ _ _ (fun e => ha b o rfl (by rw [e]))]
    exact h6 i x hx
/-- What the document's Write comes to. -/
def WqP (w : World) (en : Int) (S : Nat → Sr) (D : Nat → List Int) (m : Nat) (e : Ending) (w' : World) : Prop :=
  Below w.heap.size w w' ∧ ((∃ a r p n c, Vd en (sgsG S m) a r ∧ r ≠ 0 ∧ e = .returned (.tuple #[.slice .none 0 0, .agg #[.slice p n c, .int .i64 r]]) ∧ RefR w' (.agg #[.slice p n c, .int .i64 r]) a r) ∨
    (Good en (sgsG S m) ∧ 262144 < 64 + 56 * m + sumN S m ∧ ∃ p n c, e = .returned (.tuple #[.slice .none 0 0, .agg #[.slice p n c, .int .i64 147]]) ∧ RefR w' (.agg #[.slice p n c, .int .i64 147]) 0 147) ∨
    (Good en (sgsG S m) ∧ 64 + 56 * m + sumN S m ≤ 262144 ∧ ∃ p c, e = .returned (.tuple #[.slice p (64 + 56 * m + sumN S m) c, .agg #[.slice .none 0 0, .int .i64 0]]) ∧ Byt w' p (64 + 56 * m + sumN S m) c (lstI (fil en (sgsG S m) (datB D m)) (64 + 56 * m + sumN S m)) ∧ ∀ b o, p = some ⟨b, o, .none⟩ → w.heap.size ≤ b))
set_option maxHeartbeats 8000000 in
set_option maxRecDepth 100000 in
theorem writeQ_any {w : World} {q : Option Addr} {m c : Nat} {S : Nat → Sr} {D : Nat → List Int} (h : Arg w q m c S D) (hz : ∀ i, i < m → (S i).n ≤ 400000) (en : Int) (he : 0 ≤ en ∧ en < 18446744073709551616) :
    Calls Tryd.prog 8 #[.agg #[.int .u64 en, .slice q m c]] w fun e w' => WqP w en S D m e w' := by
  have HA : Hid (Arg w q m c S D) := h
  have HZ : Hid (∀ i, i < m → (S i).n ≤ 400000) := hz
  have hmc := h.mc
  clear h hz
  have s1 : (w.alloc (.cells #[.int .u64 en, .slice q m c] 25)).heap.size = w.heap.size + 1 := World.size_alloc ..
  have HB1 : Hid (Below w.heap.size w ((w.alloc (.cells #[.int .u64 en, .slice q m c] 25)).alloc (.cells #[.slice .none 0 0, .int .i64 0] 35))) := ((Below.refl _ _).alloc (Nat.le_refl _) _).alloc (by rw [s1]; omega) _
  have HQ0 : Hid (((w.alloc (.cells #[.int .u64 en, .slice q m c] 25)).alloc (.cells #[.slice .none 0 0, .int .i64 0] 35)).cell? ⟨w.heap.size, 0, .none⟩ = some (.int .u64 en)) := by
    show _ = _
    rw [World.cell?_alloc_past _ _ _ (by rw [s1]; show w.heap.size < _; omega), World.cell?_alloc_at _ _ _ _ rfl]
    rfl
  have HQ1 : Hid (((w.alloc (.cells #[.int .u64 en, .slice q m c] 25)).alloc (.cells #[.slice .none 0 0, .int .i64 0] 35)).cell? ⟨w.heap.size, 1, .none⟩ = some (.slice q m c)) := by
    show _ = _
    rw [World.cell?_alloc_past _ _ _ (by rw [s1]; show w.heap.size < _; omega), World.cell?_alloc_at _ _ _ _ rfl]
    rfl
  have HQ2 : Hid (((w.alloc (.cells #[.int .u64 en, .slice q m c] 25)).alloc (.cells #[.slice .none 0 0, .int .i64 0] 35)).cell? ⟨w.heap.size + 1, 0, .none⟩ = some (.slice .none 0 0)) := World.cell?_alloc_at _ _ _ _ s1.symm
  have HQ3 : Hid (((w.alloc (.cells #[.int .u64 en, .slice q m c] 25)).alloc (.cells #[.slice .none 0 0, .int .i64 0] 35)).cell? ⟨w.heap.size + 1, 1, .none⟩ = some (.int .i64 0)) := World.cell?_alloc_at _ _ _ _ s1.symm
  have HQ4 : Hid (∀ i, ((w.alloc (.cells #[.int .u64 en, .slice q m c] 25)).alloc (.cells #[.slice .none 0 0, .int .i64 0] 35)).frozen? ⟨w.heap.size + 1, i, .none⟩ = false) := fun i => by
    have := World.frozen?_alloc_new (w.alloc (.cells #[.int .u64 en, .slice q m c] 25)) #[.slice .none 0 0, .int .i64 0] 35 i
    rwa [s1] at this
  clear s1
  have c24 := formNo_any (HA.out.below HB1.out) HZ.out en he
  go_enter Tryd.func8, Tryd.ntmps8
  go_upto_region 1 with fail
  generalize ((w.alloc (.cells #[.int .u64 en, .slice q m c] 25)).alloc (.cells #[.slice .none 0 0, .int .i64 0] 35)) = W1 at *
  have q0 := HQ0.out
  have q1 := HQ1.out
  go_wp2_with fail
  refine c24.mono ?_
  rintro _ W2 ⟨a, r, v, hVd, rfl, hR2, hb2⟩
  obtain ⟨fp, fn, fc, hfv⟩ := hR2.form
  subst hfv
  have HVd : Hid (Vd en (sgsG S m) a r) := hVd
  have HR2 : Hid (RefR W2 (.agg #[.slice fp fn fc, .int .i64 r]) a r) := hR2
  have HB2 : Hid (Below W1.heap.size W1 W2) := hb2
  clear hVd hR2 hb2 c24 q0 q1
  have HB3 : Hid (Below W2.heap.size W2 (W2.alloc (.cells #[.slice fp fn fc, .int .i64 r] 35))) := (Below.refl _ _).alloc (Nat.le_refl _) _
  have f0 : (W2.alloc (.cells #[.slice fp fn fc, .int .i64 r] 35)).cell? ⟨W2.heap.size, 0, .none⟩ = some (.slice fp fn fc) := World.cell?_alloc_at _ _ _ _ rfl
  have f1 : (W2.alloc (.cells #[.slice fp fn fc, .int .i64 r] 35)).cell? ⟨W2.heap.size, 1, .none⟩ = some (.int .i64 r) := World.cell?_alloc_at _ _ _ _ rfl
  dsimp only
  go_upto_region 2 with fail
  generalize (W2.alloc (.cells #[.slice fp fn fc, .int .i64 r] 35)) = W3 at *
  have HBW3 : Hid (Below W1.heap.size W1 W3) := HB2.out.trans (HB3.out.mono HB2.out.size)
  have HR3 : Hid (RefR W3 (.agg #[.slice fp fn fc, .int .i64 r]) a r) := HR2.out.below HB3.out
  obtain ⟨pf, hpf⟩ : ∃ x, x = W2.heap.size := ⟨_, rfl⟩
  rw [← hpf] at f0 f1 ⊢
  clear hpf
  have c25 := any_any W3 _ a r HR3.out
  by_cases hr : r = 0
  rotate_left
  · rw [show decide (r ≠ 0) = true by simpa using hr] at c25
    have HRn : Hid (r ≠ 0) := hr
    clear hr
    go_upto_region 3 with (go_at_call 25; refine c25.mono ?_; rintro _ W4 ⟨rfl, hb4⟩; have HB4 : Hid (Below W3.heap.size W3 W4) := hb4; clear hb4)
    have HB4w : Hid (Below W1.heap.size W1 W4) := HBW3.out.trans (HB4.out.mono HBW3.out.size)
    have HB4z : Hid (Below w.heap.size w W4) := HB1.out.trans (HB4w.out.mono HB1.out.size)
    have HR4 : Hid (RefR W4 (.agg #[.slice fp fn fc, .int .i64 r]) a r) := HR3.out.below HB4.out
    have g0 : W4.cell? ⟨pf, 0, .none⟩ = some (.slice fp fn fc) := (HB4.out.cell (lt_of_cell f0)).trans f0
    have g1 : W4.cell? ⟨pf, 1, .none⟩ = some (.int .i64 r) := (HB4.out.cell (lt_of_cell f1)).trans f1
    have bx0 : W4.cell? ⟨w.heap.size + 1, 0, .none⟩ = some (.slice .none 0 0) := (HB4w.out.cell (lt_of_cell HQ2.out)).trans HQ2.out
    have bx1 : W4.cell? ⟨w.heap.size + 1, 1, .none⟩ = some (.int .i64 0) := (HB4w.out.cell (lt_of_cell HQ3.out)).trans HQ3.out
    have fx0 : W4.frozen? ⟨w.heap.size + 1, 0, .none⟩ = false := (HB4w.out.frozen (p := ⟨w.heap.size + 1, 0, .none⟩) (lt_of_cell HQ2.out)).trans (HQ4.out 0)
    have fx1 : W4.frozen? ⟨w.heap.size + 1, 1, .none⟩ = false := (HB4w.out.frozen (p := ⟨w.heap.size + 1, 1, .none⟩) (lt_of_cell HQ3.out)).trans (HQ4.out 1)
    go_region
    go_wp2_with fail
    have hfin : ∀ VZ : World, VZ = (((W4).setCell ⟨w.heap.size + 1, 0, .none⟩ (.slice fp fn fc)).setCell ⟨w.heap.size + 1, 1, .none⟩ (.int .i64 r)).drew → WqP w en S D m (.returned (.tuple #[.slice .none 0 0, .agg #[.slice fp fn fc, .int .i64 r]])) VZ ∧ VZ.rangeAt (w.heap.size + 1) 0 [.slice fp fn fc, .int .i64 r] := fun VZ hVZ => by
      obtain ⟨g1, g2⟩ := fin_fault HR4.out bx0 bx1
      have hbz : Below w.heap.size w (((W4).setCell ⟨w.heap.size + 1, 0, .none⟩ (.slice fp fn fc)).setCell ⟨w.heap.size + 1, 1, .none⟩ (.int .i64 r)) := (HB4z.out.setCell (p := ⟨w.heap.size + 1, 0, .none⟩) (by show w.heap.size ≤ w.heap.size + 1; omega) _).setCell (p := ⟨w.heap.size + 1, 1, .none⟩) (by show w.heap.size ≤ w.heap.size + 1; omega) _
      have hbd : Below (((W4).setCell ⟨w.heap.size + 1, 0, .none⟩ (.slice fp fn fc)).setCell ⟨w.heap.size + 1, 1, .none⟩ (.int .i64 r)).heap.size (((W4).setCell ⟨w.heap.size + 1, 0, .none⟩ (.slice fp fn fc)).setCell ⟨w.heap.size + 1, 1, .none⟩ (.int .i64 r)) (((W4).setCell ⟨w.heap.size + 1, 0, .none⟩ (.slice fp fn fc)).setCell ⟨w.heap.size + 1, 1, .none⟩ (.int .i64 r)).drew := (Below.refl _ _).drew
      subst hVZ
      refine ⟨⟨hbz.trans (hbd.mono hbz.size), .inl ⟨a, r, fp, fn, fc, HVd.out, HRn.out, rfl, g1.below hbd⟩⟩, fun j u hj => (hbd.cell (lt_of_cell (g2 j u hj))).trans (g2 j u hj)⟩
    have hfin := hfin _ rfl
    generalize (((W4).setCell ⟨w.heap.size + 1, 0, .none⟩ (.slice fp fn fc)).setCell ⟨w.heap.size + 1, 1, .none⟩ (.int .i64 r)).drew = VZ at *
    have hld := run_loadVar_mid (P := Tryd.prog) VZ (w.heap.size + 1) 0 35 _ _ hfin.2 Tryd.underlying35 rfl (by kernel_rfl)
    exact bodyPost_ret (v := .tuple #[.slice .none 0 0, .agg #[.slice fp fn fc, .int .i64 r]]) (results_tmp_cell (a := 2) (p := 3) (ty := 35) rfl _ _ ⟨w.heap.size + 1, 0, .none⟩ _ rfl hld) rfl hfin.1
  have HGood : Hid (Good en (sgsG S m)) := (vd_good HVd.out).1 hr
  subst hr
  have hm8 : m ≤ 8 := by have := HGood.out.2.1; rwa [sgsG_len] at this
  rw [show decide ((0 : Int) ≠ 0) = false by decide] at c25
  go_upto_region 4 with (go_at_call 25; refine c25.mono ?_; rintro _ W4 ⟨rfl, hb4⟩; have HB4 : Hid (Below W3.heap.size W3 W4) := hb4; clear hb4)
  have HB4w : Hid (Below W1.heap.size W1 W4) := HBW3.out.trans (HB4.out.mono HBW3.out.size)
  have HB4z : Hid (Below w.heap.size w W4) := HB1.out.trans (HB4w.out.mono HB1.out.size)
  have HG0 : Hid (W4.cell? ⟨pf, 0, .none⟩ = some (.slice fp fn fc)) := (HB4.out.cell (lt_of_cell f0)).trans f0
  have HG1 : Hid (W4.cell? ⟨pf, 1, .none⟩ = some (.int .i64 0)) := (HB4.out.cell (lt_of_cell f1)).trans f1
  have hfz : fp = none ∧ fn = 0 ∧ fc = 0 := by
    rcases HR3.out with ⟨h0, _⟩ | ⟨_, e⟩
    · exact absurd rfl h0
    · simpa using e
  obtain ⟨rfl, rfl, rfl⟩ := hfz
  clear f0 f1 c25 HR2 HR3 HB2 HB3 HBW3 HB4
  have l0 : W4.cell? ⟨w.heap.size, 0, .none⟩ = some (.int .u64 en) := (HB4w.out.cell (lt_of_cell HQ0.out)).trans HQ0.out
  have l1 : W4.cell? ⟨w.heap.size, 1, .none⟩ = some (.slice q m c) := (HB4w.out.cell (lt_of_cell HQ1.out)).trans HQ1.out
  have HL0 : Hid (W4.cell? ⟨w.heap.size, 0, .none⟩ = some (.int .u64 en)) := l0
  have HL1 : Hid (W4.cell? ⟨w.heap.size, 1, .none⟩ = some (.slice q m c)) := l1
  have HA4 : Hid (Arg W4 q m c S D) := HA.out.below HB4z.out
  go_upto_region 5 with fail
  go_wp2_with fail
  go_loopw [5, 6] (fun s k wr => ∃ i : Nat, i ≤ m ∧ k = .int .i64 i ∧ s = .int .i64 (64 + 56 * m + sumN S i) ∧ (i = 0 ∨ 64 + 56 * m + sumN S i ≤ 262144) ∧ wr = W4) (fun _ k _ => (m - intOf k).toNat)
  case atStart => exact ⟨0, by omega, rfl, by simp [sumN], .inl rfl, rfl⟩
  case round =>
    obtain ⟨i, hi, rfl, rfl, hle, hwr⟩ := hrel
    subst hwr
    have hsi := sum_nb S m HA.out.nb i hi
    by_cases hlt : i < m
    · have gi : (i : Int) < m := by omega
      obtain ⟨b, o, rfl, a0, a1, a2, a3⟩ := HA4.out.seg hlt
      have hb := HA.out.nb i hlt
      have hs2 : sumN S (i + 1) = sumN S i + (S i).n := rfl
      clear a0 a1 a3
      by_cases hbig : 64 + 56 * m + sumN S (i + 1) ≤ 262144
      · have hbi : ¬ (262144 : Int) < 64 + 56 * m + sumN S i + (S i).n := by omega
        go_wp2_with fail
        exact ⟨⟨i + 1, by omega, by simp, by rw [hs2]; congr 1; push_cast; omega, .inr hbig, trivial⟩, by simp [intOf]; omega⟩
      · have hbi : (262144 : Int) < 64 + 56 * m + sumN S i + (S i).n := by omega
        have hT : 262144 < 64 + 56 * m + sumN S m := by
          have := sum_mono (S := S) (i + 1) m (by omega)
          omega
        go_upto_region 10 with fail
        go_wp2_with fail
        refine (no_any 147 0 _).mono ?_
        rintro e5 V5 ⟨⟨v5, rfl, hL5⟩, hb5⟩
        have HB5 : Hid (Below W1.heap.size W1 V5) := HB4w.out.trans (hb5.mono HB4w.out.size)
        have HBw5 : Hid (Below w.heap.size w V5) := HB1.out.trans (HB5.out.mono HB1.out.size)
        have hR5 : RefR V5 v5 0 147 := .inl ⟨by decide, hL5⟩
        obtain ⟨gp, gn, gc, hgv⟩ := hR5.form
        subst hgv
        clear hb5 hL5
        have bx0 : V5.cell? ⟨w.heap.size + 1, 0, .none⟩ = some (.slice .none 0 0) := (HB5.out.cell (lt_of_cell HQ2.out)).trans HQ2.out
        have bx1 : V5.cell? ⟨w.heap.size + 1, 1, .none⟩ = some (.int .i64 0) := (HB5.out.cell (lt_of_cell HQ3.out)).trans HQ3.out
        have fx0 : V5.frozen? ⟨w.heap.size + 1, 0, .none⟩ = false := (HB5.out.frozen (p := ⟨w.heap.size + 1, 0, .none⟩) (lt_of_cell HQ2.out)).trans (HQ4.out 0)
        have fx1 : V5.frozen? ⟨w.heap.size + 1, 1, .none⟩ = false := (HB5.out.frozen (p := ⟨w.heap.size + 1, 1, .none⟩) (lt_of_cell HQ3.out)).trans (HQ4.out 1)
        dsimp only
        go_wp2_with fail
        have hfin : ∀ VZ : World, VZ = (((V5).setCell ⟨w.heap.size + 1, 0, .none⟩ (.slice gp gn gc)).setCell ⟨w.heap.size + 1, 1, .none⟩ (.int .i64 147)) → WqP w en S D m (.returned (.tuple #[.slice .none 0 0, .agg #[.slice gp gn gc, .int .i64 147]])) VZ ∧ VZ.rangeAt (w.heap.size + 1) 0 [.slice gp gn gc, .int .i64 147] := fun VZ hVZ => by
          obtain ⟨g1, g2⟩ := fin_fault hR5 bx0 bx1
          have hbz : Below w.heap.size w (((V5).setCell ⟨w.heap.size + 1, 0, .none⟩ (.slice gp gn gc)).setCell ⟨w.heap.size + 1, 1, .none⟩ (.int .i64 147)) := (HBw5.out.setCell (p := ⟨w.heap.size + 1, 0, .none⟩) (by show w.heap.size ≤ w.heap.size + 1; omega) _).setCell (p := ⟨w.heap.size + 1, 1, .none⟩) (by show w.heap.size ≤ w.heap.size + 1; omega) _
          have hbd : Below (((V5).setCell ⟨w.heap.size + 1, 0, .none⟩ (.slice gp gn gc)).setCell ⟨w.heap.size + 1, 1, .none⟩ (.int .i64 147)).heap.size (((V5).setCell ⟨w.heap.size + 1, 0, .none⟩ (.slice gp gn gc)).setCell ⟨w.heap.size + 1, 1, .none⟩ (.int .i64 147)) (((V5).setCell ⟨w.heap.size + 1, 0, .none⟩ (.slice gp gn gc)).setCell ⟨w.heap.size + 1, 1, .none⟩ (.int .i64 147)) := Below.refl _ _
          subst hVZ
          refine ⟨⟨hbz.trans (hbd.mono hbz.size), .inr (.inl ⟨HGood.out, hT, gp, gn, gc, rfl, g1.below hbd⟩)⟩, fun j u hj => (hbd.cell (lt_of_cell (g2 j u hj))).trans (g2 j u hj)⟩
        have hfin := hfin _ rfl
        generalize (((V5).setCell ⟨w.heap.size + 1, 0, .none⟩ (.slice gp gn gc)).setCell ⟨w.heap.size + 1, 1, .none⟩ (.int .i64 147)) = VZ at *
        have hld := run_loadVar_mid (P := Tryd.prog) VZ (w.heap.size + 1) 0 35 _ _ hfin.2 Tryd.underlying35 rfl (by kernel_rfl)
        exact bodyPost_ret (v := .tuple #[.slice .none 0 0, .agg #[.slice gp gn gc, .int .i64 147]]) (results_tmp_cell (a := 2) (p := 3) (ty := 35) rfl _ _ ⟨w.heap.size + 1, 0, .none⟩ _ rfl hld) rfl hfin.1
    · have he' : i = m := by omega
      have hn9 : ¬ ((i : Int) < m) := by omega
      subst he'
      have hT : 64 + 56 * i + sumN S i ≤ 262144 := by
        rcases hle with h0 | h0
        · subst h0
          simp [sumN]
        · exact h0
      clear hle hsi
      obtain ⟨WO, hWO⟩ : ∃ u, u = wr := ⟨_, rfl⟩
      subst hWO
      go_upto_region 11 with fail
      have HB0 : Hid (Below WO.heap.size WO (WO.alloc (.cells #[.int .u8 127, .int .u8 69, .int .u8 76, .int .u8 70, .int .u8 2, .int .u8 1, .int .u8 1, .int .u8 0, .int .u8 0, .int .u8 0, .int .u8 0, .int .u8 0, .int .u8 0, .int .u8 0, .int .u8 0, .int .u8 0] 5))) := (Below.refl _ _).alloc (Nat.le_refl _) _
      have HYl : Hid (Byt (WO.alloc (.cells #[.int .u8 127, .int .u8 69, .int .u8 76, .int .u8 70, .int .u8 2, .int .u8 1, .int .u8 1, .int .u8 0, .int .u8 0, .int .u8 0, .int .u8 0, .int .u8 0, .int .u8 0, .int .u8 0, .int .u8 0, .int .u8 0] 5)) (some ⟨WO.heap.size, 0, .none⟩) 16 16 ([127, 69, 76, 70, 2, 1, 1, 0, 0, 0, 0, 0, 0, 0, 0, 0] : List Int)) := by
        refine ⟨rfl, Nat.le_refl _, by decide, .inr ⟨WO.heap.size, 0, rfl, by simp, fun j x hj => ?_⟩⟩
        rw [Nat.zero_add, World.cell?_alloc_at _ _ _ _ rfl]
        have hjl : j < 16 := (List.getElem?_eq_some_iff.1 hj).1
        rcases (show j = 0 ∨ j = 1 ∨ j = 2 ∨ j = 3 ∨ j = 4 ∨ j = 5 ∨ j = 6 ∨ j = 7 ∨ j = 8 ∨ j = 9 ∨ j = 10 ∨ j = 11 ∨ j = 12 ∨ j = 13 ∨ j = 14 ∨ j = 15 by omega) with rfl | rfl | rfl | rfl | rfl | rfl | rfl | rfl | rfl | rfl | rfl | rfl | rfl | rfl | rfl | rfl <;> (injection hj with hj; subst hj; rfl)
      go_upto_region 12 with fail
      generalize (WO.alloc (.cells #[.int .u8 127, .int .u8 69, .int .u8 76, .int .u8 70, .int .u8 2, .int .u8 1, .int .u8 1, .int .u8 0, .int .u8 0, .int .u8 0, .int .u8 0, .int .u8 0, .int .u8 0, .int .u8 0, .int .u8 0, .int .u8 0] 5)) = Wl at *
      clear l0 l1
      have cN1 := number_any (2) ⟨by decide, by decide⟩ 2 (by omega) Wl
      go_wp2_with fail
      refine cN1.mono ?_
      rintro _ A1 ⟨pn1, cn1, rfl, own1, hb1⟩
      dsimp only
      simp only [nums_len] at own1 ⊢
      have HBa1 : Hid (Below WO.heap.size WO A1) := HB0.out.trans (hb1.mono HB0.out.size)
      have cP1 := putQ_any (byt_belowQ HYl.out hb1) (byt_own own1) (by omega) (by omega)
      clear cN1 own1 hb1
      go_wp2_with fail
      refine cP1.mono ?_
      rintro _ P1 ⟨pp1, cp1, rfl, op1, hp1⟩
      have hl1 : (([127, 69, 76, 70, 2, 1, 1, 0, 0, 0, 0, 0, 0, 0, 0, 0] : List Int) ++ nums (2) 2).length = 18 := by rw [List.length_append, nums_len, HYl.out.1]
      dsimp only
      simp only [hl1] at op1 ⊢
      have HBp1 : Hid (Below WO.heap.size WO P1) := HBa1.out.trans (hp1.mono HBa1.out.size)
      have HY1 : Hid (Byt P1 pp1 (18) cp1 (([127, 69, 76, 70, 2, 1, 1, 0, 0, 0, 0, 0, 0, 0, 0, 0] : List Int) ++ nums (2) 2)) := byt_own op1
      clear cP1 op1 hp1 hl1
      have cN2 := number_any (243) ⟨by decide, by decide⟩ 2 (by omega) P1
      go_wp2_with fail
      refine cN2.mono ?_
      rintro _ A2 ⟨pn2, cn2, rfl, own2, hb2⟩
      dsimp only
      simp only [nums_len] at own2 ⊢
      have HBa2 : Hid (Below WO.heap.size WO A2) := HBp1.out.trans (hb2.mono HBp1.out.size)
      have cP2 := putQ_any (byt_belowQ HY1.out hb2) (byt_own own2) (by omega) (by omega)
      clear cN2 own2 hb2
      go_wp2_with fail
      refine cP2.mono ?_
      rintro _ P2 ⟨pp2, cp2, rfl, op2, hp2⟩
      have hl2 : (([127, 69, 76, 70, 2, 1, 1, 0, 0, 0, 0, 0, 0, 0, 0, 0] : List Int) ++ nums (2) 2 ++ nums (243) 2).length = 20 := by rw [List.length_append, nums_len, HY1.out.1]
      dsimp only
      simp only [hl2] at op2 ⊢
      have HBp2 : Hid (Below WO.heap.size WO P2) := HBa2.out.trans (hp2.mono HBa2.out.size)
      have HY2 : Hid (Byt P2 pp2 (20) cp2 (([127, 69, 76, 70, 2, 1, 1, 0, 0, 0, 0, 0, 0, 0, 0, 0] : List Int) ++ nums (2) 2 ++ nums (243) 2)) := byt_own op2
      clear cP2 op2 hp2 hl2
      have cN3 := number_any (1) ⟨by decide, by decide⟩ 4 (by omega) P2
      go_wp2_with fail
      refine cN3.mono ?_
      rintro _ A3 ⟨pn3, cn3, rfl, own3, hb3⟩
      dsimp only
      simp only [nums_len] at own3 ⊢
      have HBa3 : Hid (Below WO.heap.size WO A3) := HBp2.out.trans (hb3.mono HBp2.out.size)
      have cP3 := putQ_any (byt_belowQ HY2.out hb3) (byt_own own3) (by omega) (by omega)
      clear cN3 own3 hb3
      go_wp2_with fail
      refine cP3.mono ?_
      rintro _ P3 ⟨pp3, cp3, rfl, op3, hp3⟩
      have hl3 : (([127, 69, 76, 70, 2, 1, 1, 0, 0, 0, 0, 0, 0, 0, 0, 0] : List Int) ++ nums (2) 2 ++ nums (243) 2 ++ nums (1) 4).length = 24 := by rw [List.length_append, nums_len, HY2.out.1]
      dsimp only
      simp only [hl3] at op3 ⊢
      have HBp3 : Hid (Below WO.heap.size WO P3) := HBa3.out.trans (hp3.mono HBa3.out.size)
      have HY3 : Hid (Byt P3 pp3 (24) cp3 (([127, 69, 76, 70, 2, 1, 1, 0, 0, 0, 0, 0, 0, 0, 0, 0] : List Int) ++ nums (2) 2 ++ nums (243) 2 ++ nums (1) 4)) := byt_own op3
      clear cP3 op3 hp3 hl3
      have lc : P3.cell? ⟨w.heap.size, 0, .none⟩ = some (.int .u64 en) := (HBp3.out.cell (lt_of_cell HL0.out)).trans HL0.out
      have cN4 := number_any (en) he 8 (by omega) P3
      go_wp2_with fail
      refine cN4.mono ?_
      rintro _ A4 ⟨pn4, cn4, rfl, own4, hb4⟩
      dsimp only
      simp only [nums_len] at own4 ⊢
      have HBa4 : Hid (Below WO.heap.size WO A4) := HBp3.out.trans (hb4.mono HBp3.out.size)
      have cP4 := putQ_any (byt_belowQ HY3.out hb4) (byt_own own4) (by omega) (by omega)
      clear cN4 own4 hb4
      go_wp2_with fail
      refine cP4.mono ?_
      rintro _ P4 ⟨pp4, cp4, rfl, op4, hp4⟩
      have hl4 : (([127, 69, 76, 70, 2, 1, 1, 0, 0, 0, 0, 0, 0, 0, 0, 0] : List Int) ++ nums (2) 2 ++ nums (243) 2 ++ nums (1) 4 ++ nums (en) 8).length = 32 := by rw [List.length_append, nums_len, HY3.out.1]
      dsimp only
      simp only [hl4] at op4 ⊢
      have HBp4 : Hid (Below WO.heap.size WO P4) := HBa4.out.trans (hp4.mono HBa4.out.size)
      have HY4 : Hid (Byt P4 pp4 (32) cp4 (([127, 69, 76, 70, 2, 1, 1, 0, 0, 0, 0, 0, 0, 0, 0, 0] : List Int) ++ nums (2) 2 ++ nums (243) 2 ++ nums (1) 4 ++ nums (en) 8)) := byt_own op4
      clear cP4 op4 hp4 hl4
      clear lc
      have cN5 := number_any (64) ⟨by decide, by decide⟩ 8 (by omega) P4
      go_wp2_with fail
      refine cN5.mono ?_
      rintro _ A5 ⟨pn5, cn5, rfl, own5, hb5⟩
      dsimp only
      simp only [nums_len] at own5 ⊢
      have HBa5 : Hid (Below WO.heap.size WO A5) := HBp4.out.trans (hb5.mono HBp4.out.size)
      have cP5 := putQ_any (byt_belowQ HY4.out hb5) (byt_own own5) (by omega) (by omega)
      clear cN5 own5 hb5
      go_wp2_with fail
      refine cP5.mono ?_
      rintro _ P5 ⟨pp5, cp5, rfl, op5, hp5⟩
      have hl5 : (([127, 69, 76, 70, 2, 1, 1, 0, 0, 0, 0, 0, 0, 0, 0, 0] : List Int) ++ nums (2) 2 ++ nums (243) 2 ++ nums (1) 4 ++ nums (en) 8 ++ nums (64) 8).length = 40 := by rw [List.length_append, nums_len, HY4.out.1]
      dsimp only
      simp only [hl5] at op5 ⊢
      have HBp5 : Hid (Below WO.heap.size WO P5) := HBa5.out.trans (hp5.mono HBa5.out.size)
      have HY5 : Hid (Byt P5 pp5 (40) cp5 (([127, 69, 76, 70, 2, 1, 1, 0, 0, 0, 0, 0, 0, 0, 0, 0] : List Int) ++ nums (2) 2 ++ nums (243) 2 ++ nums (1) 4 ++ nums (en) 8 ++ nums (64) 8)) := byt_own op5
      clear cP5 op5 hp5 hl5
      have cN6 := number_any (0) ⟨by decide, by decide⟩ 12 (by omega) P5
      go_wp2_with fail
      refine cN6.mono ?_
      rintro _ A6 ⟨pn6, cn6, rfl, own6, hb6⟩
      dsimp only
      simp only [nums_len] at own6 ⊢
      have HBa6 : Hid (Below WO.heap.size WO A6) := HBp5.out.trans (hb6.mono HBp5.out.size)
      have cP6 := putQ_any (byt_belowQ HY5.out hb6) (byt_own own6) (by omega) (by omega)
      clear cN6 own6 hb6
      go_wp2_with fail
      refine cP6.mono ?_
      rintro _ P6 ⟨pp6, cp6, rfl, op6, hp6⟩
      have hl6 : (([127, 69, 76, 70, 2, 1, 1, 0, 0, 0, 0, 0, 0, 0, 0, 0] : List Int) ++ nums (2) 2 ++ nums (243) 2 ++ nums (1) 4 ++ nums (en) 8 ++ nums (64) 8 ++ nums (0) 12).length = 52 := by rw [List.length_append, nums_len, HY5.out.1]
      dsimp only
      simp only [hl6] at op6 ⊢
      have HBp6 : Hid (Below WO.heap.size WO P6) := HBa6.out.trans (hp6.mono HBa6.out.size)
      have HY6 : Hid (Byt P6 pp6 (52) cp6 (([127, 69, 76, 70, 2, 1, 1, 0, 0, 0, 0, 0, 0, 0, 0, 0] : List Int) ++ nums (2) 2 ++ nums (243) 2 ++ nums (1) 4 ++ nums (en) 8 ++ nums (64) 8 ++ nums (0) 12)) := byt_own op6
      clear cP6 op6 hp6 hl6
      have cN7 := number_any (64) ⟨by decide, by decide⟩ 2 (by omega) P6
      go_wp2_with fail
      refine cN7.mono ?_
      rintro _ A7 ⟨pn7, cn7, rfl, own7, hb7⟩
      dsimp only
      simp only [nums_len] at own7 ⊢
      have HBa7 : Hid (Below WO.heap.size WO A7) := HBp6.out.trans (hb7.mono HBp6.out.size)
      have cP7 := putQ_any (byt_belowQ HY6.out hb7) (byt_own own7) (by omega) (by omega)
      clear cN7 own7 hb7
      go_wp2_with fail
      refine cP7.mono ?_
      rintro _ P7 ⟨pp7, cp7, rfl, op7, hp7⟩
      have hl7 : (([127, 69, 76, 70, 2, 1, 1, 0, 0, 0, 0, 0, 0, 0, 0, 0] : List Int) ++ nums (2) 2 ++ nums (243) 2 ++ nums (1) 4 ++ nums (en) 8 ++ nums (64) 8 ++ nums (0) 12 ++ nums (64) 2).length = 54 := by rw [List.length_append, nums_len, HY6.out.1]
      dsimp only
      simp only [hl7] at op7 ⊢
      have HBp7 : Hid (Below WO.heap.size WO P7) := HBa7.out.trans (hp7.mono HBa7.out.size)
      have HY7 : Hid (Byt P7 pp7 (54) cp7 (([127, 69, 76, 70, 2, 1, 1, 0, 0, 0, 0, 0, 0, 0, 0, 0] : List Int) ++ nums (2) 2 ++ nums (243) 2 ++ nums (1) 4 ++ nums (en) 8 ++ nums (64) 8 ++ nums (0) 12 ++ nums (64) 2)) := byt_own op7
      clear cP7 op7 hp7 hl7
      have cN8 := number_any (56) ⟨by decide, by decide⟩ 2 (by omega) P7
      go_wp2_with fail
      refine cN8.mono ?_
      rintro _ A8 ⟨pn8, cn8, rfl, own8, hb8⟩
      dsimp only
      simp only [nums_len] at own8 ⊢
      have HBa8 : Hid (Below WO.heap.size WO A8) := HBp7.out.trans (hb8.mono HBp7.out.size)
      have cP8 := putQ_any (byt_belowQ HY7.out hb8) (byt_own own8) (by omega) (by omega)
      clear cN8 own8 hb8
      go_wp2_with fail
      refine cP8.mono ?_
      rintro _ P8 ⟨pp8, cp8, rfl, op8, hp8⟩
      have hl8 : (([127, 69, 76, 70, 2, 1, 1, 0, 0, 0, 0, 0, 0, 0, 0, 0] : List Int) ++ nums (2) 2 ++ nums (243) 2 ++ nums (1) 4 ++ nums (en) 8 ++ nums (64) 8 ++ nums (0) 12 ++ nums (64) 2 ++ nums (56) 2).length = 56 := by rw [List.length_append, nums_len, HY7.out.1]
      dsimp only
      simp only [hl8] at op8 ⊢
      have HBp8 : Hid (Below WO.heap.size WO P8) := HBa8.out.trans (hp8.mono HBa8.out.size)
      have HY8 : Hid (Byt P8 pp8 (56) cp8 (([127, 69, 76, 70, 2, 1, 1, 0, 0, 0, 0, 0, 0, 0, 0, 0] : List Int) ++ nums (2) 2 ++ nums (243) 2 ++ nums (1) 4 ++ nums (en) 8 ++ nums (64) 8 ++ nums (0) 12 ++ nums (64) 2 ++ nums (56) 2)) := byt_own op8
      clear cP8 op8 hp8 hl8
      have lc : P8.cell? ⟨w.heap.size, 1, .none⟩ = some (.slice q i c) := (HBp8.out.cell (lt_of_cell HL1.out)).trans HL1.out
      have cN9 := number_any ((i : Int)) ⟨by omega, by omega⟩ 2 (by omega) P8
      go_wp2_with fail
      refine cN9.mono ?_
      rintro _ A9 ⟨pn9, cn9, rfl, own9, hb9⟩
      dsimp only
      simp only [nums_len] at own9 ⊢
      have HBa9 : Hid (Below WO.heap.size WO A9) := HBp8.out.trans (hb9.mono HBp8.out.size)
      have cP9 := putQ_any (byt_belowQ HY8.out hb9) (byt_own own9) (by omega) (by omega)
      clear cN9 own9 hb9
      go_wp2_with fail
      refine cP9.mono ?_
      rintro _ P9 ⟨pp9, cp9, rfl, op9, hp9⟩
      have hl9 : (([127, 69, 76, 70, 2, 1, 1, 0, 0, 0, 0, 0, 0, 0, 0, 0] : List Int) ++ nums (2) 2 ++ nums (243) 2 ++ nums (1) 4 ++ nums (en) 8 ++ nums (64) 8 ++ nums (0) 12 ++ nums (64) 2 ++ nums (56) 2 ++ nums ((i : Int)) 2).length = 58 := by rw [List.length_append, nums_len, HY8.out.1]
      dsimp only
      simp only [hl9] at op9 ⊢
      have HBp9 : Hid (Below WO.heap.size WO P9) := HBa9.out.trans (hp9.mono HBa9.out.size)
      have HY9 : Hid (Byt P9 pp9 (58) cp9 (([127, 69, 76, 70, 2, 1, 1, 0, 0, 0, 0, 0, 0, 0, 0, 0] : List Int) ++ nums (2) 2 ++ nums (243) 2 ++ nums (1) 4 ++ nums (en) 8 ++ nums (64) 8 ++ nums (0) 12 ++ nums (64) 2 ++ nums (56) 2 ++ nums ((i : Int)) 2)) := byt_own op9
      clear cP9 op9 hp9 hl9
      clear lc
      have cN10 := number_any (0) ⟨by decide, by decide⟩ 6 (by omega) P9
      go_wp2_with fail
      refine cN10.mono ?_
      rintro _ A10 ⟨pn10, cn10, rfl, own10, hb10⟩
      dsimp only
      simp only [nums_len] at own10 ⊢
      have HBa10 : Hid (Below WO.heap.size WO A10) := HBp9.out.trans (hb10.mono HBp9.out.size)
      have cP10 := putQ_any (byt_belowQ HY9.out hb10) (byt_own own10) (by omega) (by omega)
      clear cN10 own10 hb10
      go_wp2_with fail
      refine cP10.mono ?_
      rintro _ P10 ⟨pp10, cp10, rfl, op10, hp10⟩
      have hl10 : (([127, 69, 76, 70, 2, 1, 1, 0, 0, 0, 0, 0, 0, 0, 0, 0] : List Int) ++ nums (2) 2 ++ nums (243) 2 ++ nums (1) 4 ++ nums (en) 8 ++ nums (64) 8 ++ nums (0) 12 ++ nums (64) 2 ++ nums (56) 2 ++ nums ((i : Int)) 2 ++ nums (0) 6).length = 64 := by rw [List.length_append, nums_len, HY9.out.1]
      dsimp only
      simp only [hl10] at op10 ⊢
      have HBp10 : Hid (Below WO.heap.size WO P10) := HBa10.out.trans (hp10.mono HBa10.out.size)
      have HY10 : Hid (Byt P10 pp10 (64) cp10 (([127, 69, 76, 70, 2, 1, 1, 0, 0, 0, 0, 0, 0, 0, 0, 0] : List Int) ++ nums (2) 2 ++ nums (243) 2 ++ nums (1) 4 ++ nums (en) 8 ++ nums (64) 8 ++ nums (0) 12 ++ nums (64) 2 ++ nums (56) 2 ++ nums ((i : Int)) 2 ++ nums (0) 6)) := byt_own op10
      clear cP10 op10 hp10 hl10
      have HYh : Hid (Byt P10 pp10 64 cp10 (headL en i)) := HY10.out
      have lc : P10.cell? ⟨w.heap.size, 1, .none⟩ = some (.slice q i c) := (HBp10.out.cell (lt_of_cell HL1.out)).trans HL1.out
      have HYs : Hid (Byt P10 pp10 (64 + 56 * 0) cp10 (lstI (fil en (sgsG S i) (datB D i)) (64 + 56 * 0))) := by
        have e := filI_head en (sgsG S i) (datB D i)
        rw [sgsG_len] at e
        show Byt _ _ 64 _ (lstI (fil en (sgsG S i) (datB D i)) 64)
        rw [e]
        exact HYh.out
      have HPl : Hid (Plc (sgsG S i)) := plc_sgs
      go_upto_region 23 with fail
      clear lc
      go_wp2_with fail
      go_loopw [7, 8, 9] (fun bb at_ k W => ∃ j : Nat, j ≤ i ∧ k = .int .i64 j ∧ at_ = .int .i64 (64 + 56 * i + sumN S j) ∧ ∃ p c', bb = .slice p (64 + 56 * j) c' ∧ Hid (Byt W p (64 + 56 * j) c' (lstI (fil en (sgsG S i) (datB D i)) (64 + 56 * j)) ∧ Below WO.heap.size WO W)) (fun _ _ k _ => (i - intOf k).toNat)
      case atStart => exact ⟨0, by omega, rfl, by simp [sumN], _, _, rfl, HYs.out, HBp10.out⟩
      case round =>
        obtain ⟨j, hj, rfl, rfl, pb, cb, rfl, HR⟩ := hrel
        have lc : wr.cell? ⟨w.heap.size, 1, .none⟩ = some (.slice q i c) := (HR.out.2.cell (lt_of_cell HL1.out)).trans HL1.out
        by_cases hlj : j < i
        · have gj : (j : Int) < i := by omega
          obtain ⟨bb, oo, rfl, a0, a1, a2, a3⟩ := (HA4.out.below HR.out.2).seg hlj
          have hv := HA.out.va j hlj
          have hf := HA.out.fl j hlj
          have hmm := HA.out.mem j hlj
          have hn := HZ.out j hlj
          have hdm := (HA.out.dat j hlj).2.1
          have hdm2 : (S j).c ≤ 9223372036854775807 := (HA.out.dat j hlj).2.2.1
          have hsj := sum_mono (S := S) (j + 1) i (by omega)
          have hs2 : sumN S (j + 1) = sumN S j + (S j).n := rfl
          have HV1 : Hid (Below wr.heap.size wr (wr.alloc (.cells #[.int .u64 (S j).va, .int .u32 (S j).fl, .slice (S j).q (S j).n (S j).c, .int .u64 (S j).mem] 54))) := (Below.refl _ _).alloc (Nat.le_refl _) _
          have HC1 : Hid (C4 (wr.alloc (.cells #[.int .u64 (S j).va, .int .u32 (S j).fl, .slice (S j).q (S j).n (S j).c, .int .u64 (S j).mem] 54)) wr.heap.size (.int .u64 (S j).va) (.int .u32 (S j).fl) (.slice (S j).q (S j).n (S j).c) (.int .u64 (S j).mem)) := C4.new _ _ _ _ _ _
          go_upto_region 27 with fail
          clear a0 a1 a2 a3 lc
          generalize (wr.alloc (.cells #[.int .u64 (S j).va, .int .u32 (S j).fl, .slice (S j).q (S j).n (S j).c, .int .u64 (S j).mem] 54)) = V1 at *
          have HY0 : Hid (Byt V1 pb (64 + 56 * j) cb (lstI (fil en (sgsG S i) (datB D i)) (64 + 56 * j))) := byt_belowQ HR.out.1 HV1.out
          have HBV0 : Hid (Below V1.heap.size V1 V1) := Below.refl _ _
          have cN11 := number_any (1) ⟨by decide, by decide⟩ 4 (by omega) V1
          go_wp2_with fail
          refine cN11.mono ?_
          rintro _ A11 ⟨pn11, cn11, rfl, own11, hb11⟩
          dsimp only
          simp only [nums_len] at own11 ⊢
          have HBa11 : Hid (Below V1.heap.size V1 A11) := HBV0.out.trans (hb11.mono HBV0.out.size)
          have cP11 := putQ_any (byt_belowQ HY0.out hb11) (byt_own own11) (by omega) (by omega)
          clear cN11 own11 hb11
          go_wp2_with fail
          refine cP11.mono ?_
          rintro _ P11 ⟨pp11, cp11, rfl, op11, hp11⟩
          have hl11 : (lstI (fil en (sgsG S i) (datB D i)) (64 + 56 * j) ++ nums (1) 4).length = 64 + 56 * j + 4 := by rw [List.length_append, nums_len, HY0.out.1]
          dsimp only
          simp only [hl11] at op11 ⊢
          have HBp11 : Hid (Below V1.heap.size V1 P11) := HBa11.out.trans (hp11.mono HBa11.out.size)
          have HY11 : Hid (Byt P11 pp11 (64 + 56 * j + 4) cp11 (lstI (fil en (sgsG S i) (datB D i)) (64 + 56 * j) ++ nums (1) 4)) := byt_own op11
          clear cP11 op11 hp11 hl11
          have lk : P11.cell? ⟨wr.heap.size, 1, .none⟩ = some (.int .u32 (S j).fl) := (HBp11.out.cell (lt_of_cell HC1.out.b)).trans HC1.out.b
          have cN12 := number_any ((S j).fl) ⟨by omega, by omega⟩ 4 (by omega) P11
          go_wp2_with fail
          refine cN12.mono ?_
          rintro _ A12 ⟨pn12, cn12, rfl, own12, hb12⟩
          dsimp only
          simp only [nums_len] at own12 ⊢
          have HBa12 : Hid (Below V1.heap.size V1 A12) := HBp11.out.trans (hb12.mono HBp11.out.size)
          have cP12 := putQ_any (byt_belowQ HY11.out hb12) (byt_own own12) (by omega) (by omega)
          clear cN12 own12 hb12
          go_wp2_with fail
          refine cP12.mono ?_
          rintro _ P12 ⟨pp12, cp12, rfl, op12, hp12⟩
          have hl12 : (lstI (fil en (sgsG S i) (datB D i)) (64 + 56 * j) ++ nums (1) 4 ++ nums ((S j).fl) 4).length = 64 + 56 * j + 4 + 4 := by rw [List.length_append, nums_len, HY11.out.1]
          dsimp only
          simp only [hl12] at op12 ⊢
          have HBp12 : Hid (Below V1.heap.size V1 P12) := HBa12.out.trans (hp12.mono HBa12.out.size)
          have HY12 : Hid (Byt P12 pp12 (64 + 56 * j + 4 + 4) cp12 (lstI (fil en (sgsG S i) (datB D i)) (64 + 56 * j) ++ nums (1) 4 ++ nums ((S j).fl) 4)) := byt_own op12
          clear cP12 op12 hp12 hl12
          clear lk
          have cN13 := number_any (64 + 56 * (i : Int) + sumN S j) ⟨by omega, by omega⟩ 8 (by omega) P12
          go_wp2_with fail
          refine cN13.mono ?_
          rintro _ A13 ⟨pn13, cn13, rfl, own13, hb13⟩
          dsimp only
          simp only [nums_len] at own13 ⊢
          have HBa13 : Hid (Below V1.heap.size V1 A13) := HBp12.out.trans (hb13.mono HBp12.out.size)
          have cP13 := putQ_any (byt_belowQ HY12.out hb13) (byt_own own13) (by omega) (by omega)
          clear cN13 own13 hb13
          go_wp2_with fail
          refine cP13.mono ?_
          rintro _ P13 ⟨pp13, cp13, rfl, op13, hp13⟩
          have hl13 : (lstI (fil en (sgsG S i) (datB D i)) (64 + 56 * j) ++ nums (1) 4 ++ nums ((S j).fl) 4 ++ nums (64 + 56 * (i : Int) + sumN S j) 8).length = 64 + 56 * j + 4 + 4 + 8 := by rw [List.length_append, nums_len, HY12.out.1]
          dsimp only
          simp only [hl13] at op13 ⊢
          have HBp13 : Hid (Below V1.heap.size V1 P13) := HBa13.out.trans (hp13.mono HBa13.out.size)
          have HY13 : Hid (Byt P13 pp13 (64 + 56 * j + 4 + 4 + 8) cp13 (lstI (fil en (sgsG S i) (datB D i)) (64 + 56 * j) ++ nums (1) 4 ++ nums ((S j).fl) 4 ++ nums (64 + 56 * (i : Int) + sumN S j) 8)) := byt_own op13
          clear cP13 op13 hp13 hl13
          have lk : P13.cell? ⟨wr.heap.size, 0, .none⟩ = some (.int .u64 (S j).va) := (HBp13.out.cell (lt_of_cell HC1.out.a)).trans HC1.out.a
          have cN14 := number_any ((S j).va) hv 8 (by omega) P13
          go_wp2_with fail
          refine cN14.mono ?_
          rintro _ A14 ⟨pn14, cn14, rfl, own14, hb14⟩
          dsimp only
          simp only [nums_len] at own14 ⊢
          have HBa14 : Hid (Below V1.heap.size V1 A14) := HBp13.out.trans (hb14.mono HBp13.out.size)
          have cP14 := putQ_any (byt_belowQ HY13.out hb14) (byt_own own14) (by omega) (by omega)
          clear cN14 own14 hb14
          go_wp2_with fail
          refine cP14.mono ?_
          rintro _ P14 ⟨pp14, cp14, rfl, op14, hp14⟩
          have hl14 : (lstI (fil en (sgsG S i) (datB D i)) (64 + 56 * j) ++ nums (1) 4 ++ nums ((S j).fl) 4 ++ nums (64 + 56 * (i : Int) + sumN S j) 8 ++ nums ((S j).va) 8).length = 64 + 56 * j + 4 + 4 + 8 + 8 := by rw [List.length_append, nums_len, HY13.out.1]
          dsimp only
          simp only [hl14] at op14 ⊢
          have HBp14 : Hid (Below V1.heap.size V1 P14) := HBa14.out.trans (hp14.mono HBa14.out.size)
          have HY14 : Hid (Byt P14 pp14 (64 + 56 * j + 4 + 4 + 8 + 8) cp14 (lstI (fil en (sgsG S i) (datB D i)) (64 + 56 * j) ++ nums (1) 4 ++ nums ((S j).fl) 4 ++ nums (64 + 56 * (i : Int) + sumN S j) 8 ++ nums ((S j).va) 8)) := byt_own op14
          clear cP14 op14 hp14 hl14
          clear lk
          have lk : P14.cell? ⟨wr.heap.size, 0, .none⟩ = some (.int .u64 (S j).va) := (HBp14.out.cell (lt_of_cell HC1.out.a)).trans HC1.out.a
          have cN15 := number_any ((S j).va) hv 8 (by omega) P14
          go_wp2_with fail
          refine cN15.mono ?_
          rintro _ A15 ⟨pn15, cn15, rfl, own15, hb15⟩
          dsimp only
          simp only [nums_len] at own15 ⊢
          have HBa15 : Hid (Below V1.heap.size V1 A15) := HBp14.out.trans (hb15.mono HBp14.out.size)
          have cP15 := putQ_any (byt_belowQ HY14.out hb15) (byt_own own15) (by omega) (by omega)
          clear cN15 own15 hb15
          go_wp2_with fail
          refine cP15.mono ?_
          rintro _ P15 ⟨pp15, cp15, rfl, op15, hp15⟩
          have hl15 : (lstI (fil en (sgsG S i) (datB D i)) (64 + 56 * j) ++ nums (1) 4 ++ nums ((S j).fl) 4 ++ nums (64 + 56 * (i : Int) + sumN S j) 8 ++ nums ((S j).va) 8 ++ nums ((S j).va) 8).length = 64 + 56 * j + 4 + 4 + 8 + 8 + 8 := by rw [List.length_append, nums_len, HY14.out.1]
          dsimp only
          simp only [hl15] at op15 ⊢
          have HBp15 : Hid (Below V1.heap.size V1 P15) := HBa15.out.trans (hp15.mono HBa15.out.size)
          have HY15 : Hid (Byt P15 pp15 (64 + 56 * j + 4 + 4 + 8 + 8 + 8) cp15 (lstI (fil en (sgsG S i) (datB D i)) (64 + 56 * j) ++ nums (1) 4 ++ nums ((S j).fl) 4 ++ nums (64 + 56 * (i : Int) + sumN S j) 8 ++ nums ((S j).va) 8 ++ nums ((S j).va) 8)) := byt_own op15
          clear cP15 op15 hp15 hl15
          clear lk
          have lk : P15.cell? ⟨wr.heap.size, 2, .none⟩ = some (.slice (S j).q (S j).n (S j).c) := (HBp15.out.cell (lt_of_cell HC1.out.c)).trans HC1.out.c
          have cN16 := number_any (((S j).n : Int)) ⟨by omega, by omega⟩ 8 (by omega) P15
          go_wp2_with fail
          refine cN16.mono ?_
          rintro _ A16 ⟨pn16, cn16, rfl, own16, hb16⟩
          dsimp only
          simp only [nums_len] at own16 ⊢
          have HBa16 : Hid (Below V1.heap.size V1 A16) := HBp15.out.trans (hb16.mono HBp15.out.size)
          have cP16 := putQ_any (byt_belowQ HY15.out hb16) (byt_own own16) (by omega) (by omega)
          clear cN16 own16 hb16
          go_wp2_with fail
          refine cP16.mono ?_
          rintro _ P16 ⟨pp16, cp16, rfl, op16, hp16⟩
          have hl16 : (lstI (fil en (sgsG S i) (datB D i)) (64 + 56 * j) ++ nums (1) 4 ++ nums ((S j).fl) 4 ++ nums (64 + 56 * (i : Int) + sumN S j) 8 ++ nums ((S j).va) 8 ++ nums ((S j).va) 8 ++ nums (((S j).n : Int)) 8).length = 64 + 56 * j + 4 + 4 + 8 + 8 + 8 + 8 := by rw [List.length_append, nums_len, HY15.out.1]
          dsimp only
          simp only [hl16] at op16 ⊢
          have HBp16 : Hid (Below V1.heap.size V1 P16) := HBa16.out.trans (hp16.mono HBa16.out.size)
          have HY16 : Hid (Byt P16 pp16 (64 + 56 * j + 4 + 4 + 8 + 8 + 8 + 8) cp16 (lstI (fil en (sgsG S i) (datB D i)) (64 + 56 * j) ++ nums (1) 4 ++ nums ((S j).fl) 4 ++ nums (64 + 56 * (i : Int) + sumN S j) 8 ++ nums ((S j).va) 8 ++ nums ((S j).va) 8 ++ nums (((S j).n : Int)) 8)) := byt_own op16
          clear cP16 op16 hp16 hl16
          clear lk
          have lk : P16.cell? ⟨wr.heap.size, 3, .none⟩ = some (.int .u64 (S j).mem) := (HBp16.out.cell (lt_of_cell HC1.out.d)).trans HC1.out.d
          have cN17 := number_any ((S j).mem) hmm 8 (by omega) P16
          go_wp2_with fail
          refine cN17.mono ?_
          rintro _ A17 ⟨pn17, cn17, rfl, own17, hb17⟩
          dsimp only
          simp only [nums_len] at own17 ⊢
          have HBa17 : Hid (Below V1.heap.size V1 A17) := HBp16.out.trans (hb17.mono HBp16.out.size)
          have cP17 := putQ_any (byt_belowQ HY16.out hb17) (byt_own own17) (by omega) (by omega)
          clear cN17 own17 hb17
          go_wp2_with fail
          refine cP17.mono ?_
          rintro _ P17 ⟨pp17, cp17, rfl, op17, hp17⟩
          have hl17 : (lstI (fil en (sgsG S i) (datB D i)) (64 + 56 * j) ++ nums (1) 4 ++ nums ((S j).fl) 4 ++ nums (64 + 56 * (i : Int) + sumN S j) 8 ++ nums ((S j).va) 8 ++ nums ((S j).va) 8 ++ nums (((S j).n : Int)) 8 ++ nums ((S j).mem) 8).length = 64 + 56 * j + 4 + 4 + 8 + 8 + 8 + 8 + 8 := by rw [List.length_append, nums_len, HY16.out.1]
          dsimp only
          simp only [hl17] at op17 ⊢
          have HBp17 : Hid (Below V1.heap.size V1 P17) := HBa17.out.trans (hp17.mono HBa17.out.size)
          have HY17 : Hid (Byt P17 pp17 (64 + 56 * j + 4 + 4 + 8 + 8 + 8 + 8 + 8) cp17 (lstI (fil en (sgsG S i) (datB D i)) (64 + 56 * j) ++ nums (1) 4 ++ nums ((S j).fl) 4 ++ nums (64 + 56 * (i : Int) + sumN S j) 8 ++ nums ((S j).va) 8 ++ nums ((S j).va) 8 ++ nums (((S j).n : Int)) 8 ++ nums ((S j).mem) 8)) := byt_own op17
          clear cP17 op17 hp17 hl17
          clear lk
          have cN18 := number_any (4096) ⟨by decide, by decide⟩ 8 (by omega) P17
          go_wp2_with fail
          refine cN18.mono ?_
          rintro _ A18 ⟨pn18, cn18, rfl, own18, hb18⟩
          dsimp only
          simp only [nums_len] at own18 ⊢
          have HBa18 : Hid (Below V1.heap.size V1 A18) := HBp17.out.trans (hb18.mono HBp17.out.size)
          have cP18 := putQ_any (byt_belowQ HY17.out hb18) (byt_own own18) (by omega) (by omega)
          clear cN18 own18 hb18
          go_wp2_with fail
          refine cP18.mono ?_
          rintro _ P18 ⟨pp18, cp18, rfl, op18, hp18⟩
          have hl18 : (lstI (fil en (sgsG S i) (datB D i)) (64 + 56 * j) ++ nums (1) 4 ++ nums ((S j).fl) 4 ++ nums (64 + 56 * (i : Int) + sumN S j) 8 ++ nums ((S j).va) 8 ++ nums ((S j).va) 8 ++ nums (((S j).n : Int)) 8 ++ nums ((S j).mem) 8 ++ nums (4096) 8).length = 64 + 56 * j + 4 + 4 + 8 + 8 + 8 + 8 + 8 + 8 := by rw [List.length_append, nums_len, HY17.out.1]
          dsimp only
          simp only [hl18] at op18 ⊢
          have HBp18 : Hid (Below V1.heap.size V1 P18) := HBa18.out.trans (hp18.mono HBa18.out.size)
          have HY18 : Hid (Byt P18 pp18 (64 + 56 * j + 4 + 4 + 8 + 8 + 8 + 8 + 8 + 8) cp18 (lstI (fil en (sgsG S i) (datB D i)) (64 + 56 * j) ++ nums (1) 4 ++ nums ((S j).fl) 4 ++ nums (64 + 56 * (i : Int) + sumN S j) 8 ++ nums ((S j).va) 8 ++ nums ((S j).va) 8 ++ nums (((S j).n : Int)) 8 ++ nums ((S j).mem) 8 ++ nums (4096) 8)) := byt_own op18
          clear cP18 op18 hp18 hl18
          have lk : P18.cell? ⟨wr.heap.size, 2, .none⟩ = some (.slice (S j).q (S j).n (S j).c) := (HBp18.out.cell (lt_of_cell HC1.out.c)).trans HC1.out.c
          have HYn : Hid (Byt P18 pp18 (64 + 56 * (j + 1)) cp18 (lstI (fil en (sgsG S i) (datB D i)) (64 + 56 * (j + 1)))) := by
            have h := HY18.out
            show Byt _ _ _ _ _
            rw [filI_seg en (sgsG S i) (datB D i) j _ (sg_at hlj), show 64 + 56 * (j + 1) = 64 + 56 * j + 4 + 4 + 8 + 8 + 8 + 8 + 8 + 8 by omega]
            have e : (((64 + 56 * i + sumN S j : Nat) : Int)) = 64 + 56 * (i : Int) + sumN S j := by push_cast; rfl
            simp only [segL, e]
            simp only [List.append_assoc] at h ⊢
            exact h
          have HBn : Hid (Below WO.heap.size WO P18) := HR.out.2.trans ((HV1.out.trans (HBp18.out.mono HV1.out.size)).mono HR.out.2.size)
          go_wp2_with fail
          exact ⟨⟨j + 1, by omega, by simp, by rw [hs2]; congr 1; push_cast; omega, _, _, by simp; omega, HYn.out, HBn.out⟩, by simp [intOf]; omega⟩
        · have he' : j = i := by omega
          have hn9 : ¬ ((j : Int) < i) := by omega
          have HRe : Hid (Byt wr pb (64 + 56 * i + sumN S 0) cb (lstI (fil en (sgsG S i) (datB D i)) (64 + 56 * i + sumN S 0)) ∧ Below WO.heap.size WO wr) := by
            have h := HR.out
            rw [he'] at h
            exact h
          have hpb : (64 + 56 * j) = (64 + 56 * i + sumN S 0) := by rw [he']; rfl
          rw [hpb]
          clear hpb
          go_upto_region 37 with fail
          clear lc HR
          go_loopw [7, 11] (fun bb k W => ∃ j : Nat, j ≤ i ∧ k = .int .i64 j ∧ ∃ p c', bb = .slice p (64 + 56 * i + sumN S j) c' ∧ Hid ((Byt W p (64 + 56 * i + sumN S j) c' (lstI (fil en (sgsG S i) (datB D i)) (64 + 56 * i + sumN S j)) ∧ Below WO.heap.size WO W) ∧ (j = 0 ∨ ∀ b o, p = some ⟨b, o, .none⟩ → WO.heap.size ≤ b))) (fun _ k _ => (i - intOf k).toNat)
          case atStart => exact ⟨0, by omega, rfl, _, _, rfl, HRe.out, .inl rfl⟩
          case round =>
            obtain ⟨k, hk, rfl, pc, cc, rfl, HR0⟩ := hrel
            have HR : Hid (Byt wr pc (64 + 56 * i + sumN S k) cc (lstI (fil en (sgsG S i) (datB D i)) (64 + 56 * i + sumN S k)) ∧ Below WO.heap.size WO wr) := HR0.out.1
            have lc : wr.cell? ⟨w.heap.size, 1, .none⟩ = some (.slice q i c) := (HR.out.2.cell (lt_of_cell HL1.out)).trans HL1.out
            have hsk := sum_mono (S := S) k i hk
            by_cases hlk : k < i
            · have gk : (k : Int) < i := by omega
              obtain ⟨bb, oo, rfl, a0, a1, a2, a3⟩ := (HA4.out.below HR.out.2).seg hlk
              have hn := HZ.out k hlk
              have hdat := (HA4.out.below HR.out.2).dat k hlk
              have c27 := putQ_any HR.out.1 hdat (by omega) (by omega)
              have hlen : (lstI (fil en (sgsG S i) (datB D i)) (64 + 56 * i + sumN S k) ++ D k).length = 64 + 56 * i + sumN S (k + 1) := by
                rw [List.length_append, lstI_len, hdat.1]
                simp only [sumN]
                omega
              have HLe : Hid ((lstI (fil en (sgsG S i) (datB D i)) (64 + 56 * i + sumN S k) ++ D k).length = 64 + 56 * i + sumN S (k + 1)) := hlen
              have HLi : Hid (lstI (fil en (sgsG S i) (datB D i)) (64 + 56 * i + sumN S (k + 1)) = lstI (fil en (sgsG S i) (datB D i)) (64 + 56 * i + sumN S k) ++ D k) := by
                have e := filI_dat en (sgsG S i) (datB D i) HPl.out k _ (sg_at hlk)
                rw [sgsG_len, szs_sgs (k + 1) (by omega), szs_sgs k (by omega), datB_byt (fun x hx => (HA.out.dat x hx).1) (sg_at hlk)] at e
                exact e
              clear hdat a0 a1 a3 hlen
              go_wp2_with (first | (go_at_call 27; refine c27.mono ?_; rintro _ Pz ⟨pz, cz, rfl, oz, hbz⟩) | fail)
              have HNz : Hid (∀ b o, pz = some ⟨b, o, .none⟩ → WO.heap.size ≤ b) := fun b o e => by
                have hsz := HR.out.2.size
                rcases oz.2 with ⟨hv, _⟩ | ⟨g, cap, cur, hv, hbb, _⟩
                · injection hv with e1
                  rw [e1] at e
                  cases e
                · injection hv with e1
                  rw [e1] at e
                  injection e with e
                  injection e with e
                  omega
              have HYz : Hid (Byt Pz pz (64 + 56 * i + sumN S (k + 1)) cz (lstI (fil en (sgsG S i) (datB D i)) (64 + 56 * i + sumN S (k + 1)))) := by
                have h := byt_own oz
                rw [HLe.out] at h
                show Byt _ _ _ _ _
                rw [HLi.out]
                exact h
              exact ⟨⟨k + 1, by omega, by simp, pz, cz, by have := HLe.out; rw [List.length_append] at this; rw [this], ⟨HYz.out, HR.out.2.trans (hbz.mono HR.out.2.size)⟩, .inr HNz.out⟩, by simp [intOf]; omega⟩
            · have he2 : k = i := by omega
              have hn8 : ¬ ((k : Int) < i) := by omega
              subst he2
              have HBw : Hid (Below W1.heap.size W1 wr) := HB4w.out.trans (HR.out.2.mono HB4w.out.size)
              have HBwz : Hid (Below w.heap.size w wr) := HB1.out.trans (HBw.out.mono HB1.out.size)
              have g0 : wr.cell? ⟨pf, 0, .none⟩ = some (.slice .none 0 0) := (HR.out.2.cell (lt_of_cell HG0.out)).trans HG0.out
              have g1 : wr.cell? ⟨pf, 1, .none⟩ = some (.int .i64 0) := (HR.out.2.cell (lt_of_cell HG1.out)).trans HG1.out
              have bx0 : wr.cell? ⟨w.heap.size + 1, 0, .none⟩ = some (.slice .none 0 0) := (HBw.out.cell (lt_of_cell HQ2.out)).trans HQ2.out
              have bx1 : wr.cell? ⟨w.heap.size + 1, 1, .none⟩ = some (.int .i64 0) := (HBw.out.cell (lt_of_cell HQ3.out)).trans HQ3.out
              have fx0 : wr.frozen? ⟨w.heap.size + 1, 0, .none⟩ = false := (HBw.out.frozen (p := ⟨w.heap.size + 1, 0, .none⟩) (lt_of_cell HQ2.out)).trans (HQ4.out 0)
              have fx1 : wr.frozen? ⟨w.heap.size + 1, 1, .none⟩ = false := (HBw.out.frozen (p := ⟨w.heap.size + 1, 1, .none⟩) (lt_of_cell HQ3.out)).trans (HQ4.out 1)
              have HRf : Hid (RefR wr (.agg #[.slice .none 0 0, .int .i64 0]) 0 0) := .inr ⟨rfl, rfl⟩
              have HYf : Hid (Byt wr pc (64 + 56 * k + sumN S k) cc (lstI (fil en (sgsG S k) (datB D k)) (64 + 56 * k + sumN S k))) := HR.out.1
              have hk0 : 0 < k := by have := HGood.out.1; rwa [sgsG_len] at this
              have HNl : Hid (∀ b o, pc = some ⟨b, o, .none⟩ → w.heap.size ≤ b) := fun b o e => by
                rcases HR0.out.2 with h0 | h0
                · omega
                · have h1 := h0 b o e
                  have h2 : w.heap.size + 1 < W1.heap.size := lt_of_cell (x := ⟨w.heap.size + 1, 0, .none⟩) HQ2.out
                  have h3 := HB4w.out.size
                  omega
              have HNe : Hid (∀ b o, pc = some ⟨b, o, .none⟩ → b ≠ w.heap.size + 1) := fun b o e eb => by
                rcases HR0.out.2 with h0 | h0
                · omega
                · have h1 := h0 b o e
                  have h2 : w.heap.size + 1 < W1.heap.size := lt_of_cell (x := ⟨w.heap.size + 1, 0, .none⟩) HQ2.out
                  have h3 := HB4w.out.size
                  omega
              go_upto_region 40 with fail
              go_region
              go_wp2_with fail
              have hfin : ∀ VZ : World, VZ = (((wr).setCell ⟨w.heap.size + 1, 0, .none⟩ (.slice .none 0 0)).setCell ⟨w.heap.size + 1, 1, .none⟩ (.int .i64 0)).drew → WqP w en S D k (.returned (.tuple #[.slice pc (64 + 56 * k + sumN S k) cc, .agg #[.slice .none 0 0, .int .i64 0]])) VZ ∧ VZ.rangeAt (w.heap.size + 1) 0 [.slice .none 0 0, .int .i64 0] := fun VZ hVZ => by
                obtain ⟨g1, g2⟩ := fin_fault HRf.out bx0 bx1
                have hbz : Below w.heap.size w (((wr).setCell ⟨w.heap.size + 1, 0, .none⟩ (.slice .none 0 0)).setCell ⟨w.heap.size + 1, 1, .none⟩ (.int .i64 0)) := (HBwz.out.setCell (p := ⟨w.heap.size + 1, 0, .none⟩) (by show w.heap.size ≤ w.heap.size + 1; omega) _).setCell (p := ⟨w.heap.size + 1, 1, .none⟩) (by show w.heap.size ≤ w.heap.size + 1; omega) _
                have hbd : Below (((wr).setCell ⟨w.heap.size + 1, 0, .none⟩ (.slice .none 0 0)).setCell ⟨w.heap.size + 1, 1, .none⟩ (.int .i64 0)).heap.size (((wr).setCell ⟨w.heap.size + 1, 0, .none⟩ (.slice .none 0 0)).setCell ⟨w.heap.size + 1, 1, .none⟩ (.int .i64 0)) (((wr).setCell ⟨w.heap.size + 1, 0, .none⟩ (.slice .none 0 0)).setCell ⟨w.heap.size + 1, 1, .none⟩ (.int .i64 0)).drew := (Below.refl _ _).drew
                subst hVZ
                refine ⟨⟨hbz.trans (hbd.mono hbz.size), .inr (.inr ⟨HGood.out, hT, pc, cc, rfl, byt_belowQ (byt_set (byt_set HYf.out (fun b o e => HNe.out b o e) _) (fun b o e => HNe.out b o e) _) hbd, HNl.out⟩)⟩, fun j u hj => (hbd.cell (lt_of_cell (g2 j u hj))).trans (g2 j u hj)⟩
              have hfin := hfin _ rfl
              generalize (((wr).setCell ⟨w.heap.size + 1, 0, .none⟩ (.slice .none 0 0)).setCell ⟨w.heap.size + 1, 1, .none⟩ (.int .i64 0)).drew = VZ at *
              have hld := run_loadVar_mid (P := Tryd.prog) VZ (w.heap.size + 1) 0 35 _ _ hfin.2 Tryd.underlying35 rfl (by kernel_rfl)
              exact bodyPost_ret (v := .tuple #[.slice pc (64 + 56 * k + sumN S k) cc, .agg #[.slice .none 0 0, .int .i64 0]]) (results_tmp_cell (a := 2) (p := 3) (ty := 35) rfl _ _ ⟨w.heap.size + 1, 0, .none⟩ _ rfl hld) rfl hfin.1
end Go.Proofs.YtloldhcljdmofaaDoor
