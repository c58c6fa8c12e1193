import Derived.Test.YtfafinjbobmafabTaken
namespace Go.Proofs.Ytfafinjbobmafab
open Go.RowKit
set_option linter.unusedVariables false
theorem fRd_eq (s x : Int) : fRd s x = if hRd s then pc x 7 5 else 0 := by
  unfold fRd hRd
  by_cases h : s = 6 ∨ s = 7 ∨ s = 11 ∨ s = 12 <;> simp [h]
theorem fRs1_eq (s x : Int) : fRs1 s x = if hRs1 s then pc x 15 5 else 0 := by
  unfold fRs1 hRs1
  by_cases h : s = 8 ∨ s = 9 ∨ s = 11 ∨ s = 14 <;> simp [h]
theorem fRs2_eq (s x : Int) : fRs2 s x = if hRs2 s then pc x 20 5 else 0 := by
  unfold fRs2 hRs2
  by_cases h : s = 1 ∨ s = 6 ∨ s = 7 ∨ s = 12 <;> simp [h]
theorem fCsr_eq (s x : Int) : fCsr s x = if hCsr s then pc x 20 12 else 0 := by
  unfold fCsr hCsr
  by_cases h : s = 13 ∨ s = 14 <;> simp [h]
theorem combos (s : Int) (hs0 : 1 ≤ s) (hs1 : s ≤ 14) : ∃ q1 q2 q3 q5, hRd s = q1 ∧ hRs1 s = q2 ∧ hRs2 s = q3 ∧ hCsr s = q5 ∧ ((q1 = true ∧ q2 = true ∧ q3 = true ∧ q5 = false) ∨ (q1 = true ∧ q2 = true ∧ q3 = false ∧ q5 = false) ∨ (q1 = false ∧ q2 = true ∧ q3 = true ∧ q5 = false) ∨ (q1 = true ∧ q2 = false ∧ q3 = false ∧ q5 = false) ∨ (q1 = false ∧ q2 = false ∧ q3 = false ∧ q5 = false) ∨ (q1 = true ∧ q2 = true ∧ q3 = false ∧ q5 = true) ∨ (q1 = true ∧ q2 = false ∧ q3 = false ∧ q5 = true)) := by
  refine ⟨_, _, _, _, rfl, rfl, rfl, rfl, ?_⟩
  rcases shapes14 s hs0 hs1 with rfl | rfl | rfl | rfl | rfl | rfl | rfl | rfl | rfl | rfl | rfl | rfl | rfl | rfl <;> decide
set_option maxHeartbeats 4000000 in
theorem guess_any (op s x : Int) (w : World) (hs0 : 1 ≤ s) (hs1 : s ≤ 14) (hx0 : 0 ≤ x) (hx1 : x < 4294967296) :
    Calls Try.prog 17 #[.int .i64 op, .int .i64 s, .int .u32 x] w fun e w' => e = .returned (.agg #[.int .i64 op, .int .i64 (fRd s x), .int .i64 (fRs1 s x), .int .i64 (fRs2 s x), .int .i64 (tk s x), .int .i64 (fCsr s x)]) ∧ Below w.heap.size w w' := by
  have hH := fun w => has_any s w hs0 hs1
  have hT := fun w => taken_any s x w hs0 hs1 hx0 hx1
  rw [fRd_eq, fRs1_eq, fRs2_eq, fCsr_eq]
  obtain ⟨q1, q2, q3, q5, e1, e2, e3, e5, hc⟩ := combos s hs0 hs1
  simp only [e1, e2, e3, e5] at hH ⊢
  clear e1 e2 e3 e5
  generalize hImm s = q4 at *
  generalize tk s x = d4 at *
  have a1 := (pc_bd x 7 5).1
  have a2 : pc x 7 5 < 32 := (pc_bd x 7 5).2
  have a3 := (pc_bd x 15 5).1
  have a4 : pc x 15 5 < 32 := (pc_bd x 15 5).2
  have a5 := (pc_bd x 20 5).1
  have a6 : pc x 20 5 < 32 := (pc_bd x 20 5).2
  have a7 := (pc_bd x 20 12).1
  have a8 : pc x 20 12 < 4096 := (pc_bd x 20 12).2
  go_enter Try.func17, Try.ntmps17
  go_wp2_with fail
  refine (hH _).mono ?_
  rintro e w1 ⟨rfl, hb⟩
  clear hH
  have hz := hb.size
  simp only [World.size_alloc] at hz
  have y0 : w.heap.size < w1.heap.size := by omega
  have r1 := row6_keep hb (by simp only [World.size_alloc]; omega) (row6_new w (.int .i64 0) (.int .i64 0) (.int .i64 0) (.int .i64 0) (.int .i64 0) (.int .i64 0) 27)
  have f1 : ∀ j, w1.frozen? ⟨w.heap.size, j, .none⟩ = false := fun j => (hb.frozen (p := ⟨w.heap.size, j, .none⟩) (by show w.heap.size < _; simp only [World.size_alloc]; omega)).trans (by simp)
  have hB : Below w.heap.size w w1 := (below_past _ _).trans (hb.mono (by simp only [World.size_alloc]; omega))
  obtain ⟨k0, k1, k2, k3, k4, k5⟩ := r1
  clear hb
  go_wp2_with fail
  refine (hT _).mono ?_
  rintro e w2 ⟨rfl, rfl⟩
  clear hT
  rcases hc with ⟨rfl, rfl, rfl, rfl⟩ | ⟨rfl, rfl, rfl, rfl⟩ | ⟨rfl, rfl, rfl, rfl⟩ | ⟨rfl, rfl, rfl, rfl⟩ | ⟨rfl, rfl, rfl, rfl⟩ | ⟨rfl, rfl, rfl, rfl⟩ | ⟨rfl, rfl, rfl, rfl⟩
  · go_wp2_with fail
    refine (cut_11_7 x _ hx0 hx1).mono ?_
    rintro e w3 ⟨rfl, rfl⟩
    go_wp2_with fail
    refine (cut_19_15 x _ hx0 hx1).mono ?_
    rintro e w3 ⟨rfl, rfl⟩
    go_wp2_with fail
    refine (cut_24_20 x _ hx0 hx1).mono ?_
    rintro e w3 ⟨rfl, rfl⟩
    go_wp2
    refine bodyPost_ret (v := .agg #[.int .i64 (op), .int .i64 (pc x 7 5), .int .i64 (pc x 15 5), .int .i64 (pc x 20 5), .int .i64 (d4), .int .i64 (0)]) (by simp [results, Try.results17, go_sem, y0, k0, k1, k2, k3, k4, k5]) rfl ⟨rfl, ?_⟩
    exact (((((((hB.setCell (Nat.le_refl _) _).setCell (Nat.le_refl _) _).setCell (Nat.le_refl _) _).setCell (Nat.le_refl _) _).setCell (Nat.le_refl _) _).setCell (Nat.le_refl _) _).alloc (by simp; omega) _).alloc (by simp; omega) _
  · go_wp2_with fail
    refine (cut_11_7 x _ hx0 hx1).mono ?_
    rintro e w3 ⟨rfl, rfl⟩
    go_wp2_with fail
    refine (cut_19_15 x _ hx0 hx1).mono ?_
    rintro e w3 ⟨rfl, rfl⟩
    go_wp2
    refine bodyPost_ret (v := .agg #[.int .i64 (op), .int .i64 (pc x 7 5), .int .i64 (pc x 15 5), .int .i64 (0), .int .i64 (d4), .int .i64 (0)]) (by simp [results, Try.results17, go_sem, y0, k0, k1, k2, k3, k4, k5]) rfl ⟨rfl, ?_⟩
    exact (((((((hB.setCell (Nat.le_refl _) _).setCell (Nat.le_refl _) _).setCell (Nat.le_refl _) _).setCell (Nat.le_refl _) _).setCell (Nat.le_refl _) _).setCell (Nat.le_refl _) _).alloc (by simp; omega) _).alloc (by simp; omega) _
  · go_wp2_with fail
    refine (cut_19_15 x _ hx0 hx1).mono ?_
    rintro e w3 ⟨rfl, rfl⟩
    go_wp2_with fail
    refine (cut_24_20 x _ hx0 hx1).mono ?_
    rintro e w3 ⟨rfl, rfl⟩
    go_wp2
    refine bodyPost_ret (v := .agg #[.int .i64 (op), .int .i64 (0), .int .i64 (pc x 15 5), .int .i64 (pc x 20 5), .int .i64 (d4), .int .i64 (0)]) (by simp [results, Try.results17, go_sem, y0, k0, k1, k2, k3, k4, k5]) rfl ⟨rfl, ?_⟩
    exact (((((((hB.setCell (Nat.le_refl _) _).setCell (Nat.le_refl _) _).setCell (Nat.le_refl _) _).setCell (Nat.le_refl _) _).setCell (Nat.le_refl _) _).setCell (Nat.le_refl _) _).alloc (by simp; omega) _).alloc (by simp; omega) _
  · go_wp2_with fail
    refine (cut_11_7 x _ hx0 hx1).mono ?_
    rintro e w3 ⟨rfl, rfl⟩
    go_wp2
    refine bodyPost_ret (v := .agg #[.int .i64 (op), .int .i64 (pc x 7 5), .int .i64 (0), .int .i64 (0), .int .i64 (d4), .int .i64 (0)]) (by simp [results, Try.results17, go_sem, y0, k0, k1, k2, k3, k4, k5]) rfl ⟨rfl, ?_⟩
    exact (((((((hB.setCell (Nat.le_refl _) _).setCell (Nat.le_refl _) _).setCell (Nat.le_refl _) _).setCell (Nat.le_refl _) _).setCell (Nat.le_refl _) _).setCell (Nat.le_refl _) _).alloc (by simp; omega) _).alloc (by simp; omega) _
  · go_wp2
    refine bodyPost_ret (v := .agg #[.int .i64 (op), .int .i64 (0), .int .i64 (0), .int .i64 (0), .int .i64 (d4), .int .i64 (0)]) (by simp [results, Try.results17, go_sem, y0, k0, k1, k2, k3, k4, k5]) rfl ⟨rfl, ?_⟩
    exact (((((((hB.setCell (Nat.le_refl _) _).setCell (Nat.le_refl _) _).setCell (Nat.le_refl _) _).setCell (Nat.le_refl _) _).setCell (Nat.le_refl _) _).setCell (Nat.le_refl _) _).alloc (by simp; omega) _).alloc (by simp; omega) _
  · go_wp2_with fail
    refine (cut_11_7 x _ hx0 hx1).mono ?_
    rintro e w3 ⟨rfl, rfl⟩
    go_wp2_with fail
    refine (cut_19_15 x _ hx0 hx1).mono ?_
    rintro e w3 ⟨rfl, rfl⟩
    go_wp2_with fail
    refine (cut_31_20 x _ hx0 hx1).mono ?_
    rintro e w3 ⟨rfl, rfl⟩
    go_wp2
    refine bodyPost_ret (v := .agg #[.int .i64 (op), .int .i64 (pc x 7 5), .int .i64 (pc x 15 5), .int .i64 (0), .int .i64 (d4), .int .i64 (pc x 20 12)]) (by simp [results, Try.results17, go_sem, y0, k0, k1, k2, k3, k4, k5]) rfl ⟨rfl, ?_⟩
    exact (((((((hB.setCell (Nat.le_refl _) _).setCell (Nat.le_refl _) _).setCell (Nat.le_refl _) _).setCell (Nat.le_refl _) _).setCell (Nat.le_refl _) _).setCell (Nat.le_refl _) _).alloc (by simp; omega) _).alloc (by simp; omega) _
  · go_wp2_with fail
    refine (cut_11_7 x _ hx0 hx1).mono ?_
    rintro e w3 ⟨rfl, rfl⟩
    go_wp2_with fail
    refine (cut_31_20 x _ hx0 hx1).mono ?_
    rintro e w3 ⟨rfl, rfl⟩
    go_wp2
    refine bodyPost_ret (v := .agg #[.int .i64 (op), .int .i64 (pc x 7 5), .int .i64 (0), .int .i64 (0), .int .i64 (d4), .int .i64 (pc x 20 12)]) (by simp [results, Try.results17, go_sem, y0, k0, k1, k2, k3, k4, k5]) rfl ⟨rfl, ?_⟩
    exact (((((((hB.setCell (Nat.le_refl _) _).setCell (Nat.le_refl _) _).setCell (Nat.le_refl _) _).setCell (Nat.le_refl _) _).setCell (Nat.le_refl _) _).setCell (Nat.le_refl _) _).alloc (by simp; omega) _).alloc (by simp; omega) _
end Go.Proofs.Ytfafinjbobmafab
