import Derived.Test.YtpdlcjcigeegjaaDoorPg7
namespace Go.Proofs.YtpdlcjcigeegjaaDoor
open Go.RowKit
set_option linter.unusedVariables false
set_option linter.unusedSimpArgs false
def smB : Nat → Int := fun k => if k = 120 then 115 else 0
def smS : Sg := ⟨0, 5, 4, 120, 4⟩
theorem sm_good : Good 0 [smS] := by
  refine ⟨by decide, by decide, ?_, by decide⟩
  intro i s hi hs
  have : i = 0 := by simpa using hi
  subst this
  simp only [List.getElem?_cons_zero, Option.some.injEq] at hs
  subst hs
  exact ⟨by decide, by decide⟩
theorem sm_plc : Plc [smS] := by
  intro i s hs
  have h := (List.getElem?_eq_some_iff.1 hs).1
  have : i = 0 := by simpa using h
  subst this
  simp only [List.getElem?_cons_zero, Option.some.injEq] at hs
  subst hs
  rfl
set_option maxHeartbeats 2000000 in
set_option maxRecDepth 100000 in
theorem small_any (w : World) : Calls Tryd.prog 6 #[] w fun e w' => ∃ g c, e = .returned (.agg #[.int .u64 0, .slice (some ⟨w.heap.size + 2, 0, .none⟩) 1 1]) ∧ Prs w' w.heap.size (.slice (some ⟨w.heap.size + 2, 0, .none⟩) 1 1) [(smS, .slice (some ⟨g, 0, .none⟩) 4 c)] smB ∧ Below w.heap.size w w' := by
  go_enter Tryd.func6, Tryd.ntmps6
  go_wp2_with fail
  have e2 : w.heap.size + 1 + 1 = w.heap.size + 2 := rfl
  rw [e2]
  clear e2
  have s1 : (w.alloc (.cells #[.int .u64 0, .slice (some ⟨w.heap.size + 2, 0, .none⟩) 1 1] 30)).heap.size = w.heap.size + 1 := World.size_alloc ..
  have s2 : ((w.alloc (.cells #[.int .u64 0, .slice (some ⟨w.heap.size + 2, 0, .none⟩) 1 1] 30)).alloc (.cells #[.int .u8 115, .int .u8 0, .int .u8 0, .int .u8 0] 5)).heap.size = w.heap.size + 2 := by rw [World.size_alloc, s1]
  have hb : Below w.heap.size w (((w.alloc (.cells #[.int .u64 0, .slice (some ⟨w.heap.size + 2, 0, .none⟩) 1 1] 30)).alloc (.cells #[.int .u8 115, .int .u8 0, .int .u8 0, .int .u8 0] 5)).alloc (.cells #[.int .u64 0, .int .u32 5, .slice (some ⟨w.heap.size + 1, 0, .none⟩) 4 4, .int .u64 4] 38)) := (((Below.refl _ _).alloc (Nat.le_refl _) _).alloc (by rw [s1]; omega) _).alloc (by rw [s2]; omega) _
  have h0 : (((w.alloc (.cells #[.int .u64 0, .slice (some ⟨w.heap.size + 2, 0, .none⟩) 1 1] 30)).alloc (.cells #[.int .u8 115, .int .u8 0, .int .u8 0, .int .u8 0] 5)).alloc (.cells #[.int .u64 0, .int .u32 5, .slice (some ⟨w.heap.size + 1, 0, .none⟩) 4 4, .int .u64 4] 38)).cell? ⟨w.heap.size, 0, .none⟩ = some (.int .u64 0) := by
    rw [World.cell?_alloc_past _ _ _ (by rw [s2]; show w.heap.size < _; omega), World.cell?_alloc_past _ _ _ (by rw [s1]; show w.heap.size < _; omega), World.cell?_alloc_at _ _ _ _ rfl]
    rfl
  have h1 : (((w.alloc (.cells #[.int .u64 0, .slice (some ⟨w.heap.size + 2, 0, .none⟩) 1 1] 30)).alloc (.cells #[.int .u8 115, .int .u8 0, .int .u8 0, .int .u8 0] 5)).alloc (.cells #[.int .u64 0, .int .u32 5, .slice (some ⟨w.heap.size + 1, 0, .none⟩) 4 4, .int .u64 4] 38)).cell? ⟨w.heap.size, 1, .none⟩ = some (.slice (some ⟨w.heap.size + 2, 0, .none⟩) 1 1) := by
    rw [World.cell?_alloc_past _ _ _ (by rw [s2]; show w.heap.size < _; omega), World.cell?_alloc_past _ _ _ (by rw [s1]; show w.heap.size < _; omega), World.cell?_alloc_at _ _ _ _ rfl]
    rfl
  have b1 : (((w.alloc (.cells #[.int .u64 0, .slice (some ⟨w.heap.size + 2, 0, .none⟩) 1 1] 30)).alloc (.cells #[.int .u8 115, .int .u8 0, .int .u8 0, .int .u8 0] 5)).alloc (.cells #[.int .u64 0, .int .u32 5, .slice (some ⟨w.heap.size + 1, 0, .none⟩) 4 4, .int .u64 4] 38)).heap[w.heap.size + 1]? = some (.cells #[.int .u8 115, .int .u8 0, .int .u8 0, .int .u8 0] 5 (0, 0)) := by
    rw [Below.heap_alloc _ _ _ (by rw [s2]; omega)]
    have := heap_new (w.alloc (.cells #[.int .u64 0, .slice (some ⟨w.heap.size + 2, 0, .none⟩) 1 1] 30)) (.cells #[.int .u8 115, .int .u8 0, .int .u8 0, .int .u8 0] 5)
    rwa [s1] at this
  have b2 : (((w.alloc (.cells #[.int .u64 0, .slice (some ⟨w.heap.size + 2, 0, .none⟩) 1 1] 30)).alloc (.cells #[.int .u8 115, .int .u8 0, .int .u8 0, .int .u8 0] 5)).alloc (.cells #[.int .u64 0, .int .u32 5, .slice (some ⟨w.heap.size + 1, 0, .none⟩) 4 4, .int .u64 4] 38)).heap[w.heap.size + 2]? = some (.cells #[.int .u64 0, .int .u32 5, .slice (some ⟨w.heap.size + 1, 0, .none⟩) 4 4, .int .u64 4] 38 (0, 0)) := by
    have := heap_new ((w.alloc (.cells #[.int .u64 0, .slice (some ⟨w.heap.size + 2, 0, .none⟩) 1 1] 30)).alloc (.cells #[.int .u8 115, .int .u8 0, .int .u8 0, .int .u8 0] 5)) (.cells #[.int .u64 0, .int .u32 5, .slice (some ⟨w.heap.size + 1, 0, .none⟩) 4 4, .int .u64 4] 38)
    rwa [s2] at this
  generalize (((w.alloc (.cells #[.int .u64 0, .slice (some ⟨w.heap.size + 2, 0, .none⟩) 1 1] 30)).alloc (.cells #[.int .u8 115, .int .u8 0, .int .u8 0, .int .u8 0] 5)).alloc (.cells #[.int .u64 0, .int .u32 5, .slice (some ⟨w.heap.size + 1, 0, .none⟩) 4 4, .int .u64 4] 38)) = V9 at *
  have hP : Prs V9 w.heap.size (.slice (some ⟨w.heap.size + 2, 0, .none⟩) 1 1) [(smS, .slice (some ⟨w.heap.size + 1, 0, .none⟩) 4 4)] smB := by
    refine ⟨⟨rfl, .inr ⟨w.heap.size + 2, 1, _, rfl, by omega, b2, Nat.le_refl 1, (by decide : 1 ≤ maxLen), rfl, rfl⟩⟩, ?_, ?_, ?_, ?_, ?_⟩
    · intro x hx
      rw [List.mem_singleton] at hx
      subst hx
      exact ⟨rfl, .inr ⟨w.heap.size + 1, 4, _, rfl, by omega, b1, Nat.le_refl 4, (by decide : 4 ≤ maxLen), rfl, rfl⟩⟩
    all_goals
      intro x hx
      rw [List.mem_singleton] at hx
      subst hx
      first | exact (by decide : 0 ≤ smS.va ∧ smS.va < 18446744073709551616) | exact (by decide : 0 ≤ smS.fl ∧ smS.fl < 4294967296) | exact (by decide : 0 ≤ smS.mem ∧ smS.mem < 18446744073709551616) | exact (by decide : smS.sz ≤ 400000)
  have hr9 : V9.rangeAt w.heap.size 0 [.int .u64 0, .slice (some ⟨w.heap.size + 2, 0, .none⟩) 1 1] := by
    intro j v hj
    rw [Nat.zero_add]
    match j, hj with
    | 0, hj => injection hj with hj; subst hj; exact h0
    | 1, hj => injection hj with hj; subst hj; exact h1
  have hld := run_loadVar_mid (P := Tryd.prog) V9 w.heap.size 0 30 _ _ hr9 Tryd.underlying30 rfl (by kernel_rfl)
  exact bodyPost_ret (v := .agg #[.int .u64 0, .slice (some ⟨w.heap.size + 2, 0, .none⟩) 1 1]) (results_cell_any (p := 0) (ty := 30) rfl _ _ ⟨w.heap.size, 0, .none⟩ _ rfl hld) rfl ⟨_, _, rfl, hP, hb⟩
end Go.Proofs.YtpdlcjcigeegjaaDoor
