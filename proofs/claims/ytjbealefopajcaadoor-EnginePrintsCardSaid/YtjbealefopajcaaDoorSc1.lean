import Derived.Test.YtjbealefopajcaaDoorSa
namespace Go.Proofs.YtjbealefopajcaaDoor
open Go Go.RowKit Rg
set_option linter.unusedVariables false
set_option linter.unusedSimpArgs false
/-! Numbers and files that a text may tell. -/
def fitN (n : Int) : Bool := decide (0 ≤ n) && decide (n ≤ 2147483647)
theorem isNumber_any (n : Int) (w : World) : Calls Tryd.prog 25 #[.int .i64 n] w fun e w' => e = .returned (.bool (fitN n)) ∧ w' = w := by
  by_cases h0 : 0 ≤ n
  · by_cases h1 : n ≤ 2147483647
    · go_enter Tryd.func25, Tryd.ntmps25
      go_wp2
      go_ret
      exact ⟨by unfold fitN; rw [decide_eq_true h0, decide_eq_true h1]; rfl, rfl⟩
    · go_enter Tryd.func25, Tryd.ntmps25
      go_wp2
      go_ret
      exact ⟨by unfold fitN; rw [decide_eq_true h0, decide_eq_false (by omega)]; rfl, rfl⟩
  · go_enter Tryd.func25, Tryd.ntmps25
    go_wp2
    go_ret
    exact ⟨by unfold fitN; rw [decide_eq_false (by omega)]; rfl, rfl⟩
theorem fits_any (n : Int) (w : World) : Calls Tryd.prog 33 #[.int .i64 n] w fun e w' => e = .returned (.bool (fitN n)) ∧ w' = w := by
  by_cases h0 : 0 ≤ n
  · by_cases h1 : n ≤ 2147483647
    · go_enter Tryd.func33, Tryd.ntmps33
      go_wp2
      go_ret
      exact ⟨by unfold fitN; rw [decide_eq_true h0, decide_eq_true h1]; rfl, rfl⟩
    · go_enter Tryd.func33, Tryd.ntmps33
      go_wp2
      go_ret
      exact ⟨by unfold fitN; rw [decide_eq_true h0, decide_eq_false (by omega)]; rfl, rfl⟩
  · go_enter Tryd.func33, Tryd.ntmps33
    go_wp2
    go_ret
    exact ⟨by unfold fitN; rw [decide_eq_false (by omega)]; rfl, rfl⟩
/-- May a file of n bytes be told? -/
def okF (ty mj mn : Int) (n : Nat) : Bool := if ty = 1 then decide (n = 0) && (decide (mj = 0) && decide (mn = 0)) else if ty = 2 then decide (mj = 0) && decide (mn = 0) else if ty = 3 then decide (n = 0) else false
set_option maxHeartbeats 2000000 in
theorem isFile_any (ib : ByteArray) (ty mj mn : Int) (dp : Option Addr) (n dc : Nat) (w : World) : Calls Tryd.prog 26 #[.agg #[.string ib, .int .i64 ty, .int .i16 mj, .int .i16 mn, .slice dp n dc]] w fun e w' => e = .returned (.bool (okF ty mj mn n)) ∧ Below w.heap.size w w' := by
  obtain ⟨R, hR⟩ : ∃ R, R = okF ty mj mn n := ⟨_, rfl⟩
  rw [← hR]
  have HR : Hid (R = okF ty mj mn n) := hR
  clear hR
  go_enter Tryd.func26, Tryd.ntmps26
  go_upto_region 1 with fail
  obtain ⟨W, hW⟩ : ∃ W, W = w.alloc (.cells #[.string ib, .int .i64 ty, .int .i16 mj, .int .i16 mn, .slice dp n dc] 43) := ⟨_, rfl⟩
  have HB : Hid (Below w.heap.size w W) := by rw [hW]; exact below1 _ _
  have c1 : W.cell? ⟨w.heap.size, 1, .none⟩ = some (.int .i64 ty) := by rw [hW]; simp
  have c2 : W.cell? ⟨w.heap.size, 2, .none⟩ = some (.int .i16 mj) := by rw [hW]; simp
  have c3 : W.cell? ⟨w.heap.size, 3, .none⟩ = some (.int .i16 mn) := by rw [hW]; simp
  have c4 : W.cell? ⟨w.heap.size, 4, .none⟩ = some (.slice dp n dc) := by rw [hW]; simp
  rw [← hW]
  clear hW
  have fin : ∀ b : Bool, okF ty mj mn n = b → Ending.returned (.bool b) = .returned (.bool R) := fun b h => by rw [HR.out, h]
  have HN : Hid (((n : Int) = 0 → n = 0) ∧ (¬ (n : Int) = 0 → ¬ n = 0)) := ⟨by omega, by omega⟩
  have HF : Hid (∀ b : Bool, okF ty mj mn n = b → Ending.returned (.bool b) = .returned (.bool R)) := fin
  clear fin
  by_cases n0 : (n : Int) = 0 <;> by_cases m0 : mj = 0 <;> by_cases m1 : mn = 0 <;> by_cases t1 : ty = 1 <;> by_cases t2 : ty = 2 <;> by_cases t3 : ty = 3
  all_goals (try (exfalso; omega))
  all_goals
    go_wp2
    go_ret
    refine ⟨HF.out _ ?_, HB.out⟩
    first | (have n1 := HN.out.1 n0; simp [okF, n1, m0, m1, t1, t2, t3]) | (have n1 := HN.out.2 n0; simp [okF, n1, m0, m1, t1, t2, t3])
set_option maxHeartbeats 2000000 in
theorem told_any (ib : ByteArray) (ty mj mn : Int) (dp : Option Addr) (n dc : Nat) (w : World) : Calls Tryd.prog 34 #[.agg #[.string ib, .int .i64 ty, .int .i16 mj, .int .i16 mn, .slice dp n dc]] w fun e w' => e = .returned (.bool (okF ty mj mn n)) ∧ Below w.heap.size w w' := by
  obtain ⟨R, hR⟩ : ∃ R, R = okF ty mj mn n := ⟨_, rfl⟩
  rw [← hR]
  have HR : Hid (R = okF ty mj mn n) := hR
  clear hR
  go_enter Tryd.func34, Tryd.ntmps34
  go_upto_region 1 with fail
  obtain ⟨W, hW⟩ : ∃ W, W = w.alloc (.cells #[.string ib, .int .i64 ty, .int .i16 mj, .int .i16 mn, .slice dp n dc] 43) := ⟨_, rfl⟩
  have HB : Hid (Below w.heap.size w W) := by rw [hW]; exact below1 _ _
  have c1 : W.cell? ⟨w.heap.size, 1, .none⟩ = some (.int .i64 ty) := by rw [hW]; simp
  have c2 : W.cell? ⟨w.heap.size, 2, .none⟩ = some (.int .i16 mj) := by rw [hW]; simp
  have c3 : W.cell? ⟨w.heap.size, 3, .none⟩ = some (.int .i16 mn) := by rw [hW]; simp
  have c4 : W.cell? ⟨w.heap.size, 4, .none⟩ = some (.slice dp n dc) := by rw [hW]; simp
  rw [← hW]
  clear hW
  have fin : ∀ b : Bool, okF ty mj mn n = b → Ending.returned (.bool b) = .returned (.bool R) := fun b h => by rw [HR.out, h]
  have HN : Hid (((n : Int) = 0 → n = 0) ∧ (¬ (n : Int) = 0 → ¬ n = 0)) := ⟨by omega, by omega⟩
  have HF : Hid (∀ b : Bool, okF ty mj mn n = b → Ending.returned (.bool b) = .returned (.bool R)) := fin
  clear fin
  by_cases n0 : (n : Int) = 0 <;> by_cases m0 : mj = 0 <;> by_cases m1 : mn = 0 <;> by_cases t1 : ty = 1 <;> by_cases t2 : ty = 2 <;> by_cases t3 : ty = 3
  all_goals (try (exfalso; omega))
  all_goals
    go_wp2
    go_ret
    refine ⟨HF.out _ ?_, HB.out⟩
    first | (have n1 := HN.out.1 n0; simp [okF, n1, m0, m1, t1, t2, t3]) | (have n1 := HN.out.2 n0; simp [okF, n1, m0, m1, t1, t2, t3])
end Go.Proofs.YtjbealefopajcaaDoor
