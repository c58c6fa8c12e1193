import Derived.Test.YtblmkkhiojbcjaaGreatSNo
namespace Go.Proofs.YtblmkkhiojbcjaaGreat
open Go.RowKit
set_option linter.unusedVariables false
set_option linter.unusedSimpArgs false
/-- How many bytes of addresses an entry of a level serves. -/
def spn (l : Int) : Int := if l = 0 then 4096 else if l = 1 then 2097152 else if l = 2 then 1073741824 else 549755813888
theorem spn0 : spn 0 = 4096 := rfl
theorem spn1 : spn 1 = 2097152 := rfl
theorem spn2 : spn 2 = 1073741824 := rfl
theorem spn3 : spn 3 = 549755813888 := rfl
def ix (va l : Int) : Int := va / spn l % 512
theorem ix_b (va l : Int) : 0 ≤ ix va l ∧ ix va l < 512 := by unfold ix; omega
theorem span_any (l : Int) (hl : l = 0 ∨ l = 1 ∨ l = 2 ∨ l = 3) (w : World) : Calls Tryz.prog 136 #[.int .i64 l] w fun e w' => e = .returned (.int .u64 (spn l)) ∧ w' = w := by
  rcases hl with rfl | rfl | rfl | rfl
  all_goals
    go_enter Tryz.func136, Tryz.ntmps136
    go_wp2
    go_ret
    exact ⟨rfl, rfl⟩
theorem index_any (va l : Int) (hv : 0 ≤ va ∧ va < 18446744073709551616) (hl : l = 0 ∨ l = 1 ∨ l = 2) (w : World) : Calls Tryz.prog 137 #[.int .u64 va, .int .i64 l] w fun e w' => e = .returned (.int .u64 (ix va l)) ∧ w' = w := by
  rcases hl with rfl | rfl | rfl
  all_goals
    simp only [ix, spn0, spn1, spn2]
    go_enter Tryz.func137, Tryz.ntmps137
    go_wp2
    go_ret
    exact ⟨rfl, rfl⟩
theorem and_mask (i : Nat) (hi : i ≤ 64) (v : Int) (hv : 0 ≤ v ∧ v < 18446744073709551616) : bits .and .u64 v (2 ^ i - 1) = v % 2 ^ i :=
  bits_mask .u64 64 (by decide) wraps_u64 i hi v hv.1 hv.2
theorem inSpan_any (a l : Int) (hv : 0 ≤ a ∧ a < 18446744073709551616) (hl : l = 0 ∨ l = 1 ∨ l = 2 ∨ l = 3) (w : World) : Calls Tryz.prog 101 #[.int .u64 a, .int .i64 l] w fun e w' => e = .returned (.int .u64 (a % spn l)) ∧ w' = w := by
  have c := span_any l hl
  have m0 : Hid (bits .and .u64 a 4095 = a % 4096) := and_mask 12 (by omega) a hv
  have m1 : Hid (bits .and .u64 a 2097151 = a % 2097152) := and_mask 21 (by omega) a hv
  have m2 : Hid (bits .and .u64 a 1073741823 = a % 1073741824) := and_mask 30 (by omega) a hv
  have m3 : Hid (bits .and .u64 a 549755813887 = a % 549755813888) := and_mask 39 (by omega) a hv
  rcases hl with rfl | rfl | rfl | rfl
  all_goals
    simp only [spn0, spn1, spn2, spn3] at c ⊢
    go_enter Tryz.func101, Tryz.ntmps101
    go_wp2_with (go_at_call 136; refine (c _).mono ?_; rintro e w0 ⟨rfl, rfl⟩)
    go_ret
  · rw [← m0.out]; exact ⟨rfl, rfl⟩
  · rw [← m1.out]; exact ⟨rfl, rfl⟩
  · rw [← m2.out]; exact ⟨rfl, rfl⟩
  · rw [← m3.out]; exact ⟨rfl, rfl⟩
theorem mayBeNode_any (pa : Int) (hp : 0 ≤ pa ∧ pa < 18446744073709551616) (w : World) : Calls Tryz.prog 119 #[.int .u64 pa] w fun e w' => e = .returned (.bool (decide (pa % 4096 = 0 ∧ pa ≠ 2147483648))) ∧ w' = w := by
  by_cases k0 : pa % 4096 = 0
  · by_cases k1 : pa = 2147483648
    · have e : decide (pa % 4096 = 0 ∧ pa ≠ 2147483648) = false := by simp [k1]
      rw [e]
      go_enter Tryz.func119, Tryz.ntmps119
      go_wp2
      go_ret
      exact ⟨rfl, rfl⟩
    · have e : decide (pa % 4096 = 0 ∧ pa ≠ 2147483648) = true := by simp [k0, k1]
      rw [e]
      go_enter Tryz.func119, Tryz.ntmps119
      go_wp2
      go_ret
      exact ⟨by simp [k1], rfl⟩
  · have e : decide (pa % 4096 = 0 ∧ pa ≠ 2147483648) = false := by simp [k0]
    rw [e]
    go_enter Tryz.func119, Tryz.ntmps119
    go_wp2
    go_ret
    exact ⟨rfl, rfl⟩
end Go.Proofs.YtblmkkhiojbcjaaGreat
