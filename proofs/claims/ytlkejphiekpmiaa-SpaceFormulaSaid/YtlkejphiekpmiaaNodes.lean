import Derived.Test.YtlkejphiekpmiaaRows
import Derived.WalkKit
import Derived.WalkSpells
import Derived.RowKit3
import Derived.LoopTactic
import Derived.Below
import Derived.WalkSmall
import Derived.Laws.Cover3
import Derived.Deep.QuietTactic
import Derived.BigQuiet
namespace Go.Proofs.Ytlkejphiekpmiaa
open Go.RowKit
set_option linter.unusedVariables false
def ndN (n : Int) : Int := if n < 0 ∨ 4096 < n then 0 else if n = 0 then 3 else 4 + (n + 511) / 512
set_option maxHeartbeats 1000000 in
theorem nodes_any (n : Int) (w : World) : Calls Try.prog 4 #[.int .i64 n] w fun e w' => e = .returned (.int .i64 (ndN n)) ∧ w' = w := by
  by_cases k0 : n < 0
  · have e : ndN n = 0 := by simp [ndN, k0]
    rw [e]
    go_enter Try.func4, Try.ntmps4
    go_wp2
    go_ret
    exact ⟨rfl, rfl⟩
  · by_cases k1 : 4096 < n
    · have e : ndN n = 0 := by simp [ndN, k1]
      rw [e]
      go_enter Try.func4, Try.ntmps4
      go_wp2
      go_ret
      exact ⟨rfl, rfl⟩
    · by_cases k2 : n = 0
      · subst k2
        have e : ndN 0 = 3 := by simp [ndN]
        rw [e]
        go_enter Try.func4, Try.ntmps4
        go_wp2
        go_ret
        exact ⟨rfl, rfl⟩
      · have e : ndN n = 4 + (n + 512 - 1) / 512 := by simp [ndN, k0, k1, k2]; omega
        rw [e]
        go_enter Try.func4, Try.ntmps4
        go_wp2
        go_ret
        exact ⟨rfl, rfl⟩
set_option maxHeartbeats 1000000 in
theorem nodesQ_any (n : Int) (w : World) : Calls Try.prog 5 #[.int .i64 n] w fun e w' => e = .returned (.int .i64 (ndN n)) ∧ w' = w := by
  by_cases k0 : n < 0
  · have e : ndN n = 0 := by simp [ndN, k0]
    rw [e]
    go_enter Try.func5, Try.ntmps5
    go_wp2
    go_ret
    exact ⟨rfl, rfl⟩
  · by_cases k1 : 4096 < n
    · have e : ndN n = 0 := by simp [ndN, k1]
      rw [e]
      go_enter Try.func5, Try.ntmps5
      go_wp2
      go_ret
      exact ⟨rfl, rfl⟩
    · by_cases k2 : n = 0
      · subst k2
        have e : ndN 0 = 3 := by simp [ndN]
        rw [e]
        go_enter Try.func5, Try.ntmps5
        go_wp2
        go_ret
        exact ⟨rfl, rfl⟩
      · have e : ndN n = 4 + (n + 511) / 512 := by simp [ndN, k0, k1, k2]
        rw [e]
        go_enter Try.func5, Try.ntmps5
        go_wp2
        go_ret
        exact ⟨rfl, rfl⟩
theorem formula_walk (n : Int) (w : World) : Calls Try.prog 3 #[.int .i64 n] w fun e w' => e = .returned (.bool true) ∧ Below w.heap.size w w' := by
  have c0 := nodes_any n
  have c1 := nodesQ_any n
  go_enter Try.func3, Try.ntmps3
  go_wp2_with fail
  refine (c0 _).mono ?_
  rintro _ _ ⟨rfl, rfl⟩
  dsimp only
  go_wp2_with fail
  refine (c1 _).mono ?_
  rintro _ _ ⟨rfl, rfl⟩
  dsimp only
  generalize ndN n = k
  go_wp2
  go_ret
  exact ⟨rfl, Below.refl _ _⟩
end Go.Proofs.Ytlkejphiekpmiaa
