import Derived.Test.YtblmkkhiojbcjaaGreatUq
namespace Go.Proofs.YtblmkkhiojbcjaaGreat
open Go Go.RowKit Fz
attribute [local go_sem] Oper.semAt_some
set_option linter.unusedVariables false
set_option linter.unusedSimpArgs false
/-- How many different parts there are. -/
def prt (V : Nat → Int) (s : Int) : Nat → Nat
  | 0 => 0
  | n + 1 => prt V s n + if ∀ k, k < n → V k / s ≠ V n / s then 1 else 0
theorem prt_le (V : Nat → Int) (s : Int) : ∀ n, prt V s n ≤ n
  | 0 => Nat.le_refl _
  | n + 1 => by have := prt_le V s n; unfold prt; split <;> omega
end Go.Proofs.YtblmkkhiojbcjaaGreat
