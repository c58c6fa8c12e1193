import Derived.Test.YtfafinjbobmafaaDoorRef
namespace Go.Proofs.YtfafinjbobmafaaDoor
open Go.RowKit
set_option linter.unusedVariables false
theorem ret_bool {a b : Bool} (h : a = b) : Ending.returned (.bool a) = .returned (.bool b) := by rw [h]
theorem ret_u32 {a b : Int} (h : a = b) : Ending.returned (.int .u32 a) = .returned (.int .u32 b) := by rw [h]
/-- May a field be that? -/
def fieldB (had : Bool) (n most : Int) : Bool := if had then decide (0 ≤ n ∧ n ≤ most) else decide (n = 0)
theorem tmod_zero (n k : Int) : n.tmod k = 0 ↔ n % k = 0 := by
  rw [← Int.dvd_iff_tmod_eq_zero, Int.dvd_iff_emod_eq_zero]
/-- May a shape's number be that? -/
def Hs (s n : Int) : Prop :=
  if s = 2 ∨ s = 5 ∨ s = 6 then -2048 ≤ n ∧ n ≤ 2047
  else if s = 3 then 0 ≤ n ∧ n ≤ 63
  else if s = 4 ∨ s = 14 then 0 ≤ n ∧ n ≤ 31
  else if s = 7 then -4096 ≤ n ∧ n ≤ 4094 ∧ n % 2 = 0
  else if s = 8 then -2147483648 ≤ n ∧ n ≤ 2147479552 ∧ n % 4096 = 0
  else if s = 9 then -1048576 ≤ n ∧ n ≤ 1048574 ∧ n % 2 = 0
  else if s = 10 then 0 ≤ n ∧ n ≤ 4095
  else n = 0
end Go.Proofs.YtfafinjbobmafaaDoor
