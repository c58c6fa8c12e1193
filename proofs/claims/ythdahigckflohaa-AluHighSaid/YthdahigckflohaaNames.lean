import Derived.Test.YthdahigckflohaaAcc
namespace Go.Proofs.Ythdahigckflohaa
open Go.RowKit
set_option linter.unusedVariables false
theorem field57_1 (x0 x1 x2 x3 : Value) (w : World) : (Instr.field 57 (.agg #[x0, x1, x2, x3]) 1).run Try.prog w = .ok x1 w := by kernel_rfl
attribute [local go_sem] field57_1
theorem bytes_as (op n : Int) (r x y : Value) (w : World) (h : acc op = #[r, .int .i64 n, x, y]) : Calls Try.prog 9 #[.int .i64 op] w fun e w' => e = .returned (.int .i64 n) ∧ Below w.heap.size w w' := by
  have c := access_any op w
  rw [h] at c
  clear h
  go_enter Try.func9, Try.ntmps9
  go_wp2_with fail
  refine c.mono ?_
  rintro e w' ⟨rfl, hb⟩
  clear c
  go_wp2
  go_ret
  exact ⟨rfl, hb⟩
theorem names_walk (w : World) : Calls Try.prog 3 #[] w fun e w' => e = .returned (.bool true) ∧ Below w.heap.size w w' := by
  go_enter Try.func3, Try.ntmps3
  go_wp2_with fail
  refine (bytes_as 14 8 _ _ _ _ acc3).mono ?_
  rintro e w' ⟨rfl, hb⟩
  go_wp2
  go_ret
  exact ⟨rfl, hb⟩
end Go.Proofs.Ythdahigckflohaa
