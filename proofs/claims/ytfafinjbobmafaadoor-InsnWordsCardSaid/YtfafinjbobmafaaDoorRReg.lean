import Derived.Test.YtfafinjbobmafaaDoorRByName
import Derived.Deep.QuietTactic
import Derived.BigQuiet
namespace Go.Proofs.YtfafinjbobmafaaDoor
open Go.RowKit
set_option linter.unusedVariables false
set_option maxRecDepth 100000 in
theorem plain_lo (r : Int) (w : World) (h0 : 0 ≤ r) (h1 : r < 10) :
    Calls Tryd.prog 32 #[.int .i64 r] w fun e w' => e = .returned (.string (xname r)) ∧ ∃ n, w' = w.drewN n := by
  go_enter Tryd.func32, Tryd.ntmps32
  go_wp2
  go_ret
  refine ⟨?_, 0, rfl⟩
  refine congrArg (fun b => Ending.returned (Value.string b)) ?_
  obtain ⟨n, e⟩ : ∃ n : Nat, r = n := ⟨r.toNat, by omega⟩
  have hn : n < 10 := by omega
  rw [e]
  clear e
  revert n
  decide +kernel
theorem hi22 (r : Int) (h0 : 10 ≤ r) (h1 : r < 32) : r = 10 ∨ r = 11 ∨ r = 12 ∨ r = 13 ∨ r = 14 ∨ r = 15 ∨ r = 16 ∨ r = 17 ∨ r = 18 ∨ r = 19 ∨ r = 20 ∨ r = 21 ∨ r = 22 ∨ r = 23 ∨ r = 24 ∨ r = 25 ∨ r = 26 ∨ r = 27 ∨ r = 28 ∨ r = 29 ∨ r = 30 ∨ r = 31 := by omega
set_option maxRecDepth 100000 in
theorem plain_hi (r : Int) (w : World) (h0 : 10 ≤ r) (h1 : r < 32) :
    Calls Tryd.prog 32 #[.int .i64 r] w fun e w' => e = .returned (.string (xname r)) ∧ ∃ n, w' = w.drewN n := by
  rcases hi22 r h0 h1 with rfl | rfl | rfl | rfl | rfl | rfl | rfl | rfl | rfl | rfl | rfl | rfl | rfl | rfl | rfl | rfl | rfl | rfl | rfl | rfl | rfl | rfl <;> (
    clear h0 h1
    go_enter Tryd.func32, Tryd.ntmps32
    go_wp2
    go_quiet (fail)
    go_wp2
    go_ret
    exact ⟨by rfl, _, rfl⟩)
end Go.Proofs.YtfafinjbobmafaaDoor
