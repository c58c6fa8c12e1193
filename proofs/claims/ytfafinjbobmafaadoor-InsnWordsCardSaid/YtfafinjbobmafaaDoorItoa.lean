import Derived.Test.YtfafinjbobmafaaDoorMapM
namespace Go.Proofs.YtfafinjbobmafaaDoor
open Go.RowKit
set_option linter.unusedVariables false
set_option maxRecDepth 100000 in
theorem small_any (r : Int) (w : World) (h0 : 0 ≤ r) (h1 : r < 32) :
    Calls Tryd.prog 64 #[.int .i64 r] w fun e w' => e = .returned (.string ⟨(itoa r).toArray⟩) ∧ w' = w := by
  by_cases h : r < 10
  · go_enter Tryd.func64, Tryd.ntmps64
    go_wp2
    go_ret
    refine ⟨?_, rfl⟩
    refine congrArg (fun b => Ending.returned (Value.string b)) ?_
    obtain ⟨n, e⟩ : ∃ n : Nat, r = n := ⟨r.toNat, by omega⟩
    have hn : n < 10 := by omega
    rw [e]
    clear e
    revert n
    decide +kernel
  · go_enter Tryd.func64, Tryd.ntmps64
    go_wp2
    go_ret
    refine ⟨?_, rfl⟩
    refine congrArg (fun b => Ending.returned (Value.string b)) ?_
    obtain ⟨n, e⟩ : ∃ n : Nat, r = n := ⟨r.toNat, by omega⟩
    have hn : n < 32 := by omega
    have hm : 10 ≤ n := by omega
    rw [e]
    clear e
    revert n
    decide +kernel
set_option maxRecDepth 100000 in
theorem itoa_any (r : Int) (w : World) (h0 : 0 ≤ r) (h1 : r < 32) :
    Calls Tryd.prog 59 #[.int .i64 r] w fun e w' => e = .returned (.string ⟨(itoa r).toArray⟩) ∧ w' = w := by
  have hS := fun w => small_any r w h0 h1
  have f63 : ∀ w, Calls Tryd.prog 63 #[.int .i64 r, .int .i64 10] w fun e w' => e = .returned (.string ⟨(itoa r).toArray⟩) ∧ w' = w := by
    intro w
    go_enter Tryd.func63, Tryd.ntmps63
    go_wp2_with fail
    refine (hS _).mono ?_
    rintro e w1 ⟨rfl, rfl⟩
    go_wp2
    go_ret
    exact ⟨rfl, rfl⟩
  have f62 : ∀ w, Calls Tryd.prog 62 #[.int .i64 r] w fun e w' => e = .returned (.string ⟨(itoa r).toArray⟩) ∧ w' = w := by
    intro w
    go_enter Tryd.func62, Tryd.ntmps62
    go_wp2_with fail
    refine (f63 _).mono ?_
    rintro e w1 ⟨rfl, rfl⟩
    go_wp2
    go_ret
    exact ⟨rfl, rfl⟩
  go_enter Tryd.func59, Tryd.ntmps59
  go_wp2_with fail
  refine (f62 _).mono ?_
  rintro e w1 ⟨rfl, rfl⟩
  go_wp2
  go_ret
  exact ⟨rfl, rfl⟩
end Go.Proofs.YtfafinjbobmafaaDoor
