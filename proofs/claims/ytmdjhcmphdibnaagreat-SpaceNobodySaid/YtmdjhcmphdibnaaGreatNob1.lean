import Derived.Test.YtmdjhcmphdibnaaGreatRows
import Derived.WalkKit
import Derived.WalkSpells
import Derived.RowKit3
import Derived.LoopTactic
import Derived.Below
import Derived.WalkSmall
import Derived.Laws.Cover3
import Derived.Deep.QuietTactic
import Derived.BigQuiet
namespace Go.Proofs.YtmdjhcmphdibnaaGreat
open Go.RowKit
set_option linter.unusedVariables false
set_option linter.unusedSimpArgs false
/-- A space that nobody made: none, or a plain one. -/
def Uns (w : World) (v : Value) : Prop := v = .pointer .none ∨ ∃ p, v = .pointer (some ⟨p, 0, .none⟩) ∧ p < w.heap.size ∧ w.cell? ⟨p, 0, .none⟩ = some (.pointer .none)
theorem below1 (w : World) (o : Obj) : Below w.heap.size w (w.alloc o) := (Below.refl w.heap.size w).alloc (Nat.le_refl _) o
theorem Uns.below {w w' : World} {v : Value} (h : Uns w v) (b : Below w.heap.size w w') : Uns w' v := by
  rcases h with rfl | ⟨p, rfl, hp, hc⟩
  · exact .inl rfl
  · exact .inr ⟨p, rfl, Nat.lt_of_lt_of_le hp b.size, (b.cell hp).trans hc⟩
theorem made_no {w : World} {v : Value} (h : Uns w v) : Calls Tryz.prog 19 #[v] w fun e w' => e = .returned (.bool false) ∧ w' = w := by
  rcases h with rfl | ⟨p, rfl, hp, hc⟩
  · go_enter Tryz.func19, Tryz.ntmps19
    go_wp2
    go_ret
    exact ⟨rfl, rfl⟩
  · go_enter Tryz.func19, Tryz.ntmps19
    go_wp2
    go_ret
    exact ⟨rfl, rfl⟩
theorem root_no {w : World} {v : Value} (h : Uns w v) : Calls Tryz.prog 8 #[v] w fun e w' => e = .returned (.int .u64 0) ∧ w' = w := by
  have c := made_no h
  go_enter Tryz.func8, Tryz.ntmps8
  go_wp2_with (go_at_call 19; refine c.mono ?_; rintro _ _ ⟨rfl, rfl⟩)
  go_ret
  exact ⟨rfl, rfl⟩
theorem size_no {w : World} {v : Value} (h : Uns w v) : Calls Tryz.prog 9 #[v] w fun e w' => e = .returned (.int .u64 0) ∧ w' = w := by
  have c := made_no h
  go_enter Tryz.func9, Tryz.ntmps9
  go_wp2_with (go_at_call 19; refine c.mono ?_; rintro _ _ ⟨rfl, rfl⟩)
  go_ret
  exact ⟨rfl, rfl⟩
theorem pagesOf_0 (w : World) : Calls Tryz.prog 38 #[.int .u64 0] w fun e w' => e = .returned (.int .i64 0) ∧ w' = w := by
  go_enter Tryz.func38, Tryz.ntmps38
  go_wp2
  go_ret
  exact ⟨rfl, rfl⟩
theorem addr_0 (w : World) : Calls Tryz.prog 54 #[.int .i64 0] w fun e w' => e = .returned (.int .u64 0) ∧ w' = w := by
  go_enter Tryz.func54, Tryz.ntmps54
  go_wp2
  go_ret
  exact ⟨rfl, rfl⟩
theorem pages_no {w : World} {v : Value} (h : Uns w v) : Calls Tryz.prog 10 #[v] w fun e w' => e = .returned (.int .i64 0) ∧ w' = w := by
  have c := size_no h
  have c1 := pagesOf_0 w
  go_enter Tryz.func10, Tryz.ntmps10
  go_wp2_with (first | (go_at_call 9; refine c.mono ?_; rintro _ _ ⟨rfl, rfl⟩) | (go_at_call 38; refine c1.mono ?_; rintro _ _ ⟨rfl, rfl⟩))
  go_ret
  exact ⟨rfl, rfl⟩
theorem end_no {w : World} {v : Value} (h : Uns w v) : Calls Tryz.prog 28 #[v] w fun e w' => e = .returned (.int .u64 0) ∧ w' = w := by
  have c := pages_no h
  have c1 := addr_0 w
  go_enter Tryz.func28, Tryz.ntmps28
  go_wp2_with (first | (go_at_call 10; refine c.mono ?_; rintro _ _ ⟨rfl, rfl⟩) | (go_at_call 54; refine c1.mono ?_; rintro _ _ ⟨rfl, rfl⟩))
  go_ret
  exact ⟨rfl, rfl⟩
theorem fits_no (va n : Int) (hv : 0 ≤ va ∧ va < 18446744073709551616) (hn : -9223372036854775808 ≤ n ∧ n < 9223372036854775808) (h0 : n ≠ 0) (w : World) : Calls Tryz.prog 27 #[.int .u64 va, .int .i64 n, .int .u64 0] w fun e w' => e = .returned (.bool false) ∧ w' = w := by
  by_cases k0 : 0 ≤ n
  · by_cases k1 : va ≤ 0
    · have e : va = 0 := by omega
      subst e
      have k2 : 0 < n := by omega
      have k3 : ¬ n ≤ 0 := by omega
      go_enter Tryz.func27, Tryz.ntmps27
      go_wp2
      go_ret
      exact ⟨rfl, rfl⟩
    · go_enter Tryz.func27, Tryz.ntmps27
      go_wp2
      go_ret
      exact ⟨rfl, rfl⟩
  · go_enter Tryz.func27, Tryz.ntmps27
    go_wp2
    go_ret
    exact ⟨rfl, rfl⟩
theorem copy_no {w : World} {v : Value} (h : Uns w v) (t : Int) : Calls Tryz.prog 4 #[v, .int .u64 t] w fun e w' => e = .returned (.tuple #[.pointer .none, .int .i64 3]) ∧ w' = w := by
  have c := made_no h
  go_enter Tryz.func4, Tryz.ntmps4
  go_wp2_with (go_at_call 19; refine c.mono ?_; rintro _ _ ⟨rfl, rfl⟩)
  go_ret2
  exact ⟨rfl, rfl⟩
theorem grow_no {w : World} {v : Value} (h : Uns w v) (t q : Int) : Calls Tryz.prog 11 #[v, .int .u64 t, .int .u64 q] w fun e w' => e = .returned (.int .i64 3) ∧ w' = w := by
  have c := made_no h
  go_enter Tryz.func11, Tryz.ntmps11
  go_wp2_with (go_at_call 19; refine c.mono ?_; rintro _ _ ⟨rfl, rfl⟩)
  go_ret
  exact ⟨rfl, rfl⟩
theorem shrink_no {w : World} {v : Value} (h : Uns w v) (t : Int) : Calls Tryz.prog 12 #[v, .int .u64 t] w fun e w' => e = .returned (.int .i64 3) ∧ w' = w := by
  have c := made_no h
  go_enter Tryz.func12, Tryz.ntmps12
  go_wp2_with (go_at_call 19; refine c.mono ?_; rintro _ _ ⟨rfl, rfl⟩)
  go_ret
  exact ⟨rfl, rfl⟩
theorem guard_no {w : World} {v : Value} (h : Uns w v) (t : Int) : Calls Tryz.prog 13 #[v, .int .i64 t] w fun e w' => e = .returned (.int .i64 3) ∧ w' = w := by
  have c := made_no h
  go_enter Tryz.func13, Tryz.ntmps13
  go_wp2_with (go_at_call 19; refine c.mono ?_; rintro _ _ ⟨rfl, rfl⟩)
  go_ret
  exact ⟨rfl, rfl⟩
theorem free_no {w : World} {v : Value} (h : Uns w v) : Calls Tryz.prog 14 #[v] w fun e w' => e = .returned (.int .i64 3) ∧ w' = w := by
  have c := made_no h
  go_enter Tryz.func14, Tryz.ntmps14
  go_wp2_with (go_at_call 19; refine c.mono ?_; rintro _ _ ⟨rfl, rfl⟩)
  go_ret
  exact ⟨rfl, rfl⟩
end Go.Proofs.YtmdjhcmphdibnaaGreat
