import Derived.Test.YtejongfipfefpaaHoldM
import Derived.LoopN
namespace Go.Proofs.Ytejongfipfefpaa
open Go.RowKit
set_option linter.unusedVariables false
set_option linter.unusedSimpArgs false
/-- A memory that nobody made. -/
def Unm (w : World) (v : Value) : Prop := v = .pointer .none ∨ ∃ p, v = .pointer (some ⟨p, 0, .none⟩) ∧ p < w.heap.size ∧ w.cell? ⟨p, 0, .none⟩ = some (.slice .none 0 0)
theorem Unm.below {w w' : World} {v : Value} (h : Unm w v) (b : Below w.heap.size w w') : Unm w' v := by
  rcases h with h | ⟨p, h, hp, hc⟩
  · exact .inl h
  · exact .inr ⟨p, h, Nat.lt_of_lt_of_le hp b.size, (b.cell hp).trans hc⟩
section
variable {w : World} {v : Value}
theorem no_made (h : Unm w v) : Calls Try.prog 44 #[v] w fun e w' => e = .returned (.bool false) ∧ w' = w := by
  rcases h with rfl | ⟨p, rfl, _, hc⟩
  · exact made_nil w
  · exact made_plain p w hc
theorem no_frames (h : Unm w v) : Calls Try.prog 28 #[v] w fun e w' => e = .returned (.int .i64 0) ∧ w' = w := by
  have c := no_made h
  clear h
  go_enter Try.func28, Try.ntmps28
  go_wp2_with (go_at_call 44; refine c.mono ?_; rintro e w0 ⟨rfl, rfl⟩)
  go_ret
  exact ⟨rfl, rfl⟩
theorem no_count (h : Unm w v) : Calls Try.prog 49 #[v] w fun e w' => e = .returned (.int .i64 0) ∧ w' = w := by
  have c := no_made h
  clear h
  go_enter Try.func49, Try.ntmps49
  go_wp2_with (go_at_call 44; refine c.mono ?_; rintro e w0 ⟨rfl, rfl⟩)
  go_ret
  exact ⟨rfl, rfl⟩
theorem isFr_none (pa : Int) : isFr pa 0 = false := by
  simp only [isFr, decide_eq_false_iff_not]
  omega
theorem freeList_any (q : Option Addr) : Calls Try.prog 29 #[.pointer q] w fun e w' => e = .returned (.func (.func 45) #[] #[.pointer (some ⟨w.heap.size, 0, .none⟩)]) ∧ w' = w.alloc (.cells #[.pointer q] 31) := by
  go_enter Try.func29, Try.ntmps29
  go_wp2
  go_ret
  exact ⟨rfl, rfl⟩
theorem no_freeNow (h : Unm w v) : Calls Try.prog 46 #[v] w fun e w' => e = .returned (.slice .none 0 0) ∧ w' = w := by
  have c := no_made h
  clear h
  go_enter Try.func46, Try.ntmps46
  go_wp2_with (go_at_call 44; refine c.mono ?_; rintro e w0 ⟨rfl, rfl⟩)
  go_ret
  exact ⟨rfl, rfl⟩
theorem each_none (f : Value) (w : World) : Calls Try.prog 47 #[.slice .none 0 0, f] w fun e w' => (∃ v, e = .returned v) ∧ w' = w := by
  go_enter Try.func47, Try.ntmps47
  go_wp2
  refine wp_loop_rounds 1 ?_
  rw [rounds_succ]
  go_wp2
  go_end0
  exact ⟨⟨_, rfl⟩, rfl⟩
theorem no_iter (h : Unm w v) (f : Value) (Bn : Nat) (hB : w.cell? ⟨Bn, 0, .none⟩ = some v) : Calls Try.prog 45 #[f, .pointer (some ⟨Bn, 0, .none⟩)] w fun e w' => (∃ v, e = .returned v) ∧ w' = w := by
  have c := no_freeNow h
  have c1 := each_none f w
  clear h
  go_enter Try.func45, Try.ntmps45
  go_wp2_with (first | (go_at_call 46; refine c.mono ?_; rintro e w0 ⟨rfl, rfl⟩) | (go_at_call 47; refine c1.mono ?_; rintro e w1 ⟨⟨u, rfl⟩, rfl⟩))
  go_end0
  exact ⟨⟨_, rfl⟩, rfl⟩
end
end Go.Proofs.Ytejongfipfefpaa
