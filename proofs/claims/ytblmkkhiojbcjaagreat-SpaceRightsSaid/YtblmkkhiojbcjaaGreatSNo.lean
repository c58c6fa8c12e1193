import Derived.Test.YtblmkkhiojbcjaaGreatLeaf
import Derived.LoopN
namespace Go.Proofs.YtblmkkhiojbcjaaGreat
open Go.RowKit
set_option linter.unusedVariables false
set_option linter.unusedSimpArgs false
/-- A memory that nobody made. -/
def Unm (w : World) (v : Value) : Prop := v = .pointer .none ∨ ∃ p, v = .pointer (some ⟨p, 0, .none⟩) ∧ p < w.heap.size ∧ w.cell? ⟨p, 0, .none⟩ = some (.slice .none 0 0)
theorem Unm.below {w w' : World} {v : Value} (h : Unm w v) (b : Below w.heap.size w w') : Unm w' v := by
  rcases h with h | ⟨p, h, hp, hc⟩
  · exact .inl h
  · exact .inr ⟨p, h, Nat.lt_of_lt_of_le hp b.size, (b.cell hp).trans hc⟩
theorem Unm.alloc {w : World} {v : Value} (h : Unm w v) (o : Obj) : Unm (w.alloc o) v := h.below ((Below.refl _ _).alloc (Nat.le_refl _) _)
section
variable {w : World} {v : Value}
theorem no_made (h : Unm w v) : Calls Tryz.prog 63 #[v] w fun e w' => e = .returned (.bool false) ∧ w' = w := by
  rcases h with rfl | ⟨p, rfl, _, hc⟩
  · exact made_nil w
  · exact made_plain p w hc
theorem no_frames (h : Unm w v) : Calls Tryz.prog 64 #[v] w fun e w' => e = .returned (.int .i64 0) ∧ w' = w := by
  have c := no_made h
  clear h
  go_enter Tryz.func64, Tryz.ntmps64
  go_wp2_with (go_at_call 63; refine c.mono ?_; rintro e w0 ⟨rfl, rfl⟩)
  go_ret
  exact ⟨rfl, rfl⟩
theorem no_reach (h : Unm w v) (pa n : Int) : Calls Tryz.prog 90 #[v, .int .u64 pa, .int .i64 n] w fun e w' => e = .returned (.tuple #[.slice .none 0 0, .bool false]) ∧ w' = w := by
  have c := no_made h
  clear h
  go_enter Tryz.func90, Tryz.ntmps90
  go_wp2_with (go_at_call 63; refine c.mono ?_; rintro e w0 ⟨rfl, rfl⟩)
  go_ret2
  exact ⟨rfl, rfl⟩
theorem no_access (h : Unm w v) (pa n x : Int) (b : Bool) : Calls Tryz.prog 141 #[v, .int .u64 pa, .int .i64 n, .bool b, .int .u64 x] w fun e w' => e = .returned (.tuple #[.int .u64 0, .bool false]) ∧ w' = w := by
  have c := no_reach h pa n
  clear h
  go_enter Tryz.func141, Tryz.ntmps141
  go_wp2_with (go_at_call 90; refine c.mono ?_; rintro e w0 ⟨rfl, rfl⟩)
  go_ret2
  exact ⟨rfl, rfl⟩
theorem no_load (h : Unm w v) (pa n : Int) : Calls Tryz.prog 118 #[v, .int .u64 pa, .int .i64 n] w fun e w' => e = .returned (.tuple #[.int .u64 0, .bool false]) ∧ w' = w := by
  have c := no_access h pa n 0 false
  clear h
  go_enter Tryz.func118, Tryz.ntmps118
  go_wp2_with (go_at_call 141; refine c.mono ?_; rintro e w0 ⟨rfl, rfl⟩)
  go_ret2
  exact ⟨rfl, rfl⟩
theorem no_read (h : Unm w v) (pa n : Int) : Calls Tryz.prog 55 #[v, .int .u64 pa, .int .i64 n] w fun e w' => e = .returned (.tuple #[.slice .none 0 0, .bool false]) ∧ w' = w := by
  have c := no_reach h pa n
  clear h
  go_enter Tryz.func55, Tryz.ntmps55
  go_wp2_with (go_at_call 90; refine c.mono ?_; rintro e w0 ⟨rfl, rfl⟩)
  go_ret2
  exact ⟨rfl, rfl⟩
theorem no_isMade (h : Unm w v) : Calls Tryz.prog 111 #[v] w fun e w' => e = .returned (.bool false) ∧ w' = w := by
  have c := no_frames h
  clear h
  go_enter Tryz.func111, Tryz.ntmps111
  go_wp2_with (go_at_call 64; refine c.mono ?_; rintro e w0 ⟨rfl, rfl⟩)
  go_ret
  exact ⟨rfl, rfl⟩
theorem no_isNode (h : Unm w v) (pa : Int) : Calls Tryz.prog 93 #[v, .int .u64 pa] w fun e w' => e = .returned (.bool false) ∧ w' = w := by
  have c := no_load h pa 8
  clear h
  go_enter Tryz.func93, Tryz.ntmps93
  go_wp2_with (go_at_call 118; refine c.mono ?_; rintro e w0 ⟨rfl, rfl⟩)
  go_ret
  exact ⟨rfl, rfl⟩
end
end Go.Proofs.YtblmkkhiojbcjaaGreat
