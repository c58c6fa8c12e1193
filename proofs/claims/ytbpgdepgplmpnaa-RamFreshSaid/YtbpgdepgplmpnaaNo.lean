import Derived.Test.YtbpgdepgplmpnaaHold
import Derived.LoopN
namespace Go.Proofs.Ytbpgdepgplmpnaa
open Go.RowKit
set_option linter.unusedVariables false
set_option linter.unusedSimpArgs false
/-- A memory that nobody made. -/
def Unm (w : World) (v : Value) : Prop := v = .pointer .none ∨ ∃ p, v = .pointer (some ⟨p, 0, .none⟩) ∧ p < w.heap.size ∧ w.cell? ⟨p, 0, .none⟩ = some (.slice .none 0 0)
theorem Unm.below {w w' : World} {v : Value} (h : Unm w v) (b : Below w.heap.size w w') : Unm w' v := by
  rcases h with h | ⟨p, h, hp, hc⟩
  · exact .inl h
  · exact .inr ⟨p, h, Nat.lt_of_lt_of_le hp b.size, (b.cell hp).trans hc⟩
section
variable {w : World} {v : Value}
theorem no_made (h : Unm w v) : Calls Try.prog 46 #[v] w fun e w' => e = .returned (.bool false) ∧ w' = w := by
  rcases h with rfl | ⟨p, rfl, _, hc⟩
  · exact made_nil w
  · exact made_plain p w hc
theorem no_frames (h : Unm w v) : Calls Try.prog 17 #[v] w fun e w' => e = .returned (.int .i64 0) ∧ w' = w := by
  have c := no_made h
  clear h
  go_enter Try.func17, Try.ntmps17
  go_wp2_with (go_at_call 46; refine c.mono ?_; rintro e w0 ⟨rfl, rfl⟩)
  go_ret
  exact ⟨rfl, rfl⟩
theorem no_count (h : Unm w v) : Calls Try.prog 18 #[v] w fun e w' => e = .returned (.int .i64 0) ∧ w' = w := by
  have c := no_made h
  clear h
  go_enter Try.func18, Try.ntmps18
  go_wp2_with (go_at_call 46; refine c.mono ?_; rintro e w0 ⟨rfl, rfl⟩)
  go_ret
  exact ⟨rfl, rfl⟩
theorem no_alloc (h : Unm w v) : Calls Try.prog 10 #[v] w fun e w' => e = .returned (.tuple #[.int .u64 0, .bool false]) ∧ w' = w := by
  have c := no_made h
  clear h
  go_enter Try.func10, Try.ntmps10
  go_wp2_with (go_at_call 46; refine c.mono ?_; rintro e w0 ⟨rfl, rfl⟩)
  go_ret2
  exact ⟨rfl, rfl⟩
theorem no_free (h : Unm w v) (pa : Int) : Calls Try.prog 21 #[v, .int .u64 pa] w fun e w' => e = .returned (.int .i64 3) ∧ w' = w := by
  have c := no_made h
  clear h
  go_enter Try.func21, Try.ntmps21
  go_wp2_with (go_at_call 46; refine c.mono ?_; rintro e w0 ⟨rfl, rfl⟩)
  go_ret
  exact ⟨rfl, rfl⟩
theorem isFr_none (pa : Int) : isFr pa 0 = false := by
  simp only [isFr, decide_eq_false_iff_not]
  omega
theorem no_isFree (h : Unm w v) (pa : Int) (hp : 0 ≤ pa ∧ pa < 18446744073709551616) : Calls Try.prog 27 #[v, .int .u64 pa] w fun e w' => e = .returned (.bool false) ∧ w' = w := by
  have c := no_frames h
  have c1 := isFrame_any pa 0 hp (by omega) (by omega) w
  rw [isFr_none] at c1
  clear h
  go_enter Try.func27, Try.ntmps27
  go_wp2_with (first | (go_at_call 17; refine c.mono ?_; rintro e w0 ⟨rfl, rfl⟩) | (go_at_call 55; refine c1.mono ?_; rintro e w0 ⟨rfl, rfl⟩))
  go_ret
  exact ⟨rfl, rfl⟩
theorem no_raw (h : Unm w v) (pa : Int) (hp : 0 ≤ pa ∧ pa < 18446744073709551616) : Calls Try.prog 24 #[v, .int .u64 pa] w fun e w' => e = .returned (.tuple #[.slice .none 0 0, .bool false]) ∧ w' = w := by
  have c := no_frames h
  have c1 := isFrame_any pa 0 hp (by omega) (by omega) w
  rw [isFr_none] at c1
  clear h
  go_enter Try.func24, Try.ntmps24
  go_wp2_with (first | (go_at_call 17; refine c.mono ?_; rintro e w0 ⟨rfl, rfl⟩) | (go_at_call 55; refine c1.mono ?_; rintro e w0 ⟨rfl, rfl⟩))
  go_ret2
  exact ⟨rfl, rfl⟩
theorem no_reach (h : Unm w v) (pa n : Int) : Calls Try.prog 49 #[v, .int .u64 pa, .int .i64 n] w fun e w' => e = .returned (.tuple #[.slice .none 0 0, .bool false]) ∧ w' = w := by
  have c := no_made h
  clear h
  go_enter Try.func49, Try.ntmps49
  go_wp2_with (go_at_call 46; refine c.mono ?_; rintro e w0 ⟨rfl, rfl⟩)
  go_ret2
  exact ⟨rfl, rfl⟩
theorem no_access (h : Unm w v) (pa n x : Int) (b : Bool) : Calls Try.prog 48 #[v, .int .u64 pa, .int .i64 n, .bool b, .int .u64 x] w fun e w' => e = .returned (.tuple #[.int .u64 0, .bool false]) ∧ w' = w := by
  have c := no_reach h pa n
  clear h
  go_enter Try.func48, Try.ntmps48
  go_wp2_with (go_at_call 49; refine c.mono ?_; rintro e w0 ⟨rfl, rfl⟩)
  go_ret2
  exact ⟨rfl, rfl⟩
theorem no_load (h : Unm w v) (pa n : Int) : Calls Try.prog 13 #[v, .int .u64 pa, .int .i64 n] w fun e w' => e = .returned (.tuple #[.int .u64 0, .bool false]) ∧ w' = w := by
  have c := no_access h pa n 0 false
  clear h
  go_enter Try.func13, Try.ntmps13
  go_wp2_with (go_at_call 48; refine c.mono ?_; rintro e w0 ⟨rfl, rfl⟩)
  go_ret2
  exact ⟨rfl, rfl⟩
theorem no_store (h : Unm w v) (pa n x : Int) : Calls Try.prog 11 #[v, .int .u64 pa, .int .i64 n, .int .u64 x] w fun e w' => e = .returned (.bool false) ∧ w' = w := by
  have c := no_access h pa n x true
  clear h
  go_enter Try.func11, Try.ntmps11
  go_wp2_with (go_at_call 48; refine c.mono ?_; rintro e w0 ⟨rfl, rfl⟩)
  go_ret
  exact ⟨rfl, rfl⟩
theorem no_read (h : Unm w v) (pa n : Int) : Calls Try.prog 12 #[v, .int .u64 pa, .int .i64 n] w fun e w' => e = .returned (.tuple #[.slice .none 0 0, .bool false]) ∧ w' = w := by
  have c := no_reach h pa n
  clear h
  go_enter Try.func12, Try.ntmps12
  go_wp2_with (go_at_call 49; refine c.mono ?_; rintro e w0 ⟨rfl, rfl⟩)
  go_ret2
  exact ⟨rfl, rfl⟩
theorem no_write (h : Unm w v) (pa : Int) (sa : Option Addr) (n c : Nat) : Calls Try.prog 14 #[v, .int .u64 pa, .slice sa n c] w fun e w' => e = .returned (.bool false) ∧ w' = w := by
  have c1 := no_reach h pa n
  clear h
  have hcp : ∀ ty, (Builtin.copy_ #[31, 31] ty #[.slice .none 0 0, .slice sa n c]).run Try.prog w = .ok (.int .i64 0) w := fun ty => run_copy_none w 31 31 ty 5 .none sa 0 0 n c Try.underlying31 info5 (by simp)
  go_enter Try.func14, Try.ntmps14
  go_wp2_with (go_at_call 49; refine c1.mono ?_; rintro e w0 ⟨rfl, rfl⟩)
  go_ret
  exact ⟨rfl, rfl⟩
theorem freeList_any (q : Option Addr) : Calls Try.prog 23 #[.pointer q] w fun e w' => e = .returned (.func (.func 57) #[] #[.pointer (some ⟨w.heap.size, 0, .none⟩)]) ∧ w' = w.alloc (.cells #[.pointer q] 23) := by
  go_enter Try.func23, Try.ntmps23
  go_wp2
  go_ret
  exact ⟨rfl, rfl⟩
theorem no_freeNow (h : Unm w v) : Calls Try.prog 58 #[v] w fun e w' => e = .returned (.slice .none 0 0) ∧ w' = w := by
  have c := no_made h
  clear h
  go_enter Try.func58, Try.ntmps58
  go_wp2_with (go_at_call 46; refine c.mono ?_; rintro e w0 ⟨rfl, rfl⟩)
  go_ret
  exact ⟨rfl, rfl⟩
theorem each_none (f : Value) (w : World) : Calls Try.prog 59 #[.slice .none 0 0, f] w fun e w' => (∃ v, e = .returned v) ∧ w' = w := by
  go_enter Try.func59, Try.ntmps59
  go_wp2
  refine wp_loop_rounds 1 ?_
  rw [rounds_succ]
  go_wp2
  go_end0
  exact ⟨⟨_, rfl⟩, rfl⟩
theorem no_iter (h : Unm w v) (f : Value) (Bn : Nat) (hB : w.cell? ⟨Bn, 0, .none⟩ = some v) : Calls Try.prog 57 #[f, .pointer (some ⟨Bn, 0, .none⟩)] w fun e w' => (∃ v, e = .returned v) ∧ w' = w := by
  have c := no_freeNow h
  have c1 := each_none f w
  clear h
  go_enter Try.func57, Try.ntmps57
  go_wp2_with (first | (go_at_call 58; refine c.mono ?_; rintro e w0 ⟨rfl, rfl⟩) | (go_at_call 59; refine c1.mono ?_; rintro e w1 ⟨⟨u, rfl⟩, rfl⟩))
  go_end0
  exact ⟨⟨_, rfl⟩, rfl⟩
end
end Go.Proofs.Ytbpgdepgplmpnaa
