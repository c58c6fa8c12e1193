import Derived.Test.YtnlbomggadflmabETold
namespace Go.Proofs.Ytnlbomggadflmab
open Go.RowKit
set_option linter.unusedVariables false
theorem rnew_any (s : ByteArray) (a r : Int) (w : World) : Calls Try.prog 39 #[.string s, .int .i64 a, .int .i64 r] w fun e w' => e = .returned (.agg #[.slice (some ⟨w.heap.size + 1, 0, .none⟩) 1 1, .int .i64 r]) ∧
    w' = (w.alloc (.cells #[.slice (some ⟨w.heap.size + 1, 0, .none⟩) 1 1, .int .i64 r] 80)).alloc (.cells #[.string s, .int .i64 a] 106) := by
  go_enter Try.func39, Try.ntmps39
  go_wp2
  exact bodyPost_ret (v := .agg #[.slice (some ⟨w.heap.size + 1, 0, .none⟩) 1 1, .int .i64 r]) (by simp [results, Try.results39, go_sem]) rfl ⟨rfl, rfl⟩
theorem same_none (w : World) : Calls Try.prog 65 #[.agg #[.slice .none 0 0, .int .i64 0], .agg #[.slice .none 0 0, .int .i64 0]] w fun e w' => e = .returned (.bool true) ∧ Below w.heap.size w w' := by
  go_enter Try.func65, Try.ntmps65
  go_wp2
  refine wp_loop_once ?_
  go_wp2
  go_ret
  exact ⟨rfl, (below_past _ _).alloc (by simp only [World.size_alloc]; omega) _⟩
set_option maxHeartbeats 1000000 in
theorem same_one (A B ca cb : Nat) (s : ByteArray) (a r : Int) (w : World) (hA : A < w.heap.size) (hB : B < w.heap.size) (a0 : w.cell? ⟨A, 0, .none⟩ = some (.string s)) (a1 : w.cell? ⟨A, 1, .none⟩ = some (.int .i64 a)) (b0 : w.cell? ⟨B, 0, .none⟩ = some (.string s)) (b1 : w.cell? ⟨B, 1, .none⟩ = some (.int .i64 a)) :
    Calls Try.prog 65 #[.agg #[.slice (some ⟨A, 0, .none⟩) 1 ca, .int .i64 r], .agg #[.slice (some ⟨B, 0, .none⟩) 1 cb, .int .i64 r]] w fun e w' => e = .returned (.bool true) ∧ Below w.heap.size w w' := by
  have hA1 : A < w.heap.size + 1 := by omega
  have hB1 : B < w.heap.size + 1 := by omega
  go_enter Try.func65, Try.ntmps65
  go_wp2
  go_loopw [5] (fun i wr => (i = .int .i64 0 ∨ i = .int .i64 1) ∧ ∃ n, wr = ((w.alloc (.cells #[.slice (some ⟨A, 0, .none⟩) 1 ca, .int .i64 r] 80)).alloc (.cells #[.slice (some ⟨B, 0, .none⟩) 1 cb, .int .i64 r] 80)).drewN n) (fun i _ => (1 - intOf i).toNat)
  case atStart => exact ⟨.inl rfl, 0, rfl⟩
  case round =>
    obtain ⟨hi, n, rfl⟩ := hrel
    rcases hi with rfl | rfl
    · go_wp2
      go_quiet (fail)
      go_wp2
      exact ⟨⟨.inr rfl, _, rfl⟩, by simp [intOf]⟩
    · go_wp2
      go_ret
      exact ⟨rfl, below_drewN ((below_past _ _).alloc (by simp only [World.size_alloc]; omega) _) _⟩
end Go.Proofs.Ytnlbomggadflmab
