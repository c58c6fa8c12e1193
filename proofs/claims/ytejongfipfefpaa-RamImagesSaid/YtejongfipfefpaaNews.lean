import Derived.Test.YtejongfipfefpaaWidths
import Derived.Test.YtejongfipfefpaaEIsA
namespace Go.Proofs.Ytejongfipfefpaa
open Go.RowKit
set_option linter.unusedVariables false
set_option linter.unusedSimpArgs false
theorem fault_any (a r : Int) (w : World) :
    Calls Try.prog 14 #[.int .i64 a, .int .i64 r] w fun e w' => (∃ v, e = .returned v ∧ FaultIn w' w.heap.size v a r) ∧ Below w.heap.size w w' := by
  go_enter Try.func14, Try.ntmps14
  go_wp2
  go_ret
  exact ⟨⟨_, rfl, faultIn_new w w.heap.size a r (Nat.le_refl _)⟩, below_past _ _⟩
/-- The document's fault, with a place. -/
def LFault (w : World) (v : Value) (a r : Int) : Prop := ∃ B, B < w.heap.size ∧ v = .agg #[.slice (some ⟨B, 0, .none⟩) 1 1, .int .i64 r] ∧ w.cell? ⟨B, 0, .none⟩ = some (.string ramB) ∧ w.cell? ⟨B, 1, .none⟩ = some (.int .i64 a)
theorem LFault.below {W w' : World} {v : Value} {a r : Int} (h : Below W.heap.size W w') (k : LFault W v a r) : LFault w' v a r := by
  obtain ⟨B, hB, e, c0, c1⟩ := k
  exact ⟨B, Nat.lt_of_lt_of_le hB h.size, e, (h.cell hB).trans c0, (h.cell hB).trans c1⟩
theorem FaultIn.below {W w' : World} {k : Nat} {v : Value} {a r : Int} (h : Below W.heap.size W w') (f : FaultIn W k v a r) : FaultIn w' k v a r := by
  obtain ⟨b, h1, h2, rfl, c0, c1, c2⟩ := f
  exact ⟨b, h1, Nat.lt_of_lt_of_le h2 h.size, rfl, (h.cell h2).trans c0, (h.cell h2).trans c1, (h.cell h2).trans c2⟩
set_option maxHeartbeats 1000000 in
theorem lfault_any (a r : Int) (hr : r ≠ 0) (w : World) :
    Calls Try.prog 8 #[.int .i64 a, .int .i64 r] w fun e w' => (∃ v, e = .returned v ∧ LFault w' v a r) ∧ Below w.heap.size w w' := by
  have hr' : (r == 0) = false := by simpa using hr
  have c := rnew_any ramB a r (w.alloc (.cells #[.slice .none 0 0, .int .i64 0] 42))
  go_enter Try.func8, Try.ntmps8
  go_wp2_with fail
  refine c.mono ?_
  rintro e w1 ⟨rfl, rfl⟩
  go_wp2
  refine bodyPost_ret (v := .agg #[.slice (some ⟨w.heap.size + 1 + 1, 0, .none⟩) 1 1, .int .i64 r]) (by simp [results, Try.results8, go_sem]) rfl ⟨⟨_, rfl, w.heap.size + 1 + 1, ?_, rfl, ?_, ?_⟩, ?_⟩
  · simp
  · simp [World.cell?_alloc_at]
  · simp [World.cell?_alloc_at]
  · exact ((below_past _ _).alloc (by simp only [World.size_alloc]; omega) _).alloc (by simp only [World.size_alloc]; omega) _
/-- What the code tells and what the document tells, held against each other. -/
theorem is_both (v g : Value) (a r : Int) (hr : r ≠ 0) (w : World) {k : Nat} (hF : FaultIn w k v a r) (hL : LFault w g a r) : Calls Try.prog 7 #[v, g] w fun e w' => e = .returned (.bool true) ∧ Below w.heap.size w w' := by
  obtain ⟨B, hB, rfl, b0, b1⟩ := hL
  obtain ⟨b, h1, h2⟩ := hF
  exact is_fault v B 1 a r w ⟨b, Nat.zero_le _, h2⟩ hr hB b0 b1
theorem num_congr (B B' : Nat → Int) (o : Nat) : ∀ n, (∀ k, k < n → B (o + k) = B' (o + k)) → num B o n = num B' o n
  | 0, _ => rfl
  | n + 1, h => by
    simp only [num]
    rw [num_congr B B' o n (fun k hk => h k (by omega)), h n (by omega)]
theorem newB_tramp (k : Nat) : num (newB k) 0 4 = 270532723 := by
  rw [num_congr (newB k) (newB 0) 0 4 (fun j hj => newB_first k _ (by omega))]
  exact (num_le (fun _ => 0) 0 270532723 4 4 (by omega)).trans rfl
theorem newB_zero (k : Nat) : num (newB k) 4 8 = 0 := by
  rw [num_congr (newB k) (fun _ => 0) 4 8 (fun j hj => (newB_first k _ (by omega)).trans (over_out _ _ _ _ (by rw [le_len]; omega)))]
  rfl
end Go.Proofs.Ytejongfipfefpaa
