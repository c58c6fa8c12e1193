import Derived.Test.YtacdgfojdkppmaaGreatDoorRq0
namespace Go.Proofs.YtacdgfojdkppmaaGreatDoor
open Go.RowKit
set_option linter.unusedVariables false
set_option linter.unusedSimpArgs false
theorem below_past (w : World) (b : Obj) : Below w.heap.size w (w.alloc b) := (Below.refl _ _).alloc (Nat.le_refl _) _
theorem none_any (w : World) : Calls Tryz.prog 117 #[] w fun e w' => e = .returned (.agg #[.slice .none 0 0, .int .i64 0]) ∧ w' = w.alloc (.cells #[.slice .none 0 0, .int .i64 0] 86) := by
  go_enter Tryz.func117, Tryz.ntmps117
  go_wp2
  exact bodyPost_ret (v := .agg #[.slice .none 0 0, .int .i64 0]) (by simp [results, Tryz.results117, go_sem]) rfl ⟨rfl, rfl⟩
theorem rnew_any (s : ByteArray) (a r : Int) (w : World) : Calls Tryz.prog 118 #[.string s, .int .i64 a, .int .i64 r] w fun e w' => e = .returned (.agg #[.slice (some ⟨w.heap.size + 1, 0, .none⟩) 1 1, .int .i64 r]) ∧
    w' = (w.alloc (.cells #[.slice (some ⟨w.heap.size + 1, 0, .none⟩) 1 1, .int .i64 r] 86)).alloc (.cells #[.string s, .int .i64 a] 212) := by
  go_enter Tryz.func118, Tryz.ntmps118
  go_wp2
  exact bodyPost_ret (v := .agg #[.slice (some ⟨w.heap.size + 1, 0, .none⟩) 1 1, .int .i64 r]) (by simp [results, Tryz.results118, go_sem]) rfl ⟨rfl, rfl⟩
/-- The document's fault, with a place. -/
def LFault (w : World) (v : Value) (a r : Int) : Prop := ∃ B, B < w.heap.size ∧ v = .agg #[.slice (some ⟨B, 0, .none⟩) 1 1, .int .i64 r] ∧ w.cell? ⟨B, 0, .none⟩ = some (.string ramB) ∧ w.cell? ⟨B, 1, .none⟩ = some (.int .i64 a)
theorem LFault.below {W w' : World} {v : Value} {a r : Int} (k : LFault W v a r) (h : Below W.heap.size W w') : LFault w' v a r := by
  obtain ⟨B, hB, e, c0, c1⟩ := k
  exact ⟨B, Nat.lt_of_lt_of_le hB h.size, e, (h.cell hB).trans c0, (h.cell hB).trans c1⟩
theorem FaultIn.below {W w' : World} {k : Nat} {v : Value} {a r : Int} (f : FaultIn W k v a r) (h : Below W.heap.size W w') : FaultIn w' k v a r := by
  obtain ⟨b, h1, h2, rfl, c0, c1, c2⟩ := f
  exact ⟨b, h1, Nat.lt_of_lt_of_le h2 h.size, rfl, (h.cell h2).trans c0, (h.cell h2).trans c1, (h.cell h2).trans c2⟩
/-- What the document tells: a fault, or none. -/
def RefR (w : World) (g : Value) (a r : Int) : Prop := (r ≠ 0 ∧ LFault w g a r) ∨ (r = 0 ∧ g = .agg #[.slice .none 0 0, .int .i64 0])
theorem RefR.below {w w' : World} {v : Value} {a r : Int} (h : RefR w v a r) (b : Below w.heap.size w w') : RefR w' v a r := by
  rcases h with ⟨h1, h2⟩ | h
  · exact .inl ⟨h1, h2.below b⟩
  · exact .inr h
theorem RefR.form {w : World} {v : Value} {a r : Int} (h : RefR w v a r) : ∃ p n c, v = .agg #[.slice p n c, .int .i64 r] := by
  rcases h with ⟨h1, B, _, rfl, _⟩ | ⟨rfl, rfl⟩
  · exact ⟨_, _, _, rfl⟩
  · exact ⟨_, _, _, rfl⟩
set_option maxHeartbeats 1000000 in
theorem no_any (r a : Int) (w : World) : Calls Tryz.prog 73 #[.int .i64 r, .int .i64 a] w fun e w' => (∃ v, e = .returned v ∧ LFault w' v a r) ∧ Below w.heap.size w w' := by
  have c := rnew_any ramB a r (w.alloc (.cells #[.slice .none 0 0, .int .i64 0] 86))
  go_enter Tryz.func73, Tryz.ntmps73
  go_wp2_with fail
  refine c.mono ?_
  rintro e w1 ⟨rfl, rfl⟩
  go_wp2
  refine bodyPost_ret (v := .agg #[.slice (some ⟨w.heap.size + 1 + 1, 0, .none⟩) 1 1, .int .i64 r]) (by simp [results, Tryz.results73, go_sem]) rfl ⟨⟨_, rfl, w.heap.size + 1 + 1, ?_, rfl, ?_, ?_⟩, ?_⟩
  · simp
  · simp [World.cell?_alloc_at]
  · simp [World.cell?_alloc_at]
  · exact ((below_past _ _).alloc (by simp only [World.size_alloc]; omega) _).alloc (by simp only [World.size_alloc]; omega) _
theorem any_any (w : World) (g : Value) (a r : Int) (h : RefR w g a r) : Calls Tryz.prog 51 #[g] w fun e w' => e = .returned (.bool (decide (r ≠ 0))) ∧ Below w.heap.size w w' := by
  rcases h with ⟨h1, B, _, rfl, _⟩ | ⟨rfl, rfl⟩
  · have h2 : (r != 0) = true := by simpa using h1
    go_enter Tryz.func51, Tryz.ntmps51
    go_wp2
    go_ret
    exact ⟨by simp [h1], (Below.refl _ _).alloc (Nat.le_refl _) _⟩
  · go_enter Tryz.func51, Tryz.ntmps51
    go_wp2
    go_ret
    exact ⟨rfl, (Below.refl _ _).alloc (Nat.le_refl _) _⟩
end Go.Proofs.YtacdgfojdkppmaaGreatDoor
