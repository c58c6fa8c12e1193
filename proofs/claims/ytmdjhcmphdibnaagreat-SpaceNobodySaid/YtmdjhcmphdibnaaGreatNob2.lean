import Derived.Test.YtmdjhcmphdibnaaGreatNob1
namespace Go.Proofs.YtmdjhcmphdibnaaGreat
open Go.RowKit
set_option linter.unusedVariables false
set_option linter.unusedSimpArgs false
set_option maxRecDepth 100000
theorem lt_of_cell {w : World} {b : Nat} {o : Nat} {v : Value} (h : w.cell? ⟨b, o, .none⟩ = some v) : b < w.heap.size := by
  rcases Nat.lt_or_ge b w.heap.size with h1 | h1
  · exact h1
  · simp [World.cell?, h1] at h
theorem look_no {w : World} {v : Value} (h : Uns w v) : Calls Tryz.prog 7 #[v] w fun e w' => e = .returned (.tuple #[.slice .none 0 0, .slice .none 0 0]) ∧ Below w.heap.size w w' := by
  have c := made_no (h.below (below1 w (.cells #[.slice .none 0 0] 39)))
  go_enter Tryz.func7, Tryz.ntmps7
  go_wp2_with (go_at_call 19; refine c.mono ?_; rintro _ _ ⟨rfl, rfl⟩)
  have e : (w.alloc (.cells #[.slice .none 0 0] 39)).cell? ⟨w.heap.size, 0, .none⟩ = some (.slice .none 0 0) := by
    rw [World.cell?_alloc_at _ _ _ _ rfl]
    rfl
  have hb := below1 w (.cells #[.slice .none 0 0] 39)
  have hlt := lt_of_cell e
  generalize w.alloc (.cells #[.slice .none 0 0] 39) = W at *
  exact bodyPost_ret (v := .tuple #[.slice .none 0 0, .slice .none 0 0]) (by simp [results, Tryz.results7, go_sem, e, hlt]) rfl ⟨rfl, hb⟩
theorem in_no {w : World} {v : Value} (h : Uns w v) (va n : Int) (hv : 0 ≤ va ∧ va < 18446744073709551616) (hn : -9223372036854775808 ≤ n ∧ n < 9223372036854775808) : Calls Tryz.prog 5 #[v, .int .u64 va, .int .i64 n] w fun e w' => e = .returned (.tuple #[.slice .none 0 0, .bool false]) ∧ Below w.heap.size w w' := by
  obtain ⟨q, rfl⟩ : ∃ q, v = .pointer q := by
    rcases h with rfl | ⟨p, rfl, hp, hc⟩ <;> exact ⟨_, rfl⟩
  have u := h.below (below1 w (.cells #[.pointer q] 24))
  have c := made_no u
  have c1 := end_no u
  by_cases k : n = 0
  · subst k
    go_enter Tryz.func5, Tryz.ntmps5
    go_wp2_with (go_at_call 19; refine c.mono ?_; rintro _ _ ⟨rfl, rfl⟩)
    go_ret2
    exact ⟨rfl, below1 _ _⟩
  · have c2 := fits_no va n hv hn k (w.alloc (.cells #[.pointer q] 24))
    go_enter Tryz.func5, Tryz.ntmps5
    go_wp2_with (first | (go_at_call 28; refine c1.mono ?_; rintro _ _ ⟨rfl, rfl⟩) | (go_at_call 27; refine c2.mono ?_; rintro _ _ ⟨rfl, rfl⟩))
    go_ret2
    exact ⟨rfl, below1 _ _⟩
theorem str_no {w : World} {v : Value} (h : Uns w v) (va n : Int) (hv : 0 ≤ va ∧ va < 18446744073709551616) : Calls Tryz.prog 6 #[v, .int .u64 va, .int .i64 n] w fun e w' => e = .returned (.tuple #[.string ⟨#[]⟩, .bool false]) ∧ Below w.heap.size w w' := by
  obtain ⟨q, rfl⟩ : ∃ q, v = .pointer q := by
    rcases h with rfl | ⟨p, rfl, hp, hc⟩ <;> exact ⟨_, rfl⟩
  have u := h.below (below1 w (.cells #[.pointer q] 24))
  have c1 := end_no u
  have c2 := fits_no va 1 hv (by omega) (by omega) (w.alloc (.cells #[.pointer q] 24))
  go_enter Tryz.func6, Tryz.ntmps6
  go_wp2_with (first | (go_at_call 28; refine c1.mono ?_; rintro _ _ ⟨rfl, rfl⟩) | (go_at_call 27; refine c2.mono ?_; rintro _ _ ⟨rfl, rfl⟩))
  go_ret2
  exact ⟨rfl, below1 _ _⟩
theorem canOut_no {w : World} {v : Value} (h : Uns w v) (va n : Int) (hv : 0 ≤ va ∧ va < 18446744073709551616) (hn : -9223372036854775808 ≤ n ∧ n < 9223372036854775808) : Calls Tryz.prog 15 #[v, .int .u64 va, .int .i64 n] w fun e w' => e = .returned (.bool false) ∧ Below w.heap.size w w' := by
  have c := made_no h
  have c1 := end_no h
  by_cases k : n = 0
  · subst k
    go_enter Tryz.func15, Tryz.ntmps15
    go_wp2_with (go_at_call 19; refine c.mono ?_; rintro _ _ ⟨rfl, rfl⟩)
    go_ret
    exact ⟨rfl, Below.refl _ _⟩
  · have c2 := fits_no va n hv hn k w
    go_enter Tryz.func15, Tryz.ntmps15
    go_wp2_with (first | (go_at_call 28; refine c1.mono ?_; rintro _ _ ⟨rfl, rfl⟩) | (go_at_call 27; refine c2.mono ?_; rintro _ _ ⟨rfl, rfl⟩))
    trace_state
    go_ret
    exact ⟨rfl, Below.refl _ _⟩
theorem out_no {w : World} {v : Value} (h : Uns w v) (va : Int) (sp : Option Addr) (n cp : Nat) (hv : 0 ≤ va ∧ va < 18446744073709551616) (hn : n < 9223372036854775808) : Calls Tryz.prog 16 #[v, .int .u64 va, .slice sp n cp] w fun e w' => e = .returned (.bool false) ∧ Below w.heap.size w w' := by
  have c := canOut_no h va n hv (by omega)
  go_enter Tryz.func16, Tryz.ntmps16
  go_wp2_with (go_at_call 15; refine c.mono ?_; rintro _ W ⟨rfl, hW⟩)
  trace_state
  go_ret
  exact ⟨rfl, hW⟩
theorem poke_no {w : World} {v : Value} (h : Uns w v) (va : Int) (sp : Option Addr) (n cp : Nat) : Calls Tryz.prog 17 #[v, .int .u64 va, .slice sp n cp] w fun e w' => e = .returned (.bool false) ∧ w' = w := by
  have c := made_no h
  go_enter Tryz.func17, Tryz.ntmps17
  go_wp2_with (go_at_call 19; refine c.mono ?_; rintro _ W ⟨rfl, rfl⟩)
  go_ret
  exact ⟨rfl, rfl⟩
/-- A memory that nobody made. -/
def Unr (w : World) (v : Value) : Prop := v = .pointer .none ∨ ∃ p, v = .pointer (some ⟨p, 0, .none⟩) ∧ p < w.heap.size ∧ w.cell? ⟨p, 0, .none⟩ = some (.slice .none 0 0)
theorem Unr.below {w w' : World} {v : Value} (h : Unr w v) (b : Below w.heap.size w w') : Unr w' v := by
  rcases h with rfl | ⟨p, rfl, hp, hc⟩
  · exact .inl rfl
  · exact .inr ⟨p, rfl, Nat.lt_of_lt_of_le hp b.size, (b.cell hp).trans hc⟩
theorem rmade_no {w : World} {v : Value} (h : Unr w v) : Calls Tryz.prog 52 #[v] w fun e w' => e = .returned (.bool false) ∧ w' = w := by
  rcases h with rfl | ⟨p, rfl, hp, hc⟩
  · go_enter Tryz.func52, Tryz.ntmps52
    go_wp2
    go_ret
    exact ⟨rfl, rfl⟩
  · go_enter Tryz.func52, Tryz.ntmps52
    go_wp2
    go_ret
    exact ⟨rfl, rfl⟩
theorem frames_no {w : World} {v : Value} (h : Unr w v) : Calls Tryz.prog 49 #[v] w fun e w' => e = .returned (.int .i64 0) ∧ w' = w := by
  have c := rmade_no h
  go_enter Tryz.func49, Tryz.ntmps49
  go_wp2_with (go_at_call 52; refine c.mono ?_; rintro _ W ⟨rfl, rfl⟩)
  go_ret
  exact ⟨rfl, rfl⟩
theorem new_no {w : World} {v : Value} (h : Unr w v) (a b : Int) : Calls Tryz.prog 18 #[v, .int .u64 a, .int .u64 b] w fun e w' => e = .returned (.tuple #[.pointer .none, .int .i64 3]) ∧ w' = w := by
  have c := frames_no h
  go_enter Tryz.func18, Tryz.ntmps18
  go_wp2_with (go_at_call 49; refine c.mono ?_; rintro _ W ⟨rfl, rfl⟩)
  go_ret2
  exact ⟨rfl, rfl⟩
end Go.Proofs.YtmdjhcmphdibnaaGreat
