import Derived.Test.YtacdgfojdkppmaaGreatDoorRd1
namespace Go.Proofs.YtacdgfojdkppmaaGreatDoor
open Go.RowKit
set_option linter.unusedVariables false
set_option linter.unusedSimpArgs false
theorem lies_any (rb n c : Nat) (fp : Option Addr) (a k : Int) (w : World) (h : w.cell? ⟨rb, 0, .none⟩ = some (.slice fp n c)) (hn : n ≤ 300000) (ha : 0 ≤ a ∧ a < 18446744073709551616) (hk : 0 ≤ k ∧ k < 18446744073709551616) :
    Calls Tryz.prog 163 #[.pointer (some ⟨rb, 0, .none⟩), .int .u64 a, .int .u64 k] w fun e w' => e = .returned (.bool (decide (a + k ≤ n))) ∧ w' = w := by
  by_cases h1 : k ≤ n
  · have h2 : IntKind.u64.wrap ((n : Int) - k) = (n : Int) - k := by rw [IntKind.wrap_u64]; omega
    go_enter Tryz.func163, Tryz.ntmps163
    go_wp2
    all_goals go_ret
    all_goals exact ⟨by simp; omega, rfl⟩
  · go_enter Tryz.func163, Tryz.ntmps163
    go_wp2
    all_goals go_ret
    all_goals exact ⟨by simp; omega, rfl⟩
/-- May the flags be? -/
def mf (f : Int) : Bool := f == 1 || f == 4 || f == 5 || f == 6 || f == 7
theorem mayFlags_any (f : Int) (w : World) (hf : 0 ≤ f ∧ f < 4294967296) : Calls Tryz.prog 130 #[.int .u32 f] w fun e w' => e = .returned (.bool (mf f)) ∧ w' = w := by
  by_cases h : 1 ≤ f ∧ f ≤ 7
  · have : f = 1 ∨ f = 2 ∨ f = 3 ∨ f = 4 ∨ f = 5 ∨ f = 6 ∨ f = 7 := by omega
    rcases this with rfl | rfl | rfl | rfl | rfl | rfl | rfl
    all_goals
      go_enter Tryz.func130, Tryz.ntmps130
      go_wp2
      all_goals go_ret
      all_goals exact ⟨by rfl, rfl⟩
  · go_enter Tryz.func130, Tryz.ntmps130
    go_wp2
    all_goals go_ret
    all_goals exact ⟨by simp [mf]; omega, rfl⟩
/-- May the segment be, by itself? -/
def ok1 (va fl sz mem : Int) : Bool := decide (va % 4096 = 0) && mf fl && decide (1 ≤ mem) && decide (sz ≤ mem) && decide (va + mem ≤ 1073741824)
set_option maxHeartbeats 1000000 in
theorem mayBe_any (va fl sz mem : Int) (d : Value) (w : World) (hv : 0 ≤ va ∧ va < 18446744073709551616) (hf : 0 ≤ fl ∧ fl < 4294967296) (hs : 0 ≤ sz ∧ sz < 18446744073709551616) (hm : 0 ≤ mem ∧ mem < 18446744073709551616) (hd : ∃ p n c, d = .slice p n c) :
    Calls Tryz.prog 84 #[.agg #[.int .u64 va, .int .u32 fl, d, .int .u64 mem], .int .u64 sz] w fun e w' => e = .returned (.bool (ok1 va fl sz mem)) ∧ Below w.heap.size w w' := by
  obtain ⟨p, n, c, rfl⟩ := hd
  have HB : Hid (Below w.heap.size w (w.alloc (.cells #[.int .u64 va, .int .u32 fl, .slice p n c, .int .u64 mem] 61))) := (Below.refl _ _).alloc (Nat.le_refl _) _
  have c40 := fun w' => mayFlags_any fl w' hf
  by_cases h0 : va % 4096 = 0
  · by_cases h1 : mf fl = true
    · by_cases h2 : mem < 1
      · rw [h1] at c40
        go_enter Tryz.func84, Tryz.ntmps84
        go_wp2_with (first | (go_at_call 130; refine (c40 _).mono ?_; rintro e w1 ⟨rfl, rfl⟩) | fail)
        all_goals go_ret
        all_goals exact ⟨by simp [ok1]; omega, HB.out⟩
      · by_cases h3 : mem < sz
        · rw [h1] at c40
          go_enter Tryz.func84, Tryz.ntmps84
          go_wp2_with (first | (go_at_call 130; refine (c40 _).mono ?_; rintro e w1 ⟨rfl, rfl⟩) | fail)
          all_goals go_ret
          all_goals exact ⟨by simp [ok1]; omega, HB.out⟩
        · by_cases h4 : mem ≤ 1073741824
          · rw [h1] at c40
            go_enter Tryz.func84, Tryz.ntmps84
            go_wp2_with (first | (go_at_call 130; refine (c40 _).mono ?_; rintro e w1 ⟨rfl, rfl⟩) | fail)
            all_goals go_ret
            all_goals refine ⟨?_, HB.out⟩
            all_goals simp [ok1, h0, h1]
            all_goals rw [Bool.eq_iff_iff]
            all_goals simp
            all_goals omega
          · rw [h1] at c40
            go_enter Tryz.func84, Tryz.ntmps84
            go_wp2_with (first | (go_at_call 130; refine (c40 _).mono ?_; rintro e w1 ⟨rfl, rfl⟩) | fail)
            all_goals go_ret
            all_goals refine ⟨?_, HB.out⟩
            all_goals simp [ok1, h0, h1]
            all_goals omega
    · have h1 : mf fl = false := by simpa using h1
      rw [h1] at c40
      go_enter Tryz.func84, Tryz.ntmps84
      go_wp2_with (first | (go_at_call 130; refine (c40 _).mono ?_; rintro e w1 ⟨rfl, rfl⟩) | fail)
      all_goals go_ret
      all_goals exact ⟨by simp [ok1, h1], HB.out⟩
  · have h0' : (va % 4096 != 0) = true := by simpa using h0
    go_enter Tryz.func84, Tryz.ntmps84
    go_wp2_with (first | (go_at_call 130; refine (c40 _).mono ?_; rintro e w1 ⟨rfl, rfl⟩) | fail)
    all_goals go_ret
    all_goals exact ⟨by simp [ok1, h0], HB.out⟩
theorem refusal_any (a r : Int) (w : World) : Calls Tryz.prog 46 #[.int .i64 a, .int .i64 r] w fun e w' => e = .returned (.pointer (some ⟨w.heap.size, 0, .none⟩)) ∧ w' = w.alloc (.cells #[.string ramB, .int .i64 a, .iface 35 (.int .i64 r)] 143) := by
  go_enter Tryz.func46, Tryz.ntmps46
  go_wp2
  go_ret
  exact ⟨rfl, rfl⟩
/-- What is given up: the place and the number. -/
def Up (w : World) (a r : Int) (e : Ending) (w' : World) : Prop := ∃ v, e = .panicked [{ v := v, recovered := false }] ∧ FaultIn w' w.heap.size v a r ∧ Below w.heap.size w w'
theorem giveUp_any (a r : Int) (w : World) : Calls Tryz.prog 136 #[.int .i64 a, .int .i64 r] w fun e w' => Up w a r e w' := by
  go_enter Tryz.func136, Tryz.ntmps136
  go_wp2_with (go_at_call 46; refine (refusal_any a r w).mono ?_; rintro e w0 ⟨rfl, rfl⟩)
  exact ⟨rfl, _, rfl, faultIn_new w w.heap.size a r (Nat.le_refl _), (Below.refl _ _).alloc (Nat.le_refl _) _⟩
theorem Up.back {V w w' : World} {a r : Int} {e : Ending} (h : Up w a r e w') (b : Below V.heap.size V w) : Up V a r e w' := by
  obtain ⟨v, h1, ⟨x, h2, h3⟩, h4⟩ := h
  exact ⟨v, h1, ⟨x, Nat.le_trans b.size h2, h3⟩, b.trans (h4.mono b.size)⟩
end Go.Proofs.YtacdgfojdkppmaaGreatDoor
