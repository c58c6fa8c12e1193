import Derived.Test.YtblmkkhiojbcjaaGreatYb
namespace Go.Proofs.YtblmkkhiojbcjaaGreat
open Go.RowKit
set_option linter.unusedVariables false
set_option linter.unusedSimpArgs false
section
variable {w : World} {p b m N : Nat} {B : Nat → Int} {L : List Nat} {F : Nat → Option Nat} {lf : Nat → Nat → Int}
/-- Load of one byte: whether there is one, and a number. -/
theorem load1_any (h : Ram w p b m N B L) (pa : Int) (hp : 0 ≤ pa ∧ pa < 18446744073709551616) : ∃ x ok, (ok = true ↔ isHd N L (pa / 4096 * 4096)) ∧
    Calls Tryz.prog 118 #[.pointer (some ⟨p, 0, .none⟩), .int .u64 pa, .int .i64 1] w fun e w' => e = .returned (.tuple #[.int .u64 x, .bool ok]) ∧ Below w.heap.size w w' := by
  have n2 := h.mem.n2
  by_cases ho : 2147483648 ≤ pa ∧ pa - 2147483648 + 1 ≤ 4096 * N
  · obtain ⟨o, rfl⟩ : ∃ o : Nat, pa = 2147483648 + o := ⟨(pa - 2147483648).toNat, by omega⟩
    have hfN : o / 4096 < N := by omega
    have hpg : (2147483648 + (o : Int)) / 4096 * 4096 = ad (o / 4096) := by unfold ad; omega
    by_cases hL : o / 4096 ∈ L
    · refine ⟨0, false, ?_, ?_⟩
      · constructor
        · intro h; cases h
        · rintro ⟨f, h1, h2, h3⟩
          rw [hpg] at h3
          have : f = o / 4096 := by unfold ad at h3; omega
          exact absurd (this ▸ hL) h2
      · have c := reach_hole h.mem o 1 (by omega) (by omega) (o / 4096) (by omega) (by omega) (by rw [hdL_in hfN]; simp [hL])
        exact load_no _ 1 (access_no _ 1 0 false c)
    · refine ⟨num B o 1, true, ?_, ?_⟩
      · simp only [true_iff]
        exact ⟨o / 4096, hfN, hL, hpg⟩
      · exact load_ok h.mem o 1 (.inl rfl) (by omega) (fun f h1 h2 => by
          have : f = o / 4096 := by omega
          rw [this, hdL_in hfN]
          simp [hL])
  · refine ⟨0, false, ?_, ?_⟩
    · constructor
      · intro h; cases h
      · rintro ⟨f, h1, h2, h3⟩
        unfold ad at h3
        omega
    · exact load_no _ 1 (access_no _ 1 0 false (reach_out h.mem pa 1 hp (by omega) (by omega) ho))
/-- isHeld of a space. -/
theorem held_any (h : Ram w p b m N B L) (pa : Int) (hp : 0 ≤ pa ∧ pa < 18446744073709551616) : ∃ ok, (ok = true ↔ isHd N L pa) ∧
    Calls Tryz.prog 107 #[.pointer (some ⟨p, 0, .none⟩), .int .u64 pa] w fun e w' => e = .returned (.bool ok) ∧ Below w.heap.size w w' := by
  obtain ⟨x, ok, h1, c⟩ := load1_any h pa hp
  refine ⟨ok && decide (pa % 4096 = 0), ?_, ?_⟩
  · constructor
    · intro e
      simp only [Bool.and_eq_true, decide_eq_true_eq] at e
      have := h1.1 e.1
      rwa [show pa / 4096 * 4096 = pa by omega] at this
    · intro e
      obtain ⟨f, h2, h3, h4⟩ := e
      have h5 : pa % 4096 = 0 := by unfold ad at h4; omega
      rw [h1.2 (by rw [show pa / 4096 * 4096 = pa by omega]; exact ⟨f, h2, h3, h4⟩)]
      simp [h5]
  · clear h h1
    cases ok
    · go_enter Tryz.func107, Tryz.ntmps107
      go_wp2_with (go_at_call 118; refine c.mono ?_; rintro _ w1 ⟨rfl, b1⟩)
      go_ret
      exact ⟨by simp, b1⟩
    · by_cases h5 : pa % 4096 = 0
      · go_enter Tryz.func107, Tryz.ntmps107
        go_wp2_with (go_at_call 118; refine c.mono ?_; rintro _ w1 ⟨rfl, b1⟩)
        go_ret
        exact ⟨by simp [h5], b1⟩
      · have h6 : (pa % 4096 == 0) = false := by simpa using h5
        go_enter Tryz.func107, Tryz.ntmps107
        go_wp2_with (go_at_call 118; refine c.mono ?_; rintro _ w1 ⟨rfl, b1⟩)
        go_ret
        exact ⟨by simp [h5], b1⟩
/-- Two held frames, unlike. -/
theorem two_any (h : Ram w p b m N B L) (a t : Int) (ha : 0 ≤ a ∧ a < 18446744073709551616) (ht : 0 ≤ t ∧ t < 18446744073709551616) : ∃ ok, (ok = true ↔ isHd N L a ∧ isHd N L t ∧ a ≠ t) ∧
    Calls Tryz.prog 76 #[.pointer (some ⟨p, 0, .none⟩), .int .u64 a, .int .u64 t] w fun e w' => e = .returned (.bool ok) ∧ Below w.heap.size w w' := by
  obtain ⟨o1, h1, c1⟩ := held_any h a ha
  cases o1
  · refine ⟨false, ?_, ?_⟩
    · constructor
      · intro e; cases e
      · intro e; exact absurd (h1.2 e.1) (by simp)
    · clear h h1
      go_enter Tryz.func76, Tryz.ntmps76
      go_wp2_with (go_at_call 107; refine c1.mono ?_; rintro _ w1 ⟨rfl, b1⟩)
      go_ret
      exact ⟨rfl, b1⟩
  · have hy : ∀ w', Below w.heap.size w w' → ∃ ok, (ok = true ↔ isHd N L t) ∧ Calls Tryz.prog 107 #[.pointer (some ⟨p, 0, .none⟩), .int .u64 t] w' fun e w'' => e = .returned (.bool ok) ∧ Below w'.heap.size w' w'' := fun w' b => held_any (h.below b) t ht
    by_cases h2 : isHd N L t
    · have hy2 : ∀ w', Below w.heap.size w w' → Calls Tryz.prog 107 #[.pointer (some ⟨p, 0, .none⟩), .int .u64 t] w' fun e w'' => e = .returned (.bool true) ∧ Below w'.heap.size w' w'' := fun w' b => by
        obtain ⟨ok, e1, e2⟩ := hy w' b
        obtain rfl : ok = true := e1.2 h2
        exact e2
      have HY : Hid (∀ w', Below w.heap.size w w' → Calls Tryz.prog 107 #[.pointer (some ⟨p, 0, .none⟩), .int .u64 t] w' fun e w'' => e = .returned (.bool true) ∧ Below w'.heap.size w' w'') := hy2
      refine ⟨decide (a ≠ t), ?_, ?_⟩
      · constructor
        · intro e; exact ⟨h1.1 rfl, h2, of_decide_eq_true e⟩
        · intro e; exact decide_eq_true e.2.2
      · clear h h1 hy hy2
        by_cases hat : a = t
        · subst hat
          go_enter Tryz.func76, Tryz.ntmps76
          go_wp2_with first | (go_at_call_of 107 (.int .u64 a); refine c1.mono ?_; rintro _ w1 ⟨rfl, b1⟩) | (go_at_call 107; first | (refine (HY.out _ b1).mono ?_; rintro _ w2 ⟨rfl, b2⟩) | (refine c1.mono ?_; rintro _ w1 ⟨rfl, b1⟩))
          go_ret
          exact ⟨by simp, b1.trans (b2.mono b1.size)⟩
        · have hne : (a != t) = true := by simpa using hat
          go_enter Tryz.func76, Tryz.ntmps76
          go_wp2_with (go_at_call 107; first | (refine (HY.out _ b1).mono ?_; rintro _ w2 ⟨rfl, b2⟩) | (refine c1.mono ?_; rintro _ w1 ⟨rfl, b1⟩))
          go_ret
          exact ⟨by simp [hat], b1.trans (b2.mono b1.size)⟩
    · have hy2 : ∀ w', Below w.heap.size w w' → Calls Tryz.prog 107 #[.pointer (some ⟨p, 0, .none⟩), .int .u64 t] w' fun e w'' => e = .returned (.bool false) ∧ Below w'.heap.size w' w'' := fun w' b => by
        obtain ⟨ok, e1, e2⟩ := hy w' b
        cases ok
        · exact e2
        · exact absurd (e1.1 rfl) h2
      have HY : Hid (∀ w', Below w.heap.size w w' → Calls Tryz.prog 107 #[.pointer (some ⟨p, 0, .none⟩), .int .u64 t] w' fun e w'' => e = .returned (.bool false) ∧ Below w'.heap.size w' w'') := hy2
      refine ⟨false, ?_, ?_⟩
      · constructor
        · intro e; cases e
        · intro e; exact absurd e.2.1 h2
      · clear h h1 hy hy2 h2
        go_enter Tryz.func76, Tryz.ntmps76
        go_wp2_with (go_at_call 107; first | (refine (HY.out _ b1).mono ?_; rintro _ w2 ⟨rfl, b2⟩) | (refine c1.mono ?_; rintro _ w1 ⟨rfl, b1⟩))
        go_ret
        exact ⟨rfl, b1.trans (b2.mono b1.size)⟩
end
end Go.Proofs.YtblmkkhiojbcjaaGreat
