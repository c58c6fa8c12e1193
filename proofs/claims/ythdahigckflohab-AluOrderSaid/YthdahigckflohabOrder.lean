import Derived.Test.YthdahigckflohabHalf
namespace Go.Proofs.Ythdahigckflohab
open Go.RowKit
set_option linter.unusedVariables false
set_option linter.unusedSimpArgs false
set_option maxHeartbeats 4000000 in
set_option maxRecDepth 100000 in
theorem order_as (a b c : Int) (e l lu x y : Bool) (w : World)
    (c1 : ∀ w, Calls Try.prog 13 #[.int .i64 5, .int .u64 a, .int .u64 b] w fun r w' => r = .returned (.tuple #[.bool e, .nilIface]) ∧ Below w.heap.size w w')
    (c2 : ∀ w, Calls Try.prog 13 #[.int .i64 6, .int .u64 a, .int .u64 b] w fun r w' => r = .returned (.tuple #[.bool (!e), .nilIface]) ∧ Below w.heap.size w w')
    (c3 : ∀ w, Calls Try.prog 13 #[.int .i64 7, .int .u64 a, .int .u64 b] w fun r w' => r = .returned (.tuple #[.bool l, .nilIface]) ∧ Below w.heap.size w w')
    (c4 : ∀ w, Calls Try.prog 13 #[.int .i64 8, .int .u64 a, .int .u64 b] w fun r w' => r = .returned (.tuple #[.bool (!l), .nilIface]) ∧ Below w.heap.size w w')
    (c5 : ∀ w, Calls Try.prog 13 #[.int .i64 9, .int .u64 a, .int .u64 b] w fun r w' => r = .returned (.tuple #[.bool lu, .nilIface]) ∧ Below w.heap.size w w')
    (c6 : ∀ w, Calls Try.prog 13 #[.int .i64 10, .int .u64 a, .int .u64 b] w fun r w' => r = .returned (.tuple #[.bool (!lu), .nilIface]) ∧ Below w.heap.size w w')
    (d1 : ∀ w, Calls Try.prog 9 #[.int .i64 34, .int .u64 a, .int .u64 b] w fun r w' => r = .returned (.tuple #[.int .u64 (if l then 1 else 0), .bool true]) ∧ Below w.heap.size w w')
    (d2 : ∀ w, Calls Try.prog 9 #[.int .i64 35, .int .u64 a, .int .u64 b] w fun r w' => r = .returned (.tuple #[.int .u64 (if lu then 1 else 0), .bool true]) ∧ Below w.heap.size w w')
    (c7 : ∀ w, Calls Try.prog 13 #[.int .i64 7, .int .u64 b, .int .u64 c] w fun r w' => r = .returned (.tuple #[.bool x, .nilIface]) ∧ Below w.heap.size w w')
    (c8 : ∀ w, Calls Try.prog 13 #[.int .i64 7, .int .u64 a, .int .u64 c] w fun r w' => r = .returned (.tuple #[.bool y, .nilIface]) ∧ Below w.heap.size w w')
    (f1 : (a == b) = e) (f2 : decide (a < b) = lu) (f3 : decide (wrap64 a < wrap64 b) = l)
    (hf : l = false ∨ (l = true ∧ x = false) ∨ (l = true ∧ x = true ∧ y = true)) :
    Calls Try.prog 6 #[.int .u64 a, .int .u64 b, .int .u64 c] w fun e w' => e = .returned (.bool true) ∧ Below w.heap.size w w' := by
  rcases hf with rfl | ⟨rfl, rfl⟩ | ⟨rfl, rfl, rfl⟩ <;> cases e <;> cases lu
  all_goals
    simp only [Bool.not_true, Bool.not_false, if_true, if_false, Bool.false_eq_true] at c2 c4 c6 d1 d2
    go_enter Try.func6, Try.ntmps6
    go_wp2_with fail
    refine (c1 _).mono ?_; rintro r w1 ⟨rfl, hb1⟩
    clear c1
    go_wp2_with fail
    refine (c2 _).mono ?_; rintro r w2 ⟨rfl, hb2⟩
    clear c2
    go_wp2_with fail
    refine (c3 _).mono ?_; rintro r w3 ⟨rfl, hb3⟩
    clear c3
    go_wp2_with fail
    refine (c4 _).mono ?_; rintro r w4 ⟨rfl, hb4⟩
    clear c4
    go_wp2_with fail
    refine (c5 _).mono ?_; rintro r w5 ⟨rfl, hb5⟩
    clear c5
    go_wp2_with fail
    refine (c6 _).mono ?_; rintro r w6 ⟨rfl, hb6⟩
    clear c6
    go_wp2_with fail
    refine (d1 _).mono ?_; rintro r w7 ⟨rfl, hb7⟩
    clear d1
    go_wp2_with fail
    refine (d2 _).mono ?_; rintro r w8 ⟨rfl, hb8⟩
    clear d2
    go_wp2_with fail
    refine (c7 _).mono ?_; rintro r w9 ⟨rfl, hb9⟩
    clear c7
    go_wp2_with fail
    refine (c8 _).mono ?_; rintro r w10 ⟨rfl, hb10⟩
    clear c8
    go_wp2
    go_ret
    exact ⟨rfl, bseq (bseq (bseq (bseq (bseq (bseq (bseq (bseq (bseq hb1 hb2) hb3) hb4) hb5) hb6) hb7) hb8) hb9) hb10⟩
theorem order_walk (a b c : Int) (w : World) (ha : W64 a) (hb : W64 b) (hc : W64 c) :
    Calls Try.prog 6 #[.int .u64 a, .int .u64 b, .int .u64 c] w fun e w' => e = .returned (.bool true) ∧ Below w.heap.size w w' := by
  have k4 : cres 3 a b = !decide (wrap64 a < wrap64 b) := by
    show decide (wrap64 b ≤ wrap64 a) = !decide (wrap64 a < wrap64 b)
    rw [Bool.eq_iff_iff]; simp
  have k6 : cres 5 a b = !decide (a < b) := by
    show decide (b ≤ a) = !decide (a < b)
    rw [Bool.eq_iff_iff]; simp
  have c4 := fun w => holds_hit 3 (by decide) a b w ha hb
  have c6 := fun w => holds_hit 5 (by decide) a b w ha hb
  rw [k4] at c4
  rw [k6] at c6
  refine order_as a b c _ _ _ _ _ w (fun w => holds_hit 0 (by decide) a b w ha hb) (fun w => holds_hit 1 (by decide) a b w ha hb) (fun w => holds_hit 2 (by decide) a b w ha hb)
    c4 (fun w => holds_hit 4 (by decide) a b w ha hb) c6
    (fun w => does_as 34 a b _ w (fun w => do_word 3 (by decide) a b w ha hb)) (fun w => does_as 35 a b _ w (fun w => do_word 4 (by decide) a b w ha hb))
    (fun w => holds_hit 2 (by decide) b c w hb hc) (fun w => holds_hit 2 (by decide) a c w ha hc) rfl rfl rfl ?_
  show decide (wrap64 a < wrap64 b) = false ∨ (decide (wrap64 a < wrap64 b) = true ∧ decide (wrap64 b < wrap64 c) = false) ∨ (decide (wrap64 a < wrap64 b) = true ∧ decide (wrap64 b < wrap64 c) = true ∧ decide (wrap64 a < wrap64 c) = true)
  by_cases h : wrap64 a < wrap64 b
  · by_cases k : wrap64 b < wrap64 c
    · exact .inr (.inr ⟨decide_eq_true h, decide_eq_true k, decide_eq_true (by omega)⟩)
    · exact .inr (.inl ⟨decide_eq_true h, decide_eq_false k⟩)
  · exact .inl (decide_eq_false h)
end Go.Proofs.Ythdahigckflohab
