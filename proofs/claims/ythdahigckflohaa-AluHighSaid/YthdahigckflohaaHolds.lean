import Derived.Test.YthdahigckflohaaIsA
import Derived.Test.YthdahigckflohaaWord
import Derived.Test.YthdahigckflohaaTabl
namespace Go.Proofs.Ythdahigckflohaa
open Go.RowKit
set_option linter.unusedVariables false
set_option linter.unusedSimpArgs false
theorem set_other (w : World) (b o : Nat) (u : Value) (B i : Nat) (h : B ≠ b) : (w.setCell ⟨b, o, .none⟩ u).cell? ⟨B, i, .none⟩ = w.cell? ⟨B, i, .none⟩ := World.cell?_setCell_other _ _ _ _ (by intro h'; cases h'; exact h rfl)
def Enters (f : Nat) : Prop := ∀ (args : Array Value) (w : World), (callFunc f args).run Try.prog w = .ok (.enter f args) w
theorem holds_as (op a b : Int) (f : Nat) (t : Bool) (w : World) (c : ∀ w, Calls Try.prog 26 #[.int .i64 op] w fun e w' => e = .returned (.func (.func f) #[] #[]) ∧ Below w.heap.size w w') (hE : Enters f)
    (d : ∀ w, Calls Try.prog f #[.int .u64 a, .int .u64 b] w fun e w' => e = .returned (.bool t) ∧ w' = w) :
    Calls Try.prog 14 #[.int .i64 op, .int .u64 a, .int .u64 b] w fun e w' => e = .returned (.tuple #[.bool t, .nilIface]) ∧ Below w.heap.size w w' := by
  unfold Enters at hE
  go_enter Try.func14, Try.ntmps14
  go_wp2_with fail
  refine (c _).mono ?_
  rintro e w1 ⟨rfl, hb⟩
  clear c
  go_upto_region 2 with fail
  refine wp_region_lit ?_
  refine wpList_read rfl (.func (.func f) #[] #[]) (by kernel_rfl) ?_
  simp only [Act.put, List.setIfInBounds_toArray, List.set_cons_succ, List.set_cons_zero]
  refine wpList_read rfl (.bool false) (by kernel_rfl) ?_
  simp only [Act.put, List.setIfInBounds_toArray, List.set_cons_succ, List.set_cons_zero]
  go_wp2_with fail
  refine (d _).mono ?_
  rintro e w2 ⟨rfl, rfl⟩
  clear d
  go_wp2
  go_ret2
  exact ⟨rfl, hb⟩
theorem holds_no (op a b : Int) (w : World) (c : ∀ w, Calls Try.prog 26 #[.int .i64 op] w fun e w' => e = .returned .nilFunc ∧ Below w.heap.size w w') :
    Calls Try.prog 14 #[.int .i64 op, .int .u64 a, .int .u64 b] w fun e w' => (∃ v, e = .returned (.tuple #[.bool false, v]) ∧ FaultIn w' 0 v 0 40) ∧ Below w.heap.size w w' := by
  go_enter Try.func14, Try.ntmps14
  go_wp2_with fail
  refine (c _).mono ?_
  rintro e w1 ⟨rfl, hb⟩
  clear c
  go_upto_region 2 with fail
  refine wp_region_lit ?_
  refine wpList_read rfl .nilFunc (by kernel_rfl) ?_
  simp only [Act.put, List.setIfInBounds_toArray, List.set_cons_succ, List.set_cons_zero]
  refine wpList_read rfl (.bool true) (by kernel_rfl) ?_
  simp only [Act.put, List.setIfInBounds_toArray, List.set_cons_succ, List.set_cons_zero]
  go_wp2_with fail
  refine (fault_any 40 _).mono ?_
  rintro e w2 ⟨⟨v, rfl, hF⟩, hb2⟩
  go_wp2
  go_ret2
  exact ⟨⟨v, rfl, faultIn_keep (Below.refl _ _) hF⟩, bseq hb hb2⟩
def cres (m : Nat) (a b : Int) : Bool := [a == b, !(a == b), decide (wrap64 a < wrap64 b), decide (wrap64 b ≤ wrap64 a), decide (a < b), decide (b ≤ a)].getD m false
theorem holds_hit (m : Nat) (hm : m < 6) (a b : Int) (w : World) (ha : W64 a) (hb : W64 b) :
    Calls Try.prog 14 #[.int .i64 (cnum m), .int .u64 a, .int .u64 b] w fun e w' => e = .returned (.tuple #[.bool (cres m a b), .nilIface]) ∧ Below w.heap.size w w' := by
  have hN : m = 0 ∨ m = 1 ∨ m = 2 ∨ m = 3 ∨ m = 4 ∨ m = 5 := by omega
  refine holds_as (cnum m) a b (condId m) (cres m a b) w (fun w => hitC m hm w) ?_ ?_
  · rcases hN with rfl | rfl | rfl | rfl | rfl | rfl <;> exact fun args w => by kernel_rfl
  · intro w
    rcases hN with rfl | rfl | rfl | rfl | rfl | rfl
    · exact eq_any a b w ha hb
    · exact ne_any a b w ha hb
    · exact lt_any a b w ha hb
    · exact ge_any a b w ha hb
    · exact ltu_any a b w ha hb
    · exact geu_any a b w ha hb
theorem rbelow_any (a : Int) (w : World) (ha : W64 a) : Calls Try.prog 46 #[.int .u64 a] w fun e w' => e = .returned (.bool (decide (9223372036854775808 ≤ a))) ∧ w' = w := by
  obtain ⟨h0, h1⟩ := ha
  have k : decide (9223372036854775808 ≤ a) = (a / 9223372036854775808 == 1) := by
    rw [Bool.eq_iff_iff]; simp; omega
  rw [k]
  clear k
  go_enter Try.func46, Try.ntmps46
  go_wp2
  go_ret
  exact ⟨rfl, rfl⟩
theorem less_any (a b : Int) (w : World) (ha : W64 a) (hb : W64 b) : Calls Try.prog 28 #[.int .u64 a, .int .u64 b] w fun e w' => e = .returned (.bool (decide (wrap64 a < wrap64 b))) ∧ w' = w := by
  have c := fun w => rbelow_any a w ha
  have d := fun w => rbelow_any b w hb
  obtain ⟨h0, h1⟩ := ha
  obtain ⟨h2, h3⟩ := hb
  by_cases x : 9223372036854775808 ≤ a
  · rw [decide_eq_true x] at c
    by_cases y : 9223372036854775808 ≤ b
    · rw [decide_eq_true y] at d
      have k : decide (wrap64 a < wrap64 b) = decide (a < b) := by rw [Bool.eq_iff_iff]; simp only [decide_eq_true_eq]; unfold wrap64; omega
      rw [k]
      clear k x y
      go_enter Try.func28, Try.ntmps28
      go_wp2_with fail
      refine (c _).mono ?_; rintro e w1 ⟨rfl, rfl⟩
      go_wp2_with fail
      refine (d _).mono ?_; rintro e w1 ⟨rfl, rfl⟩
      go_wp2
      go_ret
      exact ⟨rfl, rfl⟩
    · rw [decide_eq_false y] at d
      have k : decide (wrap64 a < wrap64 b) = true := by simp only [decide_eq_true_eq]; unfold wrap64; omega
      rw [k]
      clear k x y
      go_enter Try.func28, Try.ntmps28
      go_wp2_with fail
      refine (c _).mono ?_; rintro e w1 ⟨rfl, rfl⟩
      go_wp2_with fail
      refine (d _).mono ?_; rintro e w1 ⟨rfl, rfl⟩
      go_wp2_with fail
      refine (c _).mono ?_; rintro e w1 ⟨rfl, rfl⟩
      go_wp2
      go_ret
      exact ⟨rfl, rfl⟩
  · rw [decide_eq_false x] at c
    by_cases y : 9223372036854775808 ≤ b
    · rw [decide_eq_true y] at d
      have k : decide (wrap64 a < wrap64 b) = false := by simp only [decide_eq_false_iff_not]; unfold wrap64; omega
      rw [k]
      clear k x y
      go_enter Try.func28, Try.ntmps28
      go_wp2_with fail
      refine (c _).mono ?_; rintro e w1 ⟨rfl, rfl⟩
      go_wp2_with fail
      refine (d _).mono ?_; rintro e w1 ⟨rfl, rfl⟩
      go_wp2_with fail
      refine (c _).mono ?_; rintro e w1 ⟨rfl, rfl⟩
      go_wp2
      go_ret
      exact ⟨rfl, rfl⟩
    · rw [decide_eq_false y] at d
      have k : decide (wrap64 a < wrap64 b) = decide (a < b) := by rw [Bool.eq_iff_iff]; simp only [decide_eq_true_eq]; unfold wrap64; omega
      rw [k]
      clear k x y
      go_enter Try.func28, Try.ntmps28
      go_wp2_with fail
      refine (c _).mono ?_; rintro e w1 ⟨rfl, rfl⟩
      go_wp2_with fail
      refine (d _).mono ?_; rintro e w1 ⟨rfl, rfl⟩
      go_wp2
      go_ret
      exact ⟨rfl, rfl⟩
/-- Behind the document's answer: no fault. -/
def noneV : Value := .agg #[.slice .none 0 0, .int .i64 0]
set_option maxHeartbeats 1000000 in
theorem rholds_hit (m : Nat) (hm : m < 6) (a b : Int) (w : World) (ha : W64 a) (hb : W64 b) :
    Calls Try.prog 15 #[.int .i64 (cnum m), .int .u64 a, .int .u64 b] w fun e w' => e = .returned (.tuple #[.bool (cres m a b), .agg #[.slice .none 0 0, .int .i64 0]]) ∧ Below w.heap.size w w' := by
  have hN : m = 0 ∨ m = 1 ∨ m = 2 ∨ m = 3 ∨ m = 4 ∨ m = 5 := by omega
  have c := fun w => less_any a b w ha hb
  have k3 : decide (wrap64 b ≤ wrap64 a) = !decide (wrap64 a < wrap64 b) := by rw [Bool.eq_iff_iff]; simp
  obtain ⟨h0, h1⟩ := ha
  obtain ⟨h2, h3⟩ := hb
  rcases hN with rfl | rfl | rfl | rfl | rfl | rfl
  · change Calls Try.prog 15 #[.int .i64 5, .int .u64 a, .int .u64 b] w fun e w' => e = .returned (.tuple #[.bool (a == b), _]) ∧ _
    clear c k3
    go_enter Try.func15, Try.ntmps15
    go_wp2_with fail
    refine (none_any _).mono ?_; rintro e w1 ⟨rfl, rfl⟩
    go_wp2
    exact bodyPost_ret (v := .tuple #[.bool (a == b), .agg #[.slice .none 0 0, .int .i64 0]]) (by simp [results, Try.results15, go_sem]) rfl ⟨rfl, (below_past _ _).alloc (by simp only [World.size_alloc]; omega) _⟩
  · change Calls Try.prog 15 #[.int .i64 6, .int .u64 a, .int .u64 b] w fun e w' => e = .returned (.tuple #[.bool (!(a == b)), _]) ∧ _
    clear c k3
    go_enter Try.func15, Try.ntmps15
    go_wp2_with fail
    refine (none_any _).mono ?_; rintro e w1 ⟨rfl, rfl⟩
    go_wp2
    exact bodyPost_ret (v := .tuple #[.bool (a != b), .agg #[.slice .none 0 0, .int .i64 0]]) (by simp [results, Try.results15, go_sem]) rfl ⟨rfl, (below_past _ _).alloc (by simp only [World.size_alloc]; omega) _⟩
  · change Calls Try.prog 15 #[.int .i64 7, .int .u64 a, .int .u64 b] w fun e w' => e = .returned (.tuple #[.bool (decide (wrap64 a < wrap64 b)), _]) ∧ _
    generalize decide (wrap64 a < wrap64 b) = t at *
    clear k3
    go_enter Try.func15, Try.ntmps15
    go_wp2_with fail
    refine (c _).mono ?_; rintro e w1 ⟨rfl, rfl⟩
    clear c
    go_wp2_with fail
    refine (none_any _).mono ?_; rintro e w1 ⟨rfl, rfl⟩
    go_wp2
    exact bodyPost_ret (v := .tuple #[.bool t, .agg #[.slice .none 0 0, .int .i64 0]]) (by simp [results, Try.results15, go_sem]) rfl ⟨rfl, (below_past _ _).alloc (by simp only [World.size_alloc]; omega) _⟩
  · change Calls Try.prog 15 #[.int .i64 8, .int .u64 a, .int .u64 b] w fun e w' => e = .returned (.tuple #[.bool (decide (wrap64 b ≤ wrap64 a)), _]) ∧ _
    rw [k3]
    generalize decide (wrap64 a < wrap64 b) = t at *
    clear k3
    go_enter Try.func15, Try.ntmps15
    go_wp2_with fail
    refine (c _).mono ?_; rintro e w1 ⟨rfl, rfl⟩
    clear c
    go_wp2_with fail
    refine (none_any _).mono ?_; rintro e w1 ⟨rfl, rfl⟩
    go_wp2
    exact bodyPost_ret (v := .tuple #[.bool (!t), .agg #[.slice .none 0 0, .int .i64 0]]) (by simp [results, Try.results15, go_sem]) rfl ⟨rfl, (below_past _ _).alloc (by simp only [World.size_alloc]; omega) _⟩
  · change Calls Try.prog 15 #[.int .i64 9, .int .u64 a, .int .u64 b] w fun e w' => e = .returned (.tuple #[.bool (decide (a < b)), _]) ∧ _
    clear c k3
    go_enter Try.func15, Try.ntmps15
    go_wp2_with fail
    refine (none_any _).mono ?_; rintro e w1 ⟨rfl, rfl⟩
    go_wp2
    exact bodyPost_ret (v := .tuple #[.bool (decide (a < b)), .agg #[.slice .none 0 0, .int .i64 0]]) (by simp [results, Try.results15, go_sem]) rfl ⟨rfl, (below_past _ _).alloc (by simp only [World.size_alloc]; omega) _⟩
  · change Calls Try.prog 15 #[.int .i64 10, .int .u64 a, .int .u64 b] w fun e w' => e = .returned (.tuple #[.bool (decide (b ≤ a)), _]) ∧ _
    clear c k3
    go_enter Try.func15, Try.ntmps15
    go_wp2_with fail
    refine (none_any _).mono ?_; rintro e w1 ⟨rfl, rfl⟩
    go_wp2
    exact bodyPost_ret (v := .tuple #[.bool (decide (b ≤ a)), .agg #[.slice .none 0 0, .int .i64 0]]) (by simp [results, Try.results15, go_sem]) rfl ⟨rfl, (below_past _ _).alloc (by simp only [World.size_alloc]; omega) _⟩
set_option maxHeartbeats 1000000 in
theorem rholds_no (op a b : Int) (w : World) (hne : ∀ n : Nat, n < 6 → (cnum n == op) = false) :
    Calls Try.prog 15 #[.int .i64 op, .int .u64 a, .int .u64 b] w fun e w' => (∃ B, B < w'.heap.size ∧ e = .returned (.tuple #[.bool false, .agg #[.slice (some ⟨B, 0, .none⟩) 1 1, .int .i64 40]]) ∧ w'.cell? ⟨B, 0, .none⟩ = some (.string aluB) ∧ w'.cell? ⟨B, 1, .none⟩ = some (.int .i64 0)) ∧ Below w.heap.size w w' := by
  have n0 : (op == 5) = false := by have : (5 == op) = false := hne 0 (by decide); simp only [beq_eq_false_iff_ne] at this ⊢; exact fun h => this h.symm
  have n1 : (op == 6) = false := by have : (6 == op) = false := hne 1 (by decide); simp only [beq_eq_false_iff_ne] at this ⊢; exact fun h => this h.symm
  have n2 : (op == 7) = false := by have : (7 == op) = false := hne 2 (by decide); simp only [beq_eq_false_iff_ne] at this ⊢; exact fun h => this h.symm
  have n3 : (op == 8) = false := by have : (8 == op) = false := hne 3 (by decide); simp only [beq_eq_false_iff_ne] at this ⊢; exact fun h => this h.symm
  have n4 : (op == 9) = false := by have : (9 == op) = false := hne 4 (by decide); simp only [beq_eq_false_iff_ne] at this ⊢; exact fun h => this h.symm
  have n5 : (op == 10) = false := by have : (10 == op) = false := hne 5 (by decide); simp only [beq_eq_false_iff_ne] at this ⊢; exact fun h => this h.symm
  clear hne
  go_enter Try.func15, Try.ntmps15
  go_wp2_with fail
  refine (no_any 40 _).mono ?_; rintro e w1 ⟨⟨B, hB0, hB1, rfl, c0, c1⟩, hb⟩
  have hz := hb.size
  simp only [World.size_alloc] at hz hB0
  have hy : w.heap.size < w1.heap.size := by omega
  have k0 : w1.cell? ⟨w.heap.size, 0, .none⟩ = some (.slice .none 0 0) := (hb.cell (by simp only [World.size_alloc]; omega)).trans (by simp)
  have k1 : w1.cell? ⟨w.heap.size, 1, .none⟩ = some (.int .i64 0) := (hb.cell (by simp only [World.size_alloc]; omega)).trans (by simp)
  have f0 : w1.frozen? ⟨w.heap.size, 0, .none⟩ = false := (hb.frozen (by simp only [World.size_alloc]; omega)).trans (by simp)
  have f1 : w1.frozen? ⟨w.heap.size, 1, .none⟩ = false := (hb.frozen (by simp only [World.size_alloc]; omega)).trans (by simp)
  have hW : Below w.heap.size w w1 := (below_past _ _).trans (hb.mono (by simp only [World.size_alloc]; omega))
  go_wp2
  refine bodyPost_ret (v := .tuple #[.bool false, .agg #[.slice (some ⟨B, 0, .none⟩) 1 1, .int .i64 40]]) (by simp [results, Try.results15, go_sem, hy, k0, k1]) rfl ⟨⟨B, ?_, rfl, ?_, ?_⟩, (hW.setCell (Nat.le_refl _) _).setCell (Nat.le_refl _) _⟩
  · simpa using hB1
  · rw [set_other _ _ _ _ _ _ (by omega), set_other _ _ _ _ _ _ (by omega)]; exact c0
  · rw [set_other _ _ _ _ _ _ (by omega), set_other _ _ _ _ _ _ (by omega)]; exact c1
set_option maxHeartbeats 1000000 in
theorem holds_walk_yes (op a b : Int) (t : Bool) (w : World) (c : ∀ w, Calls Try.prog 14 #[.int .i64 op, .int .u64 a, .int .u64 b] w fun e w' => e = .returned (.tuple #[.bool t, .nilIface]) ∧ Below w.heap.size w w')
    (d : ∀ w, Calls Try.prog 15 #[.int .i64 op, .int .u64 a, .int .u64 b] w fun e w' => e = .returned (.tuple #[.bool t, .agg #[.slice .none 0 0, .int .i64 0]]) ∧ Below w.heap.size w w') :
    Calls Try.prog 5 #[.int .i64 op, .int .u64 a, .int .u64 b] w fun e w' => e = .returned (.bool true) ∧ Below w.heap.size w w' := by
  go_enter Try.func5, Try.ntmps5
  go_wp2_with fail
  refine (c _).mono ?_; rintro e w1 ⟨rfl, hb1⟩
  clear c
  go_wp2_with fail
  refine (d _).mono ?_; rintro e w2 ⟨rfl, hb2⟩
  clear d
  have z1 := hb1.size
  have z2 := hb2.size
  go_wp2_with fail
  refine (is_none _).mono ?_; rintro e w3 ⟨rfl, hb3⟩
  go_wp2
  go_ret
  exact ⟨rfl, bseq ((bseq hb1 hb2).alloc (by omega) _) hb3⟩
set_option maxHeartbeats 1000000 in
theorem holds_walk_no (op a b : Int) (w : World) (c : ∀ w, Calls Try.prog 14 #[.int .i64 op, .int .u64 a, .int .u64 b] w fun e w' => (∃ v, e = .returned (.tuple #[.bool false, v]) ∧ FaultIn w' 0 v 0 40) ∧ Below w.heap.size w w')
    (d : ∀ w, Calls Try.prog 15 #[.int .i64 op, .int .u64 a, .int .u64 b] w fun e w' => (∃ B, B < w'.heap.size ∧ e = .returned (.tuple #[.bool false, .agg #[.slice (some ⟨B, 0, .none⟩) 1 1, .int .i64 40]]) ∧ w'.cell? ⟨B, 0, .none⟩ = some (.string aluB) ∧ w'.cell? ⟨B, 1, .none⟩ = some (.int .i64 0)) ∧ Below w.heap.size w w') :
    Calls Try.prog 5 #[.int .i64 op, .int .u64 a, .int .u64 b] w fun e w' => e = .returned (.bool true) ∧ Below w.heap.size w w' := by
  go_enter Try.func5, Try.ntmps5
  go_wp2_with fail
  refine (c _).mono ?_; rintro e w1 ⟨⟨v, rfl, hF⟩, hb1⟩
  clear c
  go_wp2_with fail
  refine (d _).mono ?_; rintro e w2 ⟨⟨B, hB, rfl, c0, c1⟩, hb2⟩
  clear d
  have z1 := hb1.size
  have z2 := hb2.size
  have hp := below_past w2 (.cells #[.slice (some ⟨B, 0, .none⟩) 1 1, .int .i64 40] 41)
  have hI := is_fault v B 1 0 40 (w2.alloc (.cells #[.slice (some ⟨B, 0, .none⟩) 1 1, .int .i64 40] 41)) (faultIn_keep (bseq hb2 hp) hF) (by decide) (by simp only [World.size_alloc]; omega) ((hp.cell hB).trans c0) ((hp.cell hB).trans c1)
  clear hF c0 c1
  go_wp2_with fail
  refine hI.mono ?_; rintro e w3 ⟨rfl, hb3⟩
  clear hI
  go_wp2
  go_ret
  exact ⟨rfl, bseq ((bseq hb1 hb2).alloc (by omega) _) hb3⟩
theorem holds_walk (op a b : Int) (w : World) (ha : W64 a) (hb : W64 b) :
    Calls Try.prog 5 #[.int .i64 op, .int .u64 a, .int .u64 b] w fun e w' => e = .returned (.bool true) ∧ Below w.heap.size w w' := by
  by_cases h : ∃ m : Nat, m < 6 ∧ cnum m = op
  · obtain ⟨m, hm, rfl⟩ := h
    exact holds_walk_yes _ a b _ w (fun w => holds_hit m hm a b w ha hb) (fun w => rholds_hit m hm a b w ha hb)
  · have hne : ∀ n : Nat, n < 6 → (cnum n == op) = false := fun n hn => by
      rw [beq_eq_false_iff_ne]; exact fun e => h ⟨n, hn, e⟩
    exact holds_walk_no op a b w (fun w => holds_no op a b w (fun w => missC op hne w)) (fun w => rholds_no op a b w hne)
end Go.Proofs.Ythdahigckflohaa
