import Derived.Test.YthdahigckflohabIsA
import Derived.Test.YthdahigckflohabWord
import Derived.Test.YthdahigckflohabTabl
namespace Go.Proofs.Ythdahigckflohab
open Go.RowKit
set_option linter.unusedVariables false
set_option linter.unusedSimpArgs false
theorem set_other (w : World) (b o : Nat) (u : Value) (B i : Nat) (h : B ≠ b) : (w.setCell ⟨b, o, .none⟩ u).cell? ⟨B, i, .none⟩ = w.cell? ⟨B, i, .none⟩ := World.cell?_setCell_other _ _ _ _ (by intro h'; cases h'; exact h rfl)
def Enters (f : Nat) : Prop := ∀ (args : Array Value) (w : World), (callFunc f args).run Try.prog w = .ok (.enter f args) w
theorem holds_as (op a b : Int) (f : Nat) (t : Bool) (w : World) (c : ∀ w, Calls Try.prog 18 #[.int .i64 op] w fun e w' => e = .returned (.func (.func f) #[] #[]) ∧ Below w.heap.size w w') (hE : Enters f)
    (d : ∀ w, Calls Try.prog f #[.int .u64 a, .int .u64 b] w fun e w' => e = .returned (.bool t) ∧ w' = w) :
    Calls Try.prog 13 #[.int .i64 op, .int .u64 a, .int .u64 b] w fun e w' => e = .returned (.tuple #[.bool t, .nilIface]) ∧ Below w.heap.size w w' := by
  unfold Enters at hE
  go_enter Try.func13, Try.ntmps13
  go_wp2_with fail
  refine (c _).mono ?_
  rintro e w1 ⟨rfl, hb⟩
  clear c
  go_upto_region 2 with fail
  refine wp_region_lit ?_
  refine wpList_read rfl (.func (.func f) #[] #[]) (by kernel_rfl) ?_
  simp only [Act.put, List.setIfInBounds_toArray, List.set_cons_succ, List.set_cons_zero]
  refine wpList_read rfl (.bool false) (by kernel_rfl) ?_
  simp only [Act.put, List.setIfInBounds_toArray, List.set_cons_succ, List.set_cons_zero]
  go_wp2_with fail
  refine (d _).mono ?_
  rintro e w2 ⟨rfl, rfl⟩
  clear d
  go_wp2
  go_ret2
  exact ⟨rfl, hb⟩
theorem holds_no (op a b : Int) (w : World) (c : ∀ w, Calls Try.prog 18 #[.int .i64 op] w fun e w' => e = .returned .nilFunc ∧ Below w.heap.size w w') :
    Calls Try.prog 13 #[.int .i64 op, .int .u64 a, .int .u64 b] w fun e w' => (∃ v, e = .returned (.tuple #[.bool false, v]) ∧ FaultIn w' 0 v 0 40) ∧ Below w.heap.size w w' := by
  go_enter Try.func13, Try.ntmps13
  go_wp2_with fail
  refine (c _).mono ?_
  rintro e w1 ⟨rfl, hb⟩
  clear c
  go_upto_region 2 with fail
  refine wp_region_lit ?_
  refine wpList_read rfl .nilFunc (by kernel_rfl) ?_
  simp only [Act.put, List.setIfInBounds_toArray, List.set_cons_succ, List.set_cons_zero]
  refine wpList_read rfl (.bool true) (by kernel_rfl) ?_
  simp only [Act.put, List.setIfInBounds_toArray, List.set_cons_succ, List.set_cons_zero]
  go_wp2_with fail
  refine (fault_any 40 _).mono ?_
  rintro e w2 ⟨⟨v, rfl, hF⟩, hb2⟩
  go_wp2
  go_ret2
  exact ⟨⟨v, rfl, faultIn_keep (Below.refl _ _) hF⟩, bseq hb hb2⟩
def cres (m : Nat) (a b : Int) : Bool := [a == b, !(a == b), decide (wrap64 a < wrap64 b), decide (wrap64 b ≤ wrap64 a), decide (a < b), decide (b ≤ a)].getD m false
set_option maxRecDepth 100000 in
theorem holds_hit (m : Nat) (hm : m < 6) (a b : Int) (w : World) (ha : W64 a) (hb : W64 b) :
    Calls Try.prog 13 #[.int .i64 (cnum m), .int .u64 a, .int .u64 b] w fun e w' => e = .returned (.tuple #[.bool (cres m a b), .nilIface]) ∧ Below w.heap.size w w' := by
  have hN : m = 0 ∨ m = 1 ∨ m = 2 ∨ m = 3 ∨ m = 4 ∨ m = 5 := by omega
  refine holds_as (cnum m) a b (condId m) (cres m a b) w (fun w => hitC m hm w) ?_ ?_
  · rcases hN with rfl | rfl | rfl | rfl | rfl | rfl <;> exact fun args w => by kernel_rfl
  · intro w
    rcases hN with rfl | rfl | rfl | rfl | rfl | rfl
    · exact eq_any a b w ha hb
    · exact ne_any a b w ha hb
    · exact lt_any a b w ha hb
    · exact ge_any a b w ha hb
    · exact ltu_any a b w ha hb
    · exact geu_any a b w ha hb
theorem rbelow_any (a : Int) (w : World) (ha : W64 a) : Calls Try.prog 63 #[.int .u64 a] w fun e w' => e = .returned (.bool (decide (9223372036854775808 ≤ a))) ∧ w' = w := by
  obtain ⟨h0, h1⟩ := ha
  have k : decide (9223372036854775808 ≤ a) = (a / 9223372036854775808 == 1) := by
    rw [Bool.eq_iff_iff]; simp; omega
  rw [k]
  clear k
  go_enter Try.func63, Try.ntmps63
  go_wp2
  go_ret
  exact ⟨rfl, rfl⟩
theorem less_any (a b : Int) (w : World) (ha : W64 a) (hb : W64 b) : Calls Try.prog 65 #[.int .u64 a, .int .u64 b] w fun e w' => e = .returned (.bool (decide (wrap64 a < wrap64 b))) ∧ w' = w := by
  have c := fun w => rbelow_any a w ha
  have d := fun w => rbelow_any b w hb
  obtain ⟨h0, h1⟩ := ha
  obtain ⟨h2, h3⟩ := hb
  by_cases x : 9223372036854775808 ≤ a
  · rw [decide_eq_true x] at c
    by_cases y : 9223372036854775808 ≤ b
    · rw [decide_eq_true y] at d
      have k : decide (wrap64 a < wrap64 b) = decide (a < b) := by rw [Bool.eq_iff_iff]; simp only [decide_eq_true_eq]; unfold wrap64; omega
      rw [k]
      clear k x y
      go_enter Try.func65, Try.ntmps65
      go_wp2_with fail
      refine (c _).mono ?_; rintro e w1 ⟨rfl, rfl⟩
      go_wp2_with fail
      refine (d _).mono ?_; rintro e w1 ⟨rfl, rfl⟩
      go_wp2
      go_ret
      exact ⟨rfl, rfl⟩
    · rw [decide_eq_false y] at d
      have k : decide (wrap64 a < wrap64 b) = true := by simp only [decide_eq_true_eq]; unfold wrap64; omega
      rw [k]
      clear k x y
      go_enter Try.func65, Try.ntmps65
      go_wp2_with fail
      refine (c _).mono ?_; rintro e w1 ⟨rfl, rfl⟩
      go_wp2_with fail
      refine (d _).mono ?_; rintro e w1 ⟨rfl, rfl⟩
      go_wp2_with fail
      refine (c _).mono ?_; rintro e w1 ⟨rfl, rfl⟩
      go_wp2
      go_ret
      exact ⟨rfl, rfl⟩
  · rw [decide_eq_false x] at c
    by_cases y : 9223372036854775808 ≤ b
    · rw [decide_eq_true y] at d
      have k : decide (wrap64 a < wrap64 b) = false := by simp only [decide_eq_false_iff_not]; unfold wrap64; omega
      rw [k]
      clear k x y
      go_enter Try.func65, Try.ntmps65
      go_wp2_with fail
      refine (c _).mono ?_; rintro e w1 ⟨rfl, rfl⟩
      go_wp2_with fail
      refine (d _).mono ?_; rintro e w1 ⟨rfl, rfl⟩
      go_wp2_with fail
      refine (c _).mono ?_; rintro e w1 ⟨rfl, rfl⟩
      go_wp2
      go_ret
      exact ⟨rfl, rfl⟩
    · rw [decide_eq_false y] at d
      have k : decide (wrap64 a < wrap64 b) = decide (a < b) := by rw [Bool.eq_iff_iff]; simp only [decide_eq_true_eq]; unfold wrap64; omega
      rw [k]
      clear k x y
      go_enter Try.func65, Try.ntmps65
      go_wp2_with fail
      refine (c _).mono ?_; rintro e w1 ⟨rfl, rfl⟩
      go_wp2_with fail
      refine (d _).mono ?_; rintro e w1 ⟨rfl, rfl⟩
      go_wp2
      go_ret
      exact ⟨rfl, rfl⟩
/-- Behind the document's answer: no fault. -/
def noneV : Value := .agg #[.slice .none 0 0, .int .i64 0]
end Go.Proofs.Ythdahigckflohab
