import Derived.Test.YthdahigckflohabMoves
import Derived.Test.YthdahigckflohabNum
namespace Go.Proofs.Ythdahigckflohab
open Go.RowKit
set_option linter.unusedVariables false
set_option linter.unusedSimpArgs false
theorem func85 (f : Nat) (c d : Array Value) (w : World) : (binOp .eql 54 (.func (.func f) c d) .nilFunc).run Try.prog w = .ok (.bool false) w := by kernel_rfl
theorem nil85 (w : World) : (binOp .eql 54 .nilFunc .nilFunc).run Try.prog w = .ok (.bool true) w := by kernel_rfl
attribute [local go_sem] run_store_func run_store_nilFunc eqGuard_func func85 nil85
theorem high_any (a b : Int) (w : World) (ha : W64 a) (hb : W64 b) :
    Calls Try.prog 53 #[.int .u64 a, .int .u64 b] w fun e w' => e = .returned (.int .u64 (a * b / 18446744073709551616)) ∧ Below w.heap.size w w' := by
  have c := fun w => mulW_any a b w ha hb
  generalize a * b / 18446744073709551616 = h at *
  generalize a * b % 18446744073709551616 = l at *
  have fd : ∀ w : World, (Instr.field 83 (.agg #[.int .u64 h, .int .u64 l]) 0).run Try.prog w = .ok (.int .u64 h) w := fun w => by kernel_rfl
  go_enter Try.func53, Try.ntmps53
  go_wp2_with fail
  refine (c _).mono ?_; rintro e w' ⟨rfl, hb⟩
  clear c
  go_wp2
  go_ret
  exact ⟨rfl, hb⟩
def neg (a : Int) : Int := if 9223372036854775808 ≤ a then 1 else 0
/-- The upper half of the product of a as it is signed and b as it is. -/
def fMIX (a b : Int) : Int := (a * b / 18446744073709551616 - b * neg a) % 18446744073709551616
def fMH (a b : Int) : Int := (a * b / 18446744073709551616 - b * neg a - a * neg b) % 18446744073709551616
theorem neg_wrap (a : Int) (ha : W64 a) : (if decide (wrap64 a < 0) then (1 : Int) else 0) = neg a := by
  obtain ⟨h0, h1⟩ := ha
  unfold neg wrap64
  by_cases h : 9223372036854775808 ≤ a
  · rw [if_pos h, if_pos (by rw [decide_eq_true_eq]; omega)]
  · rw [if_neg h, if_neg (by rw [decide_eq_true_eq]; omega)]
theorem neg01 (a : Int) : neg a = 0 ∨ neg a = 1 := by unfold neg; split <;> simp
set_option maxHeartbeats 1000000 in
theorem mixed_any (a b : Int) (w : World) (ha : W64 a) (hb : W64 b) :
    Calls Try.prog 52 #[.int .u64 a, .int .u64 b] w fun e w' => e = .returned (.int .u64 (fMIX a b)) ∧ Below w.heap.size w w' := by
  have c := fun w => high_any a b w ha hb
  have d := fun w => oneIf_any (decide (wrap64 a < 0)) w
  rw [neg_wrap a ha] at d
  have k : fMIX a b = IntKind.u64.wrap (a * b / 18446744073709551616 - IntKind.u64.wrap (b * neg a)) := by simp only [wu]; unfold fMIX; omega
  rw [k]
  clear k
  generalize a * b / 18446744073709551616 = h at *
  generalize neg a = n at *
  go_enter Try.func52, Try.ntmps52
  go_wp2_with (first
    | (go_at_call 53; refine (c _).mono ?_; rintro e w' ⟨rfl, hb1⟩)
    | (go_at_call 77; refine (d _).mono ?_; rintro e w' ⟨rfl, rfl⟩))
  go_ret
  exact ⟨rfl, hb1⟩
set_option maxHeartbeats 1000000 in
theorem mh_any (a b : Int) (w : World) (ha : W64 a) (hb : W64 b) :
    Calls Try.prog 51 #[.int .u64 a, .int .u64 b] w fun e w' => e = .returned (.int .u64 (fMH a b)) ∧ Below w.heap.size w w' := by
  have c := fun w => mixed_any a b w ha hb
  have d := fun w => oneIf_any (decide (wrap64 b < 0)) w
  rw [neg_wrap b hb] at d
  have k : fMH a b = IntKind.u64.wrap (fMIX a b - IntKind.u64.wrap (a * neg b)) := by simp only [wu]; unfold fMH fMIX; omega
  rw [k]
  clear k
  generalize fMIX a b = h at *
  generalize neg b = n at *
  go_enter Try.func51, Try.ntmps51
  go_wp2_with (first
    | (go_at_call 52; refine (c _).mono ?_; rintro e w' ⟨rfl, hb1⟩)
    | (go_at_call 77; refine (d _).mono ?_; rintro e w' ⟨rfl, rfl⟩))
  go_ret
  exact ⟨rfl, hb1⟩
def fSLL (a b : Int) : Int := a * 2 ^ (b % 64).toNat % 18446744073709551616
def fSRL (a b : Int) : Int := a / 2 ^ (b % 64).toNat
def fSRA (a b : Int) : Int := wrap64 a / 2 ^ (b % 64).toNat % 18446744073709551616
def fSLT (a b : Int) : Int := if decide (wrap64 a < wrap64 b) then 1 else 0
def fSLTU (a b : Int) : Int := if decide (a < b) then 1 else 0
/-- What an operation of 64 bits makes of two words. -/
def wres (m : Nat) (a b : Int) : Int :=
  [(a + b) % 18446744073709551616, (a - b) % 18446744073709551616, fSLL a b, fSLT a b, fSLTU a b, bits .xor .u64 a b, fSRL a b, fSRA a b, bits .or .u64 a b, bits .and .u64 a b,
   a * b % 18446744073709551616, fMH a b, fMIX a b, a * b / 18446744073709551616, fDIV a b, fDIVU a b, fREM a b, fREMU a b].getD m 0
theorem weak {P : Program} {f : Nat} {args : Array Value} {w : World} {v : Value} (h : Calls P f args w fun e w' => e = .returned v ∧ w' = w) : Calls P f args w fun e w' => e = .returned v ∧ Below w.heap.size w w' :=
  h.mono fun e w' ⟨he, hw⟩ => ⟨he, by rw [hw]; exact Below.refl _ _⟩
theorem word_all (m : Nat) (hm : m < 18) (a b : Int) (w : World) (ha : W64 a) (hb : W64 b) :
    Calls Try.prog (wordId m) #[.int .u64 a, .int .u64 b] w fun e w' => e = .returned (.int .u64 (wres m a b)) ∧ Below w.heap.size w w' := by
  have hN : m = 0 ∨ m = 1 ∨ m = 2 ∨ m = 3 ∨ m = 4 ∨ m = 5 ∨ m = 6 ∨ m = 7 ∨ m = 8 ∨ m = 9 ∨ m = 10 ∨ m = 11 ∨ m = 12 ∨ m = 13 ∨ m = 14 ∨ m = 15 ∨ m = 16 ∨ m = 17 := by omega
  rcases hN with rfl | rfl | rfl | rfl | rfl | rfl | rfl | rfl | rfl | rfl | rfl | rfl | rfl | rfl | rfl | rfl | rfl | rfl
  · exact weak (add_any a b w ha hb)
  · exact weak (sub_any a b w ha hb)
  · exact weak (sll_any a b w ha hb)
  · exact weak (slt_any a b w ha hb)
  · exact weak (sltu_any a b w ha hb)
  · exact weak (xor_any a b w ha hb)
  · exact weak (srl_any a b w ha hb)
  · exact weak (sra_any a b w ha hb)
  · exact weak (or_any a b w ha hb)
  · exact weak (and_any a b w ha hb)
  · exact weak (mul_any a b w ha hb)
  · exact mh_any a b w ha hb
  · exact mixed_any a b w ha hb
  · exact high_any a b w ha hb
  · exact weak (div_any a b w ha hb)
  · exact weak (divu_any a b w ha hb)
  · exact weak (rem_any a b w ha hb)
  · exact weak (remu_any a b w ha hb)
set_option maxRecDepth 100000 in
theorem word_enters (m : Nat) (hm : m < 18) : Enters (wordId m) := by
  have hN : m = 0 ∨ m = 1 ∨ m = 2 ∨ m = 3 ∨ m = 4 ∨ m = 5 ∨ m = 6 ∨ m = 7 ∨ m = 8 ∨ m = 9 ∨ m = 10 ∨ m = 11 ∨ m = 12 ∨ m = 13 ∨ m = 14 ∨ m = 15 ∨ m = 16 ∨ m = 17 := by omega
  rcases hN with rfl | rfl | rfl | rfl | rfl | rfl | rfl | rfl | rfl | rfl | rfl | rfl | rfl | rfl | rfl | rfl | rfl | rfl <;> exact fun args w => by kernel_rfl
theorem do_word (m : Nat) (hm : m < 18) (a b : Int) (w : World) (ha : W64 a) (hb : W64 b) :
    Calls Try.prog 14 #[.int .i64 (wnum m), .int .u64 a, .int .u64 b] w fun e w' => e = .returned (.tuple #[.int .u64 (wres m a b), .nilIface]) ∧ Below w.heap.size w w' := by
  have c := fun w => hitW m hm w
  have d := fun w => word_all m hm a b w ha hb
  have hE := word_enters m hm
  unfold Enters at hE
  generalize wres m a b = V at *
  generalize wnum m = op at *
  generalize wordId m = f at *
  go_enter Try.func14, Try.ntmps14
  go_wp2_with fail
  refine (c _).mono ?_; rintro e w1 ⟨rfl, hb1⟩
  clear c
  go_wp2_with fail
  refine (d _).mono ?_; rintro e w2 ⟨rfl, hb2⟩
  clear d
  go_wp2
  go_ret2
  exact ⟨rfl, bseq hb1 hb2⟩
theorem do_no (op a b : Int) (w : World) (h1 : ∀ n : Nat, n < 18 → (wnum n == op) = false) (h2 : ∀ n : Nat, n < 10 → (hnum n == op) = false) :
    Calls Try.prog 14 #[.int .i64 op, .int .u64 a, .int .u64 b] w fun e w' => (∃ x, e = .returned (.tuple #[.int .u64 0, x]) ∧ ErrIn w' x 40) ∧ Below w.heap.size w w' := by
  have c := fun w => missW op h1 w
  have d := fun w => missH op h2 w
  clear h1 h2
  go_enter Try.func14, Try.ntmps14
  go_wp2_with fail
  refine (c _).mono ?_; rintro e w1 ⟨rfl, hb1⟩
  clear c
  go_wp2_with fail
  refine (d _).mono ?_; rintro e w2 ⟨rfl, hb2⟩
  clear d
  go_wp2_with fail
  refine (fault_any 40 _).mono ?_; rintro e w3 ⟨⟨v, rfl, hF⟩, hb3⟩
  go_wp2
  go_ret2
  exact ⟨⟨v, rfl, .inr ⟨by decide, faultIn_keep (Below.refl _ _) hF⟩⟩, bseq (bseq hb1 hb2) hb3⟩
theorem does_as (op a b V : Int) (w : World) (c : ∀ w, Calls Try.prog 14 #[.int .i64 op, .int .u64 a, .int .u64 b] w fun e w' => e = .returned (.tuple #[.int .u64 V, .nilIface]) ∧ Below w.heap.size w w') :
    Calls Try.prog 9 #[.int .i64 op, .int .u64 a, .int .u64 b] w fun e w' => e = .returned (.tuple #[.int .u64 V, .bool true]) ∧ Below w.heap.size w w' := by
  go_enter Try.func9, Try.ntmps9
  go_wp2_with fail
  refine (c _).mono ?_; rintro e w1 ⟨rfl, hb1⟩
  clear c
  go_wp2
  go_quiet (fail)
  go_wp2
  go_ret2
  exact ⟨rfl, below_drewN hb1 _⟩
end Go.Proofs.Ythdahigckflohab
