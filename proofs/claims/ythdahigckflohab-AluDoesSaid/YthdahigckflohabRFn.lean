import Derived.Test.YthdahigckflohabPartsM
import Derived.Test.YthdahigckflohabRMul
import Derived.Test.YthdahigckflohabLong
namespace Go.Proofs.Ythdahigckflohab
open Go.RowKit
set_option linter.unusedVariables false
set_option linter.unusedSimpArgs false
theorem bit_any (t : Bool) (w : World) : Calls Try.prog 64 #[.bool t] w fun e w' => e = .returned (.int .u64 (if t then 1 else 0)) ∧ w' = w := by
  cases t
  all_goals
    go_enter Try.func64, Try.ntmps64
    go_wp2
    go_ret
    exact ⟨rfl, rfl⟩
theorem rwiden_any (a : Int) (w : World) (ha : W64 a) : Calls Try.prog 70 #[.int .u64 a] w fun e w' => e = .returned (.int .u64 (wid 4294967296 a)) ∧ w' = w := by
  have hand := and32 a ha
  by_cases h : 2147483648 ≤ a % 4294967296
  · have g : decide (2147483648 ≤ bits .and .u64 a 4294967295) = true := by rw [hand, decide_eq_true_eq]; exact h
    have k : wid 4294967296 a = IntKind.u64.wrap (bits .and .u64 a 4294967295 + 18446744069414584320) := by rw [hand, wu]; unfold wid; omega
    rw [k]
    clear k hand h
    go_enter Try.func70, Try.ntmps70
    go_wp2
    go_ret
    exact ⟨rfl, rfl⟩
  · have g : decide (2147483648 ≤ bits .and .u64 a 4294967295) = false := by rw [hand, decide_eq_false_iff_not]; exact h
    have k : wid 4294967296 a = bits .and .u64 a 4294967295 := by rw [hand]; unfold wid; omega
    rw [k]
    clear k hand h
    go_enter Try.func70, Try.ntmps70
    go_wp2
    go_ret
    exact ⟨rfl, rfl⟩
theorem ramount_any (v : Int) (w : World) (hv : W64 v) : Calls Try.prog 82 #[.int .u64 v] w fun e w' => e = .returned (.int .u64 (amt v)) ∧ w' = w := by
  have c := fun w => rbelow_any v w hv
  obtain ⟨h0, h1⟩ := hv
  unfold amt
  by_cases h : 9223372036854775808 ≤ v
  · rw [if_pos h]
    rw [decide_eq_true h] at c
    go_enter Try.func82, Try.ntmps82
    go_wp2_with fail
    refine (c _).mono ?_; rintro e w' ⟨rfl, rfl⟩
    clear c
    go_wp2
    go_ret
    exact ⟨by simp [wu], rfl⟩
  · rw [if_neg h]
    rw [decide_eq_false h] at c
    go_enter Try.func82, Try.ntmps82
    go_wp2_with fail
    refine (c _).mono ?_; rintro e w' ⟨rfl, rfl⟩
    clear c
    go_wp2
    go_ret
    exact ⟨rfl, rfl⟩
theorem unsigned_any (a b : Int) (w : World) (ha : W64 a) (hb : W64 b) :
    Calls Try.prog 69 #[.int .u64 a, .int .u64 b] w fun e w' => e = .returned (.tuple #[.int .u64 (fDIVU a b), .int .u64 (fREMU a b)]) ∧ Below w.heap.size w w' := by
  by_cases h : b = 0
  · have k1 : fDIVU a b = 18446744073709551615 := if_pos h
    have k2 : fREMU a b = a := if_pos h
    rw [k1, k2]
    have g : (b == 0) = true := by rw [beq_iff_eq]; exact h
    clear k1 k2 h
    go_enter Try.func69, Try.ntmps69
    go_wp2
    go_ret2
    exact ⟨rfl, Below.refl _ _⟩
  · have k1 : fDIVU a b = a / b := if_neg h
    have k2 : fREMU a b = a % b := if_neg h
    have c := fun w => long_any 0 a b w (by decide) (by have := hb.1; omega) hb.2 ha
    rw [Int.zero_mul, Int.zero_add] at c
    rw [k1, k2]
    have g : (b == 0) = false := by rw [beq_eq_false_iff_ne]; exact h
    clear k1 k2 h
    generalize a / b = q at *
    generalize a % b = r at *
    go_enter Try.func69, Try.ntmps69
    go_wp2_with fail
    refine (c _).mono ?_; rintro e w1 ⟨rfl, hb1⟩
    clear c
    go_wp2
    go_ret2
    exact ⟨rfl, hb1⟩
theorem tdiv_abs (A B : Int) : A.tdiv B = if decide (A < 0) != decide (B < 0) then -((A.natAbs : Int) / (B.natAbs : Int)) else (A.natAbs : Int) / (B.natAbs : Int) := by
  by_cases hA : A < 0 <;> by_cases hB : B < 0
  · rw [if_neg (by simp [hA, hB])]
    obtain ⟨x, rfl⟩ : ∃ x, A = -x := ⟨-A, by omega⟩
    obtain ⟨y, rfl⟩ : ∃ y, B = -y := ⟨-B, by omega⟩
    rw [Int.neg_tdiv, Int.tdiv_neg, Int.neg_neg, Int.tdiv_eq_ediv_of_nonneg (by omega)]
    rw [show ((-x).natAbs : Int) = x by omega, show ((-y).natAbs : Int) = y by omega]
  · rw [if_pos (by simp [hA, hB])]
    obtain ⟨x, rfl⟩ : ∃ x, A = -x := ⟨-A, by omega⟩
    rw [Int.neg_tdiv, Int.tdiv_eq_ediv_of_nonneg (by omega)]
    rw [show ((-x).natAbs : Int) = x by omega, show (B.natAbs : Int) = B by omega]
  · rw [if_pos (by simp [hA, hB])]
    obtain ⟨y, rfl⟩ : ∃ y, B = -y := ⟨-B, by omega⟩
    rw [Int.tdiv_neg, Int.tdiv_eq_ediv_of_nonneg (by omega)]
    rw [show ((-y).natAbs : Int) = y by omega, show (A.natAbs : Int) = A by omega]
  · rw [if_neg (by simp [hA, hB])]
    rw [Int.tdiv_eq_ediv_of_nonneg (by omega), show (A.natAbs : Int) = A by omega, show (B.natAbs : Int) = B by omega]
theorem tmod_abs (A B : Int) : A.tmod B = if A < 0 then -((A.natAbs : Int) % (B.natAbs : Int)) else (A.natAbs : Int) % (B.natAbs : Int) := by
  have hb : ∀ x : Int, 0 ≤ x → x.tmod B = x % (B.natAbs : Int) := by
    intro x hx
    by_cases hB : B < 0
    · obtain ⟨y, rfl⟩ : ∃ y, B = -y := ⟨-B, by omega⟩
      rw [Int.tmod_neg, Int.tmod_eq_emod_of_nonneg hx, show ((-y).natAbs : Int) = y by omega]
    · rw [Int.tmod_eq_emod_of_nonneg hx, show (B.natAbs : Int) = B by omega]
  by_cases hA : A < 0
  · rw [if_pos hA]
    obtain ⟨x, rfl⟩ : ∃ x, A = -x := ⟨-A, by omega⟩
    rw [Int.neg_tmod, hb x (by omega), show ((-x).natAbs : Int) = x by omega]
  · rw [if_neg hA, hb A (by omega), show (A.natAbs : Int) = A by omega]
theorem sgn_dec (a : Int) (ha : W64 a) : decide (9223372036854775808 ≤ a) = decide (wrap64 a < 0) := by
  obtain ⟨h0, h1⟩ := ha
  rw [Bool.eq_iff_iff]; simp only [decide_eq_true_eq]; unfold wrap64; omega
theorem amt_w (b : Int) (hb : W64 b) : 0 ≤ amt b ∧ amt b ≤ 9223372036854775808 := by
  obtain ⟨h0, h1⟩ := hb
  unfold amt; split <;> omega
theorem amt_ne (b : Int) (hb : W64 b) (h : b ≠ 0) : amt b ≠ 0 := by
  obtain ⟨h0, h1⟩ := hb
  unfold amt; split <;> omega
set_option maxHeartbeats 1000000 in
theorem signed_as (a b A B Q R : Int) (sa sb : Bool) (w : World) (hz : (b == 0) = false)
    (ca : ∀ w, Calls Try.prog 82 #[.int .u64 a] w fun e w' => e = .returned (.int .u64 A) ∧ w' = w)
    (cb : ∀ w, Calls Try.prog 82 #[.int .u64 b] w fun e w' => e = .returned (.int .u64 B) ∧ w' = w)
    (cl : ∀ w, Calls Try.prog 84 #[.agg #[.int .u64 0, .int .u64 A], .int .u64 B] w fun e w' => e = .returned (.tuple #[.int .u64 Q, .int .u64 R]) ∧ Below w.heap.size w w')
    (da : ∀ w, Calls Try.prog 63 #[.int .u64 a] w fun e w' => e = .returned (.bool sa) ∧ w' = w)
    (db : ∀ w, Calls Try.prog 63 #[.int .u64 b] w fun e w' => e = .returned (.bool sb) ∧ w' = w) :
    Calls Try.prog 68 #[.int .u64 a, .int .u64 b] w fun e w' => e = .returned (.tuple #[.int .u64 (if sa != sb then IntKind.u64.wrap (0 - Q) else Q), .int .u64 (if sa then IntKind.u64.wrap (0 - R) else R)]) ∧ Below w.heap.size w w' := by
  cases sa <;> cases sb
  all_goals
    go_enter Try.func68, Try.ntmps68
    go_wp2_with fail
    refine (ca _).mono ?_; rintro e w' ⟨rfl, rfl⟩
    clear ca
    go_wp2_with fail
    refine (cb _).mono ?_; rintro e w' ⟨rfl, rfl⟩
    clear cb
    go_wp2_with fail
    refine (cl _).mono ?_; rintro e w1 ⟨rfl, hb1⟩
    clear cl
    go_wp2_with fail
    refine (da _).mono ?_; rintro e w' ⟨rfl, rfl⟩
    go_wp2_with fail
    refine (db _).mono ?_; rintro e w' ⟨rfl, rfl⟩
    clear db
    go_wp2_with fail
    refine (da _).mono ?_; rintro e w' ⟨rfl, rfl⟩
    clear da
    go_wp2
    go_ret2
    exact ⟨by simp, hb1⟩
theorem signed_any (a b : Int) (w : World) (ha : W64 a) (hb : W64 b) :
    Calls Try.prog 68 #[.int .u64 a, .int .u64 b] w fun e w' => e = .returned (.tuple #[.int .u64 (fDIV a b), .int .u64 (fREM a b)]) ∧ Below w.heap.size w w' := by
  by_cases h : b = 0
  · have k1 : fDIV a b = 18446744073709551615 := if_pos h
    have k2 : fREM a b = a := if_pos h
    rw [k1, k2]
    have g : (b == 0) = true := by rw [beq_iff_eq]; exact h
    clear k1 k2 h
    go_enter Try.func68, Try.ntmps68
    go_wp2
    go_ret2
    exact ⟨rfl, Below.refl _ _⟩
  · have g : (b == 0) = false := by rw [beq_eq_false_iff_ne]; exact h
    have wa := amt_w a ha
    have wb := amt_w b hb
    have nb := amt_ne b hb h
    have cl := fun w => long_any 0 (amt a) (amt b) w (by decide) (by omega) (by omega) ⟨wa.1, by omega⟩
    rw [Int.zero_mul, Int.zero_add] at cl
    have S := signed_as a b _ _ _ _ _ _ w g (fun w => ramount_any a w ha) (fun w => ramount_any b w hb) cl (fun w => rbelow_any a w ha) (fun w => rbelow_any b w hb)
    have q0 : 0 ≤ amt a / amt b ∧ amt a / amt b ≤ 9223372036854775808 := ⟨Int.ediv_nonneg wa.1 wb.1, Int.le_trans (Int.ediv_le_self _ wa.1) wa.2⟩
    have r0 : 0 ≤ amt a % amt b ∧ amt a % amt b ≤ 9223372036854775808 := ⟨Int.emod_nonneg _ nb, by have := Int.emod_lt_of_pos (amt a) (show 0 < amt b by omega); omega⟩
    have k1 : fDIV a b = if decide (9223372036854775808 ≤ a) != decide (9223372036854775808 ≤ b) then IntKind.u64.wrap (0 - amt a / amt b) else amt a / amt b := by
      have e : fDIV a b = (wrap64 a).tdiv (wrap64 b) % 18446744073709551616 := if_neg h
      rw [e, tdiv_abs, ← amt_abs a ha, ← amt_abs b hb, sgn_dec a ha, sgn_dec b hb, wu]
      generalize amt a / amt b = q at *
      split <;> omega
    have k2 : fREM a b = if decide (9223372036854775808 ≤ a) then IntKind.u64.wrap (0 - amt a % amt b) else amt a % amt b := by
      have e : fREM a b = (wrap64 a).tmod (wrap64 b) % 18446744073709551616 := if_neg h
      rw [e, tmod_abs, ← amt_abs a ha, ← amt_abs b hb, sgn_dec a ha, wu]
      generalize amt a % amt b = r at *
      by_cases hs : wrap64 a < 0
      · rw [if_pos hs, if_pos (decide_eq_true hs)]; omega
      · rw [if_neg hs, if_neg (by simpa using hs)]; omega
    rw [k1, k2]
    exact S
end Go.Proofs.Ythdahigckflohab
