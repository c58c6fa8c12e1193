import Derived.Test.YthdahigckflohabRHigh
import Derived.Test.YthdahigckflohabHalves
namespace Go.Proofs.Ythdahigckflohab
open Go.RowKit
set_option linter.unusedVariables false
set_option linter.unusedSimpArgs false
theorem and31 (x : Int) (h : W64 x) : bits .and .u64 x 31 = x % 32 := bits_mask .u64 64 (by decide) (fun n h0 h1 => by rw [wu]; omega) 5 (by decide) x h.1 h.2
theorem right_noI (a n : Int) (w : World) (ha : W64 a) (h0 : 0 ≤ n) (h1 : n < 64) : Calls Try.prog 62 #[.int .u64 a, .int .u64 n, .bool false] w fun e w' => e = .returned (.int .u64 (a / 2 ^ n.toNat)) ∧ w' = w := by
  obtain ⟨k, rfl⟩ := Int.eq_ofNat_of_zero_le h0
  exact right_no a k w ha (by omega)
theorem right_I (a n : Int) (t : Bool) (w : World) (ha : W64 a) (h0 : 0 ≤ n) (h1 : n < 64) (ht : t = decide (9223372036854775808 ≤ a)) : Calls Try.prog 62 #[.int .u64 a, .int .u64 n, .bool t] w fun e w' => e = .returned (.int .u64 (wrap64 a / 2 ^ n.toNat % 18446744073709551616)) ∧ w' = w := by
  obtain ⟨k, rfl⟩ := Int.eq_ofNat_of_zero_le h0
  subst ht
  by_cases h : 9223372036854775808 ≤ a
  · rw [decide_eq_true h]; exact right_fill a k w ha h (by omega)
  · rw [decide_eq_false h, pos_amt a h ha]
    have e : a / 2 ^ (k : Int).toNat % 18446744073709551616 = a / 2 ^ k := Int.emod_eq_of_lt (Int.ediv_nonneg ha.1 (Int.le_of_lt (pow_pos2 k))) (Int.lt_of_le_of_lt (Int.ediv_le_self _ ha.1) ha.2)
    rw [e]
    exact right_no a k w ha (by omega)
theorem field83_1 (x0 x1 : Value) (w : World) : (Instr.field 83 (.agg #[x0, x1]) 1).run Try.prog w = .ok x1 w := by kernel_rfl
attribute [local go_sem] field83_1
set_option maxHeartbeats 1000000 in
set_option maxRecDepth 100000 in
theorem rw0 (a b : Int) (w : World) (ha : W64 a) (hb : W64 b) : Calls Try.prog 22 #[.int .i64 31, .int .u64 a, .int .u64 b] w fun e w' => e = .returned (.tuple #[.int .u64 (wres 0 a b), .bool true]) ∧ Below w.heap.size w w' := by
  have k : wres 0 a b = IntKind.u64.wrap (a + b) := (wu _).symm
  rw [k]
  clear k
  obtain ⟨a0, a1⟩ := ha
  obtain ⟨b0, b1⟩ := hb
  go_enter Try.func22, Try.ntmps22
  go_wp2
  go_ret2
  exact ⟨rfl, Below.refl _ _⟩
set_option maxHeartbeats 1000000 in
set_option maxRecDepth 100000 in
theorem rw1 (a b : Int) (w : World) (ha : W64 a) (hb : W64 b) : Calls Try.prog 22 #[.int .i64 32, .int .u64 a, .int .u64 b] w fun e w' => e = .returned (.tuple #[.int .u64 (wres 1 a b), .bool true]) ∧ Below w.heap.size w w' := by
  have k : wres 1 a b = IntKind.u64.wrap (a - b) := (wu _).symm
  rw [k]
  clear k
  obtain ⟨a0, a1⟩ := ha
  obtain ⟨b0, b1⟩ := hb
  go_enter Try.func22, Try.ntmps22
  go_wp2
  go_ret2
  exact ⟨rfl, Below.refl _ _⟩
set_option maxHeartbeats 1000000 in
set_option maxRecDepth 100000 in
theorem rw2 (a b : Int) (w : World) (ha : W64 a) (hb : W64 b) : Calls Try.prog 22 #[.int .i64 33, .int .u64 a, .int .u64 b] w fun e w' => e = .returned (.tuple #[.int .u64 (wres 2 a b), .bool true]) ∧ Below w.heap.size w w' := by
  have hn := and63 b hb
  have n0 : 0 ≤ bits .and .u64 b 63 := by omega
  have n1 : bits .and .u64 b 63 < 64 := by omega
  have k : wres 2 a b = IntKind.u64.wrap (a * 2 ^ (bits .and .u64 b 63).toNat) := by
    rw [w2, wu, hn]; rfl
  rw [k]
  clear k hn
  obtain ⟨a0, a1⟩ := ha
  go_enter Try.func22, Try.ntmps22
  go_wp2
  go_ret2
  exact ⟨rfl, Below.refl _ _⟩
set_option maxHeartbeats 1000000 in
set_option maxRecDepth 100000 in
theorem rw3 (a b : Int) (w : World) (ha : W64 a) (hb : W64 b) : Calls Try.prog 22 #[.int .i64 34, .int .u64 a, .int .u64 b] w fun e w' => e = .returned (.tuple #[.int .u64 (wres 3 a b), .bool true]) ∧ Below w.heap.size w w' := by
  have c := fun w => less_any a b w ha hb
  have d := fun w => bit_any (decide (wrap64 a < wrap64 b)) w
  have k : wres 3 a b = if decide (wrap64 a < wrap64 b) then 1 else 0 := rfl
  rw [k]
  clear k
  generalize decide (wrap64 a < wrap64 b) = t at *
  cases t
  all_goals
    go_enter Try.func22, Try.ntmps22
    go_wp2_with fail
    refine (c _).mono ?_; rintro e w1 ⟨rfl, rfl⟩
    go_wp2_with fail
    refine (d _).mono ?_; rintro e w1 ⟨rfl, rfl⟩
    go_wp2
    go_ret2
    exact ⟨rfl, Below.refl _ _⟩
set_option maxHeartbeats 1000000 in
set_option maxRecDepth 100000 in
theorem rw4 (a b : Int) (w : World) (ha : W64 a) (hb : W64 b) : Calls Try.prog 22 #[.int .i64 35, .int .u64 a, .int .u64 b] w fun e w' => e = .returned (.tuple #[.int .u64 (wres 4 a b), .bool true]) ∧ Below w.heap.size w w' := by
  have d := fun w => bit_any (decide (a < b)) w
  have k : wres 4 a b = if decide (a < b) then 1 else 0 := rfl
  rw [k]
  clear k
  by_cases h : a < b
  · rw [decide_eq_true h] at d ⊢
    have h' : decide (a < b) = true := decide_eq_true h
    clear h
    go_enter Try.func22, Try.ntmps22
    go_wp2_with fail
    refine (d _).mono ?_; rintro e w1 ⟨rfl, rfl⟩
    go_wp2
    go_ret2
    exact ⟨rfl, Below.refl _ _⟩
  · rw [decide_eq_false h] at d ⊢
    have h' : decide (a < b) = false := decide_eq_false h
    clear h
    go_enter Try.func22, Try.ntmps22
    go_wp2_with fail
    refine (d _).mono ?_; rintro e w1 ⟨rfl, rfl⟩
    go_wp2
    go_ret2
    exact ⟨rfl, Below.refl _ _⟩
set_option maxHeartbeats 1000000 in
set_option maxRecDepth 100000 in
theorem rw5 (a b : Int) (w : World) (ha : W64 a) (hb : W64 b) : Calls Try.prog 22 #[.int .i64 36, .int .u64 a, .int .u64 b] w fun e w' => e = .returned (.tuple #[.int .u64 (wres 5 a b), .bool true]) ∧ Below w.heap.size w w' := by
  have k : wres 5 a b = bits .xor .u64 a b := rfl
  rw [k]
  clear k
  obtain ⟨a0, a1⟩ := ha
  obtain ⟨b0, b1⟩ := hb
  go_enter Try.func22, Try.ntmps22
  go_wp2
  go_ret2
  exact ⟨rfl, Below.refl _ _⟩
set_option maxHeartbeats 1000000 in
set_option maxRecDepth 100000 in
theorem rw6 (a b : Int) (w : World) (ha : W64 a) (hb : W64 b) : Calls Try.prog 22 #[.int .i64 37, .int .u64 a, .int .u64 b] w fun e w' => e = .returned (.tuple #[.int .u64 (wres 6 a b), .bool true]) ∧ Below w.heap.size w w' := by
  have hn := and63 b hb
  have n0 : 0 ≤ bits .and .u64 b 63 := by omega
  have n1 : bits .and .u64 b 63 < 64 := by omega
  have c := fun w => right_noI a (bits .and .u64 b 63) w ha n0 n1
  have k : wres 6 a b = a / 2 ^ (bits .and .u64 b 63).toNat := by rw [w6, hn]; rfl
  rw [k]
  clear k hn
  generalize a / 2 ^ (bits .and .u64 b 63).toNat = V at *
  go_enter Try.func22, Try.ntmps22
  go_wp2_with fail
  refine (c _).mono ?_; rintro e w1 ⟨rfl, rfl⟩
  go_wp2
  go_ret2
  exact ⟨rfl, Below.refl _ _⟩
set_option maxHeartbeats 1000000 in
set_option maxRecDepth 100000 in
theorem rw7 (a b : Int) (w : World) (ha : W64 a) (hb : W64 b) : Calls Try.prog 22 #[.int .i64 38, .int .u64 a, .int .u64 b] w fun e w' => e = .returned (.tuple #[.int .u64 (wres 7 a b), .bool true]) ∧ Below w.heap.size w w' := by
  have hn := and63 b hb
  have n0 : 0 ≤ bits .and .u64 b 63 := by omega
  have n1 : bits .and .u64 b 63 < 64 := by omega
  have d := fun w => rbelow_any a w ha
  have c := fun w => right_I a (bits .and .u64 b 63) _ w ha n0 n1 rfl
  have k : wres 7 a b = wrap64 a / 2 ^ (bits .and .u64 b 63).toNat % 18446744073709551616 := by rw [w7, hn]; rfl
  rw [k]
  clear k hn
  generalize wrap64 a / 2 ^ (bits .and .u64 b 63).toNat % 18446744073709551616 = V at *
  generalize decide (9223372036854775808 ≤ a) = t at *
  go_enter Try.func22, Try.ntmps22
  go_wp2_with fail
  refine (d _).mono ?_; rintro e w1 ⟨rfl, rfl⟩
  go_wp2_with fail
  refine (c _).mono ?_; rintro e w1 ⟨rfl, rfl⟩
  go_wp2
  go_ret2
  exact ⟨rfl, Below.refl _ _⟩
set_option maxHeartbeats 1000000 in
set_option maxRecDepth 100000 in
theorem rw8 (a b : Int) (w : World) (ha : W64 a) (hb : W64 b) : Calls Try.prog 22 #[.int .i64 39, .int .u64 a, .int .u64 b] w fun e w' => e = .returned (.tuple #[.int .u64 (wres 8 a b), .bool true]) ∧ Below w.heap.size w w' := by
  have k : wres 8 a b = bits .or .u64 a b := rfl
  rw [k]
  clear k
  obtain ⟨a0, a1⟩ := ha
  obtain ⟨b0, b1⟩ := hb
  go_enter Try.func22, Try.ntmps22
  go_wp2
  go_ret2
  exact ⟨rfl, Below.refl _ _⟩
set_option maxHeartbeats 1000000 in
set_option maxRecDepth 100000 in
theorem rw9 (a b : Int) (w : World) (ha : W64 a) (hb : W64 b) : Calls Try.prog 22 #[.int .i64 40, .int .u64 a, .int .u64 b] w fun e w' => e = .returned (.tuple #[.int .u64 (wres 9 a b), .bool true]) ∧ Below w.heap.size w w' := by
  have k : wres 9 a b = bits .and .u64 a b := rfl
  rw [k]
  clear k
  obtain ⟨a0, a1⟩ := ha
  obtain ⟨b0, b1⟩ := hb
  go_enter Try.func22, Try.ntmps22
  go_wp2
  go_ret2
  exact ⟨rfl, Below.refl _ _⟩
set_option maxHeartbeats 1000000 in
set_option maxRecDepth 100000 in
theorem rw10 (a b : Int) (w : World) (ha : W64 a) (hb : W64 b) : Calls Try.prog 22 #[.int .i64 50, .int .u64 a, .int .u64 b] w fun e w' => e = .returned (.tuple #[.int .u64 (wres 10 a b), .bool true]) ∧ Below w.heap.size w w' := by
  have c := fun w => rmul_any a b w ha hb
  have k : wres 10 a b = a * b % 18446744073709551616 := rfl
  rw [k]
  clear k
  generalize a * b / 18446744073709551616 = h at *
  generalize a * b % 18446744073709551616 = l at *
  go_enter Try.func22, Try.ntmps22
  go_wp2_with fail
  refine (c _).mono ?_; rintro e w1 ⟨rfl, hbw1⟩
  go_wp2
  go_ret2
  exact ⟨rfl, hbw1⟩
set_option maxHeartbeats 1000000 in
set_option maxRecDepth 100000 in
theorem rw11 (a b : Int) (w : World) (ha : W64 a) (hb : W64 b) : Calls Try.prog 22 #[.int .i64 51, .int .u64 a, .int .u64 b] w fun e w' => e = .returned (.tuple #[.int .u64 (wres 11 a b), .bool true]) ∧ Below w.heap.size w w' := by
  have c := fun w => high_tt a b w ha hb
  have k : wres 11 a b = fMH a b := rfl
  rw [k]
  clear k
  generalize fMH a b = V at *
  go_enter Try.func22, Try.ntmps22
  go_wp2_with fail
  refine (c _).mono ?_; rintro e w1 ⟨rfl, hbw1⟩
  go_wp2
  go_ret2
  exact ⟨rfl, hbw1⟩
set_option maxHeartbeats 1000000 in
set_option maxRecDepth 100000 in
theorem rw12 (a b : Int) (w : World) (ha : W64 a) (hb : W64 b) : Calls Try.prog 22 #[.int .i64 52, .int .u64 a, .int .u64 b] w fun e w' => e = .returned (.tuple #[.int .u64 (wres 12 a b), .bool true]) ∧ Below w.heap.size w w' := by
  have c := fun w => high_tf a b w ha hb
  have k : wres 12 a b = fMIX a b := rfl
  rw [k]
  clear k
  generalize fMIX a b = V at *
  go_enter Try.func22, Try.ntmps22
  go_wp2_with fail
  refine (c _).mono ?_; rintro e w1 ⟨rfl, hbw1⟩
  go_wp2
  go_ret2
  exact ⟨rfl, hbw1⟩
set_option maxHeartbeats 1000000 in
set_option maxRecDepth 100000 in
theorem rw13 (a b : Int) (w : World) (ha : W64 a) (hb : W64 b) : Calls Try.prog 22 #[.int .i64 53, .int .u64 a, .int .u64 b] w fun e w' => e = .returned (.tuple #[.int .u64 (wres 13 a b), .bool true]) ∧ Below w.heap.size w w' := by
  have c := fun w => high_uu a b w ha hb
  have k : wres 13 a b = a * b / 18446744073709551616 := rfl
  rw [k]
  clear k
  generalize a * b / 18446744073709551616 = V at *
  go_enter Try.func22, Try.ntmps22
  go_wp2_with fail
  refine (c _).mono ?_; rintro e w1 ⟨rfl, hbw1⟩
  go_wp2
  go_ret2
  exact ⟨rfl, hbw1⟩
set_option maxHeartbeats 1000000 in
set_option maxRecDepth 100000 in
theorem rw14 (a b : Int) (w : World) (ha : W64 a) (hb : W64 b) : Calls Try.prog 22 #[.int .i64 54, .int .u64 a, .int .u64 b] w fun e w' => e = .returned (.tuple #[.int .u64 (wres 14 a b), .bool true]) ∧ Below w.heap.size w w' := by
  have c := fun w => signed_any a b w ha hb
  have k : wres 14 a b = fDIV a b := rfl
  rw [k]
  clear k
  generalize fDIV a b = Q at *
  generalize fREM a b = R at *
  go_enter Try.func22, Try.ntmps22
  go_wp2_with fail
  refine (c _).mono ?_; rintro e w1 ⟨rfl, hbw1⟩
  go_wp2
  go_ret2
  exact ⟨rfl, hbw1⟩
set_option maxHeartbeats 1000000 in
set_option maxRecDepth 100000 in
theorem rw15 (a b : Int) (w : World) (ha : W64 a) (hb : W64 b) : Calls Try.prog 22 #[.int .i64 55, .int .u64 a, .int .u64 b] w fun e w' => e = .returned (.tuple #[.int .u64 (wres 15 a b), .bool true]) ∧ Below w.heap.size w w' := by
  have c := fun w => unsigned_any a b w ha hb
  have k : wres 15 a b = fDIVU a b := rfl
  rw [k]
  clear k
  generalize fDIVU a b = Q at *
  generalize fREMU a b = R at *
  go_enter Try.func22, Try.ntmps22
  go_wp2_with fail
  refine (c _).mono ?_; rintro e w1 ⟨rfl, hbw1⟩
  go_wp2
  go_ret2
  exact ⟨rfl, hbw1⟩
set_option maxHeartbeats 1000000 in
set_option maxRecDepth 100000 in
theorem rw16 (a b : Int) (w : World) (ha : W64 a) (hb : W64 b) : Calls Try.prog 22 #[.int .i64 56, .int .u64 a, .int .u64 b] w fun e w' => e = .returned (.tuple #[.int .u64 (wres 16 a b), .bool true]) ∧ Below w.heap.size w w' := by
  have c := fun w => signed_any a b w ha hb
  have k : wres 16 a b = fREM a b := rfl
  rw [k]
  clear k
  generalize fDIV a b = Q at *
  generalize fREM a b = R at *
  go_enter Try.func22, Try.ntmps22
  go_wp2_with fail
  refine (c _).mono ?_; rintro e w1 ⟨rfl, hbw1⟩
  go_wp2
  go_ret2
  exact ⟨rfl, hbw1⟩
set_option maxHeartbeats 1000000 in
set_option maxRecDepth 100000 in
theorem rw17 (a b : Int) (w : World) (ha : W64 a) (hb : W64 b) : Calls Try.prog 22 #[.int .i64 57, .int .u64 a, .int .u64 b] w fun e w' => e = .returned (.tuple #[.int .u64 (wres 17 a b), .bool true]) ∧ Below w.heap.size w w' := by
  have c := fun w => unsigned_any a b w ha hb
  have k : wres 17 a b = fREMU a b := rfl
  rw [k]
  clear k
  generalize fDIVU a b = Q at *
  generalize fREMU a b = R at *
  go_enter Try.func22, Try.ntmps22
  go_wp2_with fail
  refine (c _).mono ?_; rintro e w1 ⟨rfl, hbw1⟩
  go_wp2
  go_ret2
  exact ⟨rfl, hbw1⟩
set_option maxHeartbeats 1000000 in
set_option maxRecDepth 100000 in
theorem rw_miss (op a b : Int) (w : World) (h0 : op ≠ 31) (h1 : op ≠ 32) (h2 : op ≠ 33) (h3 : op ≠ 34) (h4 : op ≠ 35) (h5 : op ≠ 36) (h6 : op ≠ 37) (h7 : op ≠ 38) (h8 : op ≠ 39) (h9 : op ≠ 40) (h10 : op ≠ 50) (h11 : op ≠ 51) (h12 : op ≠ 52) (h13 : op ≠ 53) (h14 : op ≠ 54) (h15 : op ≠ 55) (h16 : op ≠ 56) (h17 : op ≠ 57) : Calls Try.prog 22 #[.int .i64 op, .int .u64 a, .int .u64 b] w fun e w' => e = .returned (.tuple #[.int .u64 0, .bool false]) ∧ Below w.heap.size w w' := by
  have n0 : (op == 31) = false := by rw [beq_eq_false_iff_ne]; exact h0
  have n1 : (op == 32) = false := by rw [beq_eq_false_iff_ne]; exact h1
  have n2 : (op == 33) = false := by rw [beq_eq_false_iff_ne]; exact h2
  have n3 : (op == 34) = false := by rw [beq_eq_false_iff_ne]; exact h3
  have n4 : (op == 35) = false := by rw [beq_eq_false_iff_ne]; exact h4
  have n5 : (op == 36) = false := by rw [beq_eq_false_iff_ne]; exact h5
  have n6 : (op == 37) = false := by rw [beq_eq_false_iff_ne]; exact h6
  have n7 : (op == 38) = false := by rw [beq_eq_false_iff_ne]; exact h7
  have n8 : (op == 39) = false := by rw [beq_eq_false_iff_ne]; exact h8
  have n9 : (op == 40) = false := by rw [beq_eq_false_iff_ne]; exact h9
  have n10 : (op == 50) = false := by rw [beq_eq_false_iff_ne]; exact h10
  have n11 : (op == 51) = false := by rw [beq_eq_false_iff_ne]; exact h11
  have n12 : (op == 52) = false := by rw [beq_eq_false_iff_ne]; exact h12
  have n13 : (op == 53) = false := by rw [beq_eq_false_iff_ne]; exact h13
  have n14 : (op == 54) = false := by rw [beq_eq_false_iff_ne]; exact h14
  have n15 : (op == 55) = false := by rw [beq_eq_false_iff_ne]; exact h15
  have n16 : (op == 56) = false := by rw [beq_eq_false_iff_ne]; exact h16
  have n17 : (op == 57) = false := by rw [beq_eq_false_iff_ne]; exact h17
  clear h0 h1 h2 h3 h4 h5 h6 h7 h8 h9 h10 h11 h12 h13 h14 h15 h16 h17
  go_enter Try.func22, Try.ntmps22
  go_wp2
  go_ret2
  exact ⟨rfl, Below.refl _ _⟩
end Go.Proofs.Ythdahigckflohab
