import Derived.Test.YthdahigckflohabHalf
namespace Go.Proofs.Ythdahigckflohab
open Go.RowKit
set_option linter.unusedVariables false
set_option linter.unusedSimpArgs false
theorem and63 (x : Int) (h : W64 x) : bits .and .u64 x 63 = x % 64 := bits_mask .u64 64 (by decide) (fun n h0 h1 => by rw [wu]; omega) 6 (by decide) x h.1 h.2
theorem neg_div_pow (x p : Int) (hp : 0 < p) : (-x - 1) / p = -(x / p) - 1 := by
  have e := Int.mul_ediv_add_emod x p
  have r0 := Int.emod_nonneg x (Int.ne_of_gt hp)
  have r1 := Int.emod_lt_of_pos x hp
  generalize x / p = q at *
  generalize x % p = r at *
  subst e
  rw [show -(p * q + r) - 1 = (p - 1 - r) + p * (-q - 1) by grind, Int.add_mul_ediv_left _ _ (Int.ne_of_gt hp), Int.ediv_eq_zero_of_lt (by omega) (by omega)]
  omega
theorem xor_max (a : Int) (ha : W64 a) : bits .xor .u64 IntKind.u64.max a = 18446744073709551615 - a := by
  obtain ⟨h0, h1⟩ := ha
  obtain ⟨n, rfl⟩ := Int.eq_ofNat_of_zero_le h0
  have e : bits .xor .u64 IntKind.u64.max (n : Int) = IntKind.u64.wrap (((BitVec.ofInt 64 IntKind.u64.max ^^^ BitVec.ofInt 64 (n : Int)).toNat : Nat) : Int) := rfl
  have em : BitVec.ofInt 64 IntKind.u64.max = BitVec.allOnes 64 := by decide
  have en : (BitVec.ofInt 64 (n : Int)).toNat = n := ofInt_u64 n (by omega)
  rw [e, em, BitVec.allOnes_xor, BitVec.toNat_not, en, wu]
  omega
theorem pow_b (n : Int) (h0 : 0 ≤ n) (h1 : n < 64) : (0 : Int) < 2 ^ n.toNat ∧ (2 : Int) ^ n.toNat < 18446744073709551616 := by
  refine ⟨Int.pow_pos (by decide), ?_⟩
  have h : (2 : Nat) ^ n.toNat ≤ 2 ^ 63 := Nat.pow_le_pow_right (by decide) (by omega)
  have h2 : ((2 ^ n.toNat : Nat) : Int) ≤ ((2 ^ 63 : Nat) : Int) := Int.ofNat_le.2 h
  rw [Int.natCast_pow, Int.natCast_pow] at h2
  exact Int.lt_of_le_of_lt h2 (by decide)
theorem w2 (a b : Int) : wres 2 a b = fSLL a b := rfl
theorem w6 (a b : Int) : wres 6 a b = fSRL a b := rfl
theorem w7 (a b : Int) : wres 7 a b = fSRA a b := rfl
theorem w10 (a b : Int) : wres 10 a b = a * b % 18446744073709551616 := rfl
theorem w15 (a b : Int) : wres 15 a b = fDIVU a b := rfl
theorem six (b : Int) : b % 64 % 64 = b % 64 := by omega
set_option maxHeartbeats 2000000 in
set_option maxRecDepth 100000 in
theorem shifts_as (a b N P : Int) (w : World) (ha : W64 a) (hN : bits .and .u64 b 63 = N) (n0 : 0 ≤ N) (n1 : N < 64) (hP : 2 ^ N.toNat = P) (p0 : 0 < P) (p1 : P < 18446744073709551616)
    (c1 : ∀ w, Calls Try.prog 9 #[.int .i64 33, .int .u64 a, .int .u64 b] w fun e w' => e = .returned (.tuple #[.int .u64 (a * P % 18446744073709551616), .bool true]) ∧ Below w.heap.size w w')
    (c2 : ∀ w, Calls Try.prog 9 #[.int .i64 37, .int .u64 a, .int .u64 b] w fun e w' => e = .returned (.tuple #[.int .u64 (a / P), .bool true]) ∧ Below w.heap.size w w')
    (c3 : ∀ w, Calls Try.prog 9 #[.int .i64 38, .int .u64 a, .int .u64 b] w fun e w' => e = .returned (.tuple #[.int .u64 (wrap64 a / P % 18446744073709551616), .bool true]) ∧ Below w.heap.size w w')
    (c4 : ∀ w, Calls Try.prog 9 #[.int .i64 38, .int .u64 a, .int .u64 N] w fun e w' => e = .returned (.tuple #[.int .u64 (wrap64 a / P % 18446744073709551616), .bool true]) ∧ Below w.heap.size w w')
    (c5 : ∀ w, Calls Try.prog 9 #[.int .i64 50, .int .u64 a, .int .u64 (IntKind.u64.wrap (2 ^ (bits .and .u64 b 63).toNat))] w fun e w' => e = .returned (.tuple #[.int .u64 (a * P % 18446744073709551616), .bool true]) ∧ Below w.heap.size w w')
    (c6 : ∀ w, Calls Try.prog 9 #[.int .i64 55, .int .u64 a, .int .u64 (IntKind.u64.wrap (2 ^ (bits .and .u64 b 63).toNat))] w fun e w' => e = .returned (.tuple #[.int .u64 (a / P), .bool true]) ∧ Below w.heap.size w w')
    (c7 : ∀ w, Calls Try.prog 9 #[.int .i64 37, .int .u64 (bits .xor .u64 IntKind.u64.max a), .int .u64 (bits .and .u64 b 63)] w fun e w' => e = .returned (.tuple #[.int .u64 ((18446744073709551615 - a) / P), .bool true]) ∧ Below w.heap.size w w') :
    Calls Try.prog 3 #[.int .u64 a, .int .u64 b] w fun e w' => e = .returned (.bool true) ∧ Below w.heap.size w w' := by
  obtain ⟨a0, a1⟩ := ha
  have H : Hid (2 ^ N.toNat = P) := hP
  subst hN
  clear hP
  generalize a * P % 18446744073709551616 = V1 at *
  generalize hV2 : a / P = V2 at *
  generalize hV3 : wrap64 a / P % 18446744073709551616 = V3 at *
  have H2 : Hid (a / P = V2) := hV2
  have H3 : Hid (wrap64 a / P % 18446744073709551616 = V3) := hV3
  clear hV2 hV3
  go_enter Try.func3, Try.ntmps3
  go_wp2_with fail
  refine (c1 _).mono ?_; rintro e w1 ⟨rfl, hb1⟩
  clear c1
  go_wp2_with fail
  refine (c2 _).mono ?_; rintro e w2 ⟨rfl, hb2⟩
  clear c2
  go_wp2_with fail
  refine (c3 _).mono ?_; rintro e w3 ⟨rfl, hb3⟩
  clear c3
  go_wp2_with fail
  refine (c4 _).mono ?_; rintro e w4 ⟨rfl, hb4⟩
  clear c4
  go_wp2_with fail
  refine (c5 _).mono ?_; rintro e w5 ⟨rfl, hb5⟩
  clear c5
  go_wp2_with fail
  refine (c6 _).mono ?_; rintro e w6 ⟨rfl, hb6⟩
  clear c6
  by_cases hs : a < 9223372036854775808
  · have g : (a / 9223372036854775808 == 0) = true := by rw [beq_iff_eq]; omega
    have g2 : (V3 == V2) = true := by
      rw [beq_iff_eq, ← H2.out, ← H3.out]
      have e1 : wrap64 a = a := by unfold wrap64; omega
      rw [e1]
      exact Int.emod_eq_of_lt (Int.ediv_nonneg a0 (by omega)) (Int.lt_of_le_of_lt (Int.ediv_le_self _ a0) a1)
    go_wp2
    go_ret
    exact ⟨by rw [← g2]; rfl, bseq (bseq (bseq (bseq (bseq hb1 hb2) hb3) hb4) hb5) hb6⟩
  · have g : (a / 9223372036854775808 == 0) = false := by rw [beq_eq_false_iff_ne]; omega
    have k : W64 ((18446744073709551615 - a) / P) := ediv_w _ P ⟨by omega, by omega⟩ (by omega)
    have g3 : (V3 == bits .xor .u64 IntKind.u64.max ((18446744073709551615 - a) / P)) = true := by
      rw [beq_iff_eq, xor_max _ k, ← H3.out]
      have e1 : wrap64 a = -(18446744073709551615 - a) - 1 := by unfold wrap64; omega
      rw [e1, neg_div_pow _ _ p0]
      obtain ⟨k0, k1⟩ := k
      generalize (18446744073709551615 - a) / P = z at *
      omega
    clear k
    generalize (18446744073709551615 - a) / P = V7 at *
    go_wp2_with fail
    refine (c7 _).mono ?_; rintro e w7 ⟨rfl, hb7⟩
    clear c7
    go_wp2
    go_ret
    exact ⟨rfl, bseq (bseq (bseq (bseq (bseq (bseq hb1 hb2) hb3) hb4) hb5) hb6) hb7⟩
theorem shifts_walk (a b : Int) (w : World) (ha : W64 a) (hb : W64 b) :
    Calls Try.prog 3 #[.int .u64 a, .int .u64 b] w fun e w' => e = .returned (.bool true) ∧ Below w.heap.size w w' := by
  have hn := and63 b hb
  have n0 : 0 ≤ b % 64 := by omega
  have n1 : b % 64 < 64 := by omega
  have hN : W64 (b % 64) := ⟨n0, by omega⟩
  obtain ⟨p0, p1⟩ := pow_b (b % 64) n0 n1
  have hP : W64 (2 ^ (b % 64).toNat) := ⟨Int.le_of_lt p0, p1⟩
  have hx : W64 (18446744073709551615 - a) := ⟨by have := ha.2; omega, by have := ha.1; omega⟩
  have er : IntKind.u64.wrap (2 ^ (bits .and .u64 b 63).toNat) = 2 ^ (b % 64).toNat := by rw [hn, wu]; exact Int.emod_eq_of_lt hP.1 hP.2
  have ex := xor_max a ha
  have c1 := fun w => does_as 33 a b _ w (fun w => do_word 2 (by decide) a b w ha hb)
  have c2 := fun w => does_as 37 a b _ w (fun w => do_word 6 (by decide) a b w ha hb)
  have c3 := fun w => does_as 38 a b _ w (fun w => do_word 7 (by decide) a b w ha hb)
  have c4 := fun w => does_as 38 a (b % 64) _ w (fun w => do_word 7 (by decide) a (b % 64) w ha hN)
  have c5 := fun w => does_as 50 a (2 ^ (b % 64).toNat) _ w (fun w => do_word 10 (by decide) a (2 ^ (b % 64).toNat) w ha hP)
  have c6 := fun w => does_as 55 a (2 ^ (b % 64).toNat) _ w (fun w => do_word 15 (by decide) a (2 ^ (b % 64).toNat) w ha hP)
  have c7 := fun w => does_as 37 (18446744073709551615 - a) (b % 64) _ w (fun w => do_word 6 (by decide) (18446744073709551615 - a) (b % 64) w hx hN)
  rw [w2] at c1
  rw [w6] at c2 c7
  rw [w7] at c3 c4
  rw [w10] at c5
  rw [w15] at c6
  unfold fSLL at c1
  unfold fSRL at c2 c7
  unfold fSRA at c3 c4
  rw [six] at c4 c7
  unfold fDIVU at c6
  rw [if_neg (Int.ne_of_gt p0)] at c6
  generalize hPP : (2 : Int) ^ (b % 64).toNat = P at *
  rw [← hn] at c4 c7 n0 n1
  rw [← ex] at c7
  exact shifts_as a b _ P w ha rfl n0 n1 (by rw [hn]; exact hPP) p0 p1 c1 c2 c3 c4 (by rw [er]; exact c5) (by rw [er]; exact c6) (by rw [ex] at c7 ⊢; exact c7)
end Go.Proofs.Ythdahigckflohab
