import Derived.Test.YthdahigckflohabNum
import Derived.Test.YthdahigckflohabAcc
import Derived.LoopTactic
namespace Go.Proofs.Ythdahigckflohab
open Go.RowKit
set_option linter.unusedVariables false
set_option linter.unusedSimpArgs false
/-- One step of the long division. -/
theorem div_step (n c d : Int) (hd : 0 < d) (hc0 : 0 ≤ c) (hc1 : c < 2) :
    (2 * (n % d) + c < d → (2 * n + c) / d = 2 * (n / d) ∧ (2 * n + c) % d = 2 * (n % d) + c) ∧
    (d ≤ 2 * (n % d) + c → (2 * n + c) / d = 2 * (n / d) + 1 ∧ (2 * n + c) % d = 2 * (n % d) + c - d) := by
  have e := Int.mul_ediv_add_emod n d
  have l0 := Int.emod_nonneg n (Int.ne_of_gt hd)
  have l1 := Int.emod_lt_of_pos n hd
  generalize n / d = q at *
  generalize n % d = r at *
  subst e
  constructor
  · intro h
    have e2 : 2 * (d * q + r) + c = (2 * r + c) + d * (2 * q) := by grind
    rw [e2, Int.add_mul_ediv_left _ _ (Int.ne_of_gt hd), Int.add_mul_emod_self_left, Int.ediv_eq_zero_of_lt (by omega) h, Int.emod_eq_of_lt (by omega) h]
    omega
  · intro h
    have e2 : 2 * (d * q + r) + c = (2 * r + c - d) + d * (2 * q + 1) := by grind
    rw [e2, Int.add_mul_ediv_left _ _ (Int.ne_of_gt hd), Int.add_mul_emod_self_left, Int.ediv_eq_zero_of_lt (by omega) (by omega), Int.emod_eq_of_lt (by omega) (by omega)]
    omega
theorem pow_pos2 (j : Nat) : (0 : Int) < 2 ^ j := Int.pow_pos (by decide)
/-- The next bit comes in. -/
theorem bit_step (H L : Int) (j : Nat) (hj : j < 64) : (H * 18446744073709551616 + L) / 2 ^ j = 2 * ((H * 18446744073709551616 + L) / 2 ^ (j + 1)) + L / 2 ^ j % 2 := by
  have p := pow_pos2 j
  have hM : (18446744073709551616 : Int) = 2 ^ j * (2 * 2 ^ (63 - j)) := by
    have : (18446744073709551616 : Int) = 2 ^ (j + (1 + (63 - j))) := by rw [show j + (1 + (63 - j)) = 64 by omega]; decide
    rw [this, Int.pow_add, Int.pow_add]; rfl
  have e1 : (H * 18446744073709551616 + L) / 2 ^ j = L / 2 ^ j + H * (2 * 2 ^ (63 - j)) := by
    rw [hM, show H * (2 ^ j * (2 * 2 ^ (63 - j))) + L = L + 2 ^ j * (H * (2 * 2 ^ (63 - j))) by grind, Int.add_mul_ediv_left _ _ (Int.ne_of_gt p)]
  have e2 : (H * 18446744073709551616 + L) / 2 ^ (j + 1) = (H * 18446744073709551616 + L) / 2 ^ j / 2 := by
    rw [Int.pow_succ, Int.ediv_ediv_of_nonneg (Int.le_of_lt p)]
  rw [e2, e1, show H * (2 * 2 ^ (63 - j)) = 2 * (H * 2 ^ (63 - j)) by grind]
  omega
theorem join64u (i : Nat) (x y : Int) (hx₀ : 0 ≤ x) (hx : x % 2 ^ i = 0) (hx₁ : x < 18446744073709551616) (hy₀ : 0 ≤ y) (hy : y < 2 ^ i) (hy₁ : y < 18446744073709551616) : bits .or .u64 x y = x + y :=
  bits_join .u64 64 (by decide) (fun n h0 h1 => by rw [wu]; omega) i x y hx₀ hx (by omega) hy₀ hy (by omega)
/-- A step of the remainder, as both programs reckon it. -/
theorem rem_word (r d c : Int) (h0 : 0 ≤ r) (h1 : r < d) (h2 : d < 18446744073709551616) (c0 : 0 ≤ c) (c1 : c < 2) :
    bits .or .u64 (IntKind.u64.wrap (r * 2)) c = 2 * r % 18446744073709551616 + c := by
  rw [wu, show r * 2 = 2 * r by omega]
  exact join64u 1 _ _ (by omega) (by omega) (by omega) c0 (by omega) (by omega)
theorem quo_bd (H L d : Int) (j : Nat) (h0 : 0 ≤ H) (h1 : H < d) (l0 : 0 ≤ L) (l1 : L < 18446744073709551616) :
    0 ≤ (H * 18446744073709551616 + L) / 2 ^ j / d ∧ (H * 18446744073709551616 + L) / 2 ^ j / d < 18446744073709551616 ∧ (H * 18446744073709551616 + L) / 2 ^ (j + 1) / d < 9223372036854775808 := by
  have p := pow_pos2 j
  have hd : 0 < d := by omega
  have hN0 : 0 ≤ H * 18446744073709551616 + L := by omega
  have hN1 : (H * 18446744073709551616 + L) / d < 18446744073709551616 := by
    refine (Int.ediv_lt_iff_lt_mul hd).2 ?_
    omega
  have hN2 : 0 ≤ (H * 18446744073709551616 + L) / d := Int.ediv_nonneg hN0 (by omega)
  have e : ∀ i : Nat, (H * 18446744073709551616 + L) / 2 ^ i / d = (H * 18446744073709551616 + L) / d / 2 ^ i := fun i => by
    rw [Int.ediv_ediv_of_nonneg (Int.le_of_lt (pow_pos2 i)), Int.mul_comm (2 ^ i) d, ← Int.ediv_ediv_of_nonneg (by omega)]
  rw [e, e]
  generalize (H * 18446744073709551616 + L) / d = Q at *
  refine ⟨Int.ediv_nonneg hN2 (Int.le_of_lt p), Int.lt_of_le_of_lt (Int.ediv_le_self _ hN2) hN1, ?_⟩
  rw [Int.pow_succ, Int.mul_comm, ← Int.ediv_ediv_of_nonneg (by decide)]
  exact Int.lt_of_le_of_lt (Int.ediv_le_self _ (by omega)) (by omega)
/-- What a round makes of remainder and quotient. -/
theorem round_math (H L d : Int) (j : Nat) (hj : j < 64) (h0 : 0 ≤ H) (h1 : H < d) (hd : d < 18446744073709551616) (l0 : 0 ≤ L) (l1 : L < 18446744073709551616) (r q c : Int)
    (hr : (H * 18446744073709551616 + L) / 2 ^ (j + 1) % d = r) (hq : (H * 18446744073709551616 + L) / 2 ^ (j + 1) / d = q) (hc : L / 2 ^ j % 2 = c) :
    0 ≤ r ∧ r < d ∧ 0 ≤ q ∧ q < 9223372036854775808 ∧ 0 ≤ c ∧ c < 2 ∧
    (2 * r + c < d → (H * 18446744073709551616 + L) / 2 ^ j / d = 2 * q ∧ (H * 18446744073709551616 + L) / 2 ^ j % d = 2 * r + c) ∧
    (d ≤ 2 * r + c → (H * 18446744073709551616 + L) / 2 ^ j / d = 2 * q + 1 ∧ (H * 18446744073709551616 + L) / 2 ^ j % d = 2 * r + c - d) := by
  have hd0 : 0 < d := by omega
  have hb := quo_bd H L d j h0 h1 l0 l1
  have hb2 := quo_bd H L d (j + 1) h0 h1 l0 l1
  have e := bit_step H L j hj
  subst hr hq hc
  have c0 : 0 ≤ L / 2 ^ j % 2 := by omega
  have c1 : L / 2 ^ j % 2 < 2 := by omega
  have st := div_step ((H * 18446744073709551616 + L) / 2 ^ (j + 1)) (L / 2 ^ j % 2) d hd0 c0 c1
  rw [← e] at st
  exact ⟨Int.emod_nonneg _ (by omega), Int.emod_lt_of_pos _ hd0, hb2.1, hb.2.2, c0, c1, st.1, st.2⟩
theorem low_w64 (L : Int) (j : Nat) (l0 : 0 ≤ L) (l1 : L < 18446744073709551616) : W64 (L / 2 ^ j) := ⟨Int.ediv_nonneg l0 (Int.le_of_lt (pow_pos2 j)), Int.lt_of_le_of_lt (Int.ediv_le_self _ l0) l1⟩
theorem top_div (H L : Int) (l0 : 0 ≤ L) (l1 : L < 18446744073709551616) : (H * 18446744073709551616 + L) / 2 ^ 64 = H := by
  rw [show (2 : Int) ^ 64 = 18446744073709551616 from by decide]; omega
set_option maxHeartbeats 2000000 in
theorem long_any (H L d : Int) (w : World) (h0 : 0 ≤ H) (h1 : H < d) (hd : d < 18446744073709551616) (hL : W64 L) :
    Calls Try.prog 84 #[.agg #[.int .u64 H, .int .u64 L], .int .u64 d] w fun e w' => e = .returned (.tuple #[.int .u64 ((H * 18446744073709551616 + L) / d), .int .u64 ((H * 18446744073709551616 + L) % d)]) ∧ Below w.heap.size w w' := by
  obtain ⟨l0, l1⟩ := hL
  go_enter Try.func84, Try.ntmps84
  go_wp2
  go_loopw [6, 7, 8] (fun r q k wr => ∃ i : Nat, i ≤ 64 ∧ k = .int .i64 ((i : Int) - 1) ∧ r = .int .u64 ((H * 18446744073709551616 + L) / 2 ^ i % d) ∧ q = .int .u64 ((H * 18446744073709551616 + L) / 2 ^ i / d) ∧ wr = w.alloc (.cells #[.int .u64 H, .int .u64 L] 83)) (fun _ _ k _ => (intOf k + 1).toNat)
  case atStart =>
    refine ⟨64, by omega, rfl, ?_, ?_, rfl⟩
    · rw [top_div H L l0 l1, Int.emod_eq_of_lt h0 h1]
    · rw [top_div H L l0 l1, Int.ediv_eq_zero_of_lt h0 h1]
  case round =>
    obtain ⟨i, hi, rfl, rfl, rfl, rfl⟩ := hrel
    cases i with
    | zero =>
      simp only [Int.pow_zero, Int.ediv_one]
      go_wp2
      go_ret2
      exact ⟨rfl, below_past _ _⟩
    | succ j =>
      have hj : j < 64 := by omega
      have R := round_math H L d j hj h0 h1 hd l0 l1 _ _ _ rfl rfl rfl
      have hand := and1 (L / 2 ^ j) (low_w64 L j l0 l1)
      rw [show ((j + 1 : Nat) : Int) - 1 = (j : Int) by omega]
      generalize (H * 18446744073709551616 + L) / 2 ^ (j + 1) % d = r at *
      generalize (H * 18446744073709551616 + L) / 2 ^ (j + 1) / d = q at *
      obtain ⟨r0, r1, q0, q1, c0, c1, R1, R2⟩ := R
      have hw := rem_word r d (L / 2 ^ j % 2) r0 r1 hd c0 c1
      rw [← hand] at hw
      have hj' : (j : Int) < 64 := by omega
      have HN : Hid (bits .and .u64 (L / 2 ^ j) 1 = L / 2 ^ j % 2 ∧ bits .or .u64 (IntKind.u64.wrap (r * 2)) (bits .and .u64 (L / 2 ^ j) 1) = 2 * r % 18446744073709551616 + bits .and .u64 (L / 2 ^ j) 1) := ⟨hand, hw⟩
      clear hand hw
      have HR : Hid ((2 * r + L / 2 ^ j % 2 < d → (H * 18446744073709551616 + L) / 2 ^ j / d = 2 * q ∧ (H * 18446744073709551616 + L) / 2 ^ j % d = 2 * r + L / 2 ^ j % 2) ∧ (d ≤ 2 * r + L / 2 ^ j % 2 → (H * 18446744073709551616 + L) / 2 ^ j / d = 2 * q + 1 ∧ (H * 18446744073709551616 + L) / 2 ^ j % d = 2 * r + L / 2 ^ j % 2 - d)) := ⟨R1, R2⟩
      clear R1 R2
      have HC : Hid (0 ≤ L / 2 ^ j % 2 ∧ L / 2 ^ j % 2 < 2) := ⟨c0, c1⟩
      clear c0 c1
      by_cases ho : 9223372036854775808 ≤ r
      · have g : (r / 9223372036854775808 == 1) = true := by rw [beq_iff_eq]; omega
        have hR := (HR.out.2 (by have := HC.out.1; omega))
        have HH : Hid (_ ∧ _) := hR
        clear hR HR
        go_wp2
        refine ⟨⟨j, by omega, by go_num, ?_, ?_, trivial⟩, by simp [intOf]⟩
        · rw [HH.out.2, HN.out.2, HN.out.1, wu]
          have := HC.out
          congr 1; omega
        · rw [HH.out.1, join64u 1 _ _ (by omega) (by omega) (by omega) (by omega) (by omega) (by omega)]
          congr 1; omega
      · have g : (r / 9223372036854775808 == 1) = false := by rw [beq_eq_false_iff_ne]; omega
        have HM : Hid (bits .or .u64 (r * 2) (bits .and .u64 (L / 2 ^ j) 1) = 2 * r + L / 2 ^ j % 2) := by
          have e := HN.out.2
          rw [show IntKind.u64.wrap (r * 2) = r * 2 by rw [wu]; omega, HN.out.1] at e
          have e2 : bits .or .u64 (r * 2) (bits .and .u64 (L / 2 ^ j) 1) = 2 * r % 18446744073709551616 + L / 2 ^ j % 2 := by rw [HN.out.1]; exact e
          exact e2.trans (by omega)
        by_cases ht : 2 * r + L / 2 ^ j % 2 < d
        · have g2 : decide (d ≤ bits .or .u64 (r * 2) (bits .and .u64 (L / 2 ^ j) 1)) = false := by
            rw [HM.out, decide_eq_false_iff_not]; omega
          have HH : Hid (_ ∧ _) := HR.out.1 ht
          clear HR ht
          go_wp2
          refine ⟨⟨j, by omega, by go_num, ?_, ?_, trivial⟩, by simp [intOf]⟩
          · rw [HH.out.2, HM.out]
          · rw [HH.out.1]
            congr 1; omega
        · have g2 : decide (d ≤ bits .or .u64 (r * 2) (bits .and .u64 (L / 2 ^ j) 1)) = true := by
            rw [HM.out, decide_eq_true_eq]; omega
          have HH : Hid (_ ∧ _) := HR.out.2 (by omega)
          have HT : Hid (d ≤ 2 * r + L / 2 ^ j % 2) := (by omega : d ≤ 2 * r + L / 2 ^ j % 2)
          clear HR ht
          go_wp2
          refine ⟨⟨j, by omega, by go_num, ?_, ?_, trivial⟩, by simp [intOf]⟩
          · rw [HH.out.2, HM.out, wu]
            have := HC.out
            have := HT.out
            congr 1; omega
          · rw [HH.out.1, join64u 1 _ _ (by omega) (by omega) (by omega) (by omega) (by omega) (by omega)]
            congr 1; omega
end Go.Proofs.Ythdahigckflohab
