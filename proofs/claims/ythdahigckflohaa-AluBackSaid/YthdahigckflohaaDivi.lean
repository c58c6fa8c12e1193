import Derived.Test.YthdahigckflohaaLong
import Derived.Test.YthdahigckflohaaIsA
import Derived.WalkMore
namespace Go.Proofs.Ythdahigckflohaa
open Go.RowKit
set_option linter.unusedVariables false
set_option linter.unusedSimpArgs false
theorem quo_up (H L d : Int) (j : Nat) (h0 : 0 ≤ H) (h1 : H < d) (l0 : 0 ≤ L) (l1 : L < 18446744073709551616) :
    0 ≤ (H * 18446744073709551616 + L) / 2 ^ j / d * 2 ^ j ∧ (H * 18446744073709551616 + L) / 2 ^ j / d * 2 ^ j < 18446744073709551616 := by
  have b := quo_bd H L d 0 h0 h1 l0 l1
  simp only [Int.pow_zero, Int.ediv_one] at b
  have e : (H * 18446744073709551616 + L) / 2 ^ j / d = (H * 18446744073709551616 + L) / d / 2 ^ j := by
    rw [Int.ediv_ediv_of_nonneg (Int.le_of_lt (pow_pos2 j)), Int.mul_comm (2 ^ j) d, ← Int.ediv_ediv_of_nonneg (by omega)]
  rw [e]
  have m := Int.mul_ediv_add_emod ((H * 18446744073709551616 + L) / d) (2 ^ j)
  have m0 := Int.emod_nonneg ((H * 18446744073709551616 + L) / d) (Int.ne_of_gt (pow_pos2 j))
  have m1 := Int.mul_nonneg (Int.ediv_nonneg b.1 (Int.le_of_lt (pow_pos2 j))) (Int.le_of_lt (pow_pos2 j))
  rw [Int.mul_comm] at m
  generalize (H * 18446744073709551616 + L) / d = Q at *
  generalize Q / 2 ^ j * 2 ^ j = Z at *
  omega
theorem pow_lt64 (j : Nat) (hj : j < 64) : (2 : Int) ^ j < 18446744073709551616 := by
  have : (2 : Int) ^ j ≤ 2 ^ 63 := by exact_mod_cast Nat.pow_le_pow_right (by decide) (show j ≤ 63 by omega)
  have : (2 : Int) ^ 63 < 18446744073709551616 := by decide
  omega
set_option maxHeartbeats 2000000 in
theorem divide_yes (H L d : Int) (w : World) (h0 : 0 ≤ H) (h1 : H < d) (hd : d < 18446744073709551616) (hL : W64 L) :
    Calls Try.prog 12 #[.agg #[.int .u64 H, .int .u64 L], .int .u64 d] w fun e w' => e = .returned (.tuple #[.int .u64 ((H * 18446744073709551616 + L) / d), .int .u64 ((H * 18446744073709551616 + L) % d), .nilIface]) ∧ Below w.heap.size w w' := by
  obtain ⟨l0, l1⟩ := hL
  have gd : decide (d ≤ H) = false := by rw [decide_eq_false_iff_not]; omega
  go_enter Try.func12, Try.ntmps12
  go_wp2
  go_step3
  go_wp2
  go_step3
  go_wp2
  go_loopw [4, 5, 7] (fun q r k wr => ∃ i : Nat, i ≤ 64 ∧ k = .int .i64 ((i : Int) - 1) ∧ r = .int .u64 ((H * 18446744073709551616 + L) / 2 ^ i % d) ∧ q = .int .u64 ((H * 18446744073709551616 + L) / 2 ^ i / d * 2 ^ i) ∧ wr = w.alloc (.cells #[.int .u64 H, .int .u64 L] 34)) (fun _ _ k _ => (intOf k + 1).toNat)
  case atStart =>
    refine ⟨64, by omega, rfl, ?_, ?_, rfl⟩
    · rw [top_div H L l0 l1, Int.emod_eq_of_lt h0 h1]
    · rw [top_div H L l0 l1, Int.ediv_eq_zero_of_lt h0 h1, Int.zero_mul]
  case round =>
    obtain ⟨i, hi, rfl, rfl, rfl, rfl⟩ := hrel
    cases i with
    | zero =>
      simp only [Int.pow_zero, Int.ediv_one, Int.mul_one]
      go_wp2
      rw [Exit.noGoto_ret]
      go_ret3
      exact ⟨rfl, below_past _ _⟩
    | succ j =>
      have hj : j < 64 := by omega
      have R := round_math H L d j hj h0 h1 hd l0 l1 _ _ _ rfl rfl rfl
      have hand := and1 (L / 2 ^ j) (low_w64 L j l0 l1)
      have u := quo_up H L d (j + 1) h0 h1 l0 l1
      rw [show ((j + 1 : Nat) : Int) - 1 = (j : Int) by omega]
      generalize (H * 18446744073709551616 + L) / 2 ^ (j + 1) % d = r at *
      generalize (H * 18446744073709551616 + L) / 2 ^ (j + 1) / d = q at *
      obtain ⟨r0, r1, q0, q1, c0, c1, R1, R2⟩ := R
      have hw := rem_word r d (L / 2 ^ j % 2) r0 r1 hd c0 c1
      rw [← hand] at hw
      have hj' : (j : Int) < 64 := by omega
      have hpj := pow_lt64 j hj
      have hp0 := pow_pos2 j
      have ejn : (q * 2 ^ (j + 1)) = 2 * q * 2 ^ j := by rw [Int.pow_succ]; grind
      have hor := join64u (j + 1) (q * 2 ^ (j + 1)) (2 ^ j) u.1 (Int.mul_emod_left _ _) u.2 (Int.le_of_lt hp0) (by rw [Int.pow_succ]; omega) hpj
      rw [ejn] at hor
      rw [ejn] at u ⊢
      have HO : Hid (bits .or .u64 (2 * q * 2 ^ j) (2 ^ j) = (2 * q + 1) * 2 ^ j) := hor.trans (by grind)
      obtain ⟨u0, u1⟩ := u
      clear hor ejn
      have HN : Hid (bits .and .u64 (L / 2 ^ j) 1 = L / 2 ^ j % 2 ∧ bits .or .u64 (IntKind.u64.wrap (r * 2)) (bits .and .u64 (L / 2 ^ j) 1) = 2 * r % 18446744073709551616 + bits .and .u64 (L / 2 ^ j) 1) := ⟨hand, hw⟩
      clear hand hw
      have HR : Hid ((2 * r + L / 2 ^ j % 2 < d → (H * 18446744073709551616 + L) / 2 ^ j / d = 2 * q ∧ (H * 18446744073709551616 + L) / 2 ^ j % d = 2 * r + L / 2 ^ j % 2) ∧ (d ≤ 2 * r + L / 2 ^ j % 2 → (H * 18446744073709551616 + L) / 2 ^ j / d = 2 * q + 1 ∧ (H * 18446744073709551616 + L) / 2 ^ j % d = 2 * r + L / 2 ^ j % 2 - d)) := ⟨R1, R2⟩
      clear R1 R2
      have HC : Hid (0 ≤ L / 2 ^ j % 2 ∧ L / 2 ^ j % 2 < 2) := ⟨c0, c1⟩
      clear c0 c1
      by_cases ho : 9223372036854775808 ≤ r
      · have g : (r / 9223372036854775808 != 0) = true := by rw [bne_iff_ne]; omega
        have hR := (HR.out.2 (by have := HC.out.1; omega))
        have HH : Hid (_ ∧ _) := hR
        clear hR HR
        generalize hq0 : 2 * q * 2 ^ j = q2 at *
        go_wp2
        refine ⟨⟨j, by omega, by go_num, ?_, ?_, trivial⟩, by simp [intOf]⟩
        · rw [HH.out.2, HN.out.2, HN.out.1, wu]
          have := HC.out
          congr 1; omega
        · rw [HH.out.1]
          exact congrArg _ HO.out
      · have g : (r / 9223372036854775808 != 0) = false := by rw [bne_eq_false_iff_eq]; omega
        have HM : Hid (bits .or .u64 (r * 2) (bits .and .u64 (L / 2 ^ j) 1) = 2 * r + L / 2 ^ j % 2) := by
          have e := HN.out.2
          rw [show IntKind.u64.wrap (r * 2) = r * 2 by rw [wu]; omega, HN.out.1] at e
          have e2 : bits .or .u64 (r * 2) (bits .and .u64 (L / 2 ^ j) 1) = 2 * r % 18446744073709551616 + L / 2 ^ j % 2 := by rw [HN.out.1]; exact e
          exact e2.trans (by omega)
        by_cases ht : 2 * r + L / 2 ^ j % 2 < d
        · have g2 : decide (bits .or .u64 (r * 2) (bits .and .u64 (L / 2 ^ j) 1) < d) = true := by
            rw [HM.out, decide_eq_true_eq]; omega
          have HH : Hid (_ ∧ _) := HR.out.1 ht
          clear HR ht
          generalize hq0 : 2 * q * 2 ^ j = q2 at *
          go_wp2
          refine ⟨⟨j, by omega, by go_num, ?_, ?_, trivial⟩, by simp [intOf]⟩
          · rw [HH.out.2, HM.out]
          · rw [HH.out.1]
            exact congrArg _ hq0.symm
        · have g2 : decide (bits .or .u64 (r * 2) (bits .and .u64 (L / 2 ^ j) 1) < d) = false := by
            rw [HM.out, decide_eq_false_iff_not]; omega
          have HH : Hid (_ ∧ _) := HR.out.2 (by omega)
          have HT : Hid (d ≤ 2 * r + L / 2 ^ j % 2) := (by omega : d ≤ 2 * r + L / 2 ^ j % 2)
          clear HR ht
          generalize hq0 : 2 * q * 2 ^ j = q2 at *
          go_wp2
          refine ⟨⟨j, by omega, by go_num, ?_, ?_, trivial⟩, by simp [intOf]⟩
          · rw [HH.out.2, HM.out, wu]
            have := HC.out
            have := HT.out
            congr 1; omega
          · rw [HH.out.1]
            exact congrArg _ HO.out
theorem divide_no (H L d : Int) (w : World) (h1 : d ≤ H) :
    Calls Try.prog 12 #[.agg #[.int .u64 H, .int .u64 L], .int .u64 d] w fun e w' => (∃ v, e = .returned (.tuple #[.int .u64 0, .int .u64 0, v]) ∧ FaultIn w' 0 v 0 41) ∧ Below w.heap.size w w' := by
  go_enter Try.func12, Try.ntmps12
  go_wp2
  go_step3
  go_wp2_with fail
  refine (fault_any 41 _).mono ?_
  rintro e w2 ⟨⟨v, rfl, hF⟩, hb2⟩
  go_wp2
  rw [Exit.noGoto_ret]
  go_ret3
  exact ⟨⟨v, rfl, faultIn_keep (Below.refl _ _) hF⟩, bseq (below_past _ _) hb2⟩
end Go.Proofs.Ythdahigckflohaa
