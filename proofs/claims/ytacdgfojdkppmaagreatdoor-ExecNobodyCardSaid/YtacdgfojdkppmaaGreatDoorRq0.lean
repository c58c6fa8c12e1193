import Derived.Test.YtacdgfojdkppmaaGreatDoorRd9
namespace Go.Proofs.YtacdgfojdkppmaaGreatDoor
open Go.RowKit
set_option linter.unusedVariables false
set_option linter.unusedSimpArgs false
set_option maxHeartbeats 1000000 in
theorem value_any (b o n c at_ k : Nat) (B : Nat → Int) (w : World) (hn : at_ + k ≤ n) (hc : n ≤ c) (hcm : c ≤ 9223372036854775807) (hk : k ≤ 8) (hB : ∀ i, 0 ≤ B i ∧ B i < 256) (h : Row w b o n B) :
    Calls Tryz.prog 94 #[.slice (some ⟨b, o, .none⟩) n c, .int .i64 at_, .int .i64 k] w fun e w' => e = .returned (.int .u64 (num B at_ k)) ∧ w' = w := by
  go_enter Tryz.func94, Tryz.ntmps94
  go_wp2_with fail
  go_loopw [7, 8] (fun v a wr => ∃ j : Nat, j ≤ k ∧ a = .int .i64 ((j : Int) - 1) ∧ v = .int .u64 (num B (at_ + j) (k - j)) ∧ wr = w) (fun _ a _ => (intOf a + 1).toNat)
  case atStart => exact ⟨k, Nat.le_refl _, rfl, by rw [Nat.sub_self]; rfl, rfl⟩
  case round =>
    obtain ⟨j, hj, rfl, rfl, rfl⟩ := hrel
    cases j with
    | zero =>
      go_wp2_with fail
      go_ret
      exact ⟨by simp, rfl⟩
    | succ j =>
      have a0 : wr.cell? ⟨b, o + (at_ + j), .none⟩ = some (.int .u8 (B (at_ + j))) := h (at_ + j) (by omega)
      have bb := hB (at_ + j)
      have ho := or_front B hB (at_ + j) (k - (j + 1)) (by omega)
      rw [show k - (j + 1) + 1 = k - j by omega] at ho
      have e1 : ((j + 1 : Nat) : Int) - 1 = j := by omega
      rw [e1]
      have g1 : (at_ : Int) + j < n := by omega
      rw [show at_ + (j + 1) = at_ + j + 1 by omega]
      go_wp2_with fail
      exact ⟨⟨j, by omega, rfl, rfl, trivial⟩, by simp [intOf]⟩
theorem liesQ_any (n : Nat) (a k : Int) (w : World) (hn : n ≤ 300000) (ha : 0 ≤ a ∧ a < 18446744073709551616) (hk : 0 ≤ k ∧ k < 18446744073709551616) :
    Calls Tryz.prog 95 #[.int .u64 a, .int .u64 k, .int .i64 n] w fun e w' => e = .returned (.bool (decide (a + k ≤ n))) ∧ w' = w := by
  by_cases h1 : a ≤ n
  · go_enter Tryz.func95, Tryz.ntmps95
    go_wp2
    all_goals go_ret
    all_goals exact ⟨by simp; omega, rfl⟩
  · go_enter Tryz.func95, Tryz.ntmps95
    go_wp2
    all_goals go_ret
    all_goals exact ⟨by simp; omega, rfl⟩
theorem next_any (x : Int) (w : World) (hx : 0 ≤ x ∧ x ≤ 1073741824) : Calls Tryz.prog 116 #[.int .u64 x] w fun e w' => e = .returned (.int .u64 ((x + 4095) / 4096 * 4096)) ∧ w' = w := by
  go_enter Tryz.func116, Tryz.ntmps116
  go_wp2
  go_ret
  refine ⟨?_, rfl⟩
  have e : x + 4096 - 1 = x + 4095 := by omega
  simp [e]
set_option maxHeartbeats 1000000 in
theorem one_any (va fl sz mem : Int) (w : World) (hv : 0 ≤ va ∧ va < 18446744073709551616) (hf : 0 ≤ fl ∧ fl < 4294967296) (hs : 0 ≤ sz ∧ sz < 18446744073709551616) (hm : 0 ≤ mem ∧ mem < 18446744073709551616) :
    Calls Tryz.prog 115 #[.int .u64 va, .int .u32 fl, .int .u64 sz, .int .u64 mem] w fun e w' => e = .returned (.bool (ok1 va fl sz mem)) ∧ w' = w := by
  by_cases h0 : va % 4096 = 0
  · by_cases h1 : va > 1073741824
    · go_enter Tryz.func115, Tryz.ntmps115
      go_wp2
      all_goals go_ret
      all_goals exact ⟨by simp [ok1]; omega, rfl⟩
    · by_cases h2 : mem < 1
      · go_enter Tryz.func115, Tryz.ntmps115
        go_wp2
        all_goals go_ret
        all_goals exact ⟨by simp [ok1]; omega, rfl⟩
      · by_cases h3 : mem < sz
        · go_enter Tryz.func115, Tryz.ntmps115
          go_wp2
          all_goals go_ret
          all_goals exact ⟨by simp [ok1]; omega, rfl⟩
        · by_cases h4 : mem > 1073741824 - va
          · go_enter Tryz.func115, Tryz.ntmps115
            go_wp2
            all_goals go_ret
            all_goals exact ⟨by simp [ok1]; omega, rfl⟩
          · have q1 : decide (1 ≤ mem) = true := by simp; omega
            have q2 : decide (sz ≤ mem) = true := by simp; omega
            have q3 : decide (va + mem ≤ 1073741824) = true := by simp; omega
            have q0 : decide (va % 4096 = 0) = true := by simpa using h0
            have e : ok1 va fl sz mem = mf fl := by simp only [ok1, q0, q1, q2, q3, Bool.and_true, Bool.true_and]
            rw [e]
            clear q0 q1 q2 q3 e
            by_cases h : 1 ≤ fl ∧ fl ≤ 7
            · have : fl = 1 ∨ fl = 2 ∨ fl = 3 ∨ fl = 4 ∨ fl = 5 ∨ fl = 6 ∨ fl = 7 := by omega
              rcases this with rfl | rfl | rfl | rfl | rfl | rfl | rfl
              all_goals
                go_enter Tryz.func115, Tryz.ntmps115
                go_wp2
                all_goals go_ret
                all_goals exact ⟨by rfl, rfl⟩
            · go_enter Tryz.func115, Tryz.ntmps115
              go_wp2
              all_goals go_ret
              all_goals exact ⟨by simp [mf]; omega, rfl⟩
  · have h0' : (va % 4096 != 0) = true := by simpa using h0
    go_enter Tryz.func115, Tryz.ntmps115
    go_wp2
    all_goals go_ret
    all_goals exact ⟨by simp [ok1, h0], rfl⟩
end Go.Proofs.YtacdgfojdkppmaaGreatDoor
