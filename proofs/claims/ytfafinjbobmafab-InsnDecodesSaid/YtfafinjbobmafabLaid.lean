import Derived.Test.YtfafinjbobmafabRefR
namespace Go.Proofs.Ytfafinjbobmafab
open Go.RowKit
set_option linter.unusedVariables false
theorem wrap_u64_eq (n : Int) : IntKind.u64.wrap n = n % 18446744073709551616 := by simp [IntKind.wrap, IntKind.bits, IntKind.signed]
theorem part_11_0 (n : Int) (w : World) : Calls Try.prog 56 #[.int .i64 n, .int .i64 11, .int .i64 0] w fun e w' => e = .returned (.int .u32 (pc (n % 4294967296) 0 12)) ∧ w' = w := by
  have e : bits .and .u32 (IntKind.u64.wrap n % 4294967296) 4095 = pc (n % 4294967296) 0 12 := by
    rw [show bits .and .u32 (IntKind.u64.wrap n % 4294967296) 4095 = (IntKind.u64.wrap n % 4294967296) % 4096 from bits_mask .u32 32 (by decide) wraps_u32 12 (by decide) _ (by omega) (by omega), wrap_u64_eq]
    show _ = n % 4294967296 / 2 ^ 0 % 2 ^ 12
    omega
  rw [← e]
  clear e
  go_enter Try.func56, Try.ntmps56
  go_wp2
  go_ret
  exact ⟨rfl, rfl⟩
theorem part_5_0 (n : Int) (w : World) : Calls Try.prog 56 #[.int .i64 n, .int .i64 5, .int .i64 0] w fun e w' => e = .returned (.int .u32 (pc (n % 4294967296) 0 6)) ∧ w' = w := by
  have e : bits .and .u32 (IntKind.u64.wrap n % 4294967296) 63 = pc (n % 4294967296) 0 6 := by
    rw [show bits .and .u32 (IntKind.u64.wrap n % 4294967296) 63 = (IntKind.u64.wrap n % 4294967296) % 64 from bits_mask .u32 32 (by decide) wraps_u32 6 (by decide) _ (by omega) (by omega), wrap_u64_eq]
    show _ = n % 4294967296 / 2 ^ 0 % 2 ^ 6
    omega
  rw [← e]
  clear e
  go_enter Try.func56, Try.ntmps56
  go_wp2
  go_ret
  exact ⟨rfl, rfl⟩
theorem part_4_0 (n : Int) (w : World) : Calls Try.prog 56 #[.int .i64 n, .int .i64 4, .int .i64 0] w fun e w' => e = .returned (.int .u32 (pc (n % 4294967296) 0 5)) ∧ w' = w := by
  have e : bits .and .u32 (IntKind.u64.wrap n % 4294967296) 31 = pc (n % 4294967296) 0 5 := by
    rw [show bits .and .u32 (IntKind.u64.wrap n % 4294967296) 31 = (IntKind.u64.wrap n % 4294967296) % 32 from bits_mask .u32 32 (by decide) wraps_u32 5 (by decide) _ (by omega) (by omega), wrap_u64_eq]
    show _ = n % 4294967296 / 2 ^ 0 % 2 ^ 5
    omega
  rw [← e]
  clear e
  go_enter Try.func56, Try.ntmps56
  go_wp2
  go_ret
  exact ⟨rfl, rfl⟩
theorem part_11_5 (n : Int) (w : World) : Calls Try.prog 56 #[.int .i64 n, .int .i64 11, .int .i64 5] w fun e w' => e = .returned (.int .u32 (pc (n % 4294967296) 5 7)) ∧ w' = w := by
  have e : bits .and .u32 (IntKind.u64.wrap n / 32 % 4294967296) 127 = pc (n % 4294967296) 5 7 := by
    rw [show bits .and .u32 (IntKind.u64.wrap n / 32 % 4294967296) 127 = (IntKind.u64.wrap n / 32 % 4294967296) % 128 from bits_mask .u32 32 (by decide) wraps_u32 7 (by decide) _ (by omega) (by omega), wrap_u64_eq]
    show _ = n % 4294967296 / 2 ^ 5 % 2 ^ 7
    omega
  rw [← e]
  clear e
  go_enter Try.func56, Try.ntmps56
  go_wp2
  go_ret
  exact ⟨rfl, rfl⟩
theorem part_12_12 (n : Int) (w : World) : Calls Try.prog 56 #[.int .i64 n, .int .i64 12, .int .i64 12] w fun e w' => e = .returned (.int .u32 (pc (n % 4294967296) 12 1)) ∧ w' = w := by
  have e : bits .and .u32 (IntKind.u64.wrap n / 4096 % 4294967296) 1 = pc (n % 4294967296) 12 1 := by
    rw [show bits .and .u32 (IntKind.u64.wrap n / 4096 % 4294967296) 1 = (IntKind.u64.wrap n / 4096 % 4294967296) % 2 from bits_mask .u32 32 (by decide) wraps_u32 1 (by decide) _ (by omega) (by omega), wrap_u64_eq]
    show _ = n % 4294967296 / 2 ^ 12 % 2 ^ 1
    omega
  rw [← e]
  clear e
  go_enter Try.func56, Try.ntmps56
  go_wp2
  go_ret
  exact ⟨rfl, rfl⟩
theorem part_10_5 (n : Int) (w : World) : Calls Try.prog 56 #[.int .i64 n, .int .i64 10, .int .i64 5] w fun e w' => e = .returned (.int .u32 (pc (n % 4294967296) 5 6)) ∧ w' = w := by
  have e : bits .and .u32 (IntKind.u64.wrap n / 32 % 4294967296) 63 = pc (n % 4294967296) 5 6 := by
    rw [show bits .and .u32 (IntKind.u64.wrap n / 32 % 4294967296) 63 = (IntKind.u64.wrap n / 32 % 4294967296) % 64 from bits_mask .u32 32 (by decide) wraps_u32 6 (by decide) _ (by omega) (by omega), wrap_u64_eq]
    show _ = n % 4294967296 / 2 ^ 5 % 2 ^ 6
    omega
  rw [← e]
  clear e
  go_enter Try.func56, Try.ntmps56
  go_wp2
  go_ret
  exact ⟨rfl, rfl⟩
theorem part_4_1 (n : Int) (w : World) : Calls Try.prog 56 #[.int .i64 n, .int .i64 4, .int .i64 1] w fun e w' => e = .returned (.int .u32 (pc (n % 4294967296) 1 4)) ∧ w' = w := by
  have e : bits .and .u32 (IntKind.u64.wrap n / 2 % 4294967296) 15 = pc (n % 4294967296) 1 4 := by
    rw [show bits .and .u32 (IntKind.u64.wrap n / 2 % 4294967296) 15 = (IntKind.u64.wrap n / 2 % 4294967296) % 16 from bits_mask .u32 32 (by decide) wraps_u32 4 (by decide) _ (by omega) (by omega), wrap_u64_eq]
    show _ = n % 4294967296 / 2 ^ 1 % 2 ^ 4
    omega
  rw [← e]
  clear e
  go_enter Try.func56, Try.ntmps56
  go_wp2
  go_ret
  exact ⟨rfl, rfl⟩
theorem part_11_11 (n : Int) (w : World) : Calls Try.prog 56 #[.int .i64 n, .int .i64 11, .int .i64 11] w fun e w' => e = .returned (.int .u32 (pc (n % 4294967296) 11 1)) ∧ w' = w := by
  have e : bits .and .u32 (IntKind.u64.wrap n / 2048 % 4294967296) 1 = pc (n % 4294967296) 11 1 := by
    rw [show bits .and .u32 (IntKind.u64.wrap n / 2048 % 4294967296) 1 = (IntKind.u64.wrap n / 2048 % 4294967296) % 2 from bits_mask .u32 32 (by decide) wraps_u32 1 (by decide) _ (by omega) (by omega), wrap_u64_eq]
    show _ = n % 4294967296 / 2 ^ 11 % 2 ^ 1
    omega
  rw [← e]
  clear e
  go_enter Try.func56, Try.ntmps56
  go_wp2
  go_ret
  exact ⟨rfl, rfl⟩
theorem part_31_12 (n : Int) (w : World) : Calls Try.prog 56 #[.int .i64 n, .int .i64 31, .int .i64 12] w fun e w' => e = .returned (.int .u32 (pc (n % 4294967296) 12 20)) ∧ w' = w := by
  have e : bits .and .u32 (IntKind.u64.wrap n / 4096 % 4294967296) 1048575 = pc (n % 4294967296) 12 20 := by
    rw [show bits .and .u32 (IntKind.u64.wrap n / 4096 % 4294967296) 1048575 = (IntKind.u64.wrap n / 4096 % 4294967296) % 1048576 from bits_mask .u32 32 (by decide) wraps_u32 20 (by decide) _ (by omega) (by omega), wrap_u64_eq]
    show _ = n % 4294967296 / 2 ^ 12 % 2 ^ 20
    omega
  rw [← e]
  clear e
  go_enter Try.func56, Try.ntmps56
  go_wp2
  go_ret
  exact ⟨rfl, rfl⟩
theorem part_20_20 (n : Int) (w : World) : Calls Try.prog 56 #[.int .i64 n, .int .i64 20, .int .i64 20] w fun e w' => e = .returned (.int .u32 (pc (n % 4294967296) 20 1)) ∧ w' = w := by
  have e : bits .and .u32 (IntKind.u64.wrap n / 1048576 % 4294967296) 1 = pc (n % 4294967296) 20 1 := by
    rw [show bits .and .u32 (IntKind.u64.wrap n / 1048576 % 4294967296) 1 = (IntKind.u64.wrap n / 1048576 % 4294967296) % 2 from bits_mask .u32 32 (by decide) wraps_u32 1 (by decide) _ (by omega) (by omega), wrap_u64_eq]
    show _ = n % 4294967296 / 2 ^ 20 % 2 ^ 1
    omega
  rw [← e]
  clear e
  go_enter Try.func56, Try.ntmps56
  go_wp2
  go_ret
  exact ⟨rfl, rfl⟩
theorem part_10_1 (n : Int) (w : World) : Calls Try.prog 56 #[.int .i64 n, .int .i64 10, .int .i64 1] w fun e w' => e = .returned (.int .u32 (pc (n % 4294967296) 1 10)) ∧ w' = w := by
  have e : bits .and .u32 (IntKind.u64.wrap n / 2 % 4294967296) 1023 = pc (n % 4294967296) 1 10 := by
    rw [show bits .and .u32 (IntKind.u64.wrap n / 2 % 4294967296) 1023 = (IntKind.u64.wrap n / 2 % 4294967296) % 1024 from bits_mask .u32 32 (by decide) wraps_u32 10 (by decide) _ (by omega) (by omega), wrap_u64_eq]
    show _ = n % 4294967296 / 2 ^ 1 % 2 ^ 10
    omega
  rw [← e]
  clear e
  go_enter Try.func56, Try.ntmps56
  go_wp2
  go_ret
  exact ⟨rfl, rfl⟩
theorem part_19_12 (n : Int) (w : World) : Calls Try.prog 56 #[.int .i64 n, .int .i64 19, .int .i64 12] w fun e w' => e = .returned (.int .u32 (pc (n % 4294967296) 12 8)) ∧ w' = w := by
  have e : bits .and .u32 (IntKind.u64.wrap n / 4096 % 4294967296) 255 = pc (n % 4294967296) 12 8 := by
    rw [show bits .and .u32 (IntKind.u64.wrap n / 4096 % 4294967296) 255 = (IntKind.u64.wrap n / 4096 % 4294967296) % 256 from bits_mask .u32 32 (by decide) wraps_u32 8 (by decide) _ (by omega) (by omega), wrap_u64_eq]
    show _ = n % 4294967296 / 2 ^ 12 % 2 ^ 8
    omega
  rw [← e]
  clear e
  go_enter Try.func56, Try.ntmps56
  go_wp2
  go_ret
  exact ⟨rfl, rfl⟩
set_option maxHeartbeats 2000000 in
theorem laid_any (s y : Int) (w : World) (hs0 : 1 ≤ s) (hs1 : s ≤ 14) :
    Calls Try.prog 48 #[.int .i64 s, .int .i64 y] w fun e w' => e = .returned (.int .u32 (pt s y)) ∧ w' = w := by
  rcases shapes14 s hs0 hs1 with rfl | rfl | rfl | rfl | rfl | rfl | rfl | rfl | rfl | rfl | rfl | rfl | rfl | rfl
  · rw [show pt 1 y = 0 from by simp [pt]]
    go_enter Try.func48, Try.ntmps48
    go_wp2
    go_ret
    exact ⟨rfl, rfl⟩
  · rw [show pt 2 y = pc (y % 4294967296) 0 12 * 1048576 from by simp [pt]]
    have b0 : 0 ≤ pc (y % 4294967296) 0 12 := (pc_bd _ 0 12).1
    have c0 : pc (y % 4294967296) 0 12 < 4096 := (pc_bd _ 0 12).2
    go_enter Try.func48, Try.ntmps48
    go_wp2_with fail
    refine (part_11_0 y _).mono ?_
    rintro e w' ⟨rfl, rfl⟩
    go_wp2
    go_ret
    exact ⟨rfl, rfl⟩
  · rw [show pt 3 y = pc (y % 4294967296) 0 6 * 1048576 from by simp [pt]]
    have b0 : 0 ≤ pc (y % 4294967296) 0 6 := (pc_bd _ 0 6).1
    have c0 : pc (y % 4294967296) 0 6 < 64 := (pc_bd _ 0 6).2
    go_enter Try.func48, Try.ntmps48
    go_wp2_with fail
    refine (part_5_0 y _).mono ?_
    rintro e w' ⟨rfl, rfl⟩
    go_wp2
    go_ret
    exact ⟨rfl, rfl⟩
  · rw [show pt 4 y = pc (y % 4294967296) 0 5 * 1048576 from by simp [pt]]
    have b0 : 0 ≤ pc (y % 4294967296) 0 5 := (pc_bd _ 0 5).1
    have c0 : pc (y % 4294967296) 0 5 < 32 := (pc_bd _ 0 5).2
    go_enter Try.func48, Try.ntmps48
    go_wp2_with fail
    refine (part_4_0 y _).mono ?_
    rintro e w' ⟨rfl, rfl⟩
    go_wp2
    go_ret
    exact ⟨rfl, rfl⟩
  · rw [show pt 5 y = pc (y % 4294967296) 0 12 * 1048576 from by simp [pt]]
    have b0 : 0 ≤ pc (y % 4294967296) 0 12 := (pc_bd _ 0 12).1
    have c0 : pc (y % 4294967296) 0 12 < 4096 := (pc_bd _ 0 12).2
    go_enter Try.func48, Try.ntmps48
    go_wp2_with fail
    refine (part_11_0 y _).mono ?_
    rintro e w' ⟨rfl, rfl⟩
    go_wp2
    go_ret
    exact ⟨rfl, rfl⟩
  · rw [show pt 6 y = pc (y % 4294967296) 5 7 * 33554432 + pc (y % 4294967296) 0 5 * 128 from by simp [pt]]
    have b0 : 0 ≤ pc (y % 4294967296) 5 7 := (pc_bd _ 5 7).1
    have c0 : pc (y % 4294967296) 5 7 < 128 := (pc_bd _ 5 7).2
    have b1 : 0 ≤ pc (y % 4294967296) 0 5 := (pc_bd _ 0 5).1
    have c1 : pc (y % 4294967296) 0 5 < 32 := (pc_bd _ 0 5).2
    rw [← join32 12 (pc (y % 4294967296) 5 7 * 33554432) (pc (y % 4294967296) 0 5 * 128) (by omega) (by omega) (by omega) (by omega) (by omega) (by omega)]
    go_enter Try.func48, Try.ntmps48
    go_wp2_with fail
    refine (part_11_5 y _).mono ?_
    rintro e w' ⟨rfl, rfl⟩
    go_wp2_with fail
    refine (part_4_0 y _).mono ?_
    rintro e w' ⟨rfl, rfl⟩
    go_wp2
    go_ret
    exact ⟨rfl, rfl⟩
  · rw [show pt 7 y = pc (y % 4294967296) 12 1 * 2147483648 + pc (y % 4294967296) 5 6 * 33554432 + pc (y % 4294967296) 1 4 * 256 + pc (y % 4294967296) 11 1 * 128 from by simp [pt]]
    have b0 : 0 ≤ pc (y % 4294967296) 12 1 := (pc_bd _ 12 1).1
    have c0 : pc (y % 4294967296) 12 1 < 2 := (pc_bd _ 12 1).2
    have b1 : 0 ≤ pc (y % 4294967296) 5 6 := (pc_bd _ 5 6).1
    have c1 : pc (y % 4294967296) 5 6 < 64 := (pc_bd _ 5 6).2
    have b2 : 0 ≤ pc (y % 4294967296) 1 4 := (pc_bd _ 1 4).1
    have c2 : pc (y % 4294967296) 1 4 < 16 := (pc_bd _ 1 4).2
    have b3 : 0 ≤ pc (y % 4294967296) 11 1 := (pc_bd _ 11 1).1
    have c3 : pc (y % 4294967296) 11 1 < 2 := (pc_bd _ 11 1).2
    rw [← join32 8 (pc (y % 4294967296) 12 1 * 2147483648 + pc (y % 4294967296) 5 6 * 33554432 + pc (y % 4294967296) 1 4 * 256) (pc (y % 4294967296) 11 1 * 128) (by omega) (by omega) (by omega) (by omega) (by omega) (by omega), ← join32 12 (pc (y % 4294967296) 12 1 * 2147483648 + pc (y % 4294967296) 5 6 * 33554432) (pc (y % 4294967296) 1 4 * 256) (by omega) (by omega) (by omega) (by omega) (by omega) (by omega), ← join32 31 (pc (y % 4294967296) 12 1 * 2147483648) (pc (y % 4294967296) 5 6 * 33554432) (by omega) (by omega) (by omega) (by omega) (by omega) (by omega)]
    go_enter Try.func48, Try.ntmps48
    go_wp2_with fail
    refine (part_12_12 y _).mono ?_
    rintro e w' ⟨rfl, rfl⟩
    go_wp2_with fail
    refine (part_10_5 y _).mono ?_
    rintro e w' ⟨rfl, rfl⟩
    go_wp2_with fail
    refine (part_4_1 y _).mono ?_
    rintro e w' ⟨rfl, rfl⟩
    go_wp2_with fail
    refine (part_11_11 y _).mono ?_
    rintro e w' ⟨rfl, rfl⟩
    go_wp2
    go_ret
    exact ⟨rfl, rfl⟩
  · rw [show pt 8 y = pc (y % 4294967296) 12 20 * 4096 from by simp [pt]]
    have b0 : 0 ≤ pc (y % 4294967296) 12 20 := (pc_bd _ 12 20).1
    have c0 : pc (y % 4294967296) 12 20 < 1048576 := (pc_bd _ 12 20).2
    go_enter Try.func48, Try.ntmps48
    go_wp2_with fail
    refine (part_31_12 y _).mono ?_
    rintro e w' ⟨rfl, rfl⟩
    go_wp2
    go_ret
    exact ⟨rfl, rfl⟩
  · rw [show pt 9 y = pc (y % 4294967296) 20 1 * 2147483648 + pc (y % 4294967296) 1 10 * 2097152 + pc (y % 4294967296) 11 1 * 1048576 + pc (y % 4294967296) 12 8 * 4096 from by simp [pt]]
    have b0 : 0 ≤ pc (y % 4294967296) 20 1 := (pc_bd _ 20 1).1
    have c0 : pc (y % 4294967296) 20 1 < 2 := (pc_bd _ 20 1).2
    have b1 : 0 ≤ pc (y % 4294967296) 1 10 := (pc_bd _ 1 10).1
    have c1 : pc (y % 4294967296) 1 10 < 1024 := (pc_bd _ 1 10).2
    have b2 : 0 ≤ pc (y % 4294967296) 11 1 := (pc_bd _ 11 1).1
    have c2 : pc (y % 4294967296) 11 1 < 2 := (pc_bd _ 11 1).2
    have b3 : 0 ≤ pc (y % 4294967296) 12 8 := (pc_bd _ 12 8).1
    have c3 : pc (y % 4294967296) 12 8 < 256 := (pc_bd _ 12 8).2
    rw [← join32 20 (pc (y % 4294967296) 20 1 * 2147483648 + pc (y % 4294967296) 1 10 * 2097152 + pc (y % 4294967296) 11 1 * 1048576) (pc (y % 4294967296) 12 8 * 4096) (by omega) (by omega) (by omega) (by omega) (by omega) (by omega), ← join32 21 (pc (y % 4294967296) 20 1 * 2147483648 + pc (y % 4294967296) 1 10 * 2097152) (pc (y % 4294967296) 11 1 * 1048576) (by omega) (by omega) (by omega) (by omega) (by omega) (by omega), ← join32 31 (pc (y % 4294967296) 20 1 * 2147483648) (pc (y % 4294967296) 1 10 * 2097152) (by omega) (by omega) (by omega) (by omega) (by omega) (by omega)]
    go_enter Try.func48, Try.ntmps48
    go_wp2_with fail
    refine (part_20_20 y _).mono ?_
    rintro e w' ⟨rfl, rfl⟩
    go_wp2_with fail
    refine (part_10_1 y _).mono ?_
    rintro e w' ⟨rfl, rfl⟩
    go_wp2_with fail
    refine (part_11_11 y _).mono ?_
    rintro e w' ⟨rfl, rfl⟩
    go_wp2_with fail
    refine (part_19_12 y _).mono ?_
    rintro e w' ⟨rfl, rfl⟩
    go_wp2
    go_ret
    exact ⟨rfl, rfl⟩
  · rw [show pt 10 y = pc (y % 4294967296) 0 12 * 1048576 from by simp [pt]]
    have b0 : 0 ≤ pc (y % 4294967296) 0 12 := (pc_bd _ 0 12).1
    have c0 : pc (y % 4294967296) 0 12 < 4096 := (pc_bd _ 0 12).2
    go_enter Try.func48, Try.ntmps48
    go_wp2_with fail
    refine (part_11_0 y _).mono ?_
    rintro e w' ⟨rfl, rfl⟩
    go_wp2
    go_ret
    exact ⟨rfl, rfl⟩
  · rw [show pt 11 y = 0 from by simp [pt]]
    go_enter Try.func48, Try.ntmps48
    go_wp2
    go_ret
    exact ⟨rfl, rfl⟩
  · rw [show pt 12 y = 0 from by simp [pt]]
    go_enter Try.func48, Try.ntmps48
    go_wp2
    go_ret
    exact ⟨rfl, rfl⟩
  · rw [show pt 13 y = 0 from by simp [pt]]
    go_enter Try.func48, Try.ntmps48
    go_wp2
    go_ret
    exact ⟨rfl, rfl⟩
  · rw [show pt 14 y = pc (y % 4294967296) 0 5 * 32768 from by simp [pt]]
    have b0 : 0 ≤ pc (y % 4294967296) 0 5 := (pc_bd _ 0 5).1
    have c0 : pc (y % 4294967296) 0 5 < 32 := (pc_bd _ 0 5).2
    go_enter Try.func48, Try.ntmps48
    go_wp2_with fail
    refine (part_4_0 y _).mono ?_
    rintro e w' ⟨rfl, rfl⟩
    go_wp2
    go_ret
    exact ⟨rfl, rfl⟩
end Go.Proofs.Ytfafinjbobmafab
