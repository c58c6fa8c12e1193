import Derived.Test.YtfafinjbobmafabDecW
import Derived.Test.YtfafinjbobmafabREnc
namespace Go.Proofs.Ytfafinjbobmafab
open Go.RowKit
set_option linter.unusedVariables false
theorem cut_6_0 (x : Int) (w : World) (hx0 : 0 ≤ x) (hx1 : x < 4294967296) : Calls Try.prog 16 #[.int .u32 x, .int .i64 6, .int .i64 0] w fun e w' => e = .returned (.int .u32 (pc x 0 7)) ∧ w' = w := by
  have e : bits .and .u32 (x) 127 = pc x 0 7 := by
    rw [show bits .and .u32 (x) 127 = (x) % 128 from bits_mask .u32 32 (by decide) wraps_u32 7 (by decide) _ (by omega) (by omega)]
    show _ = x / 2 ^ 0 % 2 ^ 7
    omega
  rw [← e]
  clear e
  go_enter Try.func16, Try.ntmps16
  go_wp2
  go_ret
  exact ⟨rfl, rfl⟩
theorem cut_11_7 (x : Int) (w : World) (hx0 : 0 ≤ x) (hx1 : x < 4294967296) : Calls Try.prog 16 #[.int .u32 x, .int .i64 11, .int .i64 7] w fun e w' => e = .returned (.int .u32 (pc x 7 5)) ∧ w' = w := by
  have e : bits .and .u32 (x / 128) 31 = pc x 7 5 := by
    rw [show bits .and .u32 (x / 128) 31 = (x / 128) % 32 from bits_mask .u32 32 (by decide) wraps_u32 5 (by decide) _ (by omega) (by omega)]
    show _ = x / 2 ^ 7 % 2 ^ 5
    omega
  rw [← e]
  clear e
  go_enter Try.func16, Try.ntmps16
  go_wp2
  go_ret
  exact ⟨rfl, rfl⟩
theorem cut_19_15 (x : Int) (w : World) (hx0 : 0 ≤ x) (hx1 : x < 4294967296) : Calls Try.prog 16 #[.int .u32 x, .int .i64 19, .int .i64 15] w fun e w' => e = .returned (.int .u32 (pc x 15 5)) ∧ w' = w := by
  have e : bits .and .u32 (x / 32768) 31 = pc x 15 5 := by
    rw [show bits .and .u32 (x / 32768) 31 = (x / 32768) % 32 from bits_mask .u32 32 (by decide) wraps_u32 5 (by decide) _ (by omega) (by omega)]
    show _ = x / 2 ^ 15 % 2 ^ 5
    omega
  rw [← e]
  clear e
  go_enter Try.func16, Try.ntmps16
  go_wp2
  go_ret
  exact ⟨rfl, rfl⟩
theorem cut_24_20 (x : Int) (w : World) (hx0 : 0 ≤ x) (hx1 : x < 4294967296) : Calls Try.prog 16 #[.int .u32 x, .int .i64 24, .int .i64 20] w fun e w' => e = .returned (.int .u32 (pc x 20 5)) ∧ w' = w := by
  have e : bits .and .u32 (x / 1048576) 31 = pc x 20 5 := by
    rw [show bits .and .u32 (x / 1048576) 31 = (x / 1048576) % 32 from bits_mask .u32 32 (by decide) wraps_u32 5 (by decide) _ (by omega) (by omega)]
    show _ = x / 2 ^ 20 % 2 ^ 5
    omega
  rw [← e]
  clear e
  go_enter Try.func16, Try.ntmps16
  go_wp2
  go_ret
  exact ⟨rfl, rfl⟩
theorem cut_31_20 (x : Int) (w : World) (hx0 : 0 ≤ x) (hx1 : x < 4294967296) : Calls Try.prog 16 #[.int .u32 x, .int .i64 31, .int .i64 20] w fun e w' => e = .returned (.int .u32 (pc x 20 12)) ∧ w' = w := by
  have e : bits .and .u32 (x / 1048576) 4095 = pc x 20 12 := by
    rw [show bits .and .u32 (x / 1048576) 4095 = (x / 1048576) % 4096 from bits_mask .u32 32 (by decide) wraps_u32 12 (by decide) _ (by omega) (by omega)]
    show _ = x / 2 ^ 20 % 2 ^ 12
    omega
  rw [← e]
  clear e
  go_enter Try.func16, Try.ntmps16
  go_wp2
  go_ret
  exact ⟨rfl, rfl⟩
theorem cut_25_20 (x : Int) (w : World) (hx0 : 0 ≤ x) (hx1 : x < 4294967296) : Calls Try.prog 16 #[.int .u32 x, .int .i64 25, .int .i64 20] w fun e w' => e = .returned (.int .u32 (pc x 20 6)) ∧ w' = w := by
  have e : bits .and .u32 (x / 1048576) 63 = pc x 20 6 := by
    rw [show bits .and .u32 (x / 1048576) 63 = (x / 1048576) % 64 from bits_mask .u32 32 (by decide) wraps_u32 6 (by decide) _ (by omega) (by omega)]
    show _ = x / 2 ^ 20 % 2 ^ 6
    omega
  rw [← e]
  clear e
  go_enter Try.func16, Try.ntmps16
  go_wp2
  go_ret
  exact ⟨rfl, rfl⟩
theorem cut_31_25 (x : Int) (w : World) (hx0 : 0 ≤ x) (hx1 : x < 4294967296) : Calls Try.prog 16 #[.int .u32 x, .int .i64 31, .int .i64 25] w fun e w' => e = .returned (.int .u32 (pc x 25 7)) ∧ w' = w := by
  have e : bits .and .u32 (x / 33554432) 127 = pc x 25 7 := by
    rw [show bits .and .u32 (x / 33554432) 127 = (x / 33554432) % 128 from bits_mask .u32 32 (by decide) wraps_u32 7 (by decide) _ (by omega) (by omega)]
    show _ = x / 2 ^ 25 % 2 ^ 7
    omega
  rw [← e]
  clear e
  go_enter Try.func16, Try.ntmps16
  go_wp2
  go_ret
  exact ⟨rfl, rfl⟩
theorem cut_31_31 (x : Int) (w : World) (hx0 : 0 ≤ x) (hx1 : x < 4294967296) : Calls Try.prog 16 #[.int .u32 x, .int .i64 31, .int .i64 31] w fun e w' => e = .returned (.int .u32 (pc x 31 1)) ∧ w' = w := by
  have e : bits .and .u32 (x / 2147483648) 1 = pc x 31 1 := by
    rw [show bits .and .u32 (x / 2147483648) 1 = (x / 2147483648) % 2 from bits_mask .u32 32 (by decide) wraps_u32 1 (by decide) _ (by omega) (by omega)]
    show _ = x / 2 ^ 31 % 2 ^ 1
    omega
  rw [← e]
  clear e
  go_enter Try.func16, Try.ntmps16
  go_wp2
  go_ret
  exact ⟨rfl, rfl⟩
theorem cut_7_7 (x : Int) (w : World) (hx0 : 0 ≤ x) (hx1 : x < 4294967296) : Calls Try.prog 16 #[.int .u32 x, .int .i64 7, .int .i64 7] w fun e w' => e = .returned (.int .u32 (pc x 7 1)) ∧ w' = w := by
  have e : bits .and .u32 (x / 128) 1 = pc x 7 1 := by
    rw [show bits .and .u32 (x / 128) 1 = (x / 128) % 2 from bits_mask .u32 32 (by decide) wraps_u32 1 (by decide) _ (by omega) (by omega)]
    show _ = x / 2 ^ 7 % 2 ^ 1
    omega
  rw [← e]
  clear e
  go_enter Try.func16, Try.ntmps16
  go_wp2
  go_ret
  exact ⟨rfl, rfl⟩
theorem cut_30_25 (x : Int) (w : World) (hx0 : 0 ≤ x) (hx1 : x < 4294967296) : Calls Try.prog 16 #[.int .u32 x, .int .i64 30, .int .i64 25] w fun e w' => e = .returned (.int .u32 (pc x 25 6)) ∧ w' = w := by
  have e : bits .and .u32 (x / 33554432) 63 = pc x 25 6 := by
    rw [show bits .and .u32 (x / 33554432) 63 = (x / 33554432) % 64 from bits_mask .u32 32 (by decide) wraps_u32 6 (by decide) _ (by omega) (by omega)]
    show _ = x / 2 ^ 25 % 2 ^ 6
    omega
  rw [← e]
  clear e
  go_enter Try.func16, Try.ntmps16
  go_wp2
  go_ret
  exact ⟨rfl, rfl⟩
theorem cut_11_8 (x : Int) (w : World) (hx0 : 0 ≤ x) (hx1 : x < 4294967296) : Calls Try.prog 16 #[.int .u32 x, .int .i64 11, .int .i64 8] w fun e w' => e = .returned (.int .u32 (pc x 8 4)) ∧ w' = w := by
  have e : bits .and .u32 (x / 256) 15 = pc x 8 4 := by
    rw [show bits .and .u32 (x / 256) 15 = (x / 256) % 16 from bits_mask .u32 32 (by decide) wraps_u32 4 (by decide) _ (by omega) (by omega)]
    show _ = x / 2 ^ 8 % 2 ^ 4
    omega
  rw [← e]
  clear e
  go_enter Try.func16, Try.ntmps16
  go_wp2
  go_ret
  exact ⟨rfl, rfl⟩
theorem cut_31_12 (x : Int) (w : World) (hx0 : 0 ≤ x) (hx1 : x < 4294967296) : Calls Try.prog 16 #[.int .u32 x, .int .i64 31, .int .i64 12] w fun e w' => e = .returned (.int .u32 (pc x 12 20)) ∧ w' = w := by
  have e : bits .and .u32 (x / 4096) 1048575 = pc x 12 20 := by
    rw [show bits .and .u32 (x / 4096) 1048575 = (x / 4096) % 1048576 from bits_mask .u32 32 (by decide) wraps_u32 20 (by decide) _ (by omega) (by omega)]
    show _ = x / 2 ^ 12 % 2 ^ 20
    omega
  rw [← e]
  clear e
  go_enter Try.func16, Try.ntmps16
  go_wp2
  go_ret
  exact ⟨rfl, rfl⟩
theorem cut_19_12 (x : Int) (w : World) (hx0 : 0 ≤ x) (hx1 : x < 4294967296) : Calls Try.prog 16 #[.int .u32 x, .int .i64 19, .int .i64 12] w fun e w' => e = .returned (.int .u32 (pc x 12 8)) ∧ w' = w := by
  have e : bits .and .u32 (x / 4096) 255 = pc x 12 8 := by
    rw [show bits .and .u32 (x / 4096) 255 = (x / 4096) % 256 from bits_mask .u32 32 (by decide) wraps_u32 8 (by decide) _ (by omega) (by omega)]
    show _ = x / 2 ^ 12 % 2 ^ 8
    omega
  rw [← e]
  clear e
  go_enter Try.func16, Try.ntmps16
  go_wp2
  go_ret
  exact ⟨rfl, rfl⟩
theorem cut_20_20 (x : Int) (w : World) (hx0 : 0 ≤ x) (hx1 : x < 4294967296) : Calls Try.prog 16 #[.int .u32 x, .int .i64 20, .int .i64 20] w fun e w' => e = .returned (.int .u32 (pc x 20 1)) ∧ w' = w := by
  have e : bits .and .u32 (x / 1048576) 1 = pc x 20 1 := by
    rw [show bits .and .u32 (x / 1048576) 1 = (x / 1048576) % 2 from bits_mask .u32 32 (by decide) wraps_u32 1 (by decide) _ (by omega) (by omega)]
    show _ = x / 2 ^ 20 % 2 ^ 1
    omega
  rw [← e]
  clear e
  go_enter Try.func16, Try.ntmps16
  go_wp2
  go_ret
  exact ⟨rfl, rfl⟩
theorem cut_30_21 (x : Int) (w : World) (hx0 : 0 ≤ x) (hx1 : x < 4294967296) : Calls Try.prog 16 #[.int .u32 x, .int .i64 30, .int .i64 21] w fun e w' => e = .returned (.int .u32 (pc x 21 10)) ∧ w' = w := by
  have e : bits .and .u32 (x / 2097152) 1023 = pc x 21 10 := by
    rw [show bits .and .u32 (x / 2097152) 1023 = (x / 2097152) % 1024 from bits_mask .u32 32 (by decide) wraps_u32 10 (by decide) _ (by omega) (by omega)]
    show _ = x / 2 ^ 21 % 2 ^ 10
    omega
  rw [← e]
  clear e
  go_enter Try.func16, Try.ntmps16
  go_wp2
  go_ret
  exact ⟨rfl, rfl⟩
/-- A number of so many bits, with its sign. -/
def sgn (v b : Int) : Int := if 2 ^ (b - 1).toNat ≤ v then v - 2 ^ b.toNat else v
theorem signed_12 (v : Int) (w : World) (h0 : 0 ≤ v) (h1 : v < 4294967296) : Calls Try.prog 53 #[.int .u32 v, .int .i64 12] w fun e w' => e = .returned (.int .i64 (sgn v 12)) ∧ w' = w := by
  have e : sgn v 12 = if 2048 ≤ v then v - 4096 else v := rfl
  by_cases h : 2048 ≤ v
  · rw [e, if_pos h]
    clear e
    go_enter Try.func53, Try.ntmps53
    go_wp2
    go_ret
    exact ⟨rfl, rfl⟩
  · rw [e, if_neg h]
    have h' : v < 2048 := by omega
    clear e h
    go_enter Try.func53, Try.ntmps53
    go_wp2
    go_ret
    exact ⟨rfl, rfl⟩
theorem signed_13 (v : Int) (w : World) (h0 : 0 ≤ v) (h1 : v < 4294967296) : Calls Try.prog 53 #[.int .u32 v, .int .i64 13] w fun e w' => e = .returned (.int .i64 (sgn v 13)) ∧ w' = w := by
  have e : sgn v 13 = if 4096 ≤ v then v - 8192 else v := rfl
  by_cases h : 4096 ≤ v
  · rw [e, if_pos h]
    clear e
    go_enter Try.func53, Try.ntmps53
    go_wp2
    go_ret
    exact ⟨rfl, rfl⟩
  · rw [e, if_neg h]
    have h' : v < 4096 := by omega
    clear e h
    go_enter Try.func53, Try.ntmps53
    go_wp2
    go_ret
    exact ⟨rfl, rfl⟩
theorem signed_32 (v : Int) (w : World) (h0 : 0 ≤ v) (h1 : v < 4294967296) : Calls Try.prog 53 #[.int .u32 v, .int .i64 32] w fun e w' => e = .returned (.int .i64 (sgn v 32)) ∧ w' = w := by
  have e : sgn v 32 = if 2147483648 ≤ v then v - 4294967296 else v := rfl
  by_cases h : 2147483648 ≤ v
  · rw [e, if_pos h]
    clear e
    go_enter Try.func53, Try.ntmps53
    go_wp2
    go_ret
    exact ⟨rfl, rfl⟩
  · rw [e, if_neg h]
    have h' : v < 2147483648 := by omega
    clear e h
    go_enter Try.func53, Try.ntmps53
    go_wp2
    go_ret
    exact ⟨rfl, rfl⟩
theorem signed_21 (v : Int) (w : World) (h0 : 0 ≤ v) (h1 : v < 4294967296) : Calls Try.prog 53 #[.int .u32 v, .int .i64 21] w fun e w' => e = .returned (.int .i64 (sgn v 21)) ∧ w' = w := by
  have e : sgn v 21 = if 1048576 ≤ v then v - 2097152 else v := rfl
  by_cases h : 1048576 ≤ v
  · rw [e, if_pos h]
    clear e
    go_enter Try.func53, Try.ntmps53
    go_wp2
    go_ret
    exact ⟨rfl, rfl⟩
  · rw [e, if_neg h]
    have h' : v < 1048576 := by omega
    clear e h
    go_enter Try.func53, Try.ntmps53
    go_wp2
    go_ret
    exact ⟨rfl, rfl⟩
end Go.Proofs.Ytfafinjbobmafab
