import Derived.Test.YthdahigckflohabZHolds
namespace Go.Proofs.Ythdahigckflohab
open Go.RowKit
set_option linter.unusedVariables false
theorem nat_lits : (0 : Int).toNat = 0 ∧ (1 : Int).toNat = 1 ∧ (4 : Int).toNat = 4 ∧ (5 : Int).toNat = 5 ∧ (6 : Int).toNat = 6 ∧ (7 : Int).toNat = 7 ∧ (8 : Int).toNat = 8 ∧ (10 : Int).toNat = 10 ∧ (11 : Int).toNat = 11 ∧ (12 : Int).toNat = 12 ∧ (15 : Int).toNat = 15 ∧ (20 : Int).toNat = 20 ∧ (21 : Int).toNat = 21 ∧ (25 : Int).toNat = 25 ∧ (31 : Int).toNat = 31 := by decide
theorem back7 (a b c d : Int) (ha : 0 ≤ a ∧ a < 2) (hb : 0 ≤ b ∧ b < 64) (hc : 0 ≤ c ∧ c < 16) (hd : 0 ≤ d ∧ d < 2) :
    let X := a * 2147483648 + b * 33554432 + c * 256 + d * 128
    wrap32 X / 2147483648 = -a ∧ X / 128 % 2 = d ∧ X / 33554432 % 64 = b ∧ X / 256 % 16 = c := by
  intro X
  unfold wrap32
  refine ⟨?_, ?_, ?_, ?_⟩ <;> omega
theorem back9 (a b c d : Int) (ha : 0 ≤ a ∧ a < 2) (hb : 0 ≤ b ∧ b < 1024) (hc : 0 ≤ c ∧ c < 2) (hd : 0 ≤ d ∧ d < 256) :
    let X := a * 2147483648 + b * 2097152 + c * 1048576 + d * 4096
    wrap32 X / 2147483648 = -a ∧ X / 4096 % 256 = d ∧ X / 1048576 % 2 = c ∧ X / 2097152 % 1024 = b := by
  intro X
  unfold wrap32
  refine ⟨?_, ?_, ?_, ?_⟩ <;> omega
/-- What is put into a word and taken out again is the number just where the shape may hold it. -/
theorem back_iff (s n : Int) (hs0 : 1 ≤ s) (hs1 : s ≤ 14) : tk s (pt s n) = n ↔ Hs s n := by
  obtain ⟨t0, t1, t4, t5, t6, t7, t8, t10, t11, t12, t15, t20, t21, t25, t31⟩ := nat_lits
  rcases shapes14 s hs0 hs1 with rfl | rfl | rfl | rfl | rfl | rfl | rfl | rfl | rfl | rfl | rfl | rfl | rfl | rfl
  · simp [tk, Hs]; omega
  · simp [tk, pt, Hs, sg, pc, wrap32]; omega
  · simp [tk, pt, Hs, pc]; omega
  · simp [tk, pt, Hs, pc]; omega
  · simp [tk, pt, Hs, sg, pc, wrap32]; omega
  · simp [tk, pt, Hs, sg, pc, wrap32]; omega
  · obtain ⟨q1, q2, q3, q4⟩ := back7 (n % 4294967296 / 4096 % 2) (n % 4294967296 / 32 % 64) (n % 4294967296 / 2 % 16) (n % 4294967296 / 2048 % 2) (by omega) (by omega) (by omega) (by omega)
    simp [tk, pt, Hs, sg, pc]
    rw [q1, q2, q3, q4]
    clear q1 q2 q3 q4
    rw [show n % 4294967296 / 4096 % 2 = n / 4096 % 2 by omega, show n % 4294967296 / 32 % 64 = n / 32 % 64 by omega, show n % 4294967296 / 2 % 16 = n / 2 % 16 by omega, show n % 4294967296 / 2048 % 2 = n / 2048 % 2 by omega]
    omega
  · simp [tk, pt, Hs, sg, pc, wrap32]; omega
  · obtain ⟨q1, q2, q3, q4⟩ := back9 (n % 4294967296 / 1048576 % 2) (n % 4294967296 / 2 % 1024) (n % 4294967296 / 2048 % 2) (n % 4294967296 / 4096 % 256) (by omega) (by omega) (by omega) (by omega)
    simp [tk, pt, Hs, sg, pc]
    rw [q1, q2, q3, q4]
    clear q1 q2 q3 q4
    rw [show n % 4294967296 / 1048576 % 2 = n / 1048576 % 2 by omega, show n % 4294967296 / 2 % 1024 = n / 2 % 1024 by omega, show n % 4294967296 / 2048 % 2 = n / 2048 % 2 by omega, show n % 4294967296 / 4096 % 256 = n / 4096 % 256 by omega]
    omega
  · simp [tk, pt, Hs, pc]; omega
  · simp [tk, Hs]; omega
  · simp [tk, Hs]; omega
  · simp [tk, Hs]; omega
  · simp [tk, pt, Hs, pc]; omega
end Go.Proofs.Ythdahigckflohab
