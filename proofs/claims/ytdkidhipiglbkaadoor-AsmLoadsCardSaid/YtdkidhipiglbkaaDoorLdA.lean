import Derived.Test.YtdkidhipiglbkaaDoorRows
import Derived.WalkKit
import Derived.WalkSpells
import Derived.RowKit3
import Derived.Deep.QuietTactic
import Derived.BigQuiet
import Derived.WalkSmall
import Derived.Below
import Derived.Laws.Bits128
import Derived.Laws.Bits64
import Derived.Laws.Bits64b
namespace Go.Proofs.YtdkidhipiglbkaaDoor
open Go.RowKit
set_option linter.unusedVariables false
set_option linter.unusedSimpArgs false
def I64 (v : Int) : Prop := -9223372036854775808 ≤ v ∧ v < 9223372036854775808
def W64 (x : Int) : Prop := 0 ≤ x ∧ x < 18446744073709551616
/-- The lower twelve places of a number, as they are signed. -/
def lo (v : Int) : Int := (v + 2048) % 4096 - 2048
theorem lo_bd (v : Int) : -2048 ≤ lo v ∧ lo v < 2048 := by unfold lo; omega
theorem and4095 (n : Int) : bits .and .i64 n 4095 = n % 4096 := by
  have h127 : (BitVec.ofInt 64 4095).toNat = 2 ^ 12 - 1 := by decide
  have key : (BitVec.ofInt 64 n &&& BitVec.ofInt 64 4095).toNat = (n % ((2 ^ 64 : Nat) : Int)).toNat % 2 ^ 12 := by
    rw [BitVec.toNat_and, BitVec.toNat_ofInt, h127, Nat.and_two_pow_sub_one_eq_mod]
  show IntKind.i64.wrap ((BitVec.ofInt 64 n &&& BitVec.ofInt 64 4095).toNat : Nat) = n % 4096
  rw [key, IntKind.wrap_i64]
  omega
theorem and1 (n : Int) : bits .and .i64 n 1 = n % 2 := by
  have h127 : (BitVec.ofInt 64 1).toNat = 2 ^ 1 - 1 := by decide
  have key : (BitVec.ofInt 64 n &&& BitVec.ofInt 64 1).toNat = (n % ((2 ^ 64 : Nat) : Int)).toNat % 2 ^ 1 := by
    rw [BitVec.toNat_and, BitVec.toNat_ofInt, h127, Nat.and_two_pow_sub_one_eq_mod]
  show IntKind.i64.wrap ((BitVec.ofInt 64 n &&& BitVec.ofInt 64 1).toNat : Nat) = n % 2
  rw [key, IntKind.wrap_i64]
  omega
theorem lowOf_any (v : Int) (w : World) (h : I64 v) : Calls Tryd.prog 7 #[.int .i64 v] w fun e w' => e = .returned (.int .i64 (lo v)) ∧ w' = w := by
  obtain ⟨h0, h1⟩ := h
  go_enter Tryd.func7, Tryd.ntmps7
  go_wp2
  go_ret
  refine ⟨congrArg (fun x => Ending.returned (.int .i64 x)) ?_, rfl⟩
  show wrap64 (v * 4503599627370496) / 4503599627370496 = lo v
  unfold wrap64 lo
  omega
theorem lower_any (v : Int) (w : World) (h : I64 v) : Calls Tryd.prog 10 #[.int .i64 v] w fun e w' => e = .returned (.int .i64 (lo v)) ∧ w' = w := by
  obtain ⟨h0, h1⟩ := h
  have ha := and4095 v
  go_enter Tryd.func10, Tryd.ntmps10
  go_wp2
  · go_ret
    refine ⟨congrArg (fun x => Ending.returned (.int .i64 x)) ?_, rfl⟩
    show v % 4096 - 4096 = lo v
    unfold lo
    omega
  · go_ret
    refine ⟨congrArg (fun x => Ending.returned (.int .i64 x)) ?_, rfl⟩
    show v % 4096 = lo v
    unfold lo
    omega
/-- How many lower places are 0. -/
def tz : Nat → Int → Nat
  | 0, _ => 0
  | n + 1, h => if h % 2 = 0 then tz n (h / 2) + 1 else 0
/-- What is left of a number without them. -/
def od : Nat → Int → Int
  | 0, h => h
  | n + 1, h => if h % 2 = 0 then od n (h / 2) else h
theorem tz_le (n : Nat) : ∀ h : Int, tz n h ≤ n := by
  induction n with
  | zero => intro h; simp [tz]
  | succ n ih =>
    intro h
    simp only [tz]
    split
    · have := ih (h / 2); omega
    · omega
theorem od_tz (n : Nat) : ∀ h : Int, h / 2 ^ tz n h = od n h := by
  induction n with
  | zero => intro h; simp [tz, od]
  | succ n ih =>
    intro h
    simp only [tz, od]
    split
    · rw [← ih (h / 2), Int.pow_succ, Int.mul_comm, Int.ediv_ediv_of_nonneg (by decide)]
    · simp
theorem tz_mod (n : Nat) : ∀ (m : Nat) (h : Int), n ≤ m → tz n (h % 2 ^ m) = tz n h := by
  induction n with
  | zero => intro m h _; simp [tz]
  | succ n ih =>
    intro m h hm
    obtain ⟨k, rfl⟩ : ∃ k, m = k + 1 := ⟨m - 1, by omega⟩
    have e1 : h % 2 ^ (k + 1) % 2 = h % 2 := Int.emod_emod_of_dvd h ⟨2 ^ k, by rw [Int.pow_succ, Int.mul_comm]⟩
    have e2 : h % 2 ^ (k + 1) / 2 = (h / 2) % 2 ^ k := by
      have p := Int.emod_add_mul_ediv h (2 ^ (k + 1))
      have q := Int.emod_add_mul_ediv (h / 2) (2 ^ k)
      have r : h / 2 ^ (k + 1) = h / 2 / 2 ^ k := by rw [Int.pow_succ, Int.mul_comm, Int.ediv_ediv_of_nonneg (by decide)]
      rw [Int.pow_succ] at *
      rw [r] at p
      generalize h / 2 / 2 ^ k = z at *
      generalize (2 : Int) ^ k = y at *
      have e : y * 2 * z = 2 * (y * z) := by grind
      rw [e] at p
      generalize y * z = t at *
      omega
    simp only [tz, e1, e2]
    rw [ih k (h / 2) (by omega)]
theorem and_half (a b : Nat) : a &&& b = 2 * ((a / 2) &&& (b / 2)) + (if a % 2 = 1 ∧ b % 2 = 1 then 1 else 0) := by
  have e1 : (a &&& b) / 2 = a / 2 &&& b / 2 := Nat.and_div_two
  have e2 : (a &&& b) % 2 = 1 ↔ a % 2 = 1 ∧ b % 2 = 1 := Nat.and_mod_two_eq_one
  have := Nat.mod_two_eq_zero_or_one (a &&& b)
  split
  · have := e2.2 (by assumption); omega
  · have : ¬ (a &&& b) % 2 = 1 := fun h => by have := e2.1 h; contradiction
    omega
theorem and_rest (m b : Nat) (h : b < 2 ^ m) : b &&& (2 ^ m - (b + 1)) = 0 := by
  apply Nat.eq_of_testBit_eq
  intro i
  rw [Nat.testBit_and, Nat.testBit_two_pow_sub_succ h]
  cases b.testBit i <;> simp
theorem low_one (n : Nat) : ∀ a : Nat, 0 < a → a < 2 ^ n → a &&& (2 ^ n - a) = 2 ^ tz n a := by
  induction n with
  | zero => intro a h0 h1; simp at h1; omega
  | succ n ih =>
    intro a h0 h1
    rw [and_half]
    have hp : 2 ^ (n + 1) = 2 * 2 ^ n := by rw [Nat.pow_succ, Nat.mul_comm]
    simp only [tz]
    by_cases he : a % 2 = 0
    · have hd : (2 ^ (n + 1) - a) / 2 = 2 ^ n - a / 2 := by omega
      rw [if_neg (by omega), if_pos (by omega), hd, ih (a / 2) (by omega) (by omega), Nat.pow_succ]
      have : ((a : Int) / 2) = ((a / 2 : Nat) : Int) := by omega
      rw [this]
      omega
    · have hd : (2 ^ (n + 1) - a) / 2 = 2 ^ n - (a / 2 + 1) := by omega
      rw [if_pos (by omega), if_neg (by omega), hd, and_rest n (a / 2) (by omega)]
/-- The table that tells the place. -/
def tab : List Int := [0, 1, 56, 2, 57, 49, 28, 3, 61, 58, 42, 50, 38, 29, 17, 4, 62, 47, 59, 36, 45, 43, 51, 22, 53, 39, 33, 30, 24, 18, 12, 5, 63, 55, 48, 27, 60, 41, 37, 16, 46, 35, 44, 21, 52, 32, 23, 11, 54, 26, 40, 15, 34, 20, 31, 10, 25, 14, 19, 9, 13, 8, 7, 6]
def tabAt (k : Int) : Int := tab.getD k.toNat 0
/-- The table lies where its variable is. -/
def Laid (w : World) : Prop := ∀ k : Nat, k < 64 → w.cell? ⟨0, k, .none⟩ = some (.int .u8 (tabAt k))
theorem tab_ok : ∀ k : Nat, k < 64 → tabAt (((2 : Int) ^ k * 285870213051353865 % 18446744073709551616) / 288230376151711744) = k := by decide +kernel
theorem tz_lt (n : Nat) : ∀ a : Nat, 0 < a → a < 2 ^ n → tz n a < n := by
  intro a h0 h1
  have h := low_one n a h0 h1
  have l : a &&& (2 ^ n - a) ≤ a := Nat.and_le_left
  rw [h] at l
  exact (Nat.pow_lt_pow_iff_right (by decide)).1 (Nat.lt_of_le_of_lt l h1)
theorem and_neg (x : Int) (h : W64 x) (h0 : x ≠ 0) : bits .and .u64 x (IntKind.u64.wrap (-x)) = 2 ^ tz 64 x := by
  obtain ⟨h1, h2⟩ := h
  obtain ⟨a, rfl⟩ := Int.eq_ofNat_of_zero_le h1
  have e : IntKind.u64.wrap (-(a : Int)) = ((18446744073709551616 - a : Nat) : Int) := by rw [IntKind.wrap_u64]; omega
  rw [e, bits_and_u64_nat a _ (by omega) (by omega)]
  have := low_one 64 a (by omega) (by omega)
  have e2 : (2 : Nat) ^ 64 = 18446744073709551616 := by decide
  rw [e2] at this
  rw [this]
  simp
theorem tail_any (x : Int) (w : World) (h : W64 x) (h0 : x ≠ 0) (hT : Laid w) : Calls Tryd.prog 9 #[.int .u64 x] w fun e w' => e = .returned (.int .i64 (tz 64 x)) ∧ w' = w := by
  have ha := and_neg x h h0
  have hl : tz 64 x < 64 := by
    obtain ⟨a, rfl⟩ := Int.eq_ofNat_of_zero_le h.1
    exact tz_lt 64 a (by omega) (by have := h.2; omega)
  have ht := tab_ok (tz 64 x) hl
  obtain ⟨h1, h2⟩ := h
  unfold Laid at hT
  have hb : ¬ 64 ≤ IntKind.u64.wrap (bits .and .u64 x (IntKind.u64.wrap (-x)) * 285870213051353865) / 288230376151711744 := by rw [IntKind.wrap_u64]; omega
  have hc : 0 ≤ IntKind.u64.wrap (bits .and .u64 x (IntKind.u64.wrap (-x)) * 285870213051353865) / 288230376151711744 := by rw [IntKind.wrap_u64]; omega
  have hv : tabAt (max (IntKind.u64.wrap (bits .and .u64 x (IntKind.u64.wrap (-x)) * 285870213051353865) / 288230376151711744) 0) = tz 64 x := by
    rw [Int.max_eq_left hc, ha, IntKind.wrap_u64]
    exact ht
  have HV : Hid (tabAt (max (IntKind.u64.wrap (bits .and .u64 x (IntKind.u64.wrap (-x)) * 285870213051353865) / 288230376151711744) 0) = tz 64 x) := hv
  clear hv ha ht
  go_enter Tryd.func9, Tryd.ntmps9
  go_wp2
  go_ret
  refine ⟨congrArg (fun x => Ending.returned (.int .i64 x)) ?_, rfl⟩
  show wrap64 (tabAt _) = _
  rw [HV.out]
  unfold wrap64
  omega
end Go.Proofs.YtdkidhipiglbkaaDoor
