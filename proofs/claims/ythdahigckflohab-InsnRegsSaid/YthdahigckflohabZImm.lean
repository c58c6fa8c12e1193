import Derived.Test.YthdahigckflohabZNames
import Derived.Deep.QuietTactic
import Derived.BigQuiet
import Derived.WalkSmall
namespace Go.Proofs.Ythdahigckflohab
open Go.RowKit
set_option linter.unusedVariables false
def pc (x lo wd : Int) : Int := x / 2 ^ lo.toNat % 2 ^ wd.toNat
theorem wraps_u32 (n : Int) (h₀ : 0 ≤ n) (h₁ : n < 2 ^ 32) : IntKind.u32.wrap n = n := by rw [IntKind.wrap_u32]; omega
theorem pc_and (x lo wd : Int) (h0 : 0 ≤ x) (h1 : x < 4294967296) (h4 : 0 < wd) (h5 : wd < 32) :
    bits .and .u32 (x / 2 ^ lo.toNat) ((2 ^ wd.toNat - 1) % 4294967296) = pc x lo wd := by
  have h2 : (0 : Int) ≤ x / 2 ^ lo.toNat := Int.ediv_nonneg h0 (Int.le_of_lt (Int.pow_pos (by decide)))
  have h3 : x / 2 ^ lo.toNat < 2 ^ 32 := Int.lt_of_le_of_lt (Int.ediv_le_self _ h0) h1
  have e : ((2 : Int) ^ wd.toNat - 1) % 4294967296 = 2 ^ wd.toNat - 1 := by
    have p1 : (0 : Int) < 2 ^ wd.toNat := Int.pow_pos (by decide)
    have p2 : (2 : Int) ^ wd.toNat ≤ 2 ^ 31 := by
      exact_mod_cast Nat.pow_le_pow_right (by decide) (show wd.toNat ≤ 31 by omega)
    omega
  rw [e]
  exact bits_mask .u32 32 (by decide) wraps_u32 wd.toNat (by omega) _ h2 h3
theorem piece_any (x lo wd : Int) (w : World) (h0 : 0 ≤ x) (h1 : x < 4294967296) (h2 : 0 ≤ lo) (h3 : lo < 32) (h4 : 0 < wd) (h5 : wd < 32) :
    Calls Try.prog 121 #[.int .u32 x, .int .i64 lo, .int .i64 wd] w fun e w' => e = .returned (.int .u32 (pc x lo wd)) ∧ ∃ n, w' = w.drewN n := by
  rw [← pc_and x lo wd h0 h1 h4 h5]
  go_enter Try.func121, Try.ntmps121
  go_wp2
  go_quiet (fail)
  go_wp2
  go_ret
  exact ⟨rfl, _, rfl⟩
theorem pc_bd (x lo : Int) (wd : Int) : 0 ≤ pc x lo wd ∧ pc x lo wd < 2 ^ wd.toNat :=
  ⟨Int.emod_nonneg _ (Int.ne_of_gt (Int.pow_pos (by decide))), Int.emod_lt_of_pos _ (Int.pow_pos (by decide))⟩
def sg (x lo : Int) : Int := wrap32 x / 2 ^ lo.toNat
theorem wrap64_id (x : Int) (h0 : -9223372036854775808 ≤ x) (h1 : x < 9223372036854775808) : wrap64 x = x := by
  unfold wrap64; omega
theorem wrap32_bd (x : Int) : -2147483648 ≤ wrap32 x ∧ wrap32 x < 2147483648 := by unfold wrap32; omega
theorem sg_bd (x lo : Int) : -2147483648 ≤ sg x lo ∧ sg x lo < 2147483648 := by
  have := wrap32_bd x
  have p : (0 : Int) < 2 ^ lo.toNat := Int.pow_pos (by decide)
  unfold sg
  constructor
  · refine (Int.le_ediv_iff_mul_le p).2 ?_
    have : (-2147483648 : Int) * 2 ^ lo.toNat ≤ -2147483648 * 1 := by omega
    omega
  · refine (Int.ediv_lt_iff_lt_mul p).2 ?_
    have : (2147483648 : Int) * 1 ≤ 2147483648 * 2 ^ lo.toNat := by omega
    omega
theorem field_any (x lo wd : Int) (w : World) (h0 : 0 ≤ x) (h1 : x < 4294967296) (h2 : 0 ≤ lo) (h3 : lo < 32) (h4 : 0 < wd) (h5 : wd < 32) :
    Calls Try.prog 119 #[.int .u32 x, .int .i64 lo, .int .i64 wd] w fun e w' => e = .returned (.int .i64 (pc x lo wd)) ∧ ∃ n, w' = w.drewN n := by
  have b := pc_bd x lo wd
  have p2 : (2 : Int) ^ wd.toNat ≤ 2 ^ 31 := by
    exact_mod_cast Nat.pow_le_pow_right (by decide) (show wd.toNat ≤ 31 by omega)
  have b0 : 0 ≤ pc x lo wd := b.1
  have b1 : pc x lo wd < 4294967296 := by omega
  clear b p2
  go_enter Try.func119, Try.ntmps119
  go_wp2_with (go_at_call 121; refine (piece_any x lo wd _ h0 h1 h2 h3 h4 h5).mono ?_; rintro e w' ⟨rfl, n, rfl⟩)
  go_ret
  exact ⟨rfl, _, rfl⟩
theorem signed_any (x lo : Int) (w : World) (h0 : 0 ≤ x) (h1 : x < 4294967296) (h2 : 0 ≤ lo) (h3 : lo < 32) :
    Calls Try.prog 120 #[.int .u32 x, .int .i64 lo] w fun e w' => e = .returned (.int .i64 (sg x lo)) ∧ w' = w := by
  have b := sg_bd x lo
  have e : wrap64 (wrap32 x / 2 ^ lo.toNat) = sg x lo := wrap64_id (sg x lo) (by omega) (by omega)
  rw [← e]
  clear b e
  go_enter Try.func120, Try.ntmps120
  go_wp2
  go_ret
  exact ⟨rfl, rfl⟩
/-- What a shape's function takes out of a word. -/
def tk (s x : Int) : Int :=
  if s = 2 ∨ s = 5 then sg x 20
  else if s = 3 then pc x 20 6
  else if s = 4 then pc x 20 5
  else if s = 6 then sg x 25 * 32 + pc x 7 5
  else if s = 7 then sg x 31 * 4096 + (pc x 7 1 * 2048 + pc x 25 6 * 32 + pc x 8 4 * 2)
  else if s = 8 then sg x 12 * 4096
  else if s = 9 then sg x 31 * 1048576 + (pc x 12 8 * 4096 + pc x 20 1 * 2048 + pc x 21 10 * 2)
  else if s = 10 then pc x 20 12
  else if s = 14 then pc x 15 5
  else 0
/-- What a shape's function puts into a word. -/
def pt (s y : Int) : Int :=
  let z := y % 4294967296
  if s = 2 ∨ s = 5 ∨ s = 10 then pc z 0 12 * 1048576
  else if s = 3 then pc z 0 6 * 1048576
  else if s = 4 then pc z 0 5 * 1048576
  else if s = 6 then pc z 5 7 * 33554432 + pc z 0 5 * 128
  else if s = 7 then pc z 12 1 * 2147483648 + pc z 5 6 * 33554432 + pc z 1 4 * 256 + pc z 11 1 * 128
  else if s = 8 then pc z 12 20 * 4096
  else if s = 9 then pc z 20 1 * 2147483648 + pc z 1 10 * 2097152 + pc z 11 1 * 1048576 + pc z 12 8 * 4096
  else if s = 14 then pc z 0 5 * 32768
  else 0
theorem join32 (i : Nat) (x y : Int) (hx₀ : 0 ≤ x) (hx : x % 2 ^ i = 0) (hx₁ : x < 4294967296) (hy₀ : 0 ≤ y) (hy : y < 2 ^ i) (hy₁ : y < 4294967296) : bits .or .u32 x y = x + y :=
  bits_join .u32 32 (by decide) wraps_u32 i x y hx₀ hx (by omega) hy₀ hy (by omega)
/-- The other way round: the lower part first. -/
theorem or32_comm (x y : Int) : bits .or .u32 x y = bits .or .u32 y x := by
  simp only [bits]; rw [BitVec.or_comm]
theorem join64 (i : Nat) (hi : i ≤ 63) (x y : Int) (h0 : -9223372036854775808 ≤ x) (h1 : x < 9223372036854775808) (hx : x % 2 ^ i = 0) (hy₀ : 0 ≤ y) (hy : y < 2 ^ i) : bits .or .i64 x y = x + y := by
  obtain ⟨b, rfl⟩ := Int.eq_ofNat_of_zero_le hy₀
  have hb : b < 2 ^ i := by exact_mod_cast hy
  have hb64 : b < 2 ^ 64 := Nat.lt_of_lt_of_le hb (Nat.pow_le_pow_right (by decide) (by omega))
  have ea : (BitVec.ofInt 64 x).toNat = (x % 18446744073709551616).toNat := BitVec.toNat_ofInt ..
  have eb : (BitVec.ofInt 64 (b : Int)).toNat = b := ofInt_u64 b (by omega)
  have hd : ((2 : Int) ^ i) ∣ 18446744073709551616 := by
    refine ⟨2 ^ (64 - i), ?_⟩
    rw [← Int.pow_add, show i + (64 - i) = 64 by omega]; decide
  have hm : (x % 18446744073709551616).toNat % 2 ^ i = 0 := by
    have h2 : x % 18446744073709551616 % 2 ^ i = 0 := by rw [Int.emod_emod_of_dvd x hd]; exact hx
    have h3 : ((x % 18446744073709551616).toNat : Int) = x % 18446744073709551616 := by omega
    have h4 : (((x % 18446744073709551616).toNat % 2 ^ i : Nat) : Int) = 0 := by
      rw [Int.natCast_emod, h3, Int.natCast_pow]; exact h2
    omega
  have hj : (x % 18446744073709551616).toNat ||| b = (x % 18446744073709551616).toNat + b := nat_join i _ _ hm hb
  have e : bits .or .i64 x (b : Int) = IntKind.i64.wrap (((BitVec.ofInt 64 x ||| BitVec.ofInt 64 (b : Int)).toNat : Nat) : Int) := rfl
  have hlt : (b : Int) < 2 ^ i := hy
  have hroom : x + 2 ^ i ≤ 9223372036854775808 := by
    obtain ⟨q, hq⟩ := Int.dvd_of_emod_eq_zero hx
    have hr : (9223372036854775808 : Int) = 2 ^ i * 2 ^ (63 - i) := by
      rw [← Int.pow_add, show i + (63 - i) = 63 by omega]; decide
    have hp : (0 : Int) < 2 ^ i := Int.pow_pos (by decide)
    have hlt2 : q < 2 ^ (63 - i) := by
      rw [hq, hr] at h1
      exact Int.lt_of_mul_lt_mul_left h1 (Int.le_of_lt hp)
    have h5 : (2 : Int) ^ i * (q + 1) ≤ 2 ^ i * 2 ^ (63 - i) := Int.mul_le_mul_of_nonneg_left (by omega) (Int.le_of_lt hp)
    rw [Int.mul_add, Int.mul_one, ← hq, ← hr] at h5
    exact h5
  rw [e, BitVec.toNat_or, ea, eb, hj, IntKind.wrap_i64]
  clear e hj ea eb hm hd hx hy
  generalize (2 : Int) ^ i = p at *
  omega
theorem take47 (x : Int) (w : World) (h0 : 0 ≤ x) (h1 : x < 4294967296) :
    Calls Try.prog 102 #[.int .u32 x] w fun e w' => e = .returned (.int .i64 (sg x 20)) ∧ ∃ n, w' = w.drewN n := by
  have b9 := (sg_bd x 20).1
  have c9 := (sg_bd x 20).2
  go_enter Try.func102, Try.ntmps102
  go_wp2_with (first
    | (go_at_call 121; refine (piece_any _ _ _ _ h0 h1 (by decide) (by decide) (by decide) (by decide)).mono ?_; rintro e w' ⟨rfl, n, rfl⟩)
    | (go_at_call 120; refine (signed_any _ _ _ h0 h1 (by decide) (by decide)).mono ?_; rintro e w' ⟨rfl, rfl⟩))
  go_ret
  exact ⟨rfl, by first | exact ⟨_, rfl⟩ | exact ⟨0, rfl⟩⟩
theorem take49 (x : Int) (w : World) (h0 : 0 ≤ x) (h1 : x < 4294967296) :
    Calls Try.prog 104 #[.int .u32 x] w fun e w' => e = .returned (.int .i64 (pc x 20 6)) ∧ ∃ n, w' = w.drewN n := by
  have b0 : 0 ≤ pc x 20 6 := (pc_bd x 20 6).1
  have c0 : pc x 20 6 < 64 := (pc_bd x 20 6).2
  go_enter Try.func104, Try.ntmps104
  go_wp2_with (first
    | (go_at_call 121; refine (piece_any _ _ _ _ h0 h1 (by decide) (by decide) (by decide) (by decide)).mono ?_; rintro e w' ⟨rfl, n, rfl⟩)
    | (go_at_call 120; refine (signed_any _ _ _ h0 h1 (by decide) (by decide)).mono ?_; rintro e w' ⟨rfl, rfl⟩))
  go_ret
  exact ⟨rfl, by first | exact ⟨_, rfl⟩ | exact ⟨0, rfl⟩⟩
theorem take51 (x : Int) (w : World) (h0 : 0 ≤ x) (h1 : x < 4294967296) :
    Calls Try.prog 106 #[.int .u32 x] w fun e w' => e = .returned (.int .i64 (pc x 20 5)) ∧ ∃ n, w' = w.drewN n := by
  have b0 : 0 ≤ pc x 20 5 := (pc_bd x 20 5).1
  have c0 : pc x 20 5 < 32 := (pc_bd x 20 5).2
  go_enter Try.func106, Try.ntmps106
  go_wp2_with (first
    | (go_at_call 121; refine (piece_any _ _ _ _ h0 h1 (by decide) (by decide) (by decide) (by decide)).mono ?_; rintro e w' ⟨rfl, n, rfl⟩)
    | (go_at_call 120; refine (signed_any _ _ _ h0 h1 (by decide) (by decide)).mono ?_; rintro e w' ⟨rfl, rfl⟩))
  go_ret
  exact ⟨rfl, by first | exact ⟨_, rfl⟩ | exact ⟨0, rfl⟩⟩
theorem take53 (x : Int) (w : World) (h0 : 0 ≤ x) (h1 : x < 4294967296) :
    Calls Try.prog 108 #[.int .u32 x] w fun e w' => e = .returned (.int .i64 (sg x 25 * 32 + pc x 7 5)) ∧ ∃ n, w' = w.drewN n := by
  have b0 : 0 ≤ pc x 7 5 := (pc_bd x 7 5).1
  have c0 : pc x 7 5 < 32 := (pc_bd x 7 5).2
  have b9 := (sg_bd x 25).1
  have c9 := (sg_bd x 25).2
  rw [← join64 5 (by decide) (sg x 25 * 32) (pc x 7 5) (by omega) (by omega) (by omega) b0 c0]
  go_enter Try.func108, Try.ntmps108
  go_wp2_with (first
    | (go_at_call 121; refine (piece_any _ _ _ _ h0 h1 (by decide) (by decide) (by decide) (by decide)).mono ?_; rintro e w' ⟨rfl, n, rfl⟩)
    | (go_at_call 120; refine (signed_any _ _ _ h0 h1 (by decide) (by decide)).mono ?_; rintro e w' ⟨rfl, rfl⟩))
  go_ret
  exact ⟨rfl, by first | exact ⟨_, rfl⟩ | exact ⟨0, rfl⟩⟩
theorem take55 (x : Int) (w : World) (h0 : 0 ≤ x) (h1 : x < 4294967296) :
    Calls Try.prog 110 #[.int .u32 x] w fun e w' => e = .returned (.int .i64 (sg x 31 * 4096 + (pc x 7 1 * 2048 + pc x 25 6 * 32 + pc x 8 4 * 2))) ∧ ∃ n, w' = w.drewN n := by
  have b0 : 0 ≤ pc x 7 1 := (pc_bd x 7 1).1
  have c0 : pc x 7 1 < 2 := (pc_bd x 7 1).2
  have b1 : 0 ≤ pc x 25 6 := (pc_bd x 25 6).1
  have c1 : pc x 25 6 < 64 := (pc_bd x 25 6).2
  have b2 : 0 ≤ pc x 8 4 := (pc_bd x 8 4).1
  have c2 : pc x 8 4 < 16 := (pc_bd x 8 4).2
  have b9 := (sg_bd x 31).1
  have c9 := (sg_bd x 31).2
  rw [← join64 12 (by decide) (sg x 31 * 4096) (pc x 7 1 * 2048 + pc x 25 6 * 32 + pc x 8 4 * 2) (by omega) (by omega) (by omega) (by omega) (by omega),
    ← wrap64_id (pc x 7 1 * 2048 + pc x 25 6 * 32 + pc x 8 4 * 2) (by omega) (by omega),
    ← join32 5 (pc x 7 1 * 2048 + pc x 25 6 * 32) (pc x 8 4 * 2) (by omega) (by omega) (by omega) (by omega) (by omega) (by omega),
    ← join32 11 (pc x 7 1 * 2048) (pc x 25 6 * 32) (by omega) (by omega) (by omega) (by omega) (by omega) (by omega)]
  go_enter Try.func110, Try.ntmps110
  go_wp2_with (first
    | (go_at_call 121; refine (piece_any _ _ _ _ h0 h1 (by decide) (by decide) (by decide) (by decide)).mono ?_; rintro e w' ⟨rfl, n, rfl⟩)
    | (go_at_call 120; refine (signed_any _ _ _ h0 h1 (by decide) (by decide)).mono ?_; rintro e w' ⟨rfl, rfl⟩))
  go_ret
  exact ⟨rfl, by first | exact ⟨_, rfl⟩ | exact ⟨0, rfl⟩⟩
theorem take57 (x : Int) (w : World) (h0 : 0 ≤ x) (h1 : x < 4294967296) :
    Calls Try.prog 112 #[.int .u32 x] w fun e w' => e = .returned (.int .i64 (sg x 12 * 4096)) ∧ ∃ n, w' = w.drewN n := by
  have b9 := (sg_bd x 12).1
  have c9 := (sg_bd x 12).2
  go_enter Try.func112, Try.ntmps112
  go_wp2_with (first
    | (go_at_call 121; refine (piece_any _ _ _ _ h0 h1 (by decide) (by decide) (by decide) (by decide)).mono ?_; rintro e w' ⟨rfl, n, rfl⟩)
    | (go_at_call 120; refine (signed_any _ _ _ h0 h1 (by decide) (by decide)).mono ?_; rintro e w' ⟨rfl, rfl⟩))
  go_ret
  exact ⟨rfl, by first | exact ⟨_, rfl⟩ | exact ⟨0, rfl⟩⟩
theorem take59 (x : Int) (w : World) (h0 : 0 ≤ x) (h1 : x < 4294967296) :
    Calls Try.prog 114 #[.int .u32 x] w fun e w' => e = .returned (.int .i64 (sg x 31 * 1048576 + (pc x 12 8 * 4096 + pc x 20 1 * 2048 + pc x 21 10 * 2))) ∧ ∃ n, w' = w.drewN n := by
  have b0 : 0 ≤ pc x 12 8 := (pc_bd x 12 8).1
  have c0 : pc x 12 8 < 256 := (pc_bd x 12 8).2
  have b1 : 0 ≤ pc x 20 1 := (pc_bd x 20 1).1
  have c1 : pc x 20 1 < 2 := (pc_bd x 20 1).2
  have b2 : 0 ≤ pc x 21 10 := (pc_bd x 21 10).1
  have c2 : pc x 21 10 < 1024 := (pc_bd x 21 10).2
  have b9 := (sg_bd x 31).1
  have c9 := (sg_bd x 31).2
  rw [← join64 20 (by decide) (sg x 31 * 1048576) (pc x 12 8 * 4096 + pc x 20 1 * 2048 + pc x 21 10 * 2) (by omega) (by omega) (by omega) (by omega) (by omega),
    ← wrap64_id (pc x 12 8 * 4096 + pc x 20 1 * 2048 + pc x 21 10 * 2) (by omega) (by omega),
    ← join32 11 (pc x 12 8 * 4096 + pc x 20 1 * 2048) (pc x 21 10 * 2) (by omega) (by omega) (by omega) (by omega) (by omega) (by omega),
    ← join32 12 (pc x 12 8 * 4096) (pc x 20 1 * 2048) (by omega) (by omega) (by omega) (by omega) (by omega) (by omega)]
  go_enter Try.func114, Try.ntmps114
  go_wp2_with (first
    | (go_at_call 121; refine (piece_any _ _ _ _ h0 h1 (by decide) (by decide) (by decide) (by decide)).mono ?_; rintro e w' ⟨rfl, n, rfl⟩)
    | (go_at_call 120; refine (signed_any _ _ _ h0 h1 (by decide) (by decide)).mono ?_; rintro e w' ⟨rfl, rfl⟩))
  go_ret
  exact ⟨rfl, by first | exact ⟨_, rfl⟩ | exact ⟨0, rfl⟩⟩
theorem take61 (x : Int) (w : World) (h0 : 0 ≤ x) (h1 : x < 4294967296) :
    Calls Try.prog 116 #[.int .u32 x] w fun e w' => e = .returned (.int .i64 (pc x 20 12)) ∧ ∃ n, w' = w.drewN n := by
  have b0 : 0 ≤ pc x 20 12 := (pc_bd x 20 12).1
  have c0 : pc x 20 12 < 4096 := (pc_bd x 20 12).2
  go_enter Try.func116, Try.ntmps116
  go_wp2_with (first
    | (go_at_call 121; refine (piece_any _ _ _ _ h0 h1 (by decide) (by decide) (by decide) (by decide)).mono ?_; rintro e w' ⟨rfl, n, rfl⟩)
    | (go_at_call 120; refine (signed_any _ _ _ h0 h1 (by decide) (by decide)).mono ?_; rintro e w' ⟨rfl, rfl⟩))
  go_ret
  exact ⟨rfl, by first | exact ⟨_, rfl⟩ | exact ⟨0, rfl⟩⟩
theorem take62 (x : Int) (w : World) (h0 : 0 ≤ x) (h1 : x < 4294967296) :
    Calls Try.prog 117 #[.int .u32 x] w fun e w' => e = .returned (.int .i64 (pc x 15 5)) ∧ ∃ n, w' = w.drewN n := by
  have b0 : 0 ≤ pc x 15 5 := (pc_bd x 15 5).1
  have c0 : pc x 15 5 < 32 := (pc_bd x 15 5).2
  go_enter Try.func117, Try.ntmps117
  go_wp2_with (first
    | (go_at_call 121; refine (piece_any _ _ _ _ h0 h1 (by decide) (by decide) (by decide) (by decide)).mono ?_; rintro e w' ⟨rfl, n, rfl⟩)
    | (go_at_call 120; refine (signed_any _ _ _ h0 h1 (by decide) (by decide)).mono ?_; rintro e w' ⟨rfl, rfl⟩))
  go_ret
  exact ⟨rfl, by first | exact ⟨_, rfl⟩ | exact ⟨0, rfl⟩⟩
theorem take45 (x : Int) (w : World) (h0 : 0 ≤ x) (h1 : x < 4294967296) :
    Calls Try.prog 100 #[.int .u32 x] w fun e w' => e = .returned (.int .i64 (0)) ∧ ∃ n, w' = w.drewN n := by
  go_enter Try.func100, Try.ntmps100
  go_wp2_with (first
    | (go_at_call 121; refine (piece_any _ _ _ _ h0 h1 (by decide) (by decide) (by decide) (by decide)).mono ?_; rintro e w' ⟨rfl, n, rfl⟩)
    | (go_at_call 120; refine (signed_any _ _ _ h0 h1 (by decide) (by decide)).mono ?_; rintro e w' ⟨rfl, rfl⟩))
  go_ret
  exact ⟨rfl, by first | exact ⟨_, rfl⟩ | exact ⟨0, rfl⟩⟩
theorem put48 (y : Int) (w : World) :
    Calls Try.prog 103 #[.int .i64 y] w fun e w' => e = .returned (.int .u32 (pc (y % 4294967296) 0 12 * 1048576)) ∧ ∃ n, w' = w.drewN n := by
  have h0 : 0 ≤ y % 4294967296 := by omega
  have h1 : y % 4294967296 < 4294967296 := by omega
  have b0 : 0 ≤ pc (y % 4294967296) 0 12 := (pc_bd _ 0 12).1
  have c0 : pc (y % 4294967296) 0 12 < 4096 := (pc_bd _ 0 12).2
  go_enter Try.func103, Try.ntmps103
  go_wp2_with (go_at_call 121; refine (piece_any _ _ _ _ h0 h1 (by decide) (by decide) (by decide) (by decide)).mono ?_; rintro e w' ⟨rfl, n, rfl⟩)
  go_ret
  exact ⟨rfl, by first | exact ⟨_, rfl⟩ | exact ⟨0, rfl⟩⟩
theorem put50 (y : Int) (w : World) :
    Calls Try.prog 105 #[.int .i64 y] w fun e w' => e = .returned (.int .u32 (pc (y % 4294967296) 0 6 * 1048576)) ∧ ∃ n, w' = w.drewN n := by
  have h0 : 0 ≤ y % 4294967296 := by omega
  have h1 : y % 4294967296 < 4294967296 := by omega
  have b0 : 0 ≤ pc (y % 4294967296) 0 6 := (pc_bd _ 0 6).1
  have c0 : pc (y % 4294967296) 0 6 < 64 := (pc_bd _ 0 6).2
  go_enter Try.func105, Try.ntmps105
  go_wp2_with (go_at_call 121; refine (piece_any _ _ _ _ h0 h1 (by decide) (by decide) (by decide) (by decide)).mono ?_; rintro e w' ⟨rfl, n, rfl⟩)
  go_ret
  exact ⟨rfl, by first | exact ⟨_, rfl⟩ | exact ⟨0, rfl⟩⟩
theorem put52 (y : Int) (w : World) :
    Calls Try.prog 107 #[.int .i64 y] w fun e w' => e = .returned (.int .u32 (pc (y % 4294967296) 0 5 * 1048576)) ∧ ∃ n, w' = w.drewN n := by
  have h0 : 0 ≤ y % 4294967296 := by omega
  have h1 : y % 4294967296 < 4294967296 := by omega
  have b0 : 0 ≤ pc (y % 4294967296) 0 5 := (pc_bd _ 0 5).1
  have c0 : pc (y % 4294967296) 0 5 < 32 := (pc_bd _ 0 5).2
  go_enter Try.func107, Try.ntmps107
  go_wp2_with (go_at_call 121; refine (piece_any _ _ _ _ h0 h1 (by decide) (by decide) (by decide) (by decide)).mono ?_; rintro e w' ⟨rfl, n, rfl⟩)
  go_ret
  exact ⟨rfl, by first | exact ⟨_, rfl⟩ | exact ⟨0, rfl⟩⟩
theorem put54 (y : Int) (w : World) :
    Calls Try.prog 109 #[.int .i64 y] w fun e w' => e = .returned (.int .u32 (pc (y % 4294967296) 5 7 * 33554432 + pc (y % 4294967296) 0 5 * 128)) ∧ ∃ n, w' = w.drewN n := by
  have h0 : 0 ≤ y % 4294967296 := by omega
  have h1 : y % 4294967296 < 4294967296 := by omega
  have b0 : 0 ≤ pc (y % 4294967296) 5 7 := (pc_bd _ 5 7).1
  have c0 : pc (y % 4294967296) 5 7 < 128 := (pc_bd _ 5 7).2
  have b1 : 0 ≤ pc (y % 4294967296) 0 5 := (pc_bd _ 0 5).1
  have c1 : pc (y % 4294967296) 0 5 < 32 := (pc_bd _ 0 5).2
  rw [← join32 12 (pc (y % 4294967296) 5 7 * 33554432) (pc (y % 4294967296) 0 5 * 128) (by omega) (by omega) (by omega) (by omega) (by omega) (by omega)]
  go_enter Try.func109, Try.ntmps109
  go_wp2_with (go_at_call 121; refine (piece_any _ _ _ _ h0 h1 (by decide) (by decide) (by decide) (by decide)).mono ?_; rintro e w' ⟨rfl, n, rfl⟩)
  go_ret
  exact ⟨rfl, by first | exact ⟨_, rfl⟩ | exact ⟨0, rfl⟩⟩
theorem put56 (y : Int) (w : World) :
    Calls Try.prog 111 #[.int .i64 y] w fun e w' => e = .returned (.int .u32 (pc (y % 4294967296) 12 1 * 2147483648 + pc (y % 4294967296) 5 6 * 33554432 + pc (y % 4294967296) 1 4 * 256 + pc (y % 4294967296) 11 1 * 128)) ∧ ∃ n, w' = w.drewN n := by
  have h0 : 0 ≤ y % 4294967296 := by omega
  have h1 : y % 4294967296 < 4294967296 := by omega
  have b0 : 0 ≤ pc (y % 4294967296) 12 1 := (pc_bd _ 12 1).1
  have c0 : pc (y % 4294967296) 12 1 < 2 := (pc_bd _ 12 1).2
  have b1 : 0 ≤ pc (y % 4294967296) 5 6 := (pc_bd _ 5 6).1
  have c1 : pc (y % 4294967296) 5 6 < 64 := (pc_bd _ 5 6).2
  have b2 : 0 ≤ pc (y % 4294967296) 1 4 := (pc_bd _ 1 4).1
  have c2 : pc (y % 4294967296) 1 4 < 16 := (pc_bd _ 1 4).2
  have b3 : 0 ≤ pc (y % 4294967296) 11 1 := (pc_bd _ 11 1).1
  have c3 : pc (y % 4294967296) 11 1 < 2 := (pc_bd _ 11 1).2
  rw [← join32 8 (pc (y % 4294967296) 12 1 * 2147483648 + pc (y % 4294967296) 5 6 * 33554432 + pc (y % 4294967296) 1 4 * 256) (pc (y % 4294967296) 11 1 * 128) (by omega) (by omega) (by omega) (by omega) (by omega) (by omega), ← join32 12 (pc (y % 4294967296) 12 1 * 2147483648 + pc (y % 4294967296) 5 6 * 33554432) (pc (y % 4294967296) 1 4 * 256) (by omega) (by omega) (by omega) (by omega) (by omega) (by omega), ← join32 31 (pc (y % 4294967296) 12 1 * 2147483648) (pc (y % 4294967296) 5 6 * 33554432) (by omega) (by omega) (by omega) (by omega) (by omega) (by omega)]
  go_enter Try.func111, Try.ntmps111
  go_wp2_with (go_at_call 121; refine (piece_any _ _ _ _ h0 h1 (by decide) (by decide) (by decide) (by decide)).mono ?_; rintro e w' ⟨rfl, n, rfl⟩)
  go_ret
  exact ⟨rfl, by first | exact ⟨_, rfl⟩ | exact ⟨0, rfl⟩⟩
theorem put58 (y : Int) (w : World) :
    Calls Try.prog 113 #[.int .i64 y] w fun e w' => e = .returned (.int .u32 (pc (y % 4294967296) 12 20 * 4096)) ∧ ∃ n, w' = w.drewN n := by
  have h0 : 0 ≤ y % 4294967296 := by omega
  have h1 : y % 4294967296 < 4294967296 := by omega
  have b0 : 0 ≤ pc (y % 4294967296) 12 20 := (pc_bd _ 12 20).1
  have c0 : pc (y % 4294967296) 12 20 < 1048576 := (pc_bd _ 12 20).2
  go_enter Try.func113, Try.ntmps113
  go_wp2_with (go_at_call 121; refine (piece_any _ _ _ _ h0 h1 (by decide) (by decide) (by decide) (by decide)).mono ?_; rintro e w' ⟨rfl, n, rfl⟩)
  go_ret
  exact ⟨rfl, by first | exact ⟨_, rfl⟩ | exact ⟨0, rfl⟩⟩
theorem put60 (y : Int) (w : World) :
    Calls Try.prog 115 #[.int .i64 y] w fun e w' => e = .returned (.int .u32 (pc (y % 4294967296) 20 1 * 2147483648 + pc (y % 4294967296) 1 10 * 2097152 + pc (y % 4294967296) 11 1 * 1048576 + pc (y % 4294967296) 12 8 * 4096)) ∧ ∃ n, w' = w.drewN n := by
  have h0 : 0 ≤ y % 4294967296 := by omega
  have h1 : y % 4294967296 < 4294967296 := by omega
  have b0 : 0 ≤ pc (y % 4294967296) 20 1 := (pc_bd _ 20 1).1
  have c0 : pc (y % 4294967296) 20 1 < 2 := (pc_bd _ 20 1).2
  have b1 : 0 ≤ pc (y % 4294967296) 1 10 := (pc_bd _ 1 10).1
  have c1 : pc (y % 4294967296) 1 10 < 1024 := (pc_bd _ 1 10).2
  have b2 : 0 ≤ pc (y % 4294967296) 11 1 := (pc_bd _ 11 1).1
  have c2 : pc (y % 4294967296) 11 1 < 2 := (pc_bd _ 11 1).2
  have b3 : 0 ≤ pc (y % 4294967296) 12 8 := (pc_bd _ 12 8).1
  have c3 : pc (y % 4294967296) 12 8 < 256 := (pc_bd _ 12 8).2
  rw [← join32 20 (pc (y % 4294967296) 20 1 * 2147483648 + pc (y % 4294967296) 1 10 * 2097152 + pc (y % 4294967296) 11 1 * 1048576) (pc (y % 4294967296) 12 8 * 4096) (by omega) (by omega) (by omega) (by omega) (by omega) (by omega), ← join32 21 (pc (y % 4294967296) 20 1 * 2147483648 + pc (y % 4294967296) 1 10 * 2097152) (pc (y % 4294967296) 11 1 * 1048576) (by omega) (by omega) (by omega) (by omega) (by omega) (by omega), ← join32 31 (pc (y % 4294967296) 20 1 * 2147483648) (pc (y % 4294967296) 1 10 * 2097152) (by omega) (by omega) (by omega) (by omega) (by omega) (by omega)]
  go_enter Try.func115, Try.ntmps115
  go_wp2_with (go_at_call 121; refine (piece_any _ _ _ _ h0 h1 (by decide) (by decide) (by decide) (by decide)).mono ?_; rintro e w' ⟨rfl, n, rfl⟩)
  go_ret
  exact ⟨rfl, by first | exact ⟨_, rfl⟩ | exact ⟨0, rfl⟩⟩
theorem put63 (y : Int) (w : World) :
    Calls Try.prog 118 #[.int .i64 y] w fun e w' => e = .returned (.int .u32 (pc (y % 4294967296) 0 5 * 32768)) ∧ ∃ n, w' = w.drewN n := by
  have h0 : 0 ≤ y % 4294967296 := by omega
  have h1 : y % 4294967296 < 4294967296 := by omega
  have b0 : 0 ≤ pc (y % 4294967296) 0 5 := (pc_bd _ 0 5).1
  have c0 : pc (y % 4294967296) 0 5 < 32 := (pc_bd _ 0 5).2
  go_enter Try.func118, Try.ntmps118
  go_wp2_with (go_at_call 121; refine (piece_any _ _ _ _ h0 h1 (by decide) (by decide) (by decide) (by decide)).mono ?_; rintro e w' ⟨rfl, n, rfl⟩)
  go_ret
  exact ⟨rfl, by first | exact ⟨_, rfl⟩ | exact ⟨0, rfl⟩⟩
theorem put46 (y : Int) (w : World) :
    Calls Try.prog 101 #[.int .i64 y] w fun e w' => e = .returned (.int .u32 (0)) ∧ ∃ n, w' = w.drewN n := by
  have h0 : 0 ≤ y % 4294967296 := by omega
  have h1 : y % 4294967296 < 4294967296 := by omega
  go_enter Try.func101, Try.ntmps101
  go_wp2_with (go_at_call 121; refine (piece_any _ _ _ _ h0 h1 (by decide) (by decide) (by decide) (by decide)).mono ?_; rintro e w' ⟨rfl, n, rfl⟩)
  go_ret
  exact ⟨rfl, by first | exact ⟨_, rfl⟩ | exact ⟨0, rfl⟩⟩
end Go.Proofs.Ythdahigckflohab
