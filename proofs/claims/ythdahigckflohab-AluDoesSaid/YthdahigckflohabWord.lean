import Derived.Test.YthdahigckflohabRows
import Derived.WalkKit
import Derived.WalkSpells
import Derived.RowKit3
import Derived.Deep.QuietTactic
import Derived.BigQuiet
import Derived.WalkSmall
import Derived.Below
namespace Go.Proofs.Ythdahigckflohab
open Go.RowKit
set_option linter.unusedVariables false
set_option linter.unusedSimpArgs false
/-- The low places of a word, up to m, as they are signed, as a word. -/
def wid (m x : Int) : Int := ((x + m / 2) % m - m / 2) % 18446744073709551616
def W64 (x : Int) : Prop := 0 ≤ x ∧ x < 18446744073709551616
theorem wid_bd (m x : Int) : W64 (wid m x) := ⟨Int.emod_nonneg _ (by decide), Int.emod_lt_of_pos _ (by decide)⟩
theorem mod_bd (x : Int) : W64 (x % 18446744073709551616) := ⟨Int.emod_nonneg _ (by decide), Int.emod_lt_of_pos _ (by decide)⟩
theorem wu (x : Int) : IntKind.u64.wrap x = x % 18446744073709551616 := by rw [IntKind.wrap_u64]
theorem widen8 (x : Int) (w : World) (h : W64 x) :
    Calls Try.prog 79 #[.int .u64 x, .int .i64 8] w fun e w' => e = .returned (.int .u64 (wid 256 x)) ∧ w' = w := by
  obtain ⟨h0, h1⟩ := h
  have k : wid 256 x = IntKind.u64.wrap (wrap64 (IntKind.u64.wrap (x * 72057594037927936)) / 72057594037927936) := by
    simp only [wu]; unfold wrap64 wid; omega
  rw [k]
  go_enter Try.func79, Try.ntmps79
  go_wp2
  go_ret
  exact ⟨by simp, rfl⟩
theorem widen16 (x : Int) (w : World) (h : W64 x) :
    Calls Try.prog 79 #[.int .u64 x, .int .i64 16] w fun e w' => e = .returned (.int .u64 (wid 65536 x)) ∧ w' = w := by
  obtain ⟨h0, h1⟩ := h
  have k : wid 65536 x = IntKind.u64.wrap (wrap64 (IntKind.u64.wrap (x * 281474976710656)) / 281474976710656) := by
    simp only [wu]; unfold wrap64 wid; omega
  rw [k]
  go_enter Try.func79, Try.ntmps79
  go_wp2
  go_ret
  exact ⟨by simp, rfl⟩
theorem widen32 (x : Int) (w : World) (h : W64 x) :
    Calls Try.prog 79 #[.int .u64 x, .int .i64 32] w fun e w' => e = .returned (.int .u64 (wid 4294967296 x)) ∧ w' = w := by
  obtain ⟨h0, h1⟩ := h
  have k : wid 4294967296 x = IntKind.u64.wrap (wrap64 (IntKind.u64.wrap (x * 4294967296)) / 4294967296) := by
    simp only [wu]; unfold wrap64 wid; omega
  rw [k]
  go_enter Try.func79, Try.ntmps79
  go_wp2
  go_ret
  exact ⟨by simp, rfl⟩
theorem widen64 (x : Int) (w : World) (h : W64 x) :
    Calls Try.prog 79 #[.int .u64 x, .int .i64 64] w fun e w' => e = .returned (.int .u64 (wid 18446744073709551616 x)) ∧ w' = w := by
  obtain ⟨h0, h1⟩ := h
  have k : wid 18446744073709551616 x = IntKind.u64.wrap (wrap64 x) := by
    simp only [wu]; unfold wrap64 wid; omega
  rw [k]
  go_enter Try.func79, Try.ntmps79
  go_wp2
  go_ret
  exact ⟨by simp, rfl⟩
theorem cut5 (x : Int) (w : World) (h : W64 x) :
    Calls Try.prog 76 #[.int .u64 x, .int .i64 5] w fun e w' => e = .returned (.int .u64 (x % 32)) ∧ w' = w := by
  obtain ⟨h0, h1⟩ := h
  have k : x % 32 = IntKind.u64.wrap (x * 576460752303423488) / 576460752303423488 := by
    first | (simp only [wu]; omega) | omega
  rw [k]
  go_enter Try.func76, Try.ntmps76
  go_wp2
  go_ret
  exact ⟨by simp, rfl⟩
theorem cut6 (x : Int) (w : World) (h : W64 x) :
    Calls Try.prog 76 #[.int .u64 x, .int .i64 6] w fun e w' => e = .returned (.int .u64 (x % 64)) ∧ w' = w := by
  obtain ⟨h0, h1⟩ := h
  have k : x % 64 = IntKind.u64.wrap (x * 288230376151711744) / 288230376151711744 := by
    first | (simp only [wu]; omega) | omega
  rw [k]
  go_enter Try.func76, Try.ntmps76
  go_wp2
  go_ret
  exact ⟨by simp, rfl⟩
theorem cut8 (x : Int) (w : World) (h : W64 x) :
    Calls Try.prog 76 #[.int .u64 x, .int .i64 8] w fun e w' => e = .returned (.int .u64 (x % 256)) ∧ w' = w := by
  obtain ⟨h0, h1⟩ := h
  have k : x % 256 = IntKind.u64.wrap (x * 72057594037927936) / 72057594037927936 := by
    first | (simp only [wu]; omega) | omega
  rw [k]
  go_enter Try.func76, Try.ntmps76
  go_wp2
  go_ret
  exact ⟨by simp, rfl⟩
theorem cut16 (x : Int) (w : World) (h : W64 x) :
    Calls Try.prog 76 #[.int .u64 x, .int .i64 16] w fun e w' => e = .returned (.int .u64 (x % 65536)) ∧ w' = w := by
  obtain ⟨h0, h1⟩ := h
  have k : x % 65536 = IntKind.u64.wrap (x * 281474976710656) / 281474976710656 := by
    first | (simp only [wu]; omega) | omega
  rw [k]
  go_enter Try.func76, Try.ntmps76
  go_wp2
  go_ret
  exact ⟨by simp, rfl⟩
theorem cut32 (x : Int) (w : World) (h : W64 x) :
    Calls Try.prog 76 #[.int .u64 x, .int .i64 32] w fun e w' => e = .returned (.int .u64 (x % 4294967296)) ∧ w' = w := by
  obtain ⟨h0, h1⟩ := h
  have k : x % 4294967296 = IntKind.u64.wrap (x * 4294967296) / 4294967296 := by
    first | (simp only [wu]; omega) | omega
  rw [k]
  go_enter Try.func76, Try.ntmps76
  go_wp2
  go_ret
  exact ⟨by simp, rfl⟩
theorem cut64 (x : Int) (w : World) (h : W64 x) :
    Calls Try.prog 76 #[.int .u64 x, .int .i64 64] w fun e w' => e = .returned (.int .u64 (x % 18446744073709551616)) ∧ w' = w := by
  obtain ⟨h0, h1⟩ := h
  have k : x % 18446744073709551616 = x := by
    first | (simp only [wu]; omega) | omega
  rw [k]
  go_enter Try.func76, Try.ntmps76
  go_wp2
  go_ret
  exact ⟨by simp, rfl⟩
theorem add_any (a b : Int) (w : World) (ha : W64 a) (hb : W64 b) :
    Calls Try.prog 40 #[.int .u64 a, .int .u64 b] w fun e w' => e = .returned (.int .u64 ((a + b) % 18446744073709551616)) ∧ w' = w := by
  obtain ⟨h0, h1⟩ := ha
  obtain ⟨h2, h3⟩ := hb
  go_enter Try.func40, Try.ntmps40
  go_wp2
  go_ret
  exact ⟨by simp [wu], rfl⟩
theorem sub_any (a b : Int) (w : World) (ha : W64 a) (hb : W64 b) :
    Calls Try.prog 41 #[.int .u64 a, .int .u64 b] w fun e w' => e = .returned (.int .u64 ((a - b) % 18446744073709551616)) ∧ w' = w := by
  obtain ⟨h0, h1⟩ := ha
  obtain ⟨h2, h3⟩ := hb
  go_enter Try.func41, Try.ntmps41
  go_wp2
  go_ret
  exact ⟨by simp [wu], rfl⟩
theorem xor_any (a b : Int) (w : World) (ha : W64 a) (hb : W64 b) :
    Calls Try.prog 45 #[.int .u64 a, .int .u64 b] w fun e w' => e = .returned (.int .u64 (bits .xor .u64 a b)) ∧ w' = w := by
  obtain ⟨h0, h1⟩ := ha
  obtain ⟨h2, h3⟩ := hb
  go_enter Try.func45, Try.ntmps45
  go_wp2
  go_ret
  exact ⟨by simp [wu], rfl⟩
theorem or_any (a b : Int) (w : World) (ha : W64 a) (hb : W64 b) :
    Calls Try.prog 48 #[.int .u64 a, .int .u64 b] w fun e w' => e = .returned (.int .u64 (bits .or .u64 a b)) ∧ w' = w := by
  obtain ⟨h0, h1⟩ := ha
  obtain ⟨h2, h3⟩ := hb
  go_enter Try.func48, Try.ntmps48
  go_wp2
  go_ret
  exact ⟨by simp [wu], rfl⟩
theorem and_any (a b : Int) (w : World) (ha : W64 a) (hb : W64 b) :
    Calls Try.prog 49 #[.int .u64 a, .int .u64 b] w fun e w' => e = .returned (.int .u64 (bits .and .u64 a b)) ∧ w' = w := by
  obtain ⟨h0, h1⟩ := ha
  obtain ⟨h2, h3⟩ := hb
  go_enter Try.func49, Try.ntmps49
  go_wp2
  go_ret
  exact ⟨by simp [wu], rfl⟩
theorem mul_any (a b : Int) (w : World) (ha : W64 a) (hb : W64 b) :
    Calls Try.prog 50 #[.int .u64 a, .int .u64 b] w fun e w' => e = .returned (.int .u64 (a * b % 18446744073709551616)) ∧ w' = w := by
  obtain ⟨h0, h1⟩ := ha
  obtain ⟨h2, h3⟩ := hb
  go_enter Try.func50, Try.ntmps50
  go_wp2
  go_ret
  exact ⟨by simp [wu], rfl⟩
theorem sll_any (a b : Int) (w : World) (ha : W64 a) (hb : W64 b) :
    Calls Try.prog 42 #[.int .u64 a, .int .u64 b] w fun e w' => e = .returned (.int .u64 (a * 2 ^ (b % 64).toNat % 18446744073709551616)) ∧ w' = w := by
  have c := cut6 b w hb
  obtain ⟨h0, h1⟩ := ha
  have k : 0 ≤ b % 64 ∧ b % 64 < 64 := by omega
  obtain ⟨k0, k1⟩ := k
  generalize b % 64 = n at *
  go_enter Try.func42, Try.ntmps42
  go_wp2_with fail
  refine c.mono ?_
  rintro e w' ⟨rfl, rfl⟩
  clear c
  go_wp2
  go_ret
  exact ⟨by simp [wu], rfl⟩
theorem srl_any (a b : Int) (w : World) (ha : W64 a) (hb : W64 b) :
    Calls Try.prog 46 #[.int .u64 a, .int .u64 b] w fun e w' => e = .returned (.int .u64 (a / 2 ^ (b % 64).toNat)) ∧ w' = w := by
  have c := cut6 b w hb
  obtain ⟨h0, h1⟩ := ha
  have k : 0 ≤ b % 64 ∧ b % 64 < 64 := by omega
  obtain ⟨k0, k1⟩ := k
  generalize b % 64 = n at *
  go_enter Try.func46, Try.ntmps46
  go_wp2_with fail
  refine c.mono ?_
  rintro e w' ⟨rfl, rfl⟩
  clear c
  go_wp2
  go_ret
  exact ⟨by simp [wu], rfl⟩
theorem sra_any (a b : Int) (w : World) (ha : W64 a) (hb : W64 b) :
    Calls Try.prog 47 #[.int .u64 a, .int .u64 b] w fun e w' => e = .returned (.int .u64 (wrap64 a / 2 ^ (b % 64).toNat % 18446744073709551616)) ∧ w' = w := by
  have c := cut6 b w hb
  obtain ⟨h0, h1⟩ := ha
  have k : 0 ≤ b % 64 ∧ b % 64 < 64 := by omega
  obtain ⟨k0, k1⟩ := k
  generalize b % 64 = n at *
  go_enter Try.func47, Try.ntmps47
  go_wp2_with fail
  refine c.mono ?_
  rintro e w' ⟨rfl, rfl⟩
  clear c
  go_wp2
  go_ret
  exact ⟨by simp [wu], rfl⟩
theorem eq_any (a b : Int) (w : World) (ha : W64 a) (hb : W64 b) :
    Calls Try.prog 34 #[.int .u64 a, .int .u64 b] w fun e w' => e = .returned (.bool (a == b)) ∧ w' = w := by
  obtain ⟨h0, h1⟩ := ha
  obtain ⟨h2, h3⟩ := hb
  go_enter Try.func34, Try.ntmps34
  go_wp2
  go_ret
  exact ⟨rfl, rfl⟩
theorem ne_any (a b : Int) (w : World) (ha : W64 a) (hb : W64 b) :
    Calls Try.prog 35 #[.int .u64 a, .int .u64 b] w fun e w' => e = .returned (.bool (!(a == b))) ∧ w' = w := by
  obtain ⟨h0, h1⟩ := ha
  obtain ⟨h2, h3⟩ := hb
  go_enter Try.func35, Try.ntmps35
  go_wp2
  go_ret
  exact ⟨rfl, rfl⟩
theorem lt_any (a b : Int) (w : World) (ha : W64 a) (hb : W64 b) :
    Calls Try.prog 36 #[.int .u64 a, .int .u64 b] w fun e w' => e = .returned (.bool (decide (wrap64 a < wrap64 b))) ∧ w' = w := by
  obtain ⟨h0, h1⟩ := ha
  obtain ⟨h2, h3⟩ := hb
  go_enter Try.func36, Try.ntmps36
  go_wp2
  go_ret
  exact ⟨rfl, rfl⟩
theorem ge_any (a b : Int) (w : World) (ha : W64 a) (hb : W64 b) :
    Calls Try.prog 37 #[.int .u64 a, .int .u64 b] w fun e w' => e = .returned (.bool (decide (wrap64 b ≤ wrap64 a))) ∧ w' = w := by
  obtain ⟨h0, h1⟩ := ha
  obtain ⟨h2, h3⟩ := hb
  go_enter Try.func37, Try.ntmps37
  go_wp2
  go_ret
  exact ⟨rfl, rfl⟩
theorem ltu_any (a b : Int) (w : World) (ha : W64 a) (hb : W64 b) :
    Calls Try.prog 38 #[.int .u64 a, .int .u64 b] w fun e w' => e = .returned (.bool (decide (a < b))) ∧ w' = w := by
  obtain ⟨h0, h1⟩ := ha
  obtain ⟨h2, h3⟩ := hb
  go_enter Try.func38, Try.ntmps38
  go_wp2
  go_ret
  exact ⟨rfl, rfl⟩
theorem geu_any (a b : Int) (w : World) (ha : W64 a) (hb : W64 b) :
    Calls Try.prog 39 #[.int .u64 a, .int .u64 b] w fun e w' => e = .returned (.bool (decide (b ≤ a))) ∧ w' = w := by
  obtain ⟨h0, h1⟩ := ha
  obtain ⟨h2, h3⟩ := hb
  go_enter Try.func39, Try.ntmps39
  go_wp2
  go_ret
  exact ⟨rfl, rfl⟩
theorem oneIf_any (b : Bool) (w : World) : Calls Try.prog 77 #[.bool b] w fun e w' => e = .returned (.int .u64 (if b then 1 else 0)) ∧ w' = w := by
  cases b
  all_goals
    go_enter Try.func77, Try.ntmps77
    go_wp2
    go_ret
    exact ⟨rfl, rfl⟩
theorem slt_any (a b : Int) (w : World) (ha : W64 a) (hb : W64 b) :
    Calls Try.prog 43 #[.int .u64 a, .int .u64 b] w fun e w' => e = .returned (.int .u64 (if decide (wrap64 a < wrap64 b) then 1 else 0)) ∧ w' = w := by
  have c := fun w => lt_any a b w ha hb
  have d := fun w => oneIf_any (decide (wrap64 a < wrap64 b)) w
  generalize (decide (wrap64 a < wrap64 b)) = t at *
  cases t
  all_goals
    go_enter Try.func43, Try.ntmps43
    go_wp2_with (first
      | (go_at_call 36; refine (c _).mono ?_; rintro e w' ⟨rfl, rfl⟩)
      | (go_at_call 77; refine (d _).mono ?_; rintro e w' ⟨rfl, rfl⟩))
    go_ret
    exact ⟨rfl, rfl⟩
theorem sltu_any (a b : Int) (w : World) (ha : W64 a) (hb : W64 b) :
    Calls Try.prog 44 #[.int .u64 a, .int .u64 b] w fun e w' => e = .returned (.int .u64 (if decide (a < b) then 1 else 0)) ∧ w' = w := by
  have c := fun w => ltu_any a b w ha hb
  have d := fun w => oneIf_any (decide (a < b)) w
  generalize (decide (a < b)) = t at *
  cases t
  all_goals
    go_enter Try.func44, Try.ntmps44
    go_wp2_with (first
      | (go_at_call 38; refine (c _).mono ?_; rintro e w' ⟨rfl, rfl⟩)
      | (go_at_call 77; refine (d _).mono ?_; rintro e w' ⟨rfl, rfl⟩))
    go_ret
    exact ⟨rfl, rfl⟩
def fDIV (a b : Int) : Int := if b = 0 then 18446744073709551615 else (wrap64 a).tdiv (wrap64 b) % 18446744073709551616
def fREM (a b : Int) : Int := if b = 0 then a else (wrap64 a).tmod (wrap64 b) % 18446744073709551616
def fDIVU (a b : Int) : Int := if b = 0 then 18446744073709551615 else a / b
def fREMU (a b : Int) : Int := if b = 0 then a else a % b
theorem wrap_wrap (x : Int) : wrap64 x % 18446744073709551616 = x % 18446744073709551616 := by unfold wrap64; omega
theorem wrap64_ne (b : Int) (hb : W64 b) (h : b ≠ 0) : wrap64 b ≠ 0 := by obtain ⟨h0, h1⟩ := hb; unfold wrap64; omega
theorem div_any (a b : Int) (w : World) (ha : W64 a) (hb : W64 b) :
    Calls Try.prog 54 #[.int .u64 a, .int .u64 b] w fun e w' => e = .returned (.int .u64 (fDIV a b)) ∧ w' = w := by
  by_cases hz : b = 0
  · subst hz
    obtain ⟨h0, h1⟩ := ha
    clear hb
    go_enter Try.func54, Try.ntmps54
    go_wp2
    go_ret
    exact ⟨rfl, rfl⟩
  · have k : fDIV a b = _ := if_neg hz
    rw [k]
    have g : (b == 0) = false := by simpa using hz
    have hn := wrap64_ne b hb hz
    obtain ⟨h0, h1⟩ := ha
    obtain ⟨h2, h3⟩ := hb
    clear k
    go_enter Try.func54, Try.ntmps54
    go_wp2
    go_ret
    exact ⟨by simp [wu, wrap_wrap], rfl⟩
theorem divu_any (a b : Int) (w : World) (ha : W64 a) (hb : W64 b) :
    Calls Try.prog 55 #[.int .u64 a, .int .u64 b] w fun e w' => e = .returned (.int .u64 (fDIVU a b)) ∧ w' = w := by
  by_cases hz : b = 0
  · subst hz
    obtain ⟨h0, h1⟩ := ha
    clear hb
    go_enter Try.func55, Try.ntmps55
    go_wp2
    go_ret
    exact ⟨rfl, rfl⟩
  · have k : fDIVU a b = _ := if_neg hz
    rw [k]
    have g : (b == 0) = false := by simpa using hz
    have hn := wrap64_ne b hb hz
    obtain ⟨h0, h1⟩ := ha
    obtain ⟨h2, h3⟩ := hb
    clear k
    go_enter Try.func55, Try.ntmps55
    go_wp2
    go_ret
    exact ⟨by simp [wu, wrap_wrap], rfl⟩
theorem rem_any (a b : Int) (w : World) (ha : W64 a) (hb : W64 b) :
    Calls Try.prog 56 #[.int .u64 a, .int .u64 b] w fun e w' => e = .returned (.int .u64 (fREM a b)) ∧ w' = w := by
  by_cases hz : b = 0
  · subst hz
    obtain ⟨h0, h1⟩ := ha
    clear hb
    go_enter Try.func56, Try.ntmps56
    go_wp2
    go_ret
    exact ⟨rfl, rfl⟩
  · have k : fREM a b = _ := if_neg hz
    rw [k]
    have g : (b == 0) = false := by simpa using hz
    have hn := wrap64_ne b hb hz
    obtain ⟨h0, h1⟩ := ha
    obtain ⟨h2, h3⟩ := hb
    clear k
    go_enter Try.func56, Try.ntmps56
    go_wp2
    go_ret
    exact ⟨by simp [wu, wrap_wrap], rfl⟩
theorem remu_any (a b : Int) (w : World) (ha : W64 a) (hb : W64 b) :
    Calls Try.prog 57 #[.int .u64 a, .int .u64 b] w fun e w' => e = .returned (.int .u64 (fREMU a b)) ∧ w' = w := by
  by_cases hz : b = 0
  · subst hz
    obtain ⟨h0, h1⟩ := ha
    clear hb
    go_enter Try.func57, Try.ntmps57
    go_wp2
    go_ret
    exact ⟨rfl, rfl⟩
  · have k : fREMU a b = _ := if_neg hz
    rw [k]
    have g : (b == 0) = false := by simpa using hz
    have hn := wrap64_ne b hb hz
    obtain ⟨h0, h1⟩ := ha
    obtain ⟨h2, h3⟩ := hb
    clear k
    go_enter Try.func57, Try.ntmps57
    go_wp2
    go_ret
    exact ⟨by simp [wu, wrap_wrap], rfl⟩
theorem sHalf_any (x : Int) (w : World) (h : W64 x) : Calls Try.prog 58 #[.int .u64 x] w fun e w' => e = .returned (.int .u64 (wid 4294967296 x)) ∧ w' = w := by
  have c := fun w => widen32 x w h
  generalize wid 4294967296 x = r at *
  go_enter Try.func58, Try.ntmps58
  go_wp2_with (go_at_call 79; refine (c _).mono ?_; rintro e w' ⟨rfl, rfl⟩)
  go_ret
  exact ⟨rfl, rfl⟩
theorem pHalf_any (x : Int) (w : World) (h : W64 x) : Calls Try.prog 59 #[.int .u64 x] w fun e w' => e = .returned (.int .u64 (x % 4294967296)) ∧ w' = w := by
  have c := fun w => cut32 x w h
  generalize x % 4294967296 = r at *
  go_enter Try.func59, Try.ntmps59
  go_wp2_with (go_at_call 76; refine (c _).mono ?_; rintro e w' ⟨rfl, rfl⟩)
  go_ret
  exact ⟨rfl, rfl⟩
theorem hShift_any (x : Int) (w : World) (h : W64 x) : Calls Try.prog 60 #[.int .u64 x] w fun e w' => e = .returned (.int .u64 (x % 32)) ∧ w' = w := by
  have c := fun w => cut5 x w h
  generalize x % 32 = r at *
  go_enter Try.func60, Try.ntmps60
  go_wp2_with (go_at_call 76; refine (c _).mono ?_; rintro e w' ⟨rfl, rfl⟩)
  go_ret
  exact ⟨rfl, rfl⟩
end Go.Proofs.Ythdahigckflohab
