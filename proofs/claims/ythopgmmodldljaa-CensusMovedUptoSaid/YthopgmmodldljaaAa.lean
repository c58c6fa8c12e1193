import Derived.Test.YthopgmmodldljaaRows
import Derived.WalkKit
import Derived.WalkSpells
import Derived.RowKit3
import Derived.Deep.QuietTactic
import Derived.BigQuiet
import Derived.WalkSmall
import Derived.Below
import Derived.Deep.Heap
import Derived.RegionTactic
import Derived.BigRegion
import Derived.Laws.IdiomCopy
import Derived.Deep.MidRow
import Derived.Deep.RegionLaw
import Derived.Deep.RegionHeld
import Derived.Deep.Cut
import Derived.Deep.Upon
import Derived.Laws.AppendOwn
namespace Go.Proofs.Ythopgmmodldljaa
open Go Go.RowKit
set_option linter.unusedVariables false
set_option linter.unusedSimpArgs false
/-- How many pieces of s are begun by n. -/
def bg (n s : Int) : Int := if n % s = 0 then n / s else n / s + 1
theorem begun_any (n s : Int) (h0 : 0 ≤ n) (h1 : n < 18446744073709551616) (hs : s = 512 ∨ s = 4096) (w : World) : Calls Try.prog 31 #[.int .u64 n, .int .u64 s] w fun e w' => e = .returned (.int .u64 (bg n s)) ∧ w' = w := by
  have ht : n.tmod s = n % s := Int.tmod_eq_emod_of_nonneg h0
  have hd : n.tdiv s = n / s := Int.tdiv_eq_ediv_of_nonneg h0
  unfold bg
  rcases hs with rfl | rfl
  · by_cases h : n % 512 = 0
    · have e1 : (n % 512 == 0) = true := by simpa using h
      have HH : Hid (n % 512 = 0) := h
      clear h
      go_enter Try.func31, Try.ntmps31
      go_wp2
      go_ret
      exact ⟨by first | rfl | rw [if_pos HH.out], rfl⟩
    · have e1 : (n % 512 == 0) = false := by simpa using h
      have e2 : IntKind.u64.wrap (n / 512 + 1) = n / 512 + 1 := by rw [IntKind.wrap_u64]; omega
      have HH : Hid (¬ n % 512 = 0) := h
      clear h
      go_enter Try.func31, Try.ntmps31
      go_wp2
      go_ret
      exact ⟨by first | rfl | rw [if_neg HH.out], rfl⟩
  · by_cases h : n % 4096 = 0
    · have e1 : (n % 4096 == 0) = true := by simpa using h
      have HH : Hid (n % 4096 = 0) := h
      clear h
      go_enter Try.func31, Try.ntmps31
      go_wp2
      go_ret
      exact ⟨by first | rfl | rw [if_pos HH.out], rfl⟩
    · have e1 : (n % 4096 == 0) = false := by simpa using h
      have e2 : IntKind.u64.wrap (n / 4096 + 1) = n / 4096 + 1 := by rw [IntKind.wrap_u64]; omega
      have HH : Hid (¬ n % 4096 = 0) := h
      clear h
      go_enter Try.func31, Try.ntmps31
      go_wp2
      go_ret
      exact ⟨by first | rfl | rw [if_neg HH.out], rfl⟩
/-- P17.4's formula. -/
def ndF (p : Int) : Int := if p < 0 then 0 else if p = 0 then 3 else 4 + bg p 512
theorem bg512 (p : Int) (h0 : 0 ≤ p) (h1 : p ≤ 9223372036854775807) : 0 ≤ bg p 512 ∧ bg p 512 ≤ 18014398509481984 := by
  unfold bg
  split <;> omega
theorem nodes_any (p : Int) (h0 : -9223372036854775808 ≤ p) (h1 : p ≤ 9223372036854775807) (w : World) : Calls Try.prog 9 #[.int .i64 p] w fun e w' => e = .returned (.int .i64 (ndF p)) ∧ w' = w := by
  unfold ndF
  by_cases hn : p < 0
  · go_enter Try.func9, Try.ntmps9
    go_wp2
    go_ret
    exact ⟨by first | rfl | rw [if_pos hn], rfl⟩
  · by_cases hz : p = 0
    · subst hz
      go_enter Try.func9, Try.ntmps9
      go_wp2
      go_ret
      exact ⟨rfl, rfl⟩
    · have e1 : (p == 0) = false := by simpa using hz
      have e2 : IntKind.u64.wrap p = p := by rw [IntKind.wrap_u64]; omega
      obtain ⟨b0, b1⟩ := bg512 p (by omega) h1
      have e3 : IntKind.i64.wrap (bg p 512) = bg p 512 := by rw [IntKind.wrap_i64]; omega
      have e4 : IntKind.i64.wrap (4 + bg p 512) = 4 + bg p 512 := by rw [IntKind.wrap_i64]; omega
      have HH : Hid (¬ p = 0) := hz
      clear hz
      by_cases h : p % 512 = 0
      · have e5 : (p % 512 == 0) = true := by simpa using h
        have ht : p.tmod 512 = p % 512 := Int.tmod_eq_emod_of_nonneg (by omega)
        have hd : p.tdiv 512 = p / 512 := Int.tdiv_eq_ediv_of_nonneg (by omega)
        have HX : Hid (p % 512 = 0) := h
        clear h
        go_enter Try.func9, Try.ntmps9
        go_wp2
        go_ret
        exact ⟨by show Ending.returned (.int .i64 (4 + p / 512)) = _; rw [bg, if_pos HX.out], rfl⟩
      · have e5 : (p % 512 == 0) = false := by simpa using h
        have ht : p.tmod 512 = p % 512 := Int.tmod_eq_emod_of_nonneg (by omega)
        have hd : p.tdiv 512 = p / 512 := Int.tdiv_eq_ediv_of_nonneg (by omega)
        have HX : Hid (¬ p % 512 = 0) := h
        clear h
        go_enter Try.func9, Try.ntmps9
        go_wp2
        go_ret
        exact ⟨by show Ending.returned (.int .i64 (4 + (p / 512 + 1))) = _; rw [bg, if_neg HX.out], rfl⟩
theorem rnodes_any (p : Int) (h0 : -9223372036854775808 ≤ p) (h1 : p ≤ 9223372036854775807) (w : World) : Calls Try.prog 24 #[.int .i64 p] w fun e w' => e = .returned (.int .i64 (ndF p)) ∧ w' = w := by
  unfold ndF
  by_cases hn : p < 0
  · go_enter Try.func24, Try.ntmps24
    go_wp2
    go_ret
    exact ⟨by first | rfl | rw [if_pos hn], rfl⟩
  · by_cases hz : p = 0
    · subst hz
      go_enter Try.func24, Try.ntmps24
      go_wp2
      go_ret
      exact ⟨rfl, rfl⟩
    · have e1 : (p == 0) = false := by simpa using hz
      have ht : p.tmod 512 = p % 512 := Int.tmod_eq_emod_of_nonneg (by omega)
      have hd : p.tdiv 512 = p / 512 := Int.tdiv_eq_ediv_of_nonneg (by omega)
      obtain ⟨b0, b1⟩ := bg512 p (by omega) h1
      have HH : Hid (¬ p = 0) := hz
      clear hz
      by_cases h : p % 512 = 0
      · have e2 : (p % 512 == 0) = true := by simpa using h
        have HX : Hid (p % 512 = 0) := h
        clear h
        go_enter Try.func24, Try.ntmps24
        go_wp2
        go_ret
        exact ⟨by show Ending.returned (.int .i64 (4 + p / 512)) = _; rw [bg, if_pos HX.out], rfl⟩
      · have e2 : (p % 512 == 0) = false := by simpa using h
        have e5 : IntKind.i64.wrap (p / 512 + 1) = p / 512 + 1 := by rw [IntKind.wrap_i64]; omega
        have e6 : IntKind.i64.wrap (4 + (p / 512 + 1)) = 4 + (p / 512 + 1) := by rw [IntKind.wrap_i64]; omega
        have HX : Hid (¬ p % 512 = 0) := h
        clear h
        go_enter Try.func24, Try.ntmps24
        go_wp2
        go_ret
        exact ⟨by show Ending.returned (.int .i64 (4 + (p / 512 + 1))) = _; rw [bg, if_neg HX.out], rfl⟩
theorem names_walk (w : World) : Calls Try.prog 3 #[] w fun e w' => e = .returned (.bool true) ∧ w' = w := by
  have c := fun p h0 h1 => nodes_any p h0 h1
  have c0 := c 0 (by omega) (by omega)
  have c1 := c 1 (by omega) (by omega)
  have c2 := c 512 (by omega) (by omega)
  have c3 := c 513 (by omega) (by omega)
  rw [show ndF 0 = 3 by rfl] at c0
  rw [show ndF 1 = 5 by rfl] at c1
  rw [show ndF 512 = 5 by rfl] at c2
  rw [show ndF 513 = 6 by rfl] at c3
  clear c
  go_enter Try.func3, Try.ntmps3
  go_wp2
  go_ret
  exact ⟨rfl, rfl⟩
end Go.Proofs.Ythopgmmodldljaa
