import Derived.Test.YtblmkkhiojbcjaaGreatEn
namespace Go.Proofs.YtblmkkhiojbcjaaGreat
open Go Go.RowKit
set_option linter.unusedVariables false
set_option linter.unusedSimpArgs false
section
variable {w : World} {s p b m N r P K : Nat} {B : Nat → Int} {L : List Nat} {F : Nat → Option Nat} {lf : Nat → Nat → Int} {fr : Nat → Nat} {c : Nat → Int}
theorem mayS_no (c : Int) (h : c = 0 ∨ c = 4 ∨ c = 12) (w : World) : Calls Tryz.prog 44 #[.int .u64 c] w fun e w' => e = .returned (.bool false) ∧ w' = w := by
  rcases h with rfl | rfl | rfl
  all_goals
    go_enter Tryz.func44, Tryz.ntmps44
    go_wp2
    go_ret
    exact ⟨rfl, rfl⟩
theorem grow_no {root size : Int} (h : Sp w s p root size) (t : Int) (ht : size ≤ t ∧ t ≤ 274877894656) (x : Int) (hx : x = 0 ∨ x = 4 ∨ x = 12) : Calls Tryz.prog 9 #[.pointer (some ⟨s, 0, .none⟩), .int .u64 t, .int .u64 x] w fun e w' => e = .returned (.int .i64 162) ∧ w' = w := by
  have c43 := made_sp h
  have c44 := mayS_no x hx w
  have k2 := h.c2
  have h1 : ¬ t < size := by omega
  have h2 : ¬ 274877894656 < t := by omega
  clear h hx
  go_enter Tryz.func9, Tryz.ntmps9
  go_wp2_with first | (go_at_call 43; refine c43.mono ?_; rintro _ w1 ⟨rfl, e1⟩; obtain rfl : w = w1 := e1.symm) | (go_at_call 44; refine c44.mono ?_; rintro _ w1 ⟨rfl, e1⟩; obtain rfl : w = w1 := e1.symm)
  go_ret
  exact ⟨rfl, rfl⟩
theorem and14 (x : Int) (h : 0 ≤ x ∧ x < 18446744073709551616) : rgt (bits .and .u64 x 14) ∨ bits .and .u64 x 14 = 0 ∨ bits .and .u64 x 14 = 4 ∨ bits .and .u64 x 14 = 12 := by
  have h1 : bits .and .u64 x ((14 : Nat) : Int) = (((x % 1024).toNat &&& 14 : Nat) : Int) := and_low x h 14 (by omega)
  have h2 : bits .and .u64 x 14 = (((x % 1024).toNat &&& 14 : Nat) : Int) := h1
  rw [h2]
  have h3 : (x % 1024).toNat &&& 14 = ((x % 1024).toNat % 16) &&& 14 := by
    have e1 := Nat.and_two_pow_sub_one_eq_mod (x % 1024).toNat 4
    rw [show (16 : Nat) = 2 ^ 4 by decide, ← e1, Nat.and_assoc]
    rfl
  rw [h3]
  have h4 : (x % 1024).toNat % 16 < 16 := by omega
  generalize (x % 1024).toNat % 16 = q at *
  unfold rgt
  have : q = 0 ∨ q = 1 ∨ q = 2 ∨ q = 3 ∨ q = 4 ∨ q = 5 ∨ q = 6 ∨ q = 7 ∨ q = 8 ∨ q = 9 ∨ q = 10 ∨ q = 11 ∨ q = 12 ∨ q = 13 ∨ q = 14 ∨ q = 15 := by omega
  rcases this with rfl | rfl | rfl | rfl | rfl | rfl | rfl | rfl | rfl | rfl | rfl | rfl | rfl | rfl | rfl | rfl <;> decide
end
end Go.Proofs.YtblmkkhiojbcjaaGreat
