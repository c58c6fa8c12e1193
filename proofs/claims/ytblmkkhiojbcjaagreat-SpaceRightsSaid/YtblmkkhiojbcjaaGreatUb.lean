import Derived.Test.YtblmkkhiojbcjaaGreatUa
namespace Go.Proofs.YtblmkkhiojbcjaaGreat
open Go.RowKit
set_option linter.unusedVariables false
set_option linter.unusedSimpArgs false
/-- The places of a tour: three to a page, for a pointer of level 2, one of level 1, a leaf. -/
def eM : Nat := 402653184
theorem eM_val : eM = 402653184 := rfl
attribute [local irreducible] eM
/-- The numbers of the nodes on the way to a page. -/
def x1 (P : Nat) : Nat := 1 + P / 262144
def x0 (P : Nat) : Nat := 513 + 512 * (P / 262144) + P / 512 % 512
def vaP (P : Nat) : Int := (P : Int) * 4096
theorem vaP_i2 (P : Nat) (h : P < 134217728) : i2 (vaP P) = P / 262144 := by
  unfold i2 vaP ix spn
  simp
  omega
theorem vaP_i1 (P : Nat) (h : P < 134217728) : i1 (vaP P) = P / 512 % 512 := by
  unfold i1 vaP ix spn
  simp
  omega
theorem vaP_i0 (P : Nat) (h : P < 134217728) : i0 (vaP P) = P % 512 := by
  unfold i0 vaP ix spn
  simp
  omega
theorem vaP_y1 (P : Nat) (h : P < 134217728) : y1 (vaP P) = x1 P := by
  unfold y1 ch x1
  rw [vaP_i2 P h]
  simp
theorem vaP_y0 (P : Nat) (h : P < 134217728) : y0 (vaP P) = x0 P := by
  unfold y0
  rw [vaP_y1 P h, vaP_i1 P h]
  unfold ch x1 x0
  rw [if_neg (by omega)]
  omega
/-- What a tour tells: the entry's address and level, and the way to it. -/
structure Ev where
  va : Int
  l : Int
  p : Pt
def rtF (F : Nat → Option Nat) : Nat := (F 0).getD 0
/-- What is told at a place. -/
def ev (F : Nat → Option Nat) (lf : Nat → Nat → Int) (c : Nat) : Option Ev :=
  if c % 3 = 0 then (if c / 3 % 262144 = 0 then (F (x1 (c / 3))).map fun g => ⟨vaP (c / 3), 2, ⟨0, 0, st (ad (rtF F)) (vaP (c / 3)) 2, 2, ptr (some g), 3⟩⟩ else none)
  else if c % 3 = 1 then (if c / 3 % 512 = 0 then (F (x1 (c / 3))).bind fun g => (F (x0 (c / 3))).map fun q => ⟨vaP (c / 3), 1, ⟨0, st (ad g) (vaP (c / 3)) 1, st (ad (rtF F)) (vaP (c / 3)) 2, 1, ptr (some q), 3⟩⟩ else none)
  else (F (x1 (c / 3))).bind fun g => (F (x0 (c / 3))).bind fun q => if lf (x0 (c / 3)) (c / 3 % 512) = 0 then none else some ⟨vaP (c / 3), 0, ⟨st (ad q) (vaP (c / 3)) 0, st (ad g) (vaP (c / 3)) 1, st (ad (rtF F)) (vaP (c / 3)) 2, 0, lf (x0 (c / 3)) (c / 3 % 512), 2⟩⟩
/-- All that is told from a place on. -/
def evs (F : Nat → Option Nat) (lf : Nat → Nat → Int) (c : Nat) : List Ev := (List.range' c (eM - c)).filterMap (ev F lf)
theorem evs_end (F : Nat → Option Nat) (lf : Nat → Nat → Int) (c : Nat) (h : eM ≤ c) : evs F lf c = [] := by
  unfold evs
  rw [show eM - c = 0 by omega]
  rfl
theorem evs_step (F : Nat → Option Nat) (lf : Nat → Nat → Int) (c : Nat) (h : c < eM) : evs F lf c = (ev F lf c).toList ++ evs F lf (c + 1) := by
  unfold evs
  obtain ⟨k, hk⟩ : ∃ k, eM - c = k + 1 := ⟨eM - c - 1, by omega⟩
  rw [hk, List.range'_succ, List.filterMap_cons, show eM - (c + 1) = k by omega]
  cases ev F lf c <;> rfl
theorem evs_none (F : Nat → Option Nat) (lf : Nat → Nat → Int) : ∀ (k c : Nat), c + k ≤ eM → (∀ j, c ≤ j → j < c + k → ev F lf j = none) → evs F lf c = evs F lf (c + k)
  | 0, _, _, _ => rfl
  | k + 1, c, h, hn => by
    rw [evs_step F lf c (by omega), hn c (Nat.le_refl _) (by omega), evs_none F lf k (c + 1) (by omega) (fun j h1 h2 => hn j (by omega) (by omega))]
    rw [show c + 1 + k = c + (k + 1) by omega]
    rfl
theorem evs_skip {F : Nat → Option Nat} {lf : Nat → Nat → Int} {c d : Nat} (h : c ≤ d) (hd : d ≤ eM) (hn : ∀ j, c ≤ j → j < d → ev F lf j = none) : evs F lf c = evs F lf d := by
  obtain ⟨k, rfl⟩ : ∃ k, d = c + k := ⟨d - c, by omega⟩
  exact evs_none F lf k c hd hn
theorem evs_hit {F : Nat → Option Nat} {lf : Nat → Nat → Int} {c d : Nat} {x : Ev} (h : c ≤ d) (hd : d < eM) (hn : ∀ j, c ≤ j → j < d → ev F lf j = none) (hx : ev F lf d = some x) : evs F lf c = x :: evs F lf (d + 1) := by
  rw [evs_skip h (Nat.le_of_lt hd) hn, evs_step F lf d hd, hx]
  rfl
/-- Where no node is, nothing is told. -/
theorem ev_none2 {F : Nat → Option Nat} {lf : Nat → Nat → Int} {j : Nat} (h : F (x1 (j / 3)) = none) : ev F lf j = none := by
  unfold ev
  rw [h]
  split
  · split <;> rfl
  · split
    · split <;> rfl
    · rfl
theorem ev_none1 {F : Nat → Option Nat} {lf : Nat → Nat → Int} {j : Nat} (h : F (x0 (j / 3)) = none) (h3 : j % 3 ≠ 0 ∨ j / 3 % 262144 ≠ 0) : ev F lf j = none := by
  unfold ev
  rw [h]
  split
  · rw [if_neg (by omega)]
  · split
    · split
      · cases F (x1 (j / 3)) <;> rfl
      · rfl
    · cases F (x1 (j / 3)) <;> rfl
theorem ev_none0 {F : Nat → Option Nat} {lf : Nat → Nat → Int} {j : Nat} (h : lf (x0 (j / 3)) (j / 3 % 512) = 0) (h3 : j % 3 = 2 ∨ (j / 3 % 512 ≠ 0)) : ev F lf j = none := by
  unfold ev
  rw [h]
  split
  · rw [if_neg (by omega)]
  · split
    · rw [if_neg (by omega)]
    · cases F (x1 (j / 3)) with
      | none => rfl
      | some g => cases F (x0 (j / 3)) <;> rfl
end Go.Proofs.YtblmkkhiojbcjaaGreat
