import Derived.Test.YtblmkkhiojbcjaaGreatUc
import Derived.Test.YtblmkkhiojbcjaaGreatSTak
namespace Go.Proofs.YtblmkkhiojbcjaaGreat
open Go.RowKit
set_option linter.unusedVariables false
set_option linter.unusedSimpArgs false
/-- The page at which a node's span begins, the place at which it is told, and its branch. -/
def nP (x : Nat) : Nat := if x ≤ 512 then (x - 1) * 262144 else (x - 513) / 512 * 262144 + (x - 513) % 512 * 512
def nK (x : Nat) : Nat := if x ≤ 512 then 3 * nP x else 3 * nP x + 1
def nB (x : Nat) : Int × Int := (vaP (nP x), if x ≤ 512 then 2 else 1)
theorem nP_1 (P : Nat) (h : P < 134217728) : nP (x1 P) = P / 262144 * 262144 := by
  unfold nP x1
  rw [if_pos (by omega), Nat.add_sub_cancel_left]
theorem nP_0 (P : Nat) (h : P < 134217728) : nP (x0 P) = P / 512 * 512 := by
  unfold nP x0
  rw [if_neg (by omega)]
  omega
theorem nK_1 (P : Nat) (h : P < 134217728) : nK (x1 P) = 3 * (P / 262144 * 262144) := by
  have := nP_1 P h
  unfold nK
  rw [if_pos (by unfold x1; omega), this]
theorem nK_0 (P : Nat) (h : P < 134217728) : nK (x0 P) = 3 * (P / 512 * 512) + 1 := by
  have := nP_0 P h
  unfold nK
  rw [if_neg (by unfold x0; omega), this]
theorem nB_1 (P : Nat) (h : P < 134217728) : nB (x1 P) = (vaP P - vaP P % spn 2, 2) := by
  unfold nB
  rw [nP_1 P h, if_pos (by unfold x1; omega), spn2]
  unfold vaP
  congr 1
  omega
theorem nB_0 (P : Nat) (h : P < 134217728) : nB (x0 P) = (vaP P - vaP P % spn 1, 1) := by
  unfold nB
  rw [nP_0 P h, if_neg (by unfold x0; omega), spn1]
  unfold vaP
  congr 1
  omega
/-- A node other than the root: its number by the page at which its span begins. -/
theorem node_form (x : Nat) (h0 : x ≠ 0) (hx : x < 262657) : ∃ P, P < 134217728 ∧ nP x = P ∧ ((x = x1 P ∧ P % 262144 = 0 ∧ nK x = 3 * P) ∨ (x = x0 P ∧ P % 512 = 0 ∧ nK x = 3 * P + 1)) := by
  by_cases h : x ≤ 512
  · refine ⟨(x - 1) * 262144, by omega, by unfold nP; rw [if_pos h], .inl ⟨by unfold x1; omega, by omega, by unfold nK nP; rw [if_pos h, if_pos h]⟩⟩
  · refine ⟨(x - 513) / 512 * 262144 + (x - 513) % 512 * 512, by omega, by unfold nP; rw [if_neg h], .inr ⟨by unfold x0; omega, by omega, by unfold nK nP; rw [if_neg h, if_neg h]⟩⟩
theorem nK_inj {x y : Nat} (hx : x ≠ 0) (hy : y ≠ 0) (h : nK x = nK y) : x = y := by
  unfold nK nP at h
  split at h <;> split at h <;> omega
section
variable {N : Nat} {L : List Nat} {B : Nat → Int} {F : Nat → Option Nat} {lf : Nat → Nat → Int}
/-- What the tour has told at a place. -/
def TI (F : Nat → Option Nat) (c : Nat) (tm : Int → Option (Int × Int)) : Prop := ∀ x f, x ≠ 0 → F x = some f → tm (ad f) = if nK x < c then some (nB x) else none
theorem ev_node (h : PT N L B F lf) {x f : Nat} (h0 : x ≠ 0) (hf : F x = some f) : ev F lf (nK x) ≠ none := by
  obtain ⟨P, hP, _, ⟨h1, h2, h3⟩ | ⟨h1, h2, h3⟩⟩ := node_form x h0 (h.dom x (by rw [hf]; simp))
  · unfold ev
    rw [h3, if_pos (by omega), show 3 * P / 3 = P by omega, if_pos h2, ← h1, hf]
    simp
  · unfold ev
    have hu : F (x1 P) ≠ none := by
      have := h.up (x1 P) (P / 512 % 512) (by unfold x1; omega) (by omega)
      have e : ch (x1 P) (P / 512 % 512) = x0 P := by unfold ch x1 x0; rw [if_neg (by omega)]; omega
      rw [e, ← h1, hf] at this
      exact this (by simp)
    cases hg : F (x1 P) with
    | none => exact absurd hg hu
    | some g =>
      rw [h3, if_neg (by omega), if_pos (by omega), show (3 * P + 1) / 3 = P by omega, if_pos h2, hg, ← h1, hf]
      simp
theorem TI.skip (h : PT N L B F lf) {c d : Nat} {tm : Int → Option (Int × Int)} (t : TI F c tm) (hcd : c ≤ d) (hn : ∀ j, c ≤ j → j < d → ev F lf j = none) : TI F d tm := by
  intro x f h0 hf
  rw [t x f h0 hf]
  by_cases h1 : nK x < c
  · rw [if_pos h1, if_pos (by omega)]
  · rw [if_neg h1]
    by_cases h2 : nK x < d
    · exact absurd (hn _ (by omega) h2) (ev_node h h0 hf)
    · rw [if_neg h2]
theorem ad_inj {f g : Nat} (h : ad f = ad g) : f = g := by unfold ad at h; omega
theorem TI.put (h : PT N L B F lf) {c d x f : Nat} {tm : Int → Option (Int × Int)} (t : TI F c tm) (hcd : c ≤ d) (hn : ∀ j, c ≤ j → j < d → ev F lf j = none) (h0 : x ≠ 0) (hf : F x = some f) (hd : nK x = d) : TI F (d + 1) (setM tm (ad f) (nB x)) := by
  intro y g h1 hg
  unfold setM
  by_cases e : ad g = ad f
  · rw [if_pos e]
    obtain rfl : g = f := ad_inj e
    obtain rfl : y = x := h.inj y x g hg hf
    rw [if_pos (by omega)]
  · rw [if_neg e, (t.skip h hcd hn) y g h1 hg]
    have hne : nK y ≠ d := fun e2 => by
      obtain rfl : y = x := nK_inj h1 h0 (by omega)
      rw [hf] at hg
      injection hg with hg
      exact e (by rw [hg])
    by_cases h2 : nK y < d
    · rw [if_pos h2, if_pos (by omega)]
    · rw [if_neg h2, if_neg (by omega)]
theorem rt_some {r : Nat} (hr : F 0 = some r) : rtF F = r := by unfold rtF; rw [hr]; rfl
/-- The walk of a tour, case by case. -/
theorem lookT_2 (h : PT N L B F lf) (fol : Int → Int → Bool) {r : Nat} (hr : F 0 = some r) (va : Int) (hn : F (y1 va) = none) : lookT N L B fol (ad r) va = ⟨0, 0, st (ad r) va 2, 2, 0, 0⟩ := by
  unfold lookT
  have e : evn B r (ix va 2).toNat = 0 := by
    have := h.ep 0 r (by omega) hr (i2 va) (i2_lt va)
    rw [show ch 0 (i2 va) = y1 va from rfl, hn] at this
    exact this
  rw [wkT_stop2 (h.ndB hr) (by rw [ent_evn, e, kd_zero]; omega), ent_evn, e, kd_zero]
theorem lookT_2p (h : PT N L B F lf) (hN : N ≤ 4096) (fol : Int → Int → Bool) {r g : Nat} (hr : F 0 = some r) (va : Int) (hg : F (y1 va) = some g) (hf : fol 2 (ptr (some g)) = false) : lookT N L B fol (ad r) va = ⟨0, 0, st (ad r) va 2, 2, ptr (some g), 3⟩ := by
  unfold lookT
  have hgN := (h.held _ _ hg).2.1
  have e : evn B r (ix va 2).toNat = ptr (some g) := by
    have := h.ep 0 r (by omega) hr (i2 va) (i2_lt va)
    rw [show ch 0 (i2 va) = y1 va from rfl, hg] at this
    exact this
  rw [wkT_stop2 (h.ndB hr) (by rw [ent_evn, e, hf]; simp), ent_evn, e, ptr_kd hgN hN 2 (.inr rfl)]
theorem lookT_1 (h : PT N L B F lf) (hN : N ≤ 4096) (fol : Int → Int → Bool) {r g : Nat} (hr : F 0 = some r) (va : Int) (hg : F (y1 va) = some g) (hf : fol 2 (ptr (some g)) = true) (hn : F (y0 va) = none) : lookT N L B fol (ad r) va = ⟨0, st (ad g) va 1, st (ad r) va 2, 1, 0, 0⟩ := by
  unfold lookT
  have hgN := (h.held _ _ hg).2.1
  have e : evn B r (ix va 2).toNat = ptr (some g) := by
    have := h.ep 0 r (by omega) hr (i2 va) (i2_lt va)
    rw [show ch 0 (i2 va) = y1 va from rfl, hg] at this
    exact this
  have e1 : evn B g (ix va 1).toNat = 0 := by
    have := h.ep (y1 va) g (y1_le va).1 hg (i1 va) (i1_lt va)
    rw [show ch (y1 va) (i1 va) = y0 va from rfl, hn] at this
    exact this
  rw [wkT_go2 (h.ndB hr) (by rw [ent_evn, e]; exact ⟨ptr_kd hgN hN 2 (.inr rfl), hf⟩), ent_evn, e, ptr_ad hgN hN, wkT_stop1 (h.ndB hg) (by rw [ent_evn, e1, kd_zero]; omega), ent_evn, e1, kd_zero]
theorem lookT_1p (h : PT N L B F lf) (hN : N ≤ 4096) (fol : Int → Int → Bool) {r g q : Nat} (hr : F 0 = some r) (va : Int) (hg : F (y1 va) = some g) (hf : fol 2 (ptr (some g)) = true) (hq : F (y0 va) = some q) (hf1 : fol 1 (ptr (some q)) = false) : lookT N L B fol (ad r) va = ⟨0, st (ad g) va 1, st (ad r) va 2, 1, ptr (some q), 3⟩ := by
  unfold lookT
  have hgN := (h.held _ _ hg).2.1
  have hqN := (h.held _ _ hq).2.1
  have e : evn B r (ix va 2).toNat = ptr (some g) := by
    have := h.ep 0 r (by omega) hr (i2 va) (i2_lt va)
    rw [show ch 0 (i2 va) = y1 va from rfl, hg] at this
    exact this
  have e1 : evn B g (ix va 1).toNat = ptr (some q) := by
    have := h.ep (y1 va) g (y1_le va).1 hg (i1 va) (i1_lt va)
    rw [show ch (y1 va) (i1 va) = y0 va from rfl, hq] at this
    exact this
  rw [wkT_go2 (h.ndB hr) (by rw [ent_evn, e]; exact ⟨ptr_kd hgN hN 2 (.inr rfl), hf⟩), ent_evn, e, ptr_ad hgN hN, wkT_stop1 (h.ndB hg) (by rw [ent_evn, e1, hf1]; simp), ent_evn, e1, ptr_kd hqN hN 1 (.inl rfl)]
theorem lookT_0 (h : PT N L B F lf) (hN : N ≤ 4096) (fol : Int → Int → Bool) {r g q : Nat} (hr : F 0 = some r) (va : Int) (hg : F (y1 va) = some g) (hf : fol 2 (ptr (some g)) = true) (hq : F (y0 va) = some q) (hf1 : fol 1 (ptr (some q)) = true) : lookT N L B fol (ad r) va = ⟨st (ad q) va 0, st (ad g) va 1, st (ad r) va 2, 0, lf (y0 va) (i0 va), kd (lf (y0 va) (i0 va)) 0⟩ := by
  unfold lookT
  have hgN := (h.held _ _ hg).2.1
  have hqN := (h.held _ _ hq).2.1
  have e : evn B r (ix va 2).toNat = ptr (some g) := by
    have := h.ep 0 r (by omega) hr (i2 va) (i2_lt va)
    rw [show ch 0 (i2 va) = y1 va from rfl, hg] at this
    exact this
  have e1 : evn B g (ix va 1).toNat = ptr (some q) := by
    have := h.ep (y1 va) g (y1_le va).1 hg (i1 va) (i1_lt va)
    rw [show ch (y1 va) (i1 va) = y0 va from rfl, hq] at this
    exact this
  have e0 : evn B q (ix va 0).toNat = lf (y0 va) (i0 va) := h.el (y0 va) q (y0_ge va) hq (i0 va) (i0_lt va)
  rw [wkT_go2 (h.ndB hr) (by rw [ent_evn, e]; exact ⟨ptr_kd hgN hN 2 (.inr rfl), hf⟩), ent_evn, e, ptr_ad hgN hN, wkT_go1 (h.ndB hg) (by rw [ent_evn, e1]; exact ⟨ptr_kd hqN hN 1 (.inl rfl), hf1⟩), ent_evn, e1, ptr_ad hqN hN, wkT_stop0 (h.ndB hq), ent_evn, e0]
end
end Go.Proofs.YtblmkkhiojbcjaaGreat
namespace Go.Proofs.YtblmkkhiojbcjaaGreat
open Go.RowKit
set_option linter.unusedVariables false
set_option linter.unusedSimpArgs false
theorem ft_le (B : Nat → Int) (i k' : Nat) (hk : hs (B (i * 4096 + k' * 8)) 1 = true) : ∀ k j : Nat, j ≤ k' → k' < j + k → ft B i k j ≤ k'
  | 0, j, h1, h2 => by omega
  | k + 1, j, h1, h2 => by
    simp only [ft]
    split
    · omega
    · rename_i hne
      have hjk : j ≠ k' := fun e => hne (by rw [e]; exact hk)
      exact ft_le B i k' hk k (j + 1) (by omega) (by omega)
theorem hs_odd (e : Int) (he : 0 ≤ e ∧ e < 18446744073709551616) : hs e 1 = decide (e % 2 = 1) := by
  unfold hs
  have h1 : bits .and .u64 e ((1 : Nat) : Int) = (((e % 1024).toNat &&& 1 : Nat) : Int) := and_low e he 1 (by omega)
  rw [show ((1 : Nat) : Int) = 1 from rfl] at h1
  rw [h1, Nat.and_one_is_mod]
  by_cases h : e % 2 = 1
  · have : (e % 1024).toNat % 2 = 1 := by omega
    rw [this]
    simp [h]
  · have : (e % 1024).toNat % 2 = 0 := by omega
    rw [this]
    simp [h]
theorem num_odd (B : Nat → Int) (o : Nat) : num B o 8 % 2 = B o % 2 := by
  simp only [num, Nat.add_zero]
  omega
theorem kd_odd {e : Int} (h : kd e 0 = 2) : hs e 1 = true := by
  unfold kd at h
  split at h
  · cases h
  · rename_i hn
    cases hh : hs e 1
    · exact absurd hh hn
    · rfl
theorem ft_none (B : Nat → Int) (g : Nat) (k : Nat) : ∀ (j i : Nat), j ≤ i → i < j + k → (i : Int) < ft B g k j → hs (B (g * 4096 + i * 8)) 1 = false := by
  induction k with
  | zero =>
    intro j i h1 h2 h3
    clear h3
    omega
  | succ k ih =>
    intro j i h1 h2 h3
    have e : ft B g (k + 1) j = if hs (B (g * 4096 + j * 8)) 1 = true then (j : Int) else ft B g k (j + 1) := rfl
    rw [e] at h3
    clear e
    split at h3
    · omega
    · rename_i hh
      by_cases e : i = j
      · subst e
        simpa using hh
      · exact ih (j + 1) i (by clear h3; omega) (by clear h3; omega) h3
theorem evn_odd {B : Nat → Int} (hB : ∀ i, 0 ≤ B i ∧ B i < 256) (g i : Nat) (h : hs (B (g * 4096 + i * 8)) 1 = false) : evn B g i % 2 = 0 := by
  have hb := hB (g * 4096 + i * 8)
  rw [hs_odd _ (by omega)] at h
  unfold evn
  rw [num_odd]
  simp at h
  omega
section
variable {N : Nat} {L : List Nat} {B : Nat → Int} {F : Nat → Option Nat} {lf : Nat → Nat → Int}
theorem ptr_odd {f : Nat} (hf : f < N) (hN : N ≤ 4096) : ptr (some f) % 2 = 1 := by
  show toP (ad f) 0 % 2 = 1
  rw [toP_val _ _ (by unfold ad; omega) (by omega) (by omega)]
  unfold ad
  omega
theorem PT.noP (h : PT N L B F lf) (hN : N ≤ 4096) (hB : ∀ i, 0 ≤ B i ∧ B i < 256) {x g i : Nat} (hx : x ≤ 512) (hg : F x = some g) (hi : i < 512) (hz : hs (B (g * 4096 + i * 8)) 1 = false) : F (ch x i) = none := by
  have e := h.ep x g hx hg i hi
  have o := evn_odd hB g i hz
  cases hc : F (ch x i) with
  | none => rfl
  | some f =>
    rw [hc] at e
    have := ptr_odd (h.held _ _ hc).2.1 hN
    omega
theorem PT.noL (h : PT N L B F lf) (hB : ∀ i, 0 ≤ B i ∧ B i < 256) {y g i : Nat} (hy : 513 ≤ y) (hg : F y = some g) (hi : i < 512) (hz : hs (B (g * 4096 + i * 8)) 1 = false) : lf y i = 0 := by
  have e := h.el y g hy hg i hi
  have o := evn_odd hB g i hz
  rcases h.lv y i with h1 | ⟨h1, h2, h3⟩
  · exact h1
  · have := kd_odd h1
    rw [hs_odd _ ⟨h2, h3⟩] at this
    simp at this
    omega
end
end Go.Proofs.YtblmkkhiojbcjaaGreat
