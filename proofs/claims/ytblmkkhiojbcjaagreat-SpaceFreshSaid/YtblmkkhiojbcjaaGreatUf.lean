import Derived.Test.YtblmkkhiojbcjaaGreatUe
namespace Go.Proofs.YtblmkkhiojbcjaaGreat
open Go.RowKit
set_option linter.unusedVariables false
set_option linter.unusedSimpArgs false
attribute [local irreducible] eM
/-- A round of a tour tells a node. -/
def StA (F : Nat → Option Nat) (lf : Nat → Nat → Int) (c : Nat) (tm : Int → Option (Int × Int)) (pt : Pt) : Prop :=
  ∃ d x f, c ≤ d ∧ d < eM ∧ (d + 1) / 3 = c / 3 ∧ x ≠ 0 ∧ F x = some f ∧ nK x = d ∧ nB x = (vaP (c / 3) - vaP (c / 3) % spn pt.l, pt.l) ∧ (pt.l = 1 ∨ pt.l = 2) ∧ pt.k = 3 ∧ pt.e = ptr (some f) ∧ tm (ad f) = none ∧ (∀ j, c ≤ j → j < d → ev F lf j = none) ∧ ev F lf d = some ⟨vaP (c / 3) - vaP (c / 3) % spn pt.l, pt.l, pt⟩
/-- .. or a leaf .. -/
def StB (F : Nat → Option Nat) (lf : Nat → Nat → Int) (c : Nat) (pt : Pt) : Prop :=
  pt.l = 0 ∧ pt.k = 2 ∧ c ≤ 3 * (c / 3) + 2 ∧ (∀ j, c ≤ j → j < 3 * (c / 3) + 2 → ev F lf j = none) ∧ ev F lf (3 * (c / 3) + 2) = some ⟨vaP (c / 3), 0, pt⟩
/-- .. or passes what is empty. -/
def StC (N : Nat) (L : List Nat) (B : Nat → Int) (F : Nat → Option Nat) (lf : Nat → Nat → Int) (c : Nat) (pt : Pt) : Prop :=
  ∃ (g : Nat) (a : Int) (P' : Nat), pt.k = 0 ∧ ((pt.l = 0 ∧ a = pt.a0) ∨ (pt.l = 1 ∧ a = pt.a1) ∨ (pt.l = 2 ∧ a = pt.a2)) ∧ a - a % 4096 = ad g ∧ (0 ≤ a ∧ a < 18446744073709551616) ∧ ndB N L (ad g) = true ∧ fi (ad g) = g ∧
    vaP (c / 3) - vaP (c / 3) % spn (pt.l + 1) + ft B g (512 - ((ix (vaP (c / 3)) pt.l).toNat + 1)) ((ix (vaP (c / 3)) pt.l).toNat + 1) * spn pt.l = vaP P' ∧ c < 3 * P' ∧ 3 * P' ≤ eM ∧ (∀ j, c ≤ j → j < 3 * P' → ev F lf j = none)
section
variable {N : Nat} {L : List Nat} {B : Nat → Int} {F : Nat → Option Nat} {lf : Nat → Nat → Int}
theorem fol2 {tm : Int → Option (Int × Int)} {c P g : Nat} (hP : P < 134217728) (t : TI F c tm) (hg : F (x1 P) = some g) (hN : N ≤ 4096) (hgN : g < N) : folT tm (vaP P) 2 (ptr (some g)) = decide (nK (x1 P) < c) := by
  unfold folT
  rw [ptr_ad hgN hN, t (x1 P) g (by unfold x1; omega) hg]
  split
  · rename_i h
    simp only [Option.getD_some, nB_1 P hP, decide_true, h]
  · rename_i h
    simp [h]
theorem fol1 {tm : Int → Option (Int × Int)} {c P q : Nat} (hP : P < 134217728) (t : TI F c tm) (hq : F (x0 P) = some q) (hN : N ≤ 4096) (hqN : q < N) : folT tm (vaP P) 1 (ptr (some q)) = decide (nK (x0 P) < c) := by
  unfold folT
  rw [ptr_ad hqN hN, t (x0 P) q (by unfold x0; omega) hq]
  split
  · rename_i h
    simp only [Option.getD_some, nB_0 P hP, decide_true, h]
  · rename_i h
    simp [h]
theorem st_nd (g N : Nat) (hg : g < N) (hN : N ≤ 4096) (va l : Int) : st (ad g) va l - st (ad g) va l % 4096 = ad g ∧ 0 ≤ st (ad g) va l ∧ st (ad g) va l < 18446744073709551616 := by
  unfold st ad
  have := ix_b va l
  omega
theorem fi_ad (g : Nat) : fi (ad g) = g := by unfold fi ad; omega
theorem pass2 (h : PT N L B F lf) (hN : N ≤ 4096) (hB : ∀ i, 0 ≤ B i ∧ B i < 256) {r c : Nat} (hr : F 0 = some r) (hc : c < eM) (hn : F (x1 (c / 3)) = none) (pt : Pt) (hpt : pt = ⟨0, 0, st (ad r) (vaP (c / 3)) 2, 2, 0, 0⟩) : StC N L B F lf c pt := by
  have hP : c / 3 < 134217728 := by rw [eM_val] at hc; omega
  have hrN := h.held 0 r hr
  obtain ⟨s1, s2, s3⟩ := st_nd r N hrN.2.1 hN (vaP (c / 3)) 2
  have hi : (ix (vaP (c / 3)) 2).toNat = c / 3 / 262144 := vaP_i2 _ hP
  have hfb := ft_b B r (512 - (c / 3 / 262144 + 1)) (c / 3 / 262144 + 1) (by omega)
  have hfn := ft_none B r (512 - (c / 3 / 262144 + 1)) (c / 3 / 262144 + 1)
  obtain ⟨nx, hnx⟩ : ∃ nx : Nat, ft B r (512 - (c / 3 / 262144 + 1)) (c / 3 / 262144 + 1) = nx := ⟨(ft B r (512 - (c / 3 / 262144 + 1)) (c / 3 / 262144 + 1)).toNat, by omega⟩
  rw [hnx] at hfb hfn
  rw [hpt]
  refine ⟨r, _, nx * 262144, rfl, .inr (.inr ⟨rfl, rfl⟩), s1, ⟨s2, s3⟩, h.ndB hr, fi_ad r, ?_, by omega, by rw [eM_val]; omega, fun j h1 h2 => ?_⟩
  · show vaP (c / 3) - vaP (c / 3) % spn 3 + ft B r (512 - ((ix (vaP (c / 3)) 2).toNat + 1)) ((ix (vaP (c / 3)) 2).toNat + 1) * spn 2 = _
    rw [hi, hnx, spn3, spn2]
    unfold vaP
    omega
  · refine ev_none2 ?_
    by_cases e : j / 3 / 262144 = c / 3 / 262144
    · unfold x1 at hn ⊢
      rw [e]
      exact hn
    · have := h.noP hN hB (x := 0) (by omega) hr (i := j / 3 / 262144) (by omega) (hfn (j / 3 / 262144) (by omega) (by omega) (by omega))
      unfold ch at this
      rw [if_pos rfl] at this
      exact this
theorem pass1 (h : PT N L B F lf) (hN : N ≤ 4096) (hB : ∀ i, 0 ≤ B i ∧ B i < 256) {r c g : Nat} (hc : c < eM) (hg : F (x1 (c / 3)) = some g) (hk : nK (x1 (c / 3)) < c) (hn : F (x0 (c / 3)) = none) (pt : Pt) (hpt : pt = ⟨0, st (ad g) (vaP (c / 3)) 1, st (ad r) (vaP (c / 3)) 2, 1, 0, 0⟩) : StC N L B F lf c pt := by
  have hP : c / 3 < 134217728 := by rw [eM_val] at hc; omega
  have hgN := h.held _ g hg
  obtain ⟨s1, s2, s3⟩ := st_nd g N hgN.2.1 hN (vaP (c / 3)) 1
  have hi : (ix (vaP (c / 3)) 1).toNat = c / 3 / 512 % 512 := vaP_i1 _ hP
  have hfb := ft_b B g (512 - (c / 3 / 512 % 512 + 1)) (c / 3 / 512 % 512 + 1) (by omega)
  have hfn := ft_none B g (512 - (c / 3 / 512 % 512 + 1)) (c / 3 / 512 % 512 + 1)
  obtain ⟨nx, hnx⟩ : ∃ nx : Nat, ft B g (512 - (c / 3 / 512 % 512 + 1)) (c / 3 / 512 % 512 + 1) = nx := ⟨(ft B g (512 - (c / 3 / 512 % 512 + 1)) (c / 3 / 512 % 512 + 1)).toNat, by omega⟩
  rw [hnx] at hfb hfn
  rw [hpt]
  rw [nK_1 _ hP] at hk
  refine ⟨g, _, c / 3 / 262144 * 262144 + nx * 512, rfl, .inr (.inl ⟨rfl, rfl⟩), s1, ⟨s2, s3⟩, h.ndB hg, fi_ad g, ?_, by omega, by rw [eM_val]; omega, fun j h1 h2 => ?_⟩
  · show vaP (c / 3) - vaP (c / 3) % spn 2 + ft B g (512 - ((ix (vaP (c / 3)) 1).toNat + 1)) ((ix (vaP (c / 3)) 1).toNat + 1) * spn 1 = _
    rw [hi, hnx, spn2, spn1]
    unfold vaP
    omega
  · have hj2 : j / 3 / 262144 = c / 3 / 262144 := by omega
    refine ev_none1 ?_ (by omega)
    by_cases e : j / 3 / 512 % 512 = c / 3 / 512 % 512
    · unfold x0 at hn ⊢
      rw [e, hj2]
      exact hn
    · have := h.noP hN hB (x := x1 (c / 3)) (by unfold x1; omega) hg (i := j / 3 / 512 % 512) (by omega) (hfn (j / 3 / 512 % 512) (by omega) (by omega) (by omega))
      unfold ch x1 at this
      rw [if_neg (by omega)] at this
      unfold x0
      rw [hj2]
      rw [show 513 + 512 * (c / 3 / 262144) + j / 3 / 512 % 512 = 513 + 512 * (1 + c / 3 / 262144 - 1) + j / 3 / 512 % 512 by omega]
      exact this
theorem pass0 (h : PT N L B F lf) (hN : N ≤ 4096) (hB : ∀ i, 0 ≤ B i ∧ B i < 256) {r c g q : Nat} (hc : c < eM) (hg : F (x1 (c / 3)) = some g) (hk : nK (x1 (c / 3)) < c) (hq : F (x0 (c / 3)) = some q) (hk1 : nK (x0 (c / 3)) < c) (hz : lf (x0 (c / 3)) (c / 3 % 512) = 0) (pt : Pt) (hpt : pt = ⟨st (ad q) (vaP (c / 3)) 0, st (ad g) (vaP (c / 3)) 1, st (ad r) (vaP (c / 3)) 2, 0, 0, 0⟩) : StC N L B F lf c pt := by
  have hP : c / 3 < 134217728 := by rw [eM_val] at hc; omega
  have hqN := h.held _ q hq
  obtain ⟨s1, s2, s3⟩ := st_nd q N hqN.2.1 hN (vaP (c / 3)) 0
  have hi : (ix (vaP (c / 3)) 0).toNat = c / 3 % 512 := vaP_i0 _ hP
  have hfb := ft_b B q (512 - (c / 3 % 512 + 1)) (c / 3 % 512 + 1) (by omega)
  have hfn := ft_none B q (512 - (c / 3 % 512 + 1)) (c / 3 % 512 + 1)
  obtain ⟨nx, hnx⟩ : ∃ nx : Nat, ft B q (512 - (c / 3 % 512 + 1)) (c / 3 % 512 + 1) = nx := ⟨(ft B q (512 - (c / 3 % 512 + 1)) (c / 3 % 512 + 1)).toNat, by omega⟩
  rw [hnx] at hfb hfn
  rw [hpt]
  rw [nK_1 _ hP] at hk
  rw [nK_0 _ hP] at hk1
  refine ⟨q, _, c / 3 / 512 * 512 + nx, rfl, .inl ⟨rfl, rfl⟩, s1, ⟨s2, s3⟩, h.ndB hq, fi_ad q, ?_, by omega, by rw [eM_val]; omega, fun j h1 h2 => ?_⟩
  · show vaP (c / 3) - vaP (c / 3) % spn 1 + ft B q (512 - ((ix (vaP (c / 3)) 0).toNat + 1)) ((ix (vaP (c / 3)) 0).toNat + 1) * spn 0 = _
    rw [hi, hnx, spn1, spn0]
    unfold vaP
    omega
  · have hj2 : j / 3 / 512 = c / 3 / 512 := by omega
    have hx0 : x0 (j / 3) = x0 (c / 3) := by unfold x0; omega
    refine ev_none0 ?_ (by omega)
    rw [hx0]
    by_cases e : j / 3 % 512 = c / 3 % 512
    · rw [e]
      exact hz
    · exact h.noL hB (by unfold x0; omega) hq (by omega) (hfn (j / 3 % 512) (by omega) (by omega) (by omega))
theorem step_tour (h : PT N L B F lf) (hN : N ≤ 4096) (hB : ∀ i, 0 ≤ B i ∧ B i < 256) {r c : Nat} (hr : F 0 = some r) (hc : c < eM) {tm : Int → Option (Int × Int)} (t : TI F c tm) (pt : Pt) (hpt : pt = lookT N L B (folT tm (vaP (c / 3))) (ad r) (vaP (c / 3))) : StA F lf c tm pt ∨ StB F lf c pt ∨ StC N L B F lf c pt := by
  have hP : c / 3 < 134217728 := by rw [eM_val] at hc; omega
  have e1 := vaP_y1 _ hP
  have e0 := vaP_y0 _ hP
  have ei := vaP_i0 _ hP
  have hrt := rt_some hr
  cases hg : F (x1 (c / 3)) with
  | none => exact .inr (.inr (pass2 h hN hB hr hc hg pt (by rw [hpt, lookT_2 h _ hr _ (by rw [e1]; exact hg)])))
  | some g =>
    have hgN := (h.held _ _ hg).2.1
    have f2 := fol2 hP t hg hN hgN
    have k2 := nK_1 _ hP
    by_cases hk : nK (x1 (c / 3)) < c
    · rw [decide_eq_true hk] at f2
      cases hq : F (x0 (c / 3)) with
      | none => exact .inr (.inr (pass1 h hN hB (r := r) hc hg hk hq pt (by rw [hpt, lookT_1 h hN _ hr _ (by rw [e1]; exact hg) f2 (by rw [e0]; exact hq)])))
      | some q =>
        have hqN := (h.held _ _ hq).2.1
        have f1 := fol1 hP t hq hN hqN
        have k1 := nK_0 _ hP
        by_cases hk1 : nK (x0 (c / 3)) < c
        · rw [decide_eq_true hk1] at f1
          have hl := lookT_0 h hN _ hr (vaP (c / 3)) (by rw [e1]; exact hg) f2 (by rw [e0]; exact hq) f1
          rw [e0, ei] at hl
          rcases h.lv (x0 (c / 3)) (c / 3 % 512) with hz | ⟨hz, _, _⟩
          · rw [hz, kd_zero] at hl
            exact .inr (.inr (pass0 h hN hB (r := r) hc hg hk hq hk1 hz pt (by rw [hpt, hl])))
          · rw [hz] at hl
            refine .inr (.inl ?_)
            rw [← hpt] at hl
            refine ⟨by rw [hl], by rw [hl], by omega, fun j h1 h2 => ?_, ?_⟩
            · unfold ev
              have hj : j / 3 = c / 3 := by omega
              rw [hj]
              split
              · rw [if_neg (by omega)]
              · rw [if_pos (by omega), if_neg (by omega)]
            · unfold ev
              rw [if_neg (by omega), if_neg (by omega), show (3 * (c / 3) + 2) / 3 = c / 3 by omega, hg, hq, hl, hrt]
              have hne : lf (x0 (c / 3)) (c / 3 % 512) ≠ 0 := fun e => by rw [e, kd_zero] at hz; omega
              simp [hne]
        · rw [decide_eq_false hk1] at f1
          have hl := lookT_1p h hN _ hr (vaP (c / 3)) (by rw [e1]; exact hg) f2 (by rw [e0]; exact hq) f1
          rw [← hpt] at hl
          refine .inl ⟨3 * (c / 3) + 1, x0 (c / 3), q, by omega, by rw [eM_val]; omega, by omega, by unfold x0; omega, hq, by omega, ?_, by rw [hl]; exact .inl rfl, by rw [hl], by rw [hl], ?_, fun j h1 h2 => ?_, ?_⟩
          · rw [nB_0 _ hP, hl]
          · rw [t _ q (by unfold x0; omega) hq, if_neg hk1]
          · unfold ev
            have hj : j / 3 = c / 3 := by omega
            rw [hj, if_pos (by omega), if_neg (by omega)]
          · have hva : vaP (c / 3) - vaP (c / 3) % spn 1 = vaP (c / 3) := by rw [spn1]; unfold vaP; omega
            unfold ev
            rw [if_neg (by omega), if_pos (by omega), show (3 * (c / 3) + 1) / 3 = c / 3 by omega, if_pos (by omega), hg, hq, hl, hrt]
            simp [hva]
    · rw [decide_eq_false hk] at f2
      have hl := lookT_2p h hN _ hr (vaP (c / 3)) (by rw [e1]; exact hg) f2
      rw [← hpt] at hl
      have hc3 : c = 3 * (c / 3) ∧ c / 3 % 262144 = 0 := by omega
      refine .inl ⟨c, x1 (c / 3), g, Nat.le_refl _, hc, by omega, by unfold x1; omega, hg, by omega, ?_, by rw [hl]; exact .inr rfl, by rw [hl], by rw [hl], ?_, fun j h1 h2 => by omega, ?_⟩
      · rw [nB_1 _ hP, hl]
      · rw [t _ g (by unfold x1; omega) hg, if_neg hk]
      · have hva : vaP (c / 3) - vaP (c / 3) % spn 2 = vaP (c / 3) := by rw [spn2]; unfold vaP; omega
        unfold ev
        rw [if_pos (by omega), if_pos hc3.2, hg, hl, hrt]
        simp [hva]
end
end Go.Proofs.YtblmkkhiojbcjaaGreat
