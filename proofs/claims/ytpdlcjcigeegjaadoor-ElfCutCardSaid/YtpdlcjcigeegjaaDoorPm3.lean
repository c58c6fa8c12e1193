import Derived.Test.YtpdlcjcigeegjaaDoorPm2
namespace Go.Proofs.YtpdlcjcigeegjaaDoor
open Go.RowKit
set_option linter.unusedVariables false
set_option linter.unusedSimpArgs false
section
variable {en : Int} {S : List Sg} {B : Nat → Int}
theorem lp_cut {a T : Nat} (h8 : S.length ≤ 8) (hG : Gk S S.length) (hP : Plc S) (hT : T = 64 + 56 * S.length + szs S S.length) (hT2 : T ≤ 262144) (hv : ∀ s ∈ S, 0 ≤ s.va) (ha : a < T) : ∀ k i, i + k = S.length → 64 + 56 * S.length + szs S i ≤ a → (lp a (fil en S B) k (64 + 56 * i) (S.take i)).1.2 ≠ 0
  | 0, i, h, h1 => by
    have : i = S.length := by omega
    subst this
    omega
  | k + 1, i, h, h1 => by
    obtain ⟨s, hs⟩ : ∃ s, S[i]? = some s := ⟨S[i]'(by omega), List.getElem?_eq_getElem (by omega)⟩
    obtain ⟨g1, g2⟩ := hG i s (by omega) hs
    have hw := hP i s hs
    have hss := szs_succ S i s hs
    have hmo := szs_mono S (i + 1) S.length (by omega)
    obtain ⟨e1, e2⟩ := sgOf_fil (en := en) (B := B) hs g1 (hv s (List.mem_of_getElem? hs)) (by omega)
    have hl : (S.take i).length = i := by rw [List.length_take]; omega
    have hk : ok1 s.va s.fl s.sz s.mem = true := g1
    by_cases hfit : 64 + 56 * S.length + szs S (i + 1) ≤ a
    · have est : stp a (fil en S B) (S.take i) (64 + 56 * i) = (0, S.take (i + 1)) := by
        unfold stp
        rw [e1, e2, if_neg (by decide), hl, if_neg (by omega), if_neg (by rw [hk]; decide), if_neg (by omega), if_neg (by rw [g2]; decide), List.take_add_one, hs]
        rfl
      unfold lp
      rw [est]
      simp only [ne_eq, not_true_eq_false, if_false]
      have := lp_cut h8 hG hP hT hT2 hv ha k (i + 1) (by omega) hfit
      rw [show 64 + 56 * (i + 1) = 64 + 56 * i + 56 by omega] at this
      exact this
    · have est : stp a (fil en S B) (S.take i) (64 + 56 * i) = (140, S.take i) := by
        unfold stp
        rw [e1, e2, if_neg (by decide), hl, if_neg (by omega), if_neg (by rw [hk]; decide), if_pos (by omega)]
      unfold lp
      rw [est, if_pos (show (140 : Int) ≠ 0 by decide)]
      exact (by decide : (140 : Int) ≠ 0)
/-- A file that is cut is none. -/
theorem rdF_cut {a T : Nat} (hg : Good en S) (hP : Plc S) (hT : T = 64 + 56 * S.length + szs S S.length) (hT2 : T ≤ 262144) (hv : ∀ s ∈ S, 0 ≤ s.va) (ha : a < T) : (rdF a (fil en S B) 0 0).1.2 ≠ 0 := by
  obtain ⟨h0, h8, hG, hE⟩ := hg
  have c1 : cntB (fil en S B) = S.length := by unfold cntB; rw [num_cnt h8]; rfl
  have c2 : froB (fil en S B) = 64 := by unfold froB; rw [num_fro]; rfl
  unfold rdF
  rw [c1, c2, if_neg (by omega)]
  by_cases h64 : a < 64
  · rw [if_pos h64]
    exact (by decide : (140 : Int) ≠ 0)
  · rw [if_neg h64, if_neg (by decide), if_neg (by omega)]
    by_cases hb : 64 + S.length * 56 ≤ a
    · have e0 : szs S 0 = 0 := by cases S <;> rfl
      have l := lp_cut (en := en) (B := B) h8 hG hP hT hT2 hv ha S.length 0 (by omega) (by omega)
      rw [List.take_zero] at l
      rw [if_neg (by omega), if_pos l]
      exact l
    · rw [if_pos hb]
      exact (by decide : (140 : Int) ≠ 0)
end
end Go.Proofs.YtpdlcjcigeegjaaDoor
