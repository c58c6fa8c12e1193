import Derived.Test.YtblmkkhiojbcjaaGreatUd
import Derived.Test.YtblmkkhiojbcjaaGreatSTak
namespace Go.Proofs.YtblmkkhiojbcjaaGreat
open Go.RowKit
set_option linter.unusedVariables false
set_option linter.unusedSimpArgs false
theorem ft_le (B : Nat → Int) (i k' : Nat) (hk : hs (B (i * 4096 + k' * 8)) 1 = true) : ∀ k j : Nat, j ≤ k' → k' < j + k → ft B i k j ≤ k'
  | 0, j, h1, h2 => by omega
  | k + 1, j, h1, h2 => by
    simp only [ft]
    split
    · omega
    · rename_i hne
      have hjk : j ≠ k' := fun e => hne (by rw [e]; exact hk)
      exact ft_le B i k' hk k (j + 1) (by omega) (by omega)
theorem hs_odd (e : Int) (he : 0 ≤ e ∧ e < 18446744073709551616) : hs e 1 = decide (e % 2 = 1) := by
  unfold hs
  have h1 : bits .and .u64 e ((1 : Nat) : Int) = (((e % 1024).toNat &&& 1 : Nat) : Int) := and_low e he 1 (by omega)
  rw [show ((1 : Nat) : Int) = 1 from rfl] at h1
  rw [h1, Nat.and_one_is_mod]
  by_cases h : e % 2 = 1
  · have : (e % 1024).toNat % 2 = 1 := by omega
    rw [this]
    simp [h]
  · have : (e % 1024).toNat % 2 = 0 := by omega
    rw [this]
    simp [h]
theorem num_odd (B : Nat → Int) (o : Nat) : num B o 8 % 2 = B o % 2 := by
  simp only [num, Nat.add_zero]
  omega
theorem kd_odd {e : Int} (h : kd e 0 = 2) : hs e 1 = true := by
  unfold kd at h
  split at h
  · cases h
  · rename_i hn
    cases hh : hs e 1
    · exact absurd hh hn
    · rfl
theorem ft_none (B : Nat → Int) (g : Nat) (k : Nat) : ∀ (j i : Nat), j ≤ i → i < j + k → (i : Int) < ft B g k j → hs (B (g * 4096 + i * 8)) 1 = false := by
  induction k with
  | zero =>
    intro j i h1 h2 h3
    clear h3
    omega
  | succ k ih =>
    intro j i h1 h2 h3
    have e : ft B g (k + 1) j = if hs (B (g * 4096 + j * 8)) 1 = true then (j : Int) else ft B g k (j + 1) := rfl
    rw [e] at h3
    clear e
    split at h3
    · omega
    · rename_i hh
      by_cases e : i = j
      · subst e
        simpa using hh
      · exact ih (j + 1) i (by clear h3; omega) (by clear h3; omega) h3
theorem evn_odd {B : Nat → Int} (hB : ∀ i, 0 ≤ B i ∧ B i < 256) (g i : Nat) (h : hs (B (g * 4096 + i * 8)) 1 = false) : evn B g i % 2 = 0 := by
  have hb := hB (g * 4096 + i * 8)
  rw [hs_odd _ (by omega)] at h
  unfold evn
  rw [num_odd]
  simp at h
  omega
section
variable {N : Nat} {L : List Nat} {B : Nat → Int} {F : Nat → Option Nat} {lf : Nat → Nat → Int}
theorem ptr_odd {f : Nat} (hf : f < N) (hN : N ≤ 4096) : ptr (some f) % 2 = 1 := by
  show toP (ad f) 0 % 2 = 1
  rw [toP_val _ _ (by unfold ad; omega) (by omega) (by omega)]
  unfold ad
  omega
theorem PT.noP (h : PT N L B F lf) (hN : N ≤ 4096) (hB : ∀ i, 0 ≤ B i ∧ B i < 256) {x g i : Nat} (hx : x ≤ 512) (hg : F x = some g) (hi : i < 512) (hz : hs (B (g * 4096 + i * 8)) 1 = false) : F (ch x i) = none := by
  have e := h.ep x g hx hg i hi
  have o := evn_odd hB g i hz
  cases hc : F (ch x i) with
  | none => rfl
  | some f =>
    rw [hc] at e
    have := ptr_odd (h.held _ _ hc).2.1 hN
    omega
theorem PT.noL (h : PT N L B F lf) (hB : ∀ i, 0 ≤ B i ∧ B i < 256) {y g i : Nat} (hy : 513 ≤ y) (hg : F y = some g) (hi : i < 512) (hz : hs (B (g * 4096 + i * 8)) 1 = false) : lf y i = 0 := by
  have e := h.el y g hy hg i hi
  have o := evn_odd hB g i hz
  rcases h.lv y i with h1 | ⟨h1, h2, h3⟩
  · exact h1
  · have := kd_odd h1
    rw [hs_odd _ ⟨h2, h3⟩] at this
    simp at this
    omega
end
end Go.Proofs.YtblmkkhiojbcjaaGreat
