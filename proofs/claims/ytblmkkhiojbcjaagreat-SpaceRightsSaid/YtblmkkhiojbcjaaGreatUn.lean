import Derived.Test.YtblmkkhiojbcjaaGreatUm
namespace Go.Proofs.YtblmkkhiojbcjaaGreat
open Go Go.RowKit
set_option linter.unusedVariables false
set_option linter.unusedSimpArgs false
def setN (F : Nat → Option Nat) (x : Nat) : Nat → Option Nat := fun y => if y = x then none else F y
def clrE (lf : Nat → Nat → Int) (c : Nat) : Nat → Nat → Int := fun a b => if a = c then 0 else lf a b
theorem clrE_self {lf : Nat → Nat → Int} {c : Nat} (h : ∀ k, lf c k = 0) : clrE lf c = lf := by
  funext a b
  unfold clrE
  split
  · next e => rw [e, h]
  · rfl
section
variable {N : Nat} {L : List Nat} {B : Nat → Int} {F : Nat → Option Nat} {lf : Nat → Nat → Int}
/-- A node that is empty is given back. -/
theorem PT.drop {f x g e : Nat} {B1 : Nat → Int} (h : PT N L B F lf) (hx : x ≤ 512) (hg : F x = some g) (he : e < 512) (hf : F (ch x e) = some f) (hc : ch x e ≤ 512 → ∀ d, d < 512 → F (ch (ch x e) d) = none)
    (hB : ∀ q, q ≠ f → ∀ k, k < 4096 → B1 (q * 4096 + k) = B (q * 4096 + k)) : PT N (f :: L) (over B1 (g * 4096 + e * 8) (le 0 8)) (setN F (ch x e)) (clrE lf (ch x e)) := by
  have sF : ∀ z, z ≠ ch x e → setN F (ch x e) z = F z := fun z hz => by unfold setN; rw [if_neg hz]
  have sT : setN F (ch x e) (ch x e) = none := by unfold setN; rw [if_pos rfl]
  have nc : ∀ z q, setN F (ch x e) z = some q → z ≠ ch x e ∧ F z = some q := fun z q hz => by
    by_cases e2 : z = ch x e
    · rw [e2, sT] at hz; cases hz
    · exact ⟨e2, by rw [sF z e2] at hz; exact hz⟩
  have hqf : ∀ z q, z ≠ ch x e → F z = some q → q ≠ f := fun z q hz hq e2 => hz (h.inj z (ch x e) q hq (by rw [e2]; exact hf))
  have ev1 : ∀ q d, d < 512 → q ≠ f → evn B1 q d = evn B q d := fun q d hd hq => num_ext _ _ _ _ fun k hk => by rw [Nat.add_assoc]; exact hB q hq _ (by omega)
  refine ⟨?_, fun z q hz => ?_, fun z y q hz hy => ?_, fun z d hz hd hne => ?_, fun z hz => ?_, fun z q hz hq d hd => ?_, fun z q hz hq d hd => ?_, fun y k => ?_, fun y hy k => ?_⟩
  · obtain ⟨r, hr⟩ := h.root
    exact ⟨r, by rw [sF 0 (by have := ch_pos x e; omega)]; exact hr⟩
  · obtain ⟨h1, h2⟩ := nc z q hz
    have h3 := h.held z q h2
    refine ⟨h3.1, h3.2.1, fun hm => ?_⟩
    rcases List.mem_cons.1 hm with h4 | h4
    · exact hqf z q h1 h2 h4
    · exact h3.2.2 h4
  · exact h.inj z y q (nc z q hz).2 (nc y q hy).2
  · by_cases e2 : ch z d = ch x e
    · rw [e2, sT] at hne
      exact absurd rfl hne
    · rw [sF _ e2] at hne
      have e3 : z ≠ ch x e := fun e3 => by
        subst e3
        exact hne (hc hz d hd)
      rw [sF z e3]
      exact h.up z d hz hd hne
  · by_cases e2 : z = ch x e
    · rw [e2, sT] at hz
      exact absurd rfl hz
    · rw [sF z e2] at hz
      exact h.dom z hz
  · obtain ⟨h1, h2⟩ := nc z q hq
    have h3 := hqf z q h1 h2
    by_cases e3 : q = g ∧ d = e
    · obtain ⟨rfl, rfl⟩ := e3
      obtain rfl : z = x := h.inj z x q h2 hg
      rw [sT, evn_over_same _ _ _ _ (by omega)]
      rfl
    · rw [evn_over_other _ _ _ _ _ _ he hd (by
          by_cases e4 : q = g
          · exact .inr (fun e5 => e3 ⟨e4, e5⟩)
          · exact .inl e4), ev1 q d hd h3, h.ep z q hz h2 d hd, sF]
      intro e4
      obtain ⟨rfl, rfl⟩ := ch_inj hz hx hd he e4
      rw [hg] at h2
      injection h2 with h2
      exact e3 ⟨h2.symm, rfl⟩
  · obtain ⟨h1, h2⟩ := nc z q hq
    have h3 := hqf z q h1 h2
    rw [evn_over_other _ _ _ _ _ _ he hd (.inl (fun e3 => by subst e3; have := h.inj z x q h2 hg; omega)), ev1 q d hd h3, h.el z q hz h2 d hd]
    unfold clrE
    rw [if_neg h1]
  · unfold clrE
    split
    · exact .inl rfl
    · exact h.lv y k
  · unfold clrE
    split
    · rfl
    · next e2 =>
      rw [sF y e2] at hy
      exact h.ln y hy k
end
end Go.Proofs.YtblmkkhiojbcjaaGreat
