import Derived.Test.YtacdgfojdkppmaaGreatDoorZk
import Derived.Test.YtacdgfojdkppmaaGreatDoorXj
namespace Go.Proofs.YtacdgfojdkppmaaGreatDoor
open Go.RowKit Go.Shelf
set_option linter.unusedVariables false
set_option linter.unusedSimpArgs false
theorem isHd_law (tr : Int) (h : tr ≠ Rm.ad 39) : ¬ (Rm.isHd 40 (38 :: Rm.down 37) tr ∧ Rm.isHd 40 (38 :: Rm.down 37) 2147483648 ∧ tr ≠ 2147483648) := by
  rintro ⟨⟨f, h1, h2, rfl⟩, _, h3⟩
  have h4 : f ∉ Rm.down 38 := h2
  rw [Rm.down_mem] at h4
  by_cases h0 : f = 0
  · subst h0
    exact h3 (by unfold Rm.ad; decide)
  · have : f = 39 := by omega
    subst this
    exact h rfl
theorem byt_fp {w : World} {fp : Option Addr} {n c : Nat} {xs : List Int} (h : Byt w fp n c xs) : Fp w fp n (fun i => xs.getD i 0) := by
  obtain ⟨h1, h2, h3, h4⟩ := h
  rcases h4 with h4 | ⟨b', o', e, h5, h6⟩
  · exact .inr h4
  · refine .inl ⟨b', o', e, fun i hi => ?_, h5⟩
    have hx : xs[i]? = some (xs.getD i 0) := by rw [List.getD_eq_getElem?_getD, List.getElem?_eq_getElem (by omega)]; rfl
    exact h6 i _ hx
end Go.Proofs.YtacdgfojdkppmaaGreatDoor
