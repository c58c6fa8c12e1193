import Derived.Test.YtloldhcljdmofaaDoorPg7
import Derived.Test.YtloldhcljdmofaaDoorPm2
namespace Go.Proofs.YtloldhcljdmofaaDoor
open Go.RowKit
set_option linter.unusedVariables false
set_option linter.unusedSimpArgs false
/-- All bytes of the first so many segments, one behind the other. -/
def flat (D : Nat → List Int) : Nat → List Int
  | 0 => []
  | i + 1 => flat D i ++ D i
section
variable {S : Nat → Sr} {D : Nat → List Int} {m : Nat}
theorem flat_len (h : ∀ i, i < m → (D i).length = (S i).n) : ∀ i, i ≤ m → (flat D i).length = sumN S i
  | 0, _ => rfl
  | i + 1, hi => by rw [flat, List.length_append, flat_len h i (by omega), h i (by omega), sumN]
theorem flat_get (h : ∀ i, i < m → (D i).length = (S i).n) {i j : Nat} (hj : j < (S i).n) : ∀ k, i < k → k ≤ m → (flat D k)[sumN S i + j]? = (D i)[j]?
  | 0, h1, _ => by omega
  | k + 1, h1, h2 => by
    rw [flat]
    by_cases e : i = k
    · subst e
      rw [List.getElem?_append_right (by rw [flat_len h i (by omega)]; omega), flat_len h i (by omega), Nat.add_sub_cancel_left]
    · have hs : sumN S i + j < (flat D k).length := by
        have h3 : sumN S (i + 1) ≤ sumN S k := by
          have : ∀ a b, a ≤ b → sumN S a ≤ sumN S b := by
            intro a b hab
            induction b with
            | zero => have : a = 0 := by omega
                      subst this; exact Nat.le_refl _
            | succ b ih =>
              by_cases e : a = b + 1
              · subst e; exact Nat.le_refl _
              · have := ih (by omega)
                simp only [sumN]
                omega
          exact this _ _ (by omega)
        rw [flat_len h k (by omega)]
        simp only [sumN] at h3
        omega
      rw [List.getElem?_append_left hs]
      exact flat_get h hj k (by omega) (by omega)
theorem flat_mem : ∀ k x, x ∈ flat D k → ∃ i, i < k ∧ x ∈ D i
  | 0, x, h => by cases h
  | k + 1, x, h => by
    rw [flat, List.mem_append] at h
    rcases h with h | h
    · obtain ⟨i, hi, hx⟩ := flat_mem k x h
      exact ⟨i, by omega, hx⟩
    · exact ⟨k, by omega, h⟩
def datB (D : Nat → List Int) (m : Nat) : Nat → Int := fun k => (flat D m).getD (k - (64 + 56 * m)) 0
def sgsG (S : Nat → Sr) (m : Nat) : List Sg := (List.range m).map fun i => ⟨(S i).va, (S i).fl, (S i).mem, 64 + 56 * m + sumN S i, (S i).n⟩
theorem sgsG_len : (sgsG S m).length = m := by simp [sgsG]
theorem sgsG_get {i : Nat} {s : Sg} (h : (sgsG S m)[i]? = some s) : i < m ∧ s = ⟨(S i).va, (S i).fl, (S i).mem, 64 + 56 * m + sumN S i, (S i).n⟩ := by
  have hi := (List.getElem?_eq_some_iff.1 h).1
  rw [sgsG_len] at hi
  refine ⟨hi, ?_⟩
  simp only [sgsG, List.getElem?_map, List.getElem?_range hi, Option.map_some, Option.some.injEq] at h
  exact h.symm
theorem szs_sgs : ∀ i, i ≤ m → szs (sgsG S m) i = sumN S i
  | 0, _ => by
    cases sgsG S m <;> rfl
  | i + 1, hi => by
    obtain ⟨s, hs⟩ : ∃ s, (sgsG S m)[i]? = some s := ⟨(sgsG S m)[i]'(by rw [sgsG_len]; omega), List.getElem?_eq_getElem _⟩
    rw [szs_succ _ _ _ hs, szs_sgs i (by omega), (sgsG_get hs).2, sumN]
theorem plc_sgs : Plc (sgsG S m) := fun i s hs => by
  obtain ⟨hi, e⟩ := sgsG_get hs
  rw [sgsG_len, szs_sgs i (by omega), e]
theorem datB_byt (h : ∀ i, i < m → (D i).length = (S i).n) {i : Nat} {s : Sg} (hs : (sgsG S m)[i]? = some s) : byt (datB D m) s = D i := by
  obtain ⟨hi, e⟩ := sgsG_get hs
  subst e
  apply List.ext_getElem?
  intro j
  by_cases hj : j < (S i).n
  · rw [byt_get _ _ _ hj]
    simp only [datB]
    rw [show 64 + 56 * m + sumN S i + j - (64 + 56 * m) = sumN S i + j by omega, List.getD_eq_getElem?_getD, flat_get h hj m hi (Nat.le_refl _), List.getElem?_eq_getElem (by rw [h i hi]; exact hj)]
    rfl
  · rw [List.getElem?_eq_none (by rw [byt_len]; show (S i).n ≤ j; omega), List.getElem?_eq_none (by rw [h i hi]; omega)]
theorem datB_bd (h : ∀ i, i < m → ∀ x ∈ D i, 0 ≤ x ∧ x < 256) : ∀ k, 0 ≤ datB D m k ∧ datB D m k < 256 := fun k => by
  simp only [datB, List.getD_eq_getElem?_getD]
  cases e : (flat D m)[k - (64 + 56 * m)]? with
  | none => exact ⟨by decide, by decide⟩
  | some x =>
    obtain ⟨i, hi, hx⟩ := flat_mem m x (List.mem_of_getElem? e)
    exact h i hi x hx
theorem sum_one : ∀ k, k ≤ m → ∀ i, i < k → (S i).n ≤ sumN S k
  | 0, _, i, h => by omega
  | k + 1, hk, i, h => by
    by_cases e : i = k
    · subst e
      simp only [sumN]
      omega
    · have := sum_one k (by omega) i (by omega)
      simp only [sumN]
      omega
theorem sum_mono : ∀ a b, a ≤ b → sumN S a ≤ sumN S b := by
  intro a b hab
  induction b with
  | zero =>
    have : a = 0 := by omega
    subst this
    exact Nat.le_refl _
  | succ b ih =>
    by_cases e : a = b + 1
    · subst e
      exact Nat.le_refl _
    · have := ih (by omega)
      simp only [sumN]
      omega
end
theorem own_row {w : World} {X g n c : Nat} {H : Nat → Int} (h : w.ownsRow X 5 1 (.slice (some ⟨g, 0, .none⟩) n c) n (lst H n)) : Row w g 0 n H := fun i hi => by
  have hk : (lst H n)[i]? = some (.int .u8 (H i)) := by simp [lst, hi]
  obtain ⟨g', e, hc⟩ := own_cell h hk (by omega) (by omega)
  injection e with e
  injection e with e
  rw [Nat.zero_add, e]
  exact hc
end Go.Proofs.YtloldhcljdmofaaDoor
