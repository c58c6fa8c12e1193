import Derived.Test.YtnlbomggadflmabPh
namespace Go.Proofs.Ytnlbomggadflmab
open Go.RowKit
set_option linter.unusedVariables false
set_option linter.unusedSimpArgs false
set_option maxRecDepth 100000
theorem countP_lt (l : List Nat) (p q : Nat → Bool) (h : ∀ x ∈ l, p x = true → q x = true) (y : Nat) (hy : y ∈ l) (h1 : q y = true) (h2 : p y = false) : l.countP p + 1 ≤ l.countP q := by
  induction l with
  | nil => cases hy
  | cons z l ih =>
    rw [List.countP_cons, List.countP_cons]
    have hm : l.countP p ≤ l.countP q := List.countP_mono_left fun x hx hp => h x (by simp [hx]) hp
    by_cases e : z = y
    · subst e
      rw [h1, h2]
      simp
      omega
    · have := ih (fun x hx => h x (by simp [hx])) (by simpa [fun x => e (Eq.symm x)] using (List.mem_cons.1 hy).resolve_left (fun x => e x.symm))
      have hz := h z (by simp)
      cases a : p z
      · simp; split <;> omega
      · rw [hz a]; simp; omega
/-- How many have a lesser pid. -/
def low (P : Nat → Pr) (c : Nat) : Nat := (List.range 64).countP fun j => !((P j).st == 0) && decide ((P j).pid < (P c).pid)
theorem low_le (P : Nat → Pr) (c : Nat) (hc : c < 64) (hs : (P c).st ≠ 0) : low P c ≤ 63 := by
  have := countP_lt (List.range 64) (fun j => !((P j).st == 0) && decide ((P j).pid < (P c).pid)) (fun _ => true) (fun _ _ _ => rfl) c (by simpa using hc) rfl (by simp)
  rw [low]
  simp at this
  omega
theorem low_lt (P : Nat → Pr) (c j : Nat) (hj : j < 64) (hs : (P j).st ≠ 0) (h : (P j).pid < (P c).pid) : low P j + 1 ≤ low P c := by
  refine countP_lt _ _ _ (fun x _ hx => ?_) j (by simpa using hj) ?_ ?_
  · simp only [Bool.and_eq_true, decide_eq_true_eq] at hx ⊢
    exact ⟨hx.1, by omega⟩
  · simp [hs, h]
  · simp
section
variable {w : World} {b : Nat} {P : Nat → Pr} {nx : Int}
end
end Go.Proofs.Ytnlbomggadflmab
