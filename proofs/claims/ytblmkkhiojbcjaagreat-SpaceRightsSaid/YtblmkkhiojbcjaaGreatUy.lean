import Derived.Test.YtblmkkhiojbcjaaGreatUx
namespace Go.Proofs.YtblmkkhiojbcjaaGreat
open Go Go.RowKit
set_option linter.unusedVariables false
set_option linter.unusedSimpArgs false
/-- How many nodes a page wants. -/
def need (F : Nat → Option Nat) (va : Int) : Nat := if F (y1 va) = none then 2 else if F (y0 va) = none then 1 else 0
def nodesF (F : Nat → Option Nat) : Nat := cnt 512 (fun v => decide (F (1 + v) ≠ none)) + cnt 262144 (fun v => decide (F (513 + v) ≠ none))
theorem y0_lt (va : Int) : y0 va < 513 + 262144 := by
  have h1 := y1_le va
  have h2 := i1_lt va
  unfold y0 ch
  rw [if_neg (by omega)]
  omega
theorem nodes_y0 {F F' : Nat → Option Nat} {y : Nat} (hy : 513 ≤ y ∧ y < 513 + 262144) (h0 : F y = none) (h1 : F' y ≠ none) (h : ∀ z, z ≠ y → (F' z = none ↔ F z = none)) : nodesF F' = nodesF F + 1 := by
  unfold nodesF
  rw [cnt_ext (M := 512) (p := fun v => decide (F' (1 + v) ≠ none)) (q := fun v => decide (F (1 + v) ≠ none)) (fun v hv => decide_eq_decide.2 (not_congr (h _ (by omega)))),
    cnt_add (M := 262144) (v0 := y - 513) (p := fun v => decide (F (513 + v) ≠ none)) (q := fun v => decide (F' (513 + v) ≠ none)) (by omega) (by rw [show 513 + (y - 513) = y by omega]; simp [h0]) (by rw [show 513 + (y - 513) = y by omega]; simpa using h1) (fun v hv hne => decide_eq_decide.2 (not_congr (h _ (by omega))))]
  omega
theorem nodes_y1 {F F' : Nat → Option Nat} {y : Nat} (hy : 1 ≤ y ∧ y ≤ 512) (h0 : F y = none) (h1 : F' y ≠ none) (h : ∀ z, z ≠ y → (F' z = none ↔ F z = none)) : nodesF F' = nodesF F + 1 := by
  unfold nodesF
  rw [cnt_ext (M := 262144) (p := fun v => decide (F' (513 + v) ≠ none)) (q := fun v => decide (F (513 + v) ≠ none)) (fun v hv => decide_eq_decide.2 (not_congr (h _ (by omega)))),
    cnt_add (M := 512) (v0 := y - 1) (p := fun v => decide (F (1 + v) ≠ none)) (q := fun v => decide (F' (1 + v) ≠ none)) (by omega) (by rw [show 1 + (y - 1) = y by omega]; simp [h0]) (by rw [show 1 + (y - 1) = y by omega]; simpa using h1) (fun v hv hne => decide_eq_decide.2 (not_congr (h _ (by omega))))]
  omega
section
variable {N : Nat} {L L' : List Nat} {B B' : Nat → Int} {F F' : Nat → Option Nat} {lf lf' : Nat → Nat → Int}
theorem TL.nodesF {l : List Pg} (h : TL F lf l) (hP : PT N L B F lf) : nodesF F = prt (gV l) 1073741824 l.length + prt (gV l) 2097152 l.length := by
  have h1 := h.nodes hP 0
  have h2 := ndl_nodes hP 0
  unfold Go.Proofs.YtblmkkhiojbcjaaGreat.nodesF
  omega
/-- The frames that a table takes: taking a page away. -/
theorem PrR.len {va : Int} {q g : Nat} (h : PrR L F lf va q g L' F' lf') (hg : F (y1 va) = some g) (hq : F (y0 va) = some q) : L'.length + nodesF F' = L.length + nodesF F := by
  have hy0 := y0_ge va
  have hy1 := y1_le va
  have hlt := y0_lt va
  have e1 : nodesF F = nodesF (setN F (y0 va)) + 1 := nodes_y0 (y := y0 va) ⟨hy0, hlt⟩ (by unfold setN; rw [if_pos rfl]) (by rw [hq]; simp) (fun z hz => by unfold setN; rw [if_neg hz])
  rcases h with ⟨rfl, rfl, _⟩ | ⟨rfl, rfl, _⟩ | ⟨rfl, rfl, _⟩
  · rfl
  · rw [List.length_cons]
    omega
  · have e2 : nodesF (setN F (y0 va)) = nodesF (setN (setN F (y0 va)) (y1 va)) + 1 := nodes_y1 (y := y1 va) ⟨hy1.2, hy1.1⟩ (by unfold setN; rw [if_pos rfl]) (by unfold setN; rw [if_neg (by omega), hg]; simp) (fun z hz => by
      show _ ↔ setN (setN F (y0 va)) (y1 va) z = none
      unfold setN
      rw [if_neg hz])
    rw [List.length_cons, List.length_cons]
    omega
/-- The frames that a table takes: laying a page down. -/
theorem LP.len {va leaf : Int} (h : LP N va leaf L B F lf L' B' F') (hP : PT N L B F lf) : nodesF F' = nodesF F + need F va := by
  have hy0 := y0_ge va
  have hy1 := y1_le va
  have hlt := y0_lt va
  obtain ⟨g, q, hg, hq⟩ := h.has
  have same : ∀ z, z ≠ y1 va → z ≠ y0 va → (F' z = none ↔ F z = none) := fun z h1 h2 => by
    constructor
    · intro e
      cases hf : F z with
      | none => rfl
      | some f => rw [h.ext z f hf] at e; cases e
    · intro e
      cases hf : F' z with
      | none => rfl
      | some f =>
        rcases h.new z f hf with h3 | ⟨_, _, h3⟩
        · rw [e] at h3; cases h3
        · omega
  unfold need
  cases e1 : F (y1 va) with
  | none =>
    have e0 : F (y0 va) = none := by
      cases hf : F (y0 va) with
      | none => rfl
      | some f => exact absurd e1 (hP.up (y1 va) (i1 va) hy1.1 (i1_lt va) (by rw [show ch (y1 va) (i1 va) = y0 va from rfl, hf]; simp))
    rw [if_pos rfl]
    have a1 : nodesF (setO F (y1 va) g) = nodesF F + 1 := nodes_y1 (y := y1 va) ⟨hy1.2, hy1.1⟩ e1 (by unfold setO; rw [if_pos rfl]; simp) (fun z hz => by unfold setO; rw [if_neg hz])
    have a2 : nodesF F' = nodesF (setO F (y1 va) g) + 1 := nodes_y0 (y := y0 va) ⟨hy0, hlt⟩ (by unfold setO; rw [if_neg (by omega)]; exact e0) (by rw [hq]; simp) (fun z hz => by
      unfold setO
      split
      · next e => rw [e, hg]
      · next e => exact same z e hz)
    omega
  | some g0 =>
    rw [if_neg (by simp)]
    have s1 : F' (y1 va) = some g0 := h.ext _ _ e1
    cases e0 : F (y0 va) with
    | none =>
      rw [if_pos rfl]
      exact nodes_y0 (y := y0 va) ⟨hy0, hlt⟩ e0 (by rw [hq]; simp) (fun z hz => by
        by_cases e : z = y1 va
        · rw [e, s1, e1]
        · exact same z e hz)
    | some q0 =>
      rw [if_neg (by simp)]
      have s0 : F' (y0 va) = some q0 := h.ext _ _ e0
      unfold nodesF
      have all : ∀ z, F' z = none ↔ F z = none := fun z => by
        by_cases e : z = y1 va
        · rw [e, s1, e1]
        · by_cases e2 : z = y0 va
          · rw [e2, s0, e0]
          · exact same z e e2
      rw [cnt_ext (M := 512) (p := fun v => decide (F' (1 + v) ≠ none)) (q := fun v => decide (F (1 + v) ≠ none)) (fun v hv => decide_eq_decide.2 (not_congr (all _))), cnt_ext (M := 262144) (p := fun v => decide (F' (513 + v) ≠ none)) (q := fun v => decide (F (513 + v) ≠ none)) (fun v hv => decide_eq_decide.2 (not_congr (all _)))]
      exact (Nat.add_zero _).symm
end
end Go.Proofs.YtblmkkhiojbcjaaGreat
