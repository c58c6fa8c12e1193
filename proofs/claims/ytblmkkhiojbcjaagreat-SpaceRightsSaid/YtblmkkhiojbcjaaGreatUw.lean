import Derived.Test.YtblmkkhiojbcjaaGreatUv
namespace Go.Proofs.YtblmkkhiojbcjaaGreat
open Go Go.RowKit
set_option linter.unusedVariables false
set_option linter.unusedSimpArgs false
attribute [local irreducible] eM
def isP (F : Nat → Option Nat) (lf : Nat → Nat → Int) (c : Nat) : Bool := ((ev F lf c).bind fun x => if x.p.k = 3 then some (adE x.p.e) else none).isSome
theorem ndl_len (r : Nat) (F : Nat → Option Nat) (lf : Nat → Nat → Int) : (ndl r (evs F lf 0)).length = 1 + cnt eM (isP F lf) := by
  unfold ndl evs cnt
  rw [List.length_cons, List.filterMap_filterMap, List.length_filterMap_eq_countP, Nat.sub_zero, ← List.range_eq_range']
  rw [Nat.add_comm]
  rfl
theorem nK_lt (x : Nat) (h0 : x ≠ 0) (h : x < 262657) : nK x < 402653184 := by
  unfold nK nP
  split <;> omega
theorem cnt_split (a b : Nat) (p : Nat → Bool) : cnt (a + b) p = cnt a p + cnt b (fun v => p (a + v)) := by
  induction b with
  | zero => rfl
  | succ b ih => rw [← Nat.add_assoc, cnt_succ, cnt_succ, ih]; omega
theorem cnt_split3 (a b c n : Nat) (h : n = a + b + c) (p : Nat → Bool) : cnt n p = cnt a p + cnt b (fun v => p (a + v)) + cnt c (fun v => p (a + b + v)) := by
  subst h
  rw [cnt_split, cnt_split]
section
variable {N : Nat} {L : List Nat} {B : Nat → Int} {F : Nat → Option Nat} {lf : Nat → Nat → Int}
theorem isP_iff (h : PT N L B F lf) (c : Nat) (hc : c < 402653184) : isP F lf c = true ↔ ∃ x, x < 262657 ∧ x ≠ 0 ∧ F x ≠ none ∧ nK x = c := by
  constructor
  · intro hp
    unfold isP ev at hp
    split at hp
    · next e =>
      split at hp
      · next e2 =>
        cases hf : F (x1 (c / 3)) with
        | none => rw [hf] at hp; simp at hp
        | some g => exact ⟨x1 (c / 3), h.dom _ (by rw [hf]; simp), by unfold x1; omega, by rw [hf]; simp, by rw [nK_1 _ (by omega)]; omega⟩
      · simp at hp
    · next e =>
      split at hp
      · next e1 =>
        split at hp
        · next e2 =>
          cases hf : F (x0 (c / 3)) with
          | none => rw [hf] at hp; simp at hp
          | some g => exact ⟨x0 (c / 3), h.dom _ (by rw [hf]; simp), by unfold x0; omega, by rw [hf]; simp, by rw [nK_0 _ (by omega)]; omega⟩
        · simp at hp
      · next e1 =>
        cases hf : F (x1 (c / 3)) with
        | none => rw [hf] at hp; simp at hp
        | some g =>
          cases hg : F (x0 (c / 3)) with
          | none => rw [hf, hg] at hp; simp at hp
          | some q =>
            rw [hf, hg] at hp
            simp only [Option.bind_some] at hp
            split at hp
            · simp at hp
            · simp at hp
  · rintro ⟨x, hx, h0, hf, rfl⟩
    cases hq : F x with
    | none => exact absurd hq hf
    | some f =>
      have hne := ev_node (lf := lf) h h0 hq
      have hmod := nK_mod x
      unfold isP
      unfold ev at hne ⊢
      split
      · next e =>
        rw [if_pos e] at hne
        split
        · next e2 =>
          rw [if_pos e2] at hne
          cases hg : F (x1 (nK x / 3)) with
          | none => rw [hg] at hne; simp at hne
          | some g => simp
        · next e2 => rw [if_neg e2] at hne; exact absurd rfl hne
      · next e =>
        rw [if_neg e] at hne
        split
        · next e1 =>
          rw [if_pos e1] at hne
          split
          · next e2 =>
            rw [if_pos e2] at hne
            cases hg : F (x1 (nK x / 3)) with
            | none => rw [hg] at hne; simp at hne
            | some g =>
              rw [hg] at hne
              cases hk : F (x0 (nK x / 3)) with
              | none => rw [hk] at hne; simp at hne
              | some q => simp
          · next e2 => rw [if_neg e2] at hne; exact absurd rfl hne
        · next e1 => omega
theorem cnt_nodes (F : Nat → Option Nat) : ∀ m, m ≤ 262657 → cnt 402653184 (fun c => decide (∃ x : Nat, x < m ∧ x ≠ 0 ∧ F x ≠ none ∧ nK x = c)) = cnt m (fun x => decide (x ≠ 0 ∧ F x ≠ none))
  | 0, _ => by
    have : (fun c : Nat => decide (∃ x : Nat, x < 0 ∧ x ≠ 0 ∧ F x ≠ none ∧ nK x = c)) = fun _ => false := by
      funext c
      exact decide_eq_false (fun ⟨i, hi, _⟩ => by omega)
    rw [this, cnt_zero]
    rfl
  | m + 1, hm => by
    have ih := cnt_nodes F m (by omega)
    rw [cnt_succ m, ← ih]
    by_cases e : m ≠ 0 ∧ F m ≠ none
    · rw [if_pos (decide_eq_true e)]
      refine cnt_add (v0 := nK m) (nK_lt m e.1 (by omega)) ?_ ?_ (fun v hv hne => ?_)
      · exact decide_eq_false (fun ⟨x, hx, h0, _, e2⟩ => by have := nK_inj h0 e.1 e2; omega)
      · exact decide_eq_true ⟨m, by omega, e.1, e.2, rfl⟩
      · refine decide_eq_decide.2 ⟨fun ⟨x, hx, h1⟩ => ⟨x, ?_, h1⟩, fun ⟨x, hx, h1⟩ => ⟨x, by omega, h1⟩⟩
        by_cases e2 : x = m
        · subst e2; exact absurd h1.2.2.symm hne
        · omega
    · rw [if_neg (by simpa using e)]
      refine Eq.trans (cnt_ext fun v hv => decide_eq_decide.2 ⟨fun ⟨x, hx, h1⟩ => ⟨x, ?_, h1⟩, fun ⟨x, hx, h1⟩ => ⟨x, by omega, h1⟩⟩) (Nat.add_zero _).symm
      by_cases e2 : x = m
      · subst e2; exact absurd ⟨h1.1, h1.2.1⟩ e
      · omega
/-- The nodes of a table, counted by their numbers. -/
theorem ndl_nodes (h : PT N L B F lf) (r : Nat) : (ndl r (evs F lf 0)).length = 1 + cnt 512 (fun v => decide (F (1 + v) ≠ none)) + cnt 262144 (fun v => decide (F (513 + v) ≠ none)) := by
  have a0 : cnt eM (isP F lf) = cnt 402653184 (isP F lf) := congrArg (fun n => cnt n (isP F lf)) eM_val
  have a1 : cnt 402653184 (isP F lf) = cnt 402653184 (fun c => decide (∃ x : Nat, x < 262657 ∧ x ≠ 0 ∧ F x ≠ none ∧ nK x = c)) := cnt_ext fun c hc => by
    have := isP_iff h c hc
    cases hb : isP F lf c with
    | true => exact (decide_eq_true (this.1 hb)).symm
    | false => exact (decide_eq_false (fun e => by rw [this.2 e] at hb; cases hb)).symm
  have a2 := cnt_nodes F 262657 (Nat.le_refl _)
  have a3 := cnt_split3 1 512 262144 262657 (by omega) (fun x => decide (x ≠ 0 ∧ F x ≠ none))
  have a4 := ndl_len r F lf
  have e1 : cnt 1 (fun x => decide (x ≠ 0 ∧ F x ≠ none)) = 0 := by simp [cnt]
  have e2 : cnt 512 (fun v => decide (1 + v ≠ 0 ∧ F (1 + v) ≠ none)) = cnt 512 (fun v => decide (F (1 + v) ≠ none)) := cnt_ext fun v hv => decide_eq_decide.2 ⟨fun e => e.2, fun e => ⟨by omega, e⟩⟩
  have e3 : cnt 262144 (fun v => decide (1 + 512 + v ≠ 0 ∧ F (1 + 512 + v) ≠ none)) = cnt 262144 (fun v => decide (F (513 + v) ≠ none)) := cnt_ext fun v hv => decide_eq_decide.2 ⟨fun e => e.2, fun e => ⟨by omega, e⟩⟩
  rw [a4, a0, a1, a2, a3, e1, e2, e3, Nat.zero_add, Nat.add_assoc]
end
end Go.Proofs.YtblmkkhiojbcjaaGreat
