import Derived.Test.YtblmkkhiojbcjaaGreatUv
namespace Go.Proofs.YtblmkkhiojbcjaaGreat
open Go Go.RowKit
set_option linter.unusedVariables false
set_option linter.unusedSimpArgs false
attribute [local irreducible] eM
def isP (F : Nat → Option Nat) (lf : Nat → Nat → Int) (c : Nat) : Bool := ((ev F lf c).bind fun x => if x.p.k = 3 then some (adE x.p.e) else none).isSome
theorem ndl_len (r : Nat) (F : Nat → Option Nat) (lf : Nat → Nat → Int) : (ndl r (evs F lf 0)).length = 1 + cnt eM (isP F lf) := by
  unfold ndl evs cnt
  rw [List.length_cons, List.filterMap_filterMap, List.length_filterMap_eq_countP, Nat.sub_zero, ← List.range_eq_range']
  rw [Nat.add_comm]
  rfl
theorem nK_lt (x : Nat) (h0 : x ≠ 0) (h : x < 262657) : nK x < 402653184 := by
  unfold nK nP
  split <;> omega
theorem cnt_split (a b : Nat) (p : Nat → Bool) : cnt (a + b) p = cnt a p + cnt b (fun v => p (a + v)) := by
  induction b with
  | zero => rfl
  | succ b ih => rw [← Nat.add_assoc, cnt_succ, cnt_succ, ih]; omega
theorem cnt_split3 (a b c n : Nat) (h : n = a + b + c) (p : Nat → Bool) : cnt n p = cnt a p + cnt b (fun v => p (a + v)) + cnt c (fun v => p (a + b + v)) := by
  subst h
  rw [cnt_split, cnt_split]
section
variable {N : Nat} {L : List Nat} {B : Nat → Int} {F : Nat → Option Nat} {lf : Nat → Nat → Int}
theorem isP_iff (h : PT N L B F lf) (c : Nat) (hc : c < 402653184) : isP F lf c = true ↔ ∃ x, x < 262657 ∧ x ≠ 0 ∧ F x ≠ none ∧ nK x = c := by
  constructor
  · intro hp
    unfold isP ev at hp
    split at hp
    · next e =>
      split at hp
      · next e2 =>
        cases hf : F (x1 (c / 3)) with
        | none => rw [hf] at hp; simp at hp
        | some g => exact ⟨x1 (c / 3), h.dom _ (by rw [hf]; simp), by unfold x1; omega, by rw [hf]; simp, by rw [nK_1 _ (by omega)]; omega⟩
      · simp at hp
    · next e =>
      split at hp
      · next e1 =>
        split at hp
        · next e2 =>
          cases hf : F (x0 (c / 3)) with
          | none => rw [hf] at hp; simp at hp
          | some g => exact ⟨x0 (c / 3), h.dom _ (by rw [hf]; simp), by unfold x0; omega, by rw [hf]; simp, by rw [nK_0 _ (by omega)]; omega⟩
        · simp at hp
      · next e1 =>
        cases hf : F (x1 (c / 3)) with
        | none => rw [hf] at hp; simp at hp
        | some g =>
          cases hg : F (x0 (c / 3)) with
          | none => rw [hf, hg] at hp; simp at hp
          | some q =>
            rw [hf, hg] at hp
            simp only [Option.bind_some] at hp
            split at hp
            · simp at hp
            · simp at hp
  · rintro ⟨x, hx, h0, hf, rfl⟩
    cases hq : F x with
    | none => exact absurd hq hf
    | some f =>
      have hne := ev_node (lf := lf) h h0 hq
      have hmod := nK_mod x
      unfold isP
      unfold ev at hne ⊢
      split
      · next e =>
        rw [if_pos e] at hne
        split
        · next e2 =>
          rw [if_pos e2] at hne
          cases hg : F (x1 (nK x / 3)) with
          | none => rw [hg] at hne; simp at hne
          | some g => simp
        · next e2 => rw [if_neg e2] at hne; exact absurd rfl hne
      · next e =>
        rw [if_neg e] at hne
        split
        · next e1 =>
          rw [if_pos e1] at hne
          split
          · next e2 =>
            rw [if_pos e2] at hne
            cases hg : F (x1 (nK x / 3)) with
            | none => rw [hg] at hne; simp at hne
            | some g =>
              rw [hg] at hne
              cases hk : F (x0 (nK x / 3)) with
              | none => rw [hk] at hne; simp at hne
              | some q => simp
          · next e2 => rw [if_neg e2] at hne; exact absurd rfl hne
        · next e1 => omega
theorem cnt_nodes (F : Nat → Option Nat) : ∀ m, m ≤ 262657 → cnt 402653184 (fun c => decide (∃ x : Nat, x < m ∧ x ≠ 0 ∧ F x ≠ none ∧ nK x = c)) = cnt m (fun x => decide (x ≠ 0 ∧ F x ≠ none))
  | 0, _ => by
    have : (fun c : Nat => decide (∃ x : Nat, x < 0 ∧ x ≠ 0 ∧ F x ≠ none ∧ nK x = c)) = fun _ => false := by
      funext c
      exact decide_eq_false (fun ⟨i, hi, _⟩ => by omega)
    rw [this, cnt_zero]
    rfl
  | m + 1, hm => by
    have ih := cnt_nodes F m (by omega)
    rw [cnt_succ m, ← ih]
    by_cases e : m ≠ 0 ∧ F m ≠ none
    · rw [if_pos (decide_eq_true e)]
      refine cnt_add (v0 := nK m) (nK_lt m e.1 (by omega)) ?_ ?_ (fun v hv hne => ?_)
      · exact decide_eq_false (fun ⟨x, hx, h0, _, e2⟩ => by have := nK_inj h0 e.1 e2; omega)
      · exact decide_eq_true ⟨m, by omega, e.1, e.2, rfl⟩
      · refine decide_eq_decide.2 ⟨fun ⟨x, hx, h1⟩ => ⟨x, ?_, h1⟩, fun ⟨x, hx, h1⟩ => ⟨x, by omega, h1⟩⟩
        by_cases e2 : x = m
        · subst e2; exact absurd h1.2.2.symm hne
        · omega
    · rw [if_neg (by simpa using e)]
      refine Eq.trans (cnt_ext fun v hv => decide_eq_decide.2 ⟨fun ⟨x, hx, h1⟩ => ⟨x, ?_, h1⟩, fun ⟨x, hx, h1⟩ => ⟨x, by omega, h1⟩⟩) (Nat.add_zero _).symm
      by_cases e2 : x = m
      · subst e2; exact absurd ⟨h1.1, h1.2.1⟩ e
      · omega
/-- The nodes of a table, counted by their numbers. -/
theorem ndl_nodes (h : PT N L B F lf) (r : Nat) : (ndl r (evs F lf 0)).length = 1 + cnt 512 (fun v => decide (F (1 + v) ≠ none)) + cnt 262144 (fun v => decide (F (513 + v) ≠ none)) := by
  have a0 : cnt eM (isP F lf) = cnt 402653184 (isP F lf) := congrArg (fun n => cnt n (isP F lf)) eM_val
  have a1 : cnt 402653184 (isP F lf) = cnt 402653184 (fun c => decide (∃ x : Nat, x < 262657 ∧ x ≠ 0 ∧ F x ≠ none ∧ nK x = c)) := cnt_ext fun c hc => by
    have := isP_iff h c hc
    cases hb : isP F lf c with
    | true => exact (decide_eq_true (this.1 hb)).symm
    | false => exact (decide_eq_false (fun e => by rw [this.2 e] at hb; cases hb)).symm
  have a2 := cnt_nodes F 262657 (Nat.le_refl _)
  have a3 := cnt_split3 1 512 262144 262657 (by omega) (fun x => decide (x ≠ 0 ∧ F x ≠ none))
  have a4 := ndl_len r F lf
  have e1 : cnt 1 (fun x => decide (x ≠ 0 ∧ F x ≠ none)) = 0 := by simp [cnt]
  have e2 : cnt 512 (fun v => decide (1 + v ≠ 0 ∧ F (1 + v) ≠ none)) = cnt 512 (fun v => decide (F (1 + v) ≠ none)) := cnt_ext fun v hv => decide_eq_decide.2 ⟨fun e => e.2, fun e => ⟨by omega, e⟩⟩
  have e3 : cnt 262144 (fun v => decide (1 + 512 + v ≠ 0 ∧ F (1 + 512 + v) ≠ none)) = cnt 262144 (fun v => decide (F (513 + v) ≠ none)) := cnt_ext fun v hv => decide_eq_decide.2 ⟨fun e => e.2, fun e => ⟨by omega, e⟩⟩
  rw [a4, a0, a1, a2, a3, e1, e2, e3, Nat.zero_add, Nat.add_assoc]
end
end Go.Proofs.YtblmkkhiojbcjaaGreat
namespace Go.Proofs.YtblmkkhiojbcjaaGreat
open Go Go.RowKit
set_option linter.unusedVariables false
set_option linter.unusedSimpArgs false
theorem y1_val (va : Int) (h : 0 ≤ va ∧ va < 274877906944) : y1 va = 1 + (va / 1073741824).toNat := by
  unfold y1 i2 ch ix
  rw [show spn 2 = 1073741824 from rfl]
  simp only [if_true]
  omega
theorem y0_val (va : Int) (h : 0 ≤ va ∧ va < 274877906944) : y0 va = 513 + (va / 2097152).toNat := by
  have h1 := y1_val va h
  unfold y0 i1 ix
  rw [h1, spn1]
  unfold ch
  rw [if_neg (by omega)]
  omega
theorem mem_idx (l : List Pg) (P : Int → Prop) : (∃ i, i < l.length ∧ P (gV l i)) ↔ ∃ x ∈ l, P x.1 := by
  constructor
  · rintro ⟨i, hi, h⟩
    refine ⟨l[i], List.getElem_mem hi, ?_⟩
    unfold gV at h
    rw [List.getD_eq_getElem?_getD, List.getElem?_eq_getElem hi] at h
    exact h
  · rintro ⟨x, hx, h⟩
    obtain ⟨i, hi, rfl⟩ := List.getElem_of_mem hx
    refine ⟨i, hi, ?_⟩
    unfold gV
    rw [List.getD_eq_getElem?_getD, List.getElem?_eq_getElem hi]
    exact h
section
variable {N : Nat} {L : List Nat} {B : Nat → Int} {F : Nat → Option Nat} {lf : Nat → Nat → Int} {l : List Pg}
theorem TL.has0 (h : TL F lf l) (hP : PT N L B F lf) (v : Nat) : F (513 + v) ≠ none ↔ ∃ x ∈ l, x.1 / 2097152 = v := by
  constructor
  · intro hf
    obtain ⟨k, hk, hz⟩ := h.n0 (513 + v) (by omega) hf
    obtain ⟨x, hx, e, _⟩ := h.only (513 + v) k (by omega) hk hz
    have := (h.ok x hx).1
    rw [y0_val x.1 ⟨this.1, this.2.1⟩] at e
    exact ⟨x, hx, by omega⟩
  · rintro ⟨x, hx, e⟩
    have := (h.ok x hx).1
    obtain ⟨g, q, _, hq⟩ := hP.way x.1 (by rw [h.leaf x hx]; exact (h.ok x hx).ne)
    rw [y0_val x.1 ⟨this.1, this.2.1⟩, show (x.1 / 2097152).toNat = v by omega] at hq
    rw [hq]
    simp
theorem TL.has1 (h : TL F lf l) (hP : PT N L B F lf) (v : Nat) (hv : v < 512) : F (1 + v) ≠ none ↔ ∃ x ∈ l, x.1 / 1073741824 = v := by
  constructor
  · intro hf
    obtain ⟨d, hd, hc⟩ := h.n1 (1 + v) (by omega) (by omega) hf
    have hge : 513 ≤ ch (1 + v) d := by unfold ch; rw [if_neg (by omega)]; omega
    obtain ⟨k, hk, hz⟩ := h.n0 _ hge hc
    obtain ⟨x, hx, e, _⟩ := h.only _ k hge hk hz
    have := (h.ok x hx).1
    have e2 := (ch_inj (by omega) (y1_le x.1).1 hd (i1_lt _) e).1
    rw [y1_val x.1 ⟨this.1, this.2.1⟩] at e2
    exact ⟨x, hx, by omega⟩
  · rintro ⟨x, hx, e⟩
    have := (h.ok x hx).1
    obtain ⟨g, q, hg, _⟩ := hP.way x.1 (by rw [h.leaf x hx]; exact (h.ok x hx).ne)
    rw [y1_val x.1 ⟨this.1, this.2.1⟩, show (x.1 / 1073741824).toNat = v by omega] at hg
    rw [hg]
    simp
/-- P4.10: how many nodes a table has. -/
theorem TL.nodes (h : TL F lf l) (hP : PT N L B F lf) (r : Nat) : (ndl r (evs F lf 0)).length = 1 + prt (gV l) 1073741824 l.length + prt (gV l) 2097152 l.length := by
  have hb : ∀ i, i < l.length → 0 ≤ gV l i ∧ gV l i < 274877906944 := fun i hi => by
    unfold gV
    rw [List.getD_eq_getElem?_getD, List.getElem?_eq_getElem hi]
    have := (h.ok l[i] (List.getElem_mem hi)).1
    exact ⟨this.1, this.2.1⟩
  have p1 := prt_cnt (gV l) 1073741824 512 l.length (fun i hi => by have := hb i hi; omega)
  have p0 := prt_cnt (gV l) 2097152 262144 l.length (fun i hi => by have := hb i hi; omega)
  have q1 : cnt 512 (fun v => decide (F (1 + v) ≠ none)) = cnt 512 (fun v => decide (∃ i : Nat, i < l.length ∧ gV l i / 1073741824 = (v : Int))) := cnt_ext fun v hv => decide_eq_decide.2 ((h.has1 hP v hv).trans (mem_idx l (fun a => a / 1073741824 = (v : Int))).symm)
  have q0 : cnt 262144 (fun v => decide (F (513 + v) ≠ none)) = cnt 262144 (fun v => decide (∃ i : Nat, i < l.length ∧ gV l i / 2097152 = (v : Int))) := cnt_ext fun v hv => decide_eq_decide.2 ((h.has0 hP v).trans (mem_idx l (fun a => a / 2097152 = (v : Int))).symm)
  rw [ndl_nodes hP r, q1, q0, p1, p0]
end
end Go.Proofs.YtblmkkhiojbcjaaGreat
