import Derived.Test.YtblmkkhiojbcjaaGreatUw
namespace Go.Proofs.YtblmkkhiojbcjaaGreat
open Go Go.RowKit
set_option linter.unusedVariables false
set_option linter.unusedSimpArgs false
theorem y1_val (va : Int) (h : 0 ≤ va ∧ va < 274877906944) : y1 va = 1 + (va / 1073741824).toNat := by
  unfold y1 i2 ch ix
  rw [show spn 2 = 1073741824 from rfl]
  simp only [if_true]
  omega
theorem y0_val (va : Int) (h : 0 ≤ va ∧ va < 274877906944) : y0 va = 513 + (va / 2097152).toNat := by
  have h1 := y1_val va h
  unfold y0 i1 ix
  rw [h1, spn1]
  unfold ch
  rw [if_neg (by omega)]
  omega
theorem mem_idx (l : List Pg) (P : Int → Prop) : (∃ i, i < l.length ∧ P (gV l i)) ↔ ∃ x ∈ l, P x.1 := by
  constructor
  · rintro ⟨i, hi, h⟩
    refine ⟨l[i], List.getElem_mem hi, ?_⟩
    unfold gV at h
    rw [List.getD_eq_getElem?_getD, List.getElem?_eq_getElem hi] at h
    exact h
  · rintro ⟨x, hx, h⟩
    obtain ⟨i, hi, rfl⟩ := List.getElem_of_mem hx
    refine ⟨i, hi, ?_⟩
    unfold gV
    rw [List.getD_eq_getElem?_getD, List.getElem?_eq_getElem hi]
    exact h
section
variable {N : Nat} {L : List Nat} {B : Nat → Int} {F : Nat → Option Nat} {lf : Nat → Nat → Int} {l : List Pg}
theorem TL.has0 (h : TL F lf l) (hP : PT N L B F lf) (v : Nat) : F (513 + v) ≠ none ↔ ∃ x ∈ l, x.1 / 2097152 = v := by
  constructor
  · intro hf
    obtain ⟨k, hk, hz⟩ := h.n0 (513 + v) (by omega) hf
    obtain ⟨x, hx, e, _⟩ := h.only (513 + v) k (by omega) hk hz
    have := (h.ok x hx).1
    rw [y0_val x.1 ⟨this.1, this.2.1⟩] at e
    exact ⟨x, hx, by omega⟩
  · rintro ⟨x, hx, e⟩
    have := (h.ok x hx).1
    obtain ⟨g, q, _, hq⟩ := hP.way x.1 (by rw [h.leaf x hx]; exact (h.ok x hx).ne)
    rw [y0_val x.1 ⟨this.1, this.2.1⟩, show (x.1 / 2097152).toNat = v by omega] at hq
    rw [hq]
    simp
theorem TL.has1 (h : TL F lf l) (hP : PT N L B F lf) (v : Nat) (hv : v < 512) : F (1 + v) ≠ none ↔ ∃ x ∈ l, x.1 / 1073741824 = v := by
  constructor
  · intro hf
    obtain ⟨d, hd, hc⟩ := h.n1 (1 + v) (by omega) (by omega) hf
    have hge : 513 ≤ ch (1 + v) d := by unfold ch; rw [if_neg (by omega)]; omega
    obtain ⟨k, hk, hz⟩ := h.n0 _ hge hc
    obtain ⟨x, hx, e, _⟩ := h.only _ k hge hk hz
    have := (h.ok x hx).1
    have e2 := (ch_inj (by omega) (y1_le x.1).1 hd (i1_lt _) e).1
    rw [y1_val x.1 ⟨this.1, this.2.1⟩] at e2
    exact ⟨x, hx, by omega⟩
  · rintro ⟨x, hx, e⟩
    have := (h.ok x hx).1
    obtain ⟨g, q, hg, _⟩ := hP.way x.1 (by rw [h.leaf x hx]; exact (h.ok x hx).ne)
    rw [y1_val x.1 ⟨this.1, this.2.1⟩, show (x.1 / 1073741824).toNat = v by omega] at hg
    rw [hg]
    simp
/-- P4.10: how many nodes a table has. -/
theorem TL.nodes (h : TL F lf l) (hP : PT N L B F lf) (r : Nat) : (ndl r (evs F lf 0)).length = 1 + prt (gV l) 1073741824 l.length + prt (gV l) 2097152 l.length := by
  have hb : ∀ i, i < l.length → 0 ≤ gV l i ∧ gV l i < 274877906944 := fun i hi => by
    unfold gV
    rw [List.getD_eq_getElem?_getD, List.getElem?_eq_getElem hi]
    have := (h.ok l[i] (List.getElem_mem hi)).1
    exact ⟨this.1, this.2.1⟩
  have p1 := prt_cnt (gV l) 1073741824 512 l.length (fun i hi => by have := hb i hi; omega)
  have p0 := prt_cnt (gV l) 2097152 262144 l.length (fun i hi => by have := hb i hi; omega)
  have q1 : cnt 512 (fun v => decide (F (1 + v) ≠ none)) = cnt 512 (fun v => decide (∃ i : Nat, i < l.length ∧ gV l i / 1073741824 = (v : Int))) := cnt_ext fun v hv => decide_eq_decide.2 ((h.has1 hP v hv).trans (mem_idx l (fun a => a / 1073741824 = (v : Int))).symm)
  have q0 : cnt 262144 (fun v => decide (F (513 + v) ≠ none)) = cnt 262144 (fun v => decide (∃ i : Nat, i < l.length ∧ gV l i / 2097152 = (v : Int))) := cnt_ext fun v hv => decide_eq_decide.2 ((h.has0 hP v).trans (mem_idx l (fun a => a / 2097152 = (v : Int))).symm)
  rw [ndl_nodes hP r, q1, q0, p1, p0]
end
end Go.Proofs.YtblmkkhiojbcjaaGreat
