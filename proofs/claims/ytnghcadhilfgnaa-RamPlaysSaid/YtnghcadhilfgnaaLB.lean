import Derived.Test.YtnghcadhilfgnaaLAf
import Derived.Stop.RegionWithIn
namespace Go.Proofs.Ytnghcadhilfgnaa
open Go.RowKit Go.Shelf
set_option linter.unusedVariables false
set_option linter.unusedSimpArgs false
section
variable {Z : Nat} {W V : World} {x p b m q hb lb lb2 N : Nat} {fb fb2 : Nat → Nat} {B B2 : Nat → Int} {L L2 : List Nat}
theorem Pq.kept (h : Pq Z W x p b m q hb fb lb N B L B L) (hs : W.heap.size ≤ V.heap.size) (hk : ∀ k, (Mb p b m q hb lb N fb L k ∨ k = x) → V.heap[k]? = W.heap[k]?) : Pq Z V x p b m q hb fb lb N B L B L := by
  refine ⟨h.r.keep (hk p (.inl (.inl (.inl rfl)))) (hk b (.inl (.inl (.inr (.inl rfl))))) (hk m (.inl (.inl (.inr (.inr rfl))))), h.qm.keep hs (fun c _ e => hk c (.inl (.inr ?_))), h.ap, (World.cell?_of_block (hk x (.inr rfl))).trans h.x0, (World.cell?_of_block (hk x (.inr rfl))).trans h.x1, (World.frozen?_of_block (hk x (.inr rfl))).trans h.f0, (World.frozen?_of_block (hk x (.inr rfl))).trans h.f1, h.xm, h.zx, h.zm⟩
  rcases e with e | e | e | e
  · exact .inl e
  · exact .inr (.inl e)
  · exact .inr (.inr (.inl e))
  · exact .inr (.inr (.inr e))
theorem Pq.cells (h : Pq Z W x p b m q hb fb lb N B L B L) (k : Nat) (hk : Mb p b m q hb lb N fb L k ∨ k = x) (hm : k ≠ m) : ∃ o : Obj, W.heap[k]? = some o ∧ o.isCells = true := by
  have n1 := h.r.mem.n1
  rcases hk with ((e | e | e) | e | e | ⟨e, hn⟩ | ⟨i, hi, hL, e⟩) | e
  · rw [e]; exact cells_of_cell h.r.mem.c0
  · rw [e]; exact cells_of_cell (h.r.mem.cb 0 (by omega))
  · exact absurd e hm
  · rw [e]; exact cells_of_cell h.qm.c0
  · rw [e]; exact cells_of_cell (h.qm.hh 0 (by omega) h.qm.z)
  · obtain ⟨lp, lc, _, hc⟩ := h.qm.list_at
    have : 0 < L.length := List.length_pos_iff.2 hn
    obtain ⟨lo, _, hc⟩ := hc 0 this
    rw [e]; exact cells_of_cell hc
  · rw [e]; exact cells_of_cell (h.qm.cb i hi hL 0 (by omega))
  · rw [e]; exact cells_of_cell h.x0
theorem Pq.uniq (h : Pq Z W x p b m q hb fb lb N B L B L) (h2 : Pq Z W x p b m q hb fb2 lb2 N B2 L2 B2 L2) (k : Nat) (hk : Mb p b m q hb lb N fb L k) : Mb p b m q hb lb2 N fb2 L2 k := by
  have mem : ∀ i, i < N → (i ∈ L ↔ i ∈ L2) := fun i hi => by
    by_cases a : i ∈ L
    · by_cases c : i ∈ L2
      · simp [a, c]
      · have e := (h.qm.hf i hi a).symm.trans (h2.qm.hh i hi c)
        cases e
    · by_cases c : i ∈ L2
      · have e := (h.qm.hh i hi a).symm.trans (h2.qm.hf i hi c)
        cases e
      · simp [a, c]
  rcases hk with e | e | e | ⟨e, hn⟩ | ⟨i, hi, hL, e⟩
  · exact .inl e
  · exact .inr (.inl e)
  · exact .inr (.inr (.inl e))
  · cases L with
    | nil => exact absurd rfl hn
    | cons i l =>
      have hi2 : i ∈ L2 := (mem i (h.qm.rg i (by simp)).2).1 (by simp)
      have n2 : L2 ≠ [] := List.ne_nil_of_mem hi2
      obtain ⟨lp, lc, c1, hc⟩ := h.qm.list_at
      obtain ⟨lp2, lc2, c2, hc2⟩ := h2.qm.list_at
      obtain ⟨lo, e1, _⟩ := hc 0 (by simp)
      obtain ⟨lo2, e2, _⟩ := hc2 0 (List.length_pos_iff.2 n2)
      have := c1.symm.trans c2
      simp only [Option.some.injEq, Value.slice.injEq, e1, e2, Addr.mk.injEq, and_true] at this
      exact .inr (.inr (.inr (.inl ⟨e.trans this.1.1, n2⟩)))
  · have hL2 : i ∉ L2 := fun c => hL ((mem i hi).2 c)
    have := (h.qm.hh i hi hL).symm.trans (h2.qm.hh i hi hL2)
    simp only [Option.some.injEq, Value.slice.injEq, Addr.mk.injEq, and_true] at this
    exact .inr (.inr (.inr (.inr ⟨i, hi, hL2, e.trans this⟩)))
end
/-- The block g is none of both memories' now. -/
def GoodR (Z x p b m q hb N kb : Nat) (g : Nat) (W : World) : Prop := g ≠ kb ∧ ∃ fb lb B L, Pq Z W x p b m q hb fb lb N B L B L ∧ ¬ Mb p b m q hb lb N fb L g
def KpR (Z x p b m q hb N kb : Nat) (W W' : World) : Prop := ∀ g c t f, W.heap[g]? = some (.cells c t f) → GoodR Z x p b m q hb N kb g W → W'.heap[g]? = some (.cells c t f) ∧ GoodR Z x p b m q hb N kb g W'
section
variable {Z x p b m q hb N kb : Nat}
theorem KpR.trans {A B C : World} (h : KpR Z x p b m q hb N kb A B) (k : KpR Z x p b m q hb N kb B C) : KpR Z x p b m q hb N kb A C := fun g c t f h1 h2 => by
  obtain ⟨a1, a2⟩ := h g c t f h1 h2
  exact k g c t f a1 a2
theorem KpR.put (W : World) (l : Nat) (o o' : Obj) (hm : m ≠ l) (h : W.heap[l]? = some o) (ho : o.isCells = false) : KpR Z x p b m q hb N kb W (W.putObj l o') := fun g c t f h1 h2 => by
  obtain ⟨gk, fb, lb, B, L, hP, hg⟩ := h2
  have gl : g ≠ l := fun e => by rw [e, h] at h1; cases h1; cases ho
  refine ⟨(World.putObj_heap_other gl).trans h1, gk, fb, lb, B, L, hP.kept (grownBy_putObj' W l o').size (fun k hk => World.putObj_heap_other (fun e => ?_)), hg⟩
  subst e
  obtain ⟨o2, h3, h4⟩ := hP.cells k hk (Ne.symm hm)
  rw [h] at h3
  cases h3
  rw [ho] at h4
  cases h4
/-- How the ranging stands while frames are taken and given back. -/
def RI (Z x p b m q hb N kb : Nat) (Y : World) (M0 : Nat → Prop) (L0 pre : List Nat) (W : World) : Prop := ∃ fb lb B L, Pq Z W x p b m q hb fb lb N B L B L ∧ (∀ k, Mb p b m q hb lb N fb L k → M0 k ∨ Y.heap.size ≤ k) ∧ Fx (fun i => i = kb ∨ M0 i) Y W ∧ W.cell? ⟨kb, 0, .none⟩ = some (.int .i64 pre.length) ∧ W.frozen? ⟨kb, 0, .none⟩ = false ∧ pre <+: L0
theorem RI.own {Y : World} {M0 : Nat → Prop} {L0 : List Nat} (hmY : m < Y.heap.size) : OwnFrom Y.heap.size (RI Z x p b m q hb N kb Y M0 L0) := fun s A B row hs hg hr => by
  obtain ⟨fb, lb, Bf, L, hP, hn, hf, hk, hkf, hpre⟩ := hs
  refine ⟨fb, lb, Bf, L, hP.kept hg.size (fun k hk' => hg.block k ?_ (fun e => ?_)), hn, ⟨hg.os.trans hf.os, hg.tape.trans hf.tape, hg.output.trans hf.output, Nat.le_trans hf.size hg.size, fun i hi hne => (hg.block i (Nat.lt_of_lt_of_le hi hf.size) (fun e => by have := (hr i e.symm).1; omega)).trans (hf.block i hi hne)⟩, cell_kept hk hg (fun r e => (hr r e).2), (frozen_kept hk hg (fun r e => (hr r e).2)).trans hkf, hpre⟩
  · rcases hk' with e | e
    · exact hP.mlt k e
    · rw [e]; exact hP.xlt
  · obtain ⟨hY, o, ho, hc⟩ := hr k e.symm
    obtain ⟨o2, h3, h4⟩ := hP.cells k hk' (by omega)
    rw [ho] at h3
    cases h3
    rw [hc] at h4
    cases h4
end
end Go.Proofs.Ytnghcadhilfgnaa
