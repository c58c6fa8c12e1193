import Derived.Test.YtnghcadhilfgnaaRfA
import Derived.RangeFuncBox
namespace Go.Proofs.Ytnghcadhilfgnaa
open Go.RowKit
set_option linter.unusedVariables false
set_option linter.unusedSimpArgs false
theorem info27q : ∃ i, Try.prog.info? 27 = some i ∧ i.zero = some (.slice .none 0 0) ∧ i.size = 1 ∧ i.bytes = 24 := by
  have h : (Try.prog.info? 27).map (fun i => (i.zero, i.size, i.bytes)) = some (some (.slice .none 0 0), 1, 24) := by kernel_rfl
  cases hq : Try.prog.info? 27 with
  | none => rw [hq] at h; cases h
  | some i =>
    rw [hq] at h
    simp only [Option.map_some, Option.some.injEq, Prod.mk.injEq] at h
    exact ⟨i, rfl, h⟩
theorem info3q : ∃ i, Try.prog.info? 3 = some i ∧ i.zero = some (.int .i64 0) ∧ i.size = 1 ∧ i.bytes = 8 := by
  have h : (Try.prog.info? 3).map (fun i => (i.zero, i.size, i.bytes)) = some (some (.int .i64 0), 1, 8) := by kernel_rfl
  cases hq : Try.prog.info? 3 with
  | none => rw [hq] at h; cases h
  | some i =>
    rw [hq] at h
    simp only [Option.map_some, Option.some.injEq, Prod.mk.injEq] at h
    exact ⟨i, rfl, h⟩
def Zq (n : Nat) : Array Value := madeCells #[.slice .none 0 0] n
theorem Zq_at (n i : Nat) (h : i < n) : (Zq n)[i]? = some (.slice .none 0 0) := by
  have : i < (Zq n).size := by unfold Zq; rw [size_madeCells]; exact h
  rw [Array.getElem?_eq_getElem this]
  simp [Zq, madeCells, Nat.mod_one]
theorem make_rows (n : Nat) (h : n ≤ 4096) (w : World) : (Instr.makeSlice 61 (.int .i64 n) (.int .i64 n)).run Try.prog w = .ok (.slice (some ⟨w.heap.size, 0, .none⟩) n n) (w.alloc (.cells (Zq n) 27)) := by
  obtain ⟨i, h1, h2, h3, h4⟩ := info27q
  have := run_make w 61 27 i (.slice .none 0 0) Try.underlying61 h1 h2 .i64 .i64 n n (by omega) (by omega) (by rw [h4]; omega) (by omega)
  rw [h3] at this
  simpa [Zq, Value.cells] using this
def iv (i : Nat) : Value := .int .i64 i
theorem cell1_new (w : World) (x : Value) (t : TypeId) : ∀ j u, [x][j]? = some u → (w.alloc (.cells #[x] t)).cell? ((⟨w.heap.size, 0, .none⟩ : Addr).add j) = some u := by
  intro j u hj
  match j, hj with
  | 0, hj => simp at hj; subst hj; rw [show (⟨w.heap.size, 0, .none⟩ : Addr).add 0 = ⟨w.heap.size, 0, .none⟩ from rfl, World.cell?_alloc_at _ _ _ _ rfl]; rfl
theorem Lf_succ (F : Nat → Int) (k : Nat) : Lf F (k + 1) = Lf F k ++ [fi (F k)] := by simp [Lf, List.range_succ]
theorem lr_of {V : World} {X c : Nat} {lv : Value} {L : List Nat} (h : V.ownsRow X 3 1 lv L.length (L.map iv)) : Lr V lv L := by
  rcases h.2 with ⟨rfl, h0⟩ | ⟨g, cap, cur, rfl, hX, hh, hn, hc, hs, ht⟩
  · exact ⟨none, 0, by rw [h0], .inl h0⟩
  · refine ⟨some ⟨g, 0, .none⟩, cap, rfl, .inr ⟨g, 0, rfl, fun j hj => ?_⟩⟩
    simp only [World.cell?, hh, Nat.zero_add]
    show cur[j]? = _
    rw [← Array.getElem?_toList, ← List.getElem?_take_of_lt (show j < L.length * 1 by omega), ht, List.getElem?_map, List.getElem?_eq_getElem hj]
    rfl
/-- The document's FromImage behind the first k free frames. -/
structure R1 (W V : World) (n nf cf nh ch : Nat) (qf qh : Option Addr) (F : Nat → Int) (k : Nat) (lv : Value) : Prop where
  i0 : V.cell? ⟨W.heap.size, 0, .none⟩ = some (.int .i64 n)
  i1 : V.cell? ⟨W.heap.size, 1, .none⟩ = some (.slice qf nf cf)
  i2 : V.cell? ⟨W.heap.size, 2, .none⟩ = some (.slice qh nh ch)
  c0 : V.cell? ⟨W.heap.size + 1 + 1, 0, .none⟩ = some (.slice (some ⟨W.heap.size + 1, 0, .none⟩) n n)
  c1 : V.cell? ⟨W.heap.size + 1 + 1, 1, .none⟩ = some lv
  g1 : V.frozen? ⟨W.heap.size + 1 + 1, 1, .none⟩ = false
  own : V.ownsRow (W.heap.size + 1 + 1 + 1) 3 1 lv k ((Lf F k).map iv)
  hz : ∀ i, i < n → V.cell? ⟨W.heap.size + 1, i, .none⟩ = some (.slice .none 0 0) ∧ V.frozen? ⟨W.heap.size + 1, i, .none⟩ = false
  be : Below W.heap.size W V
  sz : W.heap.size + 1 + 1 + 1 ≤ V.heap.size
  ok : ∀ i, i < k → bad1 (among F i) (F i) n = false
section
variable {W V : World} {n nf cf nh ch : Nat} {qf qh : Option Addr} {F : Nat → Int} {k : Nat} {lv : Value}
theorem R1.lr (h : R1 W V n nf cf nh ch qf qh F k lv) : Lr V lv (Lf F k) := lr_of (c := 0) (by rw [Lf_len]; exact h.own)
/-- The document's test of a free frame is the program's. -/
theorem bad1_nmd (hok : ∀ i, i < k → bad1 (among F i) (F i) n = false) : bad1 (among F k) (F k) n = (decide (nmd (F k) n < 1) || decide (fi (F k) ∈ Lf F k)) := by
  unfold bad1 nmd
  cases e : isFr (F k) n with
  | false => simp
  | true =>
    obtain ⟨a, b⟩ := fi_of e
    simp only [if_true, Bool.not_true, Bool.or_false]
    have e1 : (F k == 2147483648) = decide ((fi (F k) : Int) < 1) := by
      by_cases h : fi (F k) = 0
      · have : F k = 2147483648 := by rw [b, h]; rfl
        have h' : (fi (F k) : Int) < 1 := by omega
        rw [decide_eq_true h', beq_iff_eq]
        exact this
      · have : ¬ F k = 2147483648 := by omega
        have h' : ¬ (fi (F k) : Int) < 1 := by omega
        rw [decide_eq_false h', beq_eq_false_iff_ne]
        exact this
    have e2 : among F k (F k) = decide (fi (F k) ∈ Lf F k) := by
      rw [Bool.eq_iff_iff, among_iff, decide_eq_true_iff, mem_Lf]
      constructor
      · rintro ⟨j, hj, h⟩
        exact ⟨j, hj, by rw [h]⟩
      · rintro ⟨j, hj, h⟩
        have hb := hok j hj
        unfold bad1 at hb
        simp only [Bool.or_eq_false_iff, Bool.not_eq_false'] at hb
        exact ⟨j, hj, fi_inj hb.2 e h⟩
    rw [e1, e2, Bool.or_comm]
theorem ok_le (hok : ∀ i, i < k → bad1 (among F i) (F i) n = false) : k ≤ n := by
  have hfr : ∀ i, i < k → isFr (F i) n = true ∧ among F i (F i) = false := fun i hi => by
    have hb := hok i hi
    unfold bad1 at hb
    simp only [Bool.or_eq_false_iff, Bool.not_eq_false'] at hb
    exact ⟨hb.2, hb.1.1⟩
  have hnd : (Lf F k).Nodup := nodup_range fun i j h1 h2 e => by
    have a := fi_inj (hfr i (by omega)).1 (hfr j h2).1 e
    have b := (hfr j h2).2
    rw [← a, Bool.eq_false_iff] at b
    exact b ((among_iff F j _).2 ⟨i, h1, rfl⟩)
  have := nodup_le n (Lf F k) hnd (fun i hi => by
    obtain ⟨j, hj, rfl⟩ := mem_Lf.1 hi
    exact (fi_of (hfr j hj).1).1)
  rwa [Lf_len] at this
theorem below1a (w : World) (o : Obj) : Below w.heap.size w (w.alloc o) := (Below.refl _ _).alloc (Nat.le_refl _) o
theorem R1.step (h : R1 W V n nf cf nh ch qf qh F k lv) (hbad : bad1 (among F k) (F k) n = false) {o : Obj} {w5 : World} {v' : Value} (hown : w5.ownsRow (W.heap.size + 1 + 1 + 1) 3 1 v' (k + 1) ((Lf F k).map iv ++ [iv (fi (F k))])) (hg : (V.alloc o).grownBy w5 lv.ownBlock) :
    w5.cell? ⟨W.heap.size + 1 + 1, 1, .none⟩ = some lv ∧ w5.frozen? ⟨W.heap.size + 1 + 1, 1, .none⟩ = false ∧ R1 W (w5.setCell ⟨W.heap.size + 1 + 1, 1, .none⟩ v') n nf cf nh ch qf qh F (k + 1) v' := by
  have sz := h.sz
  have bl : ∀ x, x < W.heap.size + 1 + 1 + 1 → w5.heap[x]? = V.heap[x]? := fun x hx => (hg.block x (by simp only [World.size_alloc]; omega) (fun e => by have := (h.own.lt _ e.symm).1; omega)).trans (Below.heap_alloc _ _ _ (by omega))
  have cl : ∀ x o, x < W.heap.size + 1 + 1 + 1 → w5.cell? ⟨x, o, .none⟩ = V.cell? ⟨x, o, .none⟩ := fun x o hx => World.cell?_of_block (bl x hx)
  have fl : ∀ x o, x < W.heap.size + 1 + 1 + 1 → w5.frozen? ⟨x, o, .none⟩ = V.frozen? ⟨x, o, .none⟩ := fun x o hx => World.frozen?_of_block (bl x hx)
  have k1 := (cl (W.heap.size + 1 + 1) 1 (by omega)).trans h.c1
  have f1 := (fl (W.heap.size + 1 + 1) 1 (by omega)).trans h.g1
  have so : ∀ x o, x ≠ W.heap.size + 1 + 1 → (w5.setCell ⟨W.heap.size + 1 + 1, 1, .none⟩ v').cell? ⟨x, o, .none⟩ = w5.cell? ⟨x, o, .none⟩ := fun x o hx => World.cell?_setCell_other _ _ _ _ (by simp only [ne_eq, Addr.mk.injEq, not_and]; intro e; omega)
  refine ⟨k1, f1, ?_⟩
  refine ⟨?_, ?_, ?_, ?_, World.cell?_setCell_same' _ _ _ (by rw [k1]; rfl), (World.frozen?_setCell ..).trans f1, ?_, ?_, ?_, ?_, ?_⟩
  · exact (so _ 0 (by omega)).trans ((cl _ 0 (by omega)).trans h.i0)
  · exact (so _ 1 (by omega)).trans ((cl _ 1 (by omega)).trans h.i1)
  · exact (so _ 2 (by omega)).trans ((cl _ 2 (by omega)).trans h.i2)
  · exact (World.cell?_setCell_other _ _ _ _ (by simp)).trans ((cl _ 0 (by omega)).trans h.c0)
  · rw [Lf_succ, List.map_append]
    exact ownsRow_setCell_below hown (a := ⟨W.heap.size + 1 + 1, 1, .none⟩) (by show W.heap.size + 1 + 1 < _; omega) _
  · intro i hi
    exact ⟨(so _ i (by omega)).trans ((cl _ i (by omega)).trans (h.hz i hi).1), (World.frozen?_setCell ..).trans ((fl _ i (by omega)).trans (h.hz i hi).2)⟩
  · refine ((h.be.alloc (by omega) o).grown hg (by simp only [World.size_alloc]; omega) (fun r e => ?_)).setCell (p := ⟨W.heap.size + 1 + 1, 1, .none⟩) (by show W.heap.size ≤ W.heap.size + 1 + 1; omega) _
    have := (h.own.lt _ e).1
    omega
  · have := hg.size
    simp only [World.size_alloc] at this
    rw [World.size_setCell]
    omega
  · intro i hi
    by_cases e : i = k
    · rw [e]; exact hbad
    · exact h.ok i (by omega)
end
end Go.Proofs.Ytnghcadhilfgnaa
