import Derived.Test.YtjbealefopajcaaDoorGd
namespace Go.Proofs.YtjbealefopajcaaDoor
open Go Go.RowKit
set_option linter.unusedVariables false
set_option linter.unusedSimpArgs false
/-- A variable of one struct, as a row. -/
def bx (t k b : Nat) (cs : List Value) : Row := ⟨t, k, 1, .slice (some ⟨b, 0, .none⟩) 1 1, cs⟩
theorem bx_own {w : World} {base t k b : Nat} {cs : List Value} (h : w.heap[b]? = some (.cells cs.toArray t (0, 0))) (hl : cs.length = k) (hb : base ≤ b) : w.ownsRow base t k (.slice (some ⟨b, 0, .none⟩) 1 1) 1 cs :=
  ⟨by rw [hl, Nat.one_mul], .inr ⟨b, 1, cs.toArray, rfl, hb, h, Nat.le_refl _, by decide, by simp [hl], by simp [← hl]⟩⟩
theorem bx_heap {w : World} {base t k b : Nat} {cs : List Value} (h : w.ownsRow base t k (.slice (some ⟨b, 0, .none⟩) 1 1) 1 cs) : w.heap[b]? = some (.cells cs.toArray t (0, 0)) := by
  obtain ⟨h1, h2⟩ := h
  rcases h2 with ⟨h2, _⟩ | ⟨g, cap, cur, hv, _, hg, _, _, hs, ht⟩
  · cases h2
  · injection hv with e1 e2 e3
    injection e1 with e1
    injection e1 with e1
    subst e1 e3
    rw [hg]
    have : cur.toList = cs := by
      rw [← ht, List.take_of_length_le (by simp [hs])]
    rw [← this]
theorem Owns.mid {w : World} {base : Nat} {A B : List Row} {r : Row} : Owns w base (A ++ r :: B) ↔ Owns w base (r :: (A ++ B)) :=
  ⟨fun h => h.perm List.perm_middle, fun h => h.perm List.perm_middle.symm⟩
theorem Owns.appAt {w w' : World} {base : Nat} {A B : List Row} {r r' : Row} (h : Owns w base (A ++ r :: B)) (hr : w'.ownsRow base r'.e r'.sz r'.v r'.n r'.xs) (hg : w.grownBy w' r.v.ownBlock) (hv : r'.v.ownBlock = r.v.ownBlock ∨ r'.v.ownBlock = some w.heap.size) : Owns w' base (A ++ r' :: B) :=
  Owns.mid.2 ((Owns.mid.1 h).app hr hg hv)
theorem setCell_grown (w : World) (g j : Nat) (u : Value) : w.grownBy (w.setCell ⟨g, j, .none⟩ u) (some g) := ⟨rfl, rfl, rfl, by simp [World.setCell], fun k _ hk => Below.heap_setCell _ _ _ _ (fun e => hk (by rw [e]))⟩
theorem set_own {w : World} {base e sz n c g j : Nat} {xs : List Value} (h : w.ownsRow base e sz (.slice (some ⟨g, 0, .none⟩) n c) n xs) (u : Value) (hj : j < xs.length) : (w.setCell ⟨g, j, .none⟩ u).ownsRow base e sz (.slice (some ⟨g, 0, .none⟩) n c) n (xs.set j u) := by
  obtain ⟨h1, h2⟩ := h
  refine ⟨by rw [List.length_set]; exact h1, ?_⟩
  rcases h2 with ⟨h2, _⟩ | ⟨g', cap, cur, hv, hb, hg, hc, hm, hs, ht⟩
  · cases h2
  · injection hv with e1 e2 e3
    injection e1 with e1
    injection e1 with e1
    subst e1 e3
    refine .inr ⟨g, c, _, rfl, hb, setCell_heap w g j u hg, hc, hm, by simp [hs], ?_⟩
    rw [Array.toList_setIfInBounds, List.take_set, ht]
theorem Owns.setAt {w : World} {base g j n c : Nat} {A B : List Row} {r : Row} (h : Owns w base (A ++ r :: B)) (u : Value) (hv : r.v = .slice (some ⟨g, 0, .none⟩) n c) (hn : r.n = n) (hj : j < r.xs.length) : Owns (w.setCell ⟨g, j, .none⟩ u) base (A ++ ⟨r.e, r.sz, r.n, r.v, r.xs.set j u⟩ :: B) := by
  refine h.appAt ?_ ?_ (.inl rfl)
  · have := h.own r (by simp)
    rw [hv, hn] at this ⊢
    exact set_own this u hj
  · rw [hv]
    exact setCell_grown w g j u
theorem Owns.bx {w : World} {base t k b : Nat} {cs : List Value} {R : List Row} (h : Owns w base R) (hr : bx t k b cs ∈ R) : w.heap[b]? = some (.cells cs.toArray t (0, 0)) := bx_heap (h.own _ hr)
theorem Owns.cell {w : World} {base t k b : Nat} {cs : List Value} {R : List Row} (h : Owns w base R) (hr : Go.Proofs.YtjbealefopajcaaDoor.bx t k b cs ∈ R) (j : Nat) : w.cell? ⟨b, j, .none⟩ = cs[j]? ∧ w.frozen? ⟨b, j, .none⟩ = false := by
  have := h.bx hr
  refine ⟨?_, frozen_heap this⟩
  rw [cell_heap this]
  simp
/-- One variable more. -/
theorem Owns.new {w w' : World} {base t k : Nat} {cs : List Value} {R : List Row} (h : Owns w base R) (hW : w'.heap[w.heap.size]? = some (.cells cs.toArray t (0, 0))) (hb : Below w.heap.size w w') (hl : cs.length = k) (hB : base ≤ w.heap.size) : Owns w' base (Go.Proofs.YtjbealefopajcaaDoor.bx t k w.heap.size cs :: R) :=
  h.push hb (bx_own hW hl (Nat.le_refl _)) hB
theorem Owns.alloc {w : World} {base : Nat} {R : List Row} (h : Owns w base R) (o : Obj) : Owns (w.alloc o) base R := h.keep (below1 w o)
theorem slice_one (p : Option Addr) (n c : Nat) : (Value.slice p n c).oneCell' = true := rfl
theorem Sl.one {α : Type} {w : World} {X sz : Nat} {Q : α → List Value → Prop} {v : Value} {l : List α} (h : Sl w X sz Q v l) : v.oneCell' = true := by
  obtain ⟨p, c, rfl⟩ := h.form
  rfl
theorem wpList_loadG {w : World} {ops : Array Oper} {rest : List Oper} {o : Oper} {a : Act} {Q : Exit → Act → World → Prop} (t k b : Nat) (hinfo : ∃ i z, Tryd.prog.info? t = some i ∧ i.zero = some z ∧ i.size = k ∧ i.bytes = b ∧ z.cells.size = k) (d : TypeDesc) (hu : Tryd.prog.underlying t = some d) (hd : d.isRow = true) (cs : List Value) (hl : cs.length = k) (g f : Nat) (x : Operand) (hgd : o.guard = none) (ho : o.op = .load t x) (hx : a.eval x = .pointer (some ⟨g, f, .none⟩)) (hr : w.rangeAt g f cs) (e : Option Tmp) (he : o.dst = e)
    (h : wpList Tryd.prog ops Q rest (a.put e (.agg cs.toArray)) w) : wpList Tryd.prog ops Q (o :: rest) a w := by
  subst he
  obtain ⟨i, z, hi, hz, hs, hb, hzs⟩ := hinfo
  exact wpList_load_mid hgd t x ho g f hx cs d hr hu hd (by rw [hi, Option.map_some, hs, hl]) h
theorem set_bel {w : World} {B g j : Nat} (u : Value) (h : B ≤ g) : Below B w (w.setCell ⟨g, j, .none⟩ u) := (Below.refl _ _).setCell (p := ⟨g, j, .none⟩) h u
/-- 'x = append(x, e)' of one element of k cells. -/
theorem wpList_pushG {w : World} {ops : Array Oper} {rest : List Oper} {o1 o2 : Oper} {a : Act} {Q : Exit → Act → World → Prop} {base : Nat} {A B : List Row} {r : Row} (T E k b : Nat) (hinfo : ∃ i z, Tryd.prog.info? E = some i ∧ i.zero = some z ∧ i.size = k ∧ i.bytes = b ∧ z.cells.size = k) (hu : Tryd.prog.underlying T = some (.slice E)) (hk : 0 < k) (hk2 : k ≤ 1000) (hb2 : b ≤ 10000) (O : Owns w base (A ++ r :: B)) (he : r.e = E) (hsz : r.sz = k) (hn : r.n ≤ 10000000) (hbase : base ≤ w.heap.size)
    (cs : List Value) (hl : cs.length = k) (h1c : ∀ u ∈ cs, u.oneCell' = true) (s d1 : Tmp) (m : Operand) (g1 : o1.guard = none) (p1 : o1.op = .buildSlice T 1 #[(0, .tmp s)]) (q1 : o1.dst = some d1) (hs : a.eval (.tmp s) = .agg cs.toArray)
    (g2 : o2.guard = none) (p2 : o2.op = .call { callee := .builtin .append, args := #[m, .tmp d1], argTypes := #[T, T] }) (d2 : Option Tmp) (q2 : o2.dst = d2)
    (hm : (a.put (some d1) (.slice (some ⟨w.heap.size, 0, .none⟩) 1 1)).eval m = r.v) (hx : (a.put (some d1) (.slice (some ⟨w.heap.size, 0, .none⟩) 1 1)).eval (.tmp d1) = .slice (some ⟨w.heap.size, 0, .none⟩) 1 1)
    (h : ∀ v' w', Owns w' base (A ++ ⟨E, k, r.n + 1, v', r.xs ++ cs⟩ :: B) → Below base w w' → wpList Tryd.prog ops Q rest ((a.put (some d1) (.slice (some ⟨w.heap.size, 0, .none⟩) 1 1)).put d2 v') w') : wpList Tryd.prog ops Q (o1 :: o2 :: rest) a w := by
  refine wpList_sliceG T E k b hinfo hk hk2 hu cs hl s g1 p1 (some d1) q1 hs ?_
  obtain ⟨i, z, hi, hz, hsz', hb, hzs⟩ := hinfo
  have O' := O.alloc (.cells cs.toArray E)
  have hr := O'.own r (by simp)
  rw [he, hsz] at hr
  have hh : (w.alloc (.cells cs.toArray E)).heap[w.heap.size]? = some (.cells cs.toArray E (0, 0)) := by
    show (w.heap.push _)[w.heap.size]? = _
    simp
  refine wpList_append_own_at _ g2 m (.tmp d1) T p2 base E i z k b hu hi hz hsz' hb hzs hk r.v r.n r.xs hm hr ⟨w.heap.size, 0, .none⟩ 1 1 cs hx (by rw [hl, Nat.one_mul]) (fun j u hj => by rw [Addr.add_mid]; exact range_heap hh j u hj) h1c (by unfold maxLen; omega) ?_ (by simp; omega) ?_
  · calc (r.n + 1) * b ≤ 10000001 * 10000 := Nat.mul_le_mul (by omega) hb2
      _ ≤ _ := by decide
  intro v' w' hown hg hnil hloc
  rw [q2]
  refine h v' w' (O'.appAt hown hg hloc) ?_
  refine ⟨hg.os, hg.tape, hg.output, Nat.le_trans (by simp) hg.size, fun q hq => ?_⟩
  refine (hg.block q (by simp; omega) (fun e => ?_)).trans (Below.heap_alloc _ _ _ (by omega))
  have := (hr.lt q e.symm).1
  omega
end Go.Proofs.YtjbealefopajcaaDoor
