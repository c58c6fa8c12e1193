import Derived.Test.YtbpgdepgplmpnaaImgs
import Derived.Test.YtbpgdepgplmpnaaApart
namespace Go.Proofs.Ytbpgdepgplmpnaa
open Go.RowKit
set_option linter.unusedVariables false
set_option linter.unusedSimpArgs false
/-- The cells of a list of frames. -/
def flat2 : List (Int × Value) → List Value
  | [] => []
  | x :: l => .int .u64 x.1 :: x.2 :: flat2 l
theorem flat2_append : ∀ (l : List (Int × Value)) (x : Int × Value), flat2 (l ++ [x]) = flat2 l ++ [.int .u64 x.1, x.2]
  | [], x => rfl
  | y :: l, x => by simp only [List.cons_append, flat2, flat2_append l x]
theorem flat2_at : ∀ (l : List (Int × Value)) (j : Nat) (x : Int × Value), l[j]? = some x → (flat2 l)[j * 2]? = some (.int .u64 x.1) ∧ (flat2 l)[j * 2 + 1]? = some x.2
  | [], j, x, h => by simp at h
  | y :: l, 0, x, h => by simp only [List.getElem?_cons_zero, Option.some.injEq] at h; subst h; exact ⟨rfl, rfl⟩
  | y :: l, j + 1, x, h => by
    have := flat2_at l j x (by simpa using h)
    rw [show (j + 1) * 2 = j * 2 + 1 + 1 by omega]
    exact this
def rowB (n : Nat) (R : Nat → Int) : List Value := (List.range n).map fun i => .int .u8 (R i)
theorem see_own {W : World} {X n c : Nat} {d : Option Addr} {R : Nat → Int} (h : W.ownsRow X 5 1 (.slice d n c) n (rowB n R)) : See W .u8 d n R := by
  by_cases hn : n = 0
  · exact .inl hn
  · obtain ⟨g, rfl, _, hg⟩ := row_shape h (by omega)
    refine .inr ⟨g, 0, rfl, hg, fun i hi => ?_⟩
    rw [Nat.zero_add]
    refine (h.cellAt i (by omega)).trans ?_
    simp [rowB, List.getElem?_range hi]
/-- What stands while a twin is made: 'a' is the twin's own variable. -/
structure TSt (w W : World) (X a : Nat) (N : Int) (nf cf i : Nat) (qf : Option Addr) (F P : Nat → Int) (ln : Nat → Nat) (R : Nat → Nat → Int) (hs : List (Int × Value)) (q2 : Option Addr) (c2 : Nat) : Prop where
  len : hs.length = i
  at_ : ∀ j, j < i → ∃ d c, hs[j]? = some (P j, .slice d (ln j) c) ∧ W.ownsRow X 5 1 (.slice d (ln j) c) (ln j) (rowB (ln j) (R j))
  c : C3 W a (.int .i64 N) (.slice qf nf cf) (.slice q2 i c2)
  r : C3 W (w.heap.size + 1) (.int .i64 0) (.slice .none 0 0) (.slice .none 0 0)
  fr : nf = 0 ∨ ∃ g o, qf = some ⟨g, o, .none⟩ ∧ g < X ∧ (g ≠ a ∧ w.heap.size + 1 < g) ∧ ∀ k, k < nf → W.cell? ⟨g, o + k, .none⟩ = some (.int .u64 (F k))
  hr : W.ownsRow X 76 2 (.slice q2 i c2) i (flat2 hs)
  be : Below w.heap.size w W
  xs : X ≤ W.heap.size
theorem TSt.below {w W W' : World} {X a : Nat} {N : Int} {nf cf i : Nat} {qf : Option Addr} {F P : Nat → Int} {ln : Nat → Nat} {R : Nat → Nat → Int} {hs : List (Int × Value)} {q2 : Option Addr} {c2 : Nat} (h : TSt w W X a N nf cf i qf F P ln R hs q2 c2) (k : Below W.heap.size W W') : TSt w W' X a N nf cf i qf F P ln R hs q2 c2 := by
  refine ⟨h.len, fun j hj => ?_, h.c.below k, h.r.below k, ?_, owns_below h.hr k, h.be.trans (k.mono h.be.size), Nat.le_trans h.xs k.size⟩
  · obtain ⟨d, c, h1, h2⟩ := h.at_ j hj
    exact ⟨d, c, h1, owns_below h2 k⟩
  · rcases h.fr with h0 | ⟨g, o, hq, hg, ha, hc⟩
    · exact .inl h0
    · exact .inr ⟨g, o, hq, hg, ha, fun j hj => (k.cell (p := ⟨g, o + j, .none⟩) (Nat.lt_of_lt_of_le hg h.xs)).trans (hc j hj)⟩
theorem TSt.step {w W w5 : World} {X a : Nat} {N : Int} {nf cf i : Nat} {qf : Option Addr} {F P : Nat → Int} {ln : Nat → Nat} {R : Nat → Nat → Int} {hs : List (Int × Value)} {q2 : Option Addr} {c2 g1 cap1 : Nat} {d : Option Addr} {cd : Nat} {ob : Obj} (h : TSt w W X a N nf cf i qf F P ln R hs q2 c2) (hX : w.heap.size + 1 + 1 ≤ a) (haX : a < X)
    (hd : W.ownsRow X 5 1 (.slice d (ln i) cd) (ln i) (rowB (ln i) (R i)))
    (hown : w5.ownsRow X 76 2 (.slice (some ⟨g1, 0, .none⟩) (i + 1) cap1) (i + 1) (flat2 hs ++ [.int .u64 (P i), .slice d (ln i) cd])) (hgr : (W.alloc ob).grownBy w5 (Value.ownBlock (.slice q2 i c2))) :
    TSt w (w5.setCell ⟨a, 2, .none⟩ (.slice (some ⟨g1, 0, .none⟩) (i + 1) cap1)) X a N nf cf (i + 1) qf F P ln R (hs ++ [(P i, .slice d (ln i) cd)]) (some ⟨g1, 0, .none⟩) cap1 := by
  have hr : ∀ k, Value.ownBlock (.slice q2 i c2) = some k → X ≤ k ∧ k < W.heap.size := fun k hk => h.hr.lt k hk
  have hsz : W.heap.size ≤ w5.heap.size := by have := hgr.size; simp only [World.size_alloc] at this; omega
  have hg1 : X ≤ g1 := (hown.lt g1 rfl).1
  have hXW := h.xs
  have blk : ∀ k, k < W.heap.size → Value.ownBlock (.slice q2 i c2) ≠ some k → w5.heap[k]? = W.heap[k]? := fun k hk hne => (hgr.block k (by simp; omega) (fun e => hne e.symm)).trans (Below.heap_alloc W _ k hk)
  have nb : ∀ k, k < X → Value.ownBlock (.slice q2 i c2) ≠ some k := fun k hk e => by have := (hr k e).1; omega
  have c5 : ∀ i k, k < X → w5.cell? ⟨k, i, .none⟩ = W.cell? ⟨k, i, .none⟩ := fun i k hk => World.cell?_of_block (blk k (by omega) (nb k hk))
  have f5 : ∀ i k, k < X → w5.frozen? ⟨k, i, .none⟩ = W.frozen? ⟨k, i, .none⟩ := fun i k hk => World.frozen?_of_block (blk k (by omega) (nb k hk))
  have G := grown_setCell w5 a 2 (.slice (some ⟨g1, 0, .none⟩) (i + 1) cap1)
  have keep : ∀ d n c xs, W.ownsRow X 5 1 (.slice d n c) n xs → (w5.setCell ⟨a, 2, .none⟩ (.slice (some ⟨g1, 0, .none⟩) (i + 1) cap1)).ownsRow X 5 1 (.slice d n c) n xs := fun d n c xs hx => by
    refine ((hx.alloc ob).kept hgr (kinds_apart hx h.hr (by decide))).kept G ?_
    rcases hx.2 with ⟨e, _⟩ | ⟨gg, _, _, e, hgg, _⟩
    · rw [e]; exact .inl rfl
    · rw [e]; exact .inr (by simp only [Value.ownBlock]; intro e; cases e; omega)
  obtain ⟨a0, a1, a2, z0, z1, z2⟩ := h.c
  obtain ⟨b0, b1, b2, y0, y1, y2⟩ := h.r
  refine ⟨by rw [List.length_append, h.len]; rfl, fun j hj => ?_, ?_, ?_, ?_, ?_, ?_, Nat.le_trans hXW (Nat.le_trans hsz G.size)⟩
  · by_cases e : j = i
    · subst e
      exact ⟨d, cd, by rw [List.getElem?_append_right (by rw [h.len]; exact Nat.le_refl _), h.len]; simp, keep _ _ _ _ hd⟩
    · obtain ⟨d', c', h1, h2⟩ := h.at_ j (by omega)
      exact ⟨d', c', by rw [List.getElem?_append_left (by rw [h.len]; omega)]; exact h1, keep _ _ _ _ h2⟩
  · refine ⟨?_, ?_, World.cell?_setCell_same' _ _ _ (by rw [c5 2 _ (by omega), a2]; rfl), ?_, ?_, ?_⟩
    · rw [World.cell?_setCell_other _ _ _ _ (by simp), c5 0 _ (by omega)]; exact a0
    · rw [World.cell?_setCell_other _ _ _ _ (by simp), c5 1 _ (by omega)]; exact a1
    · rw [World.frozen?_setCell, f5 0 _ (by omega)]; exact z0
    · rw [World.frozen?_setCell, f5 1 _ (by omega)]; exact z1
    · rw [World.frozen?_setCell, f5 2 _ (by omega)]; exact z2
  · have ho : ∀ j, (w5.setCell ⟨a, 2, .none⟩ (.slice (some ⟨g1, 0, .none⟩) (i + 1) cap1)).cell? ⟨w.heap.size + 1, j, .none⟩ = W.cell? ⟨w.heap.size + 1, j, .none⟩ := fun j => by
      rw [World.cell?_setCell_other _ _ _ _ (by first | (simp; done) | (simp; intro h; omega) | (intro e; injection e with e; omega)), c5 j _ (by omega)]
    refine ⟨(ho 0).trans b0, (ho 1).trans b1, (ho 2).trans b2, ?_, ?_, ?_⟩
    · rw [World.frozen?_setCell, f5 0 _ (by omega)]; exact y0
    · rw [World.frozen?_setCell, f5 1 _ (by omega)]; exact y1
    · rw [World.frozen?_setCell, f5 2 _ (by omega)]; exact y2
  · rcases h.fr with h0 | ⟨g, o, hq, hg, ha, hc⟩
    · exact .inl h0
    · exact .inr ⟨g, o, hq, hg, ha, fun k hk => by
        rw [World.cell?_setCell_other _ _ _ _ (by first | (simp; done) | (simp; intro h; omega) | (intro e; injection e with e; omega)), c5 (o + k) _ hg]
        exact hc k hk⟩
  · rw [flat2_append]
    exact hown.kept G (.inr (by simp only [Value.ownBlock]; intro e; cases e; omega))
  · have hBA := h.be.alloc h.be.size ob
    exact (hBA.grown hgr hBA.size (fun k hk => by have := (hr k hk).1; have := h.be.size; omega)).setCell (p := ⟨a, 2, .none⟩) (by show w.heap.size ≤ a; omega) _
/-- The held frames of a twin. -/
theorem seeH_rows {W : World} {X i c2 : Nat} {P : Nat → Int} {ln : Nat → Nat} {R : Nat → Nat → Int} {hs : List (Int × Value)} {q2 : Option Addr} (hr : W.ownsRow X 76 2 (.slice q2 i c2) i (flat2 hs)) (hat : ∀ j, j < i → ∃ d c, hs[j]? = some (P j, .slice d (ln j) c) ∧ W.ownsRow X 5 1 (.slice d (ln j) c) (ln j) (rowB (ln j) (R j))) : SeeH W q2 i P ln R := by
  by_cases hi : i = 0
  · exact .inl hi
  · rcases hr.2 with ⟨_, h0⟩ | ⟨g, cap, cur, e, hX, hh, _⟩
    · omega
    · injection e with e _ _
      subst e
      refine .inr ⟨g, 0, rfl, (Array.getElem?_eq_some_iff.1 hh).1, fun j hj => ?_⟩
      obtain ⟨d, c, h1, h2⟩ := hat j hj
      have hf := flat2_at hs j _ h1
      rw [Nat.zero_add]
      exact ⟨(hr.cellAt (j * 2) (by omega)).trans hf.1, d, c, (hr.cellAt (j * 2 + 1) (by omega)).trans hf.2, see_own h2⟩
theorem row_set3 {W : World} {X e s n b : Nat} {v : Value} {xs : List Value} (h : W.ownsRow X e s v n xs) (hb : b < X) (x y z : Value) : (((W.setCell ⟨b, 0, .none⟩ x).setCell ⟨b, 1, .none⟩ y).setCell ⟨b, 2, .none⟩ z).ownsRow X e s v n xs := by
  have key : v.ownBlock = none ∨ v.ownBlock ≠ some b := by
    rcases h.2 with ⟨e, _⟩ | ⟨gg, _, _, e, hgg, _⟩
    · rw [e]; exact .inl rfl
    · rw [e]; exact .inr (by simp only [Value.ownBlock]; intro e; cases e; omega)
  exact ((h.kept (grown_setCell W b 0 x) key).kept (grown_setCell _ b 1 y) key).kept (grown_setCell _ b 2 z) key
theorem TSt.fin {w W : World} {X a : Nat} {N : Int} {nf cf i : Nat} {qf : Option Addr} {F P : Nat → Int} {ln : Nat → Nat} {R : Nat → Nat → Int} {hs : List (Int × Value)} {q2 : Option Addr} {c2 : Nat} (h : TSt w W X a N nf cf i qf F P ln R hs q2 c2) (hX : w.heap.size + 1 + 1 ≤ a) (haX : a < X) (x y z : Value) :
    See (((W.setCell ⟨w.heap.size + 1, 0, .none⟩ x).setCell ⟨w.heap.size + 1, 1, .none⟩ y).setCell ⟨w.heap.size + 1, 2, .none⟩ z) .u64 qf nf F ∧ SeeH (((W.setCell ⟨w.heap.size + 1, 0, .none⟩ x).setCell ⟨w.heap.size + 1, 1, .none⟩ y).setCell ⟨w.heap.size + 1, 2, .none⟩ z) q2 i P ln R ∧ Below w.heap.size w (((W.setCell ⟨w.heap.size + 1, 0, .none⟩ x).setCell ⟨w.heap.size + 1, 1, .none⟩ y).setCell ⟨w.heap.size + 1, 2, .none⟩ z) := by
  have hs9 : (((W.setCell ⟨w.heap.size + 1, 0, .none⟩ x).setCell ⟨w.heap.size + 1, 1, .none⟩ y).setCell ⟨w.heap.size + 1, 2, .none⟩ z).heap.size = W.heap.size := by simp only [World.size_setCell]
  refine ⟨?_, seeH_rows (row_set3 h.hr (by omega) _ _ _) (fun j hj => ?_), ((h.be.setCell (p := ⟨w.heap.size + 1, 0, .none⟩) (by show w.heap.size ≤ w.heap.size + 1; omega) _).setCell (p := ⟨w.heap.size + 1, 1, .none⟩) (by show w.heap.size ≤ w.heap.size + 1; omega) _).setCell (p := ⟨w.heap.size + 1, 2, .none⟩) (by show w.heap.size ≤ w.heap.size + 1; omega) _⟩
  · rcases h.fr with h0 | ⟨g, o, hq, hg, ha, hc⟩
    · exact .inl h0
    · refine .inr ⟨g, o, hq, by rw [hs9]; have := h.xs; omega, fun k hk => ?_⟩
      have e : (((W.setCell ⟨w.heap.size + 1, 0, .none⟩ x).setCell ⟨w.heap.size + 1, 1, .none⟩ y).setCell ⟨w.heap.size + 1, 2, .none⟩ z).heap[g]? = W.heap[g]? := by
        rw [Below.heap_setCell _ _ _ _ (by show g ≠ w.heap.size + 1; omega), Below.heap_setCell _ _ _ _ (by show g ≠ w.heap.size + 1; omega), Below.heap_setCell _ _ _ _ (by show g ≠ w.heap.size + 1; omega)]
      exact (World.cell?_of_block (a := ⟨g, o + k, .none⟩) e).trans (hc k hk)
  · obtain ⟨d, c, h1, h2⟩ := h.at_ j hj
    exact ⟨d, c, h1, row_set3 h2 (by omega) _ _ _⟩
end Go.Proofs.Ytbpgdepgplmpnaa
