import Derived.Test.YtjbealefopajcaaDoorVc
import Derived.Lib.FrozenHead
namespace Go.Proofs.YtjbealefopajcaaDoor
open Go Go.RowKit Rg
set_option linter.unusedVariables false
set_option linter.unusedSimpArgs false
/-! A row of bytes that came of a string: what lies behind its end is marked. -/
def behindB (cur : Array Value) (fz : Nat × Nat) : Prop := fz.2 = 0 ∨ cur.size ≤ fz.1
def ownT (w : World) (base : Nat) (v : Value) (ys : List Int) : Prop := ∃ g cap cur fz, v = .slice (some ⟨g, 0, .none⟩) ys.length cap ∧ base ≤ g ∧ w.heap[g]? = some (.cells cur 5 fz) ∧ behindB cur fz ∧ ys.length ≤ cap ∧ cap ≤ maxLen ∧ cur.size = cap ∧ cur.toList.take ys.length = by8 ys
theorem run_storeT (g o : Nat) (fz : Nat × Nat) (vs : List Value) : ∀ (i : Nat) (cur : Array Value) (w : World), w.heap[g]? = some (.cells cur 5 fz) → behindB cur fz → o + i + vs.length ≤ cur.size → (∀ v ∈ vs, v.oneCell' = true) →
    (storeCells ⟨g, o, .none⟩ vs i).run Tryd.prog w = .ok () (w.setRow g (cur.toList.take (o + i) ++ vs ++ cur.toList.drop (o + i + vs.length)).toArray) := by
  induction vs with
  | nil =>
    intro i cur w hg _ _ _
    simp only [storeCells, List.append_nil, List.length_nil, Nat.add_zero, List.take_append_drop, Array.toArray_toList]
    rw [setRow_self w g cur 5 fz hg]
    rfl
  | cons v vs ih =>
    intro i cur w hg hf hl h1
    rw [List.length_cons] at hl
    have hi : o + i < cur.size := by omega
    have ha : (⟨g, o, .none⟩ : Addr).add i = ⟨g, o + i, .none⟩ := le_addr_add g o i
    have hc : w.cell? ⟨g, o + i, .none⟩ = some cur[o + i] := by simp [World.cell?, hg, hi]
    have hz : w.frozen? ⟨g, o + i, .none⟩ = false := by
      obtain ⟨lo, hi'⟩ := fz
      simp only [World.frozen?, hg, Bool.and_eq_false_iff, decide_eq_false_iff_not]
      rcases hf with hf | hf
      · right; simp only at hf; omega
      · left; simp only at hf; omega
    have hst : (store ((⟨g, o, .none⟩ : Addr).add i) v).run Tryd.prog w = .ok () (w.setRow g (cur.setIfInBounds (o + i) v)) := by
      rw [ha, run_store Tryd.prog w _ v _ (h1 v (by simp)), hc]
      simp [hz, setCell_eq_setRow w g (o + i) cur 5 fz v hg]
    have h2 := ih (i + 1) (cur.setIfInBounds (o + i) v) (w.setRow g (cur.setIfInBounds (o + i) v)) (setRow_heap w g cur _ 5 fz hg) (by unfold behindB at *; simpa using hf) (by simp; omega) (fun u hu => h1 u (by simp [hu]))
    simp only [storeCells, Sem.run_bind, hst, Result.andThen_ok, h2, setRow_setRow]
    congr 3
    have e := list_seg_step cur.toList (o + i) v vs (by simp; omega)
    simpa [Array.toList_setIfInBounds, Nat.add_assoc] using e
theorem ownT.cells {w : World} {base g n c : Nat} {ys : List Int} (h : ownT w base (.slice (some ⟨g, 0, .none⟩) n c) ys) : ∀ j v, (by8 ys)[j]? = some v → w.cell? ((⟨g, 0, .none⟩ : Addr).add j) = some v := by
  obtain ⟨g', cap, cur, fz, hv, hb, hg, _, h1, h2, h3, h4⟩ := h
  cases hv
  intro j v hj
  rw [le_addr_add, Nat.zero_add]
  rw [← h4, List.getElem?_take] at hj
  split at hj
  · rw [cell_heap hg]
    simpa using hj
  · cases hj
theorem ownT.lt {w : World} {base : Nat} {v : Value} {ys : List Int} (h : ownT w base v ys) : ∀ k, v.ownBlock = some k → base ≤ k ∧ k < w.heap.size := by
  obtain ⟨g, cap, cur, fz, rfl, hb, hg, _⟩ := h
  intro k hk
  cases hk
  exact ⟨hb, hp_lt hg⟩
theorem ownT.form {w : World} {base : Nat} {v : Value} {ys : List Int} (h : ownT w base v ys) : ∃ g c, v = .slice (some ⟨g, 0, .none⟩) ys.length c := by
  obtain ⟨g, cap, cur, fz, rfl, _⟩ := h
  exact ⟨g, cap, rfl⟩
theorem ownT.bel {w w' : World} {base : Nat} {v : Value} {ys : List Int} (h : ownT w base v ys) (hb : Below w.heap.size w w') : ownT w' base v ys := by
  obtain ⟨g, cap, cur, fz, hv, h1, hg, r⟩ := h
  exact ⟨g, cap, cur, fz, hv, h1, (hb.block g (hp_lt hg)).trans hg, r⟩
/-- Bytes laid down behind its end, where there is room. -/
theorem storeT {w : World} {base g n c : Nat} {ys zs : List Int} (h : ownT w base (.slice (some ⟨g, 0, .none⟩) n c) ys) (hr : n + zs.length ≤ c) :
    ∃ cs, (storeCells ⟨g, n, .none⟩ (by8 zs) 0).run Tryd.prog w = .ok () (w.setRow g cs) ∧ ownT (w.setRow g cs) base (.slice (some ⟨g, 0, .none⟩) (n + zs.length) c) (ys ++ zs) ∧ w.grownBy (w.setRow g cs) (some g) := by
  obtain ⟨g', cap, cur, fz, hv, hb, hg, hf, h1, h2, h3, h4⟩ := h
  cases hv
  have hst := run_storeT g ys.length fz (by8 zs) 0 cur w hg hf (by rw [by8_len]; omega) (by8_one zs)
  rw [Nat.add_zero, by8_len, h4] at hst
  refine ⟨_, hst, ⟨g, c, _, fz, by rw [List.length_append], hb, setRow_heap w g cur _ 5 fz hg, ?_, by rw [List.length_append]; exact hr, h2, ?_, ?_⟩, ⟨rfl, rfl, rfl, by simp, fun k _ hk => setRow_other w g k _ (fun e => hk (by rw [e]))⟩⟩
  · unfold behindB at *
    simp only [List.size_toArray, List.length_append, by8_len, List.length_drop, Array.length_toList]
    omega
  · simp only [List.size_toArray, List.length_append, by8_len, List.length_drop, Array.length_toList]
    omega
  · simp only []
    rw [← by8_app, List.take_append_of_le_length (by rw [by8_len]; exact Nat.le_refl _)]
    rw [List.take_of_length_le (by rw [by8_len]; exact Nat.le_refl _)]
theorem ownT_of {w : World} {base n : Nat} {v : Value} {ys : List Int} (h : w.ownsRow base 5 1 v n (by8 ys)) (hn : ys.length = n) (h0 : 0 < n) : ownT w base v ys := by
  rcases h.2 with ⟨_, h1⟩ | ⟨g, cap, cur, hv, hb, hg, h1, h2, h3, h4⟩
  · omega
  · exact ⟨g, cap, cur, (0, 0), by rw [hv, hn], hb, hg, .inl rfl, by omega, h2, by omega, by rw [hn]; simpa using h4⟩
end Go.Proofs.YtjbealefopajcaaDoor
