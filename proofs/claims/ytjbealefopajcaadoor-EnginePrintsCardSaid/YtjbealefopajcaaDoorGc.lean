import Derived.Test.YtjbealefopajcaaDoorGa
namespace Go.Proofs.YtjbealefopajcaaDoor
open Go Go.RowKit
set_option linter.unusedVariables false
set_option linter.unusedSimpArgs false
structure Row where
  e : Nat
  sz : Nat
  n : Nat
  v : Value
  xs : List Value
def blks (R : List Row) : List Nat := R.filterMap (·.v.ownBlock)
structure Owns (w : World) (base : Nat) (R : List Row) : Prop where
  own : ∀ r ∈ R, w.ownsRow base r.e r.sz r.v r.n r.xs
  nd : (blks R).Nodup
theorem own_bel {w w' : World} {base e k n B : Nat} {v : Value} {xs : List Value} (h : w.ownsRow base e k v n xs) (hb : Below B w w') (hB : ∀ g, v.ownBlock = some g → g < B) : w'.ownsRow base e k v n xs := by
  obtain ⟨h1, h2⟩ := h
  refine ⟨h1, h2.imp id ?_⟩
  rintro ⟨g, cap, cur, rfl, hbg, hg, r⟩
  exact ⟨g, cap, cur, rfl, hbg, (hb.block g (hB g rfl)).trans hg, r⟩
theorem own_form {w : World} {base e n sz : Nat} {m : Value} {zs : List Value} (h : w.ownsRow base e sz m n zs) : ∃ p c, m = .slice p n c := by
  rcases h.2 with ⟨rfl, h0⟩ | ⟨g, cap, cur, rfl, _⟩
  · exact ⟨none, 0, by rw [h0]⟩
  · exact ⟨_, _, rfl⟩
theorem Owns.nil (w : World) (base : Nat) : Owns w base [] := ⟨fun r h => (nomatch h), List.nodup_nil⟩
theorem Owns.keep {w w' : World} {base : Nat} {R : List Row} (h : Owns w base R) (hb : Below w.heap.size w w') : Owns w' base R :=
  ⟨fun r hr => own_bel (h.own r hr) hb (fun g hg => ((h.own r hr).lt g hg).2), h.nd⟩
theorem Owns.lt {w : World} {base : Nat} {R : List Row} (h : Owns w base R) : ∀ g ∈ blks R, base ≤ g ∧ g < w.heap.size := by
  intro g hg
  obtain ⟨r, hr, hv⟩ := List.mem_filterMap.1 hg
  exact (h.own r hr).lt g hv
/-- One row more, made by a call. -/
theorem Owns.push {w w' : World} {base : Nat} {R : List Row} (h : Owns w base R) (hb : Below w.heap.size w w') {r : Row} (hr : w'.ownsRow w.heap.size r.e r.sz r.v r.n r.xs) (hB : base ≤ w.heap.size) : Owns w' base (r :: R) := by
  refine ⟨fun q hq => ?_, ?_⟩
  · rcases List.mem_cons.1 hq with rfl | hq
    · exact own_mono hr hB
    · exact (h.keep hb).own q hq
  · unfold blks
    rw [List.filterMap_cons]
    cases hv : r.v.ownBlock with
    | none => exact h.nd
    | some g =>
      refine List.nodup_cons.2 ⟨fun hm => ?_, h.nd⟩
      have h1 := (h.lt g hm).2
      have h2 := (hr.lt g hv).1
      omega
/-- An append to the first row. -/
theorem Owns.app {w w' : World} {base : Nat} {R : List Row} {r r' : Row} (h : Owns w base (r :: R)) (hr : w'.ownsRow base r'.e r'.sz r'.v r'.n r'.xs) (hg : w.grownBy w' r.v.ownBlock) (hv : r'.v.ownBlock = r.v.ownBlock ∨ r'.v.ownBlock = some w.heap.size) : Owns w' base (r' :: R) := by
  have hR : ∀ q ∈ R, q.v.ownBlock = none ∨ q.v.ownBlock ≠ r.v.ownBlock := by
    intro q hq
    cases hb : q.v.ownBlock with
    | none => exact .inl rfl
    | some g =>
      refine .inr fun e => ?_
      have hn := h.nd
      unfold blks at hn
      rw [List.filterMap_cons, ← e] at hn
      exact (List.nodup_cons.1 hn).1 (List.mem_filterMap.2 ⟨q, hq, hb⟩)
  have hnd : (blks R).Nodup := by
    have hn := h.nd
    unfold blks at hn ⊢
    rw [List.filterMap_cons] at hn
    split at hn
    · exact hn
    · exact (List.nodup_cons.1 hn).2
  refine ⟨fun q hq => ?_, ?_⟩
  · rcases List.mem_cons.1 hq with rfl | hq
    · exact hr
    · exact (h.own q (by simp [hq])).kept hg (hR q hq)
  · unfold blks
    rw [List.filterMap_cons]
    cases hb : r'.v.ownBlock with
    | none => exact hnd
    | some g =>
      refine List.nodup_cons.2 ⟨fun hm => ?_, hnd⟩
      obtain ⟨q, hq, hqg⟩ := List.mem_filterMap.1 hm
      rcases hv with e | e
      · rcases hR q hq with e1 | e1
        · rw [e1] at hqg; cases hqg
        · exact e1 (by rw [hqg, ← e, hb])
      · have h1 := ((h.own q (by simp [hq])).lt g hqg).2
        rw [hb] at e
        injection e with e
        omega
theorem Owns.perm {w : World} {base : Nat} {R R' : List Row} (h : Owns w base R) (hp : R.Perm R') : Owns w base R' :=
  ⟨fun r hr => h.own r (hp.mem_iff.2 hr), (hp.filterMap _).nodup_iff.1 h.nd⟩
theorem Owns.sub {w : World} {base : Nat} {R R' : List Row} (h : Owns w base R) (hp : R'.Sublist R) : Owns w base R' :=
  ⟨fun r hr => h.own r (hp.subset hr), (hp.filterMap _).nodup h.nd⟩
end Go.Proofs.YtjbealefopajcaaDoor
