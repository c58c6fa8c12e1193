import Derived.Test.YtejongfipfefpaaRfD
namespace Go.Proofs.Ytejongfipfefpaa
open Go.RowKit
set_option linter.unusedVariables false
set_option linter.unusedSimpArgs false
theorem sorted_ext : ∀ (a b : List Nat), a.Pairwise (· < ·) → b.Pairwise (· < ·) → (∀ x, x ∈ a ↔ x ∈ b) → a = b
  | [], [], _, _, _ => rfl
  | [], y :: b, _, _, h => absurd ((h y).2 (List.mem_cons_self ..)) (by simp)
  | x :: a, [], _, _, h => absurd ((h x).1 (List.mem_cons_self ..)) (by simp)
  | x :: a, y :: b, ha, hb, h => by
    obtain ⟨a1, a2⟩ := List.pairwise_cons.1 ha
    obtain ⟨b1, b2⟩ := List.pairwise_cons.1 hb
    have e : x = y := by
      rcases List.mem_cons.1 ((h x).1 (List.mem_cons_self ..)) with e | e
      · exact e
      · rcases List.mem_cons.1 ((h y).2 (List.mem_cons_self ..)) with e' | e'
        · exact e'.symm
        · have := a1 y e'
          have := b1 x e
          omega
    subst e
    congr 1
    refine sorted_ext a b a2 b2 fun z => ⟨fun hz => ?_, fun hz => ?_⟩
    · rcases List.mem_cons.1 ((h z).1 (List.mem_cons_of_mem _ hz)) with e | e
      · have := a1 z hz
        omega
      · exact e
    · rcases List.mem_cons.1 ((h z).2 (List.mem_cons_of_mem _ hz)) with e | e
      · have := b1 z hz
        omega
      · exact e
section
variable {F : Nat → Int} {nf : Nat} {PA : Nat → Int} {L : Nat → Nat} {nh n : Nat}
/-- The frames that are not free are the held ones, in their order. -/
theorem Fine.held_eq (h : Fine F nf PA L nh n) : heldTo (Lf F nf) n = Lf PA nh := by
  refine sorted_ext _ _ (List.pairwise_lt_range.filter _) ?_ fun x => ?_
  · rw [List.pairwise_iff_getElem]
    intro i j hi hj hij
    rw [Lf_len] at hi hj
    have r := h.rise hj i hij
    have a := (fi_of (h.held hi).1).2
    have b := (fi_of (h.held hj).1).2
    simp only [Lf, List.getElem_map, List.getElem_range]
    omega
  · unfold heldTo
    rw [List.mem_filter, List.mem_range]
    constructor
    · rintro ⟨h1, h2⟩
      rcases h.all.2 x h1 with h3 | h3
      · simp [h3] at h2
      · exact h3
    · intro hx
      exact ⟨h.ltH x hx, by simp [h.apart hx]⟩
/-- The document's memory out of a fine image, as Image reads it. -/
theorem QI.qv {W V : World} {q : Nat} {D : Nat → Nat → Int} (hF : Fine F nf PA L nh n) (h1 : 1 ≤ n) (h2 : n ≤ 4096) (h : QI W V q n F nf PA D nh) {B : Nat → Int} (hB : ∀ i, i < nh → ∀ j, j < 4096 → B (fi (PA i) * 4096 + j) = D i j) {V' : World} (hk : ∀ x, W.heap.size ≤ x → x < V.heap.size → V'.heap[x]? = V.heap[x]?) : ∃ hb lv, Qv V' q hb n lv B (Lf F nf) := by
  obtain ⟨hb, lv, c0, c1, lr, hn, hh⟩ := h.cells V' hk
  refine ⟨hb, lv, c0, c1, lr, fun i hi hm => hn i hi (fun j hj e => ?_), fun i hi hm => ?_, ?_, fun i hi => ?_, h1, h2⟩
  · exact hF.apart (mem_Lf.2 ⟨j, hj, e⟩) hm
  · rcases hF.all.2 i hi with h3 | h3
    · exact absurd h3 hm
    · obtain ⟨j, hj, rfl⟩ := mem_Lf.1 h3
      obtain ⟨fb, g1, g2⟩ := hh j hj
      exact ⟨fb, g1, fun t ht => by rw [hB j hj t ht]; exact g2 t ht⟩
  · have := hF.all.1
    rw [Lf_len]
    omega
  · have := (hF.lt i hi).2
    omega
end
theorem flatH_get : ∀ (hs : List (Nat × Nat)) (i : Nat) (x : Nat × Nat), hs[i]? = some x → (flatH hs)[i * 2]? = some (adv x.1) ∧ (flatH hs)[i * 2 + 1]? = some (.slice (some ⟨x.2, 0, .none⟩) 4096 4096)
  | [], i, x, h => by simp at h
  | y :: hs, 0, x, h => by
    simp only [List.getElem?_cons_zero, Option.some.injEq] at h
    subst h
    exact ⟨rfl, rfl⟩
  | y :: hs, i + 1, x, h => by
    simp only [List.getElem?_cons_succ] at h
    have := flatH_get hs i x h
    rw [show (i + 1) * 2 = i * 2 + 1 + 1 by omega]
    exact this
theorem own_cell {w : World} {X e s n c k : Nat} {q : Option Addr} {xs : List Value} {v : Value} (h : w.ownsRow X e s (.slice q n c) n xs) (hk : xs[k]? = some v) (hn : 0 < n) (hl : k < n * s) : ∃ g, q = some ⟨g, 0, .none⟩ ∧ w.cell? ⟨g, k, .none⟩ = some v := by
  rcases h.2 with ⟨_, h0⟩ | ⟨g, cap, cur, hv, hX, hh, hn', hc, hs, ht⟩
  · omega
  · injection hv with e1 e2 e3
    subst e1
    refine ⟨g, rfl, ?_⟩
    simp only [World.cell?, hh]
    show cur[k]? = _
    rw [← Array.getElem?_toList, ← List.getElem?_take_of_lt hl, ht, hk]
/-- What an image that was handed out shows: the free frames. -/
theorem see_free {w : World} {X cf nf : Nat} {qf : Option Addr} {F : Nat → Int} {n : Nat} (hfr : ∀ i, i < nf → isFr (F i) n = true) (h : w.ownsRow X 26 1 (.slice qf (Lf F nf).length cf) (Lf F nf).length ((Lf F nf).map adv)) : See w .u64 qf nf F := by
  by_cases h0 : nf = 0
  · exact .inl h0
  · rw [Lf_len] at h
    have g0 : ∀ i, i < nf → ((Lf F nf).map adv)[i]? = some (.int .u64 (F i)) := fun i hi => by
      simp only [Lf, List.map_map, List.getElem?_map, List.getElem?_range hi, Option.map_some, Function.comp]
      rw [adv, ← (fi_of (hfr i hi)).2]
    obtain ⟨g, e, c⟩ := own_cell h (g0 0 (by omega)) (by omega) (by omega)
    refine .inr ⟨g, 0, e, lt_of_cell c, fun i hi => ?_⟩
    obtain ⟨g', e', c'⟩ := own_cell h (g0 i hi) (by omega) (by omega)
    rw [e] at e'
    simp only [Option.some.injEq, Addr.mk.injEq, and_true] at e'
    rw [Nat.zero_add, e']
    exact c'
/-- .. and the held ones. -/
theorem see_held {w : World} {X c2 nh n : Nat} {q2 : Option Addr} {PA : Nat → Int} {D : Nat → Nat → Int} {B : Nat → Int} {hs : List (Nat × Nat)} (hfr : ∀ i, i < nh → isFr (PA i) n = true) (hm : hs.map (·.1) = Lf PA nh) (h : w.ownsRow X 29 2 (.slice q2 hs.length c2) hs.length (flatH hs)) (hd : ∀ x ∈ hs, ∀ t, t < 4096 → w.cell? ⟨x.2, t, .none⟩ = some (.int .u8 (B (x.1 * 4096 + t)))) (hB : ∀ i, i < nh → ∀ j, j < 4096 → B (fi (PA i) * 4096 + j) = D i j) :
    hs.length = nh ∧ SeeH w q2 nh PA (fun _ => 4096) D := by
  have hl : hs.length = nh := by have := congrArg List.length hm; rwa [List.length_map, Lf_len] at this
  refine ⟨hl, ?_⟩
  by_cases h0 : nh = 0
  · exact .inl h0
  · rw [hl] at h
    have g0 : ∀ i, i < nh → ∃ x, hs[i]? = some x ∧ x.1 = fi (PA i) := fun i hi => by
      have hi' : i < hs.length := by omega
      refine ⟨hs[i], List.getElem?_eq_getElem hi', ?_⟩
      have := congrArg (fun l => l[i]?) hm
      simp only [List.getElem?_map, List.getElem?_eq_getElem hi', Lf, List.getElem?_range hi, Option.map_some, Option.some.injEq] at this
      exact this
    obtain ⟨x0, hx0, _⟩ := g0 0 (by omega)
    obtain ⟨g, e, c⟩ := own_cell h (flatH_get hs 0 x0 hx0).1 (by omega) (by omega)
    refine .inr ⟨g, 0, e, lt_of_cell c, fun i hi => ?_⟩
    obtain ⟨x, hx, ex⟩ := g0 i hi
    obtain ⟨f1, f2⟩ := flatH_get hs i x hx
    obtain ⟨g', e', c'⟩ := own_cell h f1 (by omega) (by omega)
    obtain ⟨g'', e'', c''⟩ := own_cell h f2 (by omega) (by omega)
    rw [e] at e' e''
    simp only [Option.some.injEq, Addr.mk.injEq, and_true] at e' e''
    subst e'
    subst e''
    rw [Nat.zero_add]
    have hxm : x ∈ hs := List.mem_of_getElem? hx
    refine ⟨?_, some ⟨x.2, 0, .none⟩, 4096, c'', .inr ⟨x.2, 0, rfl, lt_of_cell (hd x hxm 0 (by omega)), fun t ht => ?_⟩⟩
    · rw [c', adv, ex, ← (fi_of (hfr i hi)).2]
    · rw [Nat.zero_add, hd x hxm t ht, ex, hB i hi t ht]
end Go.Proofs.Ytejongfipfefpaa
