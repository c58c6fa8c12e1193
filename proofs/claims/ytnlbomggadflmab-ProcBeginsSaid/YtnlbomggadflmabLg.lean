import Derived.Test.YtnlbomggadflmabLf
namespace Go.Proofs.Ytnlbomggadflmab
open Go.ChangeShapes Go.WideShapes Go.ChangeAt Go.RowKit
set_option linter.unusedVariables false
set_option linter.unusedSimpArgs false
set_option maxRecDepth 100000
/-- The slots of a state as they are handed in. -/
def slc (a : Int) (p : Pr) : List Value := .int .i64 a :: p.l
structure ArgS (w : World) (q : Option Addr) (m c : Nat) (A : Nat → Int × Pr) : Prop where
  at' : m = 0 ∨ ∃ b o, q = some ⟨b, o, .none⟩ ∧ b < w.heap.size ∧ ∀ i, i < m → w.rangeAt b (o + i * 8) (slc (A i).1 (A i).2)
  lc : m ≤ c ∧ c ≤ maxLen
theorem cellsPr : Try.prog.cellsOf 33 = 7 := by kernel_rfl
theorem cellsSl : Try.prog.cellsOf 83 = 8 := by kernel_rfl
theorem cellsSs : Try.prog.cellsOf 42 = 1 := by kernel_rfl
set_option maxRecDepth 100000 in
theorem open_pr {H : Type} {enc : TypeId × Value → H} {w : World} {base : Nat} {held : Bool} {n : Nat} {v0 v1 v2 v3 v4 v5 v6 : Value} {x : DataW H × List MemPlace} (h : DataW.trod enc Try.prog w base (fun _ => true) held n 33 [v0, v1, v2, v3, v4, v5, v6] = some x) : ∃ p : Pr, [v0, v1, v2, v3, v4, v5, v6] = p.l := by
  obtain ⟨xs, k, hk, hxy, _, hxl, hf⟩ := DataW.trod_struct Try.underlying33 h
  have hxl : xs.length = 6 := hxl
  match xs, hxl with
  | [y0, y1, y2, y3, y4, y5], _ =>
    have g0 := hf 0 _ rfl
    have g1 := hf 1 _ rfl
    have g2 := hf 2 _ rfl
    have g3 := hf 3 _ rfl
    have g4 := hf 4 _ rfl
    have g5 := hf 5 _ rfl
    simp [cells3, cells4, cells21, cellsCh] at g0 g1 g2 g3 g4 g5
    obtain ⟨z0, f0, _, _⟩ := DataW.trod_int Try.underlying3 g0
    obtain ⟨z1, f1, _, _⟩ := DataW.trod_int Try.underlying3 g1
    obtain ⟨z2, f2, _, _⟩ := DataW.trod_int Try.underlying3 g2
    obtain ⟨z3, z4, f3, f4⟩ := open_ch g3
    obtain ⟨z5, f5, _⟩ := DataW.trod_bool Try.underlying4 g4
    obtain ⟨z6, f6, _, _⟩ := DataW.trod_int Try.underlying21 g5
    simp only [List.cons.injEq, and_true] at f0 f1 f2 f5 f6
    subst f0 f1 f2 f3 f4 f5 f6
    exact ⟨⟨z0, z1, z2, z3, z4, z5, z6⟩, rfl⟩
set_option maxRecDepth 100000 in
theorem open_slot {H : Type} {enc : TypeId × Value → H} {w : World} {base : Nat} {held : Bool} {n i : Nat} {a : Addr} {cs : List Value} {d : DataW H} {pl : List MemPlace} (h1 : w.cells? base (a.add (i * 8)) 8 = some cs) (h2 : DataW.trod enc Try.prog w base (fun _ => true) held n 83 cs = some (d, pl)) : ∃ q : Int × Pr, ∀ j v, (slc q.1 q.2)[j]? = some v → w.cell? (a.add (i * 8 + j)) = some v := by
  obtain ⟨_, hlen, hcell⟩ := World.cells?_some h1
  obtain ⟨xs, k, hk, hxy, _, hxl, hf⟩ := DataW.trod_struct Try.underlying83 h2
  have hxl : xs.length = 2 := hxl
  match xs, hxl, cs, hlen with
  | [y0, y1], _, [v0, v1, v2, v3, v4, v5, v6, v7], _ =>
    have g0 := hf 0 _ rfl
    have g1 := hf 1 _ rfl
    simp [cells3, cellsPr] at g0 g1
    obtain ⟨z0, f0, _, _⟩ := DataW.trod_int Try.underlying3 g0
    obtain ⟨p, hp⟩ := open_pr g1
    simp only [List.cons.injEq, and_true] at f0
    subst f0
    refine ⟨(z0, p), fun j v hj => ?_⟩
    have hs : slc z0 p = [.int .i64 z0, v1, v2, v3, v4, v5, v6, v7] := by rw [slc, ← hp]
    have hj : (slc z0 p)[j]? = some v := hj
    rw [hs] at hj
    have hj8 : j < 8 := (List.getElem?_eq_some_iff.1 hj).1
    have e := hcell j hj8
    rw [Deep.add_add] at e
    rw [e]
    exact hj
theorem open_slots {H : Type} {enc : TypeId × Value → H} {w : World} {base : Nat} {held : Bool} {fuel : Nat} {v : Value} {x : DataW H × List MemPlace}
    (h : DataW.trod enc Try.prog w base (fun _ => true) held fuel 42 [v] = some x) : ∃ (q : Option Addr) (m c : Nat) (A : Nat → Int × Pr), v = .slice q m c ∧ ArgS w q m c A := by
  rcases Deep.open_slice Try.underlying42 h with ⟨hcs, hx⟩ | ⟨a, len, cap, m, n, D, Pl, hcs, _, hlc, hmax, hm, hx, hc⟩
  · simp only [List.cons.injEq, and_true] at hcs
    exact ⟨none, 0, 0, fun _ => (0, zP), hcs, .inl rfl, ⟨Nat.le_refl _, by decide⟩⟩
  · simp only [List.cons.injEq, and_true] at hcs
    have hlm : len ≤ m := by rw [hm]; split <;> omega
    have each : ∀ i, i < len → ∃ q : Int × Pr, ∀ j v, (slc q.1 q.2)[j]? = some v → w.cell? (a.add (i * 8 + j)) = some v := by
      intro i hi
      obtain ⟨cs', h1, h2⟩ := hc i (by omega)
      rw [cellsSl] at h1
      exact open_slot h1 h2
    have each2 : ∀ i, ∃ q : Int × Pr, i < len → ∀ j v, (slc q.1 q.2)[j]? = some v → w.cell? (a.add (i * 8 + j)) = some v := by
      intro i
      by_cases hi : i < len
      · obtain ⟨q, hq⟩ := each i hi
        exact ⟨q, fun _ => hq⟩
      · exact ⟨(0, zP), fun x => absurd x hi⟩
    obtain ⟨q, hq⟩ := Classical.axiomOfChoice each2
    refine ⟨some a, len, cap, q, hcs, ?_, ⟨hlc, hmax⟩⟩
    by_cases h0 : len = 0
    · exact .inl h0
    · have hc0 := hq 0 (by omega) 0 _ rfl
      obtain ⟨b, off, spot⟩ := a
      have hspot : spot = none := by simpa [Addr.add] using World.cell?_spot hc0
      subst hspot
      refine .inr ⟨b, off, rfl, ?_, fun i hi j v hj => ?_⟩
      · rw [le_addr_add] at hc0
        exact lt_cell hc0
      · have := hq i hi j v hj
        rwa [le_addr_add, ← Nat.add_assoc] at this
set_option maxRecDepth 100000 in
/-- A state as an argument. -/
theorem open_state {H : Type} {enc : TypeId × Value → H} {w : World} {base base' : Nat} {held : Bool} {r : Reach} {v : Value} {d : DataW H} {p : List MemPlace}
    (hv : Value.okWide Try.prog w r base' 44 v) (h : DataW.Trod enc Try.prog w base (fun _ => true) held 44 v d p) : ∃ (q : Option Addr) (m c : Nat) (nx : Int) (A : Nat → Int × Pr), v = .agg #[.slice q m c, .int .i64 nx] ∧ ArgS w q m c A := by
  obtain ⟨cs, rfl, hsz⟩ := okWide_struct Try.underlying44 hv
  have hsz2 : cs.toList.length = 2 := by
    have : cs.size = 2 := hsz.trans (by kernel_rfl)
    simpa using this
  obtain ⟨l, rfl⟩ : ∃ l : List Value, cs = l.toArray := ⟨cs.toList, by simp⟩
  match l, hsz2 with
  | [u, v], _ =>
    obtain ⟨fuel, hf⟩ := h
    obtain ⟨xs, k, hk, hxy, _, hxl, hf⟩ := DataW.trod_struct Try.underlying44 hf
    have hxl : xs.length = 2 := hxl
    match xs, hxl with
    | [y0, y1], _ =>
      have g0 := hf 0 _ rfl
      have g1 := hf 1 _ rfl
      simp [cells3, cellsSs, Value.cells] at g0 g1
      obtain ⟨q, m, c, A, rfl, hA⟩ := open_slots g0
      obtain ⟨z1, f1, _, _⟩ := DataW.trod_int Try.underlying3 g1
      simp only [List.cons.injEq, and_true] at f1
      subst f1
      exact ⟨q, m, c, z1, A, rfl, hA⟩
end Go.Proofs.Ytnlbomggadflmab
