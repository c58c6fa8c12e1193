import Derived.Test.YtnlbomggadflmabPt
namespace Go.Proofs.Ytnlbomggadflmab
open Go.RowKit
set_option linter.unusedVariables false
set_option linter.unusedSimpArgs false
set_option maxRecDepth 100000
instance : Inhabited Opr := ⟨⟨0, 0, 0, 0, 0⟩⟩
/-- The steps as they are handed in. -/
structure ArgO (w : World) (q : Option Addr) (m c : Nat) (O : Nat → Opr) : Prop where
  at' : m = 0 ∨ ∃ b o, q = some ⟨b, o, .none⟩ ∧ b < w.heap.size ∧ ∀ i, i < m → w.rangeAt b (o + i * 5) (O i).l
  lc : m ≤ c ∧ c ≤ maxLen
theorem ArgO.cells {w W : World} {q : Option Addr} {m c : Nat} {O : Nat → Opr} (h : ArgO w q m c O) (hB : Below w.heap.size w W) (i : Nat) (hi : i < m) : ∃ b o, q = some ⟨b, o, .none⟩ ∧ W.cell? ⟨b, o + i * 5, .none⟩ = some (.int .i64 (O i).k) ∧ W.cell? ⟨b, o + i * 5 + 1, .none⟩ = some (.int .i64 (O i).s) ∧ W.cell? ⟨b, o + i * 5 + 2, .none⟩ = some (.int .i64 (O i).ck) ∧ W.cell? ⟨b, o + i * 5 + 3, .none⟩ = some (.int .i64 (O i).cn) ∧ W.cell? ⟨b, o + i * 5 + 4, .none⟩ = some (.int .i32 (O i).sta) := by
  rcases h.at' with e | ⟨b, o, e, hb, hc⟩
  · omega
  · have hr := hc i hi
    exact ⟨b, o, e, (hB.cell (p := ⟨b, o + i * 5, .none⟩) hb).trans (hr 0 _ rfl), (hB.cell (p := ⟨b, o + i * 5 + 1, .none⟩) hb).trans (hr 1 _ rfl), (hB.cell (p := ⟨b, o + i * 5 + 2, .none⟩) hb).trans (hr 2 _ rfl), (hB.cell (p := ⟨b, o + i * 5 + 3, .none⟩) hb).trans (hr 3 _ rfl), (hB.cell (p := ⟨b, o + i * 5 + 4, .none⟩) hb).trans (hr 4 _ rfl)⟩
/-- A table of the law's own, as every call leaves it. -/
structure Own (w : World) (b : Nat) (W : World) : Prop where
  ex : ∃ P nx, Tb W b P nx ∧ Inv P nx
  be : Below w.heap.size w W
theorem Own.step {w W W' : World} {b : Nat} (h : Own w b W) (hb : w.heap.size ≤ b) {e : Ending} (k : DoP W b e W') : Own w b W' := by
  obtain ⟨_, P, n, t, i, r⟩ := k
  exact ⟨⟨P, n, t, i⟩, h.be.trans (r.toBelow hb h.be.size)⟩
section
variable {w : World}
end
end Go.Proofs.Ytnlbomggadflmab
