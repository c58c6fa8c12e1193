import Derived.Test.YtblmkkhiojbcjaaGreatUp
namespace Go.Proofs.YtblmkkhiojbcjaaGreat
open Go Go.RowKit Fz
attribute [local go_sem] Oper.semAt_some
set_option linter.unusedVariables false
set_option linter.unusedSimpArgs false
/-- A row of pages, read. -/
def SeP (w : World) (q : Option Addr) (n : Nat) (V A P : Nat → Int) : Prop := n = 0 ∨ ∃ g, q = some ⟨g, 0, .none⟩ ∧ g < w.heap.size ∧ ∀ i, i < n → w.cell? ⟨g, i * 3, .none⟩ = some (.int .u64 (V i)) ∧ w.cell? ⟨g, i * 3 + 1, .none⟩ = some (.int .u64 (A i)) ∧ w.cell? ⟨g, i * 3 + 2, .none⟩ = some (.int .u64 (P i))
theorem SeP.keep {w w' : World} {q : Option Addr} {n : Nat} {V A P : Nat → Int} (h : SeP w q n V A P) (b : Below w.heap.size w w') : SeP w' q n V A P := by
  rcases h with h | ⟨g, hq, hg, hr⟩
  · exact .inl h
  · exact .inr ⟨g, hq, Nat.lt_of_lt_of_le hg b.size, fun i hi => ⟨(b.cell (p := ⟨g, i * 3, .none⟩) hg).trans (hr i hi).1, (b.cell (p := ⟨g, i * 3 + 1, .none⟩) hg).trans (hr i hi).2.1, (b.cell (p := ⟨g, i * 3 + 2, .none⟩) hg).trans (hr i hi).2.2⟩⟩
/-- The place of a page. -/
def Fnd (V : Nat → Int) (n : Nat) (va k : Int) : Prop := (k = -1 ∧ ∀ i, i < n → V i ≠ va) ∨ ∃ i : Nat, i < n ∧ k = i ∧ V i = va ∧ ∀ j, j < i → V j ≠ va
end Go.Proofs.YtblmkkhiojbcjaaGreat
