import Derived.Test.YtejongfipfefpaaAcc
namespace Go.Proofs.Ytejongfipfefpaa
open Go.RowKit
set_option linter.unusedVariables false
set_option linter.unusedSimpArgs false
def ReadP (w : World) (n : Nat) (R : Nat → Int) (e : Ending) (w' : World) : Prop := ∃ g, w.heap.size ≤ g ∧ g < w'.heap.size ∧ e = .returned (.tuple #[.slice (some ⟨g, 0, .none⟩) n n, .bool true]) ∧ RowB w' g n R ∧ (∀ i, i < n → w'.frozen? ⟨g, i, .none⟩ = false) ∧ Below w.heap.size w w'
section
variable {w : World} {p b m N cnt : Nat} {B : Nat → Int} {nx : Int} {hd : Int → Bool}
end
end Go.Proofs.Ytejongfipfefpaa
