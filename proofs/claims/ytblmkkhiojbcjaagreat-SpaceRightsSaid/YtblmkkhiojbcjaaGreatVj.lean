import Derived.Test.YtblmkkhiojbcjaaGreatVi
namespace Go.Proofs.YtblmkkhiojbcjaaGreat
open Go Go.RowKit Go.Shelf
set_option linter.unusedVariables false
set_option linter.unusedSimpArgs false
attribute [local irreducible] eM evs
section
variable {w : World} {p b m N r c : Nat} {B : Nat → Int} {L : List Nat} {F : Nat → Option Nat} {lf : Nat → Nat → Int} {l : List Pg} {q : Option Addr}
end
end Go.Proofs.YtblmkkhiojbcjaaGreat
