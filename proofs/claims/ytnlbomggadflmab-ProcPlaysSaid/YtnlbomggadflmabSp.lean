import Derived.Test.YtnlbomggadflmabRc
import Derived.Test.YtnlbomggadflmabRd
import Derived.Test.YtnlbomggadflmabRe
import Derived.Test.YtnlbomggadflmabRh
import Derived.Test.YtnlbomggadflmabRi
import Derived.Test.YtnlbomggadflmabFm
namespace Go.Proofs.Ytnlbomggadflmab
open Go.RowKit
set_option linter.unusedVariables false
set_option linter.unusedSimpArgs false
set_option maxRecDepth 100000
/-- The law's pair. -/
structure Pa (B : Nat) (W : World) (p t r : Nat) (P : Nat → Pr) (nx : Int) : Prop where
  tT : Tb W t P nx
  tR : Tb W r P nx
  i : Inv P nx
  c0 : W.cell? ⟨p, 0, .none⟩ = some (.pointer (some ⟨t, 0, .none⟩))
  c1 : W.cell? ⟨p, 1, .none⟩ = some (.pointer (some ⟨r, 0, .none⟩))
  f0 : W.frozen? ⟨p, 0, .none⟩ = false
  ne : t ≠ r ∧ p ≠ t ∧ p ≠ r
  le : B ≤ p ∧ B ≤ t ∧ B ≤ r
theorem Pa.bel {B : Nat} {W W' : World} {p t r : Nat} {P : Nat → Pr} {nx : Int} (h : Pa B W p t r P nx) (k : Below W.heap.size W W') : Pa B W' p t r P nx :=
  ⟨h.tT.bel k, h.tR.bel k, h.i, (k.cell (p := ⟨p, 0, .none⟩) (lt_cell h.c0)).trans h.c0, (k.cell (p := ⟨p, 1, .none⟩) (lt_cell h.c1)).trans h.c1, (k.frozen (p := ⟨p, 0, .none⟩) (lt_cell h.c0)).trans h.f0, h.ne, h.le⟩
/-- What a step leaves. -/
def SpP (B : Nat) (w : World) (p r : Nat) (e : Ending) (w' : World) : Prop := e = .returned (.bool true) ∧ ∃ t' P' n', Pa B w' p t' r P' n' ∧ Below B w w'
end Go.Proofs.Ytnlbomggadflmab
