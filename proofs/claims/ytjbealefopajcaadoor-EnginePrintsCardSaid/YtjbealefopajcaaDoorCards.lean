/-
  DERIVED. GIVEN WITH THE SEED: THE CARDS: each row of YtjbealefopajcaaDoorRows.lean that lists a variable, with what it lists TIED to the program's text (the seventh form; the later family's looks); each row that meets fmt, with fmt's text TOLD by the authors' own Lean function (tested against real Go, not proved from fmt's source: count such statements apart). THE CARD IS WHAT COUNTS. Prove the row's statement (the work); the ties are given (YtjbealefopajcaaDoorTie.lean); close each card by the builder's one call (the guide's Derived/Test/ToyasCard.lean, 'card_holds'). Laid BY PROGRAM, IN A SANDBOX (cutbox-door.mjs). By AI agents, Wed Nov 11 2026. No macro, syntax, notation, axiom, sorry.
-/
import Derived.Test.YtjbealefopajcaaDoorRows
import GoSem.ClaimSeven
namespace Go.Proofs.YtjbealefopajcaaDoor
namespace Rows

/-- THE TIED CARD OF 'hartixlaw18.EnginePrints'. -/
def enginePrintsCard : Claim7 := { stood := { row := enginePrintsRow, standIns := [], harness := (true, "1de11b2325b8b97fbc99eb9f19f6305b6bebb6f515fa901fb0654448c596c8f2"), looks := true }, kinds := [], alts := [], laidByText := true, laidKinds := [.data, .data, .data], laidTests := true, laidLooks := .later }
def EnginePrintsCardSaid : Prop := Claim7.holds Tryd.pinned (.plain (OpenSpec.ofChange enginePrintsSpec)) enginePrintsCard

/-- THE SECOND FORM's CARD OF 'hartixlaw18.EnginePrints'. -/
def enginePrintsUptoCard : Claim7 := { stood := { row := enginePrintsUptoRow, standIns := [], harness := (true, "1de11b2325b8b97fbc99eb9f19f6305b6bebb6f515fa901fb0654448c596c8f2"), looks := true }, kinds := [], alts := [], laidByText := true, laidKinds := [.data, .data, .data], laidTests := true, laidLooks := .later }
def EnginePrintsUptoCardSaid : Prop := Claim7.holds Tryd.pinned (.plain (OpenSpec.upto enginePrintsSpec)) enginePrintsUptoCard
end Rows
end Go.Proofs.YtjbealefopajcaaDoor
