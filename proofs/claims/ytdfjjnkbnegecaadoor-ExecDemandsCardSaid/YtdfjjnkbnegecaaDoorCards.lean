/-
  DERIVED. GIVEN WITH THE SEED: THE CARDS: each row of YtdfjjnkbnegecaaDoorRows.lean that lists a variable, with what it lists TIED to the program's text (the seventh form; the later family's looks); each row that meets fmt, with fmt's text TOLD by the authors' own Lean function (tested against real Go, not proved from fmt's source: count such statements apart). THE CARD IS WHAT COUNTS. Prove the row's statement (the work); the ties are given (YtdfjjnkbnegecaaDoorTie.lean); close each card by the builder's one call (the guide's Derived/Test/ToyasCard.lean, 'card_holds'). Laid BY PROGRAM, IN A SANDBOX (cutbox-door.mjs). By AI agents, Wed Nov 11 2026. No macro, syntax, notation, axiom, sorry.
-/
import Derived.Test.YtdfjjnkbnegecaaDoorRows
import GoSem.ClaimSeven
namespace Go.Proofs.YtdfjjnkbnegecaaDoor
namespace Rows

/-- THE TIED CARD OF 'hartixlaw14.ExecDemands'. -/
def execDemandsCard : Claim7 := { stood := { row := execDemandsRow, standIns := [], harness := (true, "2c8d9bc1c1c0d698dd6234d3aa3d1a4b4bd62abde5b8b0b356cbd2cb86f82e6f"), looks := true }, kinds := [], alts := [], laidByText := true, laidKinds := [.wider, .wider], laidTests := true, laidLooks := .later }
def ExecDemandsCardSaid : Prop := Claim7.holds Tryd.pinned (.plain (OpenSpec.ofChange execDemandsSpec)) execDemandsCard

/-- THE SECOND FORM's CARD OF 'hartixlaw14.ExecDemands'. -/
def execDemandsUptoCard : Claim7 := { stood := { row := execDemandsUptoRow, standIns := [], harness := (true, "2c8d9bc1c1c0d698dd6234d3aa3d1a4b4bd62abde5b8b0b356cbd2cb86f82e6f"), looks := true }, kinds := [], alts := [], laidByText := true, laidKinds := [.wider, .wider], laidTests := true, laidLooks := .later }
def ExecDemandsUptoCardSaid : Prop := Claim7.holds Tryd.pinned (.plain (OpenSpec.upto execDemandsSpec)) execDemandsUptoCard
end Rows
end Go.Proofs.YtdfjjnkbnegecaaDoor
