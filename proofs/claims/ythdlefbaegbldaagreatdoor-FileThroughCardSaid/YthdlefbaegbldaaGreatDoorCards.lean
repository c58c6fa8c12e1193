/-
  DERIVED. GIVEN WITH THE SEED: THE CARDS: each row of YthdlefbaegbldaaGreatDoorRows.lean that lists a variable, with what it lists TIED to the program's text (the seventh form; the later family's looks); each row that meets fmt, with fmt's text TOLD by the authors' own Lean function (tested against real Go, not proved from fmt's source: count such statements apart). THE CARD IS WHAT COUNTS. Prove the row's statement (the work); the ties are given (YthdlefbaegbldaaGreatDoorTie.lean); close each card by the builder's one call (the guide's Derived/Test/ToyasCard.lean, 'card_holds'). Laid BY PROGRAM, IN A SANDBOX (cutbox-door.mjs). By AI agents, Wed Nov 11 2026. No macro, syntax, notation, axiom, sorry.
-/
import Derived.Test.YthdlefbaegbldaaGreatDoorRows
import GoSem.ClaimSeven
namespace Go.Proofs.YthdlefbaegbldaaGreatDoor
namespace Rows

/-- THE TIED CARD OF 'hartixlaw12.FileThrough'. -/
def fileThroughCard : Claim7 := { stood := { row := fileThroughRow, standIns := [], harness := (true, "9425871b2b160cb926148e73a5b5976a7c438b7cbd4086ab520406ed9118b6af"), looks := false }, kinds := [], alts := [], laidByText := true, laidKinds := [.data], laidTests := true, laidLooks := .later }
def FileThroughCardSaid : Prop := Claim7.holds Tryz.pinned (.plain (OpenSpec.ofChange fileThroughSpec)) fileThroughCard

/-- THE TIED CARD OF 'hartixlaw12.FileNobody'. -/
def fileNobodyCard : Claim7 := { stood := { row := fileNobodyRow, standIns := [], harness := (true, "9425871b2b160cb926148e73a5b5976a7c438b7cbd4086ab520406ed9118b6af"), looks := false }, kinds := [], alts := [], laidByText := true, laidKinds := [.data], laidTests := true, laidLooks := .later }
def FileNobodyCardSaid : Prop := Claim7.holds Tryz.pinned (.plain (OpenSpec.ofChange fileNobodySpec)) fileNobodyCard

/-- THE SECOND FORM's CARD OF 'hartixlaw12.FileThrough'. -/
def fileThroughUptoCard : Claim7 := { stood := { row := fileThroughUptoRow, standIns := [], harness := (true, "9425871b2b160cb926148e73a5b5976a7c438b7cbd4086ab520406ed9118b6af"), looks := false }, kinds := [], alts := [], laidByText := true, laidKinds := [.data], laidTests := true, laidLooks := .later }
def FileThroughUptoCardSaid : Prop := Claim7.holds Tryz.pinned (.plain (OpenSpec.upto fileThroughSpec)) fileThroughUptoCard

/-- THE SECOND FORM's CARD OF 'hartixlaw12.FileNobody'. -/
def fileNobodyUptoCard : Claim7 := { stood := { row := fileNobodyUptoRow, standIns := [], harness := (true, "9425871b2b160cb926148e73a5b5976a7c438b7cbd4086ab520406ed9118b6af"), looks := false }, kinds := [], alts := [], laidByText := true, laidKinds := [.data], laidTests := true, laidLooks := .later }
def FileNobodyUptoCardSaid : Prop := Claim7.holds Tryz.pinned (.plain (OpenSpec.upto fileNobodySpec)) fileNobodyUptoCard
end Rows
end Go.Proofs.YthdlefbaegbldaaGreatDoor
