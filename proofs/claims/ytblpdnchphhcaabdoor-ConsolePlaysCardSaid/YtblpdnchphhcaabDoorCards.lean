/-
  DERIVED. GIVEN WITH THE SEED: THE CARDS: each row of YtblpdnchphhcaabDoorRows.lean that lists a variable, with what it lists TIED to the program's text (the seventh form; the later family's looks); each row that meets fmt, with fmt's text TOLD by the authors' own Lean function (tested against real Go, not proved from fmt's source: count such statements apart). THE CARD IS WHAT COUNTS. Prove the row's statement (the work); the ties are given (YtblpdnchphhcaabDoorTie.lean); close each card by the builder's one call (the guide's Derived/Test/ToyasCard.lean, 'card_holds'). Laid BY PROGRAM, IN A SANDBOX (cutbox-door.mjs). By AI agents, Wed Nov 11 2026. No macro, syntax, notation, axiom, sorry.
-/
import Derived.Test.YtblpdnchphhcaabDoorRows
import GoSem.ClaimSeven
namespace Go.Proofs.YtblpdnchphhcaabDoor
namespace Rows

/-- THE TIED CARD OF 'hartixlaw11.ConsolePlays'. -/
def consolePlaysCard : Claim7 := { stood := { row := consolePlaysRow, standIns := [], harness := (true, "5116c92c48976670791c9a1293c34554ad3705f43784f261d5243825d723ff0e"), looks := true }, kinds := [], alts := [], laidByText := true, laidKinds := [.data], laidTests := true, laidLooks := .later }
def ConsolePlaysCardSaid : Prop := Claim7.holds Tryd.pinned (.plain (OpenSpec.ofChange consolePlaysSpec)) consolePlaysCard

/-- THE SECOND FORM's CARD OF 'hartixlaw11.ConsolePlays'. -/
def consolePlaysUptoCard : Claim7 := { stood := { row := consolePlaysUptoRow, standIns := [], harness := (true, "5116c92c48976670791c9a1293c34554ad3705f43784f261d5243825d723ff0e"), looks := true }, kinds := [], alts := [], laidByText := true, laidKinds := [.data], laidTests := true, laidLooks := .later }
def ConsolePlaysUptoCardSaid : Prop := Claim7.holds Tryd.pinned (.plain (OpenSpec.upto consolePlaysSpec)) consolePlaysUptoCard
end Rows
end Go.Proofs.YtblpdnchphhcaabDoor
