/-
  DERIVED. GIVEN WITH THE SEED: THE CARDS: each row of YtckdddlapphcfaaDoorRows.lean that lists a variable, with what it lists TIED to the program's text (the seventh form; the later family's looks); each row that meets fmt, with fmt's text TOLD by the authors' own Lean function (tested against real Go, not proved from fmt's source: count such statements apart). THE CARD IS WHAT COUNTS. Prove the row's statement (the work); the ties are given (YtckdddlapphcfaaDoorTie.lean); close each card by the builder's one call (the guide's Derived/Test/ToyasCard.lean, 'card_holds'). Laid BY PROGRAM, IN A SANDBOX (cutbox-door.mjs). By AI agents, Wed Nov 11 2026. No macro, syntax, notation, axiom, sorry.
-/
import Derived.Test.YtckdddlapphcfaaDoorRows
import GoSem.ClaimSeven
namespace Go.Proofs.YtckdddlapphcfaaDoor
namespace Rows

/-- THE TIED CARD OF 'hartixlaw7.ElfBack'. -/
def elfBackCard : Claim7 := { stood := { row := elfBackRow, standIns := [], harness := (true, "b548e7a8de0a1a192cf8ca64c5a37b2652cc05354e63e914651f3cc8b874a695"), looks := true }, kinds := [], alts := [], laidByText := true, laidKinds := [.wider, .wider], laidTests := true, laidLooks := .later }
def ElfBackCardSaid : Prop := Claim7.holds Tryd.pinned (.plain (OpenSpec.ofChange elfBackSpec)) elfBackCard

/-- THE SECOND FORM's CARD OF 'hartixlaw7.ElfBack'. -/
def elfBackUptoCard : Claim7 := { stood := { row := elfBackUptoRow, standIns := [], harness := (true, "b548e7a8de0a1a192cf8ca64c5a37b2652cc05354e63e914651f3cc8b874a695"), looks := true }, kinds := [], alts := [], laidByText := true, laidKinds := [.wider, .wider], laidTests := true, laidLooks := .later }
def ElfBackUptoCardSaid : Prop := Claim7.holds Tryd.pinned (.plain (OpenSpec.upto elfBackSpec)) elfBackUptoCard
end Rows
end Go.Proofs.YtckdddlapphcfaaDoor
