/-
  DERIVED. GIVEN WITH THE SEED: THE CARDS: each row of YtpdlcjcigeegjaaDoorRows.lean that lists a variable, with what it lists TIED to the program's text (the seventh form; the later family's looks); each row that meets fmt, with fmt's text TOLD by the authors' own Lean function (tested against real Go, not proved from fmt's source: count such statements apart). THE CARD IS WHAT COUNTS. Prove the row's statement (the work); the ties are given (YtpdlcjcigeegjaaDoorTie.lean); close each card by the builder's one call (the guide's Derived/Test/ToyasCard.lean, 'card_holds'). Laid BY PROGRAM, IN A SANDBOX (cutbox-door.mjs). By AI agents, Wed Nov 11 2026. No macro, syntax, notation, axiom, sorry.
-/
import Derived.Test.YtpdlcjcigeegjaaDoorRows
import GoSem.ClaimSeven
namespace Go.Proofs.YtpdlcjcigeegjaaDoor
namespace Rows

/-- THE TIED CARD OF 'hartixlaw7.ElfAgain'. -/
def elfAgainCard : Claim7 := { stood := { row := elfAgainRow, standIns := [], harness := (true, "9d9388f4bbc9bbf481182eaf51b90f5963eb85c44acb2daa4afea23e307247df"), looks := true }, kinds := [], alts := [], laidByText := true, laidKinds := [.wider, .wider], laidTests := true, laidLooks := .later }
def ElfAgainCardSaid : Prop := Claim7.holds Tryd.pinned (.plain (OpenSpec.ofChange elfAgainSpec)) elfAgainCard

/-- THE TIED CARD OF 'hartixlaw7.ElfCut'. -/
def elfCutCard : Claim7 := { stood := { row := elfCutRow, standIns := [], harness := (true, "9d9388f4bbc9bbf481182eaf51b90f5963eb85c44acb2daa4afea23e307247df"), looks := true }, kinds := [], alts := [], laidByText := true, laidKinds := [.wider, .wider], laidTests := true, laidLooks := .later }
def ElfCutCardSaid : Prop := Claim7.holds Tryd.pinned (.plain (OpenSpec.ofChange elfCutSpec)) elfCutCard

/-- THE SECOND FORM's CARD OF 'hartixlaw7.ElfAgain'. -/
def elfAgainUptoCard : Claim7 := { stood := { row := elfAgainUptoRow, standIns := [], harness := (true, "9d9388f4bbc9bbf481182eaf51b90f5963eb85c44acb2daa4afea23e307247df"), looks := true }, kinds := [], alts := [], laidByText := true, laidKinds := [.wider, .wider], laidTests := true, laidLooks := .later }
def ElfAgainUptoCardSaid : Prop := Claim7.holds Tryd.pinned (.plain (OpenSpec.upto elfAgainSpec)) elfAgainUptoCard

/-- THE SECOND FORM's CARD OF 'hartixlaw7.ElfCut'. -/
def elfCutUptoCard : Claim7 := { stood := { row := elfCutUptoRow, standIns := [], harness := (true, "9d9388f4bbc9bbf481182eaf51b90f5963eb85c44acb2daa4afea23e307247df"), looks := true }, kinds := [], alts := [], laidByText := true, laidKinds := [.wider, .wider], laidTests := true, laidLooks := .later }
def ElfCutUptoCardSaid : Prop := Claim7.holds Tryd.pinned (.plain (OpenSpec.upto elfCutSpec)) elfCutUptoCard
end Rows
end Go.Proofs.YtpdlcjcigeegjaaDoor
