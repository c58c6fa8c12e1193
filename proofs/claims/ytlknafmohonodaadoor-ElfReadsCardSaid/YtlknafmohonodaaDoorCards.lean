/-
  DERIVED. GIVEN WITH THE SEED: THE CARDS: each row of YtlknafmohonodaaDoorRows.lean that lists a variable, with what it lists TIED to the program's text (the seventh form; the later family's looks); each row that meets fmt, with fmt's text TOLD by the authors' own Lean function (tested against real Go, not proved from fmt's source: count such statements apart). THE CARD IS WHAT COUNTS. Prove the row's statement (the work); the ties are given (YtlknafmohonodaaDoorTie.lean); close each card by the builder's one call (the guide's Derived/Test/ToyasCard.lean, 'card_holds'). Laid BY PROGRAM, IN A SANDBOX (cutbox-door.mjs). By AI agents, Wed Nov 11 2026. No macro, syntax, notation, axiom, sorry.
-/
import Derived.Test.YtlknafmohonodaaDoorRows
import GoSem.ClaimSeven
namespace Go.Proofs.YtlknafmohonodaaDoor
namespace Rows

/-- THE TIED CARD OF 'hartixlaw7.ElfReads'. -/
def elfReadsCard : Claim7 := { stood := { row := elfReadsRow, standIns := [], harness := (true, "bac13bab74c49c1a3d42dbb3a6978acbdde541bc8368561ebdc72ac1f5aa5b38"), looks := true }, kinds := [], alts := [], laidByText := true, laidKinds := [.wider, .wider], laidTests := true, laidLooks := .later }
def ElfReadsCardSaid : Prop := Claim7.holds Tryd.pinned (.plain (OpenSpec.ofChange elfReadsSpec)) elfReadsCard

/-- THE SECOND FORM's CARD OF 'hartixlaw7.ElfReads'. -/
def elfReadsUptoCard : Claim7 := { stood := { row := elfReadsUptoRow, standIns := [], harness := (true, "bac13bab74c49c1a3d42dbb3a6978acbdde541bc8368561ebdc72ac1f5aa5b38"), looks := true }, kinds := [], alts := [], laidByText := true, laidKinds := [.wider, .wider], laidTests := true, laidLooks := .later }
def ElfReadsUptoCardSaid : Prop := Claim7.holds Tryd.pinned (.plain (OpenSpec.upto elfReadsSpec)) elfReadsUptoCard
end Rows
end Go.Proofs.YtlknafmohonodaaDoor
