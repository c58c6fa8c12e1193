/-
  DERIVED. GIVEN WITH THE SEED: THE CARDS: each row of YtloldhcljdmofaaDoorRows.lean that lists a variable, with what it lists TIED to the program's text (the seventh form; the later family's looks); each row that meets fmt, with fmt's text TOLD by the authors' own Lean function (tested against real Go, not proved from fmt's source: count such statements apart). THE CARD IS WHAT COUNTS. Prove the row's statement (the work); the ties are given (YtloldhcljdmofaaDoorTie.lean); close each card by the builder's one call (the guide's Derived/Test/ToyasCard.lean, 'card_holds'). Laid BY PROGRAM, IN A SANDBOX (cutbox-door.mjs). By AI agents, Wed Nov 11 2026. No macro, syntax, notation, axiom, sorry.
-/
import Derived.Test.YtloldhcljdmofaaDoorRows
import GoSem.ClaimSeven
namespace Go.Proofs.YtloldhcljdmofaaDoor
namespace Rows

/-- THE TIED CARD OF 'hartixlaw7.ElfWrites'. -/
def elfWritesCard : Claim7 := { stood := { row := elfWritesRow, standIns := [], harness := (true, "0b5b1685dc46e0f29808f742b5b61bb6de6f2966d09bc687c826cf46c3ba6672"), looks := true }, kinds := [], alts := [], laidByText := true, laidKinds := [.wider, .wider], laidTests := true, laidLooks := .later }
def ElfWritesCardSaid : Prop := Claim7.holds Tryd.pinned (.plain (OpenSpec.ofChange elfWritesSpec)) elfWritesCard

/-- THE TIED CARD OF 'hartixlaw7.ElfFresh'. -/
def elfFreshCard : Claim7 := { stood := { row := elfFreshRow, standIns := [], harness := (true, "0b5b1685dc46e0f29808f742b5b61bb6de6f2966d09bc687c826cf46c3ba6672"), looks := true }, kinds := [], alts := [], laidByText := true, laidKinds := [.wider, .wider], laidTests := true, laidLooks := .later }
def ElfFreshCardSaid : Prop := Claim7.holds Tryd.pinned (.plain (OpenSpec.ofChange elfFreshSpec)) elfFreshCard

/-- THE SECOND FORM's CARD OF 'hartixlaw7.ElfWrites'. -/
def elfWritesUptoCard : Claim7 := { stood := { row := elfWritesUptoRow, standIns := [], harness := (true, "0b5b1685dc46e0f29808f742b5b61bb6de6f2966d09bc687c826cf46c3ba6672"), looks := true }, kinds := [], alts := [], laidByText := true, laidKinds := [.wider, .wider], laidTests := true, laidLooks := .later }
def ElfWritesUptoCardSaid : Prop := Claim7.holds Tryd.pinned (.plain (OpenSpec.upto elfWritesSpec)) elfWritesUptoCard

/-- THE SECOND FORM's CARD OF 'hartixlaw7.ElfFresh'. -/
def elfFreshUptoCard : Claim7 := { stood := { row := elfFreshUptoRow, standIns := [], harness := (true, "0b5b1685dc46e0f29808f742b5b61bb6de6f2966d09bc687c826cf46c3ba6672"), looks := true }, kinds := [], alts := [], laidByText := true, laidKinds := [.wider, .wider], laidTests := true, laidLooks := .later }
def ElfFreshUptoCardSaid : Prop := Claim7.holds Tryd.pinned (.plain (OpenSpec.upto elfFreshSpec)) elfFreshUptoCard
end Rows
end Go.Proofs.YtloldhcljdmofaaDoor
