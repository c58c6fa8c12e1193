/-
  DERIVED. GIVEN WITH THE SEED: THE CARDS: each row of YtacdgfojdkppmaaGreatDoorRows.lean that lists a variable, with what it lists TIED to the program's text (the seventh form; the later family's looks); each row that meets fmt, with fmt's text TOLD by the authors' own Lean function (tested against real Go, not proved from fmt's source: count such statements apart). THE CARD IS WHAT COUNTS. Prove the row's statement (the work); the ties are given (YtacdgfojdkppmaaGreatDoorTie.lean); close each card by the builder's one call (the guide's Derived/Test/ToyasCard.lean, 'card_holds'). Laid BY PROGRAM, IN A SANDBOX (cutbox-door.mjs). By AI agents, Wed Nov 11 2026. No macro, syntax, notation, axiom, sorry.
-/
import Derived.Test.YtacdgfojdkppmaaGreatDoorRows
import GoSem.ClaimSeven
namespace Go.Proofs.YtacdgfojdkppmaaGreatDoor
namespace Rows

/-- THE TIED CARD OF 'hartixlaw14.ExecNobody'. -/
def execNobodyCard : Claim7 := { stood := { row := execNobodyRow, standIns := [], harness := (true, "a835f997f228bc01fcda05b9d9df17bcdcb3fa4a11fdfc1911493a7216101563"), looks := true }, kinds := [], alts := [], laidByText := true, laidKinds := [.wider, .wider, .data], laidTests := true, laidLooks := .later }
def ExecNobodyCardSaid : Prop := Claim7.holds Tryz.pinned (.plain (OpenSpec.ofChange execNobodySpec)) execNobodyCard

/-- THE TIED CARD OF 'hartixlaw14.ExecArgs'. -/
def execArgsCard : Claim7 := { stood := { row := execArgsRow, standIns := [], harness := (true, "a835f997f228bc01fcda05b9d9df17bcdcb3fa4a11fdfc1911493a7216101563"), looks := true }, kinds := [], alts := [], laidByText := true, laidKinds := [.wider, .wider, .data], laidTests := true, laidLooks := .later }
def ExecArgsCardSaid : Prop := Claim7.holds Tryz.pinned (.plain (OpenSpec.ofChange execArgsSpec)) execArgsCard

/-- THE TIED CARD OF 'hartixlaw14.ExecTwice'. -/
def execTwiceCard : Claim7 := { stood := { row := execTwiceRow, standIns := [], harness := (true, "a835f997f228bc01fcda05b9d9df17bcdcb3fa4a11fdfc1911493a7216101563"), looks := true }, kinds := [], alts := [], laidByText := true, laidKinds := [.wider, .wider, .data], laidTests := true, laidLooks := .later }
def ExecTwiceCardSaid : Prop := Claim7.holds Tryz.pinned (.plain (OpenSpec.ofChange execTwiceSpec)) execTwiceCard

/-- THE SECOND FORM's CARD OF 'hartixlaw14.ExecNobody'. -/
def execNobodyUptoCard : Claim7 := { stood := { row := execNobodyUptoRow, standIns := [], harness := (true, "a835f997f228bc01fcda05b9d9df17bcdcb3fa4a11fdfc1911493a7216101563"), looks := true }, kinds := [], alts := [], laidByText := true, laidKinds := [.wider, .wider, .data], laidTests := true, laidLooks := .later }
def ExecNobodyUptoCardSaid : Prop := Claim7.holds Tryz.pinned (.plain (OpenSpec.upto execNobodySpec)) execNobodyUptoCard

/-- THE SECOND FORM's CARD OF 'hartixlaw14.ExecArgs'. -/
def execArgsUptoCard : Claim7 := { stood := { row := execArgsUptoRow, standIns := [], harness := (true, "a835f997f228bc01fcda05b9d9df17bcdcb3fa4a11fdfc1911493a7216101563"), looks := true }, kinds := [], alts := [], laidByText := true, laidKinds := [.wider, .wider, .data], laidTests := true, laidLooks := .later }
def ExecArgsUptoCardSaid : Prop := Claim7.holds Tryz.pinned (.plain (OpenSpec.upto execArgsSpec)) execArgsUptoCard

/-- THE SECOND FORM's CARD OF 'hartixlaw14.ExecTwice'. -/
def execTwiceUptoCard : Claim7 := { stood := { row := execTwiceUptoRow, standIns := [], harness := (true, "a835f997f228bc01fcda05b9d9df17bcdcb3fa4a11fdfc1911493a7216101563"), looks := true }, kinds := [], alts := [], laidByText := true, laidKinds := [.wider, .wider, .data], laidTests := true, laidLooks := .later }
def ExecTwiceUptoCardSaid : Prop := Claim7.holds Tryz.pinned (.plain (OpenSpec.upto execTwiceSpec)) execTwiceUptoCard
end Rows
end Go.Proofs.YtacdgfojdkppmaaGreatDoor
