/-
  DERIVED. GIVEN WITH THE SEED: THE CARDS: each row of YtabnipbdbnmmpaaGreatDoorRows.lean that lists a variable, with what it lists TIED to the program's text (the seventh form; the later family's looks); each row that meets fmt, with fmt's text TOLD by the authors' own Lean function (tested against real Go, not proved from fmt's source: count such statements apart). THE CARD IS WHAT COUNTS. Prove the row's statement (the work); the ties are given (YtabnipbdbnmmpaaGreatDoorTie.lean); close each card by the builder's one call (the guide's Derived/Test/ToyasCard.lean, 'card_holds'). Laid BY PROGRAM, IN A SANDBOX (cutbox-door.mjs). By AI agents, Wed Nov 11 2026. No macro, syntax, notation, axiom, sorry.
-/
import Derived.Test.YtabnipbdbnmmpaaGreatDoorRows
import GoSem.ClaimSeven
namespace Go.Proofs.YtabnipbdbnmmpaaGreatDoor
namespace Rows

/-- THE TIED CARD OF 'hartixlaw14.ExecTwice'. -/
def execTwiceCard : Claim7 := { stood := { row := execTwiceRow, standIns := [], harness := (true, "11016494a37247b2d3092915c6d9da3ffd854f280a7eefa7d6ca01bf39836535"), looks := true }, kinds := [], alts := [], laidByText := true, laidKinds := [.wider, .wider, .data], laidTests := true, laidLooks := .later }
def ExecTwiceCardSaid : Prop := Claim7.holds Tryz.pinned (.plain (OpenSpec.ofChange execTwiceSpec)) execTwiceCard

/-- THE TIED CARD OF 'hartixlaw14.ExecShows'. -/
def execShowsCard : Claim7 := { stood := { row := execShowsRow, standIns := [], harness := (true, "11016494a37247b2d3092915c6d9da3ffd854f280a7eefa7d6ca01bf39836535"), looks := true }, kinds := [], alts := [], laidByText := true, laidKinds := [.wider, .wider, .data], laidTests := true, laidLooks := .later }
def ExecShowsCardSaid : Prop := Claim7.holds Tryz.pinned (.plain (OpenSpec.ofChange execShowsSpec)) execShowsCard

/-- THE TIED CARD OF 'hartixlaw14.ExecLoads'. -/
def execLoadsCard : Claim7 := { stood := { row := execLoadsRow, standIns := [], harness := (true, "11016494a37247b2d3092915c6d9da3ffd854f280a7eefa7d6ca01bf39836535"), looks := true }, kinds := [], alts := [], laidByText := true, laidKinds := [.wider, .wider, .data], laidTests := true, laidLooks := .later }
def ExecLoadsCardSaid : Prop := Claim7.holds Tryz.pinned (.plain (OpenSpec.ofChange execLoadsSpec)) execLoadsCard

/-- THE SECOND FORM's CARD OF 'hartixlaw14.ExecTwice'. -/
def execTwiceUptoCard : Claim7 := { stood := { row := execTwiceUptoRow, standIns := [], harness := (true, "11016494a37247b2d3092915c6d9da3ffd854f280a7eefa7d6ca01bf39836535"), looks := true }, kinds := [], alts := [], laidByText := true, laidKinds := [.wider, .wider, .data], laidTests := true, laidLooks := .later }
def ExecTwiceUptoCardSaid : Prop := Claim7.holds Tryz.pinned (.plain (OpenSpec.upto execTwiceSpec)) execTwiceUptoCard

/-- THE SECOND FORM's CARD OF 'hartixlaw14.ExecShows'. -/
def execShowsUptoCard : Claim7 := { stood := { row := execShowsUptoRow, standIns := [], harness := (true, "11016494a37247b2d3092915c6d9da3ffd854f280a7eefa7d6ca01bf39836535"), looks := true }, kinds := [], alts := [], laidByText := true, laidKinds := [.wider, .wider, .data], laidTests := true, laidLooks := .later }
def ExecShowsUptoCardSaid : Prop := Claim7.holds Tryz.pinned (.plain (OpenSpec.upto execShowsSpec)) execShowsUptoCard

/-- THE SECOND FORM's CARD OF 'hartixlaw14.ExecLoads'. -/
def execLoadsUptoCard : Claim7 := { stood := { row := execLoadsUptoRow, standIns := [], harness := (true, "11016494a37247b2d3092915c6d9da3ffd854f280a7eefa7d6ca01bf39836535"), looks := true }, kinds := [], alts := [], laidByText := true, laidKinds := [.wider, .wider, .data], laidTests := true, laidLooks := .later }
def ExecLoadsUptoCardSaid : Prop := Claim7.holds Tryz.pinned (.plain (OpenSpec.upto execLoadsSpec)) execLoadsUptoCard
end Rows
end Go.Proofs.YtabnipbdbnmmpaaGreatDoor
