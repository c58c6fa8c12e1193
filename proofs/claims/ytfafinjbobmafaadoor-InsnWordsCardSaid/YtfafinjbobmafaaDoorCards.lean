/-
  DERIVED. GIVEN WITH THE SEED: THE CARDS: each row of YtfafinjbobmafaaDoorRows.lean that lists a variable, with what it lists TIED to the program's text (the seventh form; the later family's looks); each row that meets fmt, with fmt's text TOLD by the authors' own Lean function (tested against real Go, not proved from fmt's source: count such statements apart). THE CARD IS WHAT COUNTS. Prove the row's statement (the work); the ties are given (YtfafinjbobmafaaDoorTie.lean); close each card by the builder's one call (the guide's Derived/Test/ToyasCard.lean, 'card_holds'). Laid BY PROGRAM, IN A SANDBOX (cutbox-door.mjs). By AI agents, Wed Nov 11 2026. No macro, syntax, notation, axiom, sorry.
-/
import Derived.Test.YtfafinjbobmafaaDoorRows
import GoSem.ClaimSeven
namespace Go.Proofs.YtfafinjbobmafaaDoor
namespace Rows

/-- THE TIED CARD OF 'hartixlaw1.InsnBack'. -/
def insnBackCard : Claim7 := { stood := { row := insnBackRow, standIns := [], harness := (true, "18c125ca5dd5ec4fa3ad8b7fbd570a163cd00c2463133db0a0731c35fb6bb7bc"), looks := true }, kinds := [], alts := [], laidByText := true, laidKinds := [.data, .data, .data], laidTests := true, laidLooks := .later }
def InsnBackCardSaid : Prop := Claim7.holds Tryd.pinned (.plain (OpenSpec.ofChange insnBackSpec)) insnBackCard

/-- THE TIED CARD OF 'hartixlaw1.InsnWords'. -/
def insnWordsCard : Claim7 := { stood := { row := insnWordsRow, standIns := [], harness := (true, "18c125ca5dd5ec4fa3ad8b7fbd570a163cd00c2463133db0a0731c35fb6bb7bc"), looks := true }, kinds := [], alts := [], laidByText := true, laidKinds := [.data, .data, .data], laidTests := true, laidLooks := .later }
def InsnWordsCardSaid : Prop := Claim7.holds Tryd.pinned (.plain (OpenSpec.ofChange insnWordsSpec)) insnWordsCard

/-- THE SECOND FORM's CARD OF 'hartixlaw1.InsnBack'. -/
def insnBackUptoCard : Claim7 := { stood := { row := insnBackUptoRow, standIns := [], harness := (true, "18c125ca5dd5ec4fa3ad8b7fbd570a163cd00c2463133db0a0731c35fb6bb7bc"), looks := true }, kinds := [], alts := [], laidByText := true, laidKinds := [.data, .data, .data], laidTests := true, laidLooks := .later }
def InsnBackUptoCardSaid : Prop := Claim7.holds Tryd.pinned (.plain (OpenSpec.upto insnBackSpec)) insnBackUptoCard

/-- THE SECOND FORM's CARD OF 'hartixlaw1.InsnWords'. -/
def insnWordsUptoCard : Claim7 := { stood := { row := insnWordsUptoRow, standIns := [], harness := (true, "18c125ca5dd5ec4fa3ad8b7fbd570a163cd00c2463133db0a0731c35fb6bb7bc"), looks := true }, kinds := [], alts := [], laidByText := true, laidKinds := [.data, .data, .data], laidTests := true, laidLooks := .later }
def InsnWordsUptoCardSaid : Prop := Claim7.holds Tryd.pinned (.plain (OpenSpec.upto insnWordsSpec)) insnWordsUptoCard
end Rows
end Go.Proofs.YtfafinjbobmafaaDoor
