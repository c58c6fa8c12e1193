/-
  No cell of these rows narrows 'for every input' (looked for: loops, veiled, ifaces, maps, wideKeys, modest, calm, conditions, laid).
  DERIVED. THE GIVEN ROWS OF THIS SEAT. 5 by the template 'for every input the law returns true; each argument reads behind the call as it read before'; 0 by the template 'total and deterministic' (their statements: YtcjkedgoinbofaaGreatTotals.lean).
  GIVEN WITH THE SEED: the statements are not yours to turn. If you find one false, say at which input.
  Laid BY PROGRAM, IN A SANDBOX (cutbox-rows.mjs): the forced cells as the released guide's own fill.sh prints them over the translation 9c6bb2e85ef083ee… (all of the seat's roots in one cut). By AI agents, Wed Nov 11 2026. No macro, syntax, notation, axiom, sorry.
-/
import Derived.Test.YtcjkedgoinbofaaGreatChecked
import GoSem.Claim
import GoSem.ClaimJoined
import GoSem.ClaimMapViews
import Derived.JoinedTies
import Derived.KernelRfl
namespace Go.Proofs.YtcjkedgoinbofaaGreat
/- THE CELL 'sum', in the pinned program and in every row, IS THE sha256 OF THE DUMP (.gsa) THAT YtcjkedgoinbofaaGreatProg.lean LOADS. Nothing in Lean hashes anything: it is a label: what it is worth is what the hold of that sum in a sandbox is worth. -/
noncomputable def Tryz.pinned : Pinned := { name := "ytcjkedgoinbofaagreat", sum := "9c6bb2e85ef083eea6974c2b16badbd4b89c70315eaea281bae9cc5f163cd89b", checked := Tryz.checked }
namespace Rows
def none {H : Type} : Left H := { results := [], args := [] }

/-- 'hartixlaw5.HartNobody': WHATEVER THE INPUT: true; the input reads as it did. -/
def hartNobodySpec : ChangeSpec := { name := "hartNobody", fn := fun _ => fun
  | [d1, d2, d3] => { results := [.lit (.bool true)], args := [d1, d2, d3] }
  | _ => none }
def hartNobodyRow : OpenClaim := { program := "ytcjkedgoinbofaagreat", sum := "9c6bb2e85ef083eea6974c2b16badbd4b89c70315eaea281bae9cc5f163cd89b", func := "hartix/hartixlaw5.HartNobody", spec := "hartNobody", unfollowed := true, recurses := true, apart := false }
def HartNobodySaid : Prop := hartNobodyRow.holds Tryz.pinned (OpenSpec.ofChange hartNobodySpec)

/-- ITS FALSE NEIGHBOUR: 'it returns false'. Refute it at one input. -/
def hartNobodyWrong : ChangeSpec := { name := "hartNobody", fn := fun _ => fun
  | [d1, d2, d3] => { results := [.lit (.bool false)], args := [d1, d2, d3] }
  | _ => none }
def HartNobodyWrongFalsely : Prop := hartNobodyRow.holds Tryz.pinned (OpenSpec.ofChange hartNobodyWrong)

/-- 'hartixlaw5.HartAlone': WHATEVER THE INPUT: true; the input reads as it did. -/
def hartAloneSpec : ChangeSpec := { name := "hartAlone", fn := fun _ => fun
  | [d1, d2, d3] => { results := [.lit (.bool true)], args := [d1, d2, d3] }
  | _ => none }
def hartAloneRow : OpenClaim := { program := "ytcjkedgoinbofaagreat", sum := "9c6bb2e85ef083eea6974c2b16badbd4b89c70315eaea281bae9cc5f163cd89b", func := "hartix/hartixlaw5.HartAlone", spec := "hartAlone", unfollowed := true, recurses := true, apart := false }
def HartAloneSaid : Prop := hartAloneRow.holds Tryz.pinned (OpenSpec.ofChange hartAloneSpec)

/-- ITS FALSE NEIGHBOUR: 'it returns false'. Refute it at one input. -/
def hartAloneWrong : ChangeSpec := { name := "hartAlone", fn := fun _ => fun
  | [d1, d2, d3] => { results := [.lit (.bool false)], args := [d1, d2, d3] }
  | _ => none }
def HartAloneWrongFalsely : Prop := hartAloneRow.holds Tryz.pinned (OpenSpec.ofChange hartAloneWrong)

/-- 'hartixlaw5.HartSums': WHATEVER THE INPUT: true; the input reads as it did. -/
def hartSumsSpec : ChangeSpec := { name := "hartSums", fn := fun _ => fun
  | [d] => { results := [.lit (.bool true)], args := [d] }
  | _ => none }
def hartSumsRow : OpenClaim := { program := "ytcjkedgoinbofaagreat", sum := "9c6bb2e85ef083eea6974c2b16badbd4b89c70315eaea281bae9cc5f163cd89b", func := "hartix/hartixlaw5.HartSums", spec := "hartSums", unfollowed := true, recurses := true, apart := false }
def HartSumsSaid : Prop := hartSumsRow.holds Tryz.pinned (OpenSpec.ofChange hartSumsSpec)

/-- ITS FALSE NEIGHBOUR: 'it returns false'. Refute it at one input. -/
def hartSumsWrong : ChangeSpec := { name := "hartSums", fn := fun _ => fun
  | [d] => { results := [.lit (.bool false)], args := [d] }
  | _ => none }
def HartSumsWrongFalsely : Prop := hartSumsRow.holds Tryz.pinned (OpenSpec.ofChange hartSumsWrong)

/-- 'hartixlaw5.HartBounds': WHATEVER THE INPUT: true; the input reads as it did. -/
def hartBoundsSpec : ChangeSpec := { name := "hartBounds", fn := fun _ => fun
  | [d1, d2] => { results := [.lit (.bool true)], args := [d1, d2] }
  | _ => none }
def hartBoundsRow : OpenClaim := { program := "ytcjkedgoinbofaagreat", sum := "9c6bb2e85ef083eea6974c2b16badbd4b89c70315eaea281bae9cc5f163cd89b", func := "hartix/hartixlaw5.HartBounds", spec := "hartBounds", unfollowed := true, recurses := true, apart := false }
def HartBoundsSaid : Prop := hartBoundsRow.holds Tryz.pinned (OpenSpec.ofChange hartBoundsSpec)

/-- ITS FALSE NEIGHBOUR: 'it returns false'. Refute it at one input. -/
def hartBoundsWrong : ChangeSpec := { name := "hartBounds", fn := fun _ => fun
  | [d1, d2] => { results := [.lit (.bool false)], args := [d1, d2] }
  | _ => none }
def HartBoundsWrongFalsely : Prop := hartBoundsRow.holds Tryz.pinned (OpenSpec.ofChange hartBoundsWrong)

/-- 'hartixlaw5.HartPlays': WHATEVER THE INPUT: true; the input reads as it did. -/
def hartPlaysSpec : ChangeSpec := { name := "hartPlays", fn := fun _ => fun
  | [d1, d2] => { results := [.lit (.bool true)], args := [d1, d2] }
  | _ => none }
def hartPlaysRow : OpenClaim := { program := "ytcjkedgoinbofaagreat", sum := "9c6bb2e85ef083eea6974c2b16badbd4b89c70315eaea281bae9cc5f163cd89b", func := "hartix/hartixlaw5.HartPlays", spec := "hartPlays", unfollowed := true, recurses := true, apart := false }
def HartPlaysSaid : Prop := hartPlaysRow.holds Tryz.pinned (OpenSpec.ofChange hartPlaysSpec)

/-- ITS FALSE NEIGHBOUR: 'it returns false'. Refute it at one input. -/
def hartPlaysWrong : ChangeSpec := { name := "hartPlays", fn := fun _ => fun
  | [d1, d2] => { results := [.lit (.bool false)], args := [d1, d2] }
  | _ => none }
def HartPlaysWrongFalsely : Prop := hartPlaysRow.holds Tryz.pinned (OpenSpec.ofChange hartPlaysWrong)

/- THE SECOND FORM. 'bulk': how many values and letters a reading holds, each counted each time it is reached (what is shared counts as often as it is met; a slice's spare places count too). A statement '..UptoSaid' is the law's where the arguments, and the package variables that the reading takes, are together of bulk at most 1048576: NARROWER than '..Said'. Prove '..Said' where nothing that the law and all that it calls make is longer than what came in: it says more and counts as full. Else prove '..UptoSaid'. A law counts once. -/
mutual
def uptoBulk {H : Type} : DataW H → Nat
  | .lit (.string bytes) => bytes.length + 1
  | .lit _ => 1
  | .nil => 1
  | .ptr d => uptoBulk d + 1
  | .slice elems spare => uptoBulkAll elems + uptoBulkAll spare + 1
  | .agg parts => uptoBulkAll parts + 1
  | .iface _ d => uptoBulk d + 1
  | .map entries => uptoBulkEntries entries + 1
  | .held _ => 1
def uptoBulkAll {H : Type} : List (DataW H) → Nat
  | [] => 0
  | d :: r => uptoBulk d + uptoBulkAll r
def uptoBulkEntries {H : Type} : List (Lit × DataW H) → Nat
  | [] => 0
  | x :: r => uptoBulkEntry x + uptoBulkEntries r
def uptoBulkEntry {H : Type} : Lit × DataW H → Nat
  | (.string bytes, d) => bytes.length + uptoBulk d + 1
  | (_, d) => uptoBulk d + 1
 end
def uptoSmall : (H : Type) → List (DataW H) → Bool := fun _ ds => decide (uptoBulkAll ds ≤ 1048576)
def OpenSpec.upto (s : _root_.Go.ChangeSpec) : _root_.Go.OpenSpec := { _root_.Go.OpenSpec.ofChange s with cond := some uptoSmall }

/-- 'hartixlaw5.HartNobody', WHERE WHAT IT READS IS OF BULK AT MOST 1048576: true; the input reads as it did. -/
def hartNobodyUptoRow : OpenClaim := { program := "ytcjkedgoinbofaagreat", sum := "9c6bb2e85ef083eea6974c2b16badbd4b89c70315eaea281bae9cc5f163cd89b", func := "hartix/hartixlaw5.HartNobody", spec := "hartNobody", unfollowed := true, recurses := true, apart := false, narrowed := true }
def HartNobodyUptoSaid : Prop := hartNobodyUptoRow.holds Tryz.pinned (OpenSpec.upto hartNobodySpec)

/-- 'hartixlaw5.HartAlone', WHERE WHAT IT READS IS OF BULK AT MOST 1048576: true; the input reads as it did. -/
def hartAloneUptoRow : OpenClaim := { program := "ytcjkedgoinbofaagreat", sum := "9c6bb2e85ef083eea6974c2b16badbd4b89c70315eaea281bae9cc5f163cd89b", func := "hartix/hartixlaw5.HartAlone", spec := "hartAlone", unfollowed := true, recurses := true, apart := false, narrowed := true }
def HartAloneUptoSaid : Prop := hartAloneUptoRow.holds Tryz.pinned (OpenSpec.upto hartAloneSpec)

/-- 'hartixlaw5.HartSums', WHERE WHAT IT READS IS OF BULK AT MOST 1048576: true; the input reads as it did. -/
def hartSumsUptoRow : OpenClaim := { program := "ytcjkedgoinbofaagreat", sum := "9c6bb2e85ef083eea6974c2b16badbd4b89c70315eaea281bae9cc5f163cd89b", func := "hartix/hartixlaw5.HartSums", spec := "hartSums", unfollowed := true, recurses := true, apart := false, narrowed := true }
def HartSumsUptoSaid : Prop := hartSumsUptoRow.holds Tryz.pinned (OpenSpec.upto hartSumsSpec)

/-- 'hartixlaw5.HartBounds', WHERE WHAT IT READS IS OF BULK AT MOST 1048576: true; the input reads as it did. -/
def hartBoundsUptoRow : OpenClaim := { program := "ytcjkedgoinbofaagreat", sum := "9c6bb2e85ef083eea6974c2b16badbd4b89c70315eaea281bae9cc5f163cd89b", func := "hartix/hartixlaw5.HartBounds", spec := "hartBounds", unfollowed := true, recurses := true, apart := false, narrowed := true }
def HartBoundsUptoSaid : Prop := hartBoundsUptoRow.holds Tryz.pinned (OpenSpec.upto hartBoundsSpec)

/-- 'hartixlaw5.HartPlays', WHERE WHAT IT READS IS OF BULK AT MOST 1048576: true; the input reads as it did. -/
def hartPlaysUptoRow : OpenClaim := { program := "ytcjkedgoinbofaagreat", sum := "9c6bb2e85ef083eea6974c2b16badbd4b89c70315eaea281bae9cc5f163cd89b", func := "hartix/hartixlaw5.HartPlays", spec := "hartPlays", unfollowed := true, recurses := true, apart := false, narrowed := true }
def HartPlaysUptoSaid : Prop := hartPlaysUptoRow.holds Tryz.pinned (OpenSpec.upto hartPlaysSpec)

end Rows
end Go.Proofs.YtcjkedgoinbofaaGreat
