/-
  No cell of these rows narrows 'for every input' (looked for: loops, veiled, ifaces, maps, wideKeys, modest, calm, conditions, laid).
  DERIVED. THE GIVEN ROWS OF THIS SEAT. 4 by the template 'for every input the law returns true; each argument reads behind the call as it read before'; 0 by the template 'total and deterministic' (their statements: YtfafinjbobmafaaTotals.lean).
  GIVEN WITH THE SEED: the statements are not yours to turn. If you find one false, say at which input.
  Laid BY PROGRAM, IN A SANDBOX (cutbox-rows.mjs): the forced cells as the released guide's own fill.sh prints them over the translation a7ad294b438d38aa… (all of the seat's roots in one cut). By AI agents, Wed Nov 11 2026. No macro, syntax, notation, axiom, sorry.
-/
import Derived.Test.YtfafinjbobmafaaChecked
import GoSem.Claim
import GoSem.ClaimJoined
import GoSem.ClaimMapViews
import Derived.JoinedTies
import Derived.KernelRfl
namespace Go.Proofs.Ytfafinjbobmafaa
/- THE CELL 'sum', in the pinned program and in every row, IS THE sha256 OF THE DUMP (.gsa) THAT YtfafinjbobmafaaProg.lean LOADS. Nothing in Lean hashes anything: it is a label: what it is worth is what the hold of that sum in a sandbox is worth. -/
noncomputable def Try.pinned : Pinned := { name := "ytfafinjbobmafaa", sum := "a7ad294b438d38aa5bfe8d329aa92ec4dc24f55c166f9adf4663034f6c298c1d", checked := Try.checked }
namespace Rows
def none {H : Type} : Left H := { results := [], args := [] }

/-- 'hartixlaw1.InsnNames': WHATEVER THE INPUT: true; the input reads as it did. -/
def insnNamesSpec : ChangeSpec := { name := "insnNames", fn := fun _ => fun
  | [] => { results := [.lit (.bool true)], args := [] }
  | _ => none }
def insnNamesRow : OpenClaim := { program := "ytfafinjbobmafaa", sum := "a7ad294b438d38aa5bfe8d329aa92ec4dc24f55c166f9adf4663034f6c298c1d", func := "hartix/hartixlaw1.InsnNames", spec := "insnNames", apart := false }
def InsnNamesSaid : Prop := insnNamesRow.holds Try.pinned (OpenSpec.ofChange insnNamesSpec)

/-- ITS FALSE NEIGHBOUR: 'it returns false'. Refute it at one input. -/
def insnNamesWrong : ChangeSpec := { name := "insnNames", fn := fun _ => fun
  | [] => { results := [.lit (.bool false)], args := [] }
  | _ => none }
def InsnNamesWrongFalsely : Prop := insnNamesRow.holds Try.pinned (OpenSpec.ofChange insnNamesWrong)

/-- 'hartixlaw1.InsnBare': WHATEVER THE INPUT: true; the input reads as it did. -/
def insnBareSpec : ChangeSpec := { name := "insnBare", fn := fun _ => fun
  | [d1, d2] => { results := [.lit (.bool true)], args := [d1, d2] }
  | _ => none }
def insnBareRow : OpenClaim := { program := "ytfafinjbobmafaa", sum := "a7ad294b438d38aa5bfe8d329aa92ec4dc24f55c166f9adf4663034f6c298c1d", func := "hartix/hartixlaw1.InsnBare", spec := "insnBare", unfollowed := true, recurses := true, apart := false }
def InsnBareSaid : Prop := insnBareRow.holds Try.pinned (OpenSpec.ofChange insnBareSpec)

/-- ITS FALSE NEIGHBOUR: 'it returns false'. Refute it at one input. -/
def insnBareWrong : ChangeSpec := { name := "insnBare", fn := fun _ => fun
  | [d1, d2] => { results := [.lit (.bool false)], args := [d1, d2] }
  | _ => none }
def InsnBareWrongFalsely : Prop := insnBareRow.holds Try.pinned (OpenSpec.ofChange insnBareWrong)

/-- 'hartixlaw1.InsnRegs': WHATEVER THE INPUT: true; the input reads as it did. -/
def insnRegsSpec : ChangeSpec := { name := "insnRegs", fn := fun _ => fun
  | [d] => { results := [.lit (.bool true)], args := [d] }
  | _ => none }
def insnRegsRow : OpenClaim := { program := "ytfafinjbobmafaa", sum := "a7ad294b438d38aa5bfe8d329aa92ec4dc24f55c166f9adf4663034f6c298c1d", func := "hartix/hartixlaw1.InsnRegs", spec := "insnRegs", unfollowed := true, recurses := true, apart := false }
def InsnRegsSaid : Prop := insnRegsRow.holds Try.pinned (OpenSpec.ofChange insnRegsSpec)

/-- ITS FALSE NEIGHBOUR: 'it returns false'. Refute it at one input. -/
def insnRegsWrong : ChangeSpec := { name := "insnRegs", fn := fun _ => fun
  | [d] => { results := [.lit (.bool false)], args := [d] }
  | _ => none }
def InsnRegsWrongFalsely : Prop := insnRegsRow.holds Try.pinned (OpenSpec.ofChange insnRegsWrong)

/-- 'hartixlaw1.InsnEncodes': WHATEVER THE INPUT: true; the input reads as it did. -/
def insnEncodesSpec : ChangeSpec := { name := "insnEncodes", fn := fun _ => fun
  | [d] => { results := [.lit (.bool true)], args := [d] }
  | _ => none }
def insnEncodesRow : OpenClaim := { program := "ytfafinjbobmafaa", sum := "a7ad294b438d38aa5bfe8d329aa92ec4dc24f55c166f9adf4663034f6c298c1d", func := "hartix/hartixlaw1.InsnEncodes", spec := "insnEncodes", unfollowed := true, recurses := true, apart := false }
def InsnEncodesSaid : Prop := insnEncodesRow.holds Try.pinned (OpenSpec.ofChange insnEncodesSpec)

/-- ITS FALSE NEIGHBOUR: 'it returns false'. Refute it at one input. -/
def insnEncodesWrong : ChangeSpec := { name := "insnEncodes", fn := fun _ => fun
  | [d] => { results := [.lit (.bool false)], args := [d] }
  | _ => none }
def InsnEncodesWrongFalsely : Prop := insnEncodesRow.holds Try.pinned (OpenSpec.ofChange insnEncodesWrong)

/- THE SECOND FORM. 'bulk': how many values and letters a reading holds, each counted each time it is reached (what is shared counts as often as it is met; a slice's spare places count too). A statement '..UptoSaid' is the law's where the arguments, and the package variables that the reading takes, are together of bulk at most 1048576: NARROWER than '..Said'. Prove '..Said' where nothing that the law and all that it calls make is longer than what came in: it says more and counts as full. Else prove '..UptoSaid'. A law counts once. -/
mutual
def uptoBulk {H : Type} : DataW H → Nat
  | .lit (.string bytes) => bytes.length + 1
  | .lit _ => 1
  | .nil => 1
  | .ptr d => uptoBulk d + 1
  | .slice elems spare => uptoBulkAll elems + uptoBulkAll spare + 1
  | .agg parts => uptoBulkAll parts + 1
  | .iface _ d => uptoBulk d + 1
  | .map entries => uptoBulkEntries entries + 1
  | .held _ => 1
def uptoBulkAll {H : Type} : List (DataW H) → Nat
  | [] => 0
  | d :: r => uptoBulk d + uptoBulkAll r
def uptoBulkEntries {H : Type} : List (Lit × DataW H) → Nat
  | [] => 0
  | x :: r => uptoBulkEntry x + uptoBulkEntries r
def uptoBulkEntry {H : Type} : Lit × DataW H → Nat
  | (.string bytes, d) => bytes.length + uptoBulk d + 1
  | (_, d) => uptoBulk d + 1
 end
def uptoSmall : (H : Type) → List (DataW H) → Bool := fun _ ds => decide (uptoBulkAll ds ≤ 1048576)
def OpenSpec.upto (s : _root_.Go.ChangeSpec) : _root_.Go.OpenSpec := { _root_.Go.OpenSpec.ofChange s with cond := some uptoSmall }

/-- 'hartixlaw1.InsnNames', WHERE WHAT IT READS IS OF BULK AT MOST 1048576: true; the input reads as it did. -/
def insnNamesUptoRow : OpenClaim := { program := "ytfafinjbobmafaa", sum := "a7ad294b438d38aa5bfe8d329aa92ec4dc24f55c166f9adf4663034f6c298c1d", func := "hartix/hartixlaw1.InsnNames", spec := "insnNames", apart := false, narrowed := true }
def InsnNamesUptoSaid : Prop := insnNamesUptoRow.holds Try.pinned (OpenSpec.upto insnNamesSpec)

/-- 'hartixlaw1.InsnBare', WHERE WHAT IT READS IS OF BULK AT MOST 1048576: true; the input reads as it did. -/
def insnBareUptoRow : OpenClaim := { program := "ytfafinjbobmafaa", sum := "a7ad294b438d38aa5bfe8d329aa92ec4dc24f55c166f9adf4663034f6c298c1d", func := "hartix/hartixlaw1.InsnBare", spec := "insnBare", unfollowed := true, recurses := true, apart := false, narrowed := true }
def InsnBareUptoSaid : Prop := insnBareUptoRow.holds Try.pinned (OpenSpec.upto insnBareSpec)

/-- 'hartixlaw1.InsnRegs', WHERE WHAT IT READS IS OF BULK AT MOST 1048576: true; the input reads as it did. -/
def insnRegsUptoRow : OpenClaim := { program := "ytfafinjbobmafaa", sum := "a7ad294b438d38aa5bfe8d329aa92ec4dc24f55c166f9adf4663034f6c298c1d", func := "hartix/hartixlaw1.InsnRegs", spec := "insnRegs", unfollowed := true, recurses := true, apart := false, narrowed := true }
def InsnRegsUptoSaid : Prop := insnRegsUptoRow.holds Try.pinned (OpenSpec.upto insnRegsSpec)

/-- 'hartixlaw1.InsnEncodes', WHERE WHAT IT READS IS OF BULK AT MOST 1048576: true; the input reads as it did. -/
def insnEncodesUptoRow : OpenClaim := { program := "ytfafinjbobmafaa", sum := "a7ad294b438d38aa5bfe8d329aa92ec4dc24f55c166f9adf4663034f6c298c1d", func := "hartix/hartixlaw1.InsnEncodes", spec := "insnEncodes", unfollowed := true, recurses := true, apart := false, narrowed := true }
def InsnEncodesUptoSaid : Prop := insnEncodesUptoRow.holds Try.pinned (OpenSpec.upto insnEncodesSpec)

end Rows
end Go.Proofs.Ytfafinjbobmafaa
