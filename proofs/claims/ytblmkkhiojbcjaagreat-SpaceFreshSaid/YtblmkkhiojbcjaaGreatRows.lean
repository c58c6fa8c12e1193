/-
  No cell of these rows narrows 'for every input' (looked for: loops, veiled, ifaces, maps, wideKeys, modest, calm, conditions, laid).
  DERIVED. THE GIVEN ROWS OF THIS SEAT. 5 by the template 'for every input the law returns true; each argument reads behind the call as it read before'; 0 by the template 'total and deterministic' (their statements: YtblmkkhiojbcjaaGreatTotals.lean).
  GIVEN WITH THE SEED: the statements are not yours to turn. If you find one false, say at which input.
  Laid BY PROGRAM, IN A SANDBOX (cutbox-rows.mjs): the forced cells as the released guide's own fill.sh prints them over the translation 94fc38db8b4a695f… (all of the seat's roots in one cut). By AI agents, Wed Nov 11 2026. No macro, syntax, notation, axiom, sorry.
-/
import Derived.Test.YtblmkkhiojbcjaaGreatChecked
import GoSem.Claim
import GoSem.ClaimJoined
import GoSem.ClaimMapViews
import Derived.JoinedTies
import Derived.KernelRfl
namespace Go.Proofs.YtblmkkhiojbcjaaGreat
/- THE CELL 'sum', in the pinned program and in every row, IS THE sha256 OF THE DUMP (.gsa) THAT YtblmkkhiojbcjaaGreatProg.lean LOADS. Nothing in Lean hashes anything: it is a label: what it is worth is what the hold of that sum in a sandbox is worth. -/
noncomputable def Tryz.pinned : Pinned := { name := "ytblmkkhiojbcjaagreat", sum := "94fc38db8b4a695f9e7263cfdf56bbc3e75e92c5a981e6bcc3f5054ff2f75879", checked := Tryz.checked }
namespace Rows
def none {H : Type} : Left H := { results := [], args := [] }

/-- 'hartixlaw8.SpaceRights': WHATEVER THE INPUT: true; the input reads as it did. -/
def spaceRightsSpec : ChangeSpec := { name := "spaceRights", fn := fun _ => fun
  | [d1, d2, d3, d4] => { results := [.lit (.bool true)], args := [d1, d2, d3, d4] }
  | _ => none }
def spaceRightsRow : OpenClaim := { program := "ytblmkkhiojbcjaagreat", sum := "94fc38db8b4a695f9e7263cfdf56bbc3e75e92c5a981e6bcc3f5054ff2f75879", func := "hartix/hartixlaw8.SpaceRights", spec := "spaceRights", unfollowed := true, recurses := true, apart := false }
def SpaceRightsSaid : Prop := spaceRightsRow.holds Tryz.pinned (OpenSpec.ofChange spaceRightsSpec)

/-- ITS FALSE NEIGHBOUR: 'it returns false'. Refute it at one input. -/
def spaceRightsWrong : ChangeSpec := { name := "spaceRights", fn := fun _ => fun
  | [d1, d2, d3, d4] => { results := [.lit (.bool false)], args := [d1, d2, d3, d4] }
  | _ => none }
def SpaceRightsWrongFalsely : Prop := spaceRightsRow.holds Tryz.pinned (OpenSpec.ofChange spaceRightsWrong)

/-- 'hartixlaw8.SpaceFresh': WHATEVER THE INPUT: true; the input reads as it did. -/
def spaceFreshSpec : ChangeSpec := { name := "spaceFresh", fn := fun _ => fun
  | [d1, d2] => { results := [.lit (.bool true)], args := [d1, d2] }
  | _ => none }
def spaceFreshRow : OpenClaim := { program := "ytblmkkhiojbcjaagreat", sum := "94fc38db8b4a695f9e7263cfdf56bbc3e75e92c5a981e6bcc3f5054ff2f75879", func := "hartix/hartixlaw8.SpaceFresh", spec := "spaceFresh", unfollowed := true, recurses := true, apart := false }
def SpaceFreshSaid : Prop := spaceFreshRow.holds Tryz.pinned (OpenSpec.ofChange spaceFreshSpec)

/-- ITS FALSE NEIGHBOUR: 'it returns false'. Refute it at one input. -/
def spaceFreshWrong : ChangeSpec := { name := "spaceFresh", fn := fun _ => fun
  | [d1, d2] => { results := [.lit (.bool false)], args := [d1, d2] }
  | _ => none }
def SpaceFreshWrongFalsely : Prop := spaceFreshRow.holds Tryz.pinned (OpenSpec.ofChange spaceFreshWrong)

/-- 'hartixlaw8.SpaceHolds': WHATEVER THE INPUT: true; the input reads as it did. -/
def spaceHoldsSpec : ChangeSpec := { name := "spaceHolds", fn := fun _ => fun
  | [d1, d2] => { results := [.lit (.bool true)], args := [d1, d2] }
  | _ => none }
def spaceHoldsRow : OpenClaim := { program := "ytblmkkhiojbcjaagreat", sum := "94fc38db8b4a695f9e7263cfdf56bbc3e75e92c5a981e6bcc3f5054ff2f75879", func := "hartix/hartixlaw8.SpaceHolds", spec := "spaceHolds", unfollowed := true, recurses := true, apart := false }
def SpaceHoldsSaid : Prop := spaceHoldsRow.holds Tryz.pinned (OpenSpec.ofChange spaceHoldsSpec)

/-- ITS FALSE NEIGHBOUR: 'it returns false'. Refute it at one input. -/
def spaceHoldsWrong : ChangeSpec := { name := "spaceHolds", fn := fun _ => fun
  | [d1, d2] => { results := [.lit (.bool false)], args := [d1, d2] }
  | _ => none }
def SpaceHoldsWrongFalsely : Prop := spaceHoldsRow.holds Tryz.pinned (OpenSpec.ofChange spaceHoldsWrong)

/-- 'hartixlaw8.SpaceWide': WHATEVER THE INPUT: true; the input reads as it did. -/
def spaceWideSpec : ChangeSpec := { name := "spaceWide", fn := fun _ => fun
  | [d] => { results := [.lit (.bool true)], args := [d] }
  | _ => none }
def spaceWideRow : OpenClaim := { program := "ytblmkkhiojbcjaagreat", sum := "94fc38db8b4a695f9e7263cfdf56bbc3e75e92c5a981e6bcc3f5054ff2f75879", func := "hartix/hartixlaw8.SpaceWide", spec := "spaceWide", unfollowed := true, recurses := true, apart := false }
def SpaceWideSaid : Prop := spaceWideRow.holds Tryz.pinned (OpenSpec.ofChange spaceWideSpec)

/-- ITS FALSE NEIGHBOUR: 'it returns false'. Refute it at one input. -/
def spaceWideWrong : ChangeSpec := { name := "spaceWide", fn := fun _ => fun
  | [d] => { results := [.lit (.bool false)], args := [d] }
  | _ => none }
def SpaceWideWrongFalsely : Prop := spaceWideRow.holds Tryz.pinned (OpenSpec.ofChange spaceWideWrong)

/-- 'hartixlaw8.SpaceApart': WHATEVER THE INPUT: true; the input reads as it did. -/
def spaceApartSpec : ChangeSpec := { name := "spaceApart", fn := fun _ => fun
  | [d1, d2, d3, d4] => { results := [.lit (.bool true)], args := [d1, d2, d3, d4] }
  | _ => none }
def spaceApartRow : OpenClaim := { program := "ytblmkkhiojbcjaagreat", sum := "94fc38db8b4a695f9e7263cfdf56bbc3e75e92c5a981e6bcc3f5054ff2f75879", func := "hartix/hartixlaw8.SpaceApart", spec := "spaceApart", unfollowed := true, recurses := true, apart := false }
def SpaceApartSaid : Prop := spaceApartRow.holds Tryz.pinned (OpenSpec.ofChange spaceApartSpec)

/-- ITS FALSE NEIGHBOUR: 'it returns false'. Refute it at one input. -/
def spaceApartWrong : ChangeSpec := { name := "spaceApart", fn := fun _ => fun
  | [d1, d2, d3, d4] => { results := [.lit (.bool false)], args := [d1, d2, d3, d4] }
  | _ => none }
def SpaceApartWrongFalsely : Prop := spaceApartRow.holds Tryz.pinned (OpenSpec.ofChange spaceApartWrong)

/- THE SECOND FORM. 'bulk': how many values and letters a reading holds, each counted each time it is reached (what is shared counts as often as it is met; a slice's spare places count too). A statement '..UptoSaid' is the law's where the arguments, and the package variables that the reading takes, are together of bulk at most 1048576: NARROWER than '..Said'. Prove '..Said' where nothing that the law and all that it calls make is longer than what came in: it says more and counts as full. Else prove '..UptoSaid'. A law counts once. -/
mutual
def uptoBulk {H : Type} : DataW H → Nat
  | .lit (.string bytes) => bytes.length + 1
  | .lit _ => 1
  | .nil => 1
  | .ptr d => uptoBulk d + 1
  | .slice elems spare => uptoBulkAll elems + uptoBulkAll spare + 1
  | .agg parts => uptoBulkAll parts + 1
  | .iface _ d => uptoBulk d + 1
  | .map entries => uptoBulkEntries entries + 1
  | .held _ => 1
def uptoBulkAll {H : Type} : List (DataW H) → Nat
  | [] => 0
  | d :: r => uptoBulk d + uptoBulkAll r
def uptoBulkEntries {H : Type} : List (Lit × DataW H) → Nat
  | [] => 0
  | x :: r => uptoBulkEntry x + uptoBulkEntries r
def uptoBulkEntry {H : Type} : Lit × DataW H → Nat
  | (.string bytes, d) => bytes.length + uptoBulk d + 1
  | (_, d) => uptoBulk d + 1
 end
def uptoSmall : (H : Type) → List (DataW H) → Bool := fun _ ds => decide (uptoBulkAll ds ≤ 1048576)
def OpenSpec.upto (s : _root_.Go.ChangeSpec) : _root_.Go.OpenSpec := { _root_.Go.OpenSpec.ofChange s with cond := some uptoSmall }

/-- 'hartixlaw8.SpaceRights', WHERE WHAT IT READS IS OF BULK AT MOST 1048576: true; the input reads as it did. -/
def spaceRightsUptoRow : OpenClaim := { program := "ytblmkkhiojbcjaagreat", sum := "94fc38db8b4a695f9e7263cfdf56bbc3e75e92c5a981e6bcc3f5054ff2f75879", func := "hartix/hartixlaw8.SpaceRights", spec := "spaceRights", unfollowed := true, recurses := true, apart := false, narrowed := true }
def SpaceRightsUptoSaid : Prop := spaceRightsUptoRow.holds Tryz.pinned (OpenSpec.upto spaceRightsSpec)

/-- 'hartixlaw8.SpaceFresh', WHERE WHAT IT READS IS OF BULK AT MOST 1048576: true; the input reads as it did. -/
def spaceFreshUptoRow : OpenClaim := { program := "ytblmkkhiojbcjaagreat", sum := "94fc38db8b4a695f9e7263cfdf56bbc3e75e92c5a981e6bcc3f5054ff2f75879", func := "hartix/hartixlaw8.SpaceFresh", spec := "spaceFresh", unfollowed := true, recurses := true, apart := false, narrowed := true }
def SpaceFreshUptoSaid : Prop := spaceFreshUptoRow.holds Tryz.pinned (OpenSpec.upto spaceFreshSpec)

/-- 'hartixlaw8.SpaceHolds', WHERE WHAT IT READS IS OF BULK AT MOST 1048576: true; the input reads as it did. -/
def spaceHoldsUptoRow : OpenClaim := { program := "ytblmkkhiojbcjaagreat", sum := "94fc38db8b4a695f9e7263cfdf56bbc3e75e92c5a981e6bcc3f5054ff2f75879", func := "hartix/hartixlaw8.SpaceHolds", spec := "spaceHolds", unfollowed := true, recurses := true, apart := false, narrowed := true }
def SpaceHoldsUptoSaid : Prop := spaceHoldsUptoRow.holds Tryz.pinned (OpenSpec.upto spaceHoldsSpec)

/-- 'hartixlaw8.SpaceWide', WHERE WHAT IT READS IS OF BULK AT MOST 1048576: true; the input reads as it did. -/
def spaceWideUptoRow : OpenClaim := { program := "ytblmkkhiojbcjaagreat", sum := "94fc38db8b4a695f9e7263cfdf56bbc3e75e92c5a981e6bcc3f5054ff2f75879", func := "hartix/hartixlaw8.SpaceWide", spec := "spaceWide", unfollowed := true, recurses := true, apart := false, narrowed := true }
def SpaceWideUptoSaid : Prop := spaceWideUptoRow.holds Tryz.pinned (OpenSpec.upto spaceWideSpec)

/-- 'hartixlaw8.SpaceApart', WHERE WHAT IT READS IS OF BULK AT MOST 1048576: true; the input reads as it did. -/
def spaceApartUptoRow : OpenClaim := { program := "ytblmkkhiojbcjaagreat", sum := "94fc38db8b4a695f9e7263cfdf56bbc3e75e92c5a981e6bcc3f5054ff2f75879", func := "hartix/hartixlaw8.SpaceApart", spec := "spaceApart", unfollowed := true, recurses := true, apart := false, narrowed := true }
def SpaceApartUptoSaid : Prop := spaceApartUptoRow.holds Tryz.pinned (OpenSpec.upto spaceApartSpec)

end Rows
end Go.Proofs.YtblmkkhiojbcjaaGreat
