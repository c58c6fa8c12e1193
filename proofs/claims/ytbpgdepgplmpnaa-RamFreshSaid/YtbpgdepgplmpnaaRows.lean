/-
  No cell of these rows narrows 'for every input' (looked for: loops, veiled, ifaces, maps, wideKeys, modest, calm, conditions, laid).
  DERIVED. THE GIVEN ROWS OF THIS SEAT. 6 by the template 'for every input the law returns true; each argument reads behind the call as it read before'; 0 by the template 'total and deterministic' (their statements: YtbpgdepgplmpnaaTotals.lean).
  GIVEN WITH THE SEED: the statements are not yours to turn. If you find one false, say at which input.
  Laid BY PROGRAM, IN A SANDBOX (cutbox-rows.mjs): the forced cells as the released guide's own fill.sh prints them over the translation 1605a0c6bdd20672… (all of the seat's roots in one cut). By AI agents, Wed Nov 11 2026. No macro, syntax, notation, axiom, sorry.
-/
import Derived.Test.YtbpgdepgplmpnaaChecked
import GoSem.Claim
import GoSem.ClaimJoined
import GoSem.ClaimMapViews
import Derived.JoinedTies
import Derived.KernelRfl
namespace Go.Proofs.Ytbpgdepgplmpnaa
/- THE CELL 'sum', in the pinned program and in every row, IS THE sha256 OF THE DUMP (.gsa) THAT YtbpgdepgplmpnaaProg.lean LOADS. Nothing in Lean hashes anything: it is a label: what it is worth is what the hold of that sum in a sandbox is worth. -/
noncomputable def Try.pinned : Pinned := { name := "ytbpgdepgplmpnaa", sum := "1605a0c6bdd20672afb916e316cc88d4c1c6dcdef8b527bbe4ece1ac973e45ea", checked := Try.checked }
namespace Rows
def none {H : Type} : Left H := { results := [], args := [] }

/-- 'hartixlaw3.RamWidths': WHATEVER THE INPUT: true; the input reads as it did. -/
def ramWidthsSpec : ChangeSpec := { name := "ramWidths", fn := fun _ => fun
  | [d1, d2] => { results := [.lit (.bool true)], args := [d1, d2] }
  | _ => none }
def ramWidthsRow : OpenClaim := { program := "ytbpgdepgplmpnaa", sum := "1605a0c6bdd20672afb916e316cc88d4c1c6dcdef8b527bbe4ece1ac973e45ea", func := "hartix/hartixlaw3.RamWidths", spec := "ramWidths", apart := false }
def RamWidthsSaid : Prop := ramWidthsRow.holds Try.pinned (OpenSpec.ofChange ramWidthsSpec)

/-- ITS FALSE NEIGHBOUR: 'it returns false'. Refute it at one input. -/
def ramWidthsWrong : ChangeSpec := { name := "ramWidths", fn := fun _ => fun
  | [d1, d2] => { results := [.lit (.bool false)], args := [d1, d2] }
  | _ => none }
def RamWidthsWrongFalsely : Prop := ramWidthsRow.holds Try.pinned (OpenSpec.ofChange ramWidthsWrong)

/-- 'hartixlaw3.RamNews': WHATEVER THE INPUT: true; the input reads as it did. -/
def ramNewsSpec : ChangeSpec := { name := "ramNews", fn := fun _ => fun
  | [d] => { results := [.lit (.bool true)], args := [d] }
  | _ => none }
def ramNewsRow : OpenClaim := { program := "ytbpgdepgplmpnaa", sum := "1605a0c6bdd20672afb916e316cc88d4c1c6dcdef8b527bbe4ece1ac973e45ea", func := "hartix/hartixlaw3.RamNews", spec := "ramNews", apart := false }
def RamNewsSaid : Prop := ramNewsRow.holds Try.pinned (OpenSpec.ofChange ramNewsSpec)

/-- ITS FALSE NEIGHBOUR: 'it returns false'. Refute it at one input. -/
def ramNewsWrong : ChangeSpec := { name := "ramNews", fn := fun _ => fun
  | [d] => { results := [.lit (.bool false)], args := [d] }
  | _ => none }
def RamNewsWrongFalsely : Prop := ramNewsRow.holds Try.pinned (OpenSpec.ofChange ramNewsWrong)

/-- 'hartixlaw3.RamHolds': WHATEVER THE INPUT: true; the input reads as it did. -/
def ramHoldsSpec : ChangeSpec := { name := "ramHolds", fn := fun _ => fun
  | [d1, d2] => { results := [.lit (.bool true)], args := [d1, d2] }
  | _ => none }
def ramHoldsRow : OpenClaim := { program := "ytbpgdepgplmpnaa", sum := "1605a0c6bdd20672afb916e316cc88d4c1c6dcdef8b527bbe4ece1ac973e45ea", func := "hartix/hartixlaw3.RamHolds", spec := "ramHolds", apart := false }
def RamHoldsSaid : Prop := ramHoldsRow.holds Try.pinned (OpenSpec.ofChange ramHoldsSpec)

/-- ITS FALSE NEIGHBOUR: 'it returns false'. Refute it at one input. -/
def ramHoldsWrong : ChangeSpec := { name := "ramHolds", fn := fun _ => fun
  | [d1, d2] => { results := [.lit (.bool false)], args := [d1, d2] }
  | _ => none }
def RamHoldsWrongFalsely : Prop := ramHoldsRow.holds Try.pinned (OpenSpec.ofChange ramHoldsWrong)

/-- 'hartixlaw3.RamNobody': WHATEVER THE INPUT: true; the input reads as it did. -/
def ramNobodySpec : ChangeSpec := { name := "ramNobody", fn := fun _ => fun
  | [d1, d2, d3, d4] => { results := [.lit (.bool true)], args := [d1, d2, d3, d4] }
  | _ => none }
def ramNobodyRow : OpenClaim := { program := "ytbpgdepgplmpnaa", sum := "1605a0c6bdd20672afb916e316cc88d4c1c6dcdef8b527bbe4ece1ac973e45ea", func := "hartix/hartixlaw3.RamNobody", spec := "ramNobody", unfollowed := true, recurses := true, apart := false }
def RamNobodySaid : Prop := ramNobodyRow.holds Try.pinned (OpenSpec.ofChange ramNobodySpec)

/-- ITS FALSE NEIGHBOUR: 'it returns false'. Refute it at one input. -/
def ramNobodyWrong : ChangeSpec := { name := "ramNobody", fn := fun _ => fun
  | [d1, d2, d3, d4] => { results := [.lit (.bool false)], args := [d1, d2, d3, d4] }
  | _ => none }
def RamNobodyWrongFalsely : Prop := ramNobodyRow.holds Try.pinned (OpenSpec.ofChange ramNobodyWrong)

/-- 'hartixlaw3.RamFresh': WHATEVER THE INPUT: true; the input reads as it did. -/
def ramFreshSpec : ChangeSpec := { name := "ramFresh", fn := fun _ => fun
  | [d1, d2, d3] => { results := [.lit (.bool true)], args := [d1, d2, d3] }
  | _ => none }
def ramFreshRow : OpenClaim := { program := "ytbpgdepgplmpnaa", sum := "1605a0c6bdd20672afb916e316cc88d4c1c6dcdef8b527bbe4ece1ac973e45ea", func := "hartix/hartixlaw3.RamFresh", spec := "ramFresh", unfollowed := true, recurses := true, apart := false }
def RamFreshSaid : Prop := ramFreshRow.holds Try.pinned (OpenSpec.ofChange ramFreshSpec)

/-- ITS FALSE NEIGHBOUR: 'it returns false'. Refute it at one input. -/
def ramFreshWrong : ChangeSpec := { name := "ramFresh", fn := fun _ => fun
  | [d1, d2, d3] => { results := [.lit (.bool false)], args := [d1, d2, d3] }
  | _ => none }
def RamFreshWrongFalsely : Prop := ramFreshRow.holds Try.pinned (OpenSpec.ofChange ramFreshWrong)

/-- 'hartixlaw3.RamImages': WHATEVER THE INPUT: true; the input reads as it did. -/
def ramImagesSpec : ChangeSpec := { name := "ramImages", fn := fun _ => fun
  | [d] => { results := [.lit (.bool true)], args := [d] }
  | _ => none }
def ramImagesRow : OpenClaim := { program := "ytbpgdepgplmpnaa", sum := "1605a0c6bdd20672afb916e316cc88d4c1c6dcdef8b527bbe4ece1ac973e45ea", func := "hartix/hartixlaw3.RamImages", spec := "ramImages", unfollowed := true, recurses := true, apart := false }
def RamImagesSaid : Prop := ramImagesRow.holds Try.pinned (OpenSpec.ofChange ramImagesSpec)

/-- ITS FALSE NEIGHBOUR: 'it returns false'. Refute it at one input. -/
def ramImagesWrong : ChangeSpec := { name := "ramImages", fn := fun _ => fun
  | [d] => { results := [.lit (.bool false)], args := [d] }
  | _ => none }
def RamImagesWrongFalsely : Prop := ramImagesRow.holds Try.pinned (OpenSpec.ofChange ramImagesWrong)

/- THE SECOND FORM. 'bulk': how many values and letters a reading holds, each counted each time it is reached (what is shared counts as often as it is met; a slice's spare places count too). A statement '..UptoSaid' is the law's where the arguments, and the package variables that the reading takes, are together of bulk at most 1048576: NARROWER than '..Said'. Prove '..Said' where nothing that the law and all that it calls make is longer than what came in: it says more and counts as full. Else prove '..UptoSaid'. A law counts once. -/
mutual
def uptoBulk {H : Type} : DataW H → Nat
  | .lit (.string bytes) => bytes.length + 1
  | .lit _ => 1
  | .nil => 1
  | .ptr d => uptoBulk d + 1
  | .slice elems spare => uptoBulkAll elems + uptoBulkAll spare + 1
  | .agg parts => uptoBulkAll parts + 1
  | .iface _ d => uptoBulk d + 1
  | .map entries => uptoBulkEntries entries + 1
  | .held _ => 1
def uptoBulkAll {H : Type} : List (DataW H) → Nat
  | [] => 0
  | d :: r => uptoBulk d + uptoBulkAll r
def uptoBulkEntries {H : Type} : List (Lit × DataW H) → Nat
  | [] => 0
  | x :: r => uptoBulkEntry x + uptoBulkEntries r
def uptoBulkEntry {H : Type} : Lit × DataW H → Nat
  | (.string bytes, d) => bytes.length + uptoBulk d + 1
  | (_, d) => uptoBulk d + 1
 end
def uptoSmall : (H : Type) → List (DataW H) → Bool := fun _ ds => decide (uptoBulkAll ds ≤ 1048576)
def OpenSpec.upto (s : _root_.Go.ChangeSpec) : _root_.Go.OpenSpec := { _root_.Go.OpenSpec.ofChange s with cond := some uptoSmall }

/-- 'hartixlaw3.RamWidths', WHERE WHAT IT READS IS OF BULK AT MOST 1048576: true; the input reads as it did. -/
def ramWidthsUptoRow : OpenClaim := { program := "ytbpgdepgplmpnaa", sum := "1605a0c6bdd20672afb916e316cc88d4c1c6dcdef8b527bbe4ece1ac973e45ea", func := "hartix/hartixlaw3.RamWidths", spec := "ramWidths", apart := false, narrowed := true }
def RamWidthsUptoSaid : Prop := ramWidthsUptoRow.holds Try.pinned (OpenSpec.upto ramWidthsSpec)

/-- 'hartixlaw3.RamNews', WHERE WHAT IT READS IS OF BULK AT MOST 1048576: true; the input reads as it did. -/
def ramNewsUptoRow : OpenClaim := { program := "ytbpgdepgplmpnaa", sum := "1605a0c6bdd20672afb916e316cc88d4c1c6dcdef8b527bbe4ece1ac973e45ea", func := "hartix/hartixlaw3.RamNews", spec := "ramNews", apart := false, narrowed := true }
def RamNewsUptoSaid : Prop := ramNewsUptoRow.holds Try.pinned (OpenSpec.upto ramNewsSpec)

/-- 'hartixlaw3.RamHolds', WHERE WHAT IT READS IS OF BULK AT MOST 1048576: true; the input reads as it did. -/
def ramHoldsUptoRow : OpenClaim := { program := "ytbpgdepgplmpnaa", sum := "1605a0c6bdd20672afb916e316cc88d4c1c6dcdef8b527bbe4ece1ac973e45ea", func := "hartix/hartixlaw3.RamHolds", spec := "ramHolds", apart := false, narrowed := true }
def RamHoldsUptoSaid : Prop := ramHoldsUptoRow.holds Try.pinned (OpenSpec.upto ramHoldsSpec)

/-- 'hartixlaw3.RamNobody', WHERE WHAT IT READS IS OF BULK AT MOST 1048576: true; the input reads as it did. -/
def ramNobodyUptoRow : OpenClaim := { program := "ytbpgdepgplmpnaa", sum := "1605a0c6bdd20672afb916e316cc88d4c1c6dcdef8b527bbe4ece1ac973e45ea", func := "hartix/hartixlaw3.RamNobody", spec := "ramNobody", unfollowed := true, recurses := true, apart := false, narrowed := true }
def RamNobodyUptoSaid : Prop := ramNobodyUptoRow.holds Try.pinned (OpenSpec.upto ramNobodySpec)

/-- 'hartixlaw3.RamFresh', WHERE WHAT IT READS IS OF BULK AT MOST 1048576: true; the input reads as it did. -/
def ramFreshUptoRow : OpenClaim := { program := "ytbpgdepgplmpnaa", sum := "1605a0c6bdd20672afb916e316cc88d4c1c6dcdef8b527bbe4ece1ac973e45ea", func := "hartix/hartixlaw3.RamFresh", spec := "ramFresh", unfollowed := true, recurses := true, apart := false, narrowed := true }
def RamFreshUptoSaid : Prop := ramFreshUptoRow.holds Try.pinned (OpenSpec.upto ramFreshSpec)

/-- 'hartixlaw3.RamImages', WHERE WHAT IT READS IS OF BULK AT MOST 1048576: true; the input reads as it did. -/
def ramImagesUptoRow : OpenClaim := { program := "ytbpgdepgplmpnaa", sum := "1605a0c6bdd20672afb916e316cc88d4c1c6dcdef8b527bbe4ece1ac973e45ea", func := "hartix/hartixlaw3.RamImages", spec := "ramImages", unfollowed := true, recurses := true, apart := false, narrowed := true }
def RamImagesUptoSaid : Prop := ramImagesUptoRow.holds Try.pinned (OpenSpec.upto ramImagesSpec)

end Rows
end Go.Proofs.Ytbpgdepgplmpnaa
