/-
  No cell of these rows narrows 'for every input' (looked for: loops, veiled, ifaces, maps, wideKeys, modest, calm, conditions, laid).
  DERIVED. THE GIVEN ROWS OF THIS SEAT. 4 by the template 'for every input the law returns true; each argument reads behind the call as it read before'; 0 by the template 'total and deterministic' (their statements: YtncjmlndjnfncaaTotals.lean).
  GIVEN WITH THE SEED: the statements are not yours to turn. If you find one false, say at which input.
  Laid BY PROGRAM, IN A SANDBOX (cutbox-rows.mjs): the forced cells as the released guide's own fill.sh prints them over the translation c2c6b7f555fc027b… (all of the seat's roots in one cut). By AI agents, Wed Nov 11 2026. No macro, syntax, notation, axiom, sorry.
-/
import Derived.Test.YtncjmlndjnfncaaChecked
import GoSem.Claim
import GoSem.ClaimJoined
import GoSem.ClaimMapViews
import Derived.JoinedTies
import Derived.KernelRfl
namespace Go.Proofs.Ytncjmlndjnfncaa
/- THE CELL 'sum', in the pinned program and in every row, IS THE sha256 OF THE DUMP (.gsa) THAT YtncjmlndjnfncaaProg.lean LOADS. Nothing in Lean hashes anything: it is a label: what it is worth is what the hold of that sum in a sandbox is worth. -/
noncomputable def Try.pinned : Pinned := { name := "ytncjmlndjnfncaa", sum := "c2c6b7f555fc027b8a06c64c3f3c3b9582234978b915880b11014f3f2405c2da", checked := Try.checked }
namespace Rows
def none {H : Type} : Left H := { results := [], args := [] }

/-- 'hartixlaw4.SvFresh': WHATEVER THE INPUT: true; the input reads as it did. -/
def svFreshSpec : ChangeSpec := { name := "svFresh", fn := fun _ => fun
  | [d1, d2] => { results := [.lit (.bool true)], args := [d1, d2] }
  | _ => none }
def svFreshRow : OpenClaim := { program := "ytncjmlndjnfncaa", sum := "c2c6b7f555fc027b8a06c64c3f3c3b9582234978b915880b11014f3f2405c2da", func := "hartix/hartixlaw4.SvFresh", spec := "svFresh", unfollowed := true, recurses := true, apart := false }
def SvFreshSaid : Prop := svFreshRow.holds Try.pinned (OpenSpec.ofChange svFreshSpec)

/-- ITS FALSE NEIGHBOUR: 'it returns false'. Refute it at one input. -/
def svFreshWrong : ChangeSpec := { name := "svFresh", fn := fun _ => fun
  | [d1, d2] => { results := [.lit (.bool false)], args := [d1, d2] }
  | _ => none }
def SvFreshWrongFalsely : Prop := svFreshRow.holds Try.pinned (OpenSpec.ofChange svFreshWrong)

/-- 'hartixlaw4.SvNobody': WHATEVER THE INPUT: true; the input reads as it did. -/
def svNobodySpec : ChangeSpec := { name := "svNobody", fn := fun _ => fun
  | [d1, d2, d3, d4] => { results := [.lit (.bool true)], args := [d1, d2, d3, d4] }
  | _ => none }
def svNobodyRow : OpenClaim := { program := "ytncjmlndjnfncaa", sum := "c2c6b7f555fc027b8a06c64c3f3c3b9582234978b915880b11014f3f2405c2da", func := "hartix/hartixlaw4.SvNobody", spec := "svNobody", unfollowed := true, recurses := true, apart := false }
def SvNobodySaid : Prop := svNobodyRow.holds Try.pinned (OpenSpec.ofChange svNobodySpec)

/-- ITS FALSE NEIGHBOUR: 'it returns false'. Refute it at one input. -/
def svNobodyWrong : ChangeSpec := { name := "svNobody", fn := fun _ => fun
  | [d1, d2, d3, d4] => { results := [.lit (.bool false)], args := [d1, d2, d3, d4] }
  | _ => none }
def SvNobodyWrongFalsely : Prop := svNobodyRow.holds Try.pinned (OpenSpec.ofChange svNobodyWrong)

/-- 'hartixlaw4.SvApart': WHATEVER THE INPUT: true; the input reads as it did. -/
def svApartSpec : ChangeSpec := { name := "svApart", fn := fun _ => fun
  | [d1, d2, d3] => { results := [.lit (.bool true)], args := [d1, d2, d3] }
  | _ => none }
def svApartRow : OpenClaim := { program := "ytncjmlndjnfncaa", sum := "c2c6b7f555fc027b8a06c64c3f3c3b9582234978b915880b11014f3f2405c2da", func := "hartix/hartixlaw4.SvApart", spec := "svApart", unfollowed := true, recurses := true, apart := false }
def SvApartSaid : Prop := svApartRow.holds Try.pinned (OpenSpec.ofChange svApartSpec)

/-- ITS FALSE NEIGHBOUR: 'it returns false'. Refute it at one input. -/
def svApartWrong : ChangeSpec := { name := "svApart", fn := fun _ => fun
  | [d1, d2, d3] => { results := [.lit (.bool false)], args := [d1, d2, d3] }
  | _ => none }
def SvApartWrongFalsely : Prop := svApartRow.holds Try.pinned (OpenSpec.ofChange svApartWrong)

/-- 'hartixlaw4.SvTable': WHATEVER THE INPUT: true; the input reads as it did. -/
def svTableSpec : ChangeSpec := { name := "svTable", fn := fun _ => fun
  | [d1, d2, d3, d4] => { results := [.lit (.bool true)], args := [d1, d2, d3, d4] }
  | _ => none }
def svTableRow : OpenClaim := { program := "ytncjmlndjnfncaa", sum := "c2c6b7f555fc027b8a06c64c3f3c3b9582234978b915880b11014f3f2405c2da", func := "hartix/hartixlaw4.SvTable", spec := "svTable", unfollowed := true, recurses := true, apart := false }
def SvTableSaid : Prop := svTableRow.holds Try.pinned (OpenSpec.ofChange svTableSpec)

/-- ITS FALSE NEIGHBOUR: 'it returns false'. Refute it at one input. -/
def svTableWrong : ChangeSpec := { name := "svTable", fn := fun _ => fun
  | [d1, d2, d3, d4] => { results := [.lit (.bool false)], args := [d1, d2, d3, d4] }
  | _ => none }
def SvTableWrongFalsely : Prop := svTableRow.holds Try.pinned (OpenSpec.ofChange svTableWrong)

/- THE SECOND FORM. 'bulk': how many values and letters a reading holds, each counted each time it is reached (what is shared counts as often as it is met; a slice's spare places count too). A statement '..UptoSaid' is the law's where the arguments, and the package variables that the reading takes, are together of bulk at most 1048576: NARROWER than '..Said'. Prove '..Said' where nothing that the law and all that it calls make is longer than what came in: it says more and counts as full. Else prove '..UptoSaid'. A law counts once. -/
mutual
def uptoBulk {H : Type} : DataW H → Nat
  | .lit (.string bytes) => bytes.length + 1
  | .lit _ => 1
  | .nil => 1
  | .ptr d => uptoBulk d + 1
  | .slice elems spare => uptoBulkAll elems + uptoBulkAll spare + 1
  | .agg parts => uptoBulkAll parts + 1
  | .iface _ d => uptoBulk d + 1
  | .map entries => uptoBulkEntries entries + 1
  | .held _ => 1
def uptoBulkAll {H : Type} : List (DataW H) → Nat
  | [] => 0
  | d :: r => uptoBulk d + uptoBulkAll r
def uptoBulkEntries {H : Type} : List (Lit × DataW H) → Nat
  | [] => 0
  | x :: r => uptoBulkEntry x + uptoBulkEntries r
def uptoBulkEntry {H : Type} : Lit × DataW H → Nat
  | (.string bytes, d) => bytes.length + uptoBulk d + 1
  | (_, d) => uptoBulk d + 1
 end
def uptoSmall : (H : Type) → List (DataW H) → Bool := fun _ ds => decide (uptoBulkAll ds ≤ 1048576)
def OpenSpec.upto (s : _root_.Go.ChangeSpec) : _root_.Go.OpenSpec := { _root_.Go.OpenSpec.ofChange s with cond := some uptoSmall }

/-- 'hartixlaw4.SvFresh', WHERE WHAT IT READS IS OF BULK AT MOST 1048576: true; the input reads as it did. -/
def svFreshUptoRow : OpenClaim := { program := "ytncjmlndjnfncaa", sum := "c2c6b7f555fc027b8a06c64c3f3c3b9582234978b915880b11014f3f2405c2da", func := "hartix/hartixlaw4.SvFresh", spec := "svFresh", unfollowed := true, recurses := true, apart := false, narrowed := true }
def SvFreshUptoSaid : Prop := svFreshUptoRow.holds Try.pinned (OpenSpec.upto svFreshSpec)

/-- 'hartixlaw4.SvNobody', WHERE WHAT IT READS IS OF BULK AT MOST 1048576: true; the input reads as it did. -/
def svNobodyUptoRow : OpenClaim := { program := "ytncjmlndjnfncaa", sum := "c2c6b7f555fc027b8a06c64c3f3c3b9582234978b915880b11014f3f2405c2da", func := "hartix/hartixlaw4.SvNobody", spec := "svNobody", unfollowed := true, recurses := true, apart := false, narrowed := true }
def SvNobodyUptoSaid : Prop := svNobodyUptoRow.holds Try.pinned (OpenSpec.upto svNobodySpec)

/-- 'hartixlaw4.SvApart', WHERE WHAT IT READS IS OF BULK AT MOST 1048576: true; the input reads as it did. -/
def svApartUptoRow : OpenClaim := { program := "ytncjmlndjnfncaa", sum := "c2c6b7f555fc027b8a06c64c3f3c3b9582234978b915880b11014f3f2405c2da", func := "hartix/hartixlaw4.SvApart", spec := "svApart", unfollowed := true, recurses := true, apart := false, narrowed := true }
def SvApartUptoSaid : Prop := svApartUptoRow.holds Try.pinned (OpenSpec.upto svApartSpec)

/-- 'hartixlaw4.SvTable', WHERE WHAT IT READS IS OF BULK AT MOST 1048576: true; the input reads as it did. -/
def svTableUptoRow : OpenClaim := { program := "ytncjmlndjnfncaa", sum := "c2c6b7f555fc027b8a06c64c3f3c3b9582234978b915880b11014f3f2405c2da", func := "hartix/hartixlaw4.SvTable", spec := "svTable", unfollowed := true, recurses := true, apart := false, narrowed := true }
def SvTableUptoSaid : Prop := svTableUptoRow.holds Try.pinned (OpenSpec.upto svTableSpec)

end Rows
end Go.Proofs.Ytncjmlndjnfncaa
