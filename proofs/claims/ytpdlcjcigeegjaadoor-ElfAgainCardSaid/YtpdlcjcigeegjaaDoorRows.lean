/-
  NARROWER THAN 'FOR EVERY INPUT', by the rows' own cells (each row's printed sentence says how): ElfAgain: laid · ElfCut: laid.
  DERIVED. THE GIVEN ROWS OF THIS SEAT. 2 by the template 'for every input the law returns true; each argument reads behind the call as it read before'; 0 by the template 'total and deterministic' (their statements: YtpdlcjcigeegjaaDoorTotals.lean).
  GIVEN WITH THE SEED: the statements are not yours to turn. If you find one false, say at which input.
  Laid BY PROGRAM, IN A SANDBOX (cutbox-rows.mjs): the forced cells as the released guide's own fill.sh prints them over the translation cef4d9c6658061f2… (all of the seat's roots in one cut). By AI agents, Wed Nov 11 2026. No macro, syntax, notation, axiom, sorry.
-/
import Derived.Test.YtpdlcjcigeegjaaDoorChecked
import GoSem.Claim
import GoSem.ClaimJoined
import GoSem.ClaimMapViews
import Derived.JoinedTies
import Derived.KernelRfl
namespace Go.Proofs.YtpdlcjcigeegjaaDoor
/- THE CELL 'sum', in the pinned program and in every row, IS THE sha256 OF THE DUMP (.gsa) THAT YtpdlcjcigeegjaaDoorProg.lean LOADS. Nothing in Lean hashes anything: it is a label: what it is worth is what the hold of that sum in a sandbox is worth. -/
noncomputable def Tryd.pinned : Pinned := { name := "ytpdlcjcigeegjaadoor", sum := "cef4d9c6658061f2b6dec69240660504813afcd1c257a007e537e8add0ca47a0", checked := Tryd.checked }
namespace Rows
def none {H : Type} : Left H := { results := [], args := [] }

/- WHAT THE LISTED PACKAGE-LEVEL VARIABLES READ AS WHEN THE CALL BEGINS. Each datum BY PROGRAM (the guide's laid-datum.mjs) off the statement by which the dump's own 'gosem.cut.vars' lays the variable. In a bare row this is a premise. The card (YtpdlcjcigeegjaaDoorCards.lean) ties it to the program's text. -/
def laid_hartix_elf_headFields {H : Type} : DataW H := .agg [.agg [.lit (.int .i64 0), .lit (.int .i64 4), .lit (.int .u64 1179403647)], .agg [.lit (.int .i64 4), .lit (.int .i64 1), .lit (.int .u64 2)], .agg [.lit (.int .i64 5), .lit (.int .i64 1), .lit (.int .u64 1)], .agg [.lit (.int .i64 6), .lit (.int .i64 1), .lit (.int .u64 1)], .agg [.lit (.int .i64 16), .lit (.int .i64 2), .lit (.int .u64 2)], .agg [.lit (.int .i64 18), .lit (.int .i64 2), .lit (.int .u64 243)], .agg [.lit (.int .i64 20), .lit (.int .i64 4), .lit (.int .u64 1)], .agg [.lit (.int .i64 24), .lit (.int .i64 8), .lit (.int .u64 0)], .agg [.lit (.int .i64 32), .lit (.int .i64 8), .lit (.int .u64 0)], .agg [.lit (.int .i64 52), .lit (.int .i64 2), .lit (.int .u64 64)], .agg [.lit (.int .i64 54), .lit (.int .i64 2), .lit (.int .u64 56)], .agg [.lit (.int .i64 56), .lit (.int .i64 2), .lit (.int .u64 0)]]
def laid_hartix_elf_segFields {H : Type} : DataW H := .agg [.agg [.lit (.int .i64 0), .lit (.int .i64 4), .lit (.int .u64 1)], .agg [.lit (.int .i64 4), .lit (.int .i64 4), .lit (.int .u64 0)], .agg [.lit (.int .i64 8), .lit (.int .i64 8), .lit (.int .u64 0)], .agg [.lit (.int .i64 16), .lit (.int .i64 8), .lit (.int .u64 0)], .agg [.lit (.int .i64 24), .lit (.int .i64 8), .lit (.int .u64 0)], .agg [.lit (.int .i64 32), .lit (.int .i64 8), .lit (.int .u64 0)], .agg [.lit (.int .i64 40), .lit (.int .i64 8), .lit (.int .u64 0)], .agg [.lit (.int .i64 48), .lit (.int .i64 8), .lit (.int .u64 4096)]]

/-- 'hartixlaw7.ElfAgain': WHATEVER THE INPUT: true; the input reads as it did. -/
def elfAgainSpec : ChangeSpec := { name := "elfAgain", fn := fun _ => fun
  | [d] => { results := [.lit (.bool true)], args := [d] }
  | _ => none }
def elfAgainRow : OpenClaim := { program := "ytpdlcjcigeegjaadoor", sum := "cef4d9c6658061f2b6dec69240660504813afcd1c257a007e537e8add0ca47a0", func := "hartix/hartixlaw7.ElfAgain", spec := "elfAgain", unfollowed := true, recurses := true, named := ["hartix/elf.headFields", "hartix/elf.segFields"], apart := false, laid := [("hartix/elf.headFields", laid_hartix_elf_headFields), ("hartix/elf.segFields", laid_hartix_elf_segFields)] }
def ElfAgainSaid : Prop := elfAgainRow.holds Tryd.pinned (OpenSpec.ofChange elfAgainSpec)

/-- ITS FALSE NEIGHBOUR: 'it returns false'. Refute it at one input. -/
def elfAgainWrong : ChangeSpec := { name := "elfAgain", fn := fun _ => fun
  | [d] => { results := [.lit (.bool false)], args := [d] }
  | _ => none }
def ElfAgainWrongFalsely : Prop := elfAgainRow.holds Tryd.pinned (OpenSpec.ofChange elfAgainWrong)

/-- 'hartixlaw7.ElfCut': WHATEVER THE INPUT: true; the input reads as it did. -/
def elfCutSpec : ChangeSpec := { name := "elfCut", fn := fun _ => fun
  | [d1, d2] => { results := [.lit (.bool true)], args := [d1, d2] }
  | _ => none }
def elfCutRow : OpenClaim := { program := "ytpdlcjcigeegjaadoor", sum := "cef4d9c6658061f2b6dec69240660504813afcd1c257a007e537e8add0ca47a0", func := "hartix/hartixlaw7.ElfCut", spec := "elfCut", unfollowed := true, recurses := true, named := ["hartix/elf.headFields", "hartix/elf.segFields"], apart := false, laid := [("hartix/elf.headFields", laid_hartix_elf_headFields), ("hartix/elf.segFields", laid_hartix_elf_segFields)] }
def ElfCutSaid : Prop := elfCutRow.holds Tryd.pinned (OpenSpec.ofChange elfCutSpec)

/-- ITS FALSE NEIGHBOUR: 'it returns false'. Refute it at one input. -/
def elfCutWrong : ChangeSpec := { name := "elfCut", fn := fun _ => fun
  | [d1, d2] => { results := [.lit (.bool false)], args := [d1, d2] }
  | _ => none }
def ElfCutWrongFalsely : Prop := elfCutRow.holds Tryd.pinned (OpenSpec.ofChange elfCutWrong)

/- THE SECOND FORM. 'bulk': how many values and letters a reading holds, each counted each time it is reached (what is shared counts as often as it is met; a slice's spare places count too). A statement '..UptoSaid' is the law's where the arguments, and the package variables that the reading takes, are together of bulk at most 1048576: NARROWER than '..Said'. Prove '..Said' where nothing that the law and all that it calls make is longer than what came in: it says more and counts as full. Else prove '..UptoSaid'. A law counts once. -/
mutual
def uptoBulk {H : Type} : DataW H → Nat
  | .lit (.string bytes) => bytes.length + 1
  | .lit _ => 1
  | .nil => 1
  | .ptr d => uptoBulk d + 1
  | .slice elems spare => uptoBulkAll elems + uptoBulkAll spare + 1
  | .agg parts => uptoBulkAll parts + 1
  | .iface _ d => uptoBulk d + 1
  | .map entries => uptoBulkEntries entries + 1
  | .held _ => 1
def uptoBulkAll {H : Type} : List (DataW H) → Nat
  | [] => 0
  | d :: r => uptoBulk d + uptoBulkAll r
def uptoBulkEntries {H : Type} : List (Lit × DataW H) → Nat
  | [] => 0
  | x :: r => uptoBulkEntry x + uptoBulkEntries r
def uptoBulkEntry {H : Type} : Lit × DataW H → Nat
  | (.string bytes, d) => bytes.length + uptoBulk d + 1
  | (_, d) => uptoBulk d + 1
 end
def uptoSmall : (H : Type) → List (DataW H) → Bool := fun _ ds => decide (uptoBulkAll ds ≤ 1048576)
def OpenSpec.upto (s : _root_.Go.ChangeSpec) : _root_.Go.OpenSpec := { _root_.Go.OpenSpec.ofChange s with cond := some uptoSmall }

/-- 'hartixlaw7.ElfAgain', WHERE WHAT IT READS IS OF BULK AT MOST 1048576: true; the input reads as it did. -/
def elfAgainUptoRow : OpenClaim := { program := "ytpdlcjcigeegjaadoor", sum := "cef4d9c6658061f2b6dec69240660504813afcd1c257a007e537e8add0ca47a0", func := "hartix/hartixlaw7.ElfAgain", spec := "elfAgain", unfollowed := true, recurses := true, named := ["hartix/elf.headFields", "hartix/elf.segFields"], apart := false, laid := [("hartix/elf.headFields", laid_hartix_elf_headFields), ("hartix/elf.segFields", laid_hartix_elf_segFields)], narrowed := true }
def ElfAgainUptoSaid : Prop := elfAgainUptoRow.holds Tryd.pinned (OpenSpec.upto elfAgainSpec)

/-- 'hartixlaw7.ElfCut', WHERE WHAT IT READS IS OF BULK AT MOST 1048576: true; the input reads as it did. -/
def elfCutUptoRow : OpenClaim := { program := "ytpdlcjcigeegjaadoor", sum := "cef4d9c6658061f2b6dec69240660504813afcd1c257a007e537e8add0ca47a0", func := "hartix/hartixlaw7.ElfCut", spec := "elfCut", unfollowed := true, recurses := true, named := ["hartix/elf.headFields", "hartix/elf.segFields"], apart := false, laid := [("hartix/elf.headFields", laid_hartix_elf_headFields), ("hartix/elf.segFields", laid_hartix_elf_segFields)], narrowed := true }
def ElfCutUptoSaid : Prop := elfCutUptoRow.holds Tryd.pinned (OpenSpec.upto elfCutSpec)

end Rows
end Go.Proofs.YtpdlcjcigeegjaaDoor
