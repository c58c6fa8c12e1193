/-
  NARROWER THAN 'FOR EVERY INPUT', by the rows' own cells (each row's printed sentence says how): ExecTwice: laid · ExecShows: laid · ExecLoads: laid.
  DERIVED. THE GIVEN ROWS OF THIS SEAT. 3 by the template 'for every input the law returns true; each argument reads behind the call as it read before'; 0 by the template 'total and deterministic' (their statements: YtabnipbdbnmmpaaGreatDoorTotals.lean).
  GIVEN WITH THE SEED: the statements are not yours to turn. If you find one false, say at which input.
  Laid BY PROGRAM, IN A SANDBOX (cutbox-rows.mjs): the forced cells as the released guide's own fill.sh prints them over the translation d4e182c96d57c0e6… (all of the seat's roots in one cut). By AI agents, Wed Nov 11 2026. No macro, syntax, notation, axiom, sorry.
-/
import Derived.Test.YtabnipbdbnmmpaaGreatDoorChecked
import GoSem.Claim
import GoSem.ClaimJoined
import GoSem.ClaimMapViews
import Derived.JoinedTies
import Derived.KernelRfl
namespace Go.Proofs.YtabnipbdbnmmpaaGreatDoor
/- THE CELL 'sum', in the pinned program and in every row, IS THE sha256 OF THE DUMP (.gsa) THAT YtabnipbdbnmmpaaGreatDoorProg.lean LOADS. Nothing in Lean hashes anything: it is a label: what it is worth is what the hold of that sum in a sandbox is worth. -/
noncomputable def Tryz.pinned : Pinned := { name := "ytabnipbdbnmmpaagreatdoor", sum := "d4e182c96d57c0e64cbae23d9a37f80c27428d518cc02a603267b813c0ab442a", checked := Tryz.checked }
namespace Rows
def none {H : Type} : Left H := { results := [], args := [] }

/- WHAT THE LISTED PACKAGE-LEVEL VARIABLES READ AS WHEN THE CALL BEGINS. Each datum BY PROGRAM (the guide's laid-datum.mjs) off the statement by which the dump's own 'gosem.cut.vars' lays the variable. In a bare row this is a premise. The card (YtabnipbdbnmmpaaGreatDoorCards.lean) ties it to the program's text. -/
def laid_hartix_elf_headFields {H : Type} : DataW H := .agg [.agg [.lit (.int .i64 0), .lit (.int .i64 4), .lit (.int .u64 1179403647)], .agg [.lit (.int .i64 4), .lit (.int .i64 1), .lit (.int .u64 2)], .agg [.lit (.int .i64 5), .lit (.int .i64 1), .lit (.int .u64 1)], .agg [.lit (.int .i64 6), .lit (.int .i64 1), .lit (.int .u64 1)], .agg [.lit (.int .i64 16), .lit (.int .i64 2), .lit (.int .u64 2)], .agg [.lit (.int .i64 18), .lit (.int .i64 2), .lit (.int .u64 243)], .agg [.lit (.int .i64 20), .lit (.int .i64 4), .lit (.int .u64 1)], .agg [.lit (.int .i64 24), .lit (.int .i64 8), .lit (.int .u64 0)], .agg [.lit (.int .i64 32), .lit (.int .i64 8), .lit (.int .u64 0)], .agg [.lit (.int .i64 52), .lit (.int .i64 2), .lit (.int .u64 64)], .agg [.lit (.int .i64 54), .lit (.int .i64 2), .lit (.int .u64 56)], .agg [.lit (.int .i64 56), .lit (.int .i64 2), .lit (.int .u64 0)]]
def laid_hartix_elf_segFields {H : Type} : DataW H := .agg [.agg [.lit (.int .i64 0), .lit (.int .i64 4), .lit (.int .u64 1)], .agg [.lit (.int .i64 4), .lit (.int .i64 4), .lit (.int .u64 0)], .agg [.lit (.int .i64 8), .lit (.int .i64 8), .lit (.int .u64 0)], .agg [.lit (.int .i64 16), .lit (.int .i64 8), .lit (.int .u64 0)], .agg [.lit (.int .i64 24), .lit (.int .i64 8), .lit (.int .u64 0)], .agg [.lit (.int .i64 32), .lit (.int .i64 8), .lit (.int .u64 0)], .agg [.lit (.int .i64 40), .lit (.int .i64 8), .lit (.int .u64 0)], .agg [.lit (.int .i64 48), .lit (.int .i64 8), .lit (.int .u64 4096)]]
def laid_hartix_exec_sameRights {H : Type} : DataW H := .agg [.agg [.lit (.int .u32 4), .lit (.int .u64 2)], .agg [.lit (.int .u32 2), .lit (.int .u64 4)], .agg [.lit (.int .u32 1), .lit (.int .u64 8)]]

/-- 'hartixlaw14.ExecTwice': WHATEVER THE INPUT: true; the input reads as it did. -/
def execTwiceSpec : ChangeSpec := { name := "execTwice", fn := fun _ => fun
  | [d1, d2, d3] => { results := [.lit (.bool true)], args := [d1, d2, d3] }
  | _ => none }
def execTwiceRow : OpenClaim := { program := "ytabnipbdbnmmpaagreatdoor", sum := "d4e182c96d57c0e64cbae23d9a37f80c27428d518cc02a603267b813c0ab442a", func := "hartix/hartixlaw14.ExecTwice", spec := "execTwice", inPlace := ["internal/bytealg.IndexByteString"], unfollowed := true, recurses := true, named := ["hartix/elf.headFields", "hartix/elf.segFields", "hartix/exec.sameRights"], apart := false, laid := [("hartix/elf.headFields", laid_hartix_elf_headFields), ("hartix/elf.segFields", laid_hartix_elf_segFields), ("hartix/exec.sameRights", laid_hartix_exec_sameRights)] }
def ExecTwiceSaid : Prop := execTwiceRow.holds Tryz.pinned (OpenSpec.ofChange execTwiceSpec)

/-- ITS FALSE NEIGHBOUR: 'it returns false'. Refute it at one input. -/
def execTwiceWrong : ChangeSpec := { name := "execTwice", fn := fun _ => fun
  | [d1, d2, d3] => { results := [.lit (.bool false)], args := [d1, d2, d3] }
  | _ => none }
def ExecTwiceWrongFalsely : Prop := execTwiceRow.holds Tryz.pinned (OpenSpec.ofChange execTwiceWrong)

/-- 'hartixlaw14.ExecShows': WHATEVER THE INPUT: true; the input reads as it did. -/
def execShowsSpec : ChangeSpec := { name := "execShows", fn := fun _ => fun
  | [d1, d2] => { results := [.lit (.bool true)], args := [d1, d2] }
  | _ => none }
def execShowsRow : OpenClaim := { program := "ytabnipbdbnmmpaagreatdoor", sum := "d4e182c96d57c0e64cbae23d9a37f80c27428d518cc02a603267b813c0ab442a", func := "hartix/hartixlaw14.ExecShows", spec := "execShows", inPlace := ["internal/bytealg.IndexByteString"], unfollowed := true, recurses := true, named := ["hartix/elf.headFields", "hartix/elf.segFields", "hartix/exec.sameRights"], apart := false, laid := [("hartix/elf.headFields", laid_hartix_elf_headFields), ("hartix/elf.segFields", laid_hartix_elf_segFields), ("hartix/exec.sameRights", laid_hartix_exec_sameRights)] }
def ExecShowsSaid : Prop := execShowsRow.holds Tryz.pinned (OpenSpec.ofChange execShowsSpec)

/-- ITS FALSE NEIGHBOUR: 'it returns false'. Refute it at one input. -/
def execShowsWrong : ChangeSpec := { name := "execShows", fn := fun _ => fun
  | [d1, d2] => { results := [.lit (.bool false)], args := [d1, d2] }
  | _ => none }
def ExecShowsWrongFalsely : Prop := execShowsRow.holds Tryz.pinned (OpenSpec.ofChange execShowsWrong)

/-- 'hartixlaw14.ExecLoads': WHATEVER THE INPUT: true; the input reads as it did. -/
def execLoadsSpec : ChangeSpec := { name := "execLoads", fn := fun _ => fun
  | [d1, d2, d3] => { results := [.lit (.bool true)], args := [d1, d2, d3] }
  | _ => none }
def execLoadsRow : OpenClaim := { program := "ytabnipbdbnmmpaagreatdoor", sum := "d4e182c96d57c0e64cbae23d9a37f80c27428d518cc02a603267b813c0ab442a", func := "hartix/hartixlaw14.ExecLoads", spec := "execLoads", inPlace := ["internal/bytealg.IndexByteString"], unfollowed := true, recurses := true, named := ["hartix/elf.headFields", "hartix/elf.segFields", "hartix/exec.sameRights"], apart := false, laid := [("hartix/elf.headFields", laid_hartix_elf_headFields), ("hartix/elf.segFields", laid_hartix_elf_segFields), ("hartix/exec.sameRights", laid_hartix_exec_sameRights)] }
def ExecLoadsSaid : Prop := execLoadsRow.holds Tryz.pinned (OpenSpec.ofChange execLoadsSpec)

/-- ITS FALSE NEIGHBOUR: 'it returns false'. Refute it at one input. -/
def execLoadsWrong : ChangeSpec := { name := "execLoads", fn := fun _ => fun
  | [d1, d2, d3] => { results := [.lit (.bool false)], args := [d1, d2, d3] }
  | _ => none }
def ExecLoadsWrongFalsely : Prop := execLoadsRow.holds Tryz.pinned (OpenSpec.ofChange execLoadsWrong)

/- THE SECOND FORM. 'bulk': how many values and letters a reading holds, each counted each time it is reached (what is shared counts as often as it is met; a slice's spare places count too). A statement '..UptoSaid' is the law's where the arguments, and the package variables that the reading takes, are together of bulk at most 1048576: NARROWER than '..Said'. Prove '..Said' where nothing that the law and all that it calls make is longer than what came in: it says more and counts as full. Else prove '..UptoSaid'. A law counts once. -/
mutual
def uptoBulk {H : Type} : DataW H → Nat
  | .lit (.string bytes) => bytes.length + 1
  | .lit _ => 1
  | .nil => 1
  | .ptr d => uptoBulk d + 1
  | .slice elems spare => uptoBulkAll elems + uptoBulkAll spare + 1
  | .agg parts => uptoBulkAll parts + 1
  | .iface _ d => uptoBulk d + 1
  | .map entries => uptoBulkEntries entries + 1
  | .held _ => 1
def uptoBulkAll {H : Type} : List (DataW H) → Nat
  | [] => 0
  | d :: r => uptoBulk d + uptoBulkAll r
def uptoBulkEntries {H : Type} : List (Lit × DataW H) → Nat
  | [] => 0
  | x :: r => uptoBulkEntry x + uptoBulkEntries r
def uptoBulkEntry {H : Type} : Lit × DataW H → Nat
  | (.string bytes, d) => bytes.length + uptoBulk d + 1
  | (_, d) => uptoBulk d + 1
 end
def uptoSmall : (H : Type) → List (DataW H) → Bool := fun _ ds => decide (uptoBulkAll ds ≤ 1048576)
def OpenSpec.upto (s : _root_.Go.ChangeSpec) : _root_.Go.OpenSpec := { _root_.Go.OpenSpec.ofChange s with cond := some uptoSmall }

/-- 'hartixlaw14.ExecTwice', WHERE WHAT IT READS IS OF BULK AT MOST 1048576: true; the input reads as it did. -/
def execTwiceUptoRow : OpenClaim := { program := "ytabnipbdbnmmpaagreatdoor", sum := "d4e182c96d57c0e64cbae23d9a37f80c27428d518cc02a603267b813c0ab442a", func := "hartix/hartixlaw14.ExecTwice", spec := "execTwice", inPlace := ["internal/bytealg.IndexByteString"], unfollowed := true, recurses := true, named := ["hartix/elf.headFields", "hartix/elf.segFields", "hartix/exec.sameRights"], apart := false, laid := [("hartix/elf.headFields", laid_hartix_elf_headFields), ("hartix/elf.segFields", laid_hartix_elf_segFields), ("hartix/exec.sameRights", laid_hartix_exec_sameRights)], narrowed := true }
def ExecTwiceUptoSaid : Prop := execTwiceUptoRow.holds Tryz.pinned (OpenSpec.upto execTwiceSpec)

/-- 'hartixlaw14.ExecShows', WHERE WHAT IT READS IS OF BULK AT MOST 1048576: true; the input reads as it did. -/
def execShowsUptoRow : OpenClaim := { program := "ytabnipbdbnmmpaagreatdoor", sum := "d4e182c96d57c0e64cbae23d9a37f80c27428d518cc02a603267b813c0ab442a", func := "hartix/hartixlaw14.ExecShows", spec := "execShows", inPlace := ["internal/bytealg.IndexByteString"], unfollowed := true, recurses := true, named := ["hartix/elf.headFields", "hartix/elf.segFields", "hartix/exec.sameRights"], apart := false, laid := [("hartix/elf.headFields", laid_hartix_elf_headFields), ("hartix/elf.segFields", laid_hartix_elf_segFields), ("hartix/exec.sameRights", laid_hartix_exec_sameRights)], narrowed := true }
def ExecShowsUptoSaid : Prop := execShowsUptoRow.holds Tryz.pinned (OpenSpec.upto execShowsSpec)

/-- 'hartixlaw14.ExecLoads', WHERE WHAT IT READS IS OF BULK AT MOST 1048576: true; the input reads as it did. -/
def execLoadsUptoRow : OpenClaim := { program := "ytabnipbdbnmmpaagreatdoor", sum := "d4e182c96d57c0e64cbae23d9a37f80c27428d518cc02a603267b813c0ab442a", func := "hartix/hartixlaw14.ExecLoads", spec := "execLoads", inPlace := ["internal/bytealg.IndexByteString"], unfollowed := true, recurses := true, named := ["hartix/elf.headFields", "hartix/elf.segFields", "hartix/exec.sameRights"], apart := false, laid := [("hartix/elf.headFields", laid_hartix_elf_headFields), ("hartix/elf.segFields", laid_hartix_elf_segFields), ("hartix/exec.sameRights", laid_hartix_exec_sameRights)], narrowed := true }
def ExecLoadsUptoSaid : Prop := execLoadsUptoRow.holds Tryz.pinned (OpenSpec.upto execLoadsSpec)

end Rows
end Go.Proofs.YtabnipbdbnmmpaaGreatDoor
