/-
  NARROWER THAN 'FOR EVERY INPUT', by the rows' own cells (each row's printed sentence says how): ConsoleEcho: laid · ConsoleLines: laid · ConsoleParts: laid · ConsoleNobody: laid · ConsoleFroms: laid · ConsoleFresh: laid.
  DERIVED. THE GIVEN ROWS OF THIS SEAT. 6 by the template 'for every input the law returns true; each argument reads behind the call as it read before'; 0 by the template 'total and deterministic' (their statements: YtblpdnchphhcaaaDoorTotals.lean).
  GIVEN WITH THE SEED: the statements are not yours to turn. If you find one false, say at which input.
  Laid BY PROGRAM, IN A SANDBOX (cutbox-rows.mjs): the forced cells as the released guide's own fill.sh prints them over the translation c27b436e474cdf7c… (all of the seat's roots in one cut). By AI agents, Wed Nov 11 2026. No macro, syntax, notation, axiom, sorry.
-/
import Derived.Test.YtblpdnchphhcaaaDoorChecked
import GoSem.Claim
import GoSem.ClaimJoined
import GoSem.ClaimMapViews
import Derived.JoinedTies
import Derived.KernelRfl
namespace Go.Proofs.YtblpdnchphhcaaaDoor
/- THE CELL 'sum', in the pinned program and in every row, IS THE sha256 OF THE DUMP (.gsa) THAT YtblpdnchphhcaaaDoorProg.lean LOADS. Nothing in Lean hashes anything: it is a label: what it is worth is what the hold of that sum in a sandbox is worth. -/
noncomputable def Tryd.pinned : Pinned := { name := "ytblpdnchphhcaaadoor", sum := "c27b436e474cdf7c3c5904db1dfc659cb8069fc8825f8541399402e601d737e7", checked := Tryd.checked }
namespace Rows
def none {H : Type} : Left H := { results := [], args := [] }

/- WHAT THE LISTED PACKAGE-LEVEL VARIABLES READ AS WHEN THE CALL BEGINS. Each datum BY PROGRAM (the guide's laid-datum.mjs) off the statement by which the dump's own 'gosem.cut.vars' lays the variable. In a bare row this is a premise. The card (YtblpdnchphhcaaaDoorCards.lean) ties it to the program's text. -/
def laid_hartix_console_deeds {H : Type} : DataW H := .agg [.lit (.int .u8 1), .lit (.int .u8 0), .lit (.int .u8 0), .lit (.int .u8 0), .lit (.int .u8 7), .lit (.int .u8 0), .lit (.int .u8 0), .lit (.int .u8 0), .lit (.int .u8 2), .lit (.int .u8 0), .lit (.int .u8 6), .lit (.int .u8 0), .lit (.int .u8 0), .lit (.int .u8 5), .lit (.int .u8 0), .lit (.int .u8 0), .lit (.int .u8 0), .lit (.int .u8 0), .lit (.int .u8 0), .lit (.int .u8 0), .lit (.int .u8 0), .lit (.int .u8 4), .lit (.int .u8 0), .lit (.int .u8 0), .lit (.int .u8 0), .lit (.int .u8 0), .lit (.int .u8 0), .lit (.int .u8 0), .lit (.int .u8 0), .lit (.int .u8 0), .lit (.int .u8 0), .lit (.int .u8 0), .lit (.int .u8 0), .lit (.int .u8 0), .lit (.int .u8 0), .lit (.int .u8 0), .lit (.int .u8 0), .lit (.int .u8 0), .lit (.int .u8 0), .lit (.int .u8 0), .lit (.int .u8 0), .lit (.int .u8 0), .lit (.int .u8 0), .lit (.int .u8 0), .lit (.int .u8 0), .lit (.int .u8 0), .lit (.int .u8 0), .lit (.int .u8 0), .lit (.int .u8 0), .lit (.int .u8 0), .lit (.int .u8 0), .lit (.int .u8 0), .lit (.int .u8 0), .lit (.int .u8 0), .lit (.int .u8 0), .lit (.int .u8 0), .lit (.int .u8 0), .lit (.int .u8 0), .lit (.int .u8 0), .lit (.int .u8 0), .lit (.int .u8 0), .lit (.int .u8 0), .lit (.int .u8 0), .lit (.int .u8 0), .lit (.int .u8 0), .lit (.int .u8 0), .lit (.int .u8 0), .lit (.int .u8 0), .lit (.int .u8 0), .lit (.int .u8 0), .lit (.int .u8 0), .lit (.int .u8 0), .lit (.int .u8 0), .lit (.int .u8 0), .lit (.int .u8 0), .lit (.int .u8 0), .lit (.int .u8 0), .lit (.int .u8 0), .lit (.int .u8 0), .lit (.int .u8 0), .lit (.int .u8 0), .lit (.int .u8 0), .lit (.int .u8 0), .lit (.int .u8 0), .lit (.int .u8 0), .lit (.int .u8 0), .lit (.int .u8 0), .lit (.int .u8 0), .lit (.int .u8 0), .lit (.int .u8 0), .lit (.int .u8 0), .lit (.int .u8 0), .lit (.int .u8 0), .lit (.int .u8 0), .lit (.int .u8 0), .lit (.int .u8 0), .lit (.int .u8 0), .lit (.int .u8 0), .lit (.int .u8 0), .lit (.int .u8 0), .lit (.int .u8 0), .lit (.int .u8 0), .lit (.int .u8 0), .lit (.int .u8 0), .lit (.int .u8 0), .lit (.int .u8 0), .lit (.int .u8 0), .lit (.int .u8 0), .lit (.int .u8 0), .lit (.int .u8 0), .lit (.int .u8 0), .lit (.int .u8 0), .lit (.int .u8 0), .lit (.int .u8 0), .lit (.int .u8 0), .lit (.int .u8 0), .lit (.int .u8 0), .lit (.int .u8 0), .lit (.int .u8 0), .lit (.int .u8 0), .lit (.int .u8 0), .lit (.int .u8 0), .lit (.int .u8 0), .lit (.int .u8 0), .lit (.int .u8 0), .lit (.int .u8 0), .lit (.int .u8 0), .lit (.int .u8 3)]

/-- 'hartixlaw11.ConsoleEcho': WHATEVER THE INPUT: true; the input reads as it did. -/
def consoleEchoSpec : ChangeSpec := { name := "consoleEcho", fn := fun _ => fun
  | [d] => { results := [.lit (.bool true)], args := [d] }
  | _ => none }
def consoleEchoRow : OpenClaim := { program := "ytblpdnchphhcaaadoor", sum := "c27b436e474cdf7c3c5904db1dfc659cb8069fc8825f8541399402e601d737e7", func := "hartix/hartixlaw11.ConsoleEcho", spec := "consoleEcho", named := ["hartix/console.deeds"], apart := false, laid := [("hartix/console.deeds", laid_hartix_console_deeds)] }
def ConsoleEchoSaid : Prop := consoleEchoRow.holds Tryd.pinned (OpenSpec.ofChange consoleEchoSpec)

/-- ITS FALSE NEIGHBOUR: 'it returns false'. Refute it at one input. -/
def consoleEchoWrong : ChangeSpec := { name := "consoleEcho", fn := fun _ => fun
  | [d] => { results := [.lit (.bool false)], args := [d] }
  | _ => none }
def ConsoleEchoWrongFalsely : Prop := consoleEchoRow.holds Tryd.pinned (OpenSpec.ofChange consoleEchoWrong)

/-- 'hartixlaw11.ConsoleLines': WHATEVER THE INPUT: true; the input reads as it did. -/
def consoleLinesSpec : ChangeSpec := { name := "consoleLines", fn := fun _ => fun
  | [d] => { results := [.lit (.bool true)], args := [d] }
  | _ => none }
def consoleLinesRow : OpenClaim := { program := "ytblpdnchphhcaaadoor", sum := "c27b436e474cdf7c3c5904db1dfc659cb8069fc8825f8541399402e601d737e7", func := "hartix/hartixlaw11.ConsoleLines", spec := "consoleLines", inPlace := ["internal/bytealg.IndexByte"], named := ["hartix/console.deeds"], apart := false, laid := [("hartix/console.deeds", laid_hartix_console_deeds)] }
def ConsoleLinesSaid : Prop := consoleLinesRow.holds Tryd.pinned (OpenSpec.ofChange consoleLinesSpec)

/-- ITS FALSE NEIGHBOUR: 'it returns false'. Refute it at one input. -/
def consoleLinesWrong : ChangeSpec := { name := "consoleLines", fn := fun _ => fun
  | [d] => { results := [.lit (.bool false)], args := [d] }
  | _ => none }
def ConsoleLinesWrongFalsely : Prop := consoleLinesRow.holds Tryd.pinned (OpenSpec.ofChange consoleLinesWrong)

/-- 'hartixlaw11.ConsoleParts': WHATEVER THE INPUT: true; the input reads as it did. -/
def consolePartsSpec : ChangeSpec := { name := "consoleParts", fn := fun _ => fun
  | [d1, d2, d3] => { results := [.lit (.bool true)], args := [d1, d2, d3] }
  | _ => none }
def consolePartsRow : OpenClaim := { program := "ytblpdnchphhcaaadoor", sum := "c27b436e474cdf7c3c5904db1dfc659cb8069fc8825f8541399402e601d737e7", func := "hartix/hartixlaw11.ConsoleParts", spec := "consoleParts", inPlace := ["internal/bytealg.IndexByte"], named := ["hartix/console.deeds"], apart := false, laid := [("hartix/console.deeds", laid_hartix_console_deeds)] }
def ConsolePartsSaid : Prop := consolePartsRow.holds Tryd.pinned (OpenSpec.ofChange consolePartsSpec)

/-- ITS FALSE NEIGHBOUR: 'it returns false'. Refute it at one input. -/
def consolePartsWrong : ChangeSpec := { name := "consoleParts", fn := fun _ => fun
  | [d1, d2, d3] => { results := [.lit (.bool false)], args := [d1, d2, d3] }
  | _ => none }
def ConsolePartsWrongFalsely : Prop := consolePartsRow.holds Tryd.pinned (OpenSpec.ofChange consolePartsWrong)

/-- 'hartixlaw11.ConsoleNobody': WHATEVER THE INPUT: true; the input reads as it did. -/
def consoleNobodySpec : ChangeSpec := { name := "consoleNobody", fn := fun _ => fun
  | [d1, d2] => { results := [.lit (.bool true)], args := [d1, d2] }
  | _ => none }
def consoleNobodyRow : OpenClaim := { program := "ytblpdnchphhcaaadoor", sum := "c27b436e474cdf7c3c5904db1dfc659cb8069fc8825f8541399402e601d737e7", func := "hartix/hartixlaw11.ConsoleNobody", spec := "consoleNobody", inPlace := ["internal/bytealg.IndexByte"], named := ["hartix/console.deeds"], apart := false, laid := [("hartix/console.deeds", laid_hartix_console_deeds)] }
def ConsoleNobodySaid : Prop := consoleNobodyRow.holds Tryd.pinned (OpenSpec.ofChange consoleNobodySpec)

/-- ITS FALSE NEIGHBOUR: 'it returns false'. Refute it at one input. -/
def consoleNobodyWrong : ChangeSpec := { name := "consoleNobody", fn := fun _ => fun
  | [d1, d2] => { results := [.lit (.bool false)], args := [d1, d2] }
  | _ => none }
def ConsoleNobodyWrongFalsely : Prop := consoleNobodyRow.holds Tryd.pinned (OpenSpec.ofChange consoleNobodyWrong)

/-- 'hartixlaw11.ConsoleFroms': WHATEVER THE INPUT: true; the input reads as it did. -/
def consoleFromsSpec : ChangeSpec := { name := "consoleFroms", fn := fun _ => fun
  | [d] => { results := [.lit (.bool true)], args := [d] }
  | _ => none }
def consoleFromsRow : OpenClaim := { program := "ytblpdnchphhcaaadoor", sum := "c27b436e474cdf7c3c5904db1dfc659cb8069fc8825f8541399402e601d737e7", func := "hartix/hartixlaw11.ConsoleFroms", spec := "consoleFroms", inPlace := ["internal/bytealg.IndexByte"], named := ["hartix/console.deeds"], apart := false, laid := [("hartix/console.deeds", laid_hartix_console_deeds)] }
def ConsoleFromsSaid : Prop := consoleFromsRow.holds Tryd.pinned (OpenSpec.ofChange consoleFromsSpec)

/-- ITS FALSE NEIGHBOUR: 'it returns false'. Refute it at one input. -/
def consoleFromsWrong : ChangeSpec := { name := "consoleFroms", fn := fun _ => fun
  | [d] => { results := [.lit (.bool false)], args := [d] }
  | _ => none }
def ConsoleFromsWrongFalsely : Prop := consoleFromsRow.holds Tryd.pinned (OpenSpec.ofChange consoleFromsWrong)

/-- 'hartixlaw11.ConsoleFresh': WHATEVER THE INPUT: true; the input reads as it did. -/
def consoleFreshSpec : ChangeSpec := { name := "consoleFresh", fn := fun _ => fun
  | [d] => { results := [.lit (.bool true)], args := [d] }
  | _ => none }
def consoleFreshRow : OpenClaim := { program := "ytblpdnchphhcaaadoor", sum := "c27b436e474cdf7c3c5904db1dfc659cb8069fc8825f8541399402e601d737e7", func := "hartix/hartixlaw11.ConsoleFresh", spec := "consoleFresh", inPlace := ["internal/bytealg.IndexByte"], named := ["hartix/console.deeds"], apart := false, laid := [("hartix/console.deeds", laid_hartix_console_deeds)] }
def ConsoleFreshSaid : Prop := consoleFreshRow.holds Tryd.pinned (OpenSpec.ofChange consoleFreshSpec)

/-- ITS FALSE NEIGHBOUR: 'it returns false'. Refute it at one input. -/
def consoleFreshWrong : ChangeSpec := { name := "consoleFresh", fn := fun _ => fun
  | [d] => { results := [.lit (.bool false)], args := [d] }
  | _ => none }
def ConsoleFreshWrongFalsely : Prop := consoleFreshRow.holds Tryd.pinned (OpenSpec.ofChange consoleFreshWrong)

/- THE SECOND FORM. 'bulk': how many values and letters a reading holds, each counted each time it is reached (what is shared counts as often as it is met; a slice's spare places count too). A statement '..UptoSaid' is the law's where the arguments, and the package variables that the reading takes, are together of bulk at most 1048576: NARROWER than '..Said'. Prove '..Said' where nothing that the law and all that it calls make is longer than what came in: it says more and counts as full. Else prove '..UptoSaid'. A law counts once. -/
mutual
def uptoBulk {H : Type} : DataW H → Nat
  | .lit (.string bytes) => bytes.length + 1
  | .lit _ => 1
  | .nil => 1
  | .ptr d => uptoBulk d + 1
  | .slice elems spare => uptoBulkAll elems + uptoBulkAll spare + 1
  | .agg parts => uptoBulkAll parts + 1
  | .iface _ d => uptoBulk d + 1
  | .map entries => uptoBulkEntries entries + 1
  | .held _ => 1
def uptoBulkAll {H : Type} : List (DataW H) → Nat
  | [] => 0
  | d :: r => uptoBulk d + uptoBulkAll r
def uptoBulkEntries {H : Type} : List (Lit × DataW H) → Nat
  | [] => 0
  | x :: r => uptoBulkEntry x + uptoBulkEntries r
def uptoBulkEntry {H : Type} : Lit × DataW H → Nat
  | (.string bytes, d) => bytes.length + uptoBulk d + 1
  | (_, d) => uptoBulk d + 1
 end
def uptoSmall : (H : Type) → List (DataW H) → Bool := fun _ ds => decide (uptoBulkAll ds ≤ 1048576)
def OpenSpec.upto (s : _root_.Go.ChangeSpec) : _root_.Go.OpenSpec := { _root_.Go.OpenSpec.ofChange s with cond := some uptoSmall }

/-- 'hartixlaw11.ConsoleEcho', WHERE WHAT IT READS IS OF BULK AT MOST 1048576: true; the input reads as it did. -/
def consoleEchoUptoRow : OpenClaim := { program := "ytblpdnchphhcaaadoor", sum := "c27b436e474cdf7c3c5904db1dfc659cb8069fc8825f8541399402e601d737e7", func := "hartix/hartixlaw11.ConsoleEcho", spec := "consoleEcho", named := ["hartix/console.deeds"], apart := false, laid := [("hartix/console.deeds", laid_hartix_console_deeds)], narrowed := true }
def ConsoleEchoUptoSaid : Prop := consoleEchoUptoRow.holds Tryd.pinned (OpenSpec.upto consoleEchoSpec)

/-- 'hartixlaw11.ConsoleLines', WHERE WHAT IT READS IS OF BULK AT MOST 1048576: true; the input reads as it did. -/
def consoleLinesUptoRow : OpenClaim := { program := "ytblpdnchphhcaaadoor", sum := "c27b436e474cdf7c3c5904db1dfc659cb8069fc8825f8541399402e601d737e7", func := "hartix/hartixlaw11.ConsoleLines", spec := "consoleLines", inPlace := ["internal/bytealg.IndexByte"], named := ["hartix/console.deeds"], apart := false, laid := [("hartix/console.deeds", laid_hartix_console_deeds)], narrowed := true }
def ConsoleLinesUptoSaid : Prop := consoleLinesUptoRow.holds Tryd.pinned (OpenSpec.upto consoleLinesSpec)

/-- 'hartixlaw11.ConsoleParts', WHERE WHAT IT READS IS OF BULK AT MOST 1048576: true; the input reads as it did. -/
def consolePartsUptoRow : OpenClaim := { program := "ytblpdnchphhcaaadoor", sum := "c27b436e474cdf7c3c5904db1dfc659cb8069fc8825f8541399402e601d737e7", func := "hartix/hartixlaw11.ConsoleParts", spec := "consoleParts", inPlace := ["internal/bytealg.IndexByte"], named := ["hartix/console.deeds"], apart := false, laid := [("hartix/console.deeds", laid_hartix_console_deeds)], narrowed := true }
def ConsolePartsUptoSaid : Prop := consolePartsUptoRow.holds Tryd.pinned (OpenSpec.upto consolePartsSpec)

/-- 'hartixlaw11.ConsoleNobody', WHERE WHAT IT READS IS OF BULK AT MOST 1048576: true; the input reads as it did. -/
def consoleNobodyUptoRow : OpenClaim := { program := "ytblpdnchphhcaaadoor", sum := "c27b436e474cdf7c3c5904db1dfc659cb8069fc8825f8541399402e601d737e7", func := "hartix/hartixlaw11.ConsoleNobody", spec := "consoleNobody", inPlace := ["internal/bytealg.IndexByte"], named := ["hartix/console.deeds"], apart := false, laid := [("hartix/console.deeds", laid_hartix_console_deeds)], narrowed := true }
def ConsoleNobodyUptoSaid : Prop := consoleNobodyUptoRow.holds Tryd.pinned (OpenSpec.upto consoleNobodySpec)

/-- 'hartixlaw11.ConsoleFroms', WHERE WHAT IT READS IS OF BULK AT MOST 1048576: true; the input reads as it did. -/
def consoleFromsUptoRow : OpenClaim := { program := "ytblpdnchphhcaaadoor", sum := "c27b436e474cdf7c3c5904db1dfc659cb8069fc8825f8541399402e601d737e7", func := "hartix/hartixlaw11.ConsoleFroms", spec := "consoleFroms", inPlace := ["internal/bytealg.IndexByte"], named := ["hartix/console.deeds"], apart := false, laid := [("hartix/console.deeds", laid_hartix_console_deeds)], narrowed := true }
def ConsoleFromsUptoSaid : Prop := consoleFromsUptoRow.holds Tryd.pinned (OpenSpec.upto consoleFromsSpec)

/-- 'hartixlaw11.ConsoleFresh', WHERE WHAT IT READS IS OF BULK AT MOST 1048576: true; the input reads as it did. -/
def consoleFreshUptoRow : OpenClaim := { program := "ytblpdnchphhcaaadoor", sum := "c27b436e474cdf7c3c5904db1dfc659cb8069fc8825f8541399402e601d737e7", func := "hartix/hartixlaw11.ConsoleFresh", spec := "consoleFresh", inPlace := ["internal/bytealg.IndexByte"], named := ["hartix/console.deeds"], apart := false, laid := [("hartix/console.deeds", laid_hartix_console_deeds)], narrowed := true }
def ConsoleFreshUptoSaid : Prop := consoleFreshUptoRow.holds Tryd.pinned (OpenSpec.upto consoleFreshSpec)

end Rows
end Go.Proofs.YtblpdnchphhcaaaDoor
