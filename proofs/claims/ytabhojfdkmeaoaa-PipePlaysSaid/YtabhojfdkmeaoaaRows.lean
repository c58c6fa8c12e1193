/-
  No cell of these rows narrows 'for every input' (looked for: loops, veiled, ifaces, maps, wideKeys, modest, calm, conditions, laid).
  DERIVED. THE GIVEN ROWS OF THIS SEAT. 6 by the template 'for every input the law returns true; each argument reads behind the call as it read before'; 0 by the template 'total and deterministic' (their statements: YtabhojfdkmeaoaaTotals.lean).
  GIVEN WITH THE SEED: the statements are not yours to turn. If you find one false, say at which input.
  Laid BY PROGRAM, IN A SANDBOX (cutbox-rows.mjs): the forced cells as the released guide's own fill.sh prints them over the translation 9d8bf2546cd9a3ca… (all of the seat's roots in one cut). By AI agents, Wed Nov 11 2026. No macro, syntax, notation, axiom, sorry.
-/
import Derived.Test.YtabhojfdkmeaoaaChecked
import GoSem.Claim
import GoSem.ClaimJoined
import GoSem.ClaimMapViews
import Derived.JoinedTies
import Derived.KernelRfl
namespace Go.Proofs.Ytabhojfdkmeaoaa
/- THE CELL 'sum', in the pinned program and in every row, IS THE sha256 OF THE DUMP (.gsa) THAT YtabhojfdkmeaoaaProg.lean LOADS. Nothing in Lean hashes anything: it is a label: what it is worth is what the hold of that sum in a sandbox is worth. -/
noncomputable def Try.pinned : Pinned := { name := "ytabhojfdkmeaoaa", sum := "9d8bf2546cd9a3ca110b8d425afdcffff0a0e3ab239b59a2e16e2403bd2a7e41", checked := Try.checked }
namespace Rows
def none {H : Type} : Left H := { results := [], args := [] }

/-- 'hartixlaw10.PipeNobody': WHATEVER THE INPUT: true; the input reads as it did. -/
def pipeNobodySpec : ChangeSpec := { name := "pipeNobody", fn := fun _ => fun
  | [d1, d2] => { results := [.lit (.bool true)], args := [d1, d2] }
  | _ => none }
def pipeNobodyRow : OpenClaim := { program := "ytabhojfdkmeaoaa", sum := "9d8bf2546cd9a3ca110b8d425afdcffff0a0e3ab239b59a2e16e2403bd2a7e41", func := "hartix/hartixlaw10.PipeNobody", spec := "pipeNobody", apart := false }
def PipeNobodySaid : Prop := pipeNobodyRow.holds Try.pinned (OpenSpec.ofChange pipeNobodySpec)

/-- ITS FALSE NEIGHBOUR: 'it returns false'. Refute it at one input. -/
def pipeNobodyWrong : ChangeSpec := { name := "pipeNobody", fn := fun _ => fun
  | [d1, d2] => { results := [.lit (.bool false)], args := [d1, d2] }
  | _ => none }
def PipeNobodyWrongFalsely : Prop := pipeNobodyRow.holds Try.pinned (OpenSpec.ofChange pipeNobodyWrong)

/-- 'hartixlaw10.PipeWaits': WHATEVER THE INPUT: true; the input reads as it did. -/
def pipeWaitsSpec : ChangeSpec := { name := "pipeWaits", fn := fun _ => fun
  | [d] => { results := [.lit (.bool true)], args := [d] }
  | _ => none }
def pipeWaitsRow : OpenClaim := { program := "ytabhojfdkmeaoaa", sum := "9d8bf2546cd9a3ca110b8d425afdcffff0a0e3ab239b59a2e16e2403bd2a7e41", func := "hartix/hartixlaw10.PipeWaits", spec := "pipeWaits", apart := false }
def PipeWaitsSaid : Prop := pipeWaitsRow.holds Try.pinned (OpenSpec.ofChange pipeWaitsSpec)

/-- ITS FALSE NEIGHBOUR: 'it returns false'. Refute it at one input. -/
def pipeWaitsWrong : ChangeSpec := { name := "pipeWaits", fn := fun _ => fun
  | [d] => { results := [.lit (.bool false)], args := [d] }
  | _ => none }
def PipeWaitsWrongFalsely : Prop := pipeWaitsRow.holds Try.pinned (OpenSpec.ofChange pipeWaitsWrong)

/-- 'hartixlaw10.PipeOrder': WHATEVER THE INPUT: true; the input reads as it did. -/
def pipeOrderSpec : ChangeSpec := { name := "pipeOrder", fn := fun _ => fun
  | [d] => { results := [.lit (.bool true)], args := [d] }
  | _ => none }
def pipeOrderRow : OpenClaim := { program := "ytabhojfdkmeaoaa", sum := "9d8bf2546cd9a3ca110b8d425afdcffff0a0e3ab239b59a2e16e2403bd2a7e41", func := "hartix/hartixlaw10.PipeOrder", spec := "pipeOrder", apart := false }
def PipeOrderSaid : Prop := pipeOrderRow.holds Try.pinned (OpenSpec.ofChange pipeOrderSpec)

/-- ITS FALSE NEIGHBOUR: 'it returns false'. Refute it at one input. -/
def pipeOrderWrong : ChangeSpec := { name := "pipeOrder", fn := fun _ => fun
  | [d] => { results := [.lit (.bool false)], args := [d] }
  | _ => none }
def PipeOrderWrongFalsely : Prop := pipeOrderRow.holds Try.pinned (OpenSpec.ofChange pipeOrderWrong)

/-- 'hartixlaw10.PipeRounds': WHATEVER THE INPUT: true; the input reads as it did. -/
def pipeRoundsSpec : ChangeSpec := { name := "pipeRounds", fn := fun _ => fun
  | [d1, d2, d3] => { results := [.lit (.bool true)], args := [d1, d2, d3] }
  | _ => none }
def pipeRoundsRow : OpenClaim := { program := "ytabhojfdkmeaoaa", sum := "9d8bf2546cd9a3ca110b8d425afdcffff0a0e3ab239b59a2e16e2403bd2a7e41", func := "hartix/hartixlaw10.PipeRounds", spec := "pipeRounds", apart := false }
def PipeRoundsSaid : Prop := pipeRoundsRow.holds Try.pinned (OpenSpec.ofChange pipeRoundsSpec)

/-- ITS FALSE NEIGHBOUR: 'it returns false'. Refute it at one input. -/
def pipeRoundsWrong : ChangeSpec := { name := "pipeRounds", fn := fun _ => fun
  | [d1, d2, d3] => { results := [.lit (.bool false)], args := [d1, d2, d3] }
  | _ => none }
def PipeRoundsWrongFalsely : Prop := pipeRoundsRow.holds Try.pinned (OpenSpec.ofChange pipeRoundsWrong)

/-- 'hartixlaw10.PipeJoins': WHATEVER THE INPUT: true; the input reads as it did. -/
def pipeJoinsSpec : ChangeSpec := { name := "pipeJoins", fn := fun _ => fun
  | [d1, d2, d3, d4, d5] => { results := [.lit (.bool true)], args := [d1, d2, d3, d4, d5] }
  | _ => none }
def pipeJoinsRow : OpenClaim := { program := "ytabhojfdkmeaoaa", sum := "9d8bf2546cd9a3ca110b8d425afdcffff0a0e3ab239b59a2e16e2403bd2a7e41", func := "hartix/hartixlaw10.PipeJoins", spec := "pipeJoins", apart := false }
def PipeJoinsSaid : Prop := pipeJoinsRow.holds Try.pinned (OpenSpec.ofChange pipeJoinsSpec)

/-- ITS FALSE NEIGHBOUR: 'it returns false'. Refute it at one input. -/
def pipeJoinsWrong : ChangeSpec := { name := "pipeJoins", fn := fun _ => fun
  | [d1, d2, d3, d4, d5] => { results := [.lit (.bool false)], args := [d1, d2, d3, d4, d5] }
  | _ => none }
def PipeJoinsWrongFalsely : Prop := pipeJoinsRow.holds Try.pinned (OpenSpec.ofChange pipeJoinsWrong)

/-- 'hartixlaw10.PipePlays': WHATEVER THE INPUT: true; the input reads as it did. -/
def pipePlaysSpec : ChangeSpec := { name := "pipePlays", fn := fun _ => fun
  | [d] => { results := [.lit (.bool true)], args := [d] }
  | _ => none }
def pipePlaysRow : OpenClaim := { program := "ytabhojfdkmeaoaa", sum := "9d8bf2546cd9a3ca110b8d425afdcffff0a0e3ab239b59a2e16e2403bd2a7e41", func := "hartix/hartixlaw10.PipePlays", spec := "pipePlays", apart := false }
def PipePlaysSaid : Prop := pipePlaysRow.holds Try.pinned (OpenSpec.ofChange pipePlaysSpec)

/-- ITS FALSE NEIGHBOUR: 'it returns false'. Refute it at one input. -/
def pipePlaysWrong : ChangeSpec := { name := "pipePlays", fn := fun _ => fun
  | [d] => { results := [.lit (.bool false)], args := [d] }
  | _ => none }
def PipePlaysWrongFalsely : Prop := pipePlaysRow.holds Try.pinned (OpenSpec.ofChange pipePlaysWrong)

/- THE SECOND FORM. 'bulk': how many values and letters a reading holds, each counted each time it is reached (what is shared counts as often as it is met; a slice's spare places count too). A statement '..UptoSaid' is the law's where the arguments, and the package variables that the reading takes, are together of bulk at most 1048576: NARROWER than '..Said'. Prove '..Said' where nothing that the law and all that it calls make is longer than what came in: it says more and counts as full. Else prove '..UptoSaid'. A law counts once. -/
mutual
def uptoBulk {H : Type} : DataW H → Nat
  | .lit (.string bytes) => bytes.length + 1
  | .lit _ => 1
  | .nil => 1
  | .ptr d => uptoBulk d + 1
  | .slice elems spare => uptoBulkAll elems + uptoBulkAll spare + 1
  | .agg parts => uptoBulkAll parts + 1
  | .iface _ d => uptoBulk d + 1
  | .map entries => uptoBulkEntries entries + 1
  | .held _ => 1
def uptoBulkAll {H : Type} : List (DataW H) → Nat
  | [] => 0
  | d :: r => uptoBulk d + uptoBulkAll r
def uptoBulkEntries {H : Type} : List (Lit × DataW H) → Nat
  | [] => 0
  | x :: r => uptoBulkEntry x + uptoBulkEntries r
def uptoBulkEntry {H : Type} : Lit × DataW H → Nat
  | (.string bytes, d) => bytes.length + uptoBulk d + 1
  | (_, d) => uptoBulk d + 1
 end
def uptoSmall : (H : Type) → List (DataW H) → Bool := fun _ ds => decide (uptoBulkAll ds ≤ 1048576)
def OpenSpec.upto (s : _root_.Go.ChangeSpec) : _root_.Go.OpenSpec := { _root_.Go.OpenSpec.ofChange s with cond := some uptoSmall }

/-- 'hartixlaw10.PipeNobody', WHERE WHAT IT READS IS OF BULK AT MOST 1048576: true; the input reads as it did. -/
def pipeNobodyUptoRow : OpenClaim := { program := "ytabhojfdkmeaoaa", sum := "9d8bf2546cd9a3ca110b8d425afdcffff0a0e3ab239b59a2e16e2403bd2a7e41", func := "hartix/hartixlaw10.PipeNobody", spec := "pipeNobody", apart := false, narrowed := true }
def PipeNobodyUptoSaid : Prop := pipeNobodyUptoRow.holds Try.pinned (OpenSpec.upto pipeNobodySpec)

/-- 'hartixlaw10.PipeWaits', WHERE WHAT IT READS IS OF BULK AT MOST 1048576: true; the input reads as it did. -/
def pipeWaitsUptoRow : OpenClaim := { program := "ytabhojfdkmeaoaa", sum := "9d8bf2546cd9a3ca110b8d425afdcffff0a0e3ab239b59a2e16e2403bd2a7e41", func := "hartix/hartixlaw10.PipeWaits", spec := "pipeWaits", apart := false, narrowed := true }
def PipeWaitsUptoSaid : Prop := pipeWaitsUptoRow.holds Try.pinned (OpenSpec.upto pipeWaitsSpec)

/-- 'hartixlaw10.PipeOrder', WHERE WHAT IT READS IS OF BULK AT MOST 1048576: true; the input reads as it did. -/
def pipeOrderUptoRow : OpenClaim := { program := "ytabhojfdkmeaoaa", sum := "9d8bf2546cd9a3ca110b8d425afdcffff0a0e3ab239b59a2e16e2403bd2a7e41", func := "hartix/hartixlaw10.PipeOrder", spec := "pipeOrder", apart := false, narrowed := true }
def PipeOrderUptoSaid : Prop := pipeOrderUptoRow.holds Try.pinned (OpenSpec.upto pipeOrderSpec)

/-- 'hartixlaw10.PipeRounds', WHERE WHAT IT READS IS OF BULK AT MOST 1048576: true; the input reads as it did. -/
def pipeRoundsUptoRow : OpenClaim := { program := "ytabhojfdkmeaoaa", sum := "9d8bf2546cd9a3ca110b8d425afdcffff0a0e3ab239b59a2e16e2403bd2a7e41", func := "hartix/hartixlaw10.PipeRounds", spec := "pipeRounds", apart := false, narrowed := true }
def PipeRoundsUptoSaid : Prop := pipeRoundsUptoRow.holds Try.pinned (OpenSpec.upto pipeRoundsSpec)

/-- 'hartixlaw10.PipeJoins', WHERE WHAT IT READS IS OF BULK AT MOST 1048576: true; the input reads as it did. -/
def pipeJoinsUptoRow : OpenClaim := { program := "ytabhojfdkmeaoaa", sum := "9d8bf2546cd9a3ca110b8d425afdcffff0a0e3ab239b59a2e16e2403bd2a7e41", func := "hartix/hartixlaw10.PipeJoins", spec := "pipeJoins", apart := false, narrowed := true }
def PipeJoinsUptoSaid : Prop := pipeJoinsUptoRow.holds Try.pinned (OpenSpec.upto pipeJoinsSpec)

/-- 'hartixlaw10.PipePlays', WHERE WHAT IT READS IS OF BULK AT MOST 1048576: true; the input reads as it did. -/
def pipePlaysUptoRow : OpenClaim := { program := "ytabhojfdkmeaoaa", sum := "9d8bf2546cd9a3ca110b8d425afdcffff0a0e3ab239b59a2e16e2403bd2a7e41", func := "hartix/hartixlaw10.PipePlays", spec := "pipePlays", apart := false, narrowed := true }
def PipePlaysUptoSaid : Prop := pipePlaysUptoRow.holds Try.pinned (OpenSpec.upto pipePlaysSpec)

end Rows
end Go.Proofs.Ytabhojfdkmeaoaa
