import Derived.Test.YtacdgfojdkppmaaGreatDoorRows
import Derived.WalkKit
import Derived.WalkSpells
import Derived.RowKit3
import Derived.Deep.Cut
import Derived.LoopTactic
import Derived.Below
import Derived.Laws.NewBlocks
import Derived.Deep.QuietTactic
import Derived.BigQuiet
import Derived.WalkSmall
import Derived.RegionTactic
import Derived.BigRegion
namespace Go.Proofs.YtacdgfojdkppmaaGreatDoor
open Go.RowKit
set_option linter.unusedVariables false
def ramB : ByteArray := ⟨#[101, 108, 102]⟩
def FaultIn (w' : World) (B : Nat) (v : Value) (a r : Int) : Prop :=
  ∃ b, B ≤ b ∧ b < w'.heap.size ∧ v = .iface 107 (.pointer (some ⟨b, 0, .none⟩)) ∧ w'.cell? ⟨b, 0, .none⟩ = some (.string ramB) ∧ w'.cell? ⟨b, 1, .none⟩ = some (.int .i64 a) ∧ w'.cell? ⟨b, 2, .none⟩ = some (.iface 35 (.int .i64 r))
theorem faultIn_new (w : World) (B : Nat) (a r : Int) (h : B ≤ w.heap.size) : FaultIn (w.alloc (.cells #[.string ramB, .int .i64 a, .iface 35 (.int .i64 r)] 143)) B (.iface 107 (.pointer (some ⟨w.heap.size, 0, .none⟩))) a r :=
  ⟨w.heap.size, h, by simp, rfl, by simp, by simp, by simp⟩
end Go.Proofs.YtacdgfojdkppmaaGreatDoor
