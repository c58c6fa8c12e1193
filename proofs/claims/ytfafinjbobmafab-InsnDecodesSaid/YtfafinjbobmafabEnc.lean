import Derived.Test.YtfafinjbobmafabSum
import Derived.Deep.RegionHeld3
namespace Go.Proofs.Ytfafinjbobmafab
open Go.RowKit
set_option linter.unusedVariables false
attribute [local go_sem] run_store_func
/-- A refusal of the layer: a new fault, and what it holds. -/
def FaultIn (w' : World) (B : Nat) (v : Value) (a r : Int) : Prop :=
  ∃ b, B ≤ b ∧ b < w'.heap.size ∧ v = .iface 65 (.pointer (some ⟨b, 0, .none⟩)) ∧ w'.cell? ⟨b, 0, .none⟩ = some (.string insnB) ∧ w'.cell? ⟨b, 1, .none⟩ = some (.int .i64 a) ∧ w'.cell? ⟨b, 2, .none⟩ = some (.iface 41 (.int .i64 r))
theorem faultIn_new (w : World) (B : Nat) (a r : Int) (h : B ≤ w.heap.size) : FaultIn (w.alloc (.cells #[.string insnB, .int .i64 a, .iface 41 (.int .i64 r)] 67)) B (.iface 65 (.pointer (some ⟨w.heap.size, 0, .none⟩))) a r :=
  ⟨w.heap.size, h, by simp, rfl, by simp, by simp, by simp⟩
def Row6 (w : World) (b : Nat) (c0 c1 c2 c3 c4 c5 : Value) : Prop :=
  w.cell? ⟨b, 0, .none⟩ = some c0 ∧ w.cell? ⟨b, 1, .none⟩ = some c1 ∧ w.cell? ⟨b, 2, .none⟩ = some c2 ∧ w.cell? ⟨b, 3, .none⟩ = some c3 ∧ w.cell? ⟨b, 4, .none⟩ = some c4 ∧ w.cell? ⟨b, 5, .none⟩ = some c5
theorem row6_new (w : World) (c0 c1 c2 c3 c4 c5 : Value) (t : TypeId) : Row6 (w.alloc (.cells #[c0, c1, c2, c3, c4, c5] t)) w.heap.size c0 c1 c2 c3 c4 c5 := by
  refine ⟨?_, ?_, ?_, ?_, ?_, ?_⟩ <;> simp
theorem row6_keep {B : Nat} {W w' : World} {b : Nat} {c0 c1 c2 c3 c4 c5 : Value} (h : Below B W w') (hb : b < B) (k : Row6 W b c0 c1 c2 c3 c4 c5) : Row6 w' b c0 c1 c2 c3 c4 c5 := by
  obtain ⟨k0, k1, k2, k3, k4, k5⟩ := k
  exact ⟨(h.cell hb).trans k0, (h.cell hb).trans k1, (h.cell hb).trans k2, (h.cell hb).trans k3, (h.cell hb).trans k4, (h.cell hb).trans k5⟩
def Row3 (w : World) (b : Nat) (c0 c1 c2 : Value) : Prop :=
  w.cell? ⟨b, 0, .none⟩ = some c0 ∧ w.cell? ⟨b, 1, .none⟩ = some c1 ∧ w.cell? ⟨b, 2, .none⟩ = some c2
theorem row3_new (w : World) (c0 c1 c2 : Value) (t : TypeId) : Row3 (w.alloc (.cells #[c0, c1, c2] t)) w.heap.size c0 c1 c2 := by
  refine ⟨?_, ?_, ?_⟩ <;> simp
theorem row3_keep {B : Nat} {W w' : World} {b : Nat} {c0 c1 c2 : Value} (h : Below B W w') (hb : b < B) (k : Row3 W b c0 c1 c2) : Row3 w' b c0 c1 c2 := by
  obtain ⟨k0, k1, k2⟩ := k
  exact ⟨(h.cell hb).trans k0, (h.cell hb).trans k1, (h.cell hb).trans k2⟩
theorem below_new (w : World) (o : Obj) : Below (w.heap.size + 1) (w.alloc o) (w.alloc o) := Below.refl _ _
theorem below_past (w : World) (o : Obj) : Below w.heap.size w (w.alloc o) := (Below.refl _ _).alloc (Nat.le_refl _) o
end Go.Proofs.Ytfafinjbobmafab
