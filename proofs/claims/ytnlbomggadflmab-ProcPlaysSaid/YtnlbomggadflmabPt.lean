import Derived.Test.YtnlbomggadflmabPs
namespace Go.Proofs.Ytnlbomggadflmab
open Go.RowKit
set_option linter.unusedVariables false
set_option linter.unusedSimpArgs false
set_option maxRecDepth 100000
theorem lkP_in {P : Nat → Pr} {nx : Int} (h : Inv P nx) (i : Nat) (hi : i < 64) : lkP P (i : Int) = P i := by
  by_cases e : isP P (i : Int)
  · rw [lkP, if_pos e, Int.toNat_natCast]
  · rw [lkP, if_neg e, h.fr i hi]
    rw [isP, Int.toNat_natCast] at e
    exact Classical.byContradiction fun x => e ⟨by omega, by omega, x⟩
section
variable {w : World} {b : Nat} {P : Nat → Pr} {nx : Int}
theorem neqp (a c : Pr) (w : World) : (binOp .neq 33 (.agg #[.int .i64 a.pid, .int .i64 a.st, .int .i64 a.par, .int .i64 a.ck, .int .i64 a.cn, .bool a.kil, .int .i32 a.sta]) (.agg #[.int .i64 c.pid, .int .i64 c.st, .int .i64 c.par, .int .i64 c.ck, .int .i64 c.cn, .bool c.kil, .int .i32 c.sta])).run Try.prog w = .ok (.bool (!pEq a c)) w := neq_proc a c w
theorem cells_new (w : World) (l : List Value) (t : TypeId) : ∀ (j : Nat) (v : Value), l[j]? = some v → (w.alloc (.cells l.toArray t)).cell? ⟨w.heap.size, j, .none⟩ = some v := fun j v hj => by
  rw [World.cell?_alloc_at _ _ _ _ (by rfl)]
  simpa using hj
theorem below_drew {B : Nat} {u W : World} (h : Below B u W) : Below B u W.drew := ⟨h.os, h.tape, h.output, h.size, h.block⟩
theorem there_tb (h : Tb w b P nx) : w.rangeAt b 0 (tl P nx) := h.rg
end
end Go.Proofs.Ytnlbomggadflmab
