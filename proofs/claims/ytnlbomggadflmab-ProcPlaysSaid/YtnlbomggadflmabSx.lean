import Derived.Test.YtnlbomggadflmabSa
import Derived.Test.YtnlbomggadflmabSb
import Derived.Test.YtnlbomggadflmabSc
import Derived.Test.YtnlbomggadflmabSd
import Derived.Test.YtnlbomggadflmabSe
namespace Go.Proofs.Ytnlbomggadflmab
open Go.RowKit
set_option linter.unusedVariables false
set_option linter.unusedSimpArgs false
set_option maxRecDepth 100000
theorem yieldsIf_neqT {ops : Array Oper} {S : World → Prop} {op : Oper} {a : Act} (hw : Region.wanted op (yielded ops a.tmps) = true) (t2 : TypeId) (x y : Operand) (ho : op.op = .binOp .neq 36 x y t2) (P : Nat → Pr) (nx : Int) (T : Array Value) (hT : T = (tl P nx).toArray) (hx : a.eval x = .agg T) (hy : a.eval y = .agg T) : YieldsIf Try.prog ops S op (.bool false) a :=
  .inl ⟨hw, fun w _ => by
    unfold execOp
    simp only [ho, hx, hy, hT, Sem.run_bind, guard_table, neq_table, Result.andThen_ok, Sem.run_pure, show tEq P P nx nx = true by simp [tEq, sEq_iff], Bool.not_true]⟩
section
variable {w : World} {B p t r : Nat} {P : Nat → Pr} {nx : Int}
theorem step_any (h : Pa B w p t r P nx) (hB : B ≤ w.heap.size) (x : Opr) : Calls Try.prog 9 #[.pointer (some ⟨p, 0, .none⟩), .agg x.l.toArray] w (SpP B w p r) := by
  obtain ⟨kd, s, ck, cn, sta⟩ := x
  rw [Opr.l]
  dsimp only
  by_cases h1 : kd = 1
  · exact step_1 h hB kd s ck cn sta h1
  by_cases h2 : kd = 2
  · exact step_2 h hB kd s ck cn sta h2
  by_cases h3 : kd = 3
  · exact step_3 h hB kd s ck cn sta h3
  by_cases h4 : kd = 4
  · exact step_4 h hB kd s ck cn sta h4
  by_cases h5 : kd = 5
  · exact step_5 h hB kd s ck cn sta h5
  by_cases h6 : kd = 6
  · exact step_6 h hB kd s ck cn sta h6
  by_cases h7 : kd = 7
  · exact step_7 h hB kd s ck cn sta h7
  by_cases h8 : kd = 8
  · exact step_8 h hB kd s ck cn sta h8
  by_cases h9 : kd = 9
  · exact step_9 h hB kd s ck cn sta h9
  by_cases h10 : kd = 10
  · exact step_10 h hB kd s ck cn sta h10
  by_cases h11 : kd = 11
  · exact step_11 h hB kd s ck cn sta h11
  exact step_o h hB kd s ck cn sta (by simpa using h1) (by simpa using h2) (by simpa using h3) (by simpa using h4) (by simpa using h5) (by simpa using h6) (by simpa using h7) (by simpa using h8) (by simpa using h9) (by simpa using h10) (by simpa using h11)
end
end Go.Proofs.Ytnlbomggadflmab
