import Derived.Test.YthopgmmodldljaaDe
namespace Go.Proofs.Ythopgmmodldljaa
open Go Go.RowKit
set_option linter.unusedVariables false
set_option linter.unusedSimpArgs false
theorem wpList_neqG {w : World} {ops : Array Oper} {rest : List Oper} {o : Oper} {a : Act} {Q : Exit → Act → World → Prop} (t : TypeId) (x y : Operand) (X Y : Array Value) (b : Bool) (hw : Region.wanted o (yielded ops a.tmps) = true) (ho : o.op = .binOp .neq t x y t) (hx : a.eval x = .agg X) (hy : a.eval y = .agg Y) (hg : ∀ w : World, (eqGuard .neq t x y (.agg X) (.agg Y)).run Try.prog w = .ok () w) (hb : ∀ w : World, (binOp .neq t (.agg X) (.agg Y)).run Try.prog w = .ok (.bool b) w) (e : Option Tmp) (he : o.dst = e)
    (h : wpList Try.prog ops Q rest (a.put e (.bool b)) w) : wpList Try.prog ops Q (o :: rest) a w := by
  subst he
  unfold wpList
  rw [if_pos hw]
  refine .inl ?_
  unfold Oper.wp execOp
  simp only [ho, Sem.run_bind, hx, hy, hg, hb, Result.andThen_ok, Sem.run_pure]
  exact h
end Go.Proofs.Ythopgmmodldljaa
