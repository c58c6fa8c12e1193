import Derived.Test.YtloldhcljdmofaaDoorLeA
namespace Go.Proofs.YtloldhcljdmofaaDoor
open Go.RowKit
theorem run_append_none (g n cp : Nat) (p : Option Addr) (c : Nat) (ty : TypeId) (w : World) (hn : n ≤ cp) : (Builtin.append_ #[28, 28] ty #[.slice (some ⟨g, 0, .none⟩) n cp, .slice p 0 c]).run Tryd.prog w = .ok (.slice (some ⟨g, 0, .none⟩) n cp) w := by
  obtain ⟨i, z, hi, _⟩ := byte_info
  cases p <;> simp [Builtin.append_, run_underlying Tryd.underlying28, sizeOf, typeInfo, hi, Builtin.lenOf, Builtin.firstCells, loadCells, loadCellsFrom, hn] <;> rfl
theorem wpList_append_none {w : World} {ops : Array Oper} {rest : List Oper} {o : Oper} {a : Act} {Q : Exit → Act → World → Prop} (hgd : o.guard = none) (s x : Operand)
    (ho : o.op = .call { callee := .builtin .append, args := #[s, x], argTypes := #[28, 28] }) (g n cp : Nat) (hn : n ≤ cp) (p : Option Addr) (c : Nat) (hs : a.eval s = .slice (some ⟨g, 0, .none⟩) n cp) (hx : a.eval x = .slice p 0 c)
    (h : wpList Tryd.prog ops Q rest (a.put o.dst (.slice (some ⟨g, 0, .none⟩) n cp)) w) : wpList Tryd.prog ops Q (o :: rest) a w := by
  refine wpList_plain hgd fun K hK => ?_
  unfold Oper.wp execOp
  simp only [ho, resolve, invoke, builtin, Sem.run_bind, Sem.run_pure, Result.andThen_ok, List.map_toArray, List.map_cons, List.map_nil, hs, hx, run_append_none _ _ _ _ _ _ _ hn]
  exact hK _ _ h
end Go.Proofs.YtloldhcljdmofaaDoor
