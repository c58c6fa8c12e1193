import Derived.Test.YtnlbomggadflmabMi
namespace Go.Proofs.Ytnlbomggadflmab
open Go.RowKit
set_option linter.unusedVariables false
set_option linter.unusedSimpArgs false
set_option maxRecDepth 100000
/-- A step. -/
structure Opr where
  k : Int
  s : Int
  ck : Int
  cn : Int
  sta : Int
def Opr.l (x : Opr) : List Value := [.int .i64 x.k, .int .i64 x.s, .int .i64 x.ck, .int .i64 x.cn, .int .i32 x.sta]
/-- What a step leaves. -/
def DoP (w : World) (b : Nat) (e : Ending) (w' : World) : Prop := e = .returned (.tuple #[]) ∧ ∃ P' n', Tb w' b P' n' ∧ Inv P' n' ∧ Trn b w w'
section
variable {w : World} {b : Nat} {P : Nat → Pr} {nx : Int}
/-- A table as it is told is laid into a new variable. -/
theorem wpList_laid {ops : Array Oper} {rest : List Oper} {a : Act} {Q : Exit → Act → World → Prop} (d s : Tmp) (o1 o2 : Oper) (h1 : o1.guard = none) (h2 : o1.op = .alloc 36) (h3 : o1.dst = some d) (h4 : o2.guard = none) (h5 : o2.op = .store 36 (.tmp d) (.tmp s)) (h6 : o2.dst = none)
    (hd : (a.put (some d) (.pointer (some ⟨w.heap.size, 0, .none⟩))).eval (.tmp d) = .pointer (some ⟨w.heap.size, 0, .none⟩)) (hs : (a.put (some d) (.pointer (some ⟨w.heap.size, 0, .none⟩))).eval (.tmp s) = .agg (tl P nx).toArray)
    (h : ∀ W, Tb W w.heap.size P nx → Below w.heap.size w W → wpList Try.prog ops Q rest (a.put (some d) (.pointer (some ⟨w.heap.size, 0, .none⟩))) W) : wpList Try.prog ops Q (o1 :: o2 :: rest) a w := by
  refine Great.wpList_allocTo h1 _ h3 _ _ (alloc_state _ _ h2 w) ?_
  have T := tb_new w zS 0 36
  refine wpList_store_mid h4 36 (.tmp d) (.tmp s) h5 w.heap.size 0 (tl P nx).toArray hd hs (by have := T.th; rw [← tl_len P nx] at this; exact this) (by rw [List.size_toArray, tl_len]; kernel_rfl) (all_oneCell_toArray (tl_one P nx)) ?_
  rw [h6]
  exact h _ (T.setCells P nx) (below_setCells (below1 _ _) _ (Nat.le_refl _) _ _)
theorem wpList_boxed {ops : Array Oper} {rest : List Oper} {a : Act} {Q : Exit → Act → World → Prop} (d s : Tmp) (o1 : Oper) (h1 : o1.guard = none) (h2 : o1.op = .box 36 (.tmp s)) (h3 : o1.dst = some d)
    (hs : a.eval (.tmp s) = .agg (tl P nx).toArray)
    (h : ∀ W, Tb W w.heap.size P nx → Below w.heap.size w W → wpList Try.prog ops Q rest (a.put (some d) (.pointer (some ⟨w.heap.size, 0, .none⟩))) W) : wpList Try.prog ops Q (o1 :: rest) a w := by
  refine Great.wpList_boxTo h1 36 (.tmp s) h2 (some d) h3 w.heap.size rfl (tl P nx).toArray (by rw [hs]; rfl) ?_
  exact h _ (tb_new w P nx _) (below1 _ _)
theorem info_tab : (Try.prog.info? 36).map (·.size) = some 449 := by kernel_rfl
end
end Go.Proofs.Ytnlbomggadflmab
