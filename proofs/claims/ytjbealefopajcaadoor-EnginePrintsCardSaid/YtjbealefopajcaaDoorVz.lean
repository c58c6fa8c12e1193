import Derived.Test.YtjbealefopajcaaDoorVy
namespace Go.Proofs.YtjbealefopajcaaDoor
open Go Go.RowKit Rg
set_option linter.unusedVariables false
set_option linter.unusedSimpArgs false
/-! An append by its run; how long the pieces of a text are. -/
theorem wp_app {o : Oper} {a : Act} {w : World} {K : Act → World → Prop} {Q : Exit → Act → World → Prop} (s x : Operand) (t u : TypeId) (ho : o.op = .call { callee := .builtin .append, args := #[s, x], argTypes := #[t, u] })
    {v xv v' : Value} {w' : World} (hs : a.eval s = v) (hx : a.eval x = xv) (hr : (Builtin.append_ #[t, u] o.type #[v, xv]).run Tryd.prog w = .ok v' w') (h : K (a.put o.dst v') w') : Oper.wp Tryd.prog o a w K Q := by
  unfold Oper.wp execOp
  simp only [ho, resolve, invoke, builtin, Sem.run_bind, Sem.run_pure, Result.andThen_ok, List.map_toArray, List.map_cons, List.map_nil, hs, hx, hr]
  exact h
theorem wpList_app {ops : Array Oper} {rest : List Oper} {o : Oper} {a : Act} {w : World} {Q : Exit → Act → World → Prop} (hgd : o.guard = none) (s x : Operand) (t u : TypeId) (ho : o.op = .call { callee := .builtin .append, args := #[s, x], argTypes := #[t, u] })
    {v xv v' : Value} {w' : World} (hs : a.eval s = v) (hx : a.eval x = xv) (hr : (Builtin.append_ #[t, u] o.type #[v, xv]).run Tryd.prog w = .ok v' w') (h : wpList Tryd.prog ops Q rest (a.put o.dst v') w') : wpList Tryd.prog ops Q (o :: rest) a w :=
  wpList_plain hgd fun K hK => wp_app s x t u ho hs hx hr (hK _ _ h)
theorem qb_bd (x : Int) (h : 0 ≤ x ∧ x < 256) : ∀ y ∈ qb x, 0 ≤ y ∧ y < 256 := by
  have hd : ∀ k : Int, 0 ≤ k → k < 16 → 0 ≤ dgt k ∧ dgt k < 256 := fun k h0 h1 => by unfold dgt; split <;> omega
  have h1 := hd (x / 16) (by omega) (by omega)
  have h2 := hd (x % 16) (by omega) (by omega)
  intro y hy
  unfold qb at hy
  repeat' split at hy
  all_goals simp only [List.mem_cons, List.not_mem_nil, or_false, hexD, List.mem_append, List.cons_append, List.nil_append] at hy
  all_goals (rcases hy with rfl | rfl | rfl | rfl) <;> first | omega | (constructor <;> omega) | exact h1 | exact h2
theorem qt_bd {ds : List Int} (h : ∀ x ∈ ds, 0 ≤ x ∧ x < 256) : ∀ y ∈ qt ds, 0 ≤ y ∧ y < 256 := by
  intro y hy
  unfold qt at hy
  simp only [List.mem_append, List.mem_singleton, List.mem_flatMap] at hy
  rcases hy with (rfl | ⟨x, hx, hy⟩) | rfl
  · omega
  · exact qb_bd x (h x hx) y hy
  · omega
theorem qtS (s : ByteArray) : bsI (toB (qt (bsI s))) = qt (bsI s) := bsI_toB (qt_bd (bsI_bd s))
theorem flT_len (f : Fl) (h1 : i64b f.mj) (h2 : i64b f.mn) : (flT f).length ≤ 100 + 4 * fSz f := by
  have hq := qt_len (bsI f.path)
  have hb := blkP_len f.data f.data.length
  have ha := itI_len _ h1
  have hb2 := itI_len _ h2
  rw [bsI_len] at hq
  unfold flT fSz
  repeat' split
  all_goals simp only [List.length_append, List.length_cons, List.length_nil, bsI_len]
  · have : (⟨#[100, 105, 114, 32]⟩ : ByteArray).size = 4 := rfl
    omega
  · have : (⟨#[98, 121, 116, 101, 115, 32]⟩ : ByteArray).size = 6 := rfl
    omega
  · have : (⟨#[100, 101, 118, 32]⟩ : ByteArray).size = 4 := rfl
    omega
  · omega
theorem flats_len : ∀ (l : List Fl), (∀ f ∈ l, i64b f.mj ∧ i64b f.mn) → (l.flatMap flT).length ≤ 100 * l.length + 4 * sumN (l.map fSz)
  | [], _ => by simp [sumN]
  | f :: l, h => by
    have h1 := flats_len l (fun g hg => h g (by simp [hg]))
    have h2 := flT_len f (h f (by simp)).1 (h f (by simp)).2
    rw [List.flatMap_cons, List.length_append, List.map_cons, List.length_cons]
    simp only [sumN]
    omega
theorem take_fl {l : List Fl} {i : Nat} {x : Fl} (h : l[i]? = some x) : (l.take (i + 1)).flatMap flT = (l.take i).flatMap flT ++ flT x := by
  rw [List.take_add_one, h, List.flatMap_append]
  simp
end Go.Proofs.YtjbealefopajcaaDoor
