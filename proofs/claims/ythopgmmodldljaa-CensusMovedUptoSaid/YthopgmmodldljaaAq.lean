import Derived.Test.YthopgmmodldljaaAe
import Derived.Test.YthopgmmodldljaaAo
namespace Go.Proofs.Ythopgmmodldljaa
open Go Go.RowKit
set_option linter.unusedVariables false
set_option linter.unusedSimpArgs false
theorem wp_sliceG {w : World} {o : Oper} {a : Act} {K : Act → World → Prop} {Q : Exit → Act → World → Prop} (t e : TypeId) (k b : Nat) (hinfo : ∃ i z, Try.prog.info? e = some i ∧ i.zero = some z ∧ i.size = k ∧ i.bytes = b ∧ z.cells.size = k) (hk : 0 < k) (hk2 : k ≤ 1000) (hu : Try.prog.underlying t = some (.slice e)) (cs : List Value) (hl : cs.length = k) (s : Tmp) (ho : o.op = .buildSlice t 1 #[(0, .tmp s)]) (hs : a.eval (.tmp s) = .agg cs.toArray)
    (h : K (a.put o.dst (.slice (some ⟨w.heap.size, 0, .none⟩) 1 1)) (w.alloc (.cells cs.toArray e))) : o.wp Try.prog a w K Q := by
  obtain ⟨i, z, hi, hz, hsz, hb, hzs⟩ := hinfo
  refine wp_buildSlice t e 1 _ ho cs.toArray i z hu hi hz (by omega) (by omega) ?_ h
  have e1 : (Array.map (fun (x : Nat × Operand) => (x.1, a.eval x.2)) #[(0, Operand.tmp s)]).toList = [(0, .agg cs.toArray)] := by simp [hs]
  rw [show ((#[(0, Operand.tmp s)] : Array (Nat × Operand)).map fun (i, x) => (i, a.eval x)).toList = [(0, .agg cs.toArray)] from e1, hsz]
  exact fill_one k cs _ hl (by simp)
theorem wp_appG {w : World} {o2 : Oper} {a : Act} {K : Act → World → Prop} {Q : Exit → Act → World → Prop} {base : Nat} {A B : List Row} {r : Row} (T E k b : Nat) (hinfo : ∃ i z, Try.prog.info? E = some i ∧ i.zero = some z ∧ i.size = k ∧ i.bytes = b ∧ z.cells.size = k) (hu : Try.prog.underlying T = some (.slice E)) (hk : 0 < k) (hb2 : b ≤ 10000) (O : Owns w base (A ++ r :: B)) (he : r.e = E) (hsz : r.sz = k) (hn : r.n ≤ 10000000) (hbase : base ≤ w.heap.size)
    (cs : List Value) (hl : cs.length = k) (h1c : ∀ u ∈ cs, u.oneCell' = true) (g : Nat) (hr : w.rangeAt g 0 cs) (m x : Operand) (p2 : o2.op = .call { callee := .builtin .append, args := #[m, x], argTypes := #[T, T] })
    (hm : a.eval m = r.v) (hx : a.eval x = .slice (some ⟨g, 0, .none⟩) 1 1)
    (h : ∀ v' w', Owns w' base (A ++ ⟨E, k, r.n + 1, v', r.xs ++ cs⟩ :: B) → Below base w w' → w.grownBy w' r.v.ownBlock → K (a.put o2.dst v') w') : o2.wp Try.prog a w K Q := by
  obtain ⟨i, z, hi, hz, hsz', hb, hzs⟩ := hinfo
  have ho := O.own r (by simp)
  rw [he, hsz] at ho
  obtain ⟨v', w', hrun, h2, h3, h4, h5⟩ := run_append_own_at (P := Try.prog) w base T o2.type E i z k b hu hi hz hsz' hb hzs hk r.v r.n r.xs ho ⟨g, 0, .none⟩ 1 1 cs (by rw [hl, Nat.one_mul]) (fun j u hj => by rw [Addr.add_mid]; exact hr j u hj) h1c (by unfold maxLen; omega) (by
    calc (r.n + 1) * b ≤ 10000001 * 10000 := Nat.mul_le_mul (by omega) hb2
      _ ≤ _ := by decide) hbase
  unfold Oper.wp execOp
  simp only [p2, resolve, invoke, builtin, Sem.run_bind, Sem.run_pure, Result.andThen_ok, List.map_toArray, List.map_cons, List.map_nil, hm, hx, hrun]
  refine h v' w' (O.appAt h2 h3 h5) ⟨h3.os, h3.tape, h3.output, h3.size, fun q hq => h3.block q (by omega) (fun e => ?_)⟩ h3
  have := (ho.lt q e.symm).1
  omega
theorem range_new (w : World) (cs : List Value) (e : TypeId) : (w.alloc (.cells cs.toArray e)).rangeAt w.heap.size 0 cs := range_heap (t := e) (fr := (0, 0)) (by
  show (w.heap.push _)[w.heap.size]? = _
  simp)
theorem perm2 (a b : Row) (A T : List Row) : (a :: b :: (A ++ T)).Perm (A ++ (b :: a :: T)) := by
  have h1 : ([b, a] ++ A ++ T).Perm (A ++ [b, a] ++ T) := List.perm_append_comm.append_right T
  exact (List.Perm.swap b a _).trans (by simpa using h1)
theorem perm1 (a : Row) (A T : List Row) : (a :: (A ++ T)).Perm (A ++ (a :: T)) := List.perm_middle.symm
theorem results_cell_any {P : Program} {fn : Func} {p : Tmp} {ty : TypeId} (h : fn.results = #[.cell p ty]) (tmps : Array Value) (w : World) (ad : Addr) (v : Value) (hp : tmps.getD p undef = .pointer (some ad)) (hl : (loadVar ty ad).run P w = .ok v w) : (results fn tmps).run P w = .ok v w := by
  have hp' : tmps[p]?.getD undef = .pointer (some ad) := by simpa using hp
  simp [results, h, hp', asAddr, hl]
theorem inl_one (x : In) {bv : Value} (h : bv.oneCell' = true) : ∀ v ∈ x.l bv, v.oneCell' = true := by
  intro v hv
  simp only [In.l, List.mem_cons, List.not_mem_nil, or_false] at hv
  rcases hv with rfl | rfl | rfl | rfl | rfl | rfl | rfl | rfl <;> first | rfl | exact h
theorem ppl_one (x : Pp) {bv : Value} (h : bv.oneCell' = true) : ∀ v ∈ x.l bv, v.oneCell' = true := by
  intro v hv
  simp only [Pp.l, List.mem_cons, List.not_mem_nil, or_false] at hv
  rcases hv with rfl | rfl | rfl | rfl | rfl | rfl <;> first | rfl | exact h
/-- At this operation alone. -/
theorem wpList_is {P : Program} {ops : Array Oper} {Q : Exit → Act → World → Prop} {o : Oper} {rest : List Oper} {a : Act} {w : World} (op : Op) (h : o.op = op) (k : wpList P ops Q (o :: rest) a w) : wpList P ops Q (o :: rest) a w := k
end Go.Proofs.Ythopgmmodldljaa
