import Derived.Test.YtjbealefopajcaaDoorGe
import Derived.OrdersHeld
namespace Go.Proofs.YtjbealefopajcaaDoor
open Go Go.RowKit
set_option linter.unusedVariables false
set_option linter.unusedSimpArgs false
section
variable {P : Program} {ops : Array Oper} {Q : Exit → Act → World → Prop} {md : Region.Mode} {S : World → Prop} {z : Nat}
/-- Whatever order is picked, and S behind every operation but number z. -/
def wpUpto (P : Program) (md : Region.Mode) (ops : Array Oper) (Q : Exit → Act → World → Prop) (S : World → Prop) (z : Nat) : Nat → Array Bool → Act → World → Prop
  | 0, listed, a, w => Region.ready md ops listed = [] ∧ Q .normal a w
  | n + 1, listed, a, w => (Region.ready md ops listed = [] → Q .normal a w) ∧ ∀ i ∈ Region.ready md ops listed, wpOp P ops Q i (fun a' w' => (i ≠ z → S w') ∧ wpUpto P md ops Q S z n (listed.setIfInBounds i true) a' w') a w
theorem wpUpto.any : ∀ (n : Nat) (listed : Array Bool) (a : Act) (w : World), wpUpto P md ops Q S z n listed a w → wpAny P md ops Q n listed a w
  | 0, _, _, _, h => h
  | n + 1, _, _, _, h => ⟨h.1, fun i hi => wpOp_mono (fun a' w' h' => wpUpto.any n _ a' w' h'.2) (h.2 i hi)⟩
/-- What waits for i can't come up while i has not. -/
theorem waits {i j : Nat} {listed : Array Bool} {oj : Oper} (hj : j ∈ Region.ready md ops listed) (hoj : ops[j]? = some oj) (hi : i ∈ Region.ready md ops listed) : ∀ e ∈ oj.after, Region.binds md e = true → e.on ≠ i := by
  intro e he hb heq
  obtain ⟨_, oj', hoj', hall⟩ := mem_ready.1 hj
  rw [hoj] at hoj'
  cases hoj'
  have h1 := hall e he hb
  have h0 := (mem_ready.1 hi).1
  rw [heq] at h1
  rcases Nat.lt_or_ge i listed.size with h' | h'
  · simp [h'] at h0 h1
    rw [h0] at h1
    cases h1
  · simp [Array.getElem?_eq_none h'] at h1
theorem upto_first {i : Nat} {oi oz : Oper} {v : Value} (hi : ops[i]? = some oi) (hz : ops[z]? = some oz) (hw : ∃ e ∈ oz.after, Region.binds md e = true ∧ e.on = i) (hsel : ∀ (j : Nat) (o : Oper) cs b, ops[j]? = some o → o.op ≠ .select cs b) (hQ : ∀ c a w, Q (.panic c) (a.put oi.dst v) w → Q (.panic c) a w) (n : Nat) :
    ∀ (listed : Array Bool) (a : Act) (w : World), (∀ j oj, ops[j]? = some oj → j ≠ i → listed.getD j true = false → (∀ e ∈ oj.after, Region.binds md e = true → e.on ≠ i) → oi.apart ops oj = true) → i ∈ Region.ready md ops listed → YieldsIf P ops S oi v a → S w →
      wpUpto P md ops Q S z n (listed.setIfInBounds i true) (a.put oi.dst v) w → wpUpto P md ops Q S z (n + 1) listed a w := by
  induction n with
  | zero =>
    intro listed a w _ hr hy hS H
    refine ⟨fun h => absurd hr (by rw [h]; simp), fun j hj => ?_⟩
    by_cases hji : j = i
    · rw [hji]
      exact hy.wpOp hi hS ⟨fun _ => hS, H⟩
    · exact absurd (ready_mono hj hji) (by rw [H.1]; simp)
  | succ n ih =>
    intro listed a w hfree hr hy hS H
    refine ⟨fun h => absurd hr (by rw [h]; simp), fun j hj => ?_⟩
    by_cases hji : j = i
    · rw [hji]
      exact hy.wpOp hi hS ⟨fun _ => hS, H⟩
    obtain ⟨hjun, oj, hoj, _⟩ := mem_ready.1 hj
    have hnot := waits hj hoj hr
    have hjz : j ≠ z := by
      rintro rfl
      obtain ⟨e, he, hb, hon⟩ := hw
      rw [hoj] at hz
      cases hz
      exact hnot e he hb hon
    refine wpOp_mono (fun a' w' h3 => ?_) (wpOp_putIf hoj (hfree j oj hoj hji hjun hnot) (fun cs b => hsel i oi cs b hi) (fun cs b => hsel j oj cs b hoj) hQ hy (H.2 j (ready_mono hj hji)))
    obtain ⟨y', s', h4⟩ := h3
    refine ⟨s', ih _ a' w' ?_ (ready_mono hr (Ne.symm hji)) y' (s' hjz) (by rw [Array.setIfInBounds_comm _ _ hji]; exact h4)⟩
    intro k ok hk hki hun hno
    refine hfree k ok hk hki ?_ hno
    by_cases hjk : j = k
    · rw [← hjk]; exact hjun
    · rw [getD_set_ne true hjk] at hun; exact hun
theorem upto_take {i : Nat} {oi oz : Oper} {v : Value} {n : Nat} {listed : Array Bool} {a : Act} {w : World} (hi : ops[i]? = some oi) (hz : ops[z]? = some oz) (hw : (oz.after.any fun e => Region.binds md e && e.on == i) = true)
    (hs : Region.noSelect ops = true) (hf : Region.free md ops listed i = true) (hr : (Region.ready md ops listed).contains i = true)
    (hQ : ∀ c a w, Q (.panic c) (a.put oi.dst v) w → Q (.panic c) a w) (hy : YieldsIf P ops S oi v a) (hS : S w)
    (h : wpUpto P md ops Q S z n (listed.setIfInBounds i true) (a.put oi.dst v) w) : wpUpto P md ops Q S z (n + 1) listed a w := by
  refine upto_first hi hz ?_ (Region.noSelect_spec hs) hQ n listed a w (Region.free_spec hi hf) (by simpa using hr) hy hS h
  rw [Array.any_eq_true'] at hw
  obtain ⟨e, he, hb⟩ := hw
  rw [Bool.and_eq_true, beq_iff_eq] at hb
  exact ⟨e, he, hb⟩
/-- One alone may come up. -/
theorem upto_only {i n : Nat} {oi : Oper} {listed : Array Bool} {a : Act} {w : World} (hr : Region.ready md ops listed = [i]) (hi : ops[i]? = some oi) (hwd : Region.wanted oi (yielded ops a.tmps) = true)
    (h : oi.wp P a w (fun a' w' => (i ≠ z → S w') ∧ wpUpto P md ops Q S z n (listed.setIfInBounds i true) a' w') Q) : wpUpto P md ops Q S z (n + 1) listed a w := by
  refine ⟨fun h0 => (by rw [hr] at h0; cases h0), fun j hj => ?_⟩
  rw [hr, List.mem_singleton] at hj
  subst hj
  unfold wpOp
  simp only [hi, hwd, if_true]
  exact .inl h
theorem upto_done {n : Nat} {listed : Array Bool} {a : Act} {w : World} (hr : Region.ready md ops listed = []) (h : Q .normal a w) : wpUpto P md ops Q S z n listed a w := by
  cases n with
  | zero => exact ⟨hr, h⟩
  | succ n => exact ⟨fun _ => h, by rw [hr]; simp⟩
theorem region_upto {id : Nat} {a : Act} {w : World} (S : World → Prop) (z : Nat) (hm : P.follows .mixedOrders = true) (h : wpUpto P .any ops Q S z ops.size (Array.replicate ops.size false) a w.drew) : (Code.region id ops true).wp P Q a w :=
  wp_region_any hm (wpUpto.any _ _ _ _ h)
end
theorem wp_sliceG {w : World} {o : Oper} {a : Act} {K : Act → World → Prop} {Q : Exit → Act → World → Prop} (t e : TypeId) (k b : Nat) (hinfo : ∃ i z, Tryd.prog.info? e = some i ∧ i.zero = some z ∧ i.size = k ∧ i.bytes = b ∧ z.cells.size = k) (hk : 0 < k) (hk2 : k ≤ 1000) (hu : Tryd.prog.underlying t = some (.slice e)) (cs : List Value) (hl : cs.length = k) (s : Tmp) (ho : o.op = .buildSlice t 1 #[(0, .tmp s)]) (hs : a.eval (.tmp s) = .agg cs.toArray)
    (h : K (a.put o.dst (.slice (some ⟨w.heap.size, 0, .none⟩) 1 1)) (w.alloc (.cells cs.toArray e))) : o.wp Tryd.prog a w K Q := by
  obtain ⟨i, z, hi, hz, hsz, hb, hzs⟩ := hinfo
  refine wp_buildSlice t e 1 _ ho cs.toArray i z hu hi hz (by omega) (by omega) ?_ h
  have e1 : (Array.map (fun (x : Nat × Operand) => (x.1, a.eval x.2)) #[(0, Operand.tmp s)]).toList = [(0, .agg cs.toArray)] := by simp [hs]
  rw [show ((#[(0, Operand.tmp s)] : Array (Nat × Operand)).map fun (i, x) => (i, a.eval x)).toList = [(0, .agg cs.toArray)] from e1, hsz]
  exact fill_one k cs _ hl (by simp)
theorem wp_appG {w : World} {o2 : Oper} {a : Act} {K : Act → World → Prop} {Q : Exit → Act → World → Prop} {base : Nat} {A B : List Row} {r : Row} (T E k b : Nat) (hinfo : ∃ i z, Tryd.prog.info? E = some i ∧ i.zero = some z ∧ i.size = k ∧ i.bytes = b ∧ z.cells.size = k) (hu : Tryd.prog.underlying T = some (.slice E)) (hk : 0 < k) (hb2 : b ≤ 10000) (O : Owns w base (A ++ r :: B)) (he : r.e = E) (hsz : r.sz = k) (hn : r.n ≤ 10000000) (hbase : base ≤ w.heap.size)
    (cs : List Value) (hl : cs.length = k) (h1c : ∀ u ∈ cs, u.oneCell' = true) (g : Nat) (hr : w.rangeAt g 0 cs) (m x : Operand) (p2 : o2.op = .call { callee := .builtin .append, args := #[m, x], argTypes := #[T, T] })
    (hm : a.eval m = r.v) (hx : a.eval x = .slice (some ⟨g, 0, .none⟩) 1 1)
    (h : ∀ v' w', Owns w' base (A ++ ⟨E, k, r.n + 1, v', r.xs ++ cs⟩ :: B) → Below base w w' → w.grownBy w' r.v.ownBlock → K (a.put o2.dst v') w') : o2.wp Tryd.prog a w K Q := by
  obtain ⟨i, z, hi, hz, hsz', hb, hzs⟩ := hinfo
  have ho := O.own r (by simp)
  rw [he, hsz] at ho
  obtain ⟨v', w', hrun, h2, h3, h4, h5⟩ := run_append_own_at (P := Tryd.prog) w base T o2.type E i z k b hu hi hz hsz' hb hzs hk r.v r.n r.xs ho ⟨g, 0, .none⟩ 1 1 cs (by rw [hl, Nat.one_mul]) (fun j u hj => by rw [Addr.add_mid]; exact hr j u hj) h1c (by unfold maxLen; omega) (by
    calc (r.n + 1) * b ≤ 10000001 * 10000 := Nat.mul_le_mul (by omega) hb2
      _ ≤ _ := by decide) hbase
  unfold Oper.wp execOp
  simp only [p2, resolve, invoke, builtin, Sem.run_bind, Sem.run_pure, Result.andThen_ok, List.map_toArray, List.map_cons, List.map_nil, hm, hx, hrun]
  refine h v' w' (O.appAt h2 h3 h5) ⟨h3.os, h3.tape, h3.output, h3.size, fun q hq => h3.block q (by omega) (fun e => ?_)⟩ h3
  have := (ho.lt q e.symm).1
  omega
theorem range_new (w : World) (cs : List Value) (e : TypeId) : (w.alloc (.cells cs.toArray e)).rangeAt w.heap.size 0 cs := range_heap (t := e) (fr := (0, 0)) (by
  show (w.heap.push _)[w.heap.size]? = _
  simp)
theorem perm2 (a b : Row) (A T : List Row) : (a :: b :: (A ++ T)).Perm (A ++ (b :: a :: T)) := by
  have h1 : ([b, a] ++ A ++ T).Perm (A ++ [b, a] ++ T) := List.perm_append_comm.append_right T
  exact (List.Perm.swap b a _).trans (by simpa using h1)
theorem perm1 (a : Row) (A T : List Row) : (a :: (A ++ T)).Perm (A ++ (a :: T)) := List.perm_middle.symm
theorem results_cell_any {P : Program} {fn : Func} {p : Tmp} {ty : TypeId} (h : fn.results = #[.cell p ty]) (tmps : Array Value) (w : World) (ad : Addr) (v : Value) (hp : tmps.getD p undef = .pointer (some ad)) (hl : (loadVar ty ad).run P w = .ok v w) : (results fn tmps).run P w = .ok v w := by
  have hp' : tmps[p]?.getD undef = .pointer (some ad) := by simpa using hp
  simp [results, h, hp', asAddr, hl]
/-- At this operation alone. -/
theorem wpList_is {P : Program} {ops : Array Oper} {Q : Exit → Act → World → Prop} {o : Oper} {rest : List Oper} {a : Act} {w : World} (op : Op) (h : o.op = op) (k : wpList P ops Q (o :: rest) a w) : wpList P ops Q (o :: rest) a w := k
end Go.Proofs.YtjbealefopajcaaDoor
