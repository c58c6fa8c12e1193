import Derived.Test.YtjbealefopajcaaDoorGc
import Derived.Great.Ranges
import Derived.Great.Walk
namespace Go.Proofs.YtjbealefopajcaaDoor
open Go Go.RowKit
set_option linter.unusedVariables false
set_option linter.unusedSimpArgs false
theorem setCell_heap (w : World) (b o : Nat) (v : Value) {arr : Array Value} {t : TypeId} {fr : Nat × Nat} (h : w.heap[b]? = some (.cells arr t fr)) : (w.setCell ⟨b, o, .none⟩ v).heap[b]? = some (.cells (arr.setIfInBounds o v) t fr) := by
  simp [World.setCell, Array.getElem?_modify, h]
theorem setCells_heap (b : Nat) (t : TypeId) (fr : Nat × Nat) : ∀ (vs : List Value) (o : Nat) (w : World) (arr : Array Value), w.heap[b]? = some (.cells arr t fr) → ∃ arr', (w.setCells b o vs).heap[b]? = some (.cells arr' t fr) ∧ arr'.size = arr.size
  | [], o, w, arr, h => ⟨arr, h, rfl⟩
  | v :: r, o, w, arr, h => by
    obtain ⟨arr', h1, h2⟩ := setCells_heap b t fr r (o + 1) _ _ (setCell_heap w b o v h)
    exact ⟨arr', h1, by simpa using h2⟩
theorem setCells_other (b : Nat) : ∀ (vs : List Value) (o : Nat) (w : World) (k : Nat), k ≠ b → (w.setCells b o vs).heap[k]? = w.heap[k]?
  | [], o, w, k, _ => rfl
  | v :: r, o, w, k, h => (setCells_other b r (o + 1) _ k h).trans (Below.heap_setCell w ⟨b, o, .none⟩ v k h)
theorem setCells_size (b : Nat) : ∀ (vs : List Value) (o : Nat) (w : World), (w.setCells b o vs).heap.size = w.heap.size ∧ (w.setCells b o vs).os = w.os ∧ (w.setCells b o vs).tape = w.tape ∧ (w.setCells b o vs).output = w.output
  | [], o, w => ⟨rfl, rfl, rfl, rfl⟩
  | v :: r, o, w => by
    obtain ⟨h1, h2, h3, h4⟩ := setCells_size b r (o + 1) (w.setCell ⟨b, o, .none⟩ v)
    exact ⟨h1.trans (by simp [World.setCell]), h2, h3, h4⟩
theorem cell_heap {w : World} {b o : Nat} {arr : Array Value} {t : TypeId} {fr : Nat × Nat} (h : w.heap[b]? = some (.cells arr t fr)) : w.cell? ⟨b, o, .none⟩ = arr[o]? := by simp [World.cell?, h]
theorem frozen_heap {w : World} {b o : Nat} {arr : Array Value} {t : TypeId} (h : w.heap[b]? = some (.cells arr t (0, 0))) : w.frozen? ⟨b, o, .none⟩ = false := by simp [World.frozen?, h]
theorem there_heap {w : World} {b n : Nat} {arr : Array Value} {t : TypeId} (h : w.heap[b]? = some (.cells arr t (0, 0))) (hn : arr.size = n) : w.there b 0 n := fun j hj => by
  rw [Nat.zero_add]
  refine ⟨?_, frozen_heap h⟩
  rw [cell_heap h, Array.getElem?_eq_getElem (by omega)]
  rfl
theorem range_heap {w : World} {b : Nat} {cs : List Value} {t : TypeId} {fr : Nat × Nat} (h : w.heap[b]? = some (.cells cs.toArray t fr)) : w.rangeAt b 0 cs := fun j v hj => by
  rw [Nat.zero_add, cell_heap h]
  simpa using hj
theorem whole_heap {w : World} {b : Nat} {cs : List Value} {t : TypeId} {arr : Array Value} (h : w.heap[b]? = some (.cells arr t (0, 0))) (hs : arr.size = cs.length) : (w.setCells b 0 cs).heap[b]? = some (.cells cs.toArray t (0, 0)) := by
  obtain ⟨arr', h1, h2⟩ := setCells_heap b t (0, 0) cs 0 w arr h
  have hr := World.rangeAt_setCells_same w b 0 cs (there_heap h hs)
  have e : arr' = cs.toArray := by
    apply Array.ext
    · simp [h2, hs]
    · intro i hi1 hi2
      have hi : i < cs.length := by simpa using hi2
      have := hr i cs[i] (List.getElem?_eq_getElem hi)
      rw [Nat.zero_add, cell_heap h1, Array.getElem?_eq_getElem hi1] at this
      simpa using this
  rw [h1, e]
/-- A new variable. -/
theorem run_allocG {t : TypeId} {k b : Nat} (hinfo : ∃ i z, Tryd.prog.info? t = some i ∧ i.zero = some z ∧ i.size = k ∧ i.bytes = b ∧ z.cells.size = k) : ∃ Z : Array Value, Z.size = k ∧ ∀ (ρ : Operand → Value) (o : Oper) (w : World), o.op = .alloc t → (execOp ρ o).run Tryd.prog w = .ok (.value (.pointer (some ⟨w.heap.size, 0, .none⟩))) (w.alloc (.cells Z t)) := by
  obtain ⟨i, z, hi, hz, hs, hb, hzs⟩ := hinfo
  refine ⟨z.cells, hzs, fun ρ o w ho => ?_⟩
  unfold execOp
  simp [ho, Instr.alloc, zeroValue, typeInfo, hi, hz, newVar, newRow]
section
variable {w : World} {ops : Array Oper} {rest : List Oper} {a : Act} {Q : Exit → Act → World → Prop}
/-- 'alloc t' and a store of the whole, in one step. -/
theorem wpList_laidG (t : TypeId) (k b : Nat) (hinfo : ∃ i z, Tryd.prog.info? t = some i ∧ i.zero = some z ∧ i.size = k ∧ i.bytes = b ∧ z.cells.size = k) (cs : List Value) (hl : cs.length = k) (h1c : ∀ v ∈ cs, v.oneCell' = true) (d : Tmp) (s : Operand) (o1 o2 : Oper) (h1 : o1.guard = none) (h2 : o1.op = .alloc t) (h3 : o1.dst = some d) (h4 : o2.guard = none) (h5 : o2.op = .store t (.tmp d) s) (h6 : o2.dst = none)
    (hd : (a.put (some d) (.pointer (some ⟨w.heap.size, 0, .none⟩))).eval (.tmp d) = .pointer (some ⟨w.heap.size, 0, .none⟩)) (hs : (a.put (some d) (.pointer (some ⟨w.heap.size, 0, .none⟩))).eval s = .agg cs.toArray)
    (h : ∀ W, W.heap[w.heap.size]? = some (.cells cs.toArray t (0, 0)) → Below w.heap.size w W → W.heap.size = w.heap.size + 1 → wpList Tryd.prog ops Q rest (a.put (some d) (.pointer (some ⟨w.heap.size, 0, .none⟩))) W) : wpList Tryd.prog ops Q (o1 :: o2 :: rest) a w := by
  obtain ⟨Z, hZ, hrun⟩ := run_allocG hinfo
  obtain ⟨i, z, hi, hz, hsz, hb, hzs⟩ := hinfo
  refine Great.wpList_allocTo h1 _ h3 _ _ (hrun _ _ w h2) ?_
  have hh : (w.alloc (.cells Z t)).heap[w.heap.size]? = some (.cells Z t (0, 0)) := by
    show (w.heap.push _)[w.heap.size]? = _
    simp
  refine wpList_store_mid h4 t (.tmp d) s h5 w.heap.size 0 cs.toArray hd hs (there_heap hh (by simp [hl, hZ])) (by rw [List.size_toArray, hl, hi, Option.map_some, hsz]) (all_oneCell_toArray h1c) ?_
  rw [h6]
  obtain ⟨s1, s2, s3, s4⟩ := setCells_size w.heap.size cs 0 (w.alloc (.cells Z t))
  refine h _ (whole_heap hh (by rw [hZ, hl])) ⟨s2, s3, s4, by rw [s1]; simp, fun k hk => (setCells_other _ _ _ _ _ (by omega)).trans (Below.heap_alloc _ _ _ hk)⟩ (by rw [s1]; simp)
/-- A box of a whole struct. -/
theorem wpList_boxG (t : TypeId) (cs : List Value) (d : Tmp) (s : Operand) (o1 : Oper) (h1 : o1.guard = none) (h2 : o1.op = .box t s) (h3 : o1.dst = some d) (hs : a.eval s = .agg cs.toArray)
    (h : ∀ W, W.heap[w.heap.size]? = some (.cells cs.toArray t (0, 0)) → Below w.heap.size w W → W.heap.size = w.heap.size + 1 → wpList Tryd.prog ops Q rest (a.put (some d) (.pointer (some ⟨w.heap.size, 0, .none⟩))) W) : wpList Tryd.prog ops Q (o1 :: rest) a w := by
  refine Great.wpList_boxTo h1 t s h2 (some d) h3 w.heap.size rfl cs.toArray (by rw [hs]; rfl) ?_
  refine h _ ?_ (below1 _ _) (by simp)
  show (w.heap.push _)[w.heap.size]? = _
  simp
theorem wpList_allocG (t : TypeId) (k b : Nat) (hinfo : ∃ i z, Tryd.prog.info? t = some i ∧ i.zero = some z ∧ i.size = k ∧ i.bytes = b ∧ z.cells.size = k) (d : Tmp) (o1 : Oper) (h1 : o1.guard = none) (h2 : o1.op = .alloc t) (h3 : o1.dst = some d)
    (h : ∀ W (zs : List Value), zs.length = k → W.heap[w.heap.size]? = some (.cells zs.toArray t (0, 0)) → Below w.heap.size w W → W.heap.size = w.heap.size + 1 → wpList Tryd.prog ops Q rest (a.put (some d) (.pointer (some ⟨w.heap.size, 0, .none⟩))) W) : wpList Tryd.prog ops Q (o1 :: rest) a w := by
  obtain ⟨Z, hZ, hrun⟩ := run_allocG hinfo
  refine Great.wpList_allocTo h1 _ h3 _ _ (hrun _ _ w h2) ?_
  refine h _ Z.toList (by simpa using hZ) ?_ (below1 _ _) (by simp)
  show (w.heap.push _)[w.heap.size]? = _
  simp
theorem wpList_storeG (t : TypeId) (k b g : Nat) (hinfo : ∃ i z, Tryd.prog.info? t = some i ∧ i.zero = some z ∧ i.size = k ∧ i.bytes = b ∧ z.cells.size = k) (cs zs : List Value) (hl : cs.length = k) (hzl : zs.length = k) (h1c : ∀ v ∈ cs, v.oneCell' = true) (x y : Operand) (o1 : Oper) (h4 : o1.guard = none) (h5 : o1.op = .store t x y) (h6 : o1.dst = none)
    (hx : a.eval x = .pointer (some ⟨g, 0, .none⟩)) (hy : a.eval y = .agg cs.toArray) (hg : w.heap[g]? = some (.cells zs.toArray t (0, 0)))
    (h : ∀ W, W.heap[g]? = some (.cells cs.toArray t (0, 0)) → w.grownBy W (some g) → W.heap.size = w.heap.size → wpList Tryd.prog ops Q rest a W) : wpList Tryd.prog ops Q (o1 :: rest) a w := by
  obtain ⟨i, z, hi, hz, hsz, hb, hzs⟩ := hinfo
  refine wpList_store_mid h4 t x y h5 g 0 cs.toArray hx hy (there_heap hg (by simp [hl, hzl])) (by rw [List.size_toArray, hl, hi, Option.map_some, hsz]) (all_oneCell_toArray h1c) ?_
  rw [h6]
  obtain ⟨s1, s2, s3, s4⟩ := setCells_size g cs 0 w
  exact h _ (whole_heap hg (by simp [hl, hzl])) ⟨s2, s3, s4, by rw [s1]; exact Nat.le_refl _, fun k _ hk => setCells_other _ _ _ _ _ (fun e => hk (by rw [e]))⟩ s1
end
/-- A slice literal of one struct. -/
theorem foldl_set : ∀ (l : List Value) (n : Nat) (arr : Array Value), n + l.length ≤ arr.size → ((l.zipIdx n).foldl (fun (cs : Array Value) (x : Value × Nat) => cs.setIfInBounds x.2 x.1) arr).toList = arr.toList.take n ++ l ++ arr.toList.drop (n + l.length)
  | [], n, arr, h => by simp
  | v :: l, n, arr, h => by
    rw [List.zipIdx_cons, List.foldl_cons, foldl_set l (n + 1) _ (by simp at h ⊢; omega)]
    simp only [Array.toList_setIfInBounds, List.length_cons] at h ⊢
    have hn : n < arr.toList.length := by simp; omega
    apply List.ext_getElem?
    intro i
    simp only [List.getElem?_append, List.length_append, List.length_take, List.length_set, List.getElem?_take, List.getElem?_drop, List.getElem?_set, List.length_cons, List.getElem?_cons]
    have hl : arr.toList.length = arr.size := by simp
    rw [hl]
    rw [Nat.min_eq_left (by omega), Nat.min_eq_left (by omega)]
    by_cases h1 : i < n
    · simp [h1, show i < n + 1 by omega, show i < n + (l.length + 1) by omega, show i < n + 1 + l.length by omega, show ¬ n = i by omega]
    · by_cases h2 : i = n
      · subst h2
        simp [show i < i + (l.length + 1) by omega, show i < i + 1 + l.length by omega, show i < arr.size by omega]
      · simp only [show ¬ i < n + 1 by omega, h1, if_false, show ¬ i - n = 0 by omega, show i - (n + 1) = i - n - 1 by omega, show (i < n + 1 + l.length) = (i < n + (l.length + 1)) by apply propext; omega, show n + 1 + l.length + (i - (n + 1 + l.length)) = n + (l.length + 1) + (i - (n + (l.length + 1))) by omega]
        have hne : ¬ n = n + (l.length + 1) + (i - (n + (l.length + 1))) := by omega
        simp only [hne, if_false]
theorem fill_one (k : Nat) (cs : List Value) (arr : Array Value) (hl : cs.length = k) (ha : arr.size = k) : Instr.fill (fun i => some (i * k, k)) arr [(0, .agg cs.toArray)] = some cs.toArray := by
  have hc : (Value.agg cs.toArray).cells = cs.toArray := rfl
  unfold Instr.fill
  simp only [hc, List.size_toArray, hl, Nat.zero_mul, Nat.zero_add, ha]
  simp only [ne_eq, not_true_eq_false, decide_false, Bool.false_or, gt_iff_lt, Nat.lt_irrefl, if_false]
  unfold Instr.fill
  rw [if_neg (by simp)]
  congr 1
  apply Array.toList_inj.1
  have := foldl_set cs 0 arr (by omega)
  simp only [Nat.zero_add, List.take_zero, List.nil_append] at this
  rw [List.drop_of_length_le (by simp; omega), List.append_nil] at this
  rw [← Array.foldl_toList]
  simpa using this
theorem wpList_sliceG {w : World} {ops : Array Oper} {rest : List Oper} {o : Oper} {a : Act} {Q : Exit → Act → World → Prop} (t e : TypeId) (k b : Nat) (hinfo : ∃ i z, Tryd.prog.info? e = some i ∧ i.zero = some z ∧ i.size = k ∧ i.bytes = b ∧ z.cells.size = k) (hk : 0 < k) (hk2 : k ≤ 1000) (hu : Tryd.prog.underlying t = some (.slice e)) (cs : List Value) (hl : cs.length = k) (s : Tmp) (hg : o.guard = none) (ho : o.op = .buildSlice t 1 #[(0, .tmp s)]) (d : Option Tmp) (hd : o.dst = d) (hs : a.eval (.tmp s) = .agg cs.toArray)
    (h : wpList Tryd.prog ops Q rest (a.put d (.slice (some ⟨w.heap.size, 0, .none⟩) 1 1)) (w.alloc (.cells cs.toArray e))) : wpList Tryd.prog ops Q (o :: rest) a w := by
  obtain ⟨i, z, hi, hz, hsz, hb, hzs⟩ := hinfo
  refine wpList_buildSlice hg t e 1 _ ho cs.toArray i z hu hi hz (by omega) (by omega) ?_ (by rw [hd]; exact h)
  have e1 : (Array.map (fun (x : Nat × Operand) => (x.1, a.eval x.2)) #[(0, Operand.tmp s)]).toList = [(0, .agg cs.toArray)] := by simp [hs]
  rw [show ((#[(0, Operand.tmp s)] : Array (Nat × Operand)).map fun (i, x) => (i, a.eval x)).toList = [(0, .agg cs.toArray)] from e1, hsz]
  exact fill_one k cs _ hl (by simp)
end Go.Proofs.YtjbealefopajcaaDoor
