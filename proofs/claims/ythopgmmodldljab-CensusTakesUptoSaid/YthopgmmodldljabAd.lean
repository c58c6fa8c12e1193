import Derived.Test.YthopgmmodldljabAb
import Derived.Great.Ranges
import Derived.Great.Walk
namespace Go.Proofs.Ythopgmmodldljab
open Go Go.RowKit
set_option linter.unusedVariables false
set_option linter.unusedSimpArgs false
theorem info_of (t : TypeId) (k b : Nat) (h1 : (Try.prog.info? t).map (fun i => (i.size, i.bytes)) = some (k, b)) (h2 : ((Try.prog.info? t).bind (·.zero)).map (·.cells.size) = some k) :
  ∃ i z, Try.prog.info? t = some i ∧ i.zero = some z ∧ i.size = k ∧ i.bytes = b ∧ z.cells.size = k := by
 cases hq : Try.prog.info? t with
 | none => simp [hq] at h1
 | some i =>
  cases hz : i.zero with
  | none => simp [hq, hz] at h2
  | some z =>
   simp [hq] at h1
   simp [hq, hz] at h2
   exact ⟨i, z, rfl, hz, h1.1, h1.2, h2⟩
/-! Rows of one's own, in blocks of their own. -/
structure Row where
 e : Nat
 sz : Nat
 n : Nat
 v : Value
 xs : List Value
def blks (R : List Row) : List Nat := R.filterMap (·.v.ownBlock)
structure Owns (w : World) (base : Nat) (R : List Row) : Prop where
 own : ∀ r ∈ R, w.ownsRow base r.e r.sz r.v r.n r.xs
 nd : (blks R).Nodup
theorem own_mono {w : World} {b b' e k n : Nat} {v : Value} {xs : List Value} (h : w.ownsRow b e k v n xs) (hb : b' ≤ b) : w.ownsRow b' e k v n xs := by
 obtain ⟨h1, h2⟩ := h
 refine ⟨h1, h2.imp id ?_⟩
 rintro ⟨g, cap, cur, hv, hbg, r⟩
 exact ⟨g, cap, cur, hv, Nat.le_trans hb hbg, r⟩
theorem own_bel {w w' : World} {base e k n B : Nat} {v : Value} {xs : List Value} (h : w.ownsRow base e k v n xs) (hb : Below B w w') (hB : ∀ g, v.ownBlock = some g → g < B) : w'.ownsRow base e k v n xs := by
 obtain ⟨h1, h2⟩ := h
 refine ⟨h1, h2.imp id ?_⟩
 rintro ⟨g, cap, cur, rfl, hbg, hg, r⟩
 exact ⟨g, cap, cur, rfl, hbg, (hb.block g (hB g rfl)).trans hg, r⟩
theorem own_form {w : World} {base e n sz : Nat} {m : Value} {zs : List Value} (h : w.ownsRow base e sz m n zs) : ∃ p c, m = .slice p n c := by
 rcases h.2 with ⟨rfl, h0⟩ | ⟨g, cap, cur, rfl, _⟩
 ·exact ⟨none, 0, by rw [h0]⟩
 ·exact ⟨_, _, rfl⟩
theorem Owns.nil (w : World) (base : Nat) : Owns w base [] := ⟨fun r h => (nomatch h), List.nodup_nil⟩
theorem Owns.keep {w w' : World} {base : Nat} {R : List Row} (h : Owns w base R) (hb : Below w.heap.size w w') : Owns w' base R :=
 ⟨fun r hr => own_bel (h.own r hr) hb (fun g hg => ((h.own r hr).lt g hg).2), h.nd⟩
theorem Owns.lt {w : World} {base : Nat} {R : List Row} (h : Owns w base R) : ∀ g ∈ blks R, base ≤ g ∧ g < w.heap.size := by
 intro g hg
 obtain ⟨r, hr, hv⟩ := List.mem_filterMap.1 hg
 exact (h.own r hr).lt g hv
/-- One row more, made by a call. -/
theorem Owns.push {w w' : World} {base : Nat} {R : List Row} (h : Owns w base R) (hb : Below w.heap.size w w') {r : Row} (hr : w'.ownsRow w.heap.size r.e r.sz r.v r.n r.xs) (hB : base ≤ w.heap.size) : Owns w' base (r :: R) := by
 refine ⟨fun q hq => ?_, ?_⟩
 ·rcases List.mem_cons.1 hq with rfl | hq
  ·exact own_mono hr hB
  ·exact (h.keep hb).own q hq
 ·unfold blks
  rw [List.filterMap_cons]
  cases hv : r.v.ownBlock with
  | none => exact h.nd
  | some g =>
   refine List.nodup_cons.2 ⟨fun hm => ?_, h.nd⟩
   have h1 := (h.lt g hm).2
   have h2 := (hr.lt g hv).1
   omega
/-- An append to the first row. -/
theorem Owns.app {w w' : World} {base : Nat} {R : List Row} {r r' : Row} (h : Owns w base (r :: R)) (hr : w'.ownsRow base r'.e r'.sz r'.v r'.n r'.xs) (hg : w.grownBy w' r.v.ownBlock) (hv : r'.v.ownBlock = r.v.ownBlock ∨ r'.v.ownBlock = some w.heap.size) : Owns w' base (r' :: R) := by
 have hR : ∀ q ∈ R, q.v.ownBlock = none ∨ q.v.ownBlock ≠ r.v.ownBlock := by
  intro q hq
  cases hb : q.v.ownBlock with
  | none => exact .inl rfl
  | some g =>
   refine .inr fun e => ?_
   have hn := h.nd
   unfold blks at hn
   rw [List.filterMap_cons, ← e] at hn
   exact (List.nodup_cons.1 hn).1 (List.mem_filterMap.2 ⟨q, hq, hb⟩)
 have hnd : (blks R).Nodup := by
  have hn := h.nd
  unfold blks at hn ⊢
  rw [List.filterMap_cons] at hn
  split at hn
  ·exact hn
  ·exact (List.nodup_cons.1 hn).2
 refine ⟨fun q hq => ?_, ?_⟩
 ·rcases List.mem_cons.1 hq with rfl | hq
  ·exact hr
  ·exact (h.own q (by simp [hq])).kept hg (hR q hq)
 ·unfold blks
  rw [List.filterMap_cons]
  cases hb : r'.v.ownBlock with
  | none => exact hnd
  | some g =>
   refine List.nodup_cons.2 ⟨fun hm => ?_, hnd⟩
   obtain ⟨q, hq, hqg⟩ := List.mem_filterMap.1 hm
   rcases hv with e | e
   ·rcases hR q hq with e1 | e1
    ·rw [e1] at hqg; cases hqg
    ·exact e1 (by rw [hqg, ← e, hb])
   ·have h1 := ((h.own q (by simp [hq])).lt g hqg).2
    rw [hb] at e
    injection e with e
    omega
theorem Owns.perm {w : World} {base : Nat} {R R' : List Row} (h : Owns w base R) (hp : R.Perm R') : Owns w base R' :=
 ⟨fun r hr => h.own r (hp.mem_iff.2 hr), (hp.filterMap _).nodup_iff.1 h.nd⟩
theorem Owns.sub {w : World} {base : Nat} {R R' : List Row} (h : Owns w base R) (hp : R'.Sublist R) : Owns w base R' :=
 ⟨fun r hr => h.own r (hp.subset hr), (hp.filterMap _).nodup h.nd⟩
theorem words_info : ∃ i z, Try.prog.info? 22 = some i ∧ i.zero = some z ∧ i.size = 1 ∧ i.bytes = 8 ∧ z.cells.size = 1 := info_of 22 1 8 (by kernel_rfl) (by kernel_rfl)
set_option maxRecDepth 100000 in
set_option maxHeartbeats 1000000 in
theorem words_any {w : World} {X : Nat} {v : Value} {l : List Int} (h : Sl w X 1 (qI .u64) v l) (hX : X ≤ w.heap.size) (hn : l.length ≤ 1048576) : Calls Try.prog 6 #[v] w fun e w' => ∃ u, e = .returned u ∧ w'.ownsRow w.heap.size 22 1 u l.length (l.map (.int .u64)) ∧ Below w.heap.size w w' := by
 obtain ⟨p, c, rfl⟩ := h.form
 have HSL : Hid (Sl w X 1 (qI .u64) (.slice p l.length c) l) := h
 clear h
 obtain ⟨i3, z3, hi3, hz3, hs3, hb3, hzs3⟩ := words_info
 obtain ⟨n, hnl⟩ : ∃ n, n = l.length := ⟨_, rfl⟩
 rw [← hnl] at HSL hn ⊢
 have HNL : Hid (n = l.length) := hnl
 clear hnl
 go_enter Try.func6, Try.ntmps6
 go_wp2
 go_loopw [3, 4] (fun u v wr => ∃ (i : Nat), i ≤ n ∧ v = .int .i64 i ∧ Hid (wr.ownsRow w.heap.size 22 1 u i ((l.take i).map (.int .u64)) ∧ Below w.heap.size w wr)) (fun _ v _ => (n - intOf v).toNat)
 case atStart => exact ⟨0, by omega, rfl, by simpa using World.ownsRow_nil _ _ _ _, Below.refl _ _⟩
 case round =>
  obtain ⟨i, hi, rfl, HB⟩ := hrel
  by_cases hin : i < n
  ·have i1 : (i : Int) < n := by omega
   obtain ⟨-, b, o, x, cs, rfl, hbX, hx, hq, hcl, hr⟩ := HSL.out.at hin
   obtain rfl := hq
   have k0 := (HB.out.2.cell (p := ⟨b, o + i, .none⟩) (by show b < _; omega)).trans (by simpa using hr 0 _ rfl)
   have HE : Hid ((l.take (i + 1)).map (Value.int .u64) = (l.take i).map (Value.int .u64) ++ [.int .u64 x]) := by
    show _ = _
    rw [List.take_add_one, hx]
    simp
   clear hr hcl hbX hx
   have HRow : Hid (∀ o, (wr.alloc o).ownsRow w.heap.size 22 1 u3 i ((l.take i).map (.int .u64))) := fun o => World.ownsRow.alloc HB.out.1 o
   go_wp2_with (first | (at_builtin; refine wpList_append_own _ rfl _ _ 32 rfl w.heap.size 22 i3 z3 1 8 Try.underlying32 hi3 hz3 hs3 hb3 hzs3 (by decide) _ i ((l.take i).map (.int .u64)) rfl (HRow.out _) ⟨wr.heap.size, 0, .none⟩ 1 1 [.int .u64 x] rfl rfl (cell_one_new _ _ _) (by simp [Value.oneCell']) (by unfold maxLen; omega) (by omega) (by simp only [World.size_alloc]; exact Nat.le_succ_of_le HB.out.2.size) ?_; intro v' w5 hown5 hgrow _) | fail)
   have hBA : Below w.heap.size w (wr.alloc (.cells #[.int .u64 x] 22)) := HB.out.2.alloc HB.out.2.size _
   have hB5 : Below w.heap.size w w5 := hBA.grown hgrow hBA.size (fun k hk => ((HRow.out (.cells #[.int .u64 x] 22)).lt k hk).1)
   refine ⟨⟨i + 1, by omega, by go_num, ?_, hB5⟩, by simp [intOf]; omega⟩
   rw [HE.out]
   exact hown5
  ·have i1 : ¬ (i : Int) < n := by omega
   obtain rfl : i = n := by omega
   have HQ : Hid (wr.ownsRow w.heap.size 22 1 u3 i (l.map (.int .u64))) := by
    have := HB.out.1
    rw [HNL.out, List.take_length, ← HNL.out] at this
    exact this
   go_wp2
   go_ret
   exact ⟨_, rfl, HQ.out, HB.out.2⟩
theorem bytes_info : ∃ i z, Try.prog.info? 5 = some i ∧ i.zero = some z ∧ i.size = 1 ∧ i.bytes = 1 ∧ z.cells.size = 1 := info_of 5 1 1 (by kernel_rfl) (by kernel_rfl)
set_option maxRecDepth 100000 in
set_option maxHeartbeats 1000000 in
theorem bytes_any {w : World} {X : Nat} {v : Value} {l : List Int} (h : Sl w X 1 (qI .u8) v l) (hX : X ≤ w.heap.size) (hn : l.length ≤ 1048576) : Calls Try.prog 14 #[v] w fun e w' => ∃ u, e = .returned u ∧ w'.ownsRow w.heap.size 5 1 u l.length (l.map (.int .u8)) ∧ Below w.heap.size w w' := by
 obtain ⟨p, c, rfl⟩ := h.form
 have HSL : Hid (Sl w X 1 (qI .u8) (.slice p l.length c) l) := h
 clear h
 obtain ⟨i3, z3, hi3, hz3, hs3, hb3, hzs3⟩ := bytes_info
 obtain ⟨n, hnl⟩ : ∃ n, n = l.length := ⟨_, rfl⟩
 rw [← hnl] at HSL hn ⊢
 have HNL : Hid (n = l.length) := hnl
 clear hnl
 go_enter Try.func14, Try.ntmps14
 go_wp2
 go_loopw [3, 4] (fun u v wr => ∃ (i : Nat), i ≤ n ∧ v = .int .i64 i ∧ Hid (wr.ownsRow w.heap.size 5 1 u i ((l.take i).map (.int .u8)) ∧ Below w.heap.size w wr)) (fun _ v _ => (n - intOf v).toNat)
 case atStart => exact ⟨0, by omega, rfl, by simpa using World.ownsRow_nil _ _ _ _, Below.refl _ _⟩
 case round =>
  obtain ⟨i, hi, rfl, HB⟩ := hrel
  by_cases hin : i < n
  ·have i1 : (i : Int) < n := by omega
   obtain ⟨-, b, o, x, cs, rfl, hbX, hx, hq, hcl, hr⟩ := HSL.out.at hin
   obtain rfl := hq
   have k0 := (HB.out.2.cell (p := ⟨b, o + i, .none⟩) (by show b < _; omega)).trans (by simpa using hr 0 _ rfl)
   have HE : Hid ((l.take (i + 1)).map (Value.int .u8) = (l.take i).map (Value.int .u8) ++ [.int .u8 x]) := by
    show _ = _
    rw [List.take_add_one, hx]
    simp
   clear hr hcl hbX hx
   have HRow : Hid (∀ o, (wr.alloc o).ownsRow w.heap.size 5 1 u3 i ((l.take i).map (.int .u8))) := fun o => World.ownsRow.alloc HB.out.1 o
   go_wp2_with (first | (at_builtin; refine wpList_append_own _ rfl _ _ 27 rfl w.heap.size 5 i3 z3 1 1 Try.underlying27 hi3 hz3 hs3 hb3 hzs3 (by decide) _ i ((l.take i).map (.int .u8)) rfl (HRow.out _) ⟨wr.heap.size, 0, .none⟩ 1 1 [.int .u8 x] rfl rfl (cell_one_new _ _ _) (by simp [Value.oneCell']) (by unfold maxLen; omega) (by omega) (by simp only [World.size_alloc]; exact Nat.le_succ_of_le HB.out.2.size) ?_; intro v' w5 hown5 hgrow _) | fail)
   have hBA : Below w.heap.size w (wr.alloc (.cells #[.int .u8 x] 5)) := HB.out.2.alloc HB.out.2.size _
   have hB5 : Below w.heap.size w w5 := hBA.grown hgrow hBA.size (fun k hk => ((HRow.out (.cells #[.int .u8 x] 5)).lt k hk).1)
   refine ⟨⟨i + 1, by omega, by go_num, ?_, hB5⟩, by simp [intOf]; omega⟩
   rw [HE.out]
   exact hown5
  ·have i1 : ¬ (i : Int) < n := by omega
   obtain rfl : i = n := by omega
   have HQ : Hid (wr.ownsRow w.heap.size 5 1 u3 i (l.map (.int .u8))) := by
    have := HB.out.1
    rw [HNL.out, List.take_length, ← HNL.out] at this
    exact this
   go_wp2
   go_ret
   exact ⟨_, rfl, HQ.out, HB.out.2⟩
end Go.Proofs.Ythopgmmodldljab
namespace Go.Proofs.Ythopgmmodldljab
open Go Go.RowKit
set_option linter.unusedVariables false
set_option linter.unusedSimpArgs false
/-! Whole structs, opaque. -/
theorem setCell_heap (w : World) (b o : Nat) (v : Value) {arr : Array Value} {t : TypeId} {fr : Nat × Nat} (h : w.heap[b]? = some (.cells arr t fr)) : (w.setCell ⟨b, o, .none⟩ v).heap[b]? = some (.cells (arr.setIfInBounds o v) t fr) := by
 simp [World.setCell, Array.getElem?_modify, h]
theorem setCells_heap (b : Nat) (t : TypeId) (fr : Nat × Nat) : ∀ (vs : List Value) (o : Nat) (w : World) (arr : Array Value), w.heap[b]? = some (.cells arr t fr) → ∃ arr', (w.setCells b o vs).heap[b]? = some (.cells arr' t fr) ∧ arr'.size = arr.size
 | [], o, w, arr, h => ⟨arr, h, rfl⟩
 | v :: r, o, w, arr, h => by
  obtain ⟨arr', h1, h2⟩ := setCells_heap b t fr r (o + 1) _ _ (setCell_heap w b o v h)
  exact ⟨arr', h1, by simpa using h2⟩
theorem setCells_other (b : Nat) : ∀ (vs : List Value) (o : Nat) (w : World) (k : Nat), k ≠ b → (w.setCells b o vs).heap[k]? = w.heap[k]?
 | [], o, w, k, _ => rfl
 | v :: r, o, w, k, h => (setCells_other b r (o + 1) _ k h).trans (Below.heap_setCell w ⟨b, o, .none⟩ v k h)
theorem setCells_size (b : Nat) : ∀ (vs : List Value) (o : Nat) (w : World), (w.setCells b o vs).heap.size = w.heap.size ∧ (w.setCells b o vs).os = w.os ∧ (w.setCells b o vs).tape = w.tape ∧ (w.setCells b o vs).output = w.output
 | [], o, w => ⟨rfl, rfl, rfl, rfl⟩
 | v :: r, o, w => by
  obtain ⟨h1, h2, h3, h4⟩ := setCells_size b r (o + 1) (w.setCell ⟨b, o, .none⟩ v)
  exact ⟨h1.trans (by simp [World.setCell]), h2, h3, h4⟩
theorem cell_heap {w : World} {b o : Nat} {arr : Array Value} {t : TypeId} {fr : Nat × Nat} (h : w.heap[b]? = some (.cells arr t fr)) : w.cell? ⟨b, o, .none⟩ = arr[o]? := by simp [World.cell?, h]
theorem frozen_heap {w : World} {b o : Nat} {arr : Array Value} {t : TypeId} (h : w.heap[b]? = some (.cells arr t (0, 0))) : w.frozen? ⟨b, o, .none⟩ = false := by simp [World.frozen?, h]
theorem there_heap {w : World} {b n : Nat} {arr : Array Value} {t : TypeId} (h : w.heap[b]? = some (.cells arr t (0, 0))) (hn : arr.size = n) : w.there b 0 n := fun j hj => by
 rw [Nat.zero_add]
 refine ⟨?_, frozen_heap h⟩
 rw [cell_heap h, Array.getElem?_eq_getElem (by omega)]
 rfl
theorem range_heap {w : World} {b : Nat} {cs : List Value} {t : TypeId} {fr : Nat × Nat} (h : w.heap[b]? = some (.cells cs.toArray t fr)) : w.rangeAt b 0 cs := fun j v hj => by
 rw [Nat.zero_add, cell_heap h]
 simpa using hj
theorem whole_heap {w : World} {b : Nat} {cs : List Value} {t : TypeId} {arr : Array Value} (h : w.heap[b]? = some (.cells arr t (0, 0))) (hs : arr.size = cs.length) : (w.setCells b 0 cs).heap[b]? = some (.cells cs.toArray t (0, 0)) := by
 obtain ⟨arr', h1, h2⟩ := setCells_heap b t (0, 0) cs 0 w arr h
 have hr := World.rangeAt_setCells_same w b 0 cs (there_heap h hs)
 have e : arr' = cs.toArray := by
  apply Array.ext
  ·simp [h2, hs]
  ·intro i hi1 hi2
   have hi : i < cs.length := by simpa using hi2
   have := hr i cs[i] (List.getElem?_eq_getElem hi)
   rw [Nat.zero_add, cell_heap h1, Array.getElem?_eq_getElem hi1] at this
   simpa using this
 rw [h1, e]
/-- A new variable. -/
theorem run_allocG {t : TypeId} {k b : Nat} (hinfo : ∃ i z, Try.prog.info? t = some i ∧ i.zero = some z ∧ i.size = k ∧ i.bytes = b ∧ z.cells.size = k) : ∃ Z : Array Value, Z.size = k ∧ ∀ (ρ : Operand → Value) (o : Oper) (w : World), o.op = .alloc t → (execOp ρ o).run Try.prog w = .ok (.value (.pointer (some ⟨w.heap.size, 0, .none⟩))) (w.alloc (.cells Z t)) := by
 obtain ⟨i, z, hi, hz, hs, hb, hzs⟩ := hinfo
 refine ⟨z.cells, hzs, fun ρ o w ho => ?_⟩
 unfold execOp
 simp [ho, Instr.alloc, zeroValue, typeInfo, hi, hz, newVar, newRow]
section
variable {w : World} {ops : Array Oper} {rest : List Oper} {a : Act} {Q : Exit → Act → World → Prop}
/-- 'alloc t' and a store of the whole, in one step. -/
theorem wpList_laidG (t : TypeId) (k b : Nat) (hinfo : ∃ i z, Try.prog.info? t = some i ∧ i.zero = some z ∧ i.size = k ∧ i.bytes = b ∧ z.cells.size = k) (cs : List Value) (hl : cs.length = k) (h1c : ∀ v ∈ cs, v.oneCell' = true) (d : Tmp) (s : Operand) (o1 o2 : Oper) (h1 : o1.guard = none) (h2 : o1.op = .alloc t) (h3 : o1.dst = some d) (h4 : o2.guard = none) (h5 : o2.op = .store t (.tmp d) s) (h6 : o2.dst = none)
  (hd : (a.put (some d) (.pointer (some ⟨w.heap.size, 0, .none⟩))).eval (.tmp d) = .pointer (some ⟨w.heap.size, 0, .none⟩)) (hs : (a.put (some d) (.pointer (some ⟨w.heap.size, 0, .none⟩))).eval s = .agg cs.toArray)
  (h : ∀ W, W.heap[w.heap.size]? = some (.cells cs.toArray t (0, 0)) → Below w.heap.size w W → W.heap.size = w.heap.size + 1 → wpList Try.prog ops Q rest (a.put (some d) (.pointer (some ⟨w.heap.size, 0, .none⟩))) W) : wpList Try.prog ops Q (o1 :: o2 :: rest) a w := by
 obtain ⟨Z, hZ, hrun⟩ := run_allocG hinfo
 obtain ⟨i, z, hi, hz, hsz, hb, hzs⟩ := hinfo
 refine Great.wpList_allocTo h1 _ h3 _ _ (hrun _ _ w h2) ?_
 have hh : (w.alloc (.cells Z t)).heap[w.heap.size]? = some (.cells Z t (0, 0)) := by
  show (w.heap.push _)[w.heap.size]? = _
  simp
 refine wpList_store_mid h4 t (.tmp d) s h5 w.heap.size 0 cs.toArray hd hs (there_heap hh (by simp [hl, hZ])) (by rw [List.size_toArray, hl, hi, Option.map_some, hsz]) (all_oneCell_toArray h1c) ?_
 rw [h6]
 obtain ⟨s1, s2, s3, s4⟩ := setCells_size w.heap.size cs 0 (w.alloc (.cells Z t))
 refine h _ (whole_heap hh (by rw [hZ, hl])) ⟨s2, s3, s4, by rw [s1]; simp, fun k hk => (setCells_other _ _ _ _ _ (by omega)).trans (Below.heap_alloc _ _ _ hk)⟩ (by rw [s1]; simp)
/-- A box of a whole struct. -/
theorem wpList_boxG (t : TypeId) (cs : List Value) (d : Tmp) (s : Operand) (o1 : Oper) (h1 : o1.guard = none) (h2 : o1.op = .box t s) (h3 : o1.dst = some d) (hs : a.eval s = .agg cs.toArray)
  (h : ∀ W, W.heap[w.heap.size]? = some (.cells cs.toArray t (0, 0)) → Below w.heap.size w W → W.heap.size = w.heap.size + 1 → wpList Try.prog ops Q rest (a.put (some d) (.pointer (some ⟨w.heap.size, 0, .none⟩))) W) : wpList Try.prog ops Q (o1 :: rest) a w := by
 refine Great.wpList_boxTo h1 t s h2 (some d) h3 w.heap.size rfl cs.toArray (by rw [hs]; rfl) ?_
 refine h _ ?_ (below1 _ _) (by simp)
 show (w.heap.push _)[w.heap.size]? = _
 simp
theorem wpList_allocG (t : TypeId) (k b : Nat) (hinfo : ∃ i z, Try.prog.info? t = some i ∧ i.zero = some z ∧ i.size = k ∧ i.bytes = b ∧ z.cells.size = k) (d : Tmp) (o1 : Oper) (h1 : o1.guard = none) (h2 : o1.op = .alloc t) (h3 : o1.dst = some d)
  (h : ∀ W (zs : List Value), zs.length = k → W.heap[w.heap.size]? = some (.cells zs.toArray t (0, 0)) → Below w.heap.size w W → W.heap.size = w.heap.size + 1 → wpList Try.prog ops Q rest (a.put (some d) (.pointer (some ⟨w.heap.size, 0, .none⟩))) W) : wpList Try.prog ops Q (o1 :: rest) a w := by
 obtain ⟨Z, hZ, hrun⟩ := run_allocG hinfo
 refine Great.wpList_allocTo h1 _ h3 _ _ (hrun _ _ w h2) ?_
 refine h _ Z.toList (by simpa using hZ) ?_ (below1 _ _) (by simp)
 show (w.heap.push _)[w.heap.size]? = _
 simp
theorem wpList_storeG (t : TypeId) (k b g : Nat) (hinfo : ∃ i z, Try.prog.info? t = some i ∧ i.zero = some z ∧ i.size = k ∧ i.bytes = b ∧ z.cells.size = k) (cs zs : List Value) (hl : cs.length = k) (hzl : zs.length = k) (h1c : ∀ v ∈ cs, v.oneCell' = true) (x y : Operand) (o1 : Oper) (h4 : o1.guard = none) (h5 : o1.op = .store t x y) (h6 : o1.dst = none)
  (hx : a.eval x = .pointer (some ⟨g, 0, .none⟩)) (hy : a.eval y = .agg cs.toArray) (hg : w.heap[g]? = some (.cells zs.toArray t (0, 0)))
  (h : ∀ W, W.heap[g]? = some (.cells cs.toArray t (0, 0)) → w.grownBy W (some g) → W.heap.size = w.heap.size → wpList Try.prog ops Q rest a W) : wpList Try.prog ops Q (o1 :: rest) a w := by
 obtain ⟨i, z, hi, hz, hsz, hb, hzs⟩ := hinfo
 refine wpList_store_mid h4 t x y h5 g 0 cs.toArray hx hy (there_heap hg (by simp [hl, hzl])) (by rw [List.size_toArray, hl, hi, Option.map_some, hsz]) (all_oneCell_toArray h1c) ?_
 rw [h6]
 obtain ⟨s1, s2, s3, s4⟩ := setCells_size g cs 0 w
 exact h _ (whole_heap hg (by simp [hl, hzl])) ⟨s2, s3, s4, by rw [s1]; exact Nat.le_refl _, fun k _ hk => setCells_other _ _ _ _ _ (fun e => hk (by rw [e]))⟩ s1
end
/-- A slice literal of one struct. -/
theorem foldl_set : ∀ (l : List Value) (n : Nat) (arr : Array Value), n + l.length ≤ arr.size → ((l.zipIdx n).foldl (fun (cs : Array Value) (x : Value × Nat) => cs.setIfInBounds x.2 x.1) arr).toList = arr.toList.take n ++ l ++ arr.toList.drop (n + l.length)
 | [], n, arr, h => by simp
 | v :: l, n, arr, h => by
  rw [List.zipIdx_cons, List.foldl_cons, foldl_set l (n + 1) _ (by simp at h ⊢; omega)]
  simp only [Array.toList_setIfInBounds, List.length_cons] at h ⊢
  have hn : n < arr.toList.length := by simp; omega
  apply List.ext_getElem?
  intro i
  simp only [List.getElem?_append, List.length_append, List.length_take, List.length_set, List.getElem?_take, List.getElem?_drop, List.getElem?_set, List.length_cons, List.getElem?_cons]
  have hl : arr.toList.length = arr.size := by simp
  rw [hl]
  rw [Nat.min_eq_left (by omega), Nat.min_eq_left (by omega)]
  by_cases h1 : i < n
  ·simp [h1, show i < n + 1 by omega, show i < n + (l.length + 1) by omega, show i < n + 1 + l.length by omega, show ¬ n = i by omega]
  ·by_cases h2 : i = n
   ·subst h2
    simp [show i < i + (l.length + 1) by omega, show i < i + 1 + l.length by omega, show i < arr.size by omega]
   ·simp only [show ¬ i < n + 1 by omega, h1, if_false, show ¬ i - n = 0 by omega, show i - (n + 1) = i - n - 1 by omega, show (i < n + 1 + l.length) = (i < n + (l.length + 1)) by apply propext; omega, show n + 1 + l.length + (i - (n + 1 + l.length)) = n + (l.length + 1) + (i - (n + (l.length + 1))) by omega]
    have hne : ¬ n = n + (l.length + 1) + (i - (n + (l.length + 1))) := by omega
    simp only [hne, if_false]
theorem fill_one (k : Nat) (cs : List Value) (arr : Array Value) (hl : cs.length = k) (ha : arr.size = k) : Instr.fill (fun i => some (i * k, k)) arr [(0, .agg cs.toArray)] = some cs.toArray := by
 have hc : (Value.agg cs.toArray).cells = cs.toArray := rfl
 unfold Instr.fill
 simp only [hc, List.size_toArray, hl, Nat.zero_mul, Nat.zero_add, ha]
 simp only [ne_eq, not_true_eq_false, decide_false, Bool.false_or, gt_iff_lt, Nat.lt_irrefl, if_false]
 unfold Instr.fill
 rw [if_neg (by simp)]
 congr 1
 apply Array.toList_inj.1
 have := foldl_set cs 0 arr (by omega)
 simp only [Nat.zero_add, List.take_zero, List.nil_append] at this
 rw [List.drop_of_length_le (by simp; omega), List.append_nil] at this
 rw [← Array.foldl_toList]
 simpa using this
theorem wpList_sliceG {w : World} {ops : Array Oper} {rest : List Oper} {o : Oper} {a : Act} {Q : Exit → Act → World → Prop} (t e : TypeId) (k b : Nat) (hinfo : ∃ i z, Try.prog.info? e = some i ∧ i.zero = some z ∧ i.size = k ∧ i.bytes = b ∧ z.cells.size = k) (hk : 0 < k) (hk2 : k ≤ 1000) (hu : Try.prog.underlying t = some (.slice e)) (cs : List Value) (hl : cs.length = k) (s : Tmp) (hg : o.guard = none) (ho : o.op = .buildSlice t 1 #[(0, .tmp s)]) (d : Option Tmp) (hd : o.dst = d) (hs : a.eval (.tmp s) = .agg cs.toArray)
  (h : wpList Try.prog ops Q rest (a.put d (.slice (some ⟨w.heap.size, 0, .none⟩) 1 1)) (w.alloc (.cells cs.toArray e))) : wpList Try.prog ops Q (o :: rest) a w := by
 obtain ⟨i, z, hi, hz, hsz, hb, hzs⟩ := hinfo
 refine wpList_buildSlice hg t e 1 _ ho cs.toArray i z hu hi hz (by omega) (by omega) ?_ (by rw [hd]; exact h)
 have e1 : (Array.map (fun (x : Nat × Operand) => (x.1, a.eval x.2)) #[(0, Operand.tmp s)]).toList = [(0, .agg cs.toArray)] := by simp [hs]
 rw [show ((#[(0, Operand.tmp s)] : Array (Nat × Operand)).map fun (i, x) => (i, a.eval x)).toList = [(0, .agg cs.toArray)] from e1, hsz]
 exact fill_one k cs _ hl (by simp)
end Go.Proofs.Ythopgmmodldljab
