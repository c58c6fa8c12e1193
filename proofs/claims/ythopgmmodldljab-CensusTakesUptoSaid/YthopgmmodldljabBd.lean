import Derived.Test.YthopgmmodldljabBc
import Derived.Maps.RangeWalk
import Derived.Carry
namespace Go.Proofs.Ythopgmmodldljab
open Go Go.RowKit
set_option linter.unusedVariables false
set_option linter.unusedSimpArgs false
/-! Who names an address first, and how many do. -/
abbrev Ow := Int × Int × Int
def owL (o : Ow) : List Value := [.int .i64 o.1, .int .i64 o.2.1, .int .i64 o.2.2]
def owD (o : Ow) : DataW Unit := .agg [.lit (.int .i64 o.1), .lit (.int .i64 o.2.1), .lit (.int .i64 o.2.2)]
def R59 (v : Value) : Option (DataW Unit × List MemPlace) :=
 match v with
 | .agg cs => match cs.toList with
  | [.int .i64 a, .int .i64 b, .int .i64 c] => some (owD (a, b, c), [])
  | _ => none
 | _ => none
theorem R59_mk (o : Ow) : R59 (.agg (owL o).toArray) = some (owD o, []) := rfl
theorem R59_inv {v : Value} {y : DataW Unit × List MemPlace} (h : R59 v = some y) : ∃ o : Ow, v = .agg (owL o).toArray ∧ y = (owD o, []) := by
 unfold R59 at h
 split at h
 ·rename_i cs
  split at h
  ·rename_i a b c heq
   injection h with h
   refine ⟨(a, b, c), ?_, h.symm⟩
   rw [← Array.toArray_toList (xs := cs), heq]
   rfl
  ·cases h
 ·cases h
theorem owD_inj {o o' : Ow} (h : owD o = owD o') : o = o' := by
 simp only [owD, DataW.agg.injEq, List.cons.injEq, DataW.lit.injEq, Lit.int.injEq, true_and, and_true] at h
 obtain ⟨a, b, c⟩ := h
 exact Prod.ext a (Prod.ext b c)
def owF (l : List Nm) (a : Int) : Option Ow :=
 match l.find? (fun x => x.1 == a) with
  | none => none
  | some x => some (x.2.1, x.2.2, ((l.filter fun y => y.1 == a).length : Int))
def owStep (o : Option Ow) (x : Nm) : Ow := match o with | none => (x.2.1, x.2.2, 1) | some o => (o.1, o.2.1, o.2.2 + 1)
theorem owF_app (l : List Nm) (x : Nm) (a : Int) : owF (l ++ [x]) a = if x.1 = a then some (owStep (owF l a) x) else owF l a := by
 unfold owF
 rw [List.find?_append]
 by_cases h : x.1 = a
 ·rw [if_pos h]
  cases hf : l.find? (fun x => x.1 == a) with
  | none =>
   have h0 : l.filter (fun y => y.1 == a) = [] := by
    rw [List.filter_eq_nil_iff]
    exact fun y hy => by simpa using List.find?_eq_none.1 hf y hy
   simp [List.find?_cons, h, owStep, List.filter_append, h0]
  | some y => simp [owStep, List.filter_append, h]
 ·rw [if_neg h]
  have e1 : (x.1 == a) = false := by simpa using h
  cases hf : l.find? (fun x => x.1 == a) with
  | none => simp [List.find?_cons, e1]
  | some y => simp [List.filter_append, e1]
theorem owF_t {l : List Nm} {a : Int} {o : Ow} (h : owF l a = some o) : 1 ≤ o.2.2 ∧ o.2.2 ≤ l.length := by
 unfold owF at h
 cases hf : l.find? (fun x => x.1 == a) with
 | none => rw [hf] at h; cases h
 | some y =>
  rw [hf] at h
  injection h with h
  subst h
  have h1 := List.length_filter_le (fun y : Nm => y.1 == a) l
  have h2 : y ∈ l.filter (fun y => y.1 == a) := List.mem_filter.2 ⟨List.mem_of_find?_eq_some hf, by have := List.find?_some hf; simpa using this⟩
  have h3 := List.length_pos_of_mem h2
  simp only
  omega
def Bd64 (a : Int) : Prop := 0 ≤ a ∧ a < 18446744073709551616
/-- The map holds just these. -/
def MapO (D : DataW Unit) (l : List Nm) : Prop := ∀ a, Bd64 a → Maps.has D (.int .u64 a) = (owF l a).isSome ∧ ∀ o, owF l a = some o → ∀ zd, D.atKey (.int .u64 a) zd = owD o
theorem law24 : Maps.Keyed Try.prog 22 := Maps.int_keyed Try.underlying22
theorem wf64 {a : Int} (h : Bd64 a) : (Lit.int .u64 a).wf = true := by
 obtain ⟨h1, h2⟩ := h
 simp [Lit.wf, IntKind.min, IntKind.max, IntKind.signed, IntKind.bits]
 omega
theorem key24 {a : Int} (h : Bd64 a) : keyOf Try.prog 22 (.int .u64 a) = some (.int .u64 a) := Maps.keyOf_int_mk Try.underlying22 (wf64 h)
theorem MapO.nil : MapO (.map []) [] := fun a _ => ⟨rfl, fun o h => by cases h⟩
theorem MapO.put {D : DataW Unit} {l : List Nm} (h : MapO D l) (hD : Maps.IsMap D) (x : Nm) : MapO (D.put (.int .u64 x.1) (owD (owStep (owF l x.1) x))) (l ++ [x]) := by
 intro a ha
 rw [owF_app]
 by_cases e : x.1 = a
 ·subst e
  rw [if_pos rfl]
  refine ⟨Maps.has_put_same hD (law24.key (key24 ha)) _, fun o ho zd => ?_⟩
  injection ho with ho
  rw [← ho]
  exact Maps.atKey_put_same hD (law24.key (key24 ha)) _ _
 ·rw [if_neg e]
  have hne : Lit.int .u64 a ≠ Lit.int .u64 x.1 := by
   intro h
   injection h with _ h
   exact e h.symm
  refine ⟨(Maps.has_put_other hne _).trans (h a ha).1, fun o ho zd => (Maps.atKey_put_other hne _ _).trans ((h a ha).2 o ho zd)⟩
theorem map_bel {w w' : World} {b n : Nat} {D : DataW Unit} (h : w.ownsMap Try.prog 22 R59 b n D) (hb : Below w.heap.size w w') : w'.ownsMap Try.prog 22 R59 b n D :=
 h.kept (row := none) ⟨hb.os, hb.tape, hb.output, hb.size, fun k hk _ => hb.block k hk⟩ (by simp)
theorem info59 : ∃ i z, Try.prog.info? 85 = some i ∧ i.zero = some z ∧ i.size = 3 ∧ i.bytes = 24 ∧ z.cells.size = 3 := info_of 85 3 24 (by kernel_rfl) (by kernel_rfl)
theorem zero59 (w : World) : (zeroValue 85).run Try.prog w = .ok (.agg (owL (0, 0, 0)).toArray) w := by kernel_rfl
theorem owL_one (o : Ow) : ∀ v ∈ owL o, v.oneCell' = true := by
 intro v hv
 simp only [owL, List.mem_cons, List.not_mem_nil, or_false] at hv
 rcases hv with rfl | rfl | rfl <;> rfl
theorem isMap_put {D : DataW Unit} (hD : Maps.IsMap D) (k : Lit) (d : DataW Unit) : Maps.IsMap (D.put k d) := by
 obtain ⟨es, rfl⟩ := hD
 exact ⟨_, rfl⟩
theorem map_grown {w w' : World} {b n g : Nat} {D : DataW Unit} (h : w.ownsMap Try.prog 22 R59 b n D) (hg : w.grownBy w' (some g)) (hne : b ≠ g) : w'.ownsMap Try.prog 22 R59 b n D := h.kept hg (by intro e; injection e; contradiction)
theorem map_set {w : World} {b n : Nat} {D : DataW Unit} (h : w.ownsMap Try.prog 22 R59 b n D) (g j : Nat) (u : Value) (hne : b ≠ g) : (w.setCell ⟨g, j, .none⟩ u).ownsMap Try.prog 22 R59 b n D := map_grown h (setCell_grown w g j u) hne
def OwP (w : World) (l : List Nm) (e : Ending) (w' : World) : Prop := ∃ b D, e = .returned (.map (some b)) ∧ w'.ownsMap Try.prog 22 R59 b l.length D ∧ MapO D l ∧ w.heap.size ≤ b ∧ Below w.heap.size w w'
set_option maxRecDepth 100000 in
set_option maxHeartbeats 4000000 in
theorem owners_any {w : World} {X : Nat} {v : Value} {l : List Nm} (h : Sl w X 3 (fun x cs => cs = An x) v l) (hX : X ≤ w.heap.size) (hl : l.length ≤ 1000000) (hb : ∀ x ∈ l, Bd64 x.1) : Calls Try.prog 44 #[v] w (OwP w l) := by
 obtain ⟨p, c, rfl⟩ := h.form
 obtain ⟨n, hn⟩ : ∃ n, n = l.length := ⟨_, rfl⟩
 rw [← hn] at h hl ⊢
 have HS : Hid (Sl w X 3 (fun x cs => cs = An x) (.slice p n c) l) := h
 have HN : Hid (n = l.length) := hn
 have HB64 : Hid (∀ x ∈ l, Bd64 x.1) := hb
 clear h hn hb
 obtain ⟨z, hz⟩ : ∃ z, z = w.heap.size := ⟨_, rfl⟩
 have HZ : Hid (z = w.heap.size) := hz
 have hmk : (Instr.makeMap 118 none).run Try.prog w = .ok (.map (some w.heap.size)) (w.alloc (.map #[] 0)) := run_makeMap _ _
 go_enter Try.func44, Try.ntmps44
 go_wp2
 clear hmk
 have HO : Hid ((w.alloc (.map #[] 0)).ownsMap Try.prog 22 R59 z 0 (.map []) ∧ Below z w (w.alloc (.map #[] 0))) := by
  rw [hz]
  exact ⟨World.ownsMap_made w Try.prog 22 R59, below1 w _⟩
 rw [← hz]
 clear hz
 generalize w.alloc (.map #[] 0) = W0 at *
 go_loopw [11] (fun k wr => ∃ (i : Nat), i ≤ n ∧ k = .int .i64 i ∧ Hid (∃ D, wr.ownsMap Try.prog 22 R59 z i D ∧ MapO D (l.take i) ∧ Maps.IsMap D ∧ Below z w wr)) (fun v _ => (n - intOf v).toNat)
 case atStart => exact ⟨0, by omega, rfl, .map [], HO.out.1, MapO.nil, ⟨_, rfl⟩, HO.out.2⟩
 case round =>
  clear HO
  obtain ⟨i, hi, rfl, HB⟩ := hrel
  obtain ⟨D, hM, hD, hI, hB⟩ := HB.out
  by_cases hin : i < n
  ·have i1 : (i : Int) < n := by omega
   obtain ⟨-, b, o, x, cs, rfl, hbX, hx, rfl, hcl, hr⟩ := HS.out.at hin
   have hr' := range_keep hr hB (by have := HZ.out; omega : b < z)
   have hxb : Bd64 x.1 := HB64.out x (List.mem_of_getElem? hx)
   have HX : Hid (l.take (i + 1) = l.take i ++ [x]) := by show _ = _; rw [List.take_add_one, hx]; rfl
   have HM : Hid (wr.ownsMap Try.prog 22 R59 z i D ∧ MapO D (l.take i) ∧ Maps.IsMap D ∧ Below z w wr) := ⟨hM, hD, hI, hB⟩
   obtain ⟨xa, xc, xo⟩ := x
   clear hr hcl hbX hx HB hM hD hI hB
   have c1 := fun (o : Ow) => (owL_one o)
   clear c1
   have hA1 : Hid (∀ v ∈ An (xa, xc, xo), v.oneCell' = true) := An_one _
   cases hown : owF (l.take i) xa with
   | none =>
    have hhas : Maps.has D (.int .u64 xa) = false := by rw [(HM.out.2.1 xa hxb).1, hown]; rfl
    have HW : Hid (owF (l.take i) xa = none) := hown
    clear hown
    go_wp2_with (first
     | (refine wpList_is (.load 116 (.tmp 13)) rfl ?_; refine wpList_loadG 116 3 24 info143 _ Try.underlying116 rfl (An (xa, xc, xo)) rfl b (o + i * 3) (.tmp 13) rfl rfl rfl hr' (some 14) rfl ?_)
     | (refine wpList_is (.alloc 116) rfl ?_; refine wpList_laidG 116 3 24 info143 (An (xa, xc, xo)) rfl hA1.out 5 (.tmp 14) _ _ rfl rfl rfl rfl rfl rfl rfl rfl ?_; intro W1 hW1 hB1 hs1; have d0 := cell_heap (o := 0) hW1; have d1 := cell_heap (o := 1) hW1; have d2 := cell_heap (o := 2) hW1; rw [show (An (xa, xc, xo)).toArray[0]? = some (.int .u64 xa) from rfl] at d0; rw [show (An (xa, xc, xo)).toArray[1]? = some (.int .i64 xc) from rfl] at d1; rw [show (An (xa, xc, xo)).toArray[2]? = some (.int .i64 xo) from rfl] at d2)
     | (refine wpList_is (.lookup 118 (.tmp 16) (.tmp 18) true) rfl ?_; refine wpList_lookup_own_ok W1 rfl (.tmp 16) (.tmp 18) 118 rfl 22 85 law24 Try.underlying118 R59 (zero59 W1) (owD (0, 0, 0)) [] (R59_mk _) z i D rfl (map_bel HM.out.1 hB1) (.int .u64 xa) (.int .u64 xa) rfl (key24 hxb) ?_; intro v ps hv; obtain ⟨ov, rfl, -⟩ := R59_inv hv; rw [hhas]; clear hv)
     | (refine wpList_is (.alloc 85) rfl ?_; refine wpList_laidG 85 3 24 info59 (owL ov) rfl (owL_one ov) 6 (.tmp 20) _ _ rfl rfl rfl rfl rfl rfl rfl rfl ?_; intro W2 hW2 hB2 hs2; rw [hs1] at hW2 hs2; have d0' := (hB2.cell (p := ⟨wr.heap.size, 0, .none⟩) (by show wr.heap.size < W1.heap.size; omega)).trans d0; have d1' := (hB2.cell (p := ⟨wr.heap.size, 1, .none⟩) (by show wr.heap.size < W1.heap.size; omega)).trans d1; have d2' := (hB2.cell (p := ⟨wr.heap.size, 2, .none⟩) (by show wr.heap.size < W1.heap.size; omega)).trans d2)
     | (refine wpList_is (.store 85 (.tmp 6) (.tmp 28)) rfl ?_; refine wpList_storeG 85 3 24 (wr.heap.size + 1) info59 (owL (xc, xo, 0)) (owL ov) rfl rfl (owL_one _) (.tmp 6) (.tmp 28) _ rfl rfl rfl rfl rfl hW2 ?_; intro W3 hW3 hg3 hs3; have d3 := cell_heap (o := 2) hW3; have d4 := frozen_heap (o := 2) hW3; rw [show (owL (xc, xo, 0)).toArray[2]? = some (.int .i64 0) from rfl] at d3; have d5 := (hg3.cell d0' (by simp)))
     | (refine wpList_is (.load 85 (.tmp 6)) rfl ?_; refine wpList_loadG 85 3 24 info59 _ Try.underlying85 rfl (owL (xc, xo, 1)) rfl (wr.heap.size + 1) 0 (.tmp 6) rfl rfl rfl (range_heap (cs := owL (xc, xo, 1)) (t := 85) (fr := (0, 0)) (setCell_heap W3 (wr.heap.size + 1) 2 (.int .i64 1) hW3)) (some 36) rfl ?_)
     | (refine wpList_is (.mapUpdate 118 (.tmp 33) (.tmp 35) (.tmp 36)) rfl ?_; refine wpList_mapUpdate_own _ rfl _ _ _ 118 rfl 22 85 law24 Try.underlying118 R59 z i D rfl (map_set (map_grown (map_bel (map_bel HM.out.1 hB1) hB2) hg3 (by have := HM.out.1.lt; omega)) _ _ _ (by have := HM.out.1.lt; omega)) (by unfold maxLen; omega) (.int .u64 xa) (.agg (owL (xc, xo, 1)).toArray) (.int .u64 xa) rfl rfl (key24 hxb) (owD (xc, xo, 1)) [] (R59_mk _) ?_; intro w6 hM6 hg6)
     | fail)
    have hzl := HM.out.1.lt
    have hzz := HZ.out
    have e0 : owStep (owF (l.take i) (xa, xc, xo).1) (xa, xc, xo) = (xc, xo, 1) := by rw [show (xa, xc, xo).1 = xa from rfl, HW.out]; rfl
    have hp := HM.out.2.1.put HM.out.2.2.1 (xa, xc, xo)
    rw [e0, ← HX.out] at hp
    refine ⟨⟨i + 1, by omega, by go_num, _, hM6, hp, isMap_put HM.out.2.2.1 _ _, ?_⟩, by simp [intOf]; omega⟩
    exact (((HM.out.2.2.2.trans (hB1.mono (by omega))).trans (hB2.mono (by omega))).grown hg3 (by omega) (by intro k hk; injection hk; omega)).setCell (by show z ≤ wr.heap.size + 1; omega) _ |>.grown hg6 (by simp only [World.size_setCell]; omega) (by intro k hk; injection hk; omega)
   | some ow =>
    obtain ⟨oc, oo, ot⟩ := ow
    have hhas : Maps.has D (.int .u64 xa) = true := by rw [(HM.out.2.1 xa hxb).1, hown]; rfl
    have HAT : Hid (∀ zd, D.atKey (.int .u64 xa) zd = owD (oc, oo, ot)) := (HM.out.2.1 xa hxb).2 _ hown
    have HW : Hid (owF (l.take i) xa = some (oc, oo, ot)) := hown
    obtain ⟨t1, t2⟩ : 1 ≤ ot ∧ ot ≤ (l.take i).length := owF_t hown
    have t3 : ot ≤ 1000000 := by rw [List.length_take] at t2; omega
    have et : IntKind.i64.wrap (ot + 1) = ot + 1 := by rw [IntKind.wrap_i64]; omega
    clear hown t2
    go_wp2_with (first
     | (refine wpList_is (.load 116 (.tmp 13)) rfl ?_; refine wpList_loadG 116 3 24 info143 _ Try.underlying116 rfl (An (xa, xc, xo)) rfl b (o + i * 3) (.tmp 13) rfl rfl rfl hr' (some 14) rfl ?_)
     | (refine wpList_is (.alloc 116) rfl ?_; refine wpList_laidG 116 3 24 info143 (An (xa, xc, xo)) rfl hA1.out 5 (.tmp 14) _ _ rfl rfl rfl rfl rfl rfl rfl rfl ?_; intro W1 hW1 hB1 hs1; have d0 := cell_heap (o := 0) hW1; rw [show (An (xa, xc, xo)).toArray[0]? = some (.int .u64 xa) from rfl] at d0)
     | (refine wpList_is (.lookup 118 (.tmp 16) (.tmp 18) true) rfl ?_; refine wpList_lookup_own_ok W1 rfl (.tmp 16) (.tmp 18) 118 rfl 22 85 law24 Try.underlying118 R59 (zero59 W1) (owD (0, 0, 0)) [] (R59_mk _) z i D rfl (map_bel HM.out.1 hB1) (.int .u64 xa) (.int .u64 xa) rfl (key24 hxb) ?_; intro v ps hv; rw [HAT.out] at hv; obtain ⟨ov, rfl, hov⟩ := R59_inv hv; have hov2 : (oc, oo, ot) = ov := owD_inj (congrArg Prod.fst hov); subst hov2; rw [hhas]; clear hv hov)
     | (refine wpList_is (.alloc 85) rfl ?_; refine wpList_laidG 85 3 24 info59 (owL (oc, oo, ot)) rfl (owL_one _) 6 (.tmp 20) _ _ rfl rfl rfl rfl rfl rfl rfl rfl ?_; intro W2 hW2 hB2 hs2; rw [hs1] at hW2 hs2; have d0' := (hB2.cell (p := ⟨wr.heap.size, 0, .none⟩) (by show wr.heap.size < W1.heap.size; omega)).trans d0; have d3 := cell_heap (o := 2) hW2; have d4 := frozen_heap (o := 2) hW2; rw [show (owL (oc, oo, ot)).toArray[2]? = some (.int .i64 ot) from rfl] at d3)
     | (refine wpList_is (.load 85 (.tmp 6)) rfl ?_; refine wpList_loadG 85 3 24 info59 _ Try.underlying85 rfl (owL (oc, oo, ot + 1)) rfl (wr.heap.size + 1) 0 (.tmp 6) rfl rfl rfl (range_heap (cs := owL (oc, oo, ot + 1)) (t := 85) (fr := (0, 0)) (setCell_heap W2 (wr.heap.size + 1) 2 (.int .i64 (ot + 1)) hW2)) (some 36) rfl ?_)
     | (refine wpList_is (.mapUpdate 118 (.tmp 33) (.tmp 35) (.tmp 36)) rfl ?_; refine wpList_mapUpdate_own _ rfl _ _ _ 118 rfl 22 85 law24 Try.underlying118 R59 z i D rfl (map_set (map_bel (map_bel HM.out.1 hB1) hB2) _ _ _ (by have := HM.out.1.lt; omega)) (by unfold maxLen; omega) (.int .u64 xa) (.agg (owL (oc, oo, ot + 1)).toArray) (.int .u64 xa) rfl rfl (key24 hxb) (owD (oc, oo, ot + 1)) [] (R59_mk _) ?_; intro w6 hM6 hg6)
     | fail)
    have hzl := HM.out.1.lt
    have hzz := HZ.out
    have e0 : owStep (owF (l.take i) (xa, xc, xo).1) (xa, xc, xo) = (oc, oo, ot + 1) := by rw [show (xa, xc, xo).1 = xa from rfl, HW.out]; rfl
    have hp := HM.out.2.1.put HM.out.2.2.1 (xa, xc, xo)
    rw [e0, ← HX.out] at hp
    refine ⟨⟨i + 1, by omega, by go_num, _, hM6, hp, isMap_put HM.out.2.2.1 _ _, ?_⟩, by simp [intOf]; omega⟩
    exact (((HM.out.2.2.2.trans (hB1.mono (by omega))).trans (hB2.mono (by omega)))).setCell (by show z ≤ wr.heap.size + 1; omega) _ |>.grown hg6 (by simp only [World.size_setCell]; omega) (by intro k hk; injection hk; omega)
  ·have i1 : ¬ (i : Int) < n := by omega
   obtain rfl : i = n := by omega
   have HQ : Hid (wr.ownsMap Try.prog 22 R59 z i D ∧ MapO D l ∧ w.heap.size ≤ z ∧ Below w.heap.size w wr) := by
    rw [List.take_of_length_le (by have := HN.out; omega)] at hD
    have hzz := HZ.out
    exact ⟨hM, hD, by omega, by rw [← hzz]; exact hB⟩
   clear hM hD hI hB HB
   go_wp2
   go_ret
   refine ⟨z, D, rfl, ?_⟩
   have h := HQ.out
   rw [HN.out] at h
   exact h
end Go.Proofs.Ythopgmmodldljab
