import Derived.Test.YthopgmmodldljabEk
namespace Go.Proofs.Ythopgmmodldljab
open Go Go.RowKit
set_option linter.unusedVariables false
set_option linter.unusedSimpArgs false
set_option maxRecDepth 100000 in
theorem isNamed_any {w : World} {s m1 m2 : Nat} {cs : List Value} {pf nf : Th → Option Int} (h : Sv w s m1 m2 cs pf nf) {t : Th} (ht : ThR t) : Calls Try.prog 79 #[.pointer (some ⟨s, 0, .none⟩), .agg (thL t).toArray] w fun e w' => e = .returned (.bool (decide (0 < (nf t).getD 0))) ∧ Below w.heap.size w w' := by
 have HS : Hid (Sv w s m1 m2 cs pf nf ∧ ThR t) := ⟨h, ht⟩
 clear h ht
 obtain ⟨c, hc⟩ : ∃ c, c = (nf t).getD 0 := ⟨_, rfl⟩
 rw [← hc]
 have HC : Hid (c = (nf t).getD 0) := hc
 clear hc
 go_enter Try.func79, Try.ntmps79
 go_upto_region 1 with (first
  | (refine wpList_is (.box 101 (.tmp 1)) rfl ?_; refine wpList_boxG 101 (thL t) 3 (.tmp 1) _ rfl rfl rfl rfl ?_; intro W1 hW1 hB1 hs1)
  | fail)
 have HB : Hid (Below w.heap.size w W1) := hB1
 have hv := HS.out.1.keep hB1
 have hS : (fun V : World => V.cell? ⟨s, 14, .none⟩ = some (.map (some m2)) ∧ V.rangeAt w.heap.size 0 (thL t) ∧ (Instr.lookup 77 (.map (some m2)) (.agg (thL t).toArray) false).run Try.prog V = .ok (.int .i64 c) V) W1.drew := ⟨hv.cell13.2, range_heap hW1, by rw [HC.out]; exact ((hv.mn.keep (w' := W1.drew) rfl).look HS.out.2).1⟩
 clear hW1 hs1 hv hB1
 by_cases h0 : 0 < c
 ·refine region_set (fun V => V.cell? ⟨s, 14, .none⟩ = some (.map (some m2)) ∧ V.rangeAt w.heap.size 0 (thL t) ∧ (Instr.lookup 77 (.map (some m2)) (.agg (thL t).toArray) false).run Try.prog V = .ok (.int .i64 c) V) 7 [] (by kernel_rfl) ?_
  refine sT 0 (.pointer (some ⟨s, 0, .none⟩)) rfl (fun ww hSw => by obtain ⟨hs1, hs2, hs3⟩ := hSw; go_simp) hS ?_
  simp only [x0,x1,x2,x3,x4,x5,x6]
  refine sT 1 (.pointer (some ⟨s, 0, .none⟩)) rfl (fun ww hSw => by obtain ⟨hs1, hs2, hs3⟩ := hSw; go_simp) hS ?_
  simp only [x0,x1,x2,x3,x4,x5,x6]
  refine sT 2 (.pointer (some ⟨s, 14, .none⟩)) rfl (fun ww hSw => by obtain ⟨hs1, hs2, hs3⟩ := hSw; go_simp) hS ?_
  simp only [x0,x1,x2,x3,x4,x5,x6]
  refine sT 3 (.map (some m2)) rfl (fun ww hSw => by obtain ⟨hs1, hs2, hs3⟩ := hSw; go_simp) hS ?_
  simp only [x0,x1,x2,x3,x4,x5,x6]
  refine sV (i := 4) (v := .agg ((thL t)).toArray) rfl (yieldsIf_load_mid (by rfl) 101 (.tmp 3) rfl (w.heap.size) (0) rfl ((thL t)) _ (fun ww hSw => hSw.2.1) Try.underlying101 rfl (by first | kernel_rfl | (rw [rfl]; kernel_rfl))) hS ?_
  simp only [x0,x1,x2,x3,x4,x5,x6]
  refine sT 5 (.int .i64 c) rfl (fun ww hSw => by obtain ⟨hs1, hs2, hs3⟩ := hSw; go_simp) hS ?_
  simp only [x0,x1,x2,x3,x4,x5,x6]
  refine sT 6 (.bool true) rfl (fun ww hSw => by obtain ⟨hs1, hs2, hs3⟩ := hSw; go_simp) hS ?_
  simp only [x0,x1,x2,x3,x4,x5,x6]
  refine set_tail 1 7 _ _ _ _ (by kernel_rfl) (by decide) ?_
  simp only [List.toList_toArray, List.drop_succ_cons, List.drop_zero]
  clear hS
  go_wp2
  go_ret
  exact ⟨by rw [decide_eq_true h0]; rfl, HB.out.drew⟩
 ·refine region_set (fun V => V.cell? ⟨s, 14, .none⟩ = some (.map (some m2)) ∧ V.rangeAt w.heap.size 0 (thL t) ∧ (Instr.lookup 77 (.map (some m2)) (.agg (thL t).toArray) false).run Try.prog V = .ok (.int .i64 c) V) 7 [] (by kernel_rfl) ?_
  refine sT 0 (.pointer (some ⟨s, 0, .none⟩)) rfl (fun ww hSw => by obtain ⟨hs1, hs2, hs3⟩ := hSw; go_simp) hS ?_
  simp only [x0,x1,x2,x3,x4,x5,x6]
  refine sT 1 (.pointer (some ⟨s, 0, .none⟩)) rfl (fun ww hSw => by obtain ⟨hs1, hs2, hs3⟩ := hSw; go_simp) hS ?_
  simp only [x0,x1,x2,x3,x4,x5,x6]
  refine sT 2 (.pointer (some ⟨s, 14, .none⟩)) rfl (fun ww hSw => by obtain ⟨hs1, hs2, hs3⟩ := hSw; go_simp) hS ?_
  simp only [x0,x1,x2,x3,x4,x5,x6]
  refine sT 3 (.map (some m2)) rfl (fun ww hSw => by obtain ⟨hs1, hs2, hs3⟩ := hSw; go_simp) hS ?_
  simp only [x0,x1,x2,x3,x4,x5,x6]
  refine sV (i := 4) (v := .agg ((thL t)).toArray) rfl (yieldsIf_load_mid (by rfl) 101 (.tmp 3) rfl (w.heap.size) (0) rfl ((thL t)) _ (fun ww hSw => hSw.2.1) Try.underlying101 rfl (by first | kernel_rfl | (rw [rfl]; kernel_rfl))) hS ?_
  simp only [x0,x1,x2,x3,x4,x5,x6]
  refine sT 5 (.int .i64 c) rfl (fun ww hSw => by obtain ⟨hs1, hs2, hs3⟩ := hSw; go_simp) hS ?_
  simp only [x0,x1,x2,x3,x4,x5,x6]
  refine sT 6 (.bool false) rfl (fun ww hSw => by obtain ⟨hs1, hs2, hs3⟩ := hSw; go_simp) hS ?_
  simp only [x0,x1,x2,x3,x4,x5,x6]
  refine set_tail 1 7 _ _ _ _ (by kernel_rfl) (by decide) ?_
  simp only [List.toList_toArray, List.drop_succ_cons, List.drop_zero]
  clear hS
  go_wp2
  go_ret
  exact ⟨by rw [decide_eq_false (show ¬ 0 < c by omega)]; rfl, HB.out.drew⟩
def bhB (pf : Th → Option Int) (f : Fi) : Bool := if f.kind = 1 then (pf (3, f.ino)).isSome else if f.kind = 2 then (pf (5, f.pipe)).isSome else if f.kind = 3 then (pf (5, f.pipe)).isSome else false
set_option maxRecDepth 100000 in
theorem hasBehind_any {w : World} {s m1 m2 : Nat} {cs : List Value} {pf nf : Th → Option Int} (h : Sv w s m1 m2 cs pf nf) (f : Fi) (hf : FiR f) : Calls Try.prog 74 #[.pointer (some ⟨s, 0, .none⟩), .agg f.l.toArray] w fun e w' => e = .returned (.bool (bhB pf f)) ∧ Below w.heap.size w w' := by
 have HS : Hid (Sv w s m1 m2 cs pf nf ∧ FiR f) := ⟨h, hf⟩
 clear h hf
 go_enter Try.func74, Try.ntmps74
 by_cases h1 : f.kind = 1
 ·have HT : Hid (bhB pf f = (pf (3, f.ino)).isSome) := by show _ = _; unfold bhB; rw [if_pos h1]
  have e1 : (f.kind == 1) = true := by simp [h1]
  clear h1
  go_wp2_with (first
   | (refine wpList_is (.box 67 (.tmp 1)) rfl ?_; refine wpList_boxG 67 f.l 3 (.tmp 1) _ rfl rfl rfl rfl ?_; intro W1 hW1 hB1 hs1; have k1 : W1.cell? ⟨w.heap.size, 1, .none⟩ = some (.int .i64 f.kind) := cell_heap (o := 1) hW1; have k5 : W1.cell? ⟨w.heap.size, 5, .none⟩ = some (.int .i64 f.ino) := cell_heap (o := 5) hW1; have k7 : W1.cell? ⟨w.heap.size, 7, .none⟩ = some (.int .i64 f.pipe) := cell_heap (o := 7) hW1)
   | (refine wpList_is (.build 101 #[(0, .const (.int .i64 3)), (1, .tmp 11)]) rfl ?_; refine wpList_buildTo rfl 101 _ rfl (some 12) rfl (thL (3, f.ino)).toArray (by kernel_rfl) ?_)
   | fail)
  clear k1 k5 k7 hW1
  go_at_call 47
  refine (has_any (HS.out.1.keep hB1) (t := (3, f.ino)) ⟨lit64 3 (by omega), HS.out.2.ino⟩).mono ?_
  rintro e W2 ⟨rfl, hB2⟩
  have HB : Hid (Below w.heap.size w W2) := hB1.trans (hB2.mono (by omega))
  clear hB1 hB2 hs1
  generalize hq : (pf (3, f.ino)).isSome = q at *
  go_wp2
  go_ret
  exact ⟨by rw [HT.out]; rfl, HB.out⟩
 by_cases h2 : f.kind = 2
 ·have HT : Hid (bhB pf f = (pf (5, f.pipe)).isSome) := by show _ = _; unfold bhB; rw [if_neg h1, if_pos h2]
  have e1 : (f.kind == 1) = false := by simp [h1]
  have e2 : (f.kind == 2) = true := by simp [h2]
  clear h1 h2
  go_wp2_with (first
   | (refine wpList_is (.box 67 (.tmp 1)) rfl ?_; refine wpList_boxG 67 f.l 3 (.tmp 1) _ rfl rfl rfl rfl ?_; intro W1 hW1 hB1 hs1; have k1 : W1.cell? ⟨w.heap.size, 1, .none⟩ = some (.int .i64 f.kind) := cell_heap (o := 1) hW1; have k5 : W1.cell? ⟨w.heap.size, 5, .none⟩ = some (.int .i64 f.ino) := cell_heap (o := 5) hW1; have k7 : W1.cell? ⟨w.heap.size, 7, .none⟩ = some (.int .i64 f.pipe) := cell_heap (o := 7) hW1)
   | (refine wpList_is (.build 101 #[(0, .const (.int .i64 5)), (1, .tmp 19)]) rfl ?_; refine wpList_buildTo rfl 101 _ rfl (some 20) rfl (thL (5, f.pipe)).toArray (by kernel_rfl) ?_)
   | fail)
  clear k1 k5 k7 hW1
  go_at_call 47
  refine (has_any (HS.out.1.keep hB1) (t := (5, f.pipe)) ⟨lit64 5 (by omega), HS.out.2.pipe⟩).mono ?_
  rintro e W2 ⟨rfl, hB2⟩
  have HB : Hid (Below w.heap.size w W2) := hB1.trans (hB2.mono (by omega))
  clear hB1 hB2 hs1
  generalize hq : (pf (5, f.pipe)).isSome = q at *
  go_wp2
  go_ret
  exact ⟨by rw [HT.out]; rfl, HB.out⟩
 by_cases h3 : f.kind = 3
 ·have HT : Hid (bhB pf f = (pf (5, f.pipe)).isSome) := by show _ = _; unfold bhB; rw [if_neg h1, if_neg h2, if_pos h3]
  have e1 : (f.kind == 1) = false := by simp [h1]
  have e2 : (f.kind == 2) = false := by simp [h2]
  have e3 : (f.kind == 3) = true := by simp [h3]
  clear h1 h2 h3
  go_wp2_with (first
   | (refine wpList_is (.box 67 (.tmp 1)) rfl ?_; refine wpList_boxG 67 f.l 3 (.tmp 1) _ rfl rfl rfl rfl ?_; intro W1 hW1 hB1 hs1; have k1 : W1.cell? ⟨w.heap.size, 1, .none⟩ = some (.int .i64 f.kind) := cell_heap (o := 1) hW1; have k5 : W1.cell? ⟨w.heap.size, 5, .none⟩ = some (.int .i64 f.ino) := cell_heap (o := 5) hW1; have k7 : W1.cell? ⟨w.heap.size, 7, .none⟩ = some (.int .i64 f.pipe) := cell_heap (o := 7) hW1)
   | (refine wpList_is (.build 101 #[(0, .const (.int .i64 5)), (1, .tmp 19)]) rfl ?_; refine wpList_buildTo rfl 101 _ rfl (some 20) rfl (thL (5, f.pipe)).toArray (by kernel_rfl) ?_)
   | fail)
  clear k1 k5 k7 hW1
  go_at_call 47
  refine (has_any (HS.out.1.keep hB1) (t := (5, f.pipe)) ⟨lit64 5 (by omega), HS.out.2.pipe⟩).mono ?_
  rintro e W2 ⟨rfl, hB2⟩
  have HB : Hid (Below w.heap.size w W2) := hB1.trans (hB2.mono (by omega))
  clear hB1 hB2 hs1
  generalize hq : (pf (5, f.pipe)).isSome = q at *
  go_wp2
  go_ret
  exact ⟨by rw [HT.out]; rfl, HB.out⟩
 ·have HT : Hid (bhB pf f = false) := by show _ = _; unfold bhB; rw [if_neg h1, if_neg h2, if_neg h3]
  have e1 : (f.kind == 1) = false := by simp [h1]
  have e2 : (f.kind == 2) = false := by simp [h2]
  have e3 : (f.kind == 3) = false := by simp [h3]
  clear h1 h2 h3
  go_wp2_with (first
   | (refine wpList_is (.box 67 (.tmp 1)) rfl ?_; refine wpList_boxG 67 f.l 3 (.tmp 1) _ rfl rfl rfl rfl ?_; intro W1 hW1 hB1 hs1; have k1 : W1.cell? ⟨w.heap.size, 1, .none⟩ = some (.int .i64 f.kind) := cell_heap (o := 1) hW1)
   | fail)
  go_ret
  exact ⟨by rw [HT.out]; rfl, hB1⟩
end Go.Proofs.Ythopgmmodldljab
namespace Go.Proofs.Ythopgmmodldljab
open Go Go.RowKit
set_option linter.unusedVariables false
set_option linter.unusedSimpArgs false
/-! A region that draws, taken in its own order: what the orders ask is reckoned once. -/
def pre (n k : Nat) : Array Bool := ((List.range n).map fun j => decide (j < k)).toArray
theorem pre_zero (n : Nat) : pre n 0 = Array.replicate n false := by
 apply Array.toList_inj.1
 apply List.ext_getElem?
 intro j
 by_cases hj : j < n <;> simp [pre, hj]
theorem pre_get (n k j : Nat) (h : j < n) : (pre n k).getD j true = decide (j < k) := by simp [pre, h]
theorem pre_set {n k : Nat} (h : k < n) : (pre n k).setIfInBounds k true = pre n (k + 1) := by
 apply Array.toList_inj.1
 apply List.ext_getElem?
 intro j
 simp only [pre, Array.toList_setIfInBounds, List.getElem?_set, List.length_map, List.length_range, List.getElem?_map]
 by_cases e : k = j
 ·subst e
  simp [h]
 ·simp only [if_neg e]
  by_cases hj : j < n
  ·rw [List.getElem?_range hj]
   simp only [Option.map_some, Option.some.injEq, decide_eq_decide]
   omega
  ·rw [List.getElem?_eq_none (by simpa using hj)]
   simp
def goodR (md : Region.Mode) (ops : Array Oper) (z : Nat) : Bool := Region.noSelect ops && decide (z < ops.size) && (List.range z).all fun k => ((ops[z]?).any fun oz => oz.after.any fun e => Region.binds md e && e.on == k) && Region.free md ops (pre ops.size k) k && (Region.ready md ops (pre ops.size k)).contains k
section
variable {P : Program} {ops : Array Oper} {Q : Exit → Act → World → Prop} {S : World → Prop}
abbrev Zl (z : Nat) : Nat → Bool := fun j => decide (z ≤ j) || ([] : List Nat).contains j
theorem region_good {id : Nat} {a : Act} {w : World} (z : Nat) (hg : goodR .any ops z = true) (h : Hid (goodR .any ops z = true) → (Code.region id ops true).wp P Q a w) : (Code.region id ops true).wp P Q a w := h hg
theorem region_one {id : Nat} {a : Act} {w : World} (S : World → Prop) (z : Nat) (hm : P.follows .mixedOrders = true) (h : wpSet P .any ops Q S (Zl z) ops.size (pre ops.size 0) a w.drew) : (Code.region id ops true).wp P Q a w := by
 rw [pre_zero] at h
 exact wp_region_any hm (wpSet.any _ _ _ _ h)
theorem one_take {z k m n : Nat} {oi : Oper} {v : Value} {a : Act} {w : World} (hg : goodR .any ops z = true) (hk : k < z) (hm : ops.size = m) (hz : m = z + 1) (hi : ops[k]? = some oi)
  (hQ : ∀ c a w, Q (.panic c) (a.put oi.dst v) w → Q (.panic c) a w) (hy : YieldsIf P ops S oi v a) (hS : S w)
  (h : wpSet P .any ops Q S (Zl z) n (pre m (k + 1)) (a.put oi.dst v) w) : wpSet P .any ops Q S (Zl z) (n + 1) (pre m k) a w := by
 subst hm
 unfold goodR at hg
 simp only [Bool.and_eq_true, decide_eq_true_eq, List.all_eq_true, List.mem_range] at hg
 obtain ⟨⟨g1, g2⟩, g3⟩ := hg
 obtain ⟨⟨c1, c2⟩, c3⟩ := g3 k hk
 rw [← pre_set (by omega)] at h
 refine set_first (D := (List.range ops.size).map fun j => decide (j = z)) hi ?_ (Region.noSelect_spec g1) hQ n _ a w ?_ ?_ (Region.free_spec hi c2) (by simpa using c3) hy hS h
 ·intro j oj hoj hd
  have hj : j < ops.size := (Array.getElem?_eq_some_iff.1 hoj).1
  have e : j = z := by simpa [hj] using hd
  subst e
  rw [hoj] at c1
  simp only [Option.any_some] at c1
  rw [Array.any_eq_true'] at c1
  obtain ⟨e, he, hb⟩ := c1
  simp only [Bool.and_eq_true, beq_iff_eq] at hb
  exact ⟨e, he, hb.1, .inl hb.2⟩
 ·intro j oj hoj hzj _
  have hj : j < ops.size := (Array.getElem?_eq_some_iff.1 hoj).1
  simp only [Bool.or_eq_true, decide_eq_true_eq, List.contains_nil, Bool.false_eq_true, or_false] at hzj
  have e : j = z := by omega
  subst e
  simp [hj]
 ·intro j hd
  by_cases hj : j < ops.size
  ·have e : j = z := by simpa [hj] using hd
   subst e
   rw [pre_get _ _ _ hj]
   exact decide_eq_false (by omega)
  ·rw [List.getD_eq_getElem?_getD, List.getElem?_eq_none (by simpa using hj)] at hd
   cases hd
theorem one_only {z k m n : Nat} {oi : Oper} {a : Act} {w : World} (hr : Region.ready .any ops (pre m k) = [k]) (hk : k < m) (hi : ops[k]? = some oi) (hwd : Region.wanted oi (yielded ops a.tmps) = true)
  (h : ∀ K : Act → World → Prop, Hid (∀ a' w', (Zl z k = false → S w') → wpSet P .any ops Q S (Zl z) n (pre m (k + 1)) a' w' → K a' w') → oi.wp P a w K Q) : wpSet P .any ops Q S (Zl z) (n + 1) (pre m k) a w :=
 set_only hr hi hwd (fun K hK => h K (fun a' w' h1 h2 => hK.out a' w' h1 (by rw [pre_set hk]; exact h2)))
/-- The same, with fewer words. -/
theorem oT {z n : Nat} {oi : Oper} {a : Act} {w : World} (k d : Nat) (v : Value) (hg : Hid (goodR .any ops z = true)) (hS : S w) (hi : ops[k]? = some oi)
  (h : wpSet P .any ops Q S (Zl z) n (pre (z + 1) (k + 1)) (a.put (some d) v) w) (hy : ∀ ww, S ww → (execOp a.eval oi).run P ww = .ok (.value v) ww := by exact fun _ _ => by go_simp)
  (hd : oi.dst = some d := by rfl) (hw : Region.wanted oi (yielded ops a.tmps) = true := by rfl) (hk : k < z := by decide) (hm : ops.size = z + 1 := by rfl)
  (hQ : ∀ c a w, Q (.panic c) (a.put oi.dst v) w → Q (.panic c) a w := by exact fun _ _ _ h => h) : wpSet P .any ops Q S (Zl z) (n + 1) (pre (z + 1) k) a w :=
 one_take hg.out hk hm rfl hi hQ (.inl ⟨hw, hy⟩) hS (by rw [hd]; exact h)
theorem oS {z n : Nat} {oi : Oper} {a : Act} {w : World} (k d : Nat) (hg : Hid (goodR .any ops z = true)) (hS : S w) (hi : ops[k]? = some oi)
  (h : wpSet P .any ops Q S (Zl z) n (pre (z + 1) (k + 1)) (a.put (some d) undef) w)
  (hd : oi.dst = some d := by rfl) (hw : Region.wanted oi (yielded ops a.tmps) = false := by rfl) (hk : k < z := by decide) (hm : ops.size = z + 1 := by rfl)
  (hQ : ∀ c a w, Q (.panic c) (a.put oi.dst undef) w → Q (.panic c) a w := by exact fun _ _ _ h => h) : wpSet P .any ops Q S (Zl z) (n + 1) (pre (z + 1) k) a w :=
 one_take hg.out hk hm rfl hi hQ (.inr ⟨hw, rfl⟩) hS (by rw [hd]; exact h)
end
end Go.Proofs.Ythopgmmodldljab
