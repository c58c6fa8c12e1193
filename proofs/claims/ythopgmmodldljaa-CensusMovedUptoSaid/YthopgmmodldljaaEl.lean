import Derived.Test.YthopgmmodldljaaEk
namespace Go.Proofs.Ythopgmmodldljaa
open Go Go.RowKit
set_option linter.unusedVariables false
set_option linter.unusedSimpArgs false
set_option maxRecDepth 100000 in
theorem isNamed_any {w : World} {s m1 m2 : Nat} {cs : List Value} {pf nf : Th → Option Int} (h : Sv w s m1 m2 cs pf nf) {t : Th} (ht : ThR t) : Calls Try.prog 95 #[.pointer (some ⟨s, 0, .none⟩), .agg (thL t).toArray] w fun e w' => e = .returned (.bool (decide (0 < (nf t).getD 0))) ∧ Below w.heap.size w w' := by
  have HS : Hid (Sv w s m1 m2 cs pf nf ∧ ThR t) := ⟨h, ht⟩
  clear h ht
  obtain ⟨c, hc⟩ : ∃ c, c = (nf t).getD 0 := ⟨_, rfl⟩
  rw [← hc]
  have HC : Hid (c = (nf t).getD 0) := hc
  clear hc
  go_enter Try.func95, Try.ntmps95
  go_upto_region 1 with (first
    | (refine wpList_is (.box 125 (.tmp 1)) rfl ?_; refine wpList_boxG 125 (thL t) 3 (.tmp 1) _ rfl rfl rfl rfl ?_; intro W1 hW1 hB1 hs1)
    | fail)
  have HB : Hid (Below w.heap.size w W1) := hB1
  have hv := HS.out.1.keep hB1
  have hS : (fun V : World => V.cell? ⟨s, 14, .none⟩ = some (.map (some m2)) ∧ V.rangeAt w.heap.size 0 (thL t) ∧ (Instr.lookup 88 (.map (some m2)) (.agg (thL t).toArray) false).run Try.prog V = .ok (.int .i64 c) V) W1.drew := ⟨hv.cell13.2, range_heap hW1, by rw [HC.out]; exact ((hv.mn.keep (w' := W1.drew) rfl).look HS.out.2).1⟩
  clear hW1 hs1 hv hB1
  by_cases h0 : 0 < c
  · refine region_set (fun V => V.cell? ⟨s, 14, .none⟩ = some (.map (some m2)) ∧ V.rangeAt w.heap.size 0 (thL t) ∧ (Instr.lookup 88 (.map (some m2)) (.agg (thL t).toArray) false).run Try.prog V = .ok (.int .i64 c) V) 7 [] (by kernel_rfl) ?_
    refine set_take (i := 0) (v := .pointer (some ⟨s, 0, .none⟩)) rfl (by kernel_rfl) (by kernel_rfl) (by kernel_rfl) (by kernel_rfl) (fun _ _ _ h => h) (Or.inl ⟨by rfl, fun ww hSw => by obtain ⟨hs1, hs2, hs3⟩ := hSw; go_simp⟩) hS ?_
    simp only [Act.put, List.setIfInBounds_toArray, List.set_cons_zero, List.set_cons_succ, List.getElem_toArray, List.getElem_cons_succ, List.getElem_cons_zero]
    refine set_take (i := 1) (v := .pointer (some ⟨s, 0, .none⟩)) rfl (by kernel_rfl) (by kernel_rfl) (by kernel_rfl) (by kernel_rfl) (fun _ _ _ h => h) (Or.inl ⟨by rfl, fun ww hSw => by obtain ⟨hs1, hs2, hs3⟩ := hSw; go_simp⟩) hS ?_
    simp only [Act.put, List.setIfInBounds_toArray, List.set_cons_zero, List.set_cons_succ, List.getElem_toArray, List.getElem_cons_succ, List.getElem_cons_zero]
    refine set_take (i := 2) (v := .pointer (some ⟨s, 14, .none⟩)) rfl (by kernel_rfl) (by kernel_rfl) (by kernel_rfl) (by kernel_rfl) (fun _ _ _ h => h) (Or.inl ⟨by rfl, fun ww hSw => by obtain ⟨hs1, hs2, hs3⟩ := hSw; go_simp⟩) hS ?_
    simp only [Act.put, List.setIfInBounds_toArray, List.set_cons_zero, List.set_cons_succ, List.getElem_toArray, List.getElem_cons_succ, List.getElem_cons_zero]
    refine set_take (i := 3) (v := .map (some m2)) rfl (by kernel_rfl) (by kernel_rfl) (by kernel_rfl) (by kernel_rfl) (fun _ _ _ h => h) (Or.inl ⟨by rfl, fun ww hSw => by obtain ⟨hs1, hs2, hs3⟩ := hSw; go_simp⟩) hS ?_
    simp only [Act.put, List.setIfInBounds_toArray, List.set_cons_zero, List.set_cons_succ, List.getElem_toArray, List.getElem_cons_succ, List.getElem_cons_zero]
    refine set_take (i := 4) (v := .agg ((thL t)).toArray) rfl (by kernel_rfl) (by kernel_rfl) (by kernel_rfl) (by kernel_rfl) (fun _ _ _ h => h) (yieldsIf_load_mid (by rfl) 125 (.tmp 3) rfl (w.heap.size) (0) rfl ((thL t)) _ (fun ww hSw => hSw.2.1) Try.underlying125 rfl (by first | kernel_rfl | (rw [rfl]; kernel_rfl))) hS ?_
    simp only [Act.put, List.setIfInBounds_toArray, List.set_cons_zero, List.set_cons_succ, List.getElem_toArray, List.getElem_cons_succ, List.getElem_cons_zero]
    refine set_take (i := 5) (v := .int .i64 c) rfl (by kernel_rfl) (by kernel_rfl) (by kernel_rfl) (by kernel_rfl) (fun _ _ _ h => h) (Or.inl ⟨by rfl, fun ww hSw => by obtain ⟨hs1, hs2, hs3⟩ := hSw; go_simp⟩) hS ?_
    simp only [Act.put, List.setIfInBounds_toArray, List.set_cons_zero, List.set_cons_succ, List.getElem_toArray, List.getElem_cons_succ, List.getElem_cons_zero]
    refine set_take (i := 6) (v := .bool true) rfl (by kernel_rfl) (by kernel_rfl) (by kernel_rfl) (by kernel_rfl) (fun _ _ _ h => h) (Or.inl ⟨by rfl, fun ww hSw => by obtain ⟨hs1, hs2, hs3⟩ := hSw; go_simp⟩) hS ?_
    simp only [Act.put, List.setIfInBounds_toArray, List.set_cons_zero, List.set_cons_succ, List.getElem_toArray, List.getElem_cons_succ, List.getElem_cons_zero]
    refine set_tail 1 7 _ _ _ _ (by kernel_rfl) (by decide) ?_
    simp only [List.toList_toArray, List.drop_succ_cons, List.drop_zero]
    clear hS
    go_wp2
    go_ret
    exact ⟨by rw [decide_eq_true h0]; rfl, HB.out.drew⟩
  · refine region_set (fun V => V.cell? ⟨s, 14, .none⟩ = some (.map (some m2)) ∧ V.rangeAt w.heap.size 0 (thL t) ∧ (Instr.lookup 88 (.map (some m2)) (.agg (thL t).toArray) false).run Try.prog V = .ok (.int .i64 c) V) 7 [] (by kernel_rfl) ?_
    refine set_take (i := 0) (v := .pointer (some ⟨s, 0, .none⟩)) rfl (by kernel_rfl) (by kernel_rfl) (by kernel_rfl) (by kernel_rfl) (fun _ _ _ h => h) (Or.inl ⟨by rfl, fun ww hSw => by obtain ⟨hs1, hs2, hs3⟩ := hSw; go_simp⟩) hS ?_
    simp only [Act.put, List.setIfInBounds_toArray, List.set_cons_zero, List.set_cons_succ, List.getElem_toArray, List.getElem_cons_succ, List.getElem_cons_zero]
    refine set_take (i := 1) (v := .pointer (some ⟨s, 0, .none⟩)) rfl (by kernel_rfl) (by kernel_rfl) (by kernel_rfl) (by kernel_rfl) (fun _ _ _ h => h) (Or.inl ⟨by rfl, fun ww hSw => by obtain ⟨hs1, hs2, hs3⟩ := hSw; go_simp⟩) hS ?_
    simp only [Act.put, List.setIfInBounds_toArray, List.set_cons_zero, List.set_cons_succ, List.getElem_toArray, List.getElem_cons_succ, List.getElem_cons_zero]
    refine set_take (i := 2) (v := .pointer (some ⟨s, 14, .none⟩)) rfl (by kernel_rfl) (by kernel_rfl) (by kernel_rfl) (by kernel_rfl) (fun _ _ _ h => h) (Or.inl ⟨by rfl, fun ww hSw => by obtain ⟨hs1, hs2, hs3⟩ := hSw; go_simp⟩) hS ?_
    simp only [Act.put, List.setIfInBounds_toArray, List.set_cons_zero, List.set_cons_succ, List.getElem_toArray, List.getElem_cons_succ, List.getElem_cons_zero]
    refine set_take (i := 3) (v := .map (some m2)) rfl (by kernel_rfl) (by kernel_rfl) (by kernel_rfl) (by kernel_rfl) (fun _ _ _ h => h) (Or.inl ⟨by rfl, fun ww hSw => by obtain ⟨hs1, hs2, hs3⟩ := hSw; go_simp⟩) hS ?_
    simp only [Act.put, List.setIfInBounds_toArray, List.set_cons_zero, List.set_cons_succ, List.getElem_toArray, List.getElem_cons_succ, List.getElem_cons_zero]
    refine set_take (i := 4) (v := .agg ((thL t)).toArray) rfl (by kernel_rfl) (by kernel_rfl) (by kernel_rfl) (by kernel_rfl) (fun _ _ _ h => h) (yieldsIf_load_mid (by rfl) 125 (.tmp 3) rfl (w.heap.size) (0) rfl ((thL t)) _ (fun ww hSw => hSw.2.1) Try.underlying125 rfl (by first | kernel_rfl | (rw [rfl]; kernel_rfl))) hS ?_
    simp only [Act.put, List.setIfInBounds_toArray, List.set_cons_zero, List.set_cons_succ, List.getElem_toArray, List.getElem_cons_succ, List.getElem_cons_zero]
    refine set_take (i := 5) (v := .int .i64 c) rfl (by kernel_rfl) (by kernel_rfl) (by kernel_rfl) (by kernel_rfl) (fun _ _ _ h => h) (Or.inl ⟨by rfl, fun ww hSw => by obtain ⟨hs1, hs2, hs3⟩ := hSw; go_simp⟩) hS ?_
    simp only [Act.put, List.setIfInBounds_toArray, List.set_cons_zero, List.set_cons_succ, List.getElem_toArray, List.getElem_cons_succ, List.getElem_cons_zero]
    refine set_take (i := 6) (v := .bool false) rfl (by kernel_rfl) (by kernel_rfl) (by kernel_rfl) (by kernel_rfl) (fun _ _ _ h => h) (Or.inl ⟨by rfl, fun ww hSw => by obtain ⟨hs1, hs2, hs3⟩ := hSw; go_simp⟩) hS ?_
    simp only [Act.put, List.setIfInBounds_toArray, List.set_cons_zero, List.set_cons_succ, List.getElem_toArray, List.getElem_cons_succ, List.getElem_cons_zero]
    refine set_tail 1 7 _ _ _ _ (by kernel_rfl) (by decide) ?_
    simp only [List.toList_toArray, List.drop_succ_cons, List.drop_zero]
    clear hS
    go_wp2
    go_ret
    exact ⟨by rw [decide_eq_false (show ¬ 0 < c by omega)]; rfl, HB.out.drew⟩
def bhB (pf : Th → Option Int) (f : Fi) : Bool := if f.kind = 1 then (pf (3, f.ino)).isSome else if f.kind = 2 then (pf (5, f.pipe)).isSome else if f.kind = 3 then (pf (5, f.pipe)).isSome else false
set_option maxRecDepth 100000 in
theorem hasBehind_any {w : World} {s m1 m2 : Nat} {cs : List Value} {pf nf : Th → Option Int} (h : Sv w s m1 m2 cs pf nf) (f : Fi) (hf : FiR f) : Calls Try.prog 90 #[.pointer (some ⟨s, 0, .none⟩), .agg f.l.toArray] w fun e w' => e = .returned (.bool (bhB pf f)) ∧ Below w.heap.size w w' := by
  have HS : Hid (Sv w s m1 m2 cs pf nf ∧ FiR f) := ⟨h, hf⟩
  clear h hf
  go_enter Try.func90, Try.ntmps90
  by_cases h1 : f.kind = 1
  · have HT : Hid (bhB pf f = (pf (3, f.ino)).isSome) := by show _ = _; unfold bhB; rw [if_pos h1]
    have e1 : (f.kind == 1) = true := by simp [h1]
    clear h1
    go_wp2_with (first
      | (refine wpList_is (.box 94 (.tmp 1)) rfl ?_; refine wpList_boxG 94 f.l 3 (.tmp 1) _ rfl rfl rfl rfl ?_; intro W1 hW1 hB1 hs1; have k1 : W1.cell? ⟨w.heap.size, 1, .none⟩ = some (.int .i64 f.kind) := cell_heap (o := 1) hW1; have k5 : W1.cell? ⟨w.heap.size, 5, .none⟩ = some (.int .i64 f.ino) := cell_heap (o := 5) hW1; have k7 : W1.cell? ⟨w.heap.size, 7, .none⟩ = some (.int .i64 f.pipe) := cell_heap (o := 7) hW1)
      | (refine wpList_is (.build 125 #[(0, .const (.int .i64 3)), (1, .tmp 11)]) rfl ?_; refine wpList_buildTo rfl 125 _ rfl (some 12) rfl (thL (3, f.ino)).toArray (by kernel_rfl) ?_)
      | fail)
    clear k1 k5 k7 hW1
    go_at_call 69
    refine (has_any (HS.out.1.keep hB1) (t := (3, f.ino)) ⟨lit64 3 (by omega), HS.out.2.ino⟩).mono ?_
    rintro e W2 ⟨rfl, hB2⟩
    have HB : Hid (Below w.heap.size w W2) := hB1.trans (hB2.mono (by omega))
    clear hB1 hB2 hs1
    generalize hq : (pf (3, f.ino)).isSome = q at *
    go_wp2
    go_ret
    exact ⟨by rw [HT.out]; rfl, HB.out⟩
  by_cases h2 : f.kind = 2
  · have HT : Hid (bhB pf f = (pf (5, f.pipe)).isSome) := by show _ = _; unfold bhB; rw [if_neg h1, if_pos h2]
    have e1 : (f.kind == 1) = false := by simp [h1]
    have e2 : (f.kind == 2) = true := by simp [h2]
    clear h1 h2
    go_wp2_with (first
      | (refine wpList_is (.box 94 (.tmp 1)) rfl ?_; refine wpList_boxG 94 f.l 3 (.tmp 1) _ rfl rfl rfl rfl ?_; intro W1 hW1 hB1 hs1; have k1 : W1.cell? ⟨w.heap.size, 1, .none⟩ = some (.int .i64 f.kind) := cell_heap (o := 1) hW1; have k5 : W1.cell? ⟨w.heap.size, 5, .none⟩ = some (.int .i64 f.ino) := cell_heap (o := 5) hW1; have k7 : W1.cell? ⟨w.heap.size, 7, .none⟩ = some (.int .i64 f.pipe) := cell_heap (o := 7) hW1)
      | (refine wpList_is (.build 125 #[(0, .const (.int .i64 5)), (1, .tmp 19)]) rfl ?_; refine wpList_buildTo rfl 125 _ rfl (some 20) rfl (thL (5, f.pipe)).toArray (by kernel_rfl) ?_)
      | fail)
    clear k1 k5 k7 hW1
    go_at_call 69
    refine (has_any (HS.out.1.keep hB1) (t := (5, f.pipe)) ⟨lit64 5 (by omega), HS.out.2.pipe⟩).mono ?_
    rintro e W2 ⟨rfl, hB2⟩
    have HB : Hid (Below w.heap.size w W2) := hB1.trans (hB2.mono (by omega))
    clear hB1 hB2 hs1
    generalize hq : (pf (5, f.pipe)).isSome = q at *
    go_wp2
    go_ret
    exact ⟨by rw [HT.out]; rfl, HB.out⟩
  by_cases h3 : f.kind = 3
  · have HT : Hid (bhB pf f = (pf (5, f.pipe)).isSome) := by show _ = _; unfold bhB; rw [if_neg h1, if_neg h2, if_pos h3]
    have e1 : (f.kind == 1) = false := by simp [h1]
    have e2 : (f.kind == 2) = false := by simp [h2]
    have e3 : (f.kind == 3) = true := by simp [h3]
    clear h1 h2 h3
    go_wp2_with (first
      | (refine wpList_is (.box 94 (.tmp 1)) rfl ?_; refine wpList_boxG 94 f.l 3 (.tmp 1) _ rfl rfl rfl rfl ?_; intro W1 hW1 hB1 hs1; have k1 : W1.cell? ⟨w.heap.size, 1, .none⟩ = some (.int .i64 f.kind) := cell_heap (o := 1) hW1; have k5 : W1.cell? ⟨w.heap.size, 5, .none⟩ = some (.int .i64 f.ino) := cell_heap (o := 5) hW1; have k7 : W1.cell? ⟨w.heap.size, 7, .none⟩ = some (.int .i64 f.pipe) := cell_heap (o := 7) hW1)
      | (refine wpList_is (.build 125 #[(0, .const (.int .i64 5)), (1, .tmp 19)]) rfl ?_; refine wpList_buildTo rfl 125 _ rfl (some 20) rfl (thL (5, f.pipe)).toArray (by kernel_rfl) ?_)
      | fail)
    clear k1 k5 k7 hW1
    go_at_call 69
    refine (has_any (HS.out.1.keep hB1) (t := (5, f.pipe)) ⟨lit64 5 (by omega), HS.out.2.pipe⟩).mono ?_
    rintro e W2 ⟨rfl, hB2⟩
    have HB : Hid (Below w.heap.size w W2) := hB1.trans (hB2.mono (by omega))
    clear hB1 hB2 hs1
    generalize hq : (pf (5, f.pipe)).isSome = q at *
    go_wp2
    go_ret
    exact ⟨by rw [HT.out]; rfl, HB.out⟩
  · have HT : Hid (bhB pf f = false) := by show _ = _; unfold bhB; rw [if_neg h1, if_neg h2, if_neg h3]
    have e1 : (f.kind == 1) = false := by simp [h1]
    have e2 : (f.kind == 2) = false := by simp [h2]
    have e3 : (f.kind == 3) = false := by simp [h3]
    clear h1 h2 h3
    go_wp2_with (first
      | (refine wpList_is (.box 94 (.tmp 1)) rfl ?_; refine wpList_boxG 94 f.l 3 (.tmp 1) _ rfl rfl rfl rfl ?_; intro W1 hW1 hB1 hs1; have k1 : W1.cell? ⟨w.heap.size, 1, .none⟩ = some (.int .i64 f.kind) := cell_heap (o := 1) hW1)
      | fail)
    go_ret
    exact ⟨by rw [HT.out]; rfl, hB1⟩
end Go.Proofs.Ythopgmmodldljaa
