import Derived.Test.YthopgmmodldljaaEb
namespace Go.Proofs.Ythopgmmodldljaa
open Go Go.RowKit
set_option linter.unusedVariables false
set_option linter.unusedSimpArgs false
/-! The survey: two maps, and what else it holds. -/
structure Sv (w : World) (s m1 m2 : Nat) (cs : List Value) (pf nf : Th → Option Int) : Prop where
  hp : w.heap[s]? = some (.cells cs.toArray 90)
  len : cs.length = 15
  c13 : cs[13]? = some (.map (some m1))
  c14 : cs[14]? = some (.map (some m2))
  mp : Mp w m1 pf
  mn : Mp w m2 nf
  a1 : s ≠ m1
  a2 : s ≠ m2
  a3 : m1 ≠ m2
/-- Nothing has turned but the two maps, and what is new. -/
structure Fr (m1 m2 : Nat) (w w' : World) : Prop where
  os : w'.os = w.os
  tape : w'.tape = w.tape
  output : w'.output = w.output
  size : w.heap.size ≤ w'.heap.size
  block : ∀ k, k < w.heap.size → k ≠ m1 → k ≠ m2 → w'.heap[k]? = w.heap[k]?
theorem Fr.refl (m1 m2 : Nat) (w : World) : Fr m1 m2 w w := ⟨rfl, rfl, rfl, Nat.le_refl _, fun _ _ _ _ => rfl⟩
theorem Fr.trans {m1 m2 : Nat} {a b c : World} (h : Fr m1 m2 a b) (k : Fr m1 m2 b c) : Fr m1 m2 a c :=
  ⟨k.os.trans h.os, k.tape.trans h.tape, k.output.trans h.output, Nat.le_trans h.size k.size, fun i hi h1 h2 => (k.block i (Nat.lt_of_lt_of_le hi h.size) h1 h2).trans (h.block i hi h1 h2)⟩
theorem Fr.of_below {m1 m2 : Nat} {w w' : World} (h : Below w.heap.size w w') : Fr m1 m2 w w' := ⟨h.os, h.tape, h.output, h.size, fun k hk _ _ => h.block k hk⟩
theorem Fr.of_grown {m1 m2 b : Nat} {w w' : World} (h : w.grownBy w' (some b)) (hb : b = m1 ∨ b = m2) : Fr m1 m2 w w' :=
  ⟨h.os, h.tape, h.output, h.size, fun k hk h1 h2 => h.block k hk (by intro e; injection e with e; rcases hb with hb | hb <;> omega)⟩
theorem Fr.below {m1 m2 B : Nat} {w w' : World} (h : Fr m1 m2 w w') (hB : B ≤ w.heap.size) (h1 : B ≤ m1) (h2 : B ≤ m2) : Below B w w' :=
  ⟨h.os, h.tape, h.output, h.size, fun k hk => h.block k (by omega) (by omega) (by omega)⟩
theorem Sv.lt {w : World} {s m1 m2 : Nat} {cs : List Value} {pf nf : Th → Option Int} (h : Sv w s m1 m2 cs pf nf) : s < w.heap.size ∧ m1 < w.heap.size ∧ m2 < w.heap.size :=
  ⟨(Array.getElem?_eq_some_iff.1 h.hp).1, h.mp.lt, h.mn.lt⟩
theorem Sv.keep {w w' : World} {s m1 m2 : Nat} {cs : List Value} {pf nf : Th → Option Int} (h : Sv w s m1 m2 cs pf nf) (hb : Below w.heap.size w w') : Sv w' s m1 m2 cs pf nf :=
  ⟨(hb.block _ h.lt.1).trans h.hp, h.len, h.c13, h.c14, h.mp.keep (hb.block _ h.lt.2.1), h.mn.keep (hb.block _ h.lt.2.2), h.a1, h.a2, h.a3⟩
theorem Sv.put1 {w w' : World} {s m1 m2 : Nat} {cs : List Value} {pf nf pf' : Th → Option Int} (h : Sv w s m1 m2 cs pf nf) (hg : w.grownBy w' (some m1)) (hm : Mp w' m1 pf') : Sv w' s m1 m2 cs pf' nf :=
  ⟨(hg.block _ h.lt.1 (by intro e; injection e with e; exact h.a1 e)).trans h.hp, h.len, h.c13, h.c14, hm, h.mn.keep (hg.block _ h.lt.2.2 (by intro e; injection e with e; exact h.a3 e.symm)), h.a1, h.a2, h.a3⟩
theorem Sv.put2 {w w' : World} {s m1 m2 : Nat} {cs : List Value} {pf nf nf' : Th → Option Int} (h : Sv w s m1 m2 cs pf nf) (hg : w.grownBy w' (some m2)) (hm : Mp w' m2 nf') : Sv w' s m1 m2 cs pf nf' :=
  ⟨(hg.block _ h.lt.1 (by intro e; injection e with e; exact h.a2 e)).trans h.hp, h.len, h.c13, h.c14, h.mp.keep (hg.block _ h.lt.2.1 (by intro e; injection e with e; exact h.a3 e)), hm, h.a1, h.a2, h.a3⟩
theorem Sv.cell13 {w : World} {s m1 m2 : Nat} {cs : List Value} {pf nf : Th → Option Int} (h : Sv w s m1 m2 cs pf nf) : w.cell? ⟨s, 13, .none⟩ = some (.map (some m1)) ∧ w.cell? ⟨s, 14, .none⟩ = some (.map (some m2)) := by
  constructor
  · rw [cell_heap h.hp, List.getElem?_toArray, h.c13]
  · rw [cell_heap h.hp, List.getElem?_toArray, h.c14]
def ent (pf : Th → Option Int) (t : Th) (a : Int) : Th → Option Int := if (pf t).isSome then pf else upd pf t a
def cnt1 (nf : Th → Option Int) (t : Th) : Th → Option Int := upd nf t ((nf t).getD 0 + 1)
theorem info125 : ∃ i z, Try.prog.info? 125 = some i ∧ i.zero = some z ∧ i.size = 2 ∧ i.bytes = 16 ∧ z.cells.size = 2 := info_of 125 2 16 (by kernel_rfl) (by kernel_rfl)
set_option maxRecDepth 100000 in
theorem has_any {w : World} {s m1 m2 : Nat} {cs : List Value} {pf nf : Th → Option Int} (h : Sv w s m1 m2 cs pf nf) {t : Th} (ht : ThR t) : Calls Try.prog 69 #[.pointer (some ⟨s, 0, .none⟩), .agg (thL t).toArray] w fun e w' => e = .returned (.bool (pf t).isSome) ∧ Below w.heap.size w w' := by
  have HS : Hid (Sv w s m1 m2 cs pf nf ∧ ThR t) := ⟨h, ht⟩
  clear h ht
  go_enter Try.func69, Try.ntmps69
  go_upto_region 1 with (first
    | (refine wpList_is (.box 125 (.tmp 1)) rfl ?_; refine wpList_boxG 125 (thL t) 3 (.tmp 1) _ rfl rfl rfl rfl ?_; intro W1 hW1 hB1 hs1)
    | fail)
  have HB : Hid (Below w.heap.size w W1) := hB1
  have hv := HS.out.1.keep hB1
  have hS0 : (fun V : World => V.cell? ⟨s, 13, .none⟩ = some (.map (some m1)) ∧ V.rangeAt w.heap.size 0 (thL t) ∧ (Instr.lookup 88 (.map (some m1)) (.agg (thL t).toArray) true).run Try.prog V = .ok (.tuple #[.int .i64 ((pf t).getD 0), .bool (pf t).isSome]) V) W1.drew := ⟨hv.cell13.1, range_heap hW1, (hv.mp.keep (w' := W1.drew) rfl).look HS.out.2 |>.2⟩
  clear hW1 hs1 hv hB1
  generalize hc : (pf t).getD 0 = c at *
  generalize hd : (pf t).isSome = d at *
  refine region_set (fun V => V.cell? ⟨s, 13, .none⟩ = some (.map (some m1)) ∧ V.rangeAt w.heap.size 0 (thL t) ∧ (Instr.lookup 88 (.map (some m1)) (.agg (thL t).toArray) true).run Try.prog V = .ok (.tuple #[.int .i64 (c), .bool d]) V) 10 [] (by kernel_rfl) ?_
  have hS : (fun V : World => V.cell? ⟨s, 13, .none⟩ = some (.map (some m1)) ∧ V.rangeAt w.heap.size 0 (thL t) ∧ (Instr.lookup 88 (.map (some m1)) (.agg (thL t).toArray) true).run Try.prog V = .ok (.tuple #[.int .i64 (c), .bool d]) V) W1.drew := hS0
  refine set_take (i := 0) (v := .pointer (some ⟨s, 0, .none⟩)) rfl (by kernel_rfl) (by kernel_rfl) (by kernel_rfl) (by kernel_rfl) (fun _ _ _ h => h) (Or.inl ⟨by rfl, fun ww hSw => by obtain ⟨hs1, hs2, hs3⟩ := hSw; go_simp⟩) hS ?_
  simp only [Act.put, List.setIfInBounds_toArray, List.set_cons_zero, List.set_cons_succ, List.getElem_toArray, List.getElem_cons_succ, List.getElem_cons_zero]
  refine set_take (i := 1) (v := .pointer (some ⟨s, 0, .none⟩)) rfl (by kernel_rfl) (by kernel_rfl) (by kernel_rfl) (by kernel_rfl) (fun _ _ _ h => h) (Or.inl ⟨by rfl, fun ww hSw => by obtain ⟨hs1, hs2, hs3⟩ := hSw; go_simp⟩) hS ?_
  simp only [Act.put, List.setIfInBounds_toArray, List.set_cons_zero, List.set_cons_succ, List.getElem_toArray, List.getElem_cons_succ, List.getElem_cons_zero]
  refine set_take (i := 2) (v := .pointer (some ⟨s, 13, .none⟩)) rfl (by kernel_rfl) (by kernel_rfl) (by kernel_rfl) (by kernel_rfl) (fun _ _ _ h => h) (Or.inl ⟨by rfl, fun ww hSw => by obtain ⟨hs1, hs2, hs3⟩ := hSw; go_simp⟩) hS ?_
  simp only [Act.put, List.setIfInBounds_toArray, List.set_cons_zero, List.set_cons_succ, List.getElem_toArray, List.getElem_cons_succ, List.getElem_cons_zero]
  refine set_take (i := 3) (v := .map (some m1)) rfl (by kernel_rfl) (by kernel_rfl) (by kernel_rfl) (by kernel_rfl) (fun _ _ _ h => h) (Or.inl ⟨by rfl, fun ww hSw => by obtain ⟨hs1, hs2, hs3⟩ := hSw; go_simp⟩) hS ?_
  simp only [Act.put, List.setIfInBounds_toArray, List.set_cons_zero, List.set_cons_succ, List.getElem_toArray, List.getElem_cons_succ, List.getElem_cons_zero]
  refine set_take (i := 4) (v := .agg ((thL t)).toArray) rfl (by kernel_rfl) (by kernel_rfl) (by kernel_rfl) (by kernel_rfl) (fun _ _ _ h => h) (yieldsIf_load_mid (by rfl) 125 (.tmp 3) rfl (w.heap.size) (0) rfl ((thL t)) _ (fun ww hSw => hSw.2.1) Try.underlying125 rfl (by first | kernel_rfl | (rw [rfl]; kernel_rfl))) hS ?_
  simp only [Act.put, List.setIfInBounds_toArray, List.set_cons_zero, List.set_cons_succ, List.getElem_toArray, List.getElem_cons_succ, List.getElem_cons_zero]
  refine set_take (i := 5) (v := .tuple #[.int .i64 c, .bool d]) rfl (by kernel_rfl) (by kernel_rfl) (by kernel_rfl) (by kernel_rfl) (fun _ _ _ h => h) (Or.inl ⟨by rfl, fun ww hSw => by obtain ⟨hs1, hs2, hs3⟩ := hSw; go_simp⟩) hS ?_
  simp only [Act.put, List.setIfInBounds_toArray, List.set_cons_zero, List.set_cons_succ, List.getElem_toArray, List.getElem_cons_succ, List.getElem_cons_zero]
  refine set_take (i := 6) (v := .tuple #[.int .i64 c, .bool d]) rfl (by kernel_rfl) (by kernel_rfl) (by kernel_rfl) (by kernel_rfl) (fun _ _ _ h => h) (Or.inl ⟨by rfl, fun ww hSw => by obtain ⟨hs1, hs2, hs3⟩ := hSw; go_simp⟩) hS ?_
  simp only [Act.put, List.setIfInBounds_toArray, List.set_cons_zero, List.set_cons_succ, List.getElem_toArray, List.getElem_cons_succ, List.getElem_cons_zero]
  refine set_take (i := 7) (v := .int .i64 c) rfl (by kernel_rfl) (by kernel_rfl) (by kernel_rfl) (by kernel_rfl) (fun _ _ _ h => h) (Or.inl ⟨by rfl, fun ww hSw => by obtain ⟨hs1, hs2, hs3⟩ := hSw; go_simp⟩) hS ?_
  simp only [Act.put, List.setIfInBounds_toArray, List.set_cons_zero, List.set_cons_succ, List.getElem_toArray, List.getElem_cons_succ, List.getElem_cons_zero]
  refine set_take (i := 8) (v := .bool d) rfl (by kernel_rfl) (by kernel_rfl) (by kernel_rfl) (by kernel_rfl) (fun _ _ _ h => h) (Or.inl ⟨by rfl, fun ww hSw => by obtain ⟨hs1, hs2, hs3⟩ := hSw; go_simp⟩) hS ?_
  simp only [Act.put, List.setIfInBounds_toArray, List.set_cons_zero, List.set_cons_succ, List.getElem_toArray, List.getElem_cons_succ, List.getElem_cons_zero]
  refine set_take (i := 9) (v := .int .i64 c) rfl (by kernel_rfl) (by kernel_rfl) (by kernel_rfl) (by kernel_rfl) (fun _ _ _ h => h) (Or.inl ⟨by rfl, fun ww hSw => by obtain ⟨hs1, hs2, hs3⟩ := hSw; go_simp⟩) hS ?_
  simp only [Act.put, List.setIfInBounds_toArray, List.set_cons_zero, List.set_cons_succ, List.getElem_toArray, List.getElem_cons_succ, List.getElem_cons_zero]
  refine set_tail 1 10 _ _ _ _ (by kernel_rfl) (by decide) ?_
  simp only [List.toList_toArray, List.drop_succ_cons, List.drop_zero]
  clear hS hS0
  go_wp2
  go_ret
  exact ⟨by rw [hd]; rfl, HB.out.drew⟩
def EnP (w : World) (s m1 m2 : Nat) (cs : List Value) (pf nf : Th → Option Int) (e : Ending) (w' : World) : Prop := ∃ u, e = .returned u ∧ Sv w' s m1 m2 cs pf nf ∧ Fr m1 m2 w w'
set_option maxRecDepth 100000 in
theorem enter_any {w : World} {s m1 m2 : Nat} {cs : List Value} {pf nf : Th → Option Int} (h : Sv w s m1 m2 cs pf nf) {t : Th} (ht : ThR t) (a : Int) : Calls Try.prog 58 #[.pointer (some ⟨s, 0, .none⟩), .int .i64 a, .agg (thL t).toArray] w (EnP w s m1 m2 cs (ent pf t a) nf) := by
  have HS : Hid (Sv w s m1 m2 cs pf nf ∧ ThR t) := ⟨h, ht⟩
  clear h ht
  go_enter Try.func58, Try.ntmps58
  go_wp2_with (first
    | (refine wpList_is (.box 125 (.tmp 2)) rfl ?_; refine wpList_boxG 125 (thL t) 5 (.tmp 2) _ rfl rfl rfl rfl ?_; intro W1 hW1 hB1 hs1; have r1 : W1.rangeAt w.heap.size 0 (thL t) := range_heap hW1)
    | (refine wpList_is (.load 125 (.tmp 5)) rfl ?_; refine wpList_loadG 125 2 16 info125 _ Try.underlying125 rfl (thL t) rfl w.heap.size 0 (.tmp 5) rfl rfl rfl r1 (some 7) rfl ?_)
    | fail)
  go_at_call 69
  refine (has_any (HS.out.1.keep hB1) HS.out.2).mono ?_
  rintro e W2 ⟨rfl, hB2⟩
  have HB : Hid (Below w.heap.size w W2 ∧ W2.rangeAt w.heap.size 0 (thL t) ∧ w.heap.size < W2.heap.size) := ⟨hB1.trans (hB2.mono (by omega)), range_keep r1 hB2 (by omega), by have := hB2.size; omega⟩
  clear hW1 hB1 hs1 r1 hB2
  cases hd : (pf t).isSome
  · have HE : Hid (ent pf t a = upd pf t a) := by show _ = _; unfold ent; rw [hd]; rfl
    clear hd
    go_upto_region 2 with fail
    have hv := HS.out.1.keep (HB.out.1)
    obtain ⟨W3, hrun, hm, hg, hsz⟩ := (hv.mp.keep (w' := W2.drew) rfl).upd HS.out.2 a
    have HV : Hid (Sv W3 s m1 m2 cs (upd pf t a) nf ∧ Fr m1 m2 w W3) := ⟨(hv.keep (w' := W2.drew) (Below.refl _ _).drew).put1 hg hm, (Fr.of_below HB.out.1.drew).trans (Fr.of_grown hg (.inl rfl))⟩
    have hS : (fun V : World => V.cell? ⟨s, 13, .none⟩ = some (.map (some m1)) ∧ V.rangeAt w.heap.size 0 (thL t)) W2.drew := ⟨hv.cell13.1, HB.out.2.1⟩
    have hrun2 : (Instr.mapUpdate 88 (.map (some m1)) (.agg (thL t).toArray) (.int .i64 a)).run Try.prog W2.drew = .ok () W3 := hrun
    clear hv hm hg hsz hrun
    refine region_set (fun V => V.cell? ⟨s, 13, .none⟩ = some (.map (some m1)) ∧ V.rangeAt w.heap.size 0 (thL t)) 6 [] (by kernel_rfl) ?_
    refine set_take (i := 0) (v := .pointer (some ⟨s, 0, .none⟩)) rfl (by kernel_rfl) (by kernel_rfl) (by kernel_rfl) (by kernel_rfl) (fun _ _ _ h => h) (Or.inl ⟨by rfl, fun ww hSw => by obtain ⟨hs1, hs2⟩ := hSw; go_simp⟩) hS ?_
    simp only [Act.put, List.setIfInBounds_toArray, List.set_cons_zero, List.set_cons_succ, List.getElem_toArray, List.getElem_cons_succ, List.getElem_cons_zero]
    refine set_take (i := 1) (v := .pointer (some ⟨s, 0, .none⟩)) rfl (by kernel_rfl) (by kernel_rfl) (by kernel_rfl) (by kernel_rfl) (fun _ _ _ h => h) (Or.inl ⟨by rfl, fun ww hSw => by obtain ⟨hs1, hs2⟩ := hSw; go_simp⟩) hS ?_
    simp only [Act.put, List.setIfInBounds_toArray, List.set_cons_zero, List.set_cons_succ, List.getElem_toArray, List.getElem_cons_succ, List.getElem_cons_zero]
    refine set_take (i := 2) (v := .pointer (some ⟨s, 13, .none⟩)) rfl (by kernel_rfl) (by kernel_rfl) (by kernel_rfl) (by kernel_rfl) (fun _ _ _ h => h) (Or.inl ⟨by rfl, fun ww hSw => by obtain ⟨hs1, hs2⟩ := hSw; go_simp⟩) hS ?_
    simp only [Act.put, List.setIfInBounds_toArray, List.set_cons_zero, List.set_cons_succ, List.getElem_toArray, List.getElem_cons_succ, List.getElem_cons_zero]
    refine set_take (i := 3) (v := .map (some m1)) rfl (by kernel_rfl) (by kernel_rfl) (by kernel_rfl) (by kernel_rfl) (fun _ _ _ h => h) (Or.inl ⟨by rfl, fun ww hSw => by obtain ⟨hs1, hs2⟩ := hSw; go_simp⟩) hS ?_
    simp only [Act.put, List.setIfInBounds_toArray, List.set_cons_zero, List.set_cons_succ, List.getElem_toArray, List.getElem_cons_succ, List.getElem_cons_zero]
    refine set_take (i := 4) (v := .agg ((thL t)).toArray) rfl (by kernel_rfl) (by kernel_rfl) (by kernel_rfl) (by kernel_rfl) (fun _ _ _ h => h) (yieldsIf_load_mid (by rfl) 125 (.tmp 5) rfl (w.heap.size) (0) rfl ((thL t)) _ (fun ww hSw => hSw.2) Try.underlying125 rfl (by first | kernel_rfl | (rw [rfl]; kernel_rfl))) hS ?_
    simp only [Act.put, List.setIfInBounds_toArray, List.set_cons_zero, List.set_cons_succ, List.getElem_toArray, List.getElem_cons_succ, List.getElem_cons_zero]
    refine set_take (i := 5) (v := .int .i64 a) rfl (by kernel_rfl) (by kernel_rfl) (by kernel_rfl) (by kernel_rfl) (fun _ _ _ h => h) (Or.inl ⟨by rfl, fun ww hSw => by obtain ⟨hs1, hs2⟩ := hSw; go_simp⟩) hS ?_
    simp only [Act.put, List.setIfInBounds_toArray, List.set_cons_zero, List.set_cons_succ, List.getElem_toArray, List.getElem_cons_succ, List.getElem_cons_zero]
    refine set_tail 1 6 _ _ _ _ (by kernel_rfl) (by decide) ?_
    simp only [List.toList_toArray, List.drop_succ_cons, List.drop_zero]
    clear hS
    generalize W2.drew = WD at *
    go_wp2
    refine bodyPost_end (results_none rfl _ _ _) rfl ?_
    exact ⟨_, rfl, by rw [HE.out]; exact HV.out⟩
  · have HE : Hid (ent pf t a = pf) := by show _ = _; unfold ent; rw [hd]; rfl
    clear hd
    go_wp2
    refine bodyPost_end (results_none rfl _ _ _) rfl ?_
    exact ⟨_, rfl, by rw [HE.out]; exact ⟨HS.out.1.keep HB.out.1, Fr.of_below HB.out.1⟩⟩
end Go.Proofs.Ythopgmmodldljaa
