import Derived.Test.YtjbealefopajcaaDoorWc
namespace Go.Proofs.YtjbealefopajcaaDoor
open Go Go.RowKit Rg
set_option linter.unusedVariables false
set_option linter.unusedSimpArgs false
set_option maxRecDepth 100000
/-! A file's lines: directories and devices. -/
theorem cells_list {w : World} {q : Nat} {xs : List ByteArray} {t : TypeId} {fz : Nat × Nat} (h : w.heap[q]? = some (.cells (xs.map Value.string).toArray t fz)) : ∀ (j : Nat) x, xs[j]? = some x → w.cell? ⟨q, 0 + j, .none⟩ = some (.string x) := fun j x hj => by
  rw [cell_heap h, Nat.zero_add]
  simp [hj]
theorem new_heap (w : World) (o : Obj) : (w.alloc o).heap[w.heap.size]? = some o := by show (w.heap.push _)[w.heap.size]? = _; simp
set_option maxHeartbeats 4000000 in
theorem file1_any {w : World} {base b : Nat} {ys : List Int} (h : Wr w base b ys) (hb : base ≤ w.heap.size) (hT : TB w) (f : Fl) (hty : f.ty = 1) (dv : Value) (hv : dv.oneCell' = true) (hs : f.path.size ≤ 10000000) (hl : ys.length ≤ 100000000000) (hmj : i16b f.mj) (hmn : i16b f.mn) :
    Calls Tryd.prog 30 #[.pointer (some ⟨b, 0, .none⟩), .agg #[.string f.path, .int .i64 1, .int .i16 f.mj, .int .i16 f.mn, dv]] w fun e w' => e = .returned (.tuple #[]) ∧ Wr w' base b (ys ++ flT f) ∧ KW base b w w' := by
  obtain ⟨s, ty, mj, mn, data⟩ := f
  simp only at hty hs hmj hmn
  subst hty
  have hFT : Hid (flT ⟨s, 1, mj, mn, data⟩ = jnI [⟨#[100, 105, 114]⟩, toB (qt (bsI s))] ++ [10]) := by
    show _ = _
    rw [jn_cons]
    simp only [List.flatMap_cons, List.flatMap_nil, List.append_nil, qtS, itI]
    unfold flT
    simp [itI, List.append_assoc, show (⟨#[100, 105, 114, 32]⟩ : ByteArray) = ⟨#[100, 105, 114, 32]⟩ from rfl]
    try rfl
  have HLN : Hid ((jnI [⟨#[100, 105, 114]⟩, toB (qt (bsI s))]).length ≤ 100000000) := by
    have h1 := qt_len (bsI s)
    rw [bsI_len] at h1
    have h2 := itI_len mj (by unfold i16b at hmj; unfold i64b; omega)
    have h3 := itI_len mn (by unfold i16b at hmn; unfold i64b; omega)
    show _ ≤ _
    rw [jn_cons]
    simp only [List.flatMap_cons, List.flatMap_nil, List.append_nil, qtS, List.length_append, List.length_cons, bsI_len]
    simp only [itI, bsI_len] at h2 h3
    have h4 : (toB (qt (bsI s))).size = (qt (bsI s)).length := toB_size _
    have h5 : (⟨#[100, 105, 114]⟩ : ByteArray).size = 3 := rfl
    have h6 : (⟨#[100, 101, 118]⟩ : ByteArray).size = 3 := rfl
    omega
  obtain ⟨W, hW⟩ : ∃ W, W = (w.alloc (.cells #[.pointer (some ⟨b, 0, .none⟩)] 78)).alloc (.cells #[.string s, .int .i64 1, .int .i16 mj, .int .i16 mn, dv] 43) := ⟨_, rfl⟩
  have b1 : Below w.heap.size w W := by rw [hW]; exact ((Below.refl _ _).alloc (Nat.le_refl _) _).alloc (by simp) _
  have hz : W.heap.size = w.heap.size + 2 := by rw [hW]; simp
  obtain ⟨z, hzz⟩ : ∃ z, z = w.heap.size := ⟨_, rfl⟩
  have k0 : W.heap[z]? = some (.cells #[.pointer (some ⟨b, 0, .none⟩)] 78 (0, 0)) := by rw [hW, hzz, Below.heap_alloc _ _ _ (by simp)]; exact new_heap _ _
  have k1 : W.heap[z + 1]? = some (.cells #[.string s, .int .i64 1, .int .i16 mj, .int .i16 mn, dv] 43 (0, 0)) := by
    have h9 := new_heap (w.alloc (.cells #[.pointer (some ⟨b, 0, .none⟩)] 78)) (.cells #[.string s, .int .i64 1, .int .i16 mj, .int .i16 mn, dv] 43)
    rw [World.size_alloc] at h9
    rw [hW, hzz]; exact h9
  have hzb : b < z := by rw [hzz]; exact h.len
  have HZB : Hid (b < z) := hzb
  clear hzb
  have HW : Hid (Wr W base b ys ∧ KW base b w W ∧ base ≤ W.heap.size ∧ TB W ∧ z + 1 < W.heap.size) := ⟨h.keep b1, KW.of b1, by omega, hT.keep b1, by omega⟩
  have hwj : IntKind.i64.wrap mj = mj := by rw [IntKind.wrap_i64]; unfold i16b at hmj; omega
  have hwn : IntKind.i64.wrap mn = mn := by rw [IntKind.wrap_i64]; unfold i16b at hmn; omega
  have HL : Hid (ys.length ≤ 100000000000) := hl
  have HMJ : Hid (i64b mj ∧ i64b mn) := by unfold i16b at hmj hmn; constructor <;> (unfold i64b; omega)
  obtain ⟨hj0, hj1⟩ := hmj
  obtain ⟨hn0, hn1⟩ := hmn
  have HWW : Hid (W = (w.alloc (.cells #[.pointer (some ⟨b, 0, .none⟩)] 78)).alloc (.cells #[.string s, .int .i64 1, .int .i16 mj, .int .i16 mn, dv] 43)) := hW
  have HZZ : Hid (z = w.heap.size) := hzz
  clear hW hzz b1 hz h hb hT hl
  go_enter Tryd.func30, Tryd.ntmps30
  go_upto_region 3 with fail
  rw [← HWW.out, ← HZZ.out]
  clear HWW HZZ hv
  refine wp_region_held_drew (S := (fun U => U.heap[z]? = some (.cells #[.pointer (some ⟨b, 0, .none⟩)] 78 (0, 0)) ∧ U.heap[z + 1]? = some (.cells #[.string s, .int .i64 1, .int .i16 mj, .int .i16 mn, dv] 43 (0, 0)))) (by kernel_rfl) ⟨k0, k1⟩ (fun hHeld => ?_)
  refine nT 0 (.pointer (some ⟨b, 0, .none⟩)) rfl ?_ (fun ww hSw => by have c2 : ww.cell? ⟨z, 0, .none⟩ = some (.pointer (some ⟨b, 0, .none⟩)) := cell_heap hSw.1; go_simp)
  simp only [x0,x1,x2,x3,x4,x5,x6]
  refine nT 1 (.pointer (some ⟨z + 1, 0, .none⟩)) rfl ?_ (fun ww hSw => by go_simp)
  simp only [x0,x1,x2,x3,x4,x5,x6]
  refine nT 2 (.string s) rfl ?_ (fun ww hSw => by have c2 : ww.cell? ⟨z + 1, 0, .none⟩ = some (.string s) := cell_heap hSw.2; go_simp)
  simp only [x0,x1,x2,x3,x4,x5,x6]
  have HS0 : Hid ((fun U : World => U.heap[z]? = some (.cells #[.pointer (some ⟨b, 0, .none⟩)] 78 (0, 0)) ∧ U.heap[z + 1]? = some (.cells #[.string s, .int .i64 1, .int .i16 mj, .int .i16 mn, dv] 43 (0, 0))) W) := ⟨k0, k1⟩
  clear k0 k1
  have c29 := quote_any s (by omega) W.drew
  refine wpAnyH_ready (rs := [3]) (by kernel_rfl) (by simp) ?_
  refine AllReadyH.cons rfl (fun K hK => ?_) AllReadyH.nil
  go_simp
  go_at_call 29
  refine c29.mono ?_
  rintro _ w1 ⟨rfl, b1⟩
  have HW1 : Hid (Wr w1 base b ys ∧ KW base b w w1 ∧ base ≤ w1.heap.size ∧ TB w1 ∧ z + 1 < w1.heap.size ∧ ((fun U : World => U.heap[z]? = some (.cells #[.pointer (some ⟨b, 0, .none⟩)] 78 (0, 0)) ∧ U.heap[z + 1]? = some (.cells #[.string s, .int .i64 1, .int .i16 mj, .int .i16 mn, dv] 43 (0, 0))) w1)) := by
    have c := HW.out
    have hb2 : Below W.heap.size W w1 := (Below.refl _ _).drew.trans b1
    refine ⟨c.1.keep hb2, c.2.1.trans (KW.of hb2), Nat.le_trans c.2.2.1 hb2.size, c.2.2.2.1.keep hb2, Nat.lt_of_lt_of_le c.2.2.2.2 hb2.size, ?_⟩
    have q := HS0.out
    have hz1 := c.2.2.2.2
    exact ⟨(hb2.block z (by omega)).trans q.1, (hb2.block (z + 1) (by omega)).trans q.2⟩
  clear b1 c29 HS0
  refine hK.out _ _ HW1.out.2.2.2.2.2 (fun hHeld => ?_)
  clear hK K
  try simp only [x0,x1,x2,x3,x4,x5,x6]
  refine wpAnyH_ready (rs := [4]) (by kernel_rfl) (by simp) ?_
  refine AllReadyH.cons rfl (fun K hK => ?_) AllReadyH.nil
  go_simp
  obtain ⟨V, hV⟩ : ∃ V, V = w1.alloc (.cells #[.string (⟨#[100, 105, 114]⟩), .string (toB (qt (bsI s)))] 9) := ⟨_, rfl⟩
  rw [← hV]
  have HV : Hid (Wr V base b ys ∧ KW base b w V ∧ base ≤ V.heap.size ∧ w1.heap.size < V.heap.size ∧ V.heap[w1.heap.size]? = some (.cells (([⟨#[100, 105, 114]⟩, toB (qt (bsI s))] : List ByteArray).map Value.string).toArray 9 (0, 0)) ∧ ((fun U : World => U.heap[z]? = some (.cells #[.pointer (some ⟨b, 0, .none⟩)] 78 (0, 0)) ∧ U.heap[z + 1]? = some (.cells #[.string s, .int .i64 1, .int .i16 mj, .int .i16 mn, dv] 43 (0, 0))) V)) := by
    have c := HW1.out
    have b1 : Below w1.heap.size w1 V := by rw [hV]; exact below1 _ _
    have q := c.2.2.2.2.2
    have hz1 := c.2.2.2.2.1
    refine ⟨c.1.keep b1, c.2.1.trans (KW.of b1), Nat.le_trans c.2.2.1 b1.size, by rw [hV]; simp, by rw [hV]; exact new_heap _ _, ?_⟩
    exact ⟨(b1.block z (by omega)).trans q.1, (b1.block (z + 1) (by omega)).trans q.2⟩
  clear hV
  refine hK.out _ _ HV.out.2.2.2.2.2 (fun hHeld => ?_)
  clear hK K
  try simp only [x0,x1,x2,x3,x4,x5,x6]
  have c27 := line_any (o := 0) HV.out.1 HV.out.2.2.1 (cells_list HV.out.2.2.2.2.1) HV.out.2.2.2.1 (xs := [⟨#[100, 105, 114]⟩, toB (qt (bsI s))]) (c := 2) (by simp) (by simp) (by have h1 := HLN.out; have h2 := HL.out; omega)
  refine wpAnyH_ready (rs := [5]) (by kernel_rfl) (by simp) ?_
  refine AllReadyH.cons rfl (fun K hK => ?_) AllReadyH.nil
  go_simp
  go_at_call 27
  refine c27.mono ?_
  rintro _ w9 ⟨rfl, wr9, k9⟩
  have H9 : Hid (Wr w9 base b (ys ++ flT ⟨s, 1, mj, mn, data⟩) ∧ KW base b w w9) := ⟨by rw [hFT.out, ← List.append_assoc]; exact wr9, HV.out.2.1.trans k9⟩
  refine hK.out _ _ ?_ (fun hHeld => ?_)
  · exact ⟨k9.block z _ HV.out.2.2.2.2.2.1 (by have := HZB.out; omega) (.inr (by rintro ⟨cur, fz, e⟩; cases e)), k9.block (z + 1) _ HV.out.2.2.2.2.2.2 (by have := HZB.out; omega) (.inr (by rintro ⟨cur, fz, e⟩; cases e))⟩
  clear hK K wr9 k9 c27
  refine wpAnyH_done (by kernel_rfl) ?_ _
  go_wp2
  go_end0
  exact ⟨rfl, H9.out.1, H9.out.2⟩
set_option maxHeartbeats 4000000 in
theorem file3_any {w : World} {base b : Nat} {ys : List Int} (h : Wr w base b ys) (hb : base ≤ w.heap.size) (hT : TB w) (f : Fl) (hty : f.ty = 3) (dv : Value) (hv : dv.oneCell' = true) (hs : f.path.size ≤ 10000000) (hl : ys.length ≤ 100000000000) (hmj : i16b f.mj) (hmn : i16b f.mn) :
    Calls Tryd.prog 30 #[.pointer (some ⟨b, 0, .none⟩), .agg #[.string f.path, .int .i64 3, .int .i16 f.mj, .int .i16 f.mn, dv]] w fun e w' => e = .returned (.tuple #[]) ∧ Wr w' base b (ys ++ flT f) ∧ KW base b w w' := by
  obtain ⟨s, ty, mj, mn, data⟩ := f
  simp only at hty hs hmj hmn
  subst hty
  have hFT : Hid (flT ⟨s, 3, mj, mn, data⟩ = jnI [⟨#[100, 101, 118]⟩, toB (qt (bsI s)), itS mj, itS mn] ++ [10]) := by
    show _ = _
    rw [jn_cons]
    simp only [List.flatMap_cons, List.flatMap_nil, List.append_nil, qtS, itI]
    unfold flT
    simp [itI, List.append_assoc, show (⟨#[100, 105, 114, 32]⟩ : ByteArray) = ⟨#[100, 105, 114, 32]⟩ from rfl]
    try rfl
  have HLN : Hid ((jnI [⟨#[100, 101, 118]⟩, toB (qt (bsI s)), itS mj, itS mn]).length ≤ 100000000) := by
    have h1 := qt_len (bsI s)
    rw [bsI_len] at h1
    have h2 := itI_len mj (by unfold i16b at hmj; unfold i64b; omega)
    have h3 := itI_len mn (by unfold i16b at hmn; unfold i64b; omega)
    show _ ≤ _
    rw [jn_cons]
    simp only [List.flatMap_cons, List.flatMap_nil, List.append_nil, qtS, List.length_append, List.length_cons, bsI_len]
    simp only [itI, bsI_len] at h2 h3
    have h4 : (toB (qt (bsI s))).size = (qt (bsI s)).length := toB_size _
    have h5 : (⟨#[100, 105, 114]⟩ : ByteArray).size = 3 := rfl
    have h6 : (⟨#[100, 101, 118]⟩ : ByteArray).size = 3 := rfl
    omega
  obtain ⟨W, hW⟩ : ∃ W, W = (w.alloc (.cells #[.pointer (some ⟨b, 0, .none⟩)] 78)).alloc (.cells #[.string s, .int .i64 3, .int .i16 mj, .int .i16 mn, dv] 43) := ⟨_, rfl⟩
  have b1 : Below w.heap.size w W := by rw [hW]; exact ((Below.refl _ _).alloc (Nat.le_refl _) _).alloc (by simp) _
  have hz : W.heap.size = w.heap.size + 2 := by rw [hW]; simp
  obtain ⟨z, hzz⟩ : ∃ z, z = w.heap.size := ⟨_, rfl⟩
  have k0 : W.heap[z]? = some (.cells #[.pointer (some ⟨b, 0, .none⟩)] 78 (0, 0)) := by rw [hW, hzz, Below.heap_alloc _ _ _ (by simp)]; exact new_heap _ _
  have k1 : W.heap[z + 1]? = some (.cells #[.string s, .int .i64 3, .int .i16 mj, .int .i16 mn, dv] 43 (0, 0)) := by
    have h9 := new_heap (w.alloc (.cells #[.pointer (some ⟨b, 0, .none⟩)] 78)) (.cells #[.string s, .int .i64 3, .int .i16 mj, .int .i16 mn, dv] 43)
    rw [World.size_alloc] at h9
    rw [hW, hzz]; exact h9
  have hzb : b < z := by rw [hzz]; exact h.len
  have HZB : Hid (b < z) := hzb
  clear hzb
  have HW : Hid (Wr W base b ys ∧ KW base b w W ∧ base ≤ W.heap.size ∧ TB W ∧ z + 1 < W.heap.size) := ⟨h.keep b1, KW.of b1, by omega, hT.keep b1, by omega⟩
  have hwj : IntKind.i64.wrap mj = mj := by rw [IntKind.wrap_i64]; unfold i16b at hmj; omega
  have hwn : IntKind.i64.wrap mn = mn := by rw [IntKind.wrap_i64]; unfold i16b at hmn; omega
  have HL : Hid (ys.length ≤ 100000000000) := hl
  have HMJ : Hid (i64b mj ∧ i64b mn) := by unfold i16b at hmj hmn; constructor <;> (unfold i64b; omega)
  obtain ⟨hj0, hj1⟩ := hmj
  obtain ⟨hn0, hn1⟩ := hmn
  have HWW : Hid (W = (w.alloc (.cells #[.pointer (some ⟨b, 0, .none⟩)] 78)).alloc (.cells #[.string s, .int .i64 3, .int .i16 mj, .int .i16 mn, dv] 43)) := hW
  have HZZ : Hid (z = w.heap.size) := hzz
  clear hW hzz b1 hz h hb hT hl
  go_enter Tryd.func30, Tryd.ntmps30
  go_upto_region 5 with fail
  rw [← HWW.out, ← HZZ.out]
  clear HWW HZZ hv
  refine wp_region_held_drew (S := (fun U => U.heap[z]? = some (.cells #[.pointer (some ⟨b, 0, .none⟩)] 78 (0, 0)) ∧ U.heap[z + 1]? = some (.cells #[.string s, .int .i64 3, .int .i16 mj, .int .i16 mn, dv] 43 (0, 0)))) (by kernel_rfl) ⟨k0, k1⟩ (fun hHeld => ?_)
  refine nT 0 (.pointer (some ⟨b, 0, .none⟩)) rfl ?_ (fun ww hSw => by have c2 : ww.cell? ⟨z, 0, .none⟩ = some (.pointer (some ⟨b, 0, .none⟩)) := cell_heap hSw.1; go_simp)
  simp only [x0,x1,x2,x3,x4,x5,x6]
  refine nT 1 (.pointer (some ⟨z + 1, 0, .none⟩)) rfl ?_ (fun ww hSw => by go_simp)
  simp only [x0,x1,x2,x3,x4,x5,x6]
  refine nT 2 (.string s) rfl ?_ (fun ww hSw => by have c2 : ww.cell? ⟨z + 1, 0, .none⟩ = some (.string s) := cell_heap hSw.2; go_simp)
  simp only [x0,x1,x2,x3,x4,x5,x6]
  refine nT 4 (.pointer (some ⟨z + 1, 2, .none⟩)) rfl ?_ (fun ww hSw => by go_simp)
  simp only [x0,x1,x2,x3,x4,x5,x6]
  refine nT 5 (.int .i16 mj) rfl ?_ (fun ww hSw => by have c2 : ww.cell? ⟨z + 1, 2, .none⟩ = some (.int .i16 mj) := cell_heap hSw.2; go_simp)
  simp only [x0,x1,x2,x3,x4,x5,x6]
  refine nT 6 (.int .i64 mj) rfl ?_ (fun ww hSw => by go_simp)
  simp only [x0,x1,x2,x3,x4,x5,x6]
  refine nT 8 (.pointer (some ⟨z + 1, 3, .none⟩)) rfl ?_ (fun ww hSw => by go_simp)
  simp only [x0,x1,x2,x3,x4,x5,x6]
  refine nT 9 (.int .i16 mn) rfl ?_ (fun ww hSw => by have c2 : ww.cell? ⟨z + 1, 3, .none⟩ = some (.int .i16 mn) := cell_heap hSw.2; go_simp)
  simp only [x0,x1,x2,x3,x4,x5,x6]
  refine nT 10 (.int .i64 mn) rfl ?_ (fun ww hSw => by go_simp)
  simp only [x0,x1,x2,x3,x4,x5,x6]
  have HS0 : Hid ((fun U : World => U.heap[z]? = some (.cells #[.pointer (some ⟨b, 0, .none⟩)] 78 (0, 0)) ∧ U.heap[z + 1]? = some (.cells #[.string s, .int .i64 3, .int .i16 mj, .int .i16 mn, dv] 43 (0, 0))) W) := ⟨k0, k1⟩
  clear k0 k1
  have c29 := quote_any s (by omega) W.drew
  refine wpAnyH_ready (rs := [3]) (by kernel_rfl) (by simp) ?_
  refine AllReadyH.cons rfl (fun K hK => ?_) AllReadyH.nil
  go_simp
  go_at_call 29
  refine c29.mono ?_
  rintro _ w1 ⟨rfl, b1⟩
  have HW1 : Hid (Wr w1 base b ys ∧ KW base b w w1 ∧ base ≤ w1.heap.size ∧ TB w1 ∧ z + 1 < w1.heap.size ∧ ((fun U : World => U.heap[z]? = some (.cells #[.pointer (some ⟨b, 0, .none⟩)] 78 (0, 0)) ∧ U.heap[z + 1]? = some (.cells #[.string s, .int .i64 3, .int .i16 mj, .int .i16 mn, dv] 43 (0, 0))) w1)) := by
    have c := HW.out
    have hb2 : Below W.heap.size W w1 := (Below.refl _ _).drew.trans b1
    refine ⟨c.1.keep hb2, c.2.1.trans (KW.of hb2), Nat.le_trans c.2.2.1 hb2.size, c.2.2.2.1.keep hb2, Nat.lt_of_lt_of_le c.2.2.2.2 hb2.size, ?_⟩
    have q := HS0.out
    have hz1 := c.2.2.2.2
    exact ⟨(hb2.block z (by omega)).trans q.1, (hb2.block (z + 1) (by omega)).trans q.2⟩
  clear b1 c29 HS0
  refine hK.out _ _ HW1.out.2.2.2.2.2 (fun hHeld => ?_)
  clear hK K
  try simp only [x0,x1,x2,x3,x4,x5,x6]
  have c28 := itoa_any mj HMJ.out.1 HW1.out.2.2.2.1
  refine wpAnyH_ready (rs := [7]) (by kernel_rfl) (by simp) ?_
  refine AllReadyH.cons rfl (fun K hK => ?_) AllReadyH.nil
  go_simp
  go_at_call 28
  refine c28.mono ?_
  rintro _ w2 ⟨rfl, b1⟩
  have Hw2 : Hid (Wr w2 base b ys ∧ KW base b w w2 ∧ base ≤ w2.heap.size ∧ TB w2 ∧ z + 1 < w2.heap.size ∧ ((fun U : World => U.heap[z]? = some (.cells #[.pointer (some ⟨b, 0, .none⟩)] 78 (0, 0)) ∧ U.heap[z + 1]? = some (.cells #[.string s, .int .i64 3, .int .i16 mj, .int .i16 mn, dv] 43 (0, 0))) w2)) := by
    have c := HW1.out
    refine ⟨c.1.keep b1, c.2.1.trans (KW.of b1), Nat.le_trans c.2.2.1 b1.size, c.2.2.2.1.keep b1, Nat.lt_of_lt_of_le c.2.2.2.2.1 b1.size, ?_⟩
    have q := c.2.2.2.2.2
    have hz1 := c.2.2.2.2.1
    exact ⟨(b1.block z (by omega)).trans q.1, (b1.block (z + 1) (by omega)).trans q.2⟩
  clear b1 c28
  refine hK.out _ _ Hw2.out.2.2.2.2.2 (fun hHeld => ?_)
  clear hK K
  try simp only [x0,x1,x2,x3,x4,x5,x6]
  have c28 := itoa_any mn HMJ.out.2 Hw2.out.2.2.2.1
  refine wpAnyH_ready (rs := [11]) (by kernel_rfl) (by simp) ?_
  refine AllReadyH.cons rfl (fun K hK => ?_) AllReadyH.nil
  go_simp
  go_at_call 28
  refine c28.mono ?_
  rintro _ w3 ⟨rfl, b1⟩
  have Hw3 : Hid (Wr w3 base b ys ∧ KW base b w w3 ∧ base ≤ w3.heap.size ∧ TB w3 ∧ z + 1 < w3.heap.size ∧ ((fun U : World => U.heap[z]? = some (.cells #[.pointer (some ⟨b, 0, .none⟩)] 78 (0, 0)) ∧ U.heap[z + 1]? = some (.cells #[.string s, .int .i64 3, .int .i16 mj, .int .i16 mn, dv] 43 (0, 0))) w3)) := by
    have c := Hw2.out
    refine ⟨c.1.keep b1, c.2.1.trans (KW.of b1), Nat.le_trans c.2.2.1 b1.size, c.2.2.2.1.keep b1, Nat.lt_of_lt_of_le c.2.2.2.2.1 b1.size, ?_⟩
    have q := c.2.2.2.2.2
    have hz1 := c.2.2.2.2.1
    exact ⟨(b1.block z (by omega)).trans q.1, (b1.block (z + 1) (by omega)).trans q.2⟩
  clear b1 c28
  refine hK.out _ _ Hw3.out.2.2.2.2.2 (fun hHeld => ?_)
  clear hK K
  try simp only [x0,x1,x2,x3,x4,x5,x6]
  refine wpAnyH_ready (rs := [12]) (by kernel_rfl) (by simp) ?_
  refine AllReadyH.cons rfl (fun K hK => ?_) AllReadyH.nil
  go_simp
  obtain ⟨V, hV⟩ : ∃ V, V = w3.alloc (.cells #[.string (⟨#[100, 101, 118]⟩), .string (toB (qt (bsI s))), .string (itS mj), .string (itS mn)] 9) := ⟨_, rfl⟩
  rw [← hV]
  have HV : Hid (Wr V base b ys ∧ KW base b w V ∧ base ≤ V.heap.size ∧ w3.heap.size < V.heap.size ∧ V.heap[w3.heap.size]? = some (.cells (([⟨#[100, 101, 118]⟩, toB (qt (bsI s)), itS mj, itS mn] : List ByteArray).map Value.string).toArray 9 (0, 0)) ∧ ((fun U : World => U.heap[z]? = some (.cells #[.pointer (some ⟨b, 0, .none⟩)] 78 (0, 0)) ∧ U.heap[z + 1]? = some (.cells #[.string s, .int .i64 3, .int .i16 mj, .int .i16 mn, dv] 43 (0, 0))) V)) := by
    have c := Hw3.out
    have b1 : Below w3.heap.size w3 V := by rw [hV]; exact below1 _ _
    have q := c.2.2.2.2.2
    have hz1 := c.2.2.2.2.1
    refine ⟨c.1.keep b1, c.2.1.trans (KW.of b1), Nat.le_trans c.2.2.1 b1.size, by rw [hV]; simp, by rw [hV]; exact new_heap _ _, ?_⟩
    exact ⟨(b1.block z (by omega)).trans q.1, (b1.block (z + 1) (by omega)).trans q.2⟩
  clear hV
  refine hK.out _ _ HV.out.2.2.2.2.2 (fun hHeld => ?_)
  clear hK K
  try simp only [x0,x1,x2,x3,x4,x5,x6]
  have c27 := line_any (o := 0) HV.out.1 HV.out.2.2.1 (cells_list HV.out.2.2.2.2.1) HV.out.2.2.2.1 (xs := [⟨#[100, 101, 118]⟩, toB (qt (bsI s)), itS mj, itS mn]) (c := 4) (by simp) (by simp) (by have h1 := HLN.out; have h2 := HL.out; omega)
  refine wpAnyH_ready (rs := [13]) (by kernel_rfl) (by simp) ?_
  refine AllReadyH.cons rfl (fun K hK => ?_) AllReadyH.nil
  go_simp
  go_at_call 27
  refine c27.mono ?_
  rintro _ w9 ⟨rfl, wr9, k9⟩
  have H9 : Hid (Wr w9 base b (ys ++ flT ⟨s, 3, mj, mn, data⟩) ∧ KW base b w w9) := ⟨by rw [hFT.out, ← List.append_assoc]; exact wr9, HV.out.2.1.trans k9⟩
  refine hK.out _ _ ?_ (fun hHeld => ?_)
  · exact ⟨k9.block z _ HV.out.2.2.2.2.2.1 (by have := HZB.out; omega) (.inr (by rintro ⟨cur, fz, e⟩; cases e)), k9.block (z + 1) _ HV.out.2.2.2.2.2.2 (by have := HZB.out; omega) (.inr (by rintro ⟨cur, fz, e⟩; cases e))⟩
  clear hK K wr9 k9 c27
  refine wpAnyH_done (by kernel_rfl) ?_ _
  go_wp2
  go_end0
  exact ⟨rfl, H9.out.1, H9.out.2⟩
end Go.Proofs.YtjbealefopajcaaDoor
