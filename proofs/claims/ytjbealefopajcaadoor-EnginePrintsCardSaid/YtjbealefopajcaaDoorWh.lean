import Derived.Test.YtjbealefopajcaaDoorWg
namespace Go.Proofs.YtjbealefopajcaaDoor
open Go Go.RowKit Rg
set_option linter.unusedVariables false
set_option linter.unusedSimpArgs false
set_option maxRecDepth 100000
theorem bdA {l m : List Int} (h : ∀ y ∈ l, 0 ≤ y ∧ y < 256) (k : ∀ y ∈ m, 0 ≤ y ∧ y < 256) : ∀ y ∈ l ++ m, 0 ≤ y ∧ y < 256 := fun y hy => (List.mem_append.1 hy).elim (h y) (k y)
theorem bdF {α : Type} {l : List α} {f : α → List Int} (h : ∀ x ∈ l, ∀ y ∈ f x, 0 ≤ y ∧ y < 256) : ∀ y ∈ l.flatMap f, 0 ≤ y ∧ y < 256 := fun y hy => by
  obtain ⟨x, hx, hy⟩ := List.mem_flatMap.1 hy
  exact h x hx y hy
theorem bd10 : ∀ y ∈ ([10] : List Int), 0 ≤ y ∧ y < 256 := fun y hy => by simp only [List.mem_singleton] at hy; omega
theorem bd32 : ∀ y ∈ ([32] : List Int), 0 ≤ y ∧ y < 256 := fun y hy => by simp only [List.mem_singleton] at hy; omega
theorem tk_bd (ts : List Int) : ∀ i, ∀ y ∈ tkP ts i, 0 ≤ y ∧ y < 256
  | 0 => fun y hy => by simp [tkP] at hy
  | i + 1 => by
    rw [tkP]
    refine bdA (bdA (bdA (tk_bd ts i) (fun y hy => ?_)) (bdA bd32 (bsI_bd _))) (fun y hy => ?_)
    · split at hy
      · simp only [List.mem_cons, List.not_mem_nil, or_false] at hy; omega
      · cases hy
    · split at hy
      · exact bd10 y hy
      · cases hy
theorem fl_bd {f : Fl} (h : ∀ x ∈ f.data, 0 ≤ x ∧ x < 256) : ∀ y ∈ flT f, 0 ≤ y ∧ y < 256 := by
  unfold flT
  split
  · exact bdA (bdA (bsI_bd _) (qt_bd (bsI_bd _))) bd10
  · split
    · exact bdA (bdA (bdA (bsI_bd _) (qt_bd (bsI_bd _))) bd10) (blk_bd _ h)
    · split
      · exact bdA (bdA (bdA (bdA (bdA (bdA (bsI_bd _) (qt_bd (bsI_bd _))) bd32) (bsI_bd _)) bd32) (bsI_bd _)) bd10
      · exact fun y hy => by cases hy
theorem in_bd {f : Ip} (h : ∀ x ∈ f.data, 0 ≤ x ∧ x < 256) : ∀ y ∈ inT f, 0 ≤ y ∧ y < 256 := by
  unfold inT
  exact bdA (bdA (bdA (bdA (bsI_bd _) (bsI_bd _)) bd32) (qt_bd h)) bd10
theorem tx_bd {S : Sc} (h : ScB S) : ∀ y ∈ txT S, 0 ≤ y ∧ y < 256 := by
  unfold txT hdT
  refine bdA (bdA (bdA (bdA (bdA (bdA (bdA (bdA (bdA (bsI_bd _) (bsI_bd _)) (bsI_bd _)) (bsI_bd _)) (bsI_bd _)) (qt_bd (bsI_bd _))) bd10) (bdF fun f hf => fl_bd (h.fs f hf).2.2.2.2.2)) (tk_bd _ _)) (bdF fun f hf => in_bd (h.is f hf).2.2)
theorem tx_ne (S : Sc) : txT S ≠ [] := fun e => by
  have h := congrArg List.length e
  unfold txT hdT at h
  simp only [List.length_append, bsI_len] at h
  have h1 : (⟨#[102, 114, 97, 109, 101, 115, 32]⟩ : ByteArray).size = 7 := rfl
  simp only [List.length_nil] at h
  omega
theorem scz_of {w : World} {z : Nat} {S : Sc} {fv tv iv : Value} {fz : Nat × Nat} (h : w.heap[z]? = some (.cells (scL S fv tv iv).toArray 26 fz)) : ScZ w z S fv tv iv := ⟨cell_heap h, cell_heap h, cell_heap h, cell_heap h, cell_heap h, cell_heap h⟩
set_option maxHeartbeats 8000000 in
theorem written_any {w : World} {X : Nat} {fv tv iv : Value} {S : Sc} (h : ScW w X fv tv iv S) (hB : ScB S) (hF : Few S) (hX : X ≤ w.heap.size) (hT : TB w) (h3 : 3 ≤ w.heap.size) (hok : wrongF S = none) :
    Calls Tryd.prog 14 #[.agg (scL S fv tv iv).toArray] w fun e w' => e = .returned (.string (toB (txT S))) ∧ Below w.heap.size w w' := by
  obtain ⟨fp, fc, rfl⟩ := h.fs.form
  obtain ⟨tp, tc, rfl⟩ := h.ts.form
  obtain ⟨ip, ic, rfl⟩ := h.is.form
  obtain ⟨nf, hnf⟩ : ∃ n, n = S.files.length := ⟨_, rfl⟩
  obtain ⟨nt, hnt⟩ : ∃ n, n = S.ticks.length := ⟨_, rfl⟩
  obtain ⟨ni, hni⟩ : ∃ n, n = S.ins.length := ⟨_, rfl⟩
  rw [← hnf, ← hnt, ← hni] at h ⊢
  have hsz := hF.sz
  unfold fewN at hsz
  have hw := wrong_none hok
  have H : Hid (ScW w X (.slice fp nf fc) (.slice tp nt tc) (.slice ip ni ic) S ∧ X ≤ w.heap.size ∧ ScB S ∧ ∀ f ∈ S.files, f.ty = 1 ∨ f.ty = 2 ∨ f.ty = 3) := ⟨h, hX, hB, fun f hf => okFl_ty (hw.1 f hf)⟩
  have HN : Hid (nf = S.files.length ∧ ni = S.ins.length ∧ nt = S.ticks.length ∧ (nf ≤ 64 ∧ nt ≤ 4096 ∧ ni ≤ 4096) ∧ (sumN (S.files.map fSz) ≤ 1100000 ∧ sumN (S.ins.map iSz) ≤ 1100000) ∧ S.init.size ≤ 1100000) := ⟨hnf, hni, hnt, by omega, by omega, by omega⟩
  have hH : hdT S = jnI [⟨#[102, 114, 97, 109, 101, 115]⟩, itS S.fr] ++ [10] ++ jnI [⟨#[98, 117, 100, 103, 101, 116]⟩, itS S.bu] ++ [10] ++ jnI [⟨#[105, 110, 105, 116]⟩, toB (qt (bsI S.init))] ++ [10] := by
    simp only [jn_cons, List.flatMap_cons, List.flatMap_nil, List.append_nil, qtS]
    unfold hdT itI
    simp only [List.append_assoc, List.cons_append, List.nil_append]
    rfl
  have hJ1 : (jnI [⟨#[102, 114, 97, 109, 101, 115]⟩, itS S.fr]).length ≤ 100 := by
    rw [jn_cons]; simp only [List.flatMap_cons, List.flatMap_nil, List.append_nil, List.length_append, List.length_cons]
    have h9 := itI_len S.fr hB.fr
    have h8 : (bsI ⟨#[102, 114, 97, 109, 101, 115]⟩).length = 6 := by rw [bsI_len]; rfl
    unfold itI at h9; omega
  have hJ2 : (jnI [⟨#[98, 117, 100, 103, 101, 116]⟩, itS S.bu]).length ≤ 100 := by
    rw [jn_cons]; simp only [List.flatMap_cons, List.flatMap_nil, List.append_nil, List.length_append, List.length_cons]
    have h9 := itI_len S.bu hB.bu
    have h8 : (bsI ⟨#[98, 117, 100, 103, 101, 116]⟩).length = 6 := by rw [bsI_len]; rfl
    unfold itI at h9; omega
  have hJ3 : (jnI [⟨#[105, 110, 105, 116]⟩, toB (qt (bsI S.init))]).length ≤ 5000000 := by
    rw [jn_cons]; simp only [List.flatMap_cons, List.flatMap_nil, List.append_nil, List.length_append, List.length_cons, qtS]
    have h9 := qt_len (bsI S.init)
    rw [bsI_len] at h9
    have h8 : (bsI ⟨#[105, 110, 105, 116]⟩).length = 4 := by rw [bsI_len]; rfl
    omega
  have HJ : Hid ((jnI [⟨#[102, 114, 97, 109, 101, 115]⟩, itS S.fr]).length ≤ 100 ∧ (jnI [⟨#[98, 117, 100, 103, 101, 116]⟩, itS S.bu]).length ≤ 100 ∧ (jnI [⟨#[105, 110, 105, 116]⟩, toB (qt (bsI S.init))]).length ≤ 5000000) := ⟨hJ1, hJ2, hJ3⟩
  have HH : Hid ((hdT S).length ≤ 6000000) := by show _ ≤ _; rw [hH]; simp only [List.length_append, List.length_singleton]; omega
  have HHD : Hid (hdT S = jnI [⟨#[102, 114, 97, 109, 101, 115]⟩, itS S.fr] ++ [10] ++ jnI [⟨#[98, 117, 100, 103, 101, 116]⟩, itS S.bu] ++ [10] ++ jnI [⟨#[105, 110, 105, 116]⟩, toB (qt (bsI S.init))] ++ [10]) := hH
  clear h hnf hnt hni hF hX hsz hw hH hJ1 hJ2 hJ3 hB hok
  obtain ⟨W0, hW0⟩ : ∃ W0, W0 = (w.alloc (.cells (scL S (.slice fp nf fc) (.slice tp nt tc) (.slice ip ni ic)).toArray 26)).alloc (.cells #[.pointer .none, .slice .none 0 0] 71) := ⟨_, rfl⟩
  obtain ⟨z, hz⟩ : ∃ z, z = w.heap.size := ⟨_, rfl⟩
  have HW0 : Hid (Wr W0 z (z + 1) [] ∧ KW z (z + 1) w W0 ∧ z ≤ W0.heap.size ∧ TB W0 ∧ W0.heap[z]? = some (.cells (scL S (.slice fp nf fc) (.slice tp nt tc) (.slice ip ni ic)).toArray 26 (0, 0))) := by
    have b1 : Below w.heap.size w W0 := by rw [hW0]; exact ((Below.refl _ _).alloc (Nat.le_refl _) _).alloc (by simp) _
    have h9 := new_heap (w.alloc (.cells (scL S (.slice fp nf fc) (.slice tp nt tc) (.slice ip ni ic)).toArray 26)) (.cells #[.pointer .none, .slice .none 0 0] 71)
    rw [World.size_alloc] at h9
    refine ⟨⟨Nat.le_succ z, _, _, .inl rfl, by rw [hW0, hz]; exact h9, World.ownsRow_nil _ _ _ _⟩, KW.of b1, by rw [hz]; exact b1.size, hT.keep b1, ?_⟩
    rw [hW0, hz, Below.heap_alloc _ _ _ (by simp)]; exact new_heap _ _
  have HZ : Hid (z = w.heap.size ∧ 3 ≤ z) := ⟨hz, by omega⟩
  have HWW : Hid (W0 = (w.alloc (.cells (scL S (.slice fp nf fc) (.slice tp nt tc) (.slice ip ni ic)).toArray 26)).alloc (.cells #[.pointer .none, .slice .none 0 0] 71)) := hW0
  clear hW0 hz hT h3
  go_enter Tryd.func14, Tryd.ntmps14
  go_upto_region 2 with fail
  rw [← HWW.out, ← HZ.out.1]
  have c28 := itoa_any S.fr H.out.2.2.1.fr HW0.out.2.2.2.1
  have k2 := (scz_of HW0.out.2.2.2.2).c0
  go_upto_region 3 with (first | (go_at_call 28; refine c28.mono ?_; rintro _ v2 ⟨rfl, b1⟩; have HV2 : Hid (Wr v2 z (z + 1) ([]) ∧ KW z (z + 1) w v2 ∧ z ≤ v2.heap.size ∧ TB v2 ∧ v2.heap[z]? = some (.cells (scL S (.slice fp nf fc) (.slice tp nt tc) (.slice ip ni ic)).toArray 26 (0, 0))) := ⟨HW0.out.1.keep b1, HW0.out.2.1.trans (KW.of b1), Nat.le_trans HW0.out.2.2.1 b1.size, HW0.out.2.2.2.1.keep b1, (b1.block z (hp_lt HW0.out.2.2.2.2)).trans HW0.out.2.2.2.2⟩; clear b1 c28 k2; have c27 := line2 HV2.out.1 HV2.out.2.2.1 ⟨#[102, 114, 97, 109, 101, 115]⟩ (itS S.fr) (by have h9 := HJ.out.1; have h8 := HJ.out.2.1; have h7 := HJ.out.2.2; simp only [List.length_append, List.length_nil, List.length_singleton]; omega)) | (go_at_call 27; refine c27.mono ?_; rintro _ W1 ⟨rfl, wr9, k9⟩; have HW1 : Hid (Wr W1 z (z + 1) ([] ++ jnI [⟨#[102, 114, 97, 109, 101, 115]⟩, (itS S.fr)] ++ [10]) ∧ KW z (z + 1) w W1 ∧ z ≤ W1.heap.size ∧ TB W1 ∧ W1.heap[z]? = some (.cells (scL S (.slice fp nf fc) (.slice tp nt tc) (.slice ip ni ic)).toArray 26 (0, 0))) := ⟨wr9, HV2.out.2.1.trans k9, Nat.le_trans HV2.out.2.2.1 k9.size, HV2.out.2.2.2.1.kw k9 HZ.out.2 (Nat.le_succ z) (Nat.le_trans HZ.out.2 HV2.out.2.2.1), k9.block z _ HV2.out.2.2.2.2 (by omega) (.inr (by rintro ⟨cur, fz, e⟩; cases e))⟩; clear wr9 k9 c27))
  have c28 := itoa_any S.bu H.out.2.2.1.bu HW1.out.2.2.2.1
  have k3 := (scz_of HW1.out.2.2.2.2).c3
  go_upto_region 4 with (first | (go_at_call 28; refine c28.mono ?_; rintro _ v3 ⟨rfl, b1⟩; have HV3 : Hid (Wr v3 z (z + 1) ([] ++ jnI [⟨#[102, 114, 97, 109, 101, 115]⟩, itS S.fr] ++ [10]) ∧ KW z (z + 1) w v3 ∧ z ≤ v3.heap.size ∧ TB v3 ∧ v3.heap[z]? = some (.cells (scL S (.slice fp nf fc) (.slice tp nt tc) (.slice ip ni ic)).toArray 26 (0, 0))) := ⟨HW1.out.1.keep b1, HW1.out.2.1.trans (KW.of b1), Nat.le_trans HW1.out.2.2.1 b1.size, HW1.out.2.2.2.1.keep b1, (b1.block z (hp_lt HW1.out.2.2.2.2)).trans HW1.out.2.2.2.2⟩; clear b1 c28 k3; have c27 := line2 HV3.out.1 HV3.out.2.2.1 ⟨#[98, 117, 100, 103, 101, 116]⟩ (itS S.bu) (by have h9 := HJ.out.1; have h8 := HJ.out.2.1; have h7 := HJ.out.2.2; simp only [List.length_append, List.length_nil, List.length_singleton]; omega)) | (go_at_call 27; refine c27.mono ?_; rintro _ W2 ⟨rfl, wr9, k9⟩; have HW2 : Hid (Wr W2 z (z + 1) ([] ++ jnI [⟨#[102, 114, 97, 109, 101, 115]⟩, itS S.fr] ++ [10] ++ jnI [⟨#[98, 117, 100, 103, 101, 116]⟩, (itS S.bu)] ++ [10]) ∧ KW z (z + 1) w W2 ∧ z ≤ W2.heap.size ∧ TB W2 ∧ W2.heap[z]? = some (.cells (scL S (.slice fp nf fc) (.slice tp nt tc) (.slice ip ni ic)).toArray 26 (0, 0))) := ⟨wr9, HV3.out.2.1.trans k9, Nat.le_trans HV3.out.2.2.1 k9.size, HV3.out.2.2.2.1.kw k9 HZ.out.2 (Nat.le_succ z) (Nat.le_trans HZ.out.2 HV3.out.2.2.1), k9.block z _ HV3.out.2.2.2.2 (by omega) (.inr (by rintro ⟨cur, fz, e⟩; cases e))⟩; clear wr9 k9 c27))
  have c29 := quote_any S.init (by have := HN.out.2.2.2.2.2; omega) W2
  have k4 := (scz_of HW2.out.2.2.2.2).c2
  go_upto_region 5 with (first | (go_at_call 29; refine c29.mono ?_; rintro _ v4 ⟨rfl, b1⟩; have HV4 : Hid (Wr v4 z (z + 1) ([] ++ jnI [⟨#[102, 114, 97, 109, 101, 115]⟩, itS S.fr] ++ [10] ++ jnI [⟨#[98, 117, 100, 103, 101, 116]⟩, itS S.bu] ++ [10]) ∧ KW z (z + 1) w v4 ∧ z ≤ v4.heap.size ∧ TB v4 ∧ v4.heap[z]? = some (.cells (scL S (.slice fp nf fc) (.slice tp nt tc) (.slice ip ni ic)).toArray 26 (0, 0))) := ⟨HW2.out.1.keep b1, HW2.out.2.1.trans (KW.of b1), Nat.le_trans HW2.out.2.2.1 b1.size, HW2.out.2.2.2.1.keep b1, (b1.block z (hp_lt HW2.out.2.2.2.2)).trans HW2.out.2.2.2.2⟩; clear b1 c29 k4; have c27 := line2 HV4.out.1 HV4.out.2.2.1 ⟨#[105, 110, 105, 116]⟩ (toB (qt (bsI S.init))) (by have h9 := HJ.out.1; have h8 := HJ.out.2.1; have h7 := HJ.out.2.2; simp only [List.length_append, List.length_nil, List.length_singleton]; omega)) | (go_at_call 27; refine c27.mono ?_; rintro _ W3 ⟨rfl, wr9, k9⟩; have HW3 : Hid (Wr W3 z (z + 1) ([] ++ jnI [⟨#[102, 114, 97, 109, 101, 115]⟩, itS S.fr] ++ [10] ++ jnI [⟨#[98, 117, 100, 103, 101, 116]⟩, itS S.bu] ++ [10] ++ jnI [⟨#[105, 110, 105, 116]⟩, (toB (qt (bsI S.init)))] ++ [10]) ∧ KW z (z + 1) w W3 ∧ z ≤ W3.heap.size ∧ TB W3 ∧ W3.heap[z]? = some (.cells (scL S (.slice fp nf fc) (.slice tp nt tc) (.slice ip ni ic)).toArray 26 (0, 0))) := ⟨wr9, HV4.out.2.1.trans k9, Nat.le_trans HV4.out.2.2.1 k9.size, HV4.out.2.2.2.1.kw k9 HZ.out.2 (Nat.le_succ z) (Nat.le_trans HZ.out.2 HV4.out.2.2.1), k9.block z _ HV4.out.2.2.2.2 (by omega) (.inr (by rintro ⟨cur, fz, e⟩; cases e))⟩; clear wr9 k9 c27))
  have HW3 : Hid (Wr W3 z (z + 1) (hdT S) ∧ KW z (z + 1) w W3 ∧ z ≤ W3.heap.size ∧ TB W3 ∧ W3.heap[z]? = some (.cells (scL S (.slice fp nf fc) (.slice tp nt tc) (.slice ip ni ic)).toArray 26 (0, 0))) := ⟨by have h1 := HW3.out.1; rw [HHD.out]; simpa only [List.nil_append, List.append_assoc] using h1, HW3.out.2⟩
  clear HW2 HW1 HW0 HV2 HV3 HV4 HWW
  have c1 := (scz_of HW3.out.2.2.2.2).c1
  go_upto_region 6 with fail
  clear c1
  go_loopw [5, 26] (fun _ k wr => ∃ i : Nat, i ≤ nf ∧ k = .int .i64 i ∧ Hid (Wr wr z (z + 1) (hdT S ++ (S.files.take i).flatMap flT) ∧ KW z (z + 1) w wr ∧ z ≤ wr.heap.size ∧ TB wr ∧ wr.heap[z]? = some (.cells (scL S (.slice fp nf fc) (.slice tp nt tc) (.slice ip ni ic)).toArray 26 (0, 0)))) (fun _ k _ => (nf - intOf k).toNat)
  case atStart => exact ⟨0, by omega, rfl, by simpa using HW3.out.1, HW3.out.2⟩
  case round =>
    obtain ⟨i, hi, rfl, HR⟩ := hrel
    have w1 : IntKind.i64.wrap ((i : Int) + 1) = (i : Int) + 1 := by rw [IntKind.wrap_i64]; have := HN.out; omega
    by_cases hlt : i < nf
    · have g0 : (i : Int) < nf := by omega
      obtain ⟨-, b, o, x, cs, rfl, hbX, hx, ⟨dv, rfl, hD⟩, hcl, hr⟩ := H.out.1.fs.at hlt
      have hxm := List.mem_of_getElem? hx
      have hbel : Below z w wr := HR.out.2.1.below (Nat.le_succ z) (Nat.le_refl _) (by rw [HZ.out.1]; exact Nat.le_refl _)
      have Q : ∀ j v, (x.l dv)[j]? = some v → wr.cell? ⟨b, o + i * 5 + j, .none⟩ = some v := fun j v hj => (hbel.cell (p := ⟨b, o + i * 5 + j, .none⟩) (by show b < z; have := H.out.2.1; have := HZ.out.1; omega)).trans (hr j v hj)
      have q0 := Q 0 _ rfl
      have q1 := Q 1 _ rfl
      have q2 := Q 2 _ rfl
      have q3 := Q 3 _ rfl
      have q4 := Q 4 _ rfl
      rw [Nat.add_zero] at q0
      obtain ⟨dp, dc, rfl⟩ := hD.form
      have HX : Hid ((S.files.take (i + 1)).flatMap flT = (S.files.take i).flatMap flT ++ flT x) := take_fl hx
      have hxb := H.out.2.2.1.fs x hxm
      have hsm := sumN_mem (List.mem_map_of_mem (f := fSz) hxm)
      have hfs : fSz x = x.path.size + x.data.length := rfl
      have hfl := flats_len (S.files.take i) (fun f hf => ⟨i16_64 (H.out.2.2.1.fs f (List.mem_of_mem_take hf)).2.2.1, i16_64 (H.out.2.2.1.fs f (List.mem_of_mem_take hf)).2.2.2.1⟩)
      have hft : sumN ((S.files.take i).map fSz) ≤ 1100000 := by rw [List.map_take]; have := sumN_take (S.files.map fSz) i; have := HN.out; omega
      obtain ⟨V, hV⟩ : ∃ V, V = wr.alloc (.cells #[.string x.path, .int .i64 x.ty, .int .i16 x.mj, .int .i16 x.mn, .slice dp x.data.length dc] 43) := ⟨_, rfl⟩
      have hbv : Below wr.heap.size wr V := by rw [hV]; exact below1 _ _
      have c30 := file_any (HR.out.1.keep hbv) (Nat.le_trans HR.out.2.2.1 hbv.size) (HR.out.2.2.2.1.keep hbv) x (H.out.2.2.2 x hxm) (X := X) (Wd.keep hD (Nat.le_refl _) ((hbel.mono (by have := H.out.2.1; have := HZ.out.1; omega)).trans (hbv.mono (by have := H.out.2.1; have := HZ.out.1; have := HR.out.2.2.1; omega)))) (by have := H.out.2.1; have := HZ.out.1; omega) hxb.2.2.2.2.2 (by have := HN.out; omega) (by have := HN.out; omega) (by rw [List.length_append]; have h1 := HH.out; rw [List.length_take] at hfl; have := HN.out; omega) hxb.2.2.1 hxb.2.2.2.1
      have HV : Hid (V.heap[z]? = some (.cells (scL S (.slice (some ⟨b, o, .none⟩) nf fc) (.slice tp nt tc) (.slice ip ni ic)).toArray 26 (0, 0)) ∧ KW z (z + 1) w V ∧ z ≤ V.heap.size ∧ TB V) := ⟨(hbv.block z (hp_lt HR.out.2.2.2.2)).trans HR.out.2.2.2.2, HR.out.2.1.trans (KW.of hbv), Nat.le_trans HR.out.2.2.1 hbv.size, HR.out.2.2.2.1.keep hbv⟩
      rw [hV] at c30
      have HVV : Hid (V = wr.alloc (.cells #[.string x.path, .int .i64 x.ty, .int .i16 x.mj, .int .i16 x.mn, .slice dp x.data.length dc] 43)) := hV
      clear Q hr hcl hD hx hbX hbel hxm hxb hsm hfl hft hV hbv
      go_wp2_with (first | (go_at_call 30; refine c30.mono ?_; rintro _ w9 ⟨rfl, wr9, k9⟩; have H9 : Hid (Wr w9 z (z + 1) (hdT S ++ (S.files.take (i + 1)).flatMap flT) ∧ KW z (z + 1) w w9 ∧ z ≤ w9.heap.size ∧ TB w9 ∧ w9.heap[z]? = some (.cells (scL S (.slice (some ⟨b, o, .none⟩) nf fc) (.slice tp nt tc) (.slice ip ni ic)).toArray 26 (0, 0))) := (by
        rw [← HVV.out] at k9
        exact ⟨by rw [HX.out, ← List.append_assoc]; exact wr9, HV.out.2.1.trans k9, Nat.le_trans HV.out.2.2.1 k9.size, HV.out.2.2.2.kw k9 HZ.out.2 (Nat.le_succ z) (Nat.le_trans HZ.out.2 HV.out.2.2.1), k9.block z _ HV.out.1 (by omega) (.inr (by rintro ⟨cur, fz, e⟩; cases e))⟩); clear wr9 k9 c30 q0 q1 q2 q3 q4))
      exact ⟨⟨i + 1, by omega, by go_num, H9.out⟩, by simp only [intOf]; omega⟩
    · have g0 : ¬ (i : Int) < nf := by omega
      obtain rfl : i = nf := by omega
      have HW4 : Hid (Wr wr z (z + 1) (hdT S ++ S.files.flatMap flT) ∧ KW z (z + 1) w wr ∧ z ≤ wr.heap.size ∧ TB wr ∧ wr.heap[z]? = some (.cells (scL S (.slice fp i fc) (.slice tp nt tc) (.slice ip ni ic)).toArray 26 (0, 0)) ∧ (S.files.flatMap flT).length ≤ 10000000) := by
        have h1 := HR.out.1
        rw [List.take_of_length_le (by have := HN.out; omega)] at h1
        have hfl := flats_len S.files (fun f hf => ⟨i16_64 (H.out.2.2.1.fs f hf).2.2.1, i16_64 (H.out.2.2.1.fs f hf).2.2.2.1⟩)
        exact ⟨h1, HR.out.2.1, HR.out.2.2.1, HR.out.2.2.2.1, HR.out.2.2.2.2, by have := HN.out; omega⟩
      clear HR HW3
      have hbel : Below z w wr := HW4.out.2.1.below (Nat.le_succ z) (Nat.le_refl _) (by rw [HZ.out.1]; exact Nat.le_refl _)
      have c31 := ticks_any (X := X) HW4.out.1 HW4.out.2.2.1 HW4.out.2.2.2.1 HZ.out.2 (Wd.keep H.out.1.ts (Nat.le_refl _) (hbel.mono (by have := H.out.2.1; have := HZ.out.1; omega))) (by have := H.out.2.1; have := HZ.out.1; omega) H.out.2.2.1.ts (by have := HN.out; omega) (by rw [List.length_append]; have := HH.out; have := HW4.out.2.2.2.2.2; omega)
      have c4 := (scz_of HW4.out.2.2.2.2.1).c4
      have c5 := (scz_of HW4.out.2.2.2.2.1).c5
      have HTK : Hid ((tkP S.ticks nt).length ≤ 1000000) := by have h1 := tkP_len S.ticks H.out.2.2.1.ts nt; have := HN.out; show _ ≤ _; omega
      clear hbel w1 g0
      go_upto_region 11 with (go_at_call 31; refine c31.mono ?_; rintro _ W5 ⟨rfl, wr9, k9⟩; have HW5 : Hid (Wr W5 z (z + 1) (hdT S ++ S.files.flatMap flT ++ tkP S.ticks nt) ∧ KW z (z + 1) w W5 ∧ z ≤ W5.heap.size ∧ TB W5 ∧ W5.heap[z]? = some (.cells (scL S (.slice fp i fc) (.slice tp nt tc) (.slice ip ni ic)).toArray 26 (0, 0))) := ⟨wr9, HW4.out.2.1.trans k9, Nat.le_trans HW4.out.2.2.1 k9.size, HW4.out.2.2.2.1.kw k9 HZ.out.2 (Nat.le_succ z) (Nat.le_trans HZ.out.2 HW4.out.2.2.1), k9.block z _ HW4.out.2.2.2.2.1 (by omega) (.inr (by rintro ⟨cur, fz, e⟩; cases e))⟩; clear wr9 k9 c31 c4 c5)
      have c5 := (scz_of HW5.out.2.2.2.2).c5
      go_upto_region 12 with fail
      clear c5
      have HLEN : Hid ((S.files.flatMap flT).length ≤ 10000000 ∧ (tkP S.ticks nt).length ≤ 1000000) := ⟨HW4.out.2.2.2.2.2, HTK.out⟩
      clear HW4 HTK
      go_loopw [7, 39] (fun _ k wr => ∃ j : Nat, j ≤ ni ∧ k = .int .i64 j ∧ Hid (Wr wr z (z + 1) (hdT S ++ S.files.flatMap flT ++ tkP S.ticks nt ++ (S.ins.take j).flatMap inT) ∧ KW z (z + 1) w wr ∧ z ≤ wr.heap.size ∧ TB wr)) (fun _ k _ => (ni - intOf k).toNat)
      case atStart => exact ⟨0, by omega, rfl, by simpa using HW5.out.1, HW5.out.2.1, HW5.out.2.2.1, HW5.out.2.2.2.1⟩
      case round =>
        obtain ⟨j, hj, rfl, HR⟩ := hrel
        have w1 : IntKind.i64.wrap ((j : Int) + 1) = (j : Int) + 1 := by rw [IntKind.wrap_i64]; have := HN.out; omega
        by_cases hlt : j < ni
        · have g0 : (j : Int) < ni := by omega
          obtain ⟨-, b, o, x, cs, rfl, hbX, hx, ⟨dv, rfl, hD⟩, hcl, hr⟩ := H.out.1.is.at hlt
          have hxm := List.mem_of_getElem? hx
          have hbel : Below z w wr := HR.out.2.1.below (Nat.le_succ z) (Nat.le_refl _) (by rw [HZ.out.1]; exact Nat.le_refl _)
          have Q : ∀ k v, (x.l dv)[k]? = some v → wr.cell? ⟨b, o + j * 2 + k, .none⟩ = some v := fun k v hk => (hbel.cell (p := ⟨b, o + j * 2 + k, .none⟩) (by show b < z; have := H.out.2.1; have := HZ.out.1; omega)).trans (hr k v hk)
          have q0 := Q 0 _ rfl
          have q1 := Q 1 _ rfl
          rw [Nat.add_zero] at q0
          obtain ⟨dp, dc, rfl⟩ := hD.form
          have HX : Hid ((S.ins.take (j + 1)).flatMap inT = (S.ins.take j).flatMap inT ++ inT x) := take_in hx
          have hxb := H.out.2.2.1.is x hxm
          have hsm := sumN_mem (List.mem_map_of_mem (f := iSz) hxm)
          have hfs : iSz x = x.data.length := rfl
          have hfl := ins_len (S.ins.take j) (fun f hf => (H.out.2.2.1.is f (List.mem_of_mem_take hf)).1)
          have hft : sumN ((S.ins.take j).map iSz) ≤ 1100000 := by rw [List.map_take]; have := sumN_take (S.ins.map iSz) j; have := HN.out; omega
          have HLI : Hid (((S.ins.take j).flatMap inT).length ≤ 10000000 ∧ (inT x).length ≤ 10000000 ∧ x.data.length ≤ 1100000) := by
            have h2 := inT_len x hxb.1
            rw [List.length_take] at hfl
            have := HN.out
            exact ⟨by omega, by omega, by omega⟩
          obtain ⟨V, hV⟩ : ∃ V, V = wr.alloc (.cells #[.int .i64 x.tm, .slice dp x.data.length dc] 45) := ⟨_, rfl⟩
          obtain ⟨v7, hv7⟩ : ∃ v7, v7 = wr.heap.size := ⟨_, rfl⟩
          have hbv : Below wr.heap.size wr V := by rw [hV]; exact below1 _ _
          have HV : Hid (Wr V z (z + 1) (hdT S ++ S.files.flatMap flT ++ tkP S.ticks nt ++ (S.ins.take j).flatMap inT) ∧ KW z (z + 1) w V ∧ z ≤ V.heap.size ∧ TB V ∧ v7 < V.heap.size ∧ V.heap[v7]? = some (.cells #[.int .i64 x.tm, .slice dp x.data.length dc] 45 (0, 0)) ∧ Bt V X (.slice dp x.data.length dc) x.data ∧ X ≤ v7 ∧ z + 1 < v7) :=
            ⟨HR.out.1.keep hbv, HR.out.2.1.trans (KW.of hbv), Nat.le_trans HR.out.2.2.1 hbv.size, HR.out.2.2.2.keep hbv, by rw [hV, hv7]; simp, by rw [hV, hv7]; exact new_heap _ _, Wd.keep hD (Nat.le_refl _) ((hbel.mono (by have := H.out.2.1; have := HZ.out.1; omega)).trans (hbv.mono (by have := H.out.2.1; have := HZ.out.1; have := HR.out.2.2.1; omega))), by have := H.out.2.1; have := HZ.out.1; have := HR.out.2.2.1; omega, by rw [hv7]; exact HR.out.1.len⟩
          have HVV : Hid (V = wr.alloc (.cells #[.int .i64 x.tm, .slice dp x.data.length dc] 45) ∧ v7 = wr.heap.size) := ⟨hV, hv7⟩
          have HXB : Hid (i64b x.tm ∧ ∀ y ∈ x.data, 0 ≤ y ∧ y < 256) := ⟨hxb.1, hxb.2.2⟩
          clear Q hr hcl hD hx hbX hbel hxm hxb hsm hfl hft hV hbv hv7 hfs
          go_upto_region 14 with fail
          rw [← HVV.out.1, ← HVV.out.2]
          clear HVV q0 q1
          refine wp_region_held_drew (S := (fun U : World => U.heap[v7]? = some (.cells #[.int .i64 x.tm, .slice dp x.data.length dc] 45 (0, 0)) ∧ Bt U X (.slice dp x.data.length dc) x.data)) (by kernel_rfl) ⟨HV.out.2.2.2.2.2.1, HV.out.2.2.2.2.2.2.1⟩ (fun hHeld => ?_)
          refine nT 0 (.pointer (some ⟨v7, 0, .none⟩)) rfl ?_ (fun ww hSw => by go_simp)
          simp only [x0,x1,x2,x3,x4,x5,x6]
          refine nT 1 (.int .i64 x.tm) rfl ?_ (fun ww hSw => by have c2 : ww.cell? ⟨v7, 0, .none⟩ = some (.int .i64 x.tm) := cell_heap hSw.1; go_simp)
          simp only [x0,x1,x2,x3,x4,x5,x6]
          refine nT 3 (.pointer (some ⟨v7, 1, .none⟩)) rfl ?_ (fun ww hSw => by go_simp)
          simp only [x0,x1,x2,x3,x4,x5,x6]
          refine nT 4 (.slice dp x.data.length dc) rfl ?_ (fun ww hSw => by have c2 : ww.cell? ⟨v7, 1, .none⟩ = some (.slice dp x.data.length dc) := cell_heap hSw.1; go_simp)
          simp only [x0,x1,x2,x3,x4,x5,x6]
          refine nT 5 (.string (toB x.data)) rfl ?_ (fun ww hSw => by exact cvt_run hSw.2 _ _ _ rfl rfl)
          simp only [x0,x1,x2,x3,x4,x5,x6]
          have c28 := itoa_any x.tm HXB.out.1 (w := V.drew) (HV.out.2.2.2.1.keep (Below.refl _ _).drew)
          refine wpAnyH_ready (rs := [2]) (by kernel_rfl) (by simp) ?_
          refine AllReadyH.cons rfl (fun K hK => ?_) AllReadyH.nil
          go_simp
          go_at_call 28
          refine c28.mono ?_
          rintro _ v1 ⟨rfl, b1⟩
          have b1 : Below V.heap.size V v1 := (Below.refl _ _).drew.trans b1
          have HV1 : Hid (Wr v1 z (z + 1) (hdT S ++ S.files.flatMap flT ++ tkP S.ticks nt ++ (S.ins.take j).flatMap inT) ∧ KW z (z + 1) w v1 ∧ z ≤ v1.heap.size ∧ TB v1 ∧ v7 < v1.heap.size ∧ ((fun U : World => U.heap[v7]? = some (.cells #[.int .i64 x.tm, .slice dp x.data.length dc] 45 (0, 0)) ∧ Bt U X (.slice dp x.data.length dc) x.data) v1)) := ⟨HV.out.1.keep b1, HV.out.2.1.trans (KW.of b1), Nat.le_trans HV.out.2.2.1 b1.size, HV.out.2.2.2.1.keep b1, Nat.lt_of_lt_of_le HV.out.2.2.2.2.1 b1.size, (b1.block v7 HV.out.2.2.2.2.1).trans HV.out.2.2.2.2.2.1, Wd.keep HV.out.2.2.2.2.2.2.1 (Nat.le_refl _) (b1.mono (by have := HV.out.2.2.2.2; omega))⟩
          clear b1 c28
          refine hK.out _ _ HV1.out.2.2.2.2.2 (fun hHeld => ?_)
          clear hK K
          try simp only [x0,x1,x2,x3,x4,x5,x6]
          have c29 := quote_any (toB x.data) (by rw [toB_size]; have := HLI.out; omega) v1
          refine wpAnyH_ready (rs := [6]) (by kernel_rfl) (by simp) ?_
          refine AllReadyH.cons rfl (fun K hK => ?_) AllReadyH.nil
          go_simp
          go_at_call 29
          refine c29.mono ?_
          rintro _ v2 ⟨rfl, b1⟩
          have HV2 : Hid (Wr v2 z (z + 1) (hdT S ++ S.files.flatMap flT ++ tkP S.ticks nt ++ (S.ins.take j).flatMap inT) ∧ KW z (z + 1) w v2 ∧ z ≤ v2.heap.size ∧ TB v2 ∧ v7 < v2.heap.size ∧ ((fun U : World => U.heap[v7]? = some (.cells #[.int .i64 x.tm, .slice dp x.data.length dc] 45 (0, 0)) ∧ Bt U X (.slice dp x.data.length dc) x.data) v2)) := ⟨HV1.out.1.keep b1, HV1.out.2.1.trans (KW.of b1), Nat.le_trans HV1.out.2.2.1 b1.size, HV1.out.2.2.2.1.keep b1, Nat.lt_of_lt_of_le HV1.out.2.2.2.2.1 b1.size, (b1.block v7 HV1.out.2.2.2.2.1).trans HV1.out.2.2.2.2.2.1, Wd.keep HV1.out.2.2.2.2.2.2 (Nat.le_refl _) (b1.mono (by have := HV.out.2.2.2.2; have := HV1.out.2.2.2.2.1; omega))⟩
          clear b1 c29
          refine hK.out _ _ HV2.out.2.2.2.2.2 (fun hHeld => ?_)
          clear hK K
          try simp only [x0,x1,x2,x3,x4,x5,x6]
          have c27 := line3 HV2.out.1 HV2.out.2.2.1 ⟨#[105, 110, 112, 117, 116]⟩ (itS x.tm) (toB (qt (bsI (toB x.data)))) (by
            have h1 := congrArg List.length (jn_in x HXB.out.2)
            rw [List.length_append, List.length_singleton] at h1
            simp only [List.length_append]
            have h2 := HLI.out
            have h3 := HLEN.out
            have h4 := HH.out
            omega)
          refine wpAnyH_ready (rs := [7]) (by kernel_rfl) (by simp) ?_
          refine AllReadyH.cons rfl (fun K hK => ?_) AllReadyH.nil
          go_simp
          obtain ⟨v3, hv3⟩ : ∃ v3, v3 = v2.alloc (.cells #[.string ⟨#[105, 110, 112, 117, 116]⟩, .string (itS x.tm), .string (toB (qt (bsI (toB x.data))))] 9) := ⟨_, rfl⟩
          rw [← hv3] at c27 ⊢
          have b1 : Below v2.heap.size v2 v3 := by rw [hv3]; exact below1 _ _
          have HV3 : Hid (Below v2.heap.size v2 v3 ∧ ((fun U : World => U.heap[v7]? = some (.cells #[.int .i64 x.tm, .slice dp x.data.length dc] 45 (0, 0)) ∧ Bt U X (.slice dp x.data.length dc) x.data) v3)) := ⟨b1, (b1.block v7 HV2.out.2.2.2.2.1).trans HV2.out.2.2.2.2.2.1, Wd.keep HV2.out.2.2.2.2.2.2 (Nat.le_refl _) (b1.mono (by have := HV.out.2.2.2.2; have := HV2.out.2.2.2.2.1; omega))⟩
          clear b1 hv3
          refine hK.out _ _ HV3.out.2 (fun hHeld => ?_)
          clear hK K
          try simp only [x0,x1,x2,x3,x4,x5,x6]
          refine wpAnyH_ready (rs := [8]) (by kernel_rfl) (by simp) ?_
          refine AllReadyH.cons rfl (fun K hK => ?_) AllReadyH.nil
          go_simp
          go_at_call 27
          refine c27.mono ?_
          rintro _ v4 ⟨rfl, wr9, k9⟩
          have H9 : Hid (Wr v4 z (z + 1) (hdT S ++ S.files.flatMap flT ++ tkP S.ticks nt ++ (S.ins.take (j + 1)).flatMap inT) ∧ KW z (z + 1) w v4 ∧ z ≤ v4.heap.size ∧ TB v4 ∧ ((fun U : World => U.heap[v7]? = some (.cells #[.int .i64 x.tm, .slice dp x.data.length dc] 45 (0, 0)) ∧ Bt U X (.slice dp x.data.length dc) x.data) v4)) := by
            have h2 := jn_in x HXB.out.2
            refine ⟨?_, HV2.out.2.1.trans k9, Nat.le_trans HV2.out.2.2.1 k9.size, HV2.out.2.2.2.1.kw k9 HZ.out.2 (Nat.le_succ z) (Nat.le_trans HZ.out.2 HV2.out.2.2.1), ?_⟩
            · rw [HX.out, ← h2]
              simpa only [List.append_assoc] using wr9
            · have hb9 : Below z v2 v4 := k9.below (Nat.le_succ z) (Nat.le_refl _) HV2.out.2.2.1
              refine ⟨k9.block v7 _ HV2.out.2.2.2.2.2.1 (by have := HV.out.2.2.2.2.2.2.2; omega) (.inr (by rintro ⟨cur, fz, e⟩; cases e)), Wd.keep HV2.out.2.2.2.2.2.2 (Nat.le_refl _) (hb9.mono (by have := H.out.2.1; have := HZ.out.1; omega))⟩
          refine hK.out _ _ H9.out.2.2.2.2 (fun hHeld => ?_)
          clear hK K wr9 k9 c27 hHeld
          refine wpAnyH_done (by kernel_rfl) ?_ _
          go_wp2
          exact ⟨⟨j + 1, by omega, by go_num, H9.out.1, H9.out.2.1, H9.out.2.2.1, H9.out.2.2.2.1⟩, by simp only [intOf]; omega⟩
        · have g0 : ¬ (j : Int) < ni := by omega
          obtain rfl : j = ni := by omega
          have HF : Hid (Wr wr z (z + 1) (txT S) ∧ KW z (z + 1) w wr) := by
            have h1 := HR.out.1
            rw [List.take_of_length_le (by have := HN.out; omega), HN.out.2.2.1] at h1
            exact ⟨h1, HR.out.2.1⟩
          have c32 := string_any HF.out.1 (tx_ne S) (tx_bd H.out.2.2.1)
          go_wp2_with (go_at_call 32; refine c32.mono ?_; rintro _ w9 ⟨rfl, k9⟩; have H9 : Hid (KW z (z + 1) w w9) := HF.out.2.trans k9; clear k9 c32)
          go_ret
          exact ⟨rfl, by have h1 := H9.out.below (Nat.le_succ z) (Nat.le_refl _) (by rw [HZ.out.1]; exact Nat.le_refl _); rw [HZ.out.1] at h1; exact h1⟩
end Go.Proofs.YtjbealefopajcaaDoor
