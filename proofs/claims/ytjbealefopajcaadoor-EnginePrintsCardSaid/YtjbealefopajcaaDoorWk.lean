import Derived.Test.YtjbealefopajcaaDoorWj
namespace Go.Proofs.YtjbealefopajcaaDoor
open Go Go.RowKit Rg
set_option linter.unusedVariables false
set_option linter.unusedSimpArgs false
set_option maxRecDepth 100000
/-! lend: a script of its own. -/
theorem info26 : ∃ i z, Tryd.prog.info? 26 = some i ∧ i.zero = some z ∧ i.size = 6 ∧ i.bytes = 104 ∧ z.cells.size = 6 := info_of 26 6 104 (by kernel_rfl) (by kernel_rfl)
theorem info43 : ∃ i z, Tryd.prog.info? 43 = some i ∧ i.zero = some z ∧ i.size = 5 ∧ i.bytes = 56 ∧ z.cells.size = 5 := info_of 43 5 56 (by kernel_rfl) (by kernel_rfl)
theorem info45 : ∃ i z, Tryd.prog.info? 45 = some i ∧ i.zero = some z ∧ i.size = 2 ∧ i.bytes = 32 ∧ z.cells.size = 2 := info_of 45 2 32 (by kernel_rfl) (by kernel_rfl)
theorem info3 : ∃ i z, Tryd.prog.info? 3 = some i ∧ i.zero = some z ∧ i.size = 1 ∧ i.bytes = 8 ∧ z.cells.size = 1 := info_of 3 1 8 (by kernel_rfl) (by kernel_rfl)
theorem run_zero23 (p : Option Addr) (c : Nat) (ty : TypeId) (w : World) : (Builtin.append_ #[23, 23] ty #[.slice none 0 0, .slice p 0 c]).run Tryd.prog w = .ok (.slice none 0 0) w := by
  obtain ⟨i, z, hi, hz, hs, hb, hzs⟩ := info3
  cases p <;> simp [Builtin.append_, run_underlying Tryd.underlying23, sizeOf, typeInfo, hi, Builtin.lenOf, Builtin.firstCells, loadCells, loadCellsFrom]
theorem app_ticks {w : World} {X n c : Nat} {p : Option Addr} {ts : List Int} (h : Nt w X (.slice p n c) ts) (hn : n ≤ 10000000) (ty : TypeId) : ∃ v' w', (Builtin.append_ #[23, 23] ty #[.slice none 0 0, .slice p n c]).run Tryd.prog w = .ok v' w' ∧ w'.ownsRow w.heap.size 3 1 v' ts.length (ts.map (Value.int .i64)) ∧ Below w.heap.size w w' := by
  have hc := h.cap
  by_cases h0 : 0 < n
  · obtain ⟨i, z, hi, hz, hs, hb, hzs⟩ := info3
    obtain ⟨-, b, o, x, cs, rfl, -⟩ := h.at h0
    obtain ⟨v', w', hrun, h2, h3, h4⟩ := run_append_own (P := Tryd.prog) w w.heap.size 23 ty 3 i z 1 8 Tryd.underlying23 hi hz hs hb hzs (by decide) (.slice none 0 0) 0 [] (World.ownsRow_nil _ _ _ _) ⟨b, o, .none⟩ n c (ts.map (Value.int .i64)) (by rw [List.length_map, Nat.mul_one]; exact hc.1.symm) (fun j u hj => by
      rw [List.getElem?_map, Option.map_eq_some_iff] at hj
      obtain ⟨y, hy, rfl⟩ := hj
      obtain ⟨p', c', hv, hlc, h5⟩ := h
      cases hv
      rcases h5 with h5 | ⟨b', o', hp, hb', hr⟩
      · rw [h5] at hy; cases hy
      · cases hp
        obtain ⟨cs, hq, hl, hcc⟩ := hr j y hy
        obtain rfl : cs = [.int .i64 y] := hq
        have := hcc 0 _ rfl
        rw [Nat.mul_one, Nat.add_zero] at this
        rw [le_addr_add]
        exact this) (fun u hu => by obtain ⟨y, _, rfl⟩ := List.mem_map.1 hu; rfl) (by unfold maxLen; omega) (by omega) (Nat.le_refl _)
    rw [Nat.zero_add, List.nil_append, hc.1] at h2
    refine ⟨v', w', hrun, h2, ⟨h3.os, h3.tape, h3.output, h3.size, fun k hk => h3.block k hk (by simp [Value.ownBlock])⟩⟩
  · obtain rfl : n = 0 := by omega
    have hts : ts = [] := List.eq_nil_of_length_eq_zero hc.1.symm
    subst hts
    exact ⟨_, w, run_zero23 p c ty w, World.ownsRow_nil _ _ _ _, Below.refl _ _⟩
def LdP (S : Sc) (w : World) (e : Ending) (w' : World) : Prop := ∃ fv tv iv FL IL, e = .returned (.agg (scL S fv tv iv).toArray) ∧ FL.map (·.1) = S.files ∧ IL.map (·.1) = S.ins ∧ Owns w' w.heap.size (rowsS fv tv iv FL S.ticks IL) ∧ Below w.heap.size w w'
def bxC (cb : Nat) (S : Sc) (fv tv iv : Value) : Row := bx 26 6 cb (scL S fv tv iv)
set_option maxHeartbeats 8000000 in
theorem slend_any {w : World} {X : Nat} {fv tv iv : Value} {S : Sc} (h : ScW w X fv tv iv S) (hX : X ≤ w.heap.size) (hF : Few S) : Calls Tryd.prog 5 #[.agg (scL S fv tv iv).toArray] w (LdP S w) := by
  obtain ⟨fp, fc, rfl⟩ := h.fs.form
  obtain ⟨tp, tc, rfl⟩ := h.ts.form
  obtain ⟨ip, ic, rfl⟩ := h.is.form
  obtain ⟨nf, hnf⟩ : ∃ n, n = S.files.length := ⟨_, rfl⟩
  obtain ⟨nt, hnt⟩ : ∃ n, n = S.ticks.length := ⟨_, rfl⟩
  obtain ⟨ni, hni⟩ : ∃ n, n = S.ins.length := ⟨_, rfl⟩
  rw [← hnf, ← hnt, ← hni] at h ⊢
  have H : Hid (ScW w X (.slice fp nf fc) (.slice tp nt tc) (.slice ip ni ic) S ∧ X ≤ w.heap.size) := ⟨h, hX⟩
  have hsz := hF.sz
  unfold fewN at hsz
  have HN : Hid (nf = S.files.length ∧ ni = S.ins.length ∧ nt = S.ticks.length ∧ (nf ≤ 5000 ∧ nt ≤ 1100000 ∧ ni ≤ 5000) ∧ (sumN (S.files.map fSz) ≤ 1100000 ∧ sumN (S.ins.map iSz) ≤ 1100000)) := ⟨hnf, hni, hnt, by have := hF.nf; have := hF.nt; have := hF.ni; omega, by omega⟩
  clear h hnf hnt hni hF hX hsz
  go_enter Tryd.func5, Tryd.ntmps5
  go_upto_region 1 with fail
  obtain ⟨W0, hW0⟩ : ∃ W0, W0 = (w.alloc (.cells (scL S (.slice fp nf fc) (.slice tp nt tc) (.slice ip ni ic)).toArray 26)).alloc (.cells #[.int .i64 0, .slice .none 0 0, .string ⟨#[]⟩, .int .i64 0, .slice .none 0 0, .slice .none 0 0] 26) := ⟨_, rfl⟩
  rw [← hW0]
  obtain ⟨z, hz⟩ : ∃ z, z = w.heap.size := ⟨_, rfl⟩
  have b0 : Below w.heap.size w W0 := by rw [hW0]; exact ((Below.refl _ _).alloc (Nat.le_refl _) _).alloc (by simp) _
  have HW0 : Hid (W0.heap[z]? = some (.cells (scL S (.slice fp nf fc) (.slice tp nt tc) (.slice ip ni ic)).toArray 26 (0, 0)) ∧ W0.heap[z + 1]? = some (.cells #[.int .i64 0, .slice .none 0 0, .string ⟨#[]⟩, .int .i64 0, .slice .none 0 0, .slice .none 0 0] 26 (0, 0)) ∧ Below z w W0 ∧ W0.heap.size = z + 2 ∧ z = w.heap.size) := by
    have h9 := new_heap (w.alloc (.cells (scL S (.slice fp nf fc) (.slice tp nt tc) (.slice ip ni ic)).toArray 26)) (.cells #[.int .i64 0, .slice .none 0 0, .string ⟨#[]⟩, .int .i64 0, .slice .none 0 0, .slice .none 0 0] 26)
    rw [World.size_alloc] at h9
    refine ⟨?_, by rw [hW0, hz]; exact h9, by rw [hz]; exact b0, by rw [hW0, hz]; simp, hz⟩
    rw [hW0, hz, Below.heap_alloc _ _ _ (by simp)]; exact new_heap _ _
  rw [← hz]
  clear hW0 hz b0
  have q := scz_of HW0.out.1
  have q0 := q.c0
  have q1 := q.c1
  have q2 := q.c2
  have q3 := q.c3
  have q4 := q.c4
  have q5 := q.c5
  clear q
  go_upto_region 2 with (first | (refine wpList_is (.alloc 26) rfl ?_; refine wpList_laidG 26 6 104 info26 (scL S (.slice fp nf fc) (.slice tp nt tc) (.slice ip ni ic)) rfl (by simp [scL, Value.oneCell']) 3 (.tmp 7) _ _ rfl rfl rfl rfl rfl rfl rfl rfl ?_; rintro W1 hW1 b1 hs1) | fail)
  clear q0 q1 q2 q3 q4 q5
  obtain ⟨cb, hcb⟩ : ∃ cb, cb = W0.heap.size := ⟨_, rfl⟩
  rw [← hcb] at hW1
  have HW1 : Hid (W1.heap[cb]? = some (.cells (scL S (.slice fp nf fc) (.slice tp nt tc) (.slice ip ni ic)).toArray 26 (0, 0)) ∧ Below cb W0 W1 ∧ W1.heap.size = cb + 1 ∧ cb = W0.heap.size ∧ cb = z + 2) := ⟨hW1, by rw [hcb]; exact b1, by omega, hcb, by have := HW0.out.2.2.2.1; omega⟩
  rw [← hcb]
  clear hW1 b1 hs1 hcb
  have hq := scz_of HW1.out.1
  have f1 := frozen_heap (o := 1) HW1.out.1
  have f4 := frozen_heap (o := 4) HW1.out.1
  have f5 := frozen_heap (o := 5) HW1.out.1
  have q1 := hq.c1
  have q4 := hq.c4
  have q5 := hq.c5
  clear hq
  go_upto_region 5 with fail
  clear q1 q4 q5 f1 f4 f5
  obtain ⟨W2, hW2⟩ : ∃ W2, W2 = ((W1.setCell ⟨cb, 1, .none⟩ (.slice .none 0 0)).setCell ⟨cb, 4, .none⟩ (.slice .none 0 0)).setCell ⟨cb, 5, .none⟩ (.slice .none 0 0) := ⟨_, rfl⟩
  rw [← hW2]
  have HW2 : Hid (Owns W2 cb ([bxC cb S (.slice .none 0 0) (.slice .none 0 0) (.slice .none 0 0)] ++ rowFl (.slice .none 0 0) [] :: rowsD []) ∧ Below cb W0 W2 ∧ cb ≤ W2.heap.size) := by
    have o1 : Owns W1 cb ([] ++ bx 26 6 cb (scL S (.slice fp nf fc) (.slice tp nt tc) (.slice ip ni ic)) :: []) := ⟨fun r hr => by simp only [List.nil_append, List.mem_singleton] at hr; rw [hr]; exact bx_own HW1.out.1 rfl (Nat.le_refl _), by simp [blks, bx, Value.ownBlock]⟩
    have o2 := o1.setAt (j := 1) (.slice .none 0 0) rfl rfl (by show 1 < 6; decide)
    have o3 := o2.setAt (j := 4) (.slice .none 0 0) rfl rfl (by show 4 < 6; decide)
    have o4 := o3.setAt (j := 5) (.slice .none 0 0) rfl rfl (by show 5 < 6; decide)
    rw [← hW2] at o4
    have b4 : Below cb W0 W2 := by rw [hW2]; exact ((HW1.out.2.1.setCell (p := ⟨cb, 1, .none⟩) (Nat.le_refl _) _).setCell (p := ⟨cb, 4, .none⟩) (Nat.le_refl _) _).setCell (p := ⟨cb, 5, .none⟩) (Nat.le_refl _) _
    have hsz : cb ≤ W2.heap.size := by have := b4.size; have := HW1.out.2.2.2.1; omega
    refine ⟨?_, b4, hsz⟩
    have o5 := o4.push (Below.refl _ _) (r := rowFl (.slice .none 0 0) []) (World.ownsRow_nil _ _ _ _) hsz
    exact o5.perm (List.Perm.swap _ _ _)
  clear hW2
  have HX1 : Hid (X ≤ z) := by have := H.out.2; have := HW0.out.2.2.2.2; show _ ≤ _; omega
  go_wp2_with fail
  go_loopw [4, 5] (fun k _ wr => ∃ i : Nat, i ≤ nf ∧ k = .int .i64 i ∧ ∃ fv FL, Hid (FL.map (·.1) = S.files.take i ∧ Owns wr cb ([bxC cb S fv (.slice .none 0 0) (.slice .none 0 0)] ++ rowFl fv FL :: rowsD FL) ∧ Below cb W0 wr ∧ cb ≤ wr.heap.size)) (fun k _ _ => (nf - intOf k).toNat)
  case atStart => exact ⟨0, by omega, rfl, _, [], rfl, HW2.out⟩
  case round =>
    obtain ⟨i, hi, rfl, fv, FL, HR⟩ := hrel
    obtain ⟨fp2, fc2, hfv⟩ := own_form (HR.out.2.1.own (rowFl fv FL) (by simp))
    have hfv : fv = .slice fp2 FL.length fc2 := hfv
    subst hfv
    have w1 : IntKind.i64.wrap ((i : Int) + 1) = (i : Int) + 1 := by rw [IntKind.wrap_i64]; have := HN.out; omega
    have hzr := (HR.out.2.2.1.block z (by have := HW1.out.2.2.2.2; omega)).trans HW0.out.1
    have s1 := (scz_of hzr).c1
    have HFL : Hid (FL.length = i) := by show _ = _; have := congrArg List.length HR.out.1; rw [List.length_map, List.length_take] at this; have := HN.out; omega
    by_cases hlt : i < nf
    · have g0 : (i : Int) < nf := by omega
      obtain ⟨-, b, o, x, cs, rfl, hbX, hx, ⟨dvv, rfl, hD⟩, hcl, hr⟩ := H.out.1.fs.at hlt
      have hxm := List.mem_of_getElem? hx
      have hbel : Below z w wr := HW0.out.2.2.1.trans (HR.out.2.2.1.mono (by have := HW1.out.2.2.2.2; omega))
      have hbz : b < z := by have := HX1.out; omega
      have Q : ∀ j v, (x.l dvv)[j]? = some v → wr.cell? ⟨b, o + i * 5 + j, .none⟩ = some v := fun j v hj => (hbel.cell (p := ⟨b, o + i * 5 + j, .none⟩) hbz).trans (hr j v hj)
      have q0 := Q 0 _ rfl
      have q1 := Q 1 _ rfl
      have q2 := Q 2 _ rfl
      have q3 := Q 3 _ rfl
      have q4 := Q 4 _ rfl
      rw [Nat.add_zero] at q0
      obtain ⟨dp, dc, rfl⟩ := hD.form
      have HX : Hid (S.files.take (i + 1) = S.files.take i ++ [x]) := by show _ = _; rw [List.take_add_one, hx]; rfl
      have hsm := sumN_mem (List.mem_map_of_mem (f := fSz) hxm)
      have hfs : fSz x = x.path.size + x.data.length := rfl
      obtain ⟨vb, hvb⟩ : ∃ vb, vb = wr.heap.size := ⟨_, rfl⟩
      obtain ⟨V, hV⟩ : ∃ V, V = wr.alloc (.cells #[.string x.path, .int .i64 x.ty, .int .i16 x.mj, .int .i16 x.mn, .slice dp x.data.length dc] 43) := ⟨_, rfl⟩
      have bV : Below wr.heap.size wr V := by rw [hV]; exact below1 _ _
      have HV : Hid (Owns V cb (bx 43 5 vb (x.l (.slice dp x.data.length dc)) :: ([bxC cb S (.slice fp2 FL.length fc2) (.slice .none 0 0) (.slice .none 0 0)] ++ rowFl (.slice fp2 FL.length fc2) FL :: rowsD FL)) ∧ Below cb W0 V ∧ cb ≤ V.heap.size ∧ V = wr.alloc (.cells #[.string x.path, .int .i64 x.ty, .int .i16 x.mj, .int .i16 x.mn, .slice dp x.data.length dc] 43) ∧ vb = wr.heap.size ∧ x.data.length ≤ 1100000) := by
        refine ⟨?_, HR.out.2.2.1.trans (bV.mono HR.out.2.2.2), Nat.le_trans HR.out.2.2.2 bV.size, hV, hvb, by have := HN.out; omega⟩
        rw [hvb]
        exact HR.out.2.1.new (by rw [hV]; exact new_heap _ _) bV rfl HR.out.2.2.2
      have HDT : Hid (Byt V dp x.data.length dc x.data) := byt_of (Wd.keep hD (Nat.le_refl _) ((hbel.mono HX1.out).trans (bV.mono (by have := HX1.out; have := HW1.out.2.2.2.2; have := HR.out.2.2.2; omega)))) (by have := HX1.out; have := HW1.out.2.2.2.2; have := HV.out.2.2.1; omega)
      clear Q hr hcl hD hx hbX hbel hxm hsm hfs hV bV hvb hbz
      go_upto_region 9 with fail
      rw [← HV.out.2.2.2.1, ← HV.out.2.2.2.2.1]
      have c4 : V.cell? ⟨vb, 4, .none⟩ = some (.slice dp x.data.length dc) := (HV.out.1.cell (b := vb) (t := 43) (k := 5) (cs := x.l (.slice dp x.data.length dc)) (by simp) 4).1
      have c10 := lend_any (w := V) HDT.out (by have := HV.out.2.2.2.2.2; omega)
      have HLQ : Hid (x.data.length ≤ 1100000) := HV.out.2.2.2.2.2
      go_upto_region 10 with (first | (go_at_call 10; refine c10.mono ?_; rintro _ w2 ⟨g, cg, rfl, hL, b2⟩; have H2 : Hid (Owns w2 cb (rowD x.data (g, cg) :: bx 43 5 vb (x.l (.slice dp x.data.length dc)) :: ([bxC cb S (.slice fp2 FL.length fc2) (.slice .none 0 0) (.slice .none 0 0)] ++ rowFl (.slice fp2 FL.length fc2) FL :: rowsD FL)) ∧ Below cb W0 w2 ∧ cb ≤ w2.heap.size) := ⟨HV.out.1.push b2 hL HV.out.2.2.1, HV.out.2.1.trans (b2.mono HV.out.2.2.1), Nat.le_trans HV.out.2.2.1 b2.size⟩; clear b2 hL c10 c4; have c4 : w2.cell? ⟨vb, 4, .none⟩ = some (.slice dp x.data.length dc) := (H2.out.1.cell (b := vb) (t := 43) (k := 5) (cs := x.l (.slice dp x.data.length dc)) (by simp) 4).1; have f4 := (H2.out.1.cell (b := vb) (t := 43) (k := 5) (cs := x.l (.slice dp x.data.length dc)) (by simp) 4).2))
      clear c4 f4
      obtain ⟨W3, hW3⟩ : ∃ W3, W3 = w2.setCell ⟨vb, 4, .none⟩ (.slice (some ⟨g, 0, .none⟩) x.data.length cg) := ⟨_, rfl⟩
      rw [← hW3]
      have H3 : Hid (Owns W3 cb ([rowD x.data (g, cg), bx 43 5 vb (flC (x, (g, cg))), bxC cb S (.slice fp2 FL.length fc2) (.slice .none 0 0) (.slice .none 0 0)] ++ rowFl (.slice fp2 FL.length fc2) FL :: rowsD FL) ∧ Below cb W0 W3 ∧ cb ≤ W3.heap.size) := by
        have h5 := Owns.setAt (A := [rowD x.data (g, cg)]) (j := 4) (g := vb) (n := 1) (c := 1) H2.out.1 (.slice (some ⟨g, 0, .none⟩) x.data.length cg) rfl rfl (by show 4 < 5; decide)
        rw [← hW3] at h5
        refine ⟨h5, ?_, by rw [hW3]; simpa [World.setCell] using H2.out.2.2⟩
        rw [hW3]
        exact H2.out.2.1.setCell (by have := HV.out.2.2.2.2.1; have := HR.out.2.2.2; show cb ≤ vb; omega) _
      clear hW3
      have k1 : W3.cell? ⟨cb, 1, .none⟩ = some (.slice fp2 FL.length fc2) := (H3.out.1.cell (b := cb) (t := 26) (k := 6) (cs := scL S (.slice fp2 FL.length fc2) (.slice .none 0 0) (.slice .none 0 0)) (by simp [bxC]) 1).1
      have e0 : W3.cell? ⟨vb, 0, .none⟩ = some (.string x.path) := (H3.out.1.cell (b := vb) (t := 43) (k := 5) (cs := flC (x, (g, cg))) (by simp) 0).1
      have e1 : W3.cell? ⟨vb, 1, .none⟩ = some (.int .i64 x.ty) := (H3.out.1.cell (b := vb) (t := 43) (k := 5) (cs := flC (x, (g, cg))) (by simp) 1).1
      have e2 : W3.cell? ⟨vb, 2, .none⟩ = some (.int .i16 x.mj) := (H3.out.1.cell (b := vb) (t := 43) (k := 5) (cs := flC (x, (g, cg))) (by simp) 2).1
      have e3 : W3.cell? ⟨vb, 3, .none⟩ = some (.int .i16 x.mn) := (H3.out.1.cell (b := vb) (t := 43) (k := 5) (cs := flC (x, (g, cg))) (by simp) 3).1
      have e4 : W3.cell? ⟨vb, 4, .none⟩ = some (.slice (some ⟨g, 0, .none⟩) x.data.length cg) := (H3.out.1.cell (b := vb) (t := 43) (k := 5) (cs := flC (x, (g, cg))) (by simp) 4).1
      go_wp2_with (first | (refine wpList_is (.buildSlice 22 1 #[(0, .tmp 29)]) rfl ?_; refine wpList_pushG 22 43 5 56 info43 Tryd.underlying22 (by decide) (by decide) (by decide) H3.out.1 rfl rfl (by show FL.length ≤ _; have := HFL.out; have := HN.out; omega) H3.out.2.2 (flC (x, (g, cg))) rfl (by simp [flC, Fl.l, dv, Value.oneCell']) 29 30 (.tmp 28) rfl rfl rfl rfl rfl rfl (some 31) rfl rfl rfl ?_; intro v' w4 O4 b4; have HO4 : Hid (Owns w4 cb ([rowD x.data (g, cg), bx 43 5 vb (flC (x, (g, cg))), bxC cb S (.slice fp2 FL.length fc2) (.slice .none 0 0) (.slice .none 0 0)] ++ rowFl v' (FL ++ [(x, (g, cg))]) :: rowsD FL) ∧ Below cb W0 w4 ∧ cb ≤ w4.heap.size) := ⟨by (have h6 := O4; simp only [rowFl, List.length_append, List.length_singleton, List.flatMap_append, List.flatMap_cons, List.flatMap_nil, List.append_nil] at h6 ⊢; exact h6), H3.out.2.1.trans (b4.mono (Nat.le_refl _)), Nat.le_trans H3.out.2.2 b4.size⟩; clear O4 b4 k1 e0 e1 e2 e3 e4; have k1 : w4.cell? ⟨cb, 1, .none⟩ = some (.slice fp2 FL.length fc2) := (HO4.out.1.cell (b := cb) (t := 26) (k := 6) (cs := scL S (.slice fp2 FL.length fc2) (.slice .none 0 0) (.slice .none 0 0)) (by simp [bxC]) 1).1; have f1 := (HO4.out.1.cell (b := cb) (t := 26) (k := 6) (cs := scL S (.slice fp2 FL.length fc2) (.slice .none 0 0) (.slice .none 0 0)) (by simp [bxC]) 1).2; obtain ⟨fp3, fc3, hv3⟩ := own_form (HO4.out.1.own (rowFl v' (FL ++ [(x, (g, cg))])) (by simp)); have hv3 : v' = .slice fp3 (FL ++ [(x, (g, cg))]).length fc3 := hv3; subst hv3) | fail)
      refine ⟨⟨i + 1, by omega, by go_num, .slice fp3 (FL.length + 1) fc3, FL ++ [(x, (g, cg))], ?_⟩, by simp only [intOf]; omega⟩
      refine ⟨by rw [List.map_append, HR.out.1, HX.out]; rfl, ?_, HO4.out.2.1.setCell (p := ⟨cb, 1, .none⟩) (Nat.le_refl _) _, by simpa [World.setCell] using HO4.out.2.2⟩
      have h5 := Owns.setAt (A := [rowD x.data (g, cg), bx 43 5 vb (flC (x, (g, cg)))]) (j := 1) (g := cb) (n := 1) (c := 1) HO4.out.1 (.slice fp3 (FL.length + 1) fc3) rfl rfl (by show 1 < 6; decide)
      have h6 : Owns (w4.setCell ⟨cb, 1, .none⟩ (.slice fp3 (FL.length + 1) fc3)) cb ([rowD x.data (g, cg)] ++ (bxC cb S (.slice fp3 (FL.length + 1) fc3) (.slice .none 0 0) (.slice .none 0 0) :: rowFl (.slice fp3 (FL.length + 1) fc3) (FL ++ [(x, (g, cg))]) :: rowsD FL)) := by
        refine Owns.sub (R := _) (by simpa using h5) ?_
        exact List.Sublist.cons_cons _ (List.Sublist.cons _ (List.Sublist.refl _))
      refine h6.perm ?_
      unfold rowsD
      rw [List.map_append]
      exact List.perm_append_comm.trans (by simp)
    · have g0 : ¬ (i : Int) < nf := by omega
      obtain rfl : i = nf := by omega
      have HFM : Hid (FL.map (·.1) = S.files) := by have := HR.out.1; rw [List.take_of_length_le (by have := HN.out; omega)] at this; exact this
      have s4 := (scz_of hzr).c4
      have s5 := (scz_of hzr).c5
      have k4 : wr.cell? ⟨cb, 4, .none⟩ = some (.slice .none 0 0) := (HR.out.2.1.cell (b := cb) (t := 26) (k := 6) (cs := scL S (.slice fp2 FL.length fc2) (.slice .none 0 0) (.slice .none 0 0)) (by simp [bxC]) 4).1
      have hbel : Below z w wr := HW0.out.2.2.1.trans (HR.out.2.2.1.mono (by have := HW1.out.2.2.2.2; omega))
      obtain ⟨v', w', hrun, ho, hb9⟩ := app_ticks (w := wr) (Wd.keep H.out.1.ts (Nat.le_refl _) (hbel.mono HX1.out)) (by have := HN.out; omega) 23
      have HT5 : Hid (Owns w' cb (rowTk v' S.ticks :: ([bxC cb S (.slice fp2 FL.length fc2) (.slice .none 0 0) (.slice .none 0 0)] ++ rowFl (.slice fp2 FL.length fc2) FL :: rowsD FL)) ∧ Below cb W0 w' ∧ cb ≤ w'.heap.size) := ⟨HR.out.2.1.push hb9 (r := rowTk v' S.ticks) ho HR.out.2.2.2, HR.out.2.2.1.trans (hb9.mono HR.out.2.2.2), Nat.le_trans HR.out.2.2.2 hb9.size⟩
      have n4 : w'.cell? ⟨cb, 4, .none⟩ = some (.slice .none 0 0) := (HT5.out.1.cell (b := cb) (t := 26) (k := 6) (cs := scL S (.slice fp2 FL.length fc2) (.slice .none 0 0) (.slice .none 0 0)) (by simp [bxC]) 4).1
      have f4 := (HT5.out.1.cell (b := cb) (t := 26) (k := 6) (cs := scL S (.slice fp2 FL.length fc2) (.slice .none 0 0) (.slice .none 0 0)) (by simp [bxC]) 4).2
      obtain ⟨tp2, tc2, hv3⟩ := own_form ho
      subst hv3
      clear ho hb9 hbel HR hzr s5 w1
      go_upto_region 12 with (first | (at_builtin; refine wpList_app rfl (.tmp 34) (.tmp 36) 23 23 rfl rfl rfl hrun ?_; clear hrun s4 k4) | fail)
      clear n4 f4 g0
      obtain ⟨W5, hW5⟩ : ∃ W5, W5 = w'.setCell ⟨cb, 4, .none⟩ (.slice tp2 S.ticks.length tc2) := ⟨_, rfl⟩
      rw [← hW5]
      have HW5 : Hid (Owns W5 cb ([bxC cb S (.slice fp2 FL.length fc2) (.slice tp2 S.ticks.length tc2) (.slice .none 0 0), rowFl (.slice fp2 FL.length fc2) FL, rowTk (.slice tp2 S.ticks.length tc2) S.ticks] ++ rowIp (.slice .none 0 0) [] :: (rowsD FL ++ rowsE [])) ∧ Below cb W0 W5 ∧ cb ≤ W5.heap.size) := by
        have h5 := Owns.setAt (A := [rowTk (.slice tp2 S.ticks.length tc2) S.ticks]) (j := 4) (g := cb) (n := 1) (c := 1) HT5.out.1 (.slice tp2 S.ticks.length tc2) rfl rfl (by show 4 < 6; decide)
        rw [← hW5] at h5
        have hsz : cb ≤ W5.heap.size := by rw [hW5]; simpa [World.setCell] using HT5.out.2.2
        refine ⟨?_, by rw [hW5]; exact HT5.out.2.1.setCell (p := ⟨cb, 4, .none⟩) (Nat.le_refl _) _, hsz⟩
        have h6 := h5.push (Below.refl _ _) (r := rowIp (.slice .none 0 0) []) (World.ownsRow_nil _ _ _ _) hsz
        refine h6.perm ?_
        simp only [rowsE, List.map_nil, List.append_nil]
        refine (List.Perm.swap _ _ _).trans ((List.Perm.cons _ (List.Perm.swap _ _ _)).trans ?_)
        refine (List.Perm.swap _ _ _).trans (List.Perm.cons _ ?_)
        refine (List.Perm.cons _ (List.Perm.swap _ _ _)).trans ((List.Perm.swap _ _ _).trans (List.Perm.cons _ (List.Perm.refl _)))
      clear hW5 HT5
      go_wp2_with fail
      go_loopw [6] (fun k wr => ∃ j : Nat, j ≤ ni ∧ k = .int .i64 j ∧ ∃ iv IL, Hid (IL.map (·.1) = S.ins.take j ∧ Owns wr cb ([bxC cb S (.slice fp2 FL.length fc2) (.slice tp2 S.ticks.length tc2) iv, rowFl (.slice fp2 FL.length fc2) FL, rowTk (.slice tp2 S.ticks.length tc2) S.ticks] ++ rowIp iv IL :: (rowsD FL ++ rowsE IL)) ∧ Below cb W0 wr ∧ cb ≤ wr.heap.size)) (fun k _ => (ni - intOf k).toNat)
      case atStart => exact ⟨0, by omega, rfl, _, [], rfl, HW5.out⟩
      case round =>
        obtain ⟨j, hj, rfl, iv, IL, HR⟩ := hrel
        obtain ⟨ip2, ic2, hfv⟩ := own_form (HR.out.2.1.own (rowIp iv IL) (by simp))
        have hfv : iv = .slice ip2 IL.length ic2 := hfv
        subst hfv
        have w1 : IntKind.i64.wrap ((j : Int) + 1) = (j : Int) + 1 := by rw [IntKind.wrap_i64]; have := HN.out; omega
        have hzr := (HR.out.2.2.1.block z (by have := HW1.out.2.2.2.2; omega)).trans HW0.out.1
        have s5 := (scz_of hzr).c5
        have HIL : Hid (IL.length = j) := by show _ = _; have := congrArg List.length HR.out.1; rw [List.length_map, List.length_take] at this; have := HN.out; omega
        by_cases hlt : j < ni
        · have g0 : (j : Int) < ni := by omega
          obtain ⟨-, b, o, x, cs, rfl, hbX, hx, ⟨dvv, rfl, hD⟩, hcl, hr⟩ := H.out.1.is.at hlt
          have hxm := List.mem_of_getElem? hx
          have hbel : Below z w wr := HW0.out.2.2.1.trans (HR.out.2.2.1.mono (by have := HW1.out.2.2.2.2; omega))
          have hbz : b < z := by have := HX1.out; omega
          have Q : ∀ k v, (x.l dvv)[k]? = some v → wr.cell? ⟨b, o + j * 2 + k, .none⟩ = some v := fun k v hk => (hbel.cell (p := ⟨b, o + j * 2 + k, .none⟩) hbz).trans (hr k v hk)
          have q0 : wr.cell? ⟨b, o + j * 2, .none⟩ = some (.int .i64 x.tm) := Q 0 _ rfl
          obtain ⟨dp, dc, rfl⟩ := hD.form
          have q1 : wr.cell? ⟨b, o + j * 2 + 1, .none⟩ = some (.slice dp x.data.length dc) := Q 1 _ rfl
          have k5 : wr.cell? ⟨cb, 5, .none⟩ = some (.slice ip2 IL.length ic2) := (HR.out.2.1.cell (b := cb) (t := 26) (k := 6) (cs := scL S (.slice fp2 FL.length fc2) (.slice tp2 S.ticks.length tc2) (.slice ip2 IL.length ic2)) (by simp [bxC]) 5).1
          have HX : Hid (S.ins.take (j + 1) = S.ins.take j ++ [x]) := by show _ = _; rw [List.take_add_one, hx]; rfl
          have hsm := sumN_mem (List.mem_map_of_mem (f := iSz) hxm)
          have hfs : iSz x = x.data.length := rfl
          have HQ : Hid ((b < wr.heap.size ∧ z < wr.heap.size ∧ cb < wr.heap.size) ∧ x.data.length ≤ 1100000) := ⟨⟨by have := HR.out.2.2.2; have := HW1.out.2.2.2.2; omega, by have := HR.out.2.2.2; have := HW1.out.2.2.2.2; omega, lt_of_cell k5⟩, by have := HN.out; omega⟩
          have HDT : Hid (Byt wr.drew dp x.data.length dc x.data) := byt_of (Wd.keep hD (Nat.le_refl _) (hbel.mono HX1.out).drew) (by have := HX1.out; have := HW1.out.2.2.2.2; have := HR.out.2.2.2; show X ≤ wr.heap.size; omega)
          have HS : Hid (wr.cell? ⟨cb, 5, .none⟩ = some (.slice ip2 IL.length ic2) ∧ wr.cell? ⟨z, 5, .none⟩ = some (.slice (some ⟨b, o, .none⟩) ni ic) ∧ wr.cell? ⟨b, o + j * 2, .none⟩ = some (.int .i64 x.tm) ∧ wr.cell? ⟨b, o + j * 2 + 1, .none⟩ = some (.slice dp x.data.length dc)) := ⟨k5, s5, q0, q1⟩
          have HSK : Hid (∀ U, Below wr.heap.size wr U → (U.cell? ⟨cb, 5, .none⟩ = some (.slice ip2 IL.length ic2) ∧ U.cell? ⟨z, 5, .none⟩ = some (.slice (some ⟨b, o, .none⟩) ni ic) ∧ U.cell? ⟨b, o + j * 2, .none⟩ = some (.int .i64 x.tm) ∧ U.cell? ⟨b, o + j * 2 + 1, .none⟩ = some (.slice dp x.data.length dc))) := fun U hU =>
            ⟨(hU.cell (p := ⟨cb, 5, .none⟩) HQ.out.1.2.2).trans k5, (hU.cell (p := ⟨z, 5, .none⟩) HQ.out.1.2.1).trans s5, (hU.cell (p := ⟨b, o + j * 2, .none⟩) HQ.out.1.1).trans q0, (hU.cell (p := ⟨b, o + j * 2 + 1, .none⟩) HQ.out.1.1).trans q1⟩
          clear Q hr hcl hD hx hbX hbel hxm hsm hfs hbz hzr
          go_upto_region 15 with fail
          clear q0 q1 k5 s5
          have hSd := HSK.out wr.drew (Below.refl _ _).drew
          refine region_set (fun U => U.cell? ⟨cb, 5, .none⟩ = some (.slice ip2 IL.length ic2) ∧ U.cell? ⟨z, 5, .none⟩ = some (.slice (some ⟨b, o, .none⟩) ni ic) ∧ U.cell? ⟨b, o + j * 2, .none⟩ = some (.int .i64 x.tm) ∧ U.cell? ⟨b, o + j * 2 + 1, .none⟩ = some (.slice dp x.data.length dc)) 17 [] (by kernel_rfl) ?_
          refine sT 0 (.pointer (some ⟨cb, 5, .none⟩)) rfl ?_ (fun ww hSw => by go_simp) (hS := hSd)
          simp only [x0,x1,x2,x3,x4,x5,x6]
          refine sT 1 (.slice ip2 IL.length ic2) rfl ?_ (fun ww hSw => by have c9 := hSw.1; go_simp) (hS := hSd)
          simp only [x0,x1,x2,x3,x4,x5,x6]
          refine sT 2 (.pointer (some ⟨z, 5, .none⟩)) rfl ?_ (fun ww hSw => by go_simp) (hS := hSd)
          simp only [x0,x1,x2,x3,x4,x5,x6]
          refine sT 3 (.slice (some ⟨b, o, .none⟩) ni ic) rfl ?_ (fun ww hSw => by have c9 := hSw.2.1; go_simp) (hS := hSd)
          simp only [x0,x1,x2,x3,x4,x5,x6]
          refine sT 4 (.int .i64 j) rfl ?_ (fun ww hSw => by go_simp) (hS := hSd)
          simp only [x0,x1,x2,x3,x4,x5,x6]
          refine sT 5 (.pointer (some ⟨b, o + j * 2, .none⟩)) rfl ?_ (fun ww hSw => by go_simp) (hS := hSd)
          simp only [x0,x1,x2,x3,x4,x5,x6]
          refine sT 6 (.pointer (some ⟨b, o + j * 2, .none⟩)) rfl ?_ (fun ww hSw => by go_simp) (hS := hSd)
          simp only [x0,x1,x2,x3,x4,x5,x6]
          refine sT 7 (.int .i64 x.tm) rfl ?_ (fun ww hSw => by have c9 := hSw.2.2.1; go_simp) (hS := hSd)
          simp only [x0,x1,x2,x3,x4,x5,x6]
          refine sT 8 (.pointer (some ⟨z, 5, .none⟩)) rfl ?_ (fun ww hSw => by go_simp) (hS := hSd)
          simp only [x0,x1,x2,x3,x4,x5,x6]
          refine sT 9 (.slice (some ⟨b, o, .none⟩) ni ic) rfl ?_ (fun ww hSw => by have c9 := hSw.2.1; go_simp) (hS := hSd)
          simp only [x0,x1,x2,x3,x4,x5,x6]
          refine sT 10 (.int .i64 j) rfl ?_ (fun ww hSw => by go_simp) (hS := hSd)
          simp only [x0,x1,x2,x3,x4,x5,x6]
          refine sT 11 (.pointer (some ⟨b, o + j * 2, .none⟩)) rfl ?_ (fun ww hSw => by go_simp) (hS := hSd)
          simp only [x0,x1,x2,x3,x4,x5,x6]
          refine sT 12 (.pointer (some ⟨b, o + j * 2 + 1, .none⟩)) rfl ?_ (fun ww hSw => by go_simp) (hS := hSd)
          simp only [x0,x1,x2,x3,x4,x5,x6]
          refine sT 13 (.slice dp x.data.length dc) rfl ?_ (fun ww hSw => by have c9 := hSw.2.2.2; go_simp) (hS := hSd)
          simp only [x0,x1,x2,x3,x4,x5,x6]
          have c10 := lend_any (w := wr.drew) HDT.out (by have := HQ.out.2; omega)
          refine set_only (i := 14) (by kernel_rfl) rfl (by rfl) (fun K hK => ?_)
          go_simp
          go_at_call 10
          refine c10.mono ?_
          rintro _ w2 ⟨g, cg, rfl, hL, b2⟩
          have b2 : Below wr.heap.size wr w2 := (Below.refl _ _).drew.trans b2
          have H2 : Hid (Owns w2 cb (rowD x.data (g, cg) :: ([bxC cb S (.slice fp2 FL.length fc2) (.slice tp2 S.ticks.length tc2) (.slice ip2 IL.length ic2), rowFl (.slice fp2 FL.length fc2) FL, rowTk (.slice tp2 S.ticks.length tc2) S.ticks] ++ rowIp (.slice ip2 IL.length ic2) IL :: (rowsD FL ++ rowsE IL))) ∧ Below cb W0 w2 ∧ cb ≤ w2.heap.size) := ⟨HR.out.2.1.push b2 (r := rowD x.data (g, cg)) hL HR.out.2.2.2, HR.out.2.2.1.trans (b2.mono HR.out.2.2.2), Nat.le_trans HR.out.2.2.2 b2.size⟩
          have hS2 := HSK.out w2 b2
          have HB2 : Hid (Below wr.heap.size wr w2) := b2
          clear b2 hL c10 hSd
          refine hK.out _ _ (fun _ => hS2) ?_
          clear hK K
          try simp only [x0,x1,x2,x3,x4,x5,x6]
          refine set_only (i := 15) (by kernel_rfl) rfl (by rfl) (fun K hK => ?_)
          go_simp
          refine hK.out _ _ (fun _ => hS2) ?_
          clear hK K
          try simp only [x0,x1,x2,x3,x4,x5,x6]
          refine set_only (i := 16) (by kernel_rfl) rfl (by rfl) (fun K hK => ?_)
          refine wp_sliceG 24 45 2 32 info45 (by decide) (by decide) Tryd.underlying24 (ipC (x, (g, cg))) rfl 61 rfl rfl ?_
          refine hK.out _ _ (fun _ => HSK.out _ (HB2.out.trans ((below1 _ _).mono HB2.out.size))) ?_
          clear hK K
          try simp only [x0,x1,x2,x3,x4,x5,x6]
          refine set_only (i := 17) (by kernel_rfl) rfl (by rfl) (fun K hK => ?_)
          have hsz3 : cb ≤ (w2.alloc (.cells (ipC (x, (g, cg))).toArray 45)).heap.size := by rw [World.size_alloc]; have := H2.out.2.2; omega
          refine wp_appG 24 45 2 32 info45 Tryd.underlying24 (by decide) (by decide) (A := [rowD x.data (g, cg), bxC cb S (.slice fp2 FL.length fc2) (.slice tp2 S.ticks.length tc2) (.slice ip2 IL.length ic2), rowFl (.slice fp2 FL.length fc2) FL, rowTk (.slice tp2 S.ticks.length tc2) S.ticks]) (H2.out.1.alloc (.cells (ipC (x, (g, cg))).toArray 45)) rfl rfl (by show IL.length ≤ _; have := HIL.out; have := HN.out; omega) hsz3 (ipC (x, (g, cg))) rfl (by simp [ipC, Ip.l, dv, Value.oneCell']) w2.heap.size (range_new _ _ _) (.tmp 47) (.tmp 62) rfl rfl rfl ?_
          intro v' w4 O4 b4 gr4
          have HO4 : Hid (Owns w4 cb ([rowD x.data (g, cg), bxC cb S (.slice fp2 FL.length fc2) (.slice tp2 S.ticks.length tc2) (.slice ip2 IL.length ic2), rowFl (.slice fp2 FL.length fc2) FL, rowTk (.slice tp2 S.ticks.length tc2) S.ticks] ++ rowIp v' (IL ++ [(x, (g, cg))]) :: (rowsD FL ++ rowsE IL)) ∧ Below cb W0 w4 ∧ cb ≤ w4.heap.size) := ⟨by (have h6 := O4; simp only [rowIp, List.length_append, List.length_singleton, List.flatMap_append, List.flatMap_cons, List.flatMap_nil, List.append_nil] at h6 ⊢; exact h6), (H2.out.2.1.alloc H2.out.2.2 _).trans b4, Nat.le_trans hsz3 b4.size⟩
          clear O4 b4 gr4 hsz3
          refine hK.out _ _ (fun h => by simp at h) ?_
          clear hK K
          try simp only [x0,x1,x2,x3,x4,x5,x6]
          obtain ⟨ip3, ic3, hv3⟩ := own_form (HO4.out.1.own (rowIp v' (IL ++ [(x, (g, cg))])) (by simp))
          have hv3 : v' = .slice ip3 (IL.length + 1) ic3 := by
            have h9 : v' = .slice ip3 (IL ++ [(x, (g, cg))]).length ic3 := hv3
            rw [List.length_append] at h9
            exact h9
          subst hv3
          have k5 : w4.cell? ⟨cb, 5, .none⟩ = some (.slice ip2 IL.length ic2) := (HO4.out.1.cell (b := cb) (t := 26) (k := 6) (cs := scL S (.slice fp2 FL.length fc2) (.slice tp2 S.ticks.length tc2) (.slice ip2 IL.length ic2)) (by simp [bxC]) 5).1
          have f5 := (HO4.out.1.cell (b := cb) (t := 26) (k := 6) (cs := scL S (.slice fp2 FL.length fc2) (.slice tp2 S.ticks.length tc2) (.slice ip2 IL.length ic2)) (by simp [bxC]) 5).2
          refine set_only (i := 18) (by kernel_rfl) rfl (by rfl) (fun K hK => ?_)
          go_simp
          refine hK.out _ _ (fun h => by simp at h) ?_
          clear hK K
          try simp only [x0,x1,x2,x3,x4,x5,x6]
          refine set_only (i := 19) (by kernel_rfl) rfl (by rfl) (fun K hK => ?_)
          go_simp
          refine hK.out _ _ (fun h => by simp at h) ?_
          clear hK K k5 f5
          try simp only [x0,x1,x2,x3,x4,x5,x6]
          refine set_tail 0 20 _ _ _ _ (by kernel_rfl) (by decide) ?_
          simp only [List.toList_toArray, List.drop_succ_cons, List.drop_zero]
          go_wp2
          refine ⟨⟨j + 1, by omega, by go_num, .slice ip3 (IL.length + 1) ic3, IL ++ [(x, (g, cg))], ?_⟩, by simp only [intOf]; omega⟩
          refine ⟨by rw [List.map_append, HR.out.1, HX.out]; rfl, ?_, HO4.out.2.1.setCell (p := ⟨cb, 5, .none⟩) (Nat.le_refl _) _, by simpa [World.setCell] using HO4.out.2.2⟩
          have h5 := Owns.setAt (A := [rowD x.data (g, cg)]) (j := 5) (g := cb) (n := 1) (c := 1) HO4.out.1 (.slice ip3 (IL.length + 1) ic3) rfl rfl (by show 5 < 6; decide)
          refine h5.perm ?_
          unfold rowsE
          rw [List.map_append, ← List.append_assoc]
          exact (List.perm_append_comm (l₁ := [rowD x.data (g, cg)])).trans (by simp; exact List.Perm.refl _)
        · have g0 : ¬ (j : Int) < ni := by omega
          obtain rfl : j = ni := by omega
          have HIM : Hid (IL.map (·.1) = S.ins) := by have := HR.out.1; rw [List.take_of_length_le (by have := HN.out; omega)] at this; exact this
          have hmem : bx 26 6 cb (scL S (.slice fp2 FL.length fc2) (.slice tp2 S.ticks.length tc2) (.slice ip2 IL.length ic2)) ∈ ([bxC cb S (.slice fp2 FL.length fc2) (.slice tp2 S.ticks.length tc2) (.slice ip2 IL.length ic2), rowFl (.slice fp2 FL.length fc2) FL, rowTk (.slice tp2 S.ticks.length tc2) S.ticks] ++ rowIp (.slice ip2 IL.length ic2) IL :: (rowsD FL ++ rowsE IL)) := by simp [bxC]
          have hcb := HR.out.2.1.bx hmem
          have q := scz_of hcb
          have q0 := q.c0
          have q1 := q.c1
          have q2 := q.c2
          have q3 := q.c3
          have q4 := q.c4
          have q5 := q.c5
          clear q
          have hz1 := (HR.out.2.2.1.block (z + 1) (by have := HW1.out.2.2.2.2; omega)).trans HW0.out.2.1
          go_wp2_with (first | (refine wpList_is (.store 26 (.tmp 2) (.tmp 65)) rfl ?_; refine wpList_storeG 26 6 104 (z + 1) info26 (scL S (.slice fp2 FL.length fc2) (.slice tp2 S.ticks.length tc2) (.slice ip2 IL.length ic2)) [.int .i64 0, .slice .none 0 0, .string ⟨#[]⟩, .int .i64 0, .slice .none 0 0, .slice .none 0 0] rfl rfl (by simp [scL, Value.oneCell']) _ _ _ rfl rfl rfl rfl rfl hz1 ?_; intro W6 hW6 gr6 hs6) | fail)
          refine bodyPost_ret (results_cell_any (p := 2) (ty := 26) rfl _ _ ⟨z + 1, 0, .none⟩ _ rfl (run_loadVar_mid (P := Tryd.prog) _ (z + 1) 0 26 (scL S (.slice fp2 FL.length fc2) (.slice tp2 S.ticks.length tc2) (.slice ip2 IL.length ic2)) _ (range_heap hW6) Tryd.underlying26 rfl (by kernel_rfl))) rfl ?_
          have hbl : Below z w W6 := (HW0.out.2.2.1.trans (HR.out.2.2.1.mono (by have := HW1.out.2.2.2.2; omega))).trans ⟨gr6.os, gr6.tape, gr6.output, gr6.size, fun k hk => gr6.block k (by have := HR.out.2.2.2; have := HW1.out.2.2.2.2; omega) (by intro e; injection e with e; omega)⟩
          refine ⟨_, _, _, FL, IL, rfl, HFM.out, HIM.out, ?_, by rw [← HW0.out.2.2.2.2]; exact hbl⟩
          have h7 : Owns wr cb (rowsS (.slice fp2 FL.length fc2) (.slice tp2 S.ticks.length tc2) (.slice ip2 IL.length ic2) FL S.ticks IL) := HR.out.2.1.sub (List.Sublist.cons _ (List.Sublist.refl _))
          refine ⟨fun r hr => ?_, h7.nd⟩
          have h8 := h7.own r hr
          rw [← HW0.out.2.2.2.2]
          refine own_mono (h8.kept gr6 ?_) (by have := HW1.out.2.2.2.2; omega)
          cases hv : r.v.ownBlock with
          | none => exact .inl rfl
          | some gg =>
            refine .inr (fun e => ?_)
            injection e with e
            have := (h8.lt gg hv).1
            have := HW1.out.2.2.2.2
            omega
end Go.Proofs.YtjbealefopajcaaDoor
