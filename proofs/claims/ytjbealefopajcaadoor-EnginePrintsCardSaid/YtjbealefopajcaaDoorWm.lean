import Derived.Test.YtjbealefopajcaaDoorWl
namespace Go.Proofs.YtjbealefopajcaaDoor
open Go Go.RowKit Rg
set_option linter.unusedVariables false
set_option linter.unusedSimpArgs false
set_option maxRecDepth 100000
/-! kept: what was lent is as it was. -/
theorem row_cell {α : Type} {w : World} {base e sz n c : Nat} {p : Option Addr} {l : List α} {f : α → List Value} (h : w.ownsRow base e sz (.slice p n c) n (l.flatMap f)) (hf : ∀ x, (f x).length = sz) {i : Nat} {x : α} (hx : l[i]? = some x) (h0 : 0 < n) : ∃ b, p = some ⟨b, 0, .none⟩ ∧ b < w.heap.size ∧ base ≤ b ∧ ∀ j v, (f x)[j]? = some v → w.cell? ⟨b, i * sz + j, .none⟩ = some v := by
  obtain ⟨g, cap, cur, hv, hb, hg, _⟩ := h.2.resolve_left (by rintro ⟨_, e⟩; omega)
  cases hv
  refine ⟨g, rfl, hp_lt hg, hb, fun j v hj => ?_⟩
  have h1 := h.cells (g := g) rfl (i * sz + j) v (by
    rw [List.flatMap_def]
    exact flat_get (sz := sz) (fun c hc => by obtain ⟨y, _, rfl⟩ := List.mem_map.1 hc; exact hf y) i (f x) (by rw [List.getElem?_map, hx]; rfl) j v hj)
  rwa [le_addr_add, Nat.zero_add] at h1
set_option maxHeartbeats 8000000 in
theorem skept_any {w : World} {base X : Nat} {fv tv iv fv' tv' iv' : Value} {S : Sc} {FL : List (Fl × Gc)} {IL : List (Ip × Gc)} (ho : Owns w base (rowsS fv tv iv FL S.ticks IL)) (hFL : FL.map (·.1) = S.files) (hIL : IL.map (·.1) = S.ins) (h' : ScW w X fv' tv' iv' S) (hX : X ≤ w.heap.size) (hF : Few S) : Calls Tryd.prog 9 #[.agg (scL S fv tv iv).toArray, .agg (scL S fv' tv' iv').toArray] w fun e w' => e = .returned (.bool true) ∧ Below w.heap.size w w' := by
  have h := scw_lent (fr := S.fr) (bu := S.bu) (init := S.init) ho
  have hSe : (⟨S.fr, FL.map (·.1), S.init, S.bu, S.ticks, IL.map (·.1)⟩ : Sc) = S := by rw [hFL, hIL]
  rw [hSe] at h
  have h' := h'.keep hX (Below.refl _ _)
  obtain ⟨fp, fc, rfl⟩ := h.fs.form
  obtain ⟨tp, tc, rfl⟩ := h.ts.form
  obtain ⟨ip, ic, rfl⟩ := h.is.form
  obtain ⟨fp', fc', rfl⟩ := h'.fs.form
  obtain ⟨tp', tc', rfl⟩ := h'.ts.form
  obtain ⟨ip', ic', rfl⟩ := h'.is.form
  obtain ⟨nf, hnf⟩ : ∃ n, n = S.files.length := ⟨_, rfl⟩
  obtain ⟨nt, hnt⟩ : ∃ n, n = S.ticks.length := ⟨_, rfl⟩
  obtain ⟨ni, hni⟩ : ∃ n, n = S.ins.length := ⟨_, rfl⟩
  rw [← hnf, ← hnt, ← hni] at h h' ho ⊢
  have H : Hid (ScW w w.heap.size (.slice fp nf fc) (.slice tp nt tc) (.slice ip ni ic) S ∧ w.heap.size ≤ w.heap.size) := ⟨h, Nat.le_refl _⟩
  have H' : Hid (ScW w w.heap.size (.slice fp' nf fc') (.slice tp' nt tc') (.slice ip' ni ic') S) := h'
  have hsz := hF.sz
  unfold fewN at hsz
  have HN : Hid (nf = S.files.length ∧ ni = S.ins.length ∧ nt = S.ticks.length ∧ (nf ≤ 5000 ∧ nt ≤ 1100000 ∧ ni ≤ 5000) ∧ (sumN (S.files.map fSz) ≤ 1100000 ∧ sumN (S.ins.map iSz) ≤ 1100000)) := ⟨hnf, hni, hnt, by have := hF.nf; have := hF.nt; have := hF.ni; omega, by omega⟩
  have HO : Hid (Owns w base (rowsS (.slice fp nf fc) (.slice tp nt tc) (.slice ip ni ic) FL S.ticks IL) ∧ FL.map (·.1) = S.files ∧ IL.map (·.1) = S.ins ∧ Few S) := ⟨ho, hFL, hIL, hF⟩
  clear h h' ho hFL hIL hSe hnf hnt hni hF hX hsz
  obtain ⟨W0, hW0⟩ : ∃ W0, W0 = (w.alloc (.cells (scL S (.slice fp nf fc) (.slice tp nt tc) (.slice ip ni ic)).toArray 26)).alloc (.cells (scL S (.slice fp' nf fc') (.slice tp' nt tc') (.slice ip' ni ic')).toArray 26) := ⟨_, rfl⟩
  obtain ⟨z, hz⟩ : ∃ z, z = w.heap.size := ⟨_, rfl⟩
  have HW0 : Hid (W0.heap[z]? = some (.cells (scL S (.slice fp nf fc) (.slice tp nt tc) (.slice ip ni ic)).toArray 26 (0, 0)) ∧ W0.heap[z + 1]? = some (.cells (scL S (.slice fp' nf fc') (.slice tp' nt tc') (.slice ip' ni ic')).toArray 26 (0, 0)) ∧ Below z w W0 ∧ W0.heap.size = z + 2 ∧ z = w.heap.size ∧ w.heap.size ≤ z) := by
    have h9 := new_heap (w.alloc (.cells (scL S (.slice fp nf fc) (.slice tp nt tc) (.slice ip ni ic)).toArray 26)) (.cells (scL S (.slice fp' nf fc') (.slice tp' nt tc') (.slice ip' ni ic')).toArray 26)
    rw [World.size_alloc] at h9
    refine ⟨?_, by rw [hW0, hz]; exact h9, by rw [hz, hW0]; exact ((Below.refl _ _).alloc (Nat.le_refl _) _).alloc (by simp) _, by rw [hW0, hz]; simp, hz, by rw [hz]; exact H.out.2⟩
    rw [hW0, hz, Below.heap_alloc _ _ _ (by simp)]; exact new_heap _ _
  have HWW : Hid (W0 = (w.alloc (.cells (scL S (.slice fp nf fc) (.slice tp nt tc) (.slice ip ni ic)).toArray 26)).alloc (.cells (scL S (.slice fp' nf fc') (.slice tp' nt tc') (.slice ip' ni ic')).toArray 26)) := hW0
  have HZZ : Hid (z = w.heap.size) := hz
  have HZ : Hid (∀ U, Below (z + 2) W0 U → ScZ U z S (.slice fp nf fc) (.slice tp nt tc) (.slice ip ni ic) ∧ ScZ U (z + 1) S (.slice fp' nf fc') (.slice tp' nt tc') (.slice ip' ni ic') ∧ Below z w U) := fun U hU => ⟨scz_of ((hU.block z (by omega)).trans HW0.out.1), scz_of ((hU.block (z + 1) (by omega)).trans HW0.out.2.1), HW0.out.2.2.1.trans (hU.mono (by omega))⟩
  clear hW0 hz
  go_enter Tryd.func9, Tryd.ntmps9
  go_upto_region 1 with fail
  rw [← HWW.out, ← HZZ.out]
  clear HWW HZZ
  obtain ⟨q, q', hb0⟩ := HZ.out W0 (Below.refl _ _)
  have a0 := q.c0
  have a1 := q.c1
  have a2 := q.c2
  have a3 := q.c3
  have a4 := q.c4
  have a5 := q.c5
  have d0 := q'.c0
  have d1 := q'.c1
  have d2 := q'.c2
  have d3 := q'.c3
  have d4 := q'.c4
  have d5 := q'.c5
  clear q q'
  have c23 := ssame_any (w := W0) (H.out.1.keep (Nat.le_refl _) (hb0.mono HW0.out.2.2.2.2.2)) (H'.out.keep (Nat.le_refl _) (hb0.mono HW0.out.2.2.2.2.2)) hb0.size HO.out.2.2.2
  clear hb0
  go_upto_region 3 with (go_at_call 23; refine c23.mono ?_; rintro _ W2 ⟨rfl, b2⟩; have HW2 : Hid (Below (z + 2) W0 W2) := b2.mono (by have := HW0.out.2.2.2.1; omega); clear b2 c23)
  clear a0 a1 a2 a3 a4 a5 d0 d1 d2 d3 d4 d5
  go_wp2_with fail
  go_loopw [5] (fun k wr => ∃ i : Nat, i ≤ nf ∧ k = .int .i64 i ∧ Hid (Below (z + 2) W0 wr)) (fun k _ => (nf - intOf k).toNat)
  case atStart => exact ⟨0, by omega, rfl, HW2.out⟩
  case round =>
    obtain ⟨i, hi, rfl, HR⟩ := hrel
    have w1 : IntKind.i64.wrap ((i : Int) + 1) = (i : Int) + 1 := by rw [IntKind.wrap_i64]; have := HN.out; omega
    obtain ⟨q, q', hbz⟩ := HZ.out wr HR.out
    have a1 := q.c1
    have d1 := q'.c1
    by_cases hlt : i < nf
    · have g0 : (i : Int) < nf := by omega
      obtain ⟨b', o', x, dp', dc', rfl, hbX', hx, hD', hQ'⟩ := H'.out.fs.cell5 hlt
      have hxl : ∃ gc, FL[i]? = some (x, gc) := by
        rw [← HO.out.2.1, List.getElem?_map, Option.map_eq_some_iff] at hx
        obtain ⟨⟨y, gc⟩, h1, rfl⟩ := hx
        exact ⟨gc, h1⟩
      obtain ⟨⟨g, cg⟩, hxl⟩ := hxl
      have hLn : FL.length = nf := by have := congrArg List.length HO.out.2.1; rw [List.length_map] at this; have := HN.out; omega
      have hrow := HO.out.1.own (rowFl (.slice fp nf fc) FL) (by simp [rowsS])
      unfold rowFl at hrow
      simp only [hLn] at hrow
      obtain ⟨b, rfl, hbw, hbb, hQ⟩ := row_cell hrow (fun _ => rfl) hxl (by omega)
      have HQ : Hid (∀ U, Below (z + 2) W0 U → (U.cell? ⟨z, 1, .none⟩ = some (.slice (some ⟨b, 0, .none⟩) nf fc) ∧ U.cell? ⟨z + 1, 1, .none⟩ = some (.slice (some ⟨b', o', .none⟩) nf fc')) ∧ U.cell? ⟨b, i * 5 + 4, .none⟩ = some (.slice (some ⟨g, 0, .none⟩) x.data.length cg) ∧ U.cell? ⟨b', o' + i * 5 + 4, .none⟩ = some (.slice dp' x.data.length dc')) := fun U hU => by
        obtain ⟨r, r', rb⟩ := HZ.out U hU
        exact ⟨⟨r.c1, r'.c1⟩, (rb.cell (p := ⟨b, i * 5 + 4, .none⟩) (by have := HW0.out.2.2.2.2; show b < z; omega)).trans (hQ 4 _ rfl), (hQ' U (rb.mono HW0.out.2.2.2.2.2)).2.2.2.2⟩
      have hlent : Lent w base g cg x.data := HO.out.1.own (rowD x.data (g, cg)) (by
        simp only [rowsS, List.mem_append]
        exact .inr (.inl (List.mem_map_of_mem (f := fun x : Fl × Gc => rowD x.1.data x.2) (List.mem_of_getElem? hxl))))
      have hsm := sumN_mem (List.mem_map_of_mem (f := fSz) (List.mem_of_getElem? hx))
      have hfs : fSz x = x.path.size + x.data.length := rfl
      have HDB : Hid ((∀ U, Below (z + 2) W0 U → Byt U dp' x.data.length dc' x.data ∧ Lent U base g cg x.data) ∧ x.data.length ≤ 1100000) := ⟨fun U hU => by
        obtain ⟨r, r', rb⟩ := HZ.out U hU
        have h1 := rb.size
        have h2 := HW0.out.2.2.2.2
        exact ⟨byt_of (Wd.keep hD' (Nat.le_refl _) (rb.mono h2.2)) (by omega), own_bel hlent rb (fun k hk => by have := (hlent.lt k hk).2; omega)⟩, by have := HN.out; omega⟩
      clear hQ hQ' hD' hx hbX' hxl hrow hLn hbw hbb hlent hsm hfs q q' hbz
      go_upto_region 6 with fail
      clear a1 d1
      refine wp_region_held_drew (S := fun U => Below (z + 2) W0 U) (by kernel_rfl) HR.out.drew (fun hHeld => ?_)
      refine nT 0 (.pointer (some ⟨z, 1, .none⟩)) rfl ?_ (fun ww hSw => by skip; go_simp)
      simp only [x0,x1,x2,x3,x4,x5,x6]
      refine nT 1 (.slice (some ⟨b, 0, .none⟩) nf fc) rfl ?_ (fun ww hSw => by obtain ⟨⟨c1, c2⟩, c3, c4⟩ := HQ.out ww hSw; go_simp)
      simp only [x0,x1,x2,x3,x4,x5,x6]
      refine nT 2 (.int .i64 i) rfl ?_ (fun ww hSw => by skip; go_simp)
      simp only [x0,x1,x2,x3,x4,x5,x6]
      refine nT 3 (.pointer (some ⟨b, i * 5, .none⟩)) rfl ?_ (fun ww hSw => by skip; go_simp)
      simp only [x0,x1,x2,x3,x4,x5,x6]
      refine nT 4 (.pointer (some ⟨b, i * 5 + 4, .none⟩)) rfl ?_ (fun ww hSw => by skip; go_simp)
      simp only [x0,x1,x2,x3,x4,x5,x6]
      refine nT 5 (.slice (some ⟨g, 0, .none⟩) x.data.length cg) rfl ?_ (fun ww hSw => by obtain ⟨⟨c1, c2⟩, c3, c4⟩ := HQ.out ww hSw; go_simp)
      simp only [x0,x1,x2,x3,x4,x5,x6]
      refine nT 6 (.pointer (some ⟨z + 1, 1, .none⟩)) rfl ?_ (fun ww hSw => by skip; go_simp)
      simp only [x0,x1,x2,x3,x4,x5,x6]
      refine nT 7 (.slice (some ⟨b', o', .none⟩) nf fc') rfl ?_ (fun ww hSw => by obtain ⟨⟨c1, c2⟩, c3, c4⟩ := HQ.out ww hSw; go_simp)
      simp only [x0,x1,x2,x3,x4,x5,x6]
      refine nT 8 (.int .i64 i) rfl ?_ (fun ww hSw => by skip; go_simp)
      simp only [x0,x1,x2,x3,x4,x5,x6]
      refine nT 9 (.pointer (some ⟨b', o' + i * 5, .none⟩)) rfl ?_ (fun ww hSw => by skip; go_simp)
      simp only [x0,x1,x2,x3,x4,x5,x6]
      refine nT 10 (.pointer (some ⟨b', o' + i * 5 + 4, .none⟩)) rfl ?_ (fun ww hSw => by skip; go_simp)
      simp only [x0,x1,x2,x3,x4,x5,x6]
      refine nT 11 (.slice dp' x.data.length dc') rfl ?_ (fun ww hSw => by obtain ⟨⟨c1, c2⟩, c3, c4⟩ := HQ.out ww hSw; go_simp)
      simp only [x0,x1,x2,x3,x4,x5,x6]
      have c24 := kept_any (w := wr.drew) (base := base) (g := g) (cg := cg) (HDB.out.1 wr.drew HR.out.drew).1 (by have := HDB.out.2; omega) (HDB.out.1 wr.drew HR.out.drew).2
      refine wpAnyH_ready (rs := [12]) (by kernel_rfl) (by simp) ?_
      refine AllReadyH.cons rfl (fun K hK => ?_) AllReadyH.nil
      go_simp
      go_at_call 24
      refine c24.mono ?_
      rintro _ w3 ⟨rfl, k, rfl⟩
      have HB3 : Hid (Below (z + 2) W0 (wr.drew.drewN k)) := HR.out.drew.trans ⟨rfl, rfl, rfl, Nat.le_refl _, fun _ _ => rfl⟩
      refine hK.out _ _ HB3.out (fun hHeld => ?_)
      clear hK K c24
      try simp only [x0,x1,x2,x3,x4,x5,x6]
      refine nT 13 (.bool false) rfl ?_ (fun ww hSw => by go_simp)
      simp only [x0,x1,x2,x3,x4,x5,x6]
      refine wpAnyH_done (by kernel_rfl) ?_ _
      clear hHeld
      go_wp2_with fail
      exact ⟨⟨i + 1, by omega, by go_num, ⟨HB3.out.os, HB3.out.tape, HB3.out.output, HB3.out.size, HB3.out.block⟩⟩, by simp only [intOf]; omega⟩
    · have g0 : ¬ (i : Int) < nf := by omega
      obtain rfl : i = nf := by omega
      have HB1 : Hid (Below (z + 2) W0 wr) := HR.out
      go_upto_region 8 with fail
      clear a1 d1 g0 w1 q q' hbz HR
      go_wp2_with fail
      go_loopw [6] (fun k wr => ∃ i : Nat, i ≤ ni ∧ k = .int .i64 i ∧ Hid (Below (z + 2) W0 wr)) (fun k _ => (ni - intOf k).toNat)
      case atStart => exact ⟨0, by omega, rfl, HB1.out⟩
      case round =>
        obtain ⟨i, hi, rfl, HR⟩ := hrel
        have w1 : IntKind.i64.wrap ((i : Int) + 1) = (i : Int) + 1 := by rw [IntKind.wrap_i64]; have := HN.out; omega
        obtain ⟨q, q', hbz⟩ := HZ.out wr HR.out
        have a1 := q.c5
        have d1 := q'.c5
        by_cases hlt : i < ni
        · have g0 : (i : Int) < ni := by omega
          obtain ⟨b', o', x, dp', dc', rfl, hbX', hx, hD', hQ'⟩ := H'.out.is.cell2 hlt
          have hxl : ∃ gc, IL[i]? = some (x, gc) := by
            rw [← HO.out.2.2.1, List.getElem?_map, Option.map_eq_some_iff] at hx
            obtain ⟨⟨y, gc⟩, h1, rfl⟩ := hx
            exact ⟨gc, h1⟩
          obtain ⟨⟨g, cg⟩, hxl⟩ := hxl
          have hLn : IL.length = ni := by have := congrArg List.length HO.out.2.2.1; rw [List.length_map] at this; have := HN.out; omega
          have hrow := HO.out.1.own (rowIp (.slice ip ni ic) IL) (by simp [rowsS])
          unfold rowIp at hrow
          simp only [hLn] at hrow
          obtain ⟨b, rfl, hbw, hbb, hQ⟩ := row_cell hrow (fun _ => rfl) hxl (by omega)
          have HQ : Hid (∀ U, Below (z + 2) W0 U → (U.cell? ⟨z, 5, .none⟩ = some (.slice (some ⟨b, 0, .none⟩) ni ic) ∧ U.cell? ⟨z + 1, 5, .none⟩ = some (.slice (some ⟨b', o', .none⟩) ni ic')) ∧ U.cell? ⟨b, i * 2 + 1, .none⟩ = some (.slice (some ⟨g, 0, .none⟩) x.data.length cg) ∧ U.cell? ⟨b', o' + i * 2 + 1, .none⟩ = some (.slice dp' x.data.length dc')) := fun U hU => by
            obtain ⟨r, r', rb⟩ := HZ.out U hU
            exact ⟨⟨r.c5, r'.c5⟩, (rb.cell (p := ⟨b, i * 2 + 1, .none⟩) (by have := HW0.out.2.2.2.2; show b < z; omega)).trans (hQ 1 _ rfl), (hQ' U (rb.mono HW0.out.2.2.2.2.2)).2⟩
          have hlent : Lent w base g cg x.data := HO.out.1.own (rowD x.data (g, cg)) (by
            simp only [rowsS, List.mem_append]
            exact .inr (.inr (List.mem_map_of_mem (f := fun x : Ip × Gc => rowD x.1.data x.2) (List.mem_of_getElem? hxl))))
          have hsm := sumN_mem (List.mem_map_of_mem (f := iSz) (List.mem_of_getElem? hx))
          have hfs : iSz x = x.data.length := rfl
          have HDB : Hid ((∀ U, Below (z + 2) W0 U → Byt U dp' x.data.length dc' x.data ∧ Lent U base g cg x.data) ∧ x.data.length ≤ 1100000) := ⟨fun U hU => by
            obtain ⟨r, r', rb⟩ := HZ.out U hU
            have h1 := rb.size
            have h2 := HW0.out.2.2.2.2
            exact ⟨byt_of (Wd.keep hD' (Nat.le_refl _) (rb.mono h2.2)) (by omega), own_bel hlent rb (fun k hk => by have := (hlent.lt k hk).2; omega)⟩, by have := HN.out; omega⟩
          clear hQ hQ' hD' hx hbX' hxl hrow hLn hbw hbb hlent hsm hfs q q' hbz
          go_upto_region 11 with fail
          clear a1 d1
          refine wp_region_held_drew (S := fun U => Below (z + 2) W0 U) (by kernel_rfl) HR.out.drew (fun hHeld => ?_)
          refine nT 0 (.pointer (some ⟨z, 5, .none⟩)) rfl ?_ (fun ww hSw => by skip; go_simp)
          simp only [x0,x1,x2,x3,x4,x5,x6]
          refine nT 1 (.slice (some ⟨b, 0, .none⟩) ni ic) rfl ?_ (fun ww hSw => by obtain ⟨⟨c1, c2⟩, c3, c4⟩ := HQ.out ww hSw; go_simp)
          simp only [x0,x1,x2,x3,x4,x5,x6]
          refine nT 2 (.int .i64 i) rfl ?_ (fun ww hSw => by skip; go_simp)
          simp only [x0,x1,x2,x3,x4,x5,x6]
          refine nT 3 (.pointer (some ⟨b, i * 2, .none⟩)) rfl ?_ (fun ww hSw => by skip; go_simp)
          simp only [x0,x1,x2,x3,x4,x5,x6]
          refine nT 4 (.pointer (some ⟨b, i * 2 + 1, .none⟩)) rfl ?_ (fun ww hSw => by skip; go_simp)
          simp only [x0,x1,x2,x3,x4,x5,x6]
          refine nT 5 (.slice (some ⟨g, 0, .none⟩) x.data.length cg) rfl ?_ (fun ww hSw => by obtain ⟨⟨c1, c2⟩, c3, c4⟩ := HQ.out ww hSw; go_simp)
          simp only [x0,x1,x2,x3,x4,x5,x6]
          refine nT 6 (.pointer (some ⟨z + 1, 5, .none⟩)) rfl ?_ (fun ww hSw => by skip; go_simp)
          simp only [x0,x1,x2,x3,x4,x5,x6]
          refine nT 7 (.slice (some ⟨b', o', .none⟩) ni ic') rfl ?_ (fun ww hSw => by obtain ⟨⟨c1, c2⟩, c3, c4⟩ := HQ.out ww hSw; go_simp)
          simp only [x0,x1,x2,x3,x4,x5,x6]
          refine nT 8 (.int .i64 i) rfl ?_ (fun ww hSw => by skip; go_simp)
          simp only [x0,x1,x2,x3,x4,x5,x6]
          refine nT 9 (.pointer (some ⟨b', o' + i * 2, .none⟩)) rfl ?_ (fun ww hSw => by skip; go_simp)
          simp only [x0,x1,x2,x3,x4,x5,x6]
          refine nT 10 (.pointer (some ⟨b', o' + i * 2 + 1, .none⟩)) rfl ?_ (fun ww hSw => by skip; go_simp)
          simp only [x0,x1,x2,x3,x4,x5,x6]
          refine nT 11 (.slice dp' x.data.length dc') rfl ?_ (fun ww hSw => by obtain ⟨⟨c1, c2⟩, c3, c4⟩ := HQ.out ww hSw; go_simp)
          simp only [x0,x1,x2,x3,x4,x5,x6]
          have c24 := kept_any (w := wr.drew) (base := base) (g := g) (cg := cg) (HDB.out.1 wr.drew HR.out.drew).1 (by have := HDB.out.2; omega) (HDB.out.1 wr.drew HR.out.drew).2
          refine wpAnyH_ready (rs := [12]) (by kernel_rfl) (by simp) ?_
          refine AllReadyH.cons rfl (fun K hK => ?_) AllReadyH.nil
          go_simp
          go_at_call 24
          refine c24.mono ?_
          rintro _ w3 ⟨rfl, k, rfl⟩
          have HB3 : Hid (Below (z + 2) W0 (wr.drew.drewN k)) := HR.out.drew.trans ⟨rfl, rfl, rfl, Nat.le_refl _, fun _ _ => rfl⟩
          refine hK.out _ _ HB3.out (fun hHeld => ?_)
          clear hK K c24
          try simp only [x0,x1,x2,x3,x4,x5,x6]
          refine nT 13 (.bool false) rfl ?_ (fun ww hSw => by go_simp)
          simp only [x0,x1,x2,x3,x4,x5,x6]
          refine wpAnyH_done (by kernel_rfl) ?_ _
          clear hHeld
          go_wp2_with fail
          exact ⟨⟨i + 1, by omega, by go_num, ⟨HB3.out.os, HB3.out.tape, HB3.out.output, HB3.out.size, HB3.out.block⟩⟩, by simp only [intOf]; omega⟩
        · have g0 : ¬ (i : Int) < ni := by omega
          go_wp2_with fail
          go_ret
          exact ⟨rfl, by rw [← HW0.out.2.2.2.2.1]; exact hbz⟩
end Go.Proofs.YtjbealefopajcaaDoor
