import Derived.Test.YtjbealefopajcaaDoorWk
import Derived.Deep.DeepCutAuto
import Derived.Deep.CutBlock
namespace Go.Proofs.YtjbealefopajcaaDoor
open Go Go.RowKit Rg
set_option linter.unusedVariables false
set_option linter.unusedSimpArgs false
set_option maxRecDepth 100000
/-! same, kept: of equal scripts. -/
theorem Sl.cell5 {w : World} {X n c i : Nat} {p : Option Addr} {l : List Fl} (h : Fls w X (.slice p n c) l) (hi : i < n) : ∃ b o x dp dc, p = some ⟨b, o, .none⟩ ∧ b < X ∧ l[i]? = some x ∧ Bt w X (.slice dp x.data.length dc) x.data ∧ (∀ U, Below X w U → U.cell? ⟨b, o + i * 5, .none⟩ = some (.string x.path) ∧ U.cell? ⟨b, o + i * 5 + 1, .none⟩ = some (.int .i64 x.ty) ∧ U.cell? ⟨b, o + i * 5 + 2, .none⟩ = some (.int .i16 x.mj) ∧ U.cell? ⟨b, o + i * 5 + 3, .none⟩ = some (.int .i16 x.mn) ∧ U.cell? ⟨b, o + i * 5 + 4, .none⟩ = some (.slice dp x.data.length dc)) := by
  obtain ⟨-, b, o, x, cs, rfl, hbX, hx, ⟨dvv, rfl, hD⟩, hcl, hr⟩ := h.at hi
  obtain ⟨dp, dc, rfl⟩ := hD.form
  refine ⟨b, o, x, dp, dc, rfl, hbX, hx, hD, fun U hU => ?_⟩
  have Q : ∀ j v, (x.l (.slice dp x.data.length dc))[j]? = some v → U.cell? ⟨b, o + i * 5 + j, .none⟩ = some v := fun j v hj => (hU.cell (p := ⟨b, o + i * 5 + j, .none⟩) hbX).trans (hr j v hj)
  exact ⟨Q 0 _ rfl, Q 1 _ rfl, Q 2 _ rfl, Q 3 _ rfl, Q 4 _ rfl⟩
theorem Sl.cell2 {w : World} {X n c i : Nat} {p : Option Addr} {l : List Ip} (h : Ips w X (.slice p n c) l) (hi : i < n) : ∃ b o x dp dc, p = some ⟨b, o, .none⟩ ∧ b < X ∧ l[i]? = some x ∧ Bt w X (.slice dp x.data.length dc) x.data ∧ (∀ U, Below X w U → U.cell? ⟨b, o + i * 2, .none⟩ = some (.int .i64 x.tm) ∧ U.cell? ⟨b, o + i * 2 + 1, .none⟩ = some (.slice dp x.data.length dc)) := by
  obtain ⟨-, b, o, x, cs, rfl, hbX, hx, ⟨dvv, rfl, hD⟩, hcl, hr⟩ := h.at hi
  obtain ⟨dp, dc, rfl⟩ := hD.form
  refine ⟨b, o, x, dp, dc, rfl, hbX, hx, hD, fun U hU => ?_⟩
  have Q : ∀ j v, (x.l (.slice dp x.data.length dc))[j]? = some v → U.cell? ⟨b, o + i * 2 + j, .none⟩ = some v := fun j v hj => (hU.cell (p := ⟨b, o + i * 2 + j, .none⟩) hbX).trans (hr j v hj)
  exact ⟨Q 0 _ rfl, Q 1 _ rfl⟩
theorem Sl.cell1 {w : World} {X n c i : Nat} {p : Option Addr} {l : List Int} (h : Nt w X (.slice p n c) l) (hi : i < n) : ∃ b o x, p = some ⟨b, o, .none⟩ ∧ b < X ∧ l[i]? = some x ∧ (∀ U, Below X w U → U.cell? ⟨b, o + i, .none⟩ = some (.int .i64 x)) := by
  obtain ⟨-, b, o, x, cs, rfl, hbX, hx, rfl, hcl, hr⟩ := h.at hi
  refine ⟨b, o, x, rfl, hbX, hx, fun U hU => ?_⟩
  have := (hU.cell (p := ⟨b, o + i * 1 + 0, .none⟩) hbX).trans (hr 0 _ rfl)
  rwa [Nat.mul_one, Nat.add_zero] at this
set_option maxHeartbeats 8000000 in
theorem ssame_any {w : World} {X : Nat} {fv tv iv fv' tv' iv' : Value} {S : Sc} (h : ScW w X fv tv iv S) (h' : ScW w X fv' tv' iv' S) (hX : X ≤ w.heap.size) (hF : Few S) : Calls Tryd.prog 23 #[.agg (scL S fv tv iv).toArray, .agg (scL S fv' tv' iv').toArray] w fun e w' => e = .returned (.bool true) ∧ Below w.heap.size w w' := by
  obtain ⟨fp, fc, rfl⟩ := h.fs.form
  obtain ⟨tp, tc, rfl⟩ := h.ts.form
  obtain ⟨ip, ic, rfl⟩ := h.is.form
  obtain ⟨fp', fc', rfl⟩ := h'.fs.form
  obtain ⟨tp', tc', rfl⟩ := h'.ts.form
  obtain ⟨ip', ic', rfl⟩ := h'.is.form
  obtain ⟨nf, hnf⟩ : ∃ n, n = S.files.length := ⟨_, rfl⟩
  obtain ⟨nt, hnt⟩ : ∃ n, n = S.ticks.length := ⟨_, rfl⟩
  obtain ⟨ni, hni⟩ : ∃ n, n = S.ins.length := ⟨_, rfl⟩
  rw [← hnf, ← hnt, ← hni] at h h' ⊢
  have H : Hid (ScW w X (.slice fp nf fc) (.slice tp nt tc) (.slice ip ni ic) S ∧ X ≤ w.heap.size) := ⟨h, hX⟩
  have H' : Hid (ScW w X (.slice fp' nf fc') (.slice tp' nt tc') (.slice ip' ni ic') S) := h'
  have hsz := hF.sz
  unfold fewN at hsz
  have HN : Hid (nf = S.files.length ∧ ni = S.ins.length ∧ nt = S.ticks.length ∧ (nf ≤ 5000 ∧ nt ≤ 1100000 ∧ ni ≤ 5000) ∧ (sumN (S.files.map fSz) ≤ 1100000 ∧ sumN (S.ins.map iSz) ≤ 1100000)) := ⟨hnf, hni, hnt, by have := hF.nf; have := hF.nt; have := hF.ni; omega, by omega⟩
  clear h h' hnf hnt hni hF hX hsz
  obtain ⟨W0, hW0⟩ : ∃ W0, W0 = (w.alloc (.cells (scL S (.slice fp nf fc) (.slice tp nt tc) (.slice ip ni ic)).toArray 26)).alloc (.cells (scL S (.slice fp' nf fc') (.slice tp' nt tc') (.slice ip' ni ic')).toArray 26) := ⟨_, rfl⟩
  obtain ⟨z, hz⟩ : ∃ z, z = w.heap.size := ⟨_, rfl⟩
  have HW0 : Hid (W0.heap[z]? = some (.cells (scL S (.slice fp nf fc) (.slice tp nt tc) (.slice ip ni ic)).toArray 26 (0, 0)) ∧ W0.heap[z + 1]? = some (.cells (scL S (.slice fp' nf fc') (.slice tp' nt tc') (.slice ip' ni ic')).toArray 26 (0, 0)) ∧ Below z w W0 ∧ W0.heap.size = z + 2 ∧ z = w.heap.size ∧ X ≤ z) := by
    have h9 := new_heap (w.alloc (.cells (scL S (.slice fp nf fc) (.slice tp nt tc) (.slice ip ni ic)).toArray 26)) (.cells (scL S (.slice fp' nf fc') (.slice tp' nt tc') (.slice ip' ni ic')).toArray 26)
    rw [World.size_alloc] at h9
    refine ⟨?_, by rw [hW0, hz]; exact h9, by rw [hz, hW0]; exact ((Below.refl _ _).alloc (Nat.le_refl _) _).alloc (by simp) _, by rw [hW0, hz]; simp, hz, by rw [hz]; exact H.out.2⟩
    rw [hW0, hz, Below.heap_alloc _ _ _ (by simp)]; exact new_heap _ _
  have HWW : Hid (W0 = (w.alloc (.cells (scL S (.slice fp nf fc) (.slice tp nt tc) (.slice ip ni ic)).toArray 26)).alloc (.cells (scL S (.slice fp' nf fc') (.slice tp' nt tc') (.slice ip' ni ic')).toArray 26)) := hW0
  have HZZ : Hid (z = w.heap.size) := hz
  have HZ : Hid (∀ U, Below (z + 2) W0 U → ScZ U z S (.slice fp nf fc) (.slice tp nt tc) (.slice ip ni ic) ∧ ScZ U (z + 1) S (.slice fp' nf fc') (.slice tp' nt tc') (.slice ip' ni ic') ∧ Below z w U) := fun U hU => ⟨scz_of ((hU.block z (by omega)).trans HW0.out.1), scz_of ((hU.block (z + 1) (by omega)).trans HW0.out.2.1), HW0.out.2.2.1.trans (hU.mono (by omega))⟩
  clear hW0 hz
  go_enter Tryd.func23, Tryd.ntmps23
  go_upto_region 1 with fail
  rw [← HWW.out, ← HZZ.out]
  clear HWW HZZ
  obtain ⟨q, q', -⟩ := HZ.out W0 (Below.refl _ _)
  have a0 := q.c0
  have a1 := q.c1
  have a2 := q.c2
  have a3 := q.c3
  have a4 := q.c4
  have a5 := q.c5
  have d0 := q'.c0
  have d1 := q'.c1
  have d2 := q'.c2
  have d3 := q'.c3
  have d4 := q'.c4
  have d5 := q'.c5
  clear q q'
  go_upto_region 3 with fail
  clear a0 a1 a2 a3 a4 a5 d0 d1 d2 d3 d4 d5
  go_wp2_with fail
  go_loopw [5, 6, 7] (fun k _ _ wr => ∃ i : Nat, i ≤ nf ∧ k = .int .i64 i ∧ Hid (Below (z + 2) W0 wr)) (fun k _ _ _ => (nf - intOf k).toNat)
  case atStart => exact ⟨0, by omega, rfl, Below.refl _ _⟩
  case round =>
    obtain ⟨i, hi, rfl, HR⟩ := hrel
    have w1 : IntKind.i64.wrap ((i : Int) + 1) = (i : Int) + 1 := by rw [IntKind.wrap_i64]; have := HN.out; omega
    obtain ⟨q, q', -⟩ := HZ.out wr HR.out
    have a1 := q.c1
    have d1 := q'.c1
    by_cases hlt : i < nf
    · have g0 : (i : Int) < nf := by omega
      obtain ⟨b, o, x, dp, dc, rfl, hbX, hx, hD, hQ⟩ := H.out.1.fs.cell5 hlt
      obtain ⟨b', o', x', dp', dc', rfl, hbX', hx', hD', hQ'⟩ := H'.out.fs.cell5 hlt
      obtain rfl : x = x' := Option.some.inj (hx.symm.trans hx')
      have HQ : Hid (∀ U, Below (z + 2) W0 U → (U.cell? ⟨z, 1, .none⟩ = some (.slice (some ⟨b, o, .none⟩) nf fc) ∧ U.cell? ⟨z + 1, 1, .none⟩ = some (.slice (some ⟨b', o', .none⟩) nf fc')) ∧ (U.cell? ⟨b, o + i * 5, .none⟩ = some (.string x.path) ∧ U.cell? ⟨b, o + i * 5 + 1, .none⟩ = some (.int .i64 x.ty) ∧ U.cell? ⟨b, o + i * 5 + 2, .none⟩ = some (.int .i16 x.mj) ∧ U.cell? ⟨b, o + i * 5 + 3, .none⟩ = some (.int .i16 x.mn) ∧ U.cell? ⟨b, o + i * 5 + 4, .none⟩ = some (.slice dp x.data.length dc)) ∧ (U.cell? ⟨b', o' + i * 5, .none⟩ = some (.string x.path) ∧ U.cell? ⟨b', o' + i * 5 + 1, .none⟩ = some (.int .i64 x.ty) ∧ U.cell? ⟨b', o' + i * 5 + 2, .none⟩ = some (.int .i16 x.mj) ∧ U.cell? ⟨b', o' + i * 5 + 3, .none⟩ = some (.int .i16 x.mn) ∧ U.cell? ⟨b', o' + i * 5 + 4, .none⟩ = some (.slice dp' x.data.length dc'))) := fun U hU => by
        obtain ⟨r, r', rb⟩ := HZ.out U hU
        exact ⟨⟨r.c1, r'.c1⟩, hQ U (rb.mono HW0.out.2.2.2.2.2), hQ' U (rb.mono HW0.out.2.2.2.2.2)⟩
      have hsm := sumN_mem (List.mem_map_of_mem (f := fSz) (List.mem_of_getElem? hx))
      have hfs : fSz x = x.path.size + x.data.length := rfl
      have HDB : Hid ((∀ U, Below (z + 2) W0 U → Byt U dp x.data.length dc x.data ∧ Byt U dp' x.data.length dc' x.data) ∧ x.data.length ≤ 1100000) := ⟨fun U hU => by
        obtain ⟨r, r', rb⟩ := HZ.out U hU
        have h1 := rb.size
        have h2 := HW0.out.2.2.2.2
        exact ⟨byt_of (Wd.keep hD (Nat.le_refl _) (rb.mono h2.2)) (by omega), byt_of (Wd.keep hD' (Nat.le_refl _) (rb.mono h2.2)) (by omega)⟩, by have := HN.out; omega⟩
      clear hQ hQ' hD hD' hx hx' hbX hbX' hsm hfs q q'
      have HSZ : Hid (z + 2 ≤ wr.heap.size) := by have h1 := HR.out.size; have h2 := HW0.out.2.2.2.1; show _ ≤ _; omega
      go_upto_region 6 with fail
      clear a1 d1
      go_cut [6, 7] (fun u v wc => ∃ p q, u = .pointer (some ⟨p, 0, .none⟩) ∧ v = .pointer (some ⟨q, 0, .none⟩) ∧ Hid (Below (z + 2) W0 wc) ∧ (wc.cell? ⟨p, 0, .none⟩ = some (.string x.path) ∧ wc.cell? ⟨p, 1, .none⟩ = some (.int .i64 x.ty) ∧ wc.cell? ⟨p, 2, .none⟩ = some (.int .i16 x.mj) ∧ wc.cell? ⟨p, 3, .none⟩ = some (.int .i16 x.mn) ∧ wc.cell? ⟨p, 4, .none⟩ = some (.slice dp x.data.length dc)) ∧ (wc.cell? ⟨q, 0, .none⟩ = some (.string x.path) ∧ wc.cell? ⟨q, 1, .none⟩ = some (.int .i64 x.ty) ∧ wc.cell? ⟨q, 2, .none⟩ = some (.int .i16 x.mj) ∧ wc.cell? ⟨q, 3, .none⟩ = some (.int .i16 x.mn) ∧ wc.cell? ⟨q, 4, .none⟩ = some (.slice dp' x.data.length dc')))
      case first =>
        refine wp_region_held_drew (S := fun U => Below (z + 2) W0 U) (by kernel_rfl) HR.out.drew (fun hHeld => ?_)
        refine nT 0 (.pointer (some ⟨z, 1, .none⟩)) rfl ?_ (fun ww hSw => by skip; go_simp)
        simp only [x0,x1,x2,x3,x4,x5,x6]
        refine nT 1 (.slice (some ⟨b, o, .none⟩) nf fc) rfl ?_ (fun ww hSw => by obtain ⟨⟨c1, c2⟩, -, -⟩ := HQ.out ww hSw; go_simp)
        simp only [x0,x1,x2,x3,x4,x5,x6]
        refine nT 2 (.int .i64 i) rfl ?_ (fun ww hSw => by skip; go_simp)
        simp only [x0,x1,x2,x3,x4,x5,x6]
        refine nT 3 (.pointer (some ⟨b, o + i * 5, .none⟩)) rfl ?_ (fun ww hSw => by skip; go_simp)
        simp only [x0,x1,x2,x3,x4,x5,x6]
        refine nT 4 (.agg #[.string x.path, .int .i64 x.ty, .int .i16 x.mj, .int .i16 x.mn, .slice dp x.data.length dc]) rfl ?_ (fun ww hSw => by obtain ⟨-, ⟨c1, c2, c3, c4, c5⟩, -⟩ := HQ.out ww hSw; go_simp)
        simp only [x0,x1,x2,x3,x4,x5,x6]
        refine nT 5 (.pointer (some ⟨z + 1, 1, .none⟩)) rfl ?_ (fun ww hSw => by skip; go_simp)
        simp only [x0,x1,x2,x3,x4,x5,x6]
        refine nT 6 (.slice (some ⟨b', o', .none⟩) nf fc') rfl ?_ (fun ww hSw => by obtain ⟨⟨c1, c2⟩, -, -⟩ := HQ.out ww hSw; go_simp)
        simp only [x0,x1,x2,x3,x4,x5,x6]
        refine nT 7 (.int .i64 i) rfl ?_ (fun ww hSw => by skip; go_simp)
        simp only [x0,x1,x2,x3,x4,x5,x6]
        refine nT 8 (.pointer (some ⟨b', o' + i * 5, .none⟩)) rfl ?_ (fun ww hSw => by skip; go_simp)
        simp only [x0,x1,x2,x3,x4,x5,x6]
        refine nT 9 (.agg #[.string x.path, .int .i64 x.ty, .int .i16 x.mj, .int .i16 x.mn, .slice dp' x.data.length dc']) rfl ?_ (fun ww hSw => by obtain ⟨-, -, ⟨c1, c2, c3, c4, c5⟩⟩ := HQ.out ww hSw; go_simp)
        simp only [x0,x1,x2,x3,x4,x5,x6]
        refine wpAnyH_ready (rs := [10, 11]) (by kernel_rfl) (by simp) ?_
        refine AllReadyH.cons rfl (fun K hK => ?_) (AllReadyH.cons rfl (fun K hK => ?_) AllReadyH.nil)
        · go_simp
          refine hK.out _ _ (HR.out.drew.alloc HSZ.out _) (fun hHeld => ?_)
          clear hK K
          try simp only [x0,x1,x2,x3,x4,x5,x6]
          refine wpAnyH_ready (rs := [11]) (by kernel_rfl) (by simp) ?_
          refine AllReadyH.cons rfl (fun K hK => ?_) AllReadyH.nil
          go_simp
          refine hK.out _ _ ((HR.out.drew.alloc HSZ.out _).alloc (by simp only [World.size_alloc]; have := HSZ.out; show z + 2 ≤ wr.heap.size + 1; omega) _) (fun hHeld => ?_)
          clear hK K
          try simp only [x0,x1,x2,x3,x4,x5,x6]
          refine wpAnyH_ready (rs := [12]) (by kernel_rfl) (by simp) ?_
          refine AllReadyH.cons rfl (fun K hK => ?_) AllReadyH.nil
          go_simp
          refine hK.out _ _ ((HR.out.alloc HSZ.out _).alloc (by simp only [World.size_alloc]; have := HSZ.out; show z + 2 ≤ wr.heap.size + 1; omega) _).drew (fun hHeld => ?_)
          clear hK K
          try simp only [x0,x1,x2,x3,x4,x5,x6]
          refine wpAnyH_ready (rs := [13]) (by kernel_rfl) (by simp) ?_
          refine AllReadyH.cons rfl (fun K hK => ?_) AllReadyH.nil
          go_simp
          refine hK.out _ _ ((HR.out.alloc HSZ.out _).alloc (by simp only [World.size_alloc]; have := HSZ.out; show z + 2 ≤ wr.heap.size + 1; omega) _).drew (fun hHeld => ?_)
          clear hK K
          try simp only [x0,x1,x2,x3,x4,x5,x6]
          refine wpAnyH_done (by kernel_rfl) ?_ _
          clear hHeld
          go_wp2_with fail
          go_meet
          case rel => exact ⟨wr.heap.size, wr.heap.size + 1, rfl, rfl, ((HR.out.alloc HSZ.out _).alloc (by simp only [World.size_alloc]; have := HSZ.out; show z + 2 ≤ wr.heap.size + 1; omega) _).drew, ⟨by simp, by simp, by simp, by simp, by simp⟩, ⟨by simp, by simp, by simp, by simp, by simp⟩⟩
        · go_simp
          refine hK.out _ _ (HR.out.drew.alloc HSZ.out _) (fun hHeld => ?_)
          clear hK K
          try simp only [x0,x1,x2,x3,x4,x5,x6]
          refine wpAnyH_ready (rs := [10]) (by kernel_rfl) (by simp) ?_
          refine AllReadyH.cons rfl (fun K hK => ?_) AllReadyH.nil
          go_simp
          refine hK.out _ _ ((HR.out.drew.alloc HSZ.out _).alloc (by simp only [World.size_alloc]; have := HSZ.out; show z + 2 ≤ wr.heap.size + 1; omega) _) (fun hHeld => ?_)
          clear hK K
          try simp only [x0,x1,x2,x3,x4,x5,x6]
          refine wpAnyH_ready (rs := [12]) (by kernel_rfl) (by simp) ?_
          refine AllReadyH.cons rfl (fun K hK => ?_) AllReadyH.nil
          go_simp
          refine hK.out _ _ ((HR.out.alloc HSZ.out _).alloc (by simp only [World.size_alloc]; have := HSZ.out; show z + 2 ≤ wr.heap.size + 1; omega) _).drew (fun hHeld => ?_)
          clear hK K
          try simp only [x0,x1,x2,x3,x4,x5,x6]
          refine wpAnyH_ready (rs := [13]) (by kernel_rfl) (by simp) ?_
          refine AllReadyH.cons rfl (fun K hK => ?_) AllReadyH.nil
          go_simp
          refine hK.out _ _ ((HR.out.alloc HSZ.out _).alloc (by simp only [World.size_alloc]; have := HSZ.out; show z + 2 ≤ wr.heap.size + 1; omega) _).drew (fun hHeld => ?_)
          clear hK K
          try simp only [x0,x1,x2,x3,x4,x5,x6]
          refine wpAnyH_done (by kernel_rfl) ?_ _
          clear hHeld
          go_wp2_with fail
          go_meet
          case rel => exact ⟨wr.heap.size + 1, wr.heap.size, rfl, rfl, ((HR.out.alloc HSZ.out _).alloc (by simp only [World.size_alloc]; have := HSZ.out; show z + 2 ≤ wr.heap.size + 1; omega) _).drew, ⟨by simp, by simp, by simp, by simp, by simp⟩, ⟨by simp, by simp, by simp, by simp, by simp⟩⟩
      case rest =>
        obtain ⟨p, q, rfl, rfl, HC, ⟨p0, p1, p2, p3, p4⟩, ⟨q0, q1, q2, q3, q4⟩⟩ := hcut
        have c35 := bytes_any dp dp' x.data.length dc dc' x.data wc (by have := HDB.out.2; omega) (HDB.out.1 wc HC.out).1 (HDB.out.1 wc HC.out).2
        clear HQ HDB HSZ
        go_wp2_with (go_at_call 35; refine c35.mono ?_; rintro _ w3 ⟨rfl, k, rfl⟩; clear c35 p0 p1 p2 p3 p4 q0 q1 q2 q3 q4)
        exact ⟨⟨i + 1, by omega, by go_num, HC.out.trans ⟨rfl, rfl, rfl, Nat.le_refl _, fun _ _ => rfl⟩⟩, by simp only [intOf]; omega⟩
    · have g0 : ¬ (i : Int) < nf := by omega
      obtain rfl : i = nf := by omega
      have a4 := q.c4
      have d4 := q'.c4
      have a5 := q.c5
      have d5 := q'.c5
      clear q q' d1 w1
      go_upto_region 9 with fail
      clear a1 a4 a5 d4 d5 g0
      go_wp2_with fail
      go_loopw [8] (fun k wq => ∃ j : Nat, j ≤ nt ∧ k = .int .i64 j ∧ Hid (Below (z + 2) W0 wq)) (fun k _ => (nt - intOf k).toNat)
      case atStart => exact ⟨0, by omega, rfl, HR.out⟩
      case round =>
        obtain ⟨j, hj, rfl, HQ1⟩ := hrel
        have w1 : IntKind.i64.wrap ((j : Int) + 1) = (j : Int) + 1 := by rw [IntKind.wrap_i64]; have := HN.out; omega
        obtain ⟨q, q', hbz⟩ := HZ.out wr HQ1.out
        have a4 := q.c4
        have d4 := q'.c4
        by_cases hlt : j < nt
        · have g0 : (j : Int) < nt := by omega
          obtain ⟨b, o, x, rfl, hbX, hx, hQ⟩ := H.out.1.ts.cell1 hlt
          obtain ⟨b', o', x', rfl, hbX', hx', hQ'⟩ := H'.out.ts.cell1 hlt
          obtain rfl : x = x' := Option.some.inj (hx.symm.trans hx')
          have HQ : Hid (∀ U, Below (z + 2) W0 U → (U.cell? ⟨z, 4, .none⟩ = some (.slice (some ⟨b, o, .none⟩) nt tc) ∧ U.cell? ⟨z + 1, 4, .none⟩ = some (.slice (some ⟨b', o', .none⟩) nt tc')) ∧ U.cell? ⟨b, o + j, .none⟩ = some (.int .i64 x) ∧ U.cell? ⟨b', o' + j, .none⟩ = some (.int .i64 x)) := fun U hU => by
            obtain ⟨r, r', rb⟩ := HZ.out U hU
            exact ⟨⟨r.c4, r'.c4⟩, hQ U (rb.mono HW0.out.2.2.2.2.2), hQ' U (rb.mono HW0.out.2.2.2.2.2)⟩
          clear hQ hQ' hx hx' hbX hbX' q q' hbz
          go_upto_region 12 with fail
          clear a4 d4
          refine wp_region_held_drew (S := fun U => Below (z + 2) W0 U) (by kernel_rfl) HQ1.out.drew (fun hHeld => ?_)
          refine nT 0 (.pointer (some ⟨z, 4, .none⟩)) rfl ?_ (fun ww hSw => by skip; go_simp)
          simp only [x0,x1,x2,x3,x4,x5,x6]
          refine nT 1 (.slice (some ⟨b, o, .none⟩) nt tc) rfl ?_ (fun ww hSw => by obtain ⟨⟨c1, c2⟩, c3, c4⟩ := HQ.out ww hSw; go_simp)
          simp only [x0,x1,x2,x3,x4,x5,x6]
          refine nT 2 (.int .i64 j) rfl ?_ (fun ww hSw => by skip; go_simp)
          simp only [x0,x1,x2,x3,x4,x5,x6]
          refine nT 3 (.pointer (some ⟨b, o + j, .none⟩)) rfl ?_ (fun ww hSw => by skip; go_simp)
          simp only [x0,x1,x2,x3,x4,x5,x6]
          refine nT 4 (.int .i64 x) rfl ?_ (fun ww hSw => by obtain ⟨⟨c1, c2⟩, c3, c4⟩ := HQ.out ww hSw; go_simp)
          simp only [x0,x1,x2,x3,x4,x5,x6]
          refine nT 5 (.pointer (some ⟨z + 1, 4, .none⟩)) rfl ?_ (fun ww hSw => by skip; go_simp)
          simp only [x0,x1,x2,x3,x4,x5,x6]
          refine nT 6 (.slice (some ⟨b', o', .none⟩) nt tc') rfl ?_ (fun ww hSw => by obtain ⟨⟨c1, c2⟩, c3, c4⟩ := HQ.out ww hSw; go_simp)
          simp only [x0,x1,x2,x3,x4,x5,x6]
          refine nT 7 (.int .i64 j) rfl ?_ (fun ww hSw => by skip; go_simp)
          simp only [x0,x1,x2,x3,x4,x5,x6]
          refine nT 8 (.pointer (some ⟨b', o' + j, .none⟩)) rfl ?_ (fun ww hSw => by skip; go_simp)
          simp only [x0,x1,x2,x3,x4,x5,x6]
          refine nT 9 (.int .i64 x) rfl ?_ (fun ww hSw => by obtain ⟨⟨c1, c2⟩, c3, c4⟩ := HQ.out ww hSw; go_simp)
          simp only [x0,x1,x2,x3,x4,x5,x6]
          refine nT 10 (.bool false) rfl ?_ (fun ww hSw => by skip; go_simp)
          simp only [x0,x1,x2,x3,x4,x5,x6]
          refine wpAnyH_done (by kernel_rfl) ?_ _
          clear hHeld
          go_wp2_with fail
          exact ⟨⟨j + 1, by omega, by go_num, HQ1.out.drew⟩, by simp only [intOf]; omega⟩
        · have g0 : ¬ (j : Int) < nt := by omega
          obtain rfl : j = nt := by omega
          have a5 := q.c5
          have d5 := q'.c5
          clear q q' w1
          go_upto_region 14 with fail
          clear a4 d4 a5 d5 g0
          go_wp2_with fail
          go_loopw [9] (fun k wq => ∃ m : Nat, m ≤ ni ∧ k = .int .i64 m ∧ Hid (Below (z + 2) W0 wq)) (fun k _ => (ni - intOf k).toNat)
          case atStart => exact ⟨0, by omega, rfl, HQ1.out⟩
          case round =>
            obtain ⟨m, hm, rfl, HQ2⟩ := hrel
            have w1 : IntKind.i64.wrap ((m : Int) + 1) = (m : Int) + 1 := by rw [IntKind.wrap_i64]; have := HN.out; omega
            obtain ⟨q, q', hbz2⟩ := HZ.out wr HQ2.out
            have a5 := q.c5
            have d5 := q'.c5
            by_cases hlt : m < ni
            · have g0 : (m : Int) < ni := by omega
              obtain ⟨b, o, x, dp, dc, rfl, hbX, hx, hD, hQ⟩ := H.out.1.is.cell2 hlt
              obtain ⟨b', o', x', dp', dc', rfl, hbX', hx', hD', hQ'⟩ := H'.out.is.cell2 hlt
              obtain rfl : x = x' := Option.some.inj (hx.symm.trans hx')
              have HQ : Hid (∀ U, Below (z + 2) W0 U → (U.cell? ⟨z, 5, .none⟩ = some (.slice (some ⟨b, o, .none⟩) ni ic) ∧ U.cell? ⟨z + 1, 5, .none⟩ = some (.slice (some ⟨b', o', .none⟩) ni ic')) ∧ (U.cell? ⟨b, o + m * 2, .none⟩ = some (.int .i64 x.tm) ∧ U.cell? ⟨b, o + m * 2 + 1, .none⟩ = some (.slice dp x.data.length dc)) ∧ (U.cell? ⟨b', o' + m * 2, .none⟩ = some (.int .i64 x.tm) ∧ U.cell? ⟨b', o' + m * 2 + 1, .none⟩ = some (.slice dp' x.data.length dc'))) := fun U hU => by
                obtain ⟨r, r', rb⟩ := HZ.out U hU
                exact ⟨⟨r.c5, r'.c5⟩, hQ U (rb.mono HW0.out.2.2.2.2.2), hQ' U (rb.mono HW0.out.2.2.2.2.2)⟩
              have hsm := sumN_mem (List.mem_map_of_mem (f := iSz) (List.mem_of_getElem? hx))
              have hfs : iSz x = x.data.length := rfl
              have HDB : Hid ((∀ U, Below (z + 2) W0 U → Byt U dp x.data.length dc x.data ∧ Byt U dp' x.data.length dc' x.data) ∧ x.data.length ≤ 1100000) := ⟨fun U hU => by
                obtain ⟨r, r', rb⟩ := HZ.out U hU
                have h1 := rb.size
                have h2 := HW0.out.2.2.2.2
                exact ⟨byt_of (Wd.keep hD (Nat.le_refl _) (rb.mono h2.2)) (by omega), byt_of (Wd.keep hD' (Nat.le_refl _) (rb.mono h2.2)) (by omega)⟩, by have := HN.out; omega⟩
              clear hQ hQ' hD hD' hx hx' hbX hbX' hsm hfs q q' hbz2
              go_upto_region 17 with fail
              clear a5 d5
              refine wp_region_held_drew (S := fun U => Below (z + 2) W0 U) (by kernel_rfl) HQ2.out.drew (fun hHeld => ?_)
              refine nT 0 (.pointer (some ⟨z, 5, .none⟩)) rfl ?_ (fun ww hSw => by skip; go_simp)
              simp only [x0,x1,x2,x3,x4,x5,x6]
              refine nT 1 (.slice (some ⟨b, o, .none⟩) ni ic) rfl ?_ (fun ww hSw => by obtain ⟨⟨c1, c2⟩, ⟨c3, c4⟩, ⟨c5, c6⟩⟩ := HQ.out ww hSw; go_simp)
              simp only [x0,x1,x2,x3,x4,x5,x6]
              refine nT 2 (.int .i64 m) rfl ?_ (fun ww hSw => by skip; go_simp)
              simp only [x0,x1,x2,x3,x4,x5,x6]
              refine nT 3 (.pointer (some ⟨b, o + m * 2, .none⟩)) rfl ?_ (fun ww hSw => by skip; go_simp)
              simp only [x0,x1,x2,x3,x4,x5,x6]
              refine nT 4 (.pointer (some ⟨b, o + m * 2, .none⟩)) rfl ?_ (fun ww hSw => by skip; go_simp)
              simp only [x0,x1,x2,x3,x4,x5,x6]
              refine nT 5 (.int .i64 x.tm) rfl ?_ (fun ww hSw => by obtain ⟨⟨c1, c2⟩, ⟨c3, c4⟩, ⟨c5, c6⟩⟩ := HQ.out ww hSw; go_simp)
              simp only [x0,x1,x2,x3,x4,x5,x6]
              refine nT 6 (.pointer (some ⟨z + 1, 5, .none⟩)) rfl ?_ (fun ww hSw => by skip; go_simp)
              simp only [x0,x1,x2,x3,x4,x5,x6]
              refine nT 7 (.slice (some ⟨b', o', .none⟩) ni ic') rfl ?_ (fun ww hSw => by obtain ⟨⟨c1, c2⟩, ⟨c3, c4⟩, ⟨c5, c6⟩⟩ := HQ.out ww hSw; go_simp)
              simp only [x0,x1,x2,x3,x4,x5,x6]
              refine nT 8 (.int .i64 m) rfl ?_ (fun ww hSw => by skip; go_simp)
              simp only [x0,x1,x2,x3,x4,x5,x6]
              refine nT 9 (.pointer (some ⟨b', o' + m * 2, .none⟩)) rfl ?_ (fun ww hSw => by skip; go_simp)
              simp only [x0,x1,x2,x3,x4,x5,x6]
              refine nT 10 (.pointer (some ⟨b', o' + m * 2, .none⟩)) rfl ?_ (fun ww hSw => by skip; go_simp)
              simp only [x0,x1,x2,x3,x4,x5,x6]
              refine nT 11 (.int .i64 x.tm) rfl ?_ (fun ww hSw => by obtain ⟨⟨c1, c2⟩, ⟨c3, c4⟩, ⟨c5, c6⟩⟩ := HQ.out ww hSw; go_simp)
              simp only [x0,x1,x2,x3,x4,x5,x6]
              refine nT 12 (.bool false) rfl ?_ (fun ww hSw => by skip; go_simp)
              simp only [x0,x1,x2,x3,x4,x5,x6]
              refine nT 13 (.bool false) rfl ?_ (fun ww hSw => by skip; go_simp)
              simp only [x0,x1,x2,x3,x4,x5,x6]
              refine nT 14 (.pointer (some ⟨z, 5, .none⟩)) rfl ?_ (fun ww hSw => by skip; go_simp) (hw := by kernel_rfl)
              simp only [x0,x1,x2,x3,x4,x5,x6]
              refine nT 15 (.slice (some ⟨b, o, .none⟩) ni ic) rfl ?_ (fun ww hSw => by obtain ⟨⟨c1, c2⟩, ⟨c3, c4⟩, ⟨c5, c6⟩⟩ := HQ.out ww hSw; go_simp) (hw := by kernel_rfl)
              simp only [x0,x1,x2,x3,x4,x5,x6]
              refine nT 16 (.int .i64 m) rfl ?_ (fun ww hSw => by skip; go_simp) (hw := by kernel_rfl)
              simp only [x0,x1,x2,x3,x4,x5,x6]
              refine nT 17 (.pointer (some ⟨b, o + m * 2, .none⟩)) rfl ?_ (fun ww hSw => by skip; go_simp) (hw := by kernel_rfl)
              simp only [x0,x1,x2,x3,x4,x5,x6]
              refine nT 18 (.pointer (some ⟨b, o + m * 2 + 1, .none⟩)) rfl ?_ (fun ww hSw => by skip; go_simp) (hw := by kernel_rfl)
              simp only [x0,x1,x2,x3,x4,x5,x6]
              refine nT 19 (.slice dp x.data.length dc) rfl ?_ (fun ww hSw => by obtain ⟨⟨c1, c2⟩, ⟨c3, c4⟩, ⟨c5, c6⟩⟩ := HQ.out ww hSw; go_simp) (hw := by kernel_rfl)
              simp only [x0,x1,x2,x3,x4,x5,x6]
              refine nT 20 (.pointer (some ⟨z + 1, 5, .none⟩)) rfl ?_ (fun ww hSw => by skip; go_simp) (hw := by kernel_rfl)
              simp only [x0,x1,x2,x3,x4,x5,x6]
              refine nT 21 (.slice (some ⟨b', o', .none⟩) ni ic') rfl ?_ (fun ww hSw => by obtain ⟨⟨c1, c2⟩, ⟨c3, c4⟩, ⟨c5, c6⟩⟩ := HQ.out ww hSw; go_simp) (hw := by kernel_rfl)
              simp only [x0,x1,x2,x3,x4,x5,x6]
              refine nT 22 (.int .i64 m) rfl ?_ (fun ww hSw => by skip; go_simp) (hw := by kernel_rfl)
              simp only [x0,x1,x2,x3,x4,x5,x6]
              refine nT 23 (.pointer (some ⟨b', o' + m * 2, .none⟩)) rfl ?_ (fun ww hSw => by skip; go_simp) (hw := by kernel_rfl)
              simp only [x0,x1,x2,x3,x4,x5,x6]
              refine nT 24 (.pointer (some ⟨b', o' + m * 2 + 1, .none⟩)) rfl ?_ (fun ww hSw => by skip; go_simp) (hw := by kernel_rfl)
              simp only [x0,x1,x2,x3,x4,x5,x6]
              refine nT 25 (.slice dp' x.data.length dc') rfl ?_ (fun ww hSw => by obtain ⟨⟨c1, c2⟩, ⟨c3, c4⟩, ⟨c5, c6⟩⟩ := HQ.out ww hSw; go_simp) (hw := by kernel_rfl)
              simp only [x0,x1,x2,x3,x4,x5,x6]
              have c35 := bytes_any dp dp' x.data.length dc dc' x.data wr.drew (by have := HDB.out.2; omega) (HDB.out.1 wr.drew HQ2.out.drew).1 (HDB.out.1 wr.drew HQ2.out.drew).2
              refine wpAnyH_ready (rs := [26]) (by kernel_rfl) (by simp) ?_
              refine AllReadyH.cons rfl (fun K hK => ?_) AllReadyH.nil
              go_simp
              go_at_call 35
              refine c35.mono ?_
              rintro _ w3 ⟨rfl, k, rfl⟩
              have HB3 : Hid (Below (z + 2) W0 (wr.drew.drewN k)) := HQ2.out.drew.trans ⟨rfl, rfl, rfl, Nat.le_refl _, fun _ _ => rfl⟩
              refine hK.out _ _ HB3.out (fun hHeld => ?_)
              clear hK K c35
              try simp only [x0,x1,x2,x3,x4,x5,x6]
              refine nT 27 (.bool false) rfl ?_ (fun ww hSw => by go_simp) (hw := by kernel_rfl)
              simp only [x0,x1,x2,x3,x4,x5,x6]
              refine nT 28 (.bool false) rfl ?_ (fun ww hSw => by go_simp) (hw := by kernel_rfl)
              simp only [x0,x1,x2,x3,x4,x5,x6]
              refine wpAnyH_done (by kernel_rfl) ?_ _
              clear hHeld
              go_wp2_with fail
              exact ⟨⟨m + 1, by omega, by go_num, ⟨HB3.out.os, HB3.out.tape, HB3.out.output, HB3.out.size, HB3.out.block⟩⟩, by simp only [intOf]; omega⟩
            · have g0 : ¬ (m : Int) < ni := by omega
              go_wp2_with fail
              go_ret
              exact ⟨rfl, by rw [← HW0.out.2.2.2.2.1]; exact hbz2⟩
end Go.Proofs.YtjbealefopajcaaDoor
