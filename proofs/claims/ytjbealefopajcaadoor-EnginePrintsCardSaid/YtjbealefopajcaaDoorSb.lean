import Derived.Test.YtjbealefopajcaaDoorSa
namespace Go.Proofs.YtjbealefopajcaaDoor
open Go Go.RowKit Rg
set_option linter.unusedVariables false
set_option linter.unusedSimpArgs false
/-! few: is the script not more than a statement looks at? -/
theorem ScB.sums {S : Sc} (h : ScB S) : sumN (S.files.map fSz) ≤ S.files.length * 281474976702464 ∧ sumN (S.ins.map iSz) ≤ S.ins.length * 140737488351232 := by
  constructor
  · have := sumN_bd 281474976702464 (S.files.map fSz) (fun x hx => by
      obtain ⟨f, hf, rfl⟩ := List.mem_map.1 hx
      have := h.fs f hf
      unfold fSz
      omega)
    rwa [List.length_map] at this
  · have := sumN_bd 140737488351232 (S.ins.map iSz) (fun x hx => by
      obtain ⟨f, hf, rfl⟩ := List.mem_map.1 hx
      have := h.is f hf
      unfold iSz
      omega)
    rwa [List.length_map] at this
/-- What few tells. -/
def FewP (S : Sc) (w : World) (e : Ending) (w' : World) : Prop := (∃ r, e = .returned (.bool r) ∧ (r = true → S.files.length ≤ 5000 ∧ S.ins.length ≤ 5000 ∧ fewN S ≤ 1100000)) ∧ Below w.heap.size w w'
set_option maxRecDepth 100000 in
set_option maxHeartbeats 2000000 in
theorem few_any {w : World} {X : Nat} {fv tv iv : Value} {S : Sc} (h : ScW w X fv tv iv S) (hX : X ≤ w.heap.size) (hb : ScB S) : Calls Tryd.prog 4 #[.agg (scL S fv tv iv).toArray] w (FewP S w) := by
  obtain ⟨fp, fc, rfl⟩ := h.fs.form
  obtain ⟨tp, tc, rfl⟩ := h.ts.form
  obtain ⟨ip, ic, rfl⟩ := h.is.form
  have hsum := hb.sums
  obtain ⟨nf, hnf⟩ : ∃ n, n = S.files.length := ⟨_, rfl⟩
  obtain ⟨nt, hnt⟩ : ∃ n, n = S.ticks.length := ⟨_, rfl⟩
  obtain ⟨ni, hni⟩ : ∃ n, n = S.ins.length := ⟨_, rfl⟩
  obtain ⟨sp, hsp⟩ : ∃ n, n = sumN (S.files.map fSz) := ⟨_, rfl⟩
  obtain ⟨si, hsi⟩ : ∃ n, n = sumN (S.ins.map iSz) := ⟨_, rfl⟩
  have hnb : nt ≤ 140737488351232 ∧ S.init.size ≤ 140737488351232 := ⟨by rw [hnt]; exact hb.nt, hb.init⟩
  obtain ⟨ns, hns⟩ : ∃ n, n = S.init.size := ⟨_, rfl⟩
  have hfew : fewN S = ns + nt + sp + si := by rw [fewN, ← hns, ← hnt, ← hsp, ← hsi]
  rw [← hsp, ← hsi, ← hnf, ← hni] at hsum
  rw [← hnf, ← hnt, ← hni] at h ⊢
  have H : Hid (ScW w X (.slice fp nf fc) (.slice tp nt tc) (.slice ip ni ic) S) := h
  have HN : Hid (nf = S.files.length ∧ ni = S.ins.length ∧ sp = sumN (S.files.map fSz) ∧ si = sumN (S.ins.map iSz) ∧ ns = S.init.size ∧ (sp ≤ nf * 281474976702464 ∧ si ≤ ni * 140737488351232) ∧ nt ≤ 140737488351232 ∧ ns ≤ 140737488351232 ∧ fewN S = ns + nt + sp + si) := ⟨hnf, hni, hsp, hsi, hns, hsum, hnb.1, by rw [hns]; exact hnb.2, hfew⟩
  have HX : Hid (X ≤ w.heap.size) := hX
  obtain ⟨ib, hib⟩ : ∃ ib, ib = S.init := ⟨_, rfl⟩
  rw [← hib] at hns
  have e0 : ib.size = ns := hns.symm
  obtain ⟨lc, hlc⟩ : ∃ lc, lc = scL S (.slice fp nf fc) (.slice tp nt tc) (.slice ip ni ic) := ⟨_, rfl⟩
  rw [← hlc]
  have HL1 : Hid (lc[1]? = some (.slice fp nf fc) ∧ lc[2]? = some (.string ib) ∧ lc[4]? = some (.slice tp nt tc) ∧ lc[5]? = some (.slice ip ni ic)) := by rw [hlc, hib]; exact ⟨rfl, rfl, rfl, rfl⟩
  have hone : ∀ v ∈ lc, v.oneCell' = true := by
    rw [hlc]
    intro v hv
    simp only [scL, List.mem_cons, List.not_mem_nil, or_false] at hv
    rcases hv with rfl | rfl | rfl | rfl | rfl | rfl <;> rfl
  clear h hb hnf hnt hni hsp hsi hfew hsum hnb hX hlc hns hib
  obtain ⟨z, hz⟩ : ∃ z, z = w.heap.size := ⟨_, rfl⟩
  have HZ0 : Hid (z = w.heap.size) := hz
  go_enter Tryd.func4, Tryd.ntmps4
  go_upto_region 1 with fail
  obtain ⟨W1, hWe⟩ : ∃ W1, W1 = w.alloc (.cells lc.toArray 26) := ⟨_, rfl⟩
  have hW1 : W1.heap[z]? = some (.cells lc.toArray 26 (0, 0)) := by rw [hWe, hz]; show (w.heap.push _)[w.heap.size]? = _; simp
  have hB1 : Below z w W1 := by rw [hWe, hz]; exact below1 _ _
  rw [← hWe, ← hz]
  have k1 := cell_heap (o := 1) hW1
  have k2 := cell_heap (o := 2) hW1
  have k4 := cell_heap (o := 4) hW1
  have k5 := cell_heap (o := 5) hW1
  rw [List.getElem?_toArray] at k1 k2 k4 k5
  rw [HL1.out.1] at k1
  rw [HL1.out.2.1] at k2
  rw [HL1.out.2.2.1] at k4
  rw [HL1.out.2.2.2] at k5
  have hzl : z < W1.heap.size := by rw [hWe, hz]; simp
  clear hz hWe
  have e1 : IntKind.i64.wrap ((ns : Int) + (nt : Nat)) = (ns : Int) + nt := by rw [IntKind.wrap_i64]; have := HN.out; omega
  have e0' : ((ib.size : Nat) : Int) = (ns : Int) := by rw [e0]
  have HBW : Hid (Below z w W1 ∧ z = w.heap.size ∧ z < W1.heap.size) := ⟨hB1, HZ0.out, hzl⟩
  clear hB1 hzl hW1
  go_upto_region 2 with fail
  by_cases g1 : (5000 : Int) < nf
  · clear k4 k2 e1 e0'
    go_wp2
    go_ret
    exact ⟨⟨false, rfl, fun h => by cases h⟩, by rw [← HBW.out.2.1]; exact HBW.out.1⟩
  by_cases g2 : (5000 : Int) < ni
  · clear k4 k2 e1 e0'
    go_wp2
    go_ret
    exact ⟨⟨false, rfl, fun h => by cases h⟩, by rw [← HBW.out.2.1]; exact HBW.out.1⟩
  have HG : Hid (nf ≤ 5000 ∧ ni ≤ 5000) := ⟨by omega, by omega⟩
  go_upto_region 4 with fail
  clear g1 g2 k4 k2
  obtain ⟨c0, hc0⟩ : ∃ c : Int, c = (ns : Int) + nt := ⟨_, rfl⟩
  rw [← hc0]
  have HC0 : Hid (c0 = (ns : Int) + nt) := hc0
  clear hc0 e1 e0'
  go_wp2
  go_loopw [3, 4] (fun s k wr => ∃ (i : Nat), i ≤ nf ∧ k = .int .i64 i ∧ s = .int .i64 (c0 + sumN ((S.files.take i).map fSz)) ∧ Hid (Below W1.heap.size W1 wr)) (fun _ v _ => (nf - intOf v).toNat)
  case atStart => exact ⟨0, by omega, rfl, by simp [sumN], Below.refl _ _⟩
  case round =>
    obtain ⟨i, hi, rfl, rfl, HB⟩ := hrel
    have k1' := (HB.out.cell (p := ⟨z, 1, .none⟩) HBW.out.2.2).trans k1
    have k5' := (HB.out.cell (p := ⟨z, 5, .none⟩) HBW.out.2.2).trans k5
    obtain ⟨s, hsv⟩ : ∃ s : Int, s = c0 + sumN ((S.files.take i).map fSz) := ⟨_, rfl⟩
    rw [← hsv]
    have hb := sumN_take (S.files.map fSz) i
    rw [← List.map_take, ← HN.out.2.2.1] at hb
    by_cases hin : i < nf
    · have i1 : (i : Int) < nf := by omega
      obtain ⟨-, b, o, x, cs, rfl, hbX, hx, ⟨dv, rfl, hD⟩, hcl, hr⟩ := H.out.fs.at hin
      obtain ⟨dp, dc, rfl⟩ := hD.form
      have hnx := take_sum fSz hx
      have hb2 := sumN_take (S.files.map fSz) (i + 1)
      rw [← List.map_take, ← HN.out.2.2.1, hnx] at hb2
      have hfz : fSz x = x.path.size + x.data.length := rfl
      have hs0 : 0 ≤ s := by have := HC0.out; omega
      have hs9 : s + x.path.size + x.data.length ≤ 1000000000000000000000 ∧ s + x.path.size + x.data.length ≤ 2000000000000000000 := by have := HC0.out; have := HN.out; have := HG.out; omega
      have e1 : IntKind.i64.wrap (s + (x.path.size : Nat)) = s + (x.path.size : Nat) := by rw [IntKind.wrap_i64]; omega
      have e2 : IntKind.i64.wrap (s + (x.path.size : Nat) + (x.data.length : Nat)) = s + (x.path.size : Nat) + (x.data.length : Nat) := by rw [IntKind.wrap_i64]; omega
      have HNX : Hid (s + (x.path.size : Nat) + (x.data.length : Nat) = c0 + sumN ((S.files.take (i + 1)).map fSz)) := by show _ = _; rw [hnx]; omega
      have q1 := hr 0 _ rfl
      have q2 := hr 4 _ rfl
      rw [Nat.add_zero] at q1
      have hS : (fun w' : World => w'.cell? ⟨z, 1, .none⟩ = some (.slice (some ⟨b, o, .none⟩) nf fc) ∧ w'.cell? ⟨b, o + i * 5, .none⟩ = some (.string x.path) ∧ w'.cell? ⟨b, o + i * 5 + 4, .none⟩ = some (.slice dp x.data.length dc)) wr.drew := by
        have hbw : b < z := by have := HBW.out.2.1; have := HX.out; omega
        have hbb : b < W1.heap.size := by have := HBW.out.2.2; omega
        refine ⟨k1', ?_, ?_⟩
        · exact ((HB.out.cell (p := ⟨b, o + i * 5, .none⟩) hbb).trans (HBW.out.1.cell (p := ⟨b, o + i * 5, .none⟩) hbw)).trans q1
        · exact ((HB.out.cell (p := ⟨b, o + i * 5 + 4, .none⟩) hbb).trans (HBW.out.1.cell (p := ⟨b, o + i * 5 + 4, .none⟩) hbw)).trans q2
      clear hr hcl hD hx hbX hb hb2 hnx q1 q2 hsv
      go_upto_region 7 with fail
      refine wp_region_held (S := fun w' => w'.cell? ⟨z, 1, .none⟩ = some (.slice (some ⟨b, o, .none⟩) nf fc) ∧ w'.cell? ⟨b, o + i * 5, .none⟩ = some (.string x.path) ∧ w'.cell? ⟨b, o + i * 5 + 4, .none⟩ = some (.slice dp x.data.length dc)) (by kernel_rfl) ?_
      refine nT 0 (.int .i64 s) rfl ?_ (fun ww hSw => by obtain ⟨hs1, hs2, hs3⟩ := hSw; go_simp)
      simp only [x0,x1,x2,x3,x4,x5,x6]
      refine nT 1 (.pointer (some ⟨z, 1, .none⟩)) rfl ?_ (fun ww hSw => by obtain ⟨hs1, hs2, hs3⟩ := hSw; go_simp)
      simp only [x0,x1,x2,x3,x4,x5,x6]
      refine nT 2 (.slice (some ⟨b, o, .none⟩) nf fc) rfl ?_ (fun ww hSw => by obtain ⟨hs1, hs2, hs3⟩ := hSw; go_simp)
      simp only [x0,x1,x2,x3,x4,x5,x6]
      refine nT 3 (.int .i64 i) rfl ?_ (fun ww hSw => by obtain ⟨hs1, hs2, hs3⟩ := hSw; go_simp)
      simp only [x0,x1,x2,x3,x4,x5,x6]
      refine nT 4 (.pointer (some ⟨b, o + i * 5, .none⟩)) rfl ?_ (fun ww hSw => by obtain ⟨hs1, hs2, hs3⟩ := hSw; go_simp)
      simp only [x0,x1,x2,x3,x4,x5,x6]
      refine nT 5 (.pointer (some ⟨b, o + i * 5, .none⟩)) rfl ?_ (fun ww hSw => by obtain ⟨hs1, hs2, hs3⟩ := hSw; go_simp)
      simp only [x0,x1,x2,x3,x4,x5,x6]
      refine nT 6 (.string x.path) rfl ?_ (fun ww hSw => by obtain ⟨hs1, hs2, hs3⟩ := hSw; go_simp)
      simp only [x0,x1,x2,x3,x4,x5,x6]
      refine nT 7 (.int .i64 (x.path.size : Nat)) rfl ?_ (fun ww hSw => by obtain ⟨hs1, hs2, hs3⟩ := hSw; go_simp)
      simp only [x0,x1,x2,x3,x4,x5,x6]
      refine nT 8 (.int .i64 (s + (x.path.size : Nat))) rfl ?_ (fun ww hSw => by obtain ⟨hs1, hs2, hs3⟩ := hSw; go_simp)
      simp only [x0,x1,x2,x3,x4,x5,x6]
      refine nT 9 (.pointer (some ⟨z, 1, .none⟩)) rfl ?_ (fun ww hSw => by obtain ⟨hs1, hs2, hs3⟩ := hSw; go_simp)
      simp only [x0,x1,x2,x3,x4,x5,x6]
      refine nT 10 (.slice (some ⟨b, o, .none⟩) nf fc) rfl ?_ (fun ww hSw => by obtain ⟨hs1, hs2, hs3⟩ := hSw; go_simp)
      simp only [x0,x1,x2,x3,x4,x5,x6]
      refine nT 11 (.int .i64 i) rfl ?_ (fun ww hSw => by obtain ⟨hs1, hs2, hs3⟩ := hSw; go_simp)
      simp only [x0,x1,x2,x3,x4,x5,x6]
      refine nT 12 (.pointer (some ⟨b, o + i * 5, .none⟩)) rfl ?_ (fun ww hSw => by obtain ⟨hs1, hs2, hs3⟩ := hSw; go_simp)
      simp only [x0,x1,x2,x3,x4,x5,x6]
      refine nT 13 (.pointer (some ⟨b, o + i * 5 + 4, .none⟩)) rfl ?_ (fun ww hSw => by obtain ⟨hs1, hs2, hs3⟩ := hSw; go_simp)
      simp only [x0,x1,x2,x3,x4,x5,x6]
      refine nT 14 (.slice dp x.data.length dc) rfl ?_ (fun ww hSw => by obtain ⟨hs1, hs2, hs3⟩ := hSw; go_simp)
      simp only [x0,x1,x2,x3,x4,x5,x6]
      refine nT 15 (.int .i64 (x.data.length : Nat)) rfl ?_ (fun ww hSw => by obtain ⟨hs1, hs2, hs3⟩ := hSw; go_simp)
      simp only [x0,x1,x2,x3,x4,x5,x6]
      refine nT 16 (.int .i64 (s + (x.path.size : Nat) + (x.data.length : Nat))) rfl ?_ (fun ww hSw => by obtain ⟨hs1, hs2, hs3⟩ := hSw; go_simp)
      simp only [x0,x1,x2,x3,x4,x5,x6]
      refine nT 17 (.int .i64 (s + (x.path.size : Nat) + (x.data.length : Nat))) rfl ?_ (fun ww hSw => by obtain ⟨hs1, hs2, hs3⟩ := hSw; go_simp)
      simp only [x0,x1,x2,x3,x4,x5,x6]
      refine wpAnyH_done (by kernel_rfl) ?_ _
      clear hS
      have w1 : IntKind.i64.wrap ((i : Int) + 1) = (i : Int) + 1 := by rw [IntKind.wrap_i64]; have := HG.out; omega
      go_wp2
      refine ⟨⟨i + 1, by omega, by go_num, by rw [HNX.out], HB.out.drew⟩, by simp [intOf]; omega⟩
    · have i1 : ¬ (i : Int) < nf := by omega
      obtain rfl : i = nf := by omega
      have hes : s = c0 + sp := by
        rw [hsv, List.take_of_length_le (by have := HN.out.1; omega), ← HN.out.2.2.1]
      have HES : Hid (s = c0 + sp) := hes
      have HB0 := HB
      clear hb hsv hes HB i1
      go_wp2
      clear k1'
      go_loopw [3, 5] (fun t k wq => ∃ (j : Nat), j ≤ ni ∧ k = .int .i64 j ∧ t = .int .i64 (s + sumN ((S.ins.take j).map iSz)) ∧ Hid (Below W1.heap.size W1 wq)) (fun _ v _ => (ni - intOf v).toNat)
      case atStart => exact ⟨0, by omega, rfl, by simp [sumN], HB0.out⟩
      case round =>
        obtain ⟨j, hj, rfl, rfl, HB⟩ := hrel
        have k5'' := (HB.out.cell (p := ⟨z, 5, .none⟩) HBW.out.2.2).trans k5
        clear k5' k5
        obtain ⟨t, htv⟩ : ∃ t : Int, t = s + sumN ((S.ins.take j).map iSz) := ⟨_, rfl⟩
        rw [← htv]
        have hb := sumN_take (S.ins.map iSz) j
        rw [← List.map_take, ← HN.out.2.2.2.1] at hb
        by_cases hjn : j < ni
        · have i1 : (j : Int) < ni := by omega
          obtain ⟨-, b, o, x, cs, rfl, hbX, hx, ⟨bv, rfl, hD⟩, hcl, hr⟩ := H.out.is.at hjn
          obtain ⟨np1, nc1, rfl⟩ := hD.form
          have hnx := take_sum iSz hx
          have hb2 := sumN_take (S.ins.map iSz) (j + 1)
          rw [← List.map_take, ← HN.out.2.2.2.1, hnx] at hb2
          have hfz : iSz x = x.data.length := rfl
          have hs0 : 0 ≤ t := by have := HC0.out; have := HES.out; omega
          have hs9 : t + x.data.length ≤ 3000000000000000000 := by have := HC0.out; have := HES.out; have := HN.out; have := HG.out; omega
          have e1 : IntKind.i64.wrap (t + (x.data.length : Nat)) = t + (x.data.length : Nat) := by rw [IntKind.wrap_i64]; omega
          have HNX : Hid (t + (x.data.length : Nat) = s + sumN ((S.ins.take (j + 1)).map iSz)) := by show _ = _; rw [hnx]; omega
          have q1 := hr 1 _ rfl
          have hbw : b < z := by have := HBW.out.2.1; have := HX.out; omega
          have hbb : b < W1.heap.size := by have := HBW.out.2.2; omega
          have q2 := ((HB.out.cell (p := ⟨b, o + j * 2 + 1, .none⟩) hbb).trans (HBW.out.1.cell (p := ⟨b, o + j * 2 + 1, .none⟩) hbw)).trans q1
          clear hr hcl hD hx hbX hb hb2 hnx q1 htv
          have w1 : IntKind.i64.wrap ((j : Int) + 1) = (j : Int) + 1 := by rw [IntKind.wrap_i64]; have := HG.out; omega
          go_wp2
          refine ⟨⟨j + 1, by omega, by go_num, by rw [HNX.out], HB.out⟩, by simp [intOf]; omega⟩
        · have i1 : ¬ (j : Int) < ni := by omega
          obtain rfl : j = ni := by omega
          have HT : Hid (t = s + si) := by
            show _ = _
            rw [htv, List.take_of_length_le (by have := HN.out.2.1; omega), ← HN.out.2.2.2.1]
          clear hb htv
          go_wp2
          go_ret
          refine ⟨⟨_, rfl, fun h => ?_⟩, ?_⟩
          · have h1 := HT.out
            have h2 := HES.out
            have h3 := HC0.out
            have h4 := HG.out
            have h5 := of_decide_eq_true h
            have h6 := HN.out
            refine ⟨by omega, by omega, by omega⟩
          · have hbz := HBW.out
            rw [← hbz.2.1]
            exact hbz.1.trans (HB.out.mono (Nat.le_of_lt hbz.2.2))
end Go.Proofs.YtjbealefopajcaaDoor
