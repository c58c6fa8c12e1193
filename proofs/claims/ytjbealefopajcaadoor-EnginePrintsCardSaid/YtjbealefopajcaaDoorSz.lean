import Derived.Test.YtjbealefopajcaaDoorSy
import Derived.Test.YtjbealefopajcaaDoorSf
namespace Go.Proofs.YtjbealefopajcaaDoor
open Go Go.RowKit Rg
set_option linter.unusedVariables false
set_option linter.unusedSimpArgs false
def lenS (S : Sc) : Nat := S.init.size + sumN (S.files.map fSz) + sumN (S.ins.map iSz)
set_option maxRecDepth 100000 in
set_option maxHeartbeats 4000000 in
theorem far_any {w : World} {X : Nat} {fv tv iv : Value} {S : Sc} (h : ScW w X fv tv iv S) (hX : X ≤ w.heap.size) (hF : Few S) : Calls Tryd.prog 13 #[.agg (scL S fv tv iv).toArray] w fun e w' => e = .returned (.bool (decide (1048576 < lenS S))) ∧ Below w.heap.size w w' := by
  obtain ⟨fp, fc, rfl⟩ := h.fs.form
  obtain ⟨tp, tc, rfl⟩ := h.ts.form
  obtain ⟨ip, ic, rfl⟩ := h.is.form
  obtain ⟨nf, hnf⟩ : ∃ n, n = S.files.length := ⟨_, rfl⟩
  obtain ⟨ni, hni⟩ : ∃ n, n = S.ins.length := ⟨_, rfl⟩
  obtain ⟨nt, hnt⟩ : ∃ n, n = S.ticks.length := ⟨_, rfl⟩
  rw [← hnf, ← hni, ← hnt] at h ⊢
  have hsz := hF.sz
  have hz1 : lenS S ≤ 1100000 := by unfold fewN at hsz; unfold lenS; omega
  have H : Hid (ScW w X (.slice fp nf fc) (.slice tp nt tc) (.slice ip ni ic) S ∧ X ≤ w.heap.size) := ⟨h, hX⟩
  have HN : Hid (nf = S.files.length ∧ ni = S.ins.length ∧ lenS S ≤ 1100000 ∧ nf ≤ 5000 ∧ ni ≤ 5000) := ⟨hnf, hni, hz1, by have := hF.nf; omega, by have := hF.ni; omega⟩
  obtain ⟨R, hR⟩ : ∃ R, R = decide (1048576 < lenS S) := ⟨_, rfl⟩
  rw [← hR]
  have HR0 : Hid (R = decide (1048576 < lenS S)) := hR
  clear h hnf hni hnt hF hX hsz hz1 hR
  go_enter Tryd.func13, Tryd.ntmps13
  go_upto_region 1 with fail
  have HZ0 : Hid (ScZ (w.alloc (.cells (scL S (.slice fp nf fc) (.slice tp nt tc) (.slice ip ni ic)).toArray 26)) w.heap.size S (.slice fp nf fc) (.slice tp nt tc) (.slice ip ni ic) ∧ Below w.heap.size w (w.alloc (.cells (scL S (.slice fp nf fc) (.slice tp nt tc) (.slice ip ni ic)).toArray 26))) := ⟨scz_new w S _ _ _, below1 _ _⟩
  generalize (w.alloc (.cells (scL S (.slice fp nf fc) (.slice tp nt tc) (.slice ip ni ic)).toArray 26)) = W1 at *
  obtain ⟨z, hz⟩ : ∃ z, z = w.heap.size := ⟨_, rfl⟩
  rw [← hz] at HZ0 ⊢
  have HZ : Hid (z = w.heap.size) := hz
  clear hz
  have HZL : Hid (z < W1.heap.size) := HZ0.out.1.lt
  have c1 := HZ0.out.1.c1
  have c2 := HZ0.out.1.c2
  obtain ⟨c0, hc0⟩ : ∃ c : Nat, c = S.init.size := ⟨_, rfl⟩
  have e0 : ((S.init.size : Nat) : Int) = (c0 : Int) := by rw [hc0]
  have HC0 : Hid (c0 = S.init.size) := hc0
  clear hc0
  go_upto_region 3 with fail
  clear c1 c2 e0
  go_loopw [3, 14] (fun a k wr => ∃ i : Nat, i ≤ nf ∧ k = .int .i64 i ∧ a = .int .i64 ((c0 : Int) + sumN ((S.files.take i).map fSz)) ∧ Hid (Below W1.heap.size W1 wr)) (fun _ k _ => (nf - intOf k).toNat)
  case atStart => exact ⟨0, by omega, rfl, by simp [sumN], Below.refl _ _⟩
  case round =>
    obtain ⟨i, hi, rfl, rfl, HR⟩ := hrel
    obtain ⟨s, hsv⟩ : ∃ s : Int, s = (c0 : Int) + sumN ((S.files.take i).map fSz) := ⟨_, rfl⟩
    rw [← hsv]
    have w1 : IntKind.i64.wrap ((i : Int) + 1) = (i : Int) + 1 := by rw [IntKind.wrap_i64]; have := HN.out; omega
    by_cases hlt : i < nf
    · have g0 : (i : Int) < nf := by omega
      obtain ⟨-, b, o, x, cs, rfl, hbX, hx, ⟨dv, rfl, hD⟩, hcl, hr⟩ := H.out.1.fs.at hlt
      obtain ⟨dp, dc, rfl⟩ := hD.form
      have hbw : b < z := by have := HZ.out; have := H.out.2; omega
      have hbb : b < W1.heap.size := by have := HZL.out; omega
      have Q : ∀ j v, (x.l (.slice dp x.data.length dc))[j]? = some v → wr.cell? ⟨b, o + i * 5 + j, .none⟩ = some v := fun j v hj => ((HR.out.cell (p := ⟨b, o + i * 5 + j, .none⟩) hbb).trans (HZ0.out.2.cell (p := ⟨b, o + i * 5 + j, .none⟩) hbw)).trans (hr j v hj)
      have q0 := Q 0 _ rfl
      have q1 := Q 1 _ rfl
      have q2 := Q 2 _ rfl
      have q3 := Q 3 _ rfl
      have q4 := Q 4 _ rfl
      rw [Nat.add_zero] at q0
      have hnx := take_sum fSz hx
      have hb2 := sumN_take (S.files.map fSz) (i + 1)
      rw [← List.map_take, hnx] at hb2
      have hfz : fSz x = x.path.size + x.data.length := rfl
      have hle : c0 + sumN (S.files.map fSz) ≤ 1100000 := by have h1 := HN.out.2.2.1; unfold lenS at h1; have := HC0.out; omega
      have e1 : IntKind.i64.wrap ((x.path.size : Nat) + ((x.data.length : Nat) : Int)) = ((x.path.size : Nat) : Int) + ((x.data.length : Nat) : Int) := by rw [IntKind.wrap_i64]; omega
      have e2 : IntKind.i64.wrap (s + (((x.path.size : Nat) : Int) + ((x.data.length : Nat) : Int))) = s + (((x.path.size : Nat) : Int) + ((x.data.length : Nat) : Int)) := by rw [IntKind.wrap_i64]; omega
      have HNX : Hid (s + (((x.path.size : Nat) : Int) + ((x.data.length : Nat) : Int)) = (c0 : Int) + sumN ((S.files.take (i + 1)).map fSz)) := by show _ = _; rw [hnx]; omega
      have HB9 : Hid (W1.heap.size ≤ wr.heap.size) := HR.out.size
      clear Q hr hcl hD hx hbX hbw hbb hnx hb2 hfz hle hsv
      go_wp2_with fail
      exact ⟨⟨i + 1, by omega, by go_num, by rw [HNX.out], HR.out.trans ((Below.refl _ _).alloc HB9.out _)⟩, by simp only [intOf]; omega⟩
    · have g0 : ¬ (i : Int) < nf := by omega
      obtain rfl : i = nf := by omega
      have HES : Hid (s = (c0 : Int) + sumN (S.files.map fSz)) := by
        show _ = _
        rw [hsv, List.take_of_length_le (by have := HN.out.1; omega)]
      have c5 := (HR.out.cell (p := ⟨z, 5, .none⟩) HZL.out).trans HZ0.out.1.c5
      clear hsv w1
      go_upto_region 8 with fail
      clear c5 g0
      go_loopw [3, 31] (fun a k wr => ∃ j : Nat, j ≤ ni ∧ k = .int .i64 j ∧ a = .int .i64 (s + sumN ((S.ins.take j).map iSz)) ∧ Hid (Below W1.heap.size W1 wr)) (fun _ k _ => (ni - intOf k).toNat)
      case atStart => exact ⟨0, by omega, rfl, by simp [sumN], HR.out⟩
      case round =>
        obtain ⟨j, hj, rfl, rfl, HR⟩ := hrel
        obtain ⟨t, htv⟩ : ∃ t : Int, t = s + sumN ((S.ins.take j).map iSz) := ⟨_, rfl⟩
        rw [← htv]
        have w1 : IntKind.i64.wrap ((j : Int) + 1) = (j : Int) + 1 := by rw [IntKind.wrap_i64]; have := HN.out; omega
        by_cases hlt : j < ni
        · have g0 : (j : Int) < ni := by omega
          obtain ⟨-, b, o, x, cs, rfl, hbX, hx, ⟨dv, rfl, hD⟩, hcl, hr⟩ := H.out.1.is.at hlt
          obtain ⟨dp, dc, rfl⟩ := hD.form
          have hbw : b < z := by have := HZ.out; have := H.out.2; omega
          have hbb : b < W1.heap.size := by have := HZL.out; omega
          have Q : ∀ m v, (x.l (.slice dp x.data.length dc))[m]? = some v → wr.cell? ⟨b, o + j * 2 + m, .none⟩ = some v := fun m v hj => ((HR.out.cell (p := ⟨b, o + j * 2 + m, .none⟩) hbb).trans (HZ0.out.2.cell (p := ⟨b, o + j * 2 + m, .none⟩) hbw)).trans (hr m v hj)
          have q0 := Q 0 _ rfl
          have q1 := Q 1 _ rfl
          rw [Nat.add_zero] at q0
          have hnx := take_sum iSz hx
          have hb2 := sumN_take (S.ins.map iSz) (j + 1)
          rw [← List.map_take, hnx] at hb2
          have hfz : iSz x = x.data.length := rfl
          have hle : s + sumN (S.ins.map iSz) ≤ 1100000 ∧ 0 ≤ s := by have h1 := HN.out.2.2.1; unfold lenS at h1; have := HC0.out; have := HES.out; omega
          have e1 : IntKind.i64.wrap (t + ((x.data.length : Nat) : Int)) = t + ((x.data.length : Nat) : Int) := by rw [IntKind.wrap_i64]; omega
          have HNX : Hid (t + ((x.data.length : Nat) : Int) = s + sumN ((S.ins.take (j + 1)).map iSz)) := by show _ = _; rw [hnx]; omega
          have HB9 : Hid (W1.heap.size ≤ wr.heap.size) := HR.out.size
          clear Q hr hcl hD hx hbX hbw hbb hnx hb2 hfz hle htv
          go_wp2_with fail
          exact ⟨⟨j + 1, by omega, by go_num, by rw [HNX.out], HR.out.trans ((Below.refl _ _).alloc HB9.out _)⟩, by simp only [intOf]; omega⟩
        · have g0 : ¬ (j : Int) < ni := by omega
          obtain rfl : j = ni := by omega
          have HT : Hid (t = ((lenS S : Nat) : Int)) := by
            show _ = _
            rw [htv, List.take_of_length_le (by have := HN.out.2.1; omega)]
            have h1 := HES.out
            have h2 := HC0.out
            unfold lenS
            omega
          clear htv w1
          have HDT : Hid (decide ((1048576 : Int) < t) = R) := by
            show _ = _
            rw [HR0.out, HT.out, decide_eq_decide]
            omega
          have HBF : Hid (Below z w wr) := HZ0.out.2.trans (HR.out.mono (Nat.le_of_lt HZL.out))
          go_wp2_with fail
          go_ret
          refine ⟨?_, by rw [← HZ.out]; exact HBF.out⟩
          show Ending.returned (.bool _) = _
          rw [← HDT.out]
end Go.Proofs.YtjbealefopajcaaDoor
