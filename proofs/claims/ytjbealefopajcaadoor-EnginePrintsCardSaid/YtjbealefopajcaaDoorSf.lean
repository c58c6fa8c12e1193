import Derived.Test.YtjbealefopajcaaDoorSd
namespace Go.Proofs.YtjbealefopajcaaDoor
open Go Go.RowKit Rg
set_option linter.unusedVariables false
set_option linter.unusedSimpArgs false
theorem badL_lim {α : Type} {lim : Nat} {p : α → Bool} {l : List α} {i : Nat} (h : ∀ j, j < i → badL lim p l j = false) : i ≤ lim := by
  rcases Nat.lt_or_ge lim i with h1 | h1
  · have := h lim h1
    unfold badL at this
    rw [decide_eq_true (Nat.le_refl _)] at this
    cases this
  · exact h1
set_option maxRecDepth 100000 in
set_option maxHeartbeats 4000000 in
theorem rwrong_any {w : World} {X : Nat} {fv tv iv : Value} {S : Sc} (h : ScW w X fv tv iv S) (hX : X ≤ w.heap.size) (hF : Few S) : Calls Tryd.prog 15 #[.agg (scL S fv tv iv).toArray] w (WrQ S w) := by
  obtain ⟨fp, fc, rfl⟩ := h.fs.form
  obtain ⟨tp, tc, rfl⟩ := h.ts.form
  obtain ⟨ip, ic, rfl⟩ := h.is.form
  obtain ⟨nf, hnf⟩ : ∃ n, n = S.files.length := ⟨_, rfl⟩
  obtain ⟨nt, hnt⟩ : ∃ n, n = S.ticks.length := ⟨_, rfl⟩
  obtain ⟨ni, hni⟩ : ∃ n, n = S.ins.length := ⟨_, rfl⟩
  rw [← hnf, ← hnt, ← hni] at h ⊢
  have H : Hid (ScW w X (.slice fp nf fc) (.slice tp nt tc) (.slice ip ni ic) S ∧ X ≤ w.heap.size) := ⟨h, hX⟩
  have HN : Hid (nf = S.files.length ∧ ni = S.ins.length ∧ nt = S.ticks.length ∧ Few S) := ⟨hnf, hni, hnt, hF⟩
  clear h hnf hnt hni hF hX
  go_enter Tryd.func15, Tryd.ntmps15
  go_upto_region 1 with fail
  have HZ0 : Hid (ScZ (w.alloc (.cells (scL S (.slice fp nf fc) (.slice tp nt tc) (.slice ip ni ic)).toArray 26)) w.heap.size S (.slice fp nf fc) (.slice tp nt tc) (.slice ip ni ic) ∧ Below w.heap.size w (w.alloc (.cells (scL S (.slice fp nf fc) (.slice tp nt tc) (.slice ip ni ic)).toArray 26))) := ⟨scz_new w S _ _ _, below1 _ _⟩
  generalize (w.alloc (.cells (scL S (.slice fp nf fc) (.slice tp nt tc) (.slice ip ni ic)).toArray 26)) = W1 at *
  obtain ⟨z, hz⟩ : ∃ z, z = w.heap.size := ⟨_, rfl⟩
  rw [← hz] at HZ0 ⊢
  have HZ : Hid (z = w.heap.size ∧ nf ≤ 5000 ∧ nt ≤ 1100000 ∧ ni ≤ 5000) := by have := HN.out; have f := HN.out.2.2.2; have := f.nf; have := f.nt; have := f.ni; exact ⟨hz, by omega, by omega, by omega⟩
  have HP : Hid (∀ e w' (o : Option Nat) (v : Int), wrongF S = o → v = (match o with | some k => (k : Int) | none => -1) → e = .returned (.int .i64 v) → Below z w w' → WrQ S w e w') := fun e w' o v h1 h0 h2 h3 => by
    refine ⟨?_, by rw [← HZ.out.1]; exact h3⟩
    rw [h2, h1, h0]
    cases o <;> rfl
  clear hz
  have c0 := HZ0.out.1.c0
  have c3 := HZ0.out.1.c3
  obtain ⟨frv, hfr⟩ : ∃ x, x = S.fr := ⟨_, rfl⟩
  obtain ⟨buv, hbu⟩ : ∃ x, x = S.bu := ⟨_, rfl⟩
  rw [← hfr] at c0
  rw [← hbu] at c3
  have HV : Hid (frv = S.fr ∧ buv = S.bu) := ⟨hfr, hbu⟩
  clear hfr hbu
  cases g1 : fitN frv
  · go_wp2_with (first | (go_at_call 33; refine (fits_any _ _).mono ?_; rintro _ w9 ⟨rfl, e9⟩; rw [e9]; clear e9 w9) | fail)
    go_ret
    exact HP.out _ _ (some 0) _ (by unfold wrongF; rw [← HV.out.1, g1]; rfl) rfl rfl HZ0.out.2
  cases g2 : fitN buv
  · go_wp2_with (first | (go_at_call 33; refine (fits_any _ _).mono ?_; rintro _ w9 ⟨rfl, e9⟩; rw [e9]; clear e9 w9) | fail)
    go_ret
    exact HP.out _ _ (some 0) _ (by unfold wrongF; rw [← HV.out.1, ← HV.out.2, g1, g2]; rfl) rfl rfl HZ0.out.2
  go_upto_region 3 with (first | (go_at_call 33; refine (fits_any _ _).mono ?_; rintro _ w9 ⟨rfl, e9⟩; rw [e9]; clear e9 w9) | fail)
  have HW : Hid (wrongF S = match fb (badL 64 okFl S.files) nf 0 with
  | some i => some (1 + i)
  | none => match fb (badL 4096 fitN S.ticks) nt 0 with
    | some i => some (1 + nf + i)
    | none => match fb (badL 4096 (fun f : Ip => fitN f.tm) S.ins) ni 0 with
      | some i => some (1 + nf + nt + i)
      | none => none) := by
    show _ = _
    unfold wrongF
    rw [← HV.out.1, ← HV.out.2, g1, g2, HN.out.1, HN.out.2.1, HN.out.2.2.1]
    rfl
  clear g1 g2 c0 c3 HV
  have hzl : z < W1.heap.size := HZ0.out.1.lt
  have HZL : Hid (z < W1.heap.size) := hzl
  clear hzl
  go_wp2_with fail
  go_loopw [4] (fun k wr => ∃ i : Nat, i ≤ nf ∧ k = .int .i64 i ∧ Hid (Below W1.heap.size W1 wr ∧ ∀ j, j < i → badL 64 okFl S.files j = false)) (fun k _ => (nf - intOf k).toNat)
  case atStart => exact ⟨0, by omega, rfl, Below.refl _ _, fun j hj => by omega⟩
  case round =>
    obtain ⟨i, hi, rfl, HR⟩ := hrel
    have c1 := (HR.out.1.cell (p := ⟨z, 1, .none⟩) HZL.out).trans HZ0.out.1.c1
    have w1 : IntKind.i64.wrap ((i : Int) + 1) = (i : Int) + 1 := by rw [IntKind.wrap_i64]; have := HZ.out; omega
    have w2 : IntKind.i64.wrap (1 + (i : Int)) = 1 + (i : Int) := by rw [IntKind.wrap_i64]; have := HZ.out; omega
    have HB9 : Hid (Below z w wr) := HZ0.out.2.trans (HR.out.1.mono (Nat.le_of_lt HZL.out))
    have hl64 := badL_lim HR.out.2
    by_cases hlt : i < nf
    · have g0 : (i : Int) < nf := by omega
      obtain ⟨-, b, o, x, cs, rfl, hbX, hx, ⟨dv, rfl, hD⟩, hcl, hr⟩ := H.out.1.fs.at hlt
      obtain ⟨dp, dc, rfl⟩ := hD.form
      have hbw : b < z := by have := HZ.out.1; have := H.out.2; omega
      have hbb : b < W1.heap.size := by have := HZL.out; omega
      have Q : ∀ j v, (x.l (.slice dp x.data.length dc))[j]? = some v → wr.cell? ⟨b, o + i * 5 + j, .none⟩ = some v := fun j v hj => ((HR.out.1.cell (p := ⟨b, o + i * 5 + j, .none⟩) hbb).trans (HZ0.out.2.cell (p := ⟨b, o + i * 5 + j, .none⟩) hbw)).trans (hr j v hj)
      have q0 := Q 0 _ rfl
      have q1 := Q 1 _ rfl
      have q2 := Q 2 _ rfl
      have q3 := Q 3 _ rfl
      have q4 := Q 4 _ rfl
      rw [Nat.add_zero] at q0
      have HX : Hid (S.files[i]? = some x) := hx
      have HR64 : Hid (i ≤ 64) := hl64
      clear Q hr hcl hD hx hbX hbw hbb hl64
      by_cases h64 : (i : Int) = 64
      · obtain rfl : i = 64 := by omega
        clear w2
        go_wp2_with fail
        go_ret
        refine HP.out _ _ (some (1 + 64)) _ ?_ rfl rfl HB9.out
        rw [HW.out, fb_hit HR.out.2 hlt (by rw [badL_at HX.out, decide_eq_true (Nat.le_refl _)]; rfl)]
      obtain ⟨r, hrr⟩ : ∃ r, r = okF x.ty x.mj x.mn x.data.length := ⟨_, rfl⟩
      have c34 := fun w5 => told_any x.path x.ty x.mj x.mn dp x.data.length dc w5
      rw [← hrr] at c34
      have HRR : Hid (badL 64 okFl S.files i = !r) := by show _ = _; rw [badL_at HX.out, decide_eq_false (by have := HR64.out; omega), hrr]; rfl
      clear hrr
      cases r
      · go_wp2_with (go_at_call 34; refine (c34 _).mono ?_; rintro _ w9 ⟨rfl, b9⟩; have B9 : Hid (Below z w w9) := HB9.out.trans (b9.mono (by have := HR.out.1.size; have := HZL.out; omega)); clear b9)
        go_ret
        refine HP.out _ _ (some (1 + i)) _ ?_ (by simp) rfl B9.out
        rw [HW.out, fb_hit HR.out.2 hlt HRR.out]
      · go_wp2_with (go_at_call 34; refine (c34 _).mono ?_; rintro _ w9 ⟨rfl, b9⟩; have B9 : Hid (Below wr.heap.size wr w9) := b9; clear b9)
        refine ⟨⟨i + 1, by omega, by go_num, HR.out.1.trans (B9.out.mono HR.out.1.size), fun j hj => ?_⟩, by simp only [intOf]; omega⟩
        by_cases hji : j = i
        · rw [hji]; exact HRR.out
        · exact HR.out.2 j (by omega)
    · have g0 : ¬ (i : Int) < nf := by omega
      obtain rfl : i = nf := by omega
      have HFn : Hid (fb (badL 64 okFl S.files) i 0 = none) := fb_none HR.out.2
      go_upto_region 10 with fail
      clear c1 w1 w2 g0 HB9
      go_wp2_with fail
      go_loopw [5] (fun k wq => ∃ j : Nat, j ≤ nt ∧ k = .int .i64 j ∧ Hid (Below W1.heap.size W1 wq ∧ ∀ m, m < j → badL 4096 fitN S.ticks m = false)) (fun k _ => (nt - intOf k).toNat)
      case atStart => exact ⟨0, by omega, rfl, HR.out.1, fun j hj => by omega⟩
      case round =>
        obtain ⟨j, hj, rfl, HQ⟩ := hrel
        have c4 := (HQ.out.1.cell (p := ⟨z, 4, .none⟩) HZL.out).trans HZ0.out.1.c4
        have w1 : IntKind.i64.wrap ((j : Int) + 1) = (j : Int) + 1 := by rw [IntKind.wrap_i64]; have := HZ.out; omega
        have w2 : IntKind.i64.wrap (1 + (i : Int) + (j : Int)) = 1 + (i : Int) + (j : Int) := by rw [IntKind.wrap_i64]; have := HZ.out; omega
        have HB9 : Hid (Below z w wr) := HZ0.out.2.trans (HQ.out.1.mono (Nat.le_of_lt HZL.out))
        have hl4 := badL_lim HQ.out.2
        by_cases hlt : j < nt
        · have g0 : (j : Int) < nt := by omega
          obtain ⟨-, b, o, x, cs, rfl, hbX, hx, rfl, hcl, hr⟩ := H.out.1.ts.at hlt
          have hbw : b < z := by have := HZ.out.1; have := H.out.2; omega
          have hbb : b < W1.heap.size := by have := HZL.out; omega
          have q0 := ((HQ.out.1.cell (p := ⟨b, o + j * 1 + 0, .none⟩) hbb).trans (HZ0.out.2.cell (p := ⟨b, o + j * 1 + 0, .none⟩) hbw)).trans (hr 0 _ rfl)
          rw [Nat.add_zero, Nat.mul_one] at q0
          have HX : Hid (S.ticks[j]? = some x) := hx
          have HR64 : Hid (j ≤ 4096) := hl4
          clear hr hcl hx hbX hbw hbb hl4
          by_cases h64 : (j : Int) = 4096
          · obtain rfl : j = 4096 := by omega
            go_wp2_with fail
            go_ret
            refine HP.out _ _ (some (1 + i + 4096)) _ ?_ (by simp) rfl HB9.out
            rw [HW.out, HFn.out, fb_hit HQ.out.2 hlt (by rw [badL_at HX.out, decide_eq_true (Nat.le_refl _)]; rfl)]
          obtain ⟨r, hrr⟩ : ∃ r, r = fitN x := ⟨_, rfl⟩
          have c33 := fun w5 => fits_any x w5
          rw [← hrr] at c33
          have HRR : Hid (badL 4096 fitN S.ticks j = !r) := by show _ = _; rw [badL_at HX.out, decide_eq_false (by have := HR64.out; omega), hrr]; rfl
          clear hrr
          cases r
          · go_wp2_with (go_at_call 33; refine (c33 _).mono ?_; rintro _ w9 ⟨rfl, e9⟩; rw [e9]; clear e9 w9)
            go_ret
            refine HP.out _ _ (some (1 + i + j)) _ ?_ (by simp) rfl HB9.out
            rw [HW.out, HFn.out, fb_hit HQ.out.2 hlt HRR.out]
          · go_wp2_with (go_at_call 33; refine (c33 _).mono ?_; rintro _ w9 ⟨rfl, e9⟩; rw [e9]; clear e9 w9)
            refine ⟨⟨j + 1, by omega, by go_num, HQ.out.1, fun m hm => ?_⟩, by simp only [intOf]; omega⟩
            by_cases hji : m = j
            · rw [hji]; exact HRR.out
            · exact HQ.out.2 m (by omega)
        · have g0 : ¬ (j : Int) < nt := by omega
          obtain rfl : j = nt := by omega
          have HTn : Hid (fb (badL 4096 fitN S.ticks) j 0 = none) := fb_none HQ.out.2
          go_upto_region 16 with fail
          clear c4 w2 w1 g0 HB9
          go_wp2_with fail
          go_loopw [6] (fun k wr => ∃ m : Nat, m ≤ ni ∧ k = .int .i64 m ∧ Hid (Below W1.heap.size W1 wr ∧ ∀ q, q < m → badL 4096 (fun f : Ip => fitN f.tm) S.ins q = false)) (fun k _ => (ni - intOf k).toNat)
          case atStart => exact ⟨0, by omega, rfl, HQ.out.1, fun j hj => by omega⟩
          case round =>
            obtain ⟨m, hm, rfl, HR⟩ := hrel
            have c5 := (HR.out.1.cell (p := ⟨z, 5, .none⟩) HZL.out).trans HZ0.out.1.c5
            have w1 : IntKind.i64.wrap ((m : Int) + 1) = (m : Int) + 1 := by rw [IntKind.wrap_i64]; have := HZ.out; omega
            have w2 : IntKind.i64.wrap (1 + (i : Int) + (j : Int) + (m : Int)) = 1 + (i : Int) + (j : Int) + (m : Int) := by rw [IntKind.wrap_i64]; have := HZ.out; omega
            have HB9 : Hid (Below z w wr) := HZ0.out.2.trans (HR.out.1.mono (Nat.le_of_lt HZL.out))
            have hl4 := badL_lim HR.out.2
            by_cases hlt : m < ni
            · have g0 : (m : Int) < ni := by omega
              obtain ⟨-, b, o, x, cs, rfl, hbX, hx, ⟨dv, rfl, hD⟩, hcl, hr⟩ := H.out.1.is.at hlt
              obtain ⟨dp, dc, rfl⟩ := hD.form
              have hbw : b < z := by have := HZ.out.1; have := H.out.2; omega
              have hbb : b < W1.heap.size := by have := HZL.out; omega
              have q0 := ((HR.out.1.cell (p := ⟨b, o + m * 2 + 0, .none⟩) hbb).trans (HZ0.out.2.cell (p := ⟨b, o + m * 2 + 0, .none⟩) hbw)).trans (hr 0 _ rfl)
              rw [Nat.add_zero] at q0
              have HX : Hid (S.ins[m]? = some x) := hx
              have HR64 : Hid (m ≤ 4096) := hl4
              clear hr hcl hD hx hbX hbw hbb hl4
              by_cases h64 : (m : Int) = 4096
              · obtain rfl : m = 4096 := by omega
                go_wp2_with fail
                go_ret
                refine HP.out _ _ (some (1 + i + j + 4096)) _ ?_ (by simp) rfl HB9.out
                rw [HW.out, HFn.out, HTn.out, fb_hit HR.out.2 hlt (by rw [badL_at HX.out, decide_eq_true (Nat.le_refl _)]; rfl)]
              obtain ⟨r, hrr⟩ : ∃ r, r = fitN x.tm := ⟨_, rfl⟩
              have c33 := fun w5 => fits_any x.tm w5
              rw [← hrr] at c33
              have HRR : Hid (badL 4096 (fun f : Ip => fitN f.tm) S.ins m = !r) := by show _ = _; rw [badL_at HX.out, decide_eq_false (by have := HR64.out; omega), hrr]; rfl
              clear hrr
              cases r
              · go_wp2_with (go_at_call 33; refine (c33 _).mono ?_; rintro _ w9 ⟨rfl, e9⟩; rw [e9]; clear e9 w9)
                go_ret
                refine HP.out _ _ (some (1 + i + j + m)) _ ?_ (by simp) rfl HB9.out
                rw [HW.out, HFn.out, HTn.out, fb_hit HR.out.2 hlt HRR.out]
              · go_wp2_with (go_at_call 33; refine (c33 _).mono ?_; rintro _ w9 ⟨rfl, e9⟩; rw [e9]; clear e9 w9)
                refine ⟨⟨m + 1, by omega, by go_num, HR.out.1, fun q hq => ?_⟩, by simp only [intOf]; omega⟩
                by_cases hji : q = m
                · rw [hji]; exact HRR.out
                · exact HR.out.2 q (by omega)
            · have g0 : ¬ (m : Int) < ni := by omega
              obtain rfl : m = ni := by omega
              clear w1 w2
              go_wp2_with fail
              go_ret
              refine HP.out _ _ none _ ?_ rfl rfl HB9.out
              rw [HW.out, HFn.out, HTn.out, fb_none HR.out.2]
end Go.Proofs.YtjbealefopajcaaDoor
