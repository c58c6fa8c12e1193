import Derived.Test.YtjbealefopajcaaDoorSd
namespace Go.Proofs.YtjbealefopajcaaDoor
open Go Go.RowKit Rg
set_option linter.unusedVariables false
set_option linter.unusedSimpArgs false
set_option maxRecDepth 100000 in
set_option maxHeartbeats 4000000 in
theorem wrongPlace_any {w : World} {X : Nat} {fv tv iv : Value} {S : Sc} (h : ScW w X fv tv iv S) (hX : X ≤ w.heap.size) (hF : Few S) : Calls Tryd.prog 11 #[.agg (scL S fv tv iv).toArray] w (WpP S w) := by
  obtain ⟨fp, fc, rfl⟩ := h.fs.form
  obtain ⟨tp, tc, rfl⟩ := h.ts.form
  obtain ⟨ip, ic, rfl⟩ := h.is.form
  obtain ⟨nf, hnf⟩ : ∃ n, n = S.files.length := ⟨_, rfl⟩
  obtain ⟨nt, hnt⟩ : ∃ n, n = S.ticks.length := ⟨_, rfl⟩
  obtain ⟨ni, hni⟩ : ∃ n, n = S.ins.length := ⟨_, rfl⟩
  rw [← hnf, ← hnt, ← hni] at h ⊢
  have H : Hid (ScW w X (.slice fp nf fc) (.slice tp nt tc) (.slice ip ni ic) S ∧ X ≤ w.heap.size) := ⟨h, hX⟩
  have HN : Hid (nf = S.files.length ∧ ni = S.ins.length ∧ nt = S.ticks.length ∧ Few S) := ⟨hnf, hni, hnt, hF⟩
  clear h hnf hnt hni hF hX
  go_enter Tryd.func11, Tryd.ntmps11
  go_upto_region 1 with fail
  have HZ0 : Hid (ScZ (w.alloc (.cells (scL S (.slice fp nf fc) (.slice tp nt tc) (.slice ip ni ic)).toArray 26)) w.heap.size S (.slice fp nf fc) (.slice tp nt tc) (.slice ip ni ic) ∧ Below w.heap.size w (w.alloc (.cells (scL S (.slice fp nf fc) (.slice tp nt tc) (.slice ip ni ic)).toArray 26))) := ⟨scz_new w S _ _ _, below1 _ _⟩
  generalize (w.alloc (.cells (scL S (.slice fp nf fc) (.slice tp nt tc) (.slice ip ni ic)).toArray 26)) = W1 at *
  obtain ⟨z, hz⟩ : ∃ z, z = w.heap.size := ⟨_, rfl⟩
  rw [← hz] at HZ0 ⊢
  have HZ : Hid (z = w.heap.size ∧ nf ≤ 5000 ∧ nt ≤ 1100000 ∧ ni ≤ 5000) := by have := HN.out; have f := HN.out.2.2.2; have := f.nf; have := f.nt; have := f.ni; exact ⟨hz, by omega, by omega, by omega⟩
  have HP : Hid (∀ e w' (k : Nat) (v : Int) (b : Bool), wrongF S = (if b then some k else none) → v = ((if b then k else 0 : Nat) : Int) → e = .returned (.tuple #[.int .i64 v, .bool b]) → Below z w w' → WpP S w e w') := fun e w' k v b h1 h0 h2 h3 => by
    refine ⟨?_, by rw [← HZ.out.1]; exact h3⟩
    rw [h2, h1, h0]
    cases b <;> rfl
  clear hz
  have c0 := HZ0.out.1.c0
  have c3 := HZ0.out.1.c3
  obtain ⟨frv, hfr⟩ : ∃ x, x = S.fr := ⟨_, rfl⟩
  obtain ⟨buv, hbu⟩ : ∃ x, x = S.bu := ⟨_, rfl⟩
  rw [← hfr] at c0
  rw [← hbu] at c3
  have HV : Hid (frv = S.fr ∧ buv = S.bu) := ⟨hfr, hbu⟩
  clear hfr hbu
  cases g1 : fitN frv
  · go_wp2_with (first | (go_at_call 25; refine (isNumber_any _ _).mono ?_; rintro _ w9 ⟨rfl, e9⟩; rw [e9]; clear e9 w9) | fail)
    go_ret2
    exact HP.out _ _ 0 _ true (by unfold wrongF; rw [← HV.out.1, g1]; rfl) rfl rfl HZ0.out.2
  cases g2 : fitN buv
  · go_wp2_with (first | (go_at_call 25; refine (isNumber_any _ _).mono ?_; rintro _ w9 ⟨rfl, e9⟩; rw [e9]; clear e9 w9) | fail)
    go_ret2
    exact HP.out _ _ 0 _ true (by unfold wrongF; rw [← HV.out.1, ← HV.out.2, g1, g2]; rfl) rfl rfl HZ0.out.2
  go_upto_region 3 with (first | (go_at_call 25; refine (isNumber_any _ _).mono ?_; rintro _ w9 ⟨rfl, e9⟩; rw [e9]; clear e9 w9) | fail)
  have HW : Hid (wrongF S = match fb (badL 64 okFl S.files) nf 0 with
  | some i => some (1 + i)
  | none => match fb (badL 4096 fitN S.ticks) nt 0 with
    | some i => some (1 + nf + i)
    | none => match fb (badL 4096 (fun f : Ip => fitN f.tm) S.ins) ni 0 with
      | some i => some (1 + nf + nt + i)
      | none => none) := by
    show _ = _
    unfold wrongF
    rw [← HV.out.1, ← HV.out.2, g1, g2, HN.out.1, HN.out.2.1, HN.out.2.2.1]
    rfl
  clear g1 g2 c0 c3 HV
  have c1 := HZ0.out.1.c1
  have hzl : z < W1.heap.size := HZ0.out.1.lt
  have HZL : Hid (z < W1.heap.size) := hzl
  clear hzl
  go_upto_region 5 with fail
  go_loopw [2, 23] (fun a k wr => a = .int .i64 1 ∧ ∃ i : Nat, i ≤ nf ∧ k = .int .i64 i ∧ Hid (Below W1.heap.size W1 wr ∧ ∀ j, j < i → badL 64 okFl S.files j = false)) (fun _ k _ => (nf - intOf k).toNat)
  case atStart => exact ⟨rfl, 0, by omega, rfl, Below.refl _ _, fun j hj => by omega⟩
  case round =>
    obtain ⟨rfl, i, hi, rfl, HR⟩ := hrel
    by_cases hlt : i < nf
    · have g0 : (i : Int) < nf := by omega
      obtain ⟨-, b, o, x, cs, rfl, hbX, hx, ⟨dv, rfl, hD⟩, hcl, hr⟩ := H.out.1.fs.at hlt
      obtain ⟨dp, dc, rfl⟩ := hD.form
      have hbw : b < z := by have := HZ.out.1; have := H.out.2; omega
      have hbb : b < W1.heap.size := by have := HZL.out; omega
      have Q : ∀ j v, (x.l (.slice dp x.data.length dc))[j]? = some v → wr.cell? ⟨b, o + i * 5 + j, .none⟩ = some v := fun j v hj => ((HR.out.1.cell (p := ⟨b, o + i * 5 + j, .none⟩) hbb).trans (HZ0.out.2.cell (p := ⟨b, o + i * 5 + j, .none⟩) hbw)).trans (hr j v hj)
      have q0 := Q 0 _ rfl
      have q1 := Q 1 _ rfl
      have q2 := Q 2 _ rfl
      have q3 := Q 3 _ rfl
      have q4 := Q 4 _ rfl
      rw [Nat.add_zero] at q0
      have HX : Hid (S.files[i]? = some x) := hx
      clear Q hr hcl hD hx hbX hbw hbb
      have w1 : IntKind.i64.wrap ((i : Int) + 1) = (i : Int) + 1 := by rw [IntKind.wrap_i64]; have := HZ.out; omega
      have w2 : IntKind.i64.wrap (1 + (i : Int)) = 1 + (i : Int) := by rw [IntKind.wrap_i64]; have := HZ.out; omega
      have hbw := HR.out.1
      go_upto_region 7 with fail
      clear q0 q1 q2 q3 q4
      have HB9 : Hid (Below z w wr) := HZ0.out.2.trans (hbw.mono (Nat.le_of_lt HZL.out))
      clear hbw
      have hzr : z < wr.heap.size := by have := HR.out.1.size; have := HZL.out; omega
      have HZR : Hid (z ≤ wr.heap.size) := Nat.le_of_lt hzr
      clear hzr
      by_cases h64 : (64 : Int) ≤ i
      · go_wp2_with fail
        go_ret2
        refine HP.out _ _ (1 + i) _ true ?_ (by simp) rfl (HB9.out.trans ((Below.refl _ _).alloc HZR.out _))
        rw [HW.out, fb_hit HR.out.2 hlt (by rw [badL_at HX.out, decide_eq_true (by omega)]; rfl)]
        rfl
      obtain ⟨r, hrr⟩ : ∃ r, r = okF x.ty x.mj x.mn x.data.length := ⟨_, rfl⟩
      have c26 := fun w5 => isFile_any x.path x.ty x.mj x.mn dp x.data.length dc w5
      rw [← hrr] at c26
      have HRR : Hid (badL 64 okFl S.files i = !r) := by show _ = _; rw [badL_at HX.out, decide_eq_false (by omega), hrr]; rfl
      clear hrr
      cases r
      · go_wp2_with (go_at_call 26; refine (c26 _).mono ?_; rintro _ w9 ⟨rfl, b9⟩; have B9 : Hid (Below z w w9) := HB9.out.trans ((((Below.refl _ _).alloc (Nat.le_refl _) _).trans (b9.mono (by simp))).mono HZR.out); clear b9)
        go_ret2
        refine HP.out _ _ (1 + i) _ true ?_ (by simp) rfl B9.out
        rw [HW.out, fb_hit HR.out.2 hlt HRR.out]
        rfl
      · go_wp2_with (go_at_call 26; refine (c26 _).mono ?_; rintro _ w9 ⟨rfl, b9⟩; have B9 : Hid (Below wr.heap.size wr w9) := (((Below.refl _ _).alloc (Nat.le_refl _) _).trans (b9.mono (by simp))); clear b9)
        refine ⟨⟨rfl, i + 1, by omega, by go_num, HR.out.1.trans (B9.out.mono HR.out.1.size), fun j hj => ?_⟩, by simp only [intOf]; omega⟩
        by_cases hji : j = i
        · rw [hji]; exact HRR.out
        · exact HR.out.2 j (by omega)
    · have g0 : ¬ (i : Int) < nf := by omega
      obtain rfl : i = nf := by omega
      have HFn : Hid (fb (badL 64 okFl S.files) i 0 = none) := fb_none HR.out.2
      have c1' := (HR.out.1.cell (p := ⟨z, 1, .none⟩) HZL.out).trans HZ0.out.1.c1
      have c4' := (HR.out.1.cell (p := ⟨z, 4, .none⟩) HZL.out).trans HZ0.out.1.c4
      have w2 : IntKind.i64.wrap (1 + (i : Int)) = 1 + (i : Int) := by rw [IntKind.wrap_i64]; have := HZ.out; omega
      go_upto_region 12 with fail
      clear c1' c4' w2 c1 g0
      go_loopw [2, 47] (fun a k wq => a = .int .i64 (1 + (i : Int)) ∧ ∃ j : Nat, j ≤ nt ∧ k = .int .i64 j ∧ Hid (Below W1.heap.size W1 wq ∧ ∀ m, m < j → badL 4096 fitN S.ticks m = false)) (fun _ k _ => (nt - intOf k).toNat)
      case atStart => exact ⟨rfl, 0, by omega, rfl, HR.out.1, fun j hj => by omega⟩
      case round =>
        obtain ⟨rfl, j, hj, rfl, HQ⟩ := hrel
        have w1 : IntKind.i64.wrap ((j : Int) + 1) = (j : Int) + 1 := by rw [IntKind.wrap_i64]; have := HZ.out; omega
        have w2 : IntKind.i64.wrap (1 + (i : Int) + (j : Int)) = 1 + (i : Int) + (j : Int) := by rw [IntKind.wrap_i64]; have := HZ.out; omega
        have HB9 : Hid (Below z w wr) := HZ0.out.2.trans (HQ.out.1.mono (Nat.le_of_lt HZL.out))
        by_cases hlt : j < nt
        · have g0 : (j : Int) < nt := by omega
          obtain ⟨-, b, o, x, cs, rfl, hbX, hx, rfl, hcl, hr⟩ := H.out.1.ts.at hlt
          have hbw : b < z := by have := HZ.out.1; have := H.out.2; omega
          have hbb : b < W1.heap.size := by have := HZL.out; omega
          have q0 := ((HQ.out.1.cell (p := ⟨b, o + j * 1 + 0, .none⟩) hbb).trans (HZ0.out.2.cell (p := ⟨b, o + j * 1 + 0, .none⟩) hbw)).trans (hr 0 _ rfl)
          rw [Nat.add_zero, Nat.mul_one] at q0
          have HX : Hid (S.ticks[j]? = some x) := hx
          clear hr hcl hx hbX hbw hbb
          by_cases h64 : (4096 : Int) ≤ j
          · go_wp2_with fail
            go_ret2
            refine HP.out _ _ (1 + i + j) _ true ?_ (by simp) rfl HB9.out
            rw [HW.out, HFn.out, fb_hit HQ.out.2 hlt (by rw [badL_at HX.out, decide_eq_true (by omega)]; rfl)]
            rfl
          obtain ⟨r, hrr⟩ : ∃ r, r = fitN x := ⟨_, rfl⟩
          have c25 := fun w5 => isNumber_any x w5
          rw [← hrr] at c25
          have HRR : Hid (badL 4096 fitN S.ticks j = !r) := by show _ = _; rw [badL_at HX.out, decide_eq_false (by omega), hrr]; rfl
          clear hrr
          cases r
          · go_wp2_with (go_at_call 25; refine (c25 _).mono ?_; rintro _ w9 ⟨rfl, e9⟩; rw [e9]; clear e9 w9)
            go_ret2
            refine HP.out _ _ (1 + i + j) _ true ?_ (by simp) rfl HB9.out
            rw [HW.out, HFn.out, fb_hit HQ.out.2 hlt HRR.out]
            rfl
          · go_wp2_with (go_at_call 25; refine (c25 _).mono ?_; rintro _ w9 ⟨rfl, e9⟩; rw [e9]; clear e9 w9)
            refine ⟨⟨rfl, j + 1, by omega, by go_num, HQ.out.1, fun m hm => ?_⟩, by simp only [intOf]; omega⟩
            by_cases hji : m = j
            · rw [hji]; exact HRR.out
            · exact HQ.out.2 m (by omega)
        · have g0 : ¬ (j : Int) < nt := by omega
          obtain rfl : j = nt := by omega
          have HTn : Hid (fb (badL 4096 fitN S.ticks) j 0 = none) := fb_none HQ.out.2
          have c4' := (HQ.out.1.cell (p := ⟨z, 4, .none⟩) HZL.out).trans HZ0.out.1.c4
          have c5' := (HQ.out.1.cell (p := ⟨z, 5, .none⟩) HZL.out).trans HZ0.out.1.c5
          go_upto_region 19 with fail
          clear c4' c5' w2 w1 g0 HB9
          go_loopw [2, 71] (fun a k wr => a = .int .i64 (1 + (i : Int) + (j : Int)) ∧ ∃ m : Nat, m ≤ ni ∧ k = .int .i64 m ∧ Hid (Below W1.heap.size W1 wr ∧ ∀ q, q < m → badL 4096 (fun f : Ip => fitN f.tm) S.ins q = false)) (fun _ k _ => (ni - intOf k).toNat)
          case atStart => exact ⟨rfl, 0, by omega, rfl, HQ.out.1, fun j hj => by omega⟩
          case round =>
            obtain ⟨rfl, m, hm, rfl, HR⟩ := hrel
            have w1 : IntKind.i64.wrap ((m : Int) + 1) = (m : Int) + 1 := by rw [IntKind.wrap_i64]; have := HZ.out; omega
            have w2 : IntKind.i64.wrap (1 + (i : Int) + (j : Int) + (m : Int)) = 1 + (i : Int) + (j : Int) + (m : Int) := by rw [IntKind.wrap_i64]; have := HZ.out; omega
            have HB9 : Hid (Below z w wr) := HZ0.out.2.trans (HR.out.1.mono (Nat.le_of_lt HZL.out))
            have HZR : Hid (z ≤ wr.heap.size) := by have := HR.out.1.size; have := HZL.out; show z ≤ _; omega
            by_cases hlt : m < ni
            · have g0 : (m : Int) < ni := by omega
              obtain ⟨-, b, o, x, cs, rfl, hbX, hx, ⟨dv, rfl, hD⟩, hcl, hr⟩ := H.out.1.is.at hlt
              obtain ⟨dp, dc, rfl⟩ := hD.form
              have hbw : b < z := by have := HZ.out.1; have := H.out.2; omega
              have hbb : b < W1.heap.size := by have := HZL.out; omega
              have Q : ∀ j v, (x.l (.slice dp x.data.length dc))[j]? = some v → wr.cell? ⟨b, o + m * 2 + j, .none⟩ = some v := fun j v hj => ((HR.out.1.cell (p := ⟨b, o + m * 2 + j, .none⟩) hbb).trans (HZ0.out.2.cell (p := ⟨b, o + m * 2 + j, .none⟩) hbw)).trans (hr j v hj)
              have q0 := Q 0 _ rfl
              have q1 := Q 1 _ rfl
              rw [Nat.add_zero] at q0
              have HX : Hid (S.ins[m]? = some x) := hx
              clear Q hr hcl hD hx hbX hbw hbb
              go_upto_region 21 with fail
              clear q0 q1
              by_cases h64 : (4096 : Int) ≤ m
              · go_wp2_with fail
                go_ret2
                refine HP.out _ _ (1 + i + j + m) _ true ?_ (by simp) rfl (HB9.out.trans ((Below.refl _ _).alloc HZR.out _))
                rw [HW.out, HFn.out, HTn.out, fb_hit HR.out.2 hlt (by rw [badL_at HX.out, decide_eq_true (by omega)]; rfl)]
                rfl
              obtain ⟨r, hrr⟩ : ∃ r, r = fitN x.tm := ⟨_, rfl⟩
              have c25 := fun w5 => isNumber_any x.tm w5
              rw [← hrr] at c25
              have HRR : Hid (badL 4096 (fun f : Ip => fitN f.tm) S.ins m = !r) := by show _ = _; rw [badL_at HX.out, decide_eq_false (by omega), hrr]; rfl
              clear hrr
              cases r
              · go_wp2_with (go_at_call 25; refine (c25 _).mono ?_; rintro _ w9 ⟨rfl, e9⟩; rw [e9]; clear e9 w9)
                go_ret2
                refine HP.out _ _ (1 + i + j + m) _ true ?_ (by simp) rfl (HB9.out.trans ((Below.refl _ _).alloc HZR.out _))
                rw [HW.out, HFn.out, HTn.out, fb_hit HR.out.2 hlt HRR.out]
                rfl
              · go_wp2_with (go_at_call 25; refine (c25 _).mono ?_; rintro _ w9 ⟨rfl, e9⟩; rw [e9]; clear e9 w9)
                refine ⟨⟨rfl, m + 1, by omega, by go_num, HR.out.1.trans ((Below.refl _ _).alloc HR.out.1.size _), fun q hq => ?_⟩, by simp only [intOf]; omega⟩
                by_cases hji : q = m
                · rw [hji]; exact HRR.out
                · exact HR.out.2 q (by omega)
            · have g0 : ¬ (m : Int) < ni := by omega
              obtain rfl : m = ni := by omega
              clear w1 w2
              go_wp2_with fail
              go_ret2
              refine HP.out _ _ 0 _ false ?_ rfl rfl HB9.out
              rw [HW.out, HFn.out, HTn.out, fb_none HR.out.2]
              rfl
end Go.Proofs.YtjbealefopajcaaDoor
