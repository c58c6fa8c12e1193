import Derived.Test.YtjbealefopajcaaDoorWq
namespace Go.Proofs.YtjbealefopajcaaDoor
open Go Go.RowKit Rg
set_option linter.unusedVariables false
set_option linter.unusedSimpArgs false
set_option maxRecDepth 100000
/-! The law. -/
theorem sc_one {w : World} {base : Nat} {fv tv iv : Value} {FL : List (Fl × Gc)} {ts : List Int} {IL : List (Ip × Gc)} {S : Sc} (h : Owns w base (rowsS fv tv iv FL ts IL)) : ∀ v ∈ scL S fv tv iv, v.oneCell' = true := by
  obtain ⟨p1, c1, e1⟩ := own_form (h.own (rowFl fv FL) (by simp [rowsS]))
  obtain ⟨p2, c2, e2⟩ := own_form (h.own (rowTk tv ts) (by simp [rowsS]))
  obtain ⟨p3, c3, e3⟩ := own_form (h.own (rowIp iv IL) (by simp [rowsS]))
  have e1 : fv = .slice p1 FL.length c1 := e1
  have e2 : tv = .slice p2 ts.length c2 := e2
  have e3 : iv = .slice p3 IL.length c3 := e3
  subst e1
  subst e2
  subst e3
  simp [scL, Value.oneCell']
set_option maxHeartbeats 16000000 in
theorem prints_any {w : World} {X : Nat} {fv tv iv : Value} {S : Sc} (h : ScW w X fv tv iv S) (hX : X ≤ w.heap.size) (hB : ScB S) (hT : TB w) (h3 : 3 ≤ w.heap.size) : Calls Tryd.prog 3 #[.agg (scL S fv tv iv).toArray] w fun e w' => e = .returned (.bool true) ∧ Below w.heap.size w w' := by
  obtain ⟨fp, fc, rfl⟩ := h.fs.form
  obtain ⟨tp, tc, rfl⟩ := h.ts.form
  obtain ⟨ip, ic, rfl⟩ := h.is.form
  obtain ⟨nf, hnf⟩ : ∃ n, n = S.files.length := ⟨_, rfl⟩
  obtain ⟨nt, hnt⟩ : ∃ n, n = S.ticks.length := ⟨_, rfl⟩
  obtain ⟨ni, hni⟩ : ∃ n, n = S.ins.length := ⟨_, rfl⟩
  rw [← hnf, ← hnt, ← hni] at h ⊢
  obtain ⟨W0, hW0⟩ : ∃ W0, W0 = w.alloc (.cells (scL S (.slice fp nf fc) (.slice tp nt tc) (.slice ip ni ic)).toArray 26) := ⟨_, rfl⟩
  obtain ⟨z, hz⟩ : ∃ z, z = w.heap.size := ⟨_, rfl⟩
  have b0 : Below w.heap.size w W0 := by rw [hW0]; exact below1 _ _
  have HB0 : Hid (Bs w z X (.slice fp nf fc) (.slice tp nt tc) (.slice ip ni ic) S W0) := ⟨h.keep (Nat.le_refl _) (b0.mono hX), hT.keep b0, by rw [hz]; exact b0, by rw [hW0, hz]; simp, by rw [hW0, hz]; exact new_heap _ _, by omega, by omega⟩
  have HSB : Hid (ScB S ∧ nf = S.files.length) := ⟨hB, hnf⟩
  have HZZ : Hid (z = w.heap.size ∧ W0 = w.alloc (.cells (scL S (.slice fp nf fc) (.slice tp nt tc) (.slice ip ni ic)).toArray 26)) := ⟨hz, hW0⟩
  clear h hX hB hT h3 hnf hnt hni hW0 hz b0
  go_enter Tryd.func3, Tryd.ntmps3
  go_upto_region 1 with fail
  rw [← HZZ.out.2, ← HZZ.out.1]
  have c4 := few_any HB0.out.1 (by have := HB0.out.2.2.2; omega) HSB.out.1
  unfold FewP at c4
  have q := scz_of HB0.out.2.2.2.2.1
  have q0 := q.c0
  have q1 := q.c1
  have q2 := q.c2
  have q3 := q.c3
  have q4 := q.c4
  have q5 := q.c5
  clear q
  go_upto_if 13 with (go_at_call 4; refine c4.mono ?_; rintro _ W1 ⟨⟨r, rfl, hfew⟩, b1⟩; have HB1 : Hid (Bs w z X (.slice fp nf fc) (.slice tp nt tc) (.slice ip ni ic) S W1 ∧ (r = true → Few S)) := ⟨HB0.out.keep b1, fun hr => ⟨(hfew hr).1, (hfew hr).2.1, by have := (hfew hr).2.2; unfold fewN at this; omega, (hfew hr).2.2⟩⟩; clear b1 hfew c4 q0 q1 q2 q3 q4 q5)
  cases r with
  | false =>
    go_wp2
    go_ret
    exact ⟨rfl, by rw [← HZZ.out.1]; exact HB1.out.1.2.2.1⟩
  | true =>
    have HF : Hid (Few S) := HB1.out.2 rfl
    have HBa : Hid (Bs w z X (.slice fp nf fc) (.slice tp nt tc) (.slice ip ni ic) S W1) := HB1.out.1
    clear HB1
    have q := scz_of HBa.out.2.2.2.2.1
    have q0 := q.c0
    have q1 := q.c1
    have q2 := q.c2
    have q3 := q.c3
    have q4 := q.c4
    have q5 := q.c5
    clear q
    have c5 := slend_any HBa.out.1 (by have := HBa.out.2.2.2; omega) HF.out
    unfold LdP at c5
    go_upto_region 4 with (first
      | (go_at_call 5; refine c5.mono ?_; rintro _ W2 ⟨fv1, tv1, iv1, FL, IL, rfl, hFL, hIL, hO, b2⟩; have HB2 : Hid (Bs w z X (.slice fp nf fc) (.slice tp nt tc) (.slice ip ni ic) S W2 ∧ Owns W2 W1.heap.size (rowsS fv1 tv1 iv1 FL S.ticks IL) ∧ FL.map (·.1) = S.files ∧ IL.map (·.1) = S.ins ∧ W1.heap.size ≤ W2.heap.size) := ⟨HBa.out.keep b2, hO, hFL, hIL, b2.size⟩; clear b2 hO hFL hIL c5 q0 q1 q2 q3 q4 q5)
      | (refine wpList_is (.alloc 26) rfl ?_; refine wpList_laidG 26 6 104 info26 (scL S fv1 tv1 iv1) rfl (sc_one HB2.out.2.1) 3 (.tmp 15) _ _ rfl rfl rfl rfl rfl rfl rfl rfl ?_; rintro W3 hW3 b3 hs3)
      | fail)
    simp only [x0,x1,x2,x3,x4,x5,x6]
    obtain ⟨cb, hcb⟩ : ∃ cb, cb = W2.heap.size := ⟨_, rfl⟩
    obtain ⟨B1, hB1⟩ : ∃ B1, B1 = W1.heap.size := ⟨_, rfl⟩
    have HB3 : Hid (Bs w z X (.slice fp nf fc) (.slice tp nt tc) (.slice ip ni ic) S W3 ∧ Cs S cb B1 fv1 tv1 iv1 FL IL W3 ∧ FL.map (·.1) = S.files ∧ IL.map (·.1) = S.ins ∧ B1 ≤ cb ∧ z < B1) := ⟨HB2.out.1.keep b3, ⟨by rw [hcb]; exact hW3, by rw [hB1]; exact HB2.out.2.1.keep b3⟩, HB2.out.2.2.1, HB2.out.2.2.2.1, by rw [hB1, hcb]; exact HB2.out.2.2.2.2, by rw [hB1]; exact HBa.out.2.2.2.1⟩
    have HCL0 : Hid (∀ g ∈ blks (rowsS fv1 tv1 iv1 FL S.ticks IL), g < cb) := fun g hg => by rw [hcb]; exact (HB2.out.2.1.lt g hg).2
    rw [← hcb]
    clear hW3 b3 hs3 hcb hB1 HB2
    have HCL : Hid (∀ g ∈ blks (rowsS fv1 tv1 iv1 FL S.ticks IL), g < cb) := HCL0.out
    clear HCL0
    have HSE : Hid ((⟨S.fr, FL.map (·.1), S.init, S.bu, S.ticks, IL.map (·.1)⟩ : Sc) = S) := by show _ = _; rw [HB3.out.2.2.1, HB3.out.2.2.2.1]
    have hsc := scw_lent (fr := S.fr) (bu := S.bu) (init := S.init) HB3.out.2.1.2
    rw [HSE.out] at hsc
    have c6 := print_any hsc (Nat.le_refl _) HSB.out.1 HF.out HB3.out.1.2.1 (by have := HB3.out.1.2.2.2; omega)
    unfold PrP at c6
    obtain ⟨fpc, fcc, efv⟩ := own_form (HB3.out.2.1.2.own (rowFl fv1 FL) (by simp [rowsS]))
    obtain ⟨tpc, tcc, etv⟩ := own_form (HB3.out.2.1.2.own (rowTk tv1 S.ticks) (by simp [rowsS]))
    obtain ⟨ipc, icc, eiv⟩ := own_form (HB3.out.2.1.2.own (rowIp iv1 IL) (by simp [rowsS]))
    have hlF : FL.length = nf := by have h1 := congrArg List.length HB3.out.2.2.1; rw [List.length_map] at h1; have := HSB.out.2; omega
    have efv : fv1 = .slice fpc nf fcc := by rw [← hlF]; exact efv
    clear hlF
    have etv : tv1 = .slice tpc S.ticks.length tcc := etv
    have eiv : iv1 = .slice ipc IL.length icc := eiv
    subst efv
    subst etv
    subst eiv
    clear hsc
    have q := scz_of HB3.out.2.1.1
    have q0 := q.c0
    have q1 := q.c1
    have q2 := q.c2
    have q3 := q.c3
    have q4 := q.c4
    have q5 := q.c5
    clear q
    obtain ⟨tx, htx⟩ : ∃ tx, tx = (prS S).1 := ⟨_, rfl⟩
    obtain ⟨ea, hea⟩ : ∃ ea, ea = (prS S).2.1 := ⟨_, rfl⟩
    obtain ⟨er, her⟩ : ∃ er, er = (prS S).2.2 := ⟨_, rfl⟩
    rw [← htx, ← hea, ← her] at c6
    have HPR : Hid (tx = (prS S).1 ∧ ea = (prS S).2.1 ∧ er = (prS S).2.2) := ⟨htx, hea, her⟩
    clear htx hea her
    go_upto_region 5 with (go_at_call 6; refine c6.mono ?_; rintro _ W4 ⟨ev, rfl, he4, b4⟩; have HB4 : Hid (Bs w z X (.slice fp nf fc) (.slice tp nt tc) (.slice ip ni ic) S W4 ∧ Cs S cb B1 (.slice fpc nf fcc) (.slice tpc S.ticks.length tcc) (.slice ipc IL.length icc) FL IL W4 ∧ ((er ≠ 0 ∧ FaultIn W4 0 ev ea er) ∨ (er = 0 ∧ ev = .nilIface))) := ⟨HB3.out.1.keep b4, HB3.out.2.1.keep b4, he4⟩; clear b4 he4 c6 q0 q1 q2 q3 q4 q5)
    have q := scz_of HB4.out.1.2.2.2.2.1
    have q0 := q.c0
    have q1 := q.c1
    have q2 := q.c2
    have q3 := q.c3
    have q4 := q.c4
    have q5 := q.c5
    clear q
    have c7 := rprint_any HB4.out.1.1 (by have := HB4.out.1.2.2.2; omega) HSB.out.1 HF.out HB4.out.1.2.1
    unfold PrQ at c7
    rw [← HPR.out.1, ← HPR.out.2.1, ← HPR.out.2.2] at c7
    go_upto_region 6 with (go_at_call 7; refine c7.mono ?_; rintro _ W5 ⟨ge, rfl, hr5, b5⟩; obtain ⟨gp, gn, gc, rfl⟩ := hr5.form; have HB5 : Hid (Bs w z X (.slice fp nf fc) (.slice tp nt tc) (.slice ip ni ic) S W5 ∧ Cs S cb B1 (.slice fpc nf fcc) (.slice tpc S.ticks.length tcc) (.slice ipc IL.length icc) FL IL W5 ∧ ((er ≠ 0 ∧ FaultIn W5 0 ev ea er) ∨ (er = 0 ∧ ev = .nilIface)) ∧ RefR W5 (.agg #[.slice gp gn gc, .int .i64 er]) ea er) := ⟨HB4.out.1.keep b5, HB4.out.2.1.keep b5, errs_keep HB4.out.2.2 b5, hr5⟩; clear b5 hr5 c7 q0 q1 q2 q3 q4 q5)
    obtain ⟨W6, hW6⟩ : ∃ W6, W6 = W5.alloc (.cells #[.slice gp gn gc, .int .i64 er] 35) := ⟨_, rfl⟩
    obtain ⟨fb, hfb⟩ : ∃ fb, fb = W5.heap.size := ⟨_, rfl⟩
    have b6 : Below W5.heap.size W5 W6 := by rw [hW6]; exact below1 _ _
    have HB6 : Hid (Bs w z X (.slice fp nf fc) (.slice tp nt tc) (.slice ip ni ic) S W6 ∧ Cs S cb B1 (.slice fpc nf fcc) (.slice tpc S.ticks.length tcc) (.slice ipc IL.length icc) FL IL W6 ∧ ((er ≠ 0 ∧ FaultIn W6 0 ev ea er) ∨ (er = 0 ∧ ev = .nilIface)) ∧ RefR W6 (.agg #[.slice gp gn gc, .int .i64 er]) ea er ∧ W6.heap[fb]? = some (.cells #[.slice gp gn gc, .int .i64 er] 35 (0, 0)) ∧ W5.heap.size = fb ∧ cb < fb) := ⟨HB5.out.1.keep b6, HB5.out.2.1.keep b6, errs_keep HB5.out.2.2.1 b6, RefR.below HB5.out.2.2.2 b6, by rw [hW6, hfb]; exact new_heap _ _, hfb.symm, by rw [hfb]; exact hp_lt HB5.out.2.1.1⟩
    rw [← hW6, ← hfb]
    clear hW6 hfb b6 HB5 HB4
    have e0 : W6.cell? ⟨fb, 0, .none⟩ = some (.slice gp gn gc) := cell_heap HB6.out.2.2.2.2.1
    have e1 : W6.cell? ⟨fb, 1, .none⟩ = some (.int .i64 er) := cell_heap HB6.out.2.2.2.2.1
    have c8 := isR_any ev (.agg #[.slice gp gn gc, .int .i64 er]) ea er W6 HB6.out.2.2.1 HB6.out.2.2.2.1
    go_upto_region 8 with (first
      | (go_at_call 8; refine c8.mono ?_; rintro _ W7 ⟨rfl, b7⟩; have HB7 : Hid (Bs w z X (.slice fp nf fc) (.slice tp nt tc) (.slice ip ni ic) S W7 ∧ Cs S cb B1 (.slice fpc nf fcc) (.slice tpc S.ticks.length tcc) (.slice ipc IL.length icc) FL IL W7 ∧ W7.heap[fb]? = some (.cells #[.slice gp gn gc, .int .i64 er] 35 (0, 0)) ∧ fb < W7.heap.size) := ⟨HB6.out.1.keep b7, HB6.out.2.1.keep b7, (b7.block fb (hp_lt HB6.out.2.2.2.2.1)).trans HB6.out.2.2.2.2.1, Nat.lt_of_lt_of_le (hp_lt HB6.out.2.2.2.2.1) b7.size⟩; clear b7 c8 e0 e1; have c9 := skept_any HB7.out.2.1.2 HB3.out.2.2.1 HB3.out.2.2.2.1 HB7.out.1.1 (by have := HB7.out.1.2.2.2; omega) HF.out; have q := scz_of HB7.out.2.1.1; have q0 := q.c0; have q1 := q.c1; have q2 := q.c2; have q3 := q.c3; have q4 := q.c4; have q5 := q.c5; clear q; have q := scz_of HB7.out.1.2.2.2.2.1; have p0 := q.c0; have p1 := q.c1; have p2 := q.c2; have p3 := q.c3; have p4 := q.c4; have p5 := q.c5; clear q)
      | (go_at_call 9; refine c9.mono ?_; rintro _ W8 ⟨rfl, b8⟩; have HB8 : Hid (Bs w z X (.slice fp nf fc) (.slice tp nt tc) (.slice ip ni ic) S W8 ∧ Cs S cb B1 (.slice fpc nf fcc) (.slice tpc S.ticks.length tcc) (.slice ipc IL.length icc) FL IL W8 ∧ W8.heap[fb]? = some (.cells #[.slice gp gn gc, .int .i64 er] 35 (0, 0))) := ⟨HB7.out.1.keep b8, HB7.out.2.1.keep b8, (b8.block fb HB7.out.2.2.2).trans HB7.out.2.2.1⟩; clear b8 c9 q0 p0 q1 p1 q2 p2 q3 p3 q4 p4 q5 p5))
    have q := scz_of HB8.out.1.2.2.2.2.1
    have q0 := q.c0
    have q1 := q.c1
    have q2 := q.c2
    have q3 := q.c3
    have q4 := q.c4
    have q5 := q.c5
    clear q
    have c5 := slend_any HB8.out.1.1 (by have := HB8.out.1.2.2.2; omega) HF.out
    unfold LdP at c5
    go_upto_region 9 with (first
      | (go_at_call 5; refine c5.mono ?_; rintro _ W9 ⟨fv2, tv2, iv2, GL, JL, rfl, hGL, hJL, hO, b2⟩; have HB9 : Hid (Bs w z X (.slice fp nf fc) (.slice tp nt tc) (.slice ip ni ic) S W9 ∧ Cs S cb B1 (.slice fpc nf fcc) (.slice tpc S.ticks.length tcc) (.slice ipc IL.length icc) FL IL W9 ∧ W9.heap[fb]? = some (.cells #[.slice gp gn gc, .int .i64 er] 35 (0, 0)) ∧ Owns W9 W8.heap.size (rowsS fv2 tv2 iv2 GL S.ticks JL) ∧ GL.map (·.1) = S.files ∧ JL.map (·.1) = S.ins ∧ W8.heap.size ≤ W9.heap.size) := ⟨HB8.out.1.keep b2, HB8.out.2.1.keep b2, (b2.block fb (hp_lt HB8.out.2.2)).trans HB8.out.2.2, hO, hGL, hJL, b2.size⟩; clear b2 hO hGL hJL c5 q0 q1 q2 q3 q4 q5)
      | (refine wpList_is (.alloc 26) rfl ?_; refine wpList_laidG 26 6 104 info26 (scL S fv2 tv2 iv2) rfl (sc_one HB9.out.2.2.2.1) 8 (.tmp 42) _ _ rfl rfl rfl rfl rfl rfl rfl rfl ?_; rintro W10 hW10 b10 hs10)
      | fail)
    simp only [x0,x1,x2,x3,x4,x5,x6]
    obtain ⟨db, hdb⟩ : ∃ db, db = W9.heap.size := ⟨_, rfl⟩
    obtain ⟨B2, hB2⟩ : ∃ B2, B2 = W8.heap.size := ⟨_, rfl⟩
    have HB10 : Hid (Bs w z X (.slice fp nf fc) (.slice tp nt tc) (.slice ip ni ic) S W10 ∧ Cs S cb B1 (.slice fpc nf fcc) (.slice tpc S.ticks.length tcc) (.slice ipc IL.length icc) FL IL W10 ∧ W10.heap[fb]? = some (.cells #[.slice gp gn gc, .int .i64 er] 35 (0, 0)) ∧ Cs S db B2 fv2 tv2 iv2 GL JL W10) := ⟨HB9.out.1.keep b10, HB9.out.2.1.keep b10, (b10.block fb (hp_lt HB9.out.2.2.1)).trans HB9.out.2.2.1, by rw [hdb]; exact hW10, by rw [hB2]; exact HB9.out.2.2.2.1.keep b10⟩
    have HPL : Hid (fb < B2 ∧ B2 ≤ db ∧ cb < fb ∧ B1 ≤ cb ∧ z < B1 ∧ GL.map (·.1) = S.files ∧ JL.map (·.1) = S.ins ∧ FL.map (·.1) = S.files ∧ (∀ g ∈ blks (rowsS (.slice fpc nf fcc) (.slice tpc S.ticks.length tcc) (.slice ipc IL.length icc) FL S.ticks IL), g < cb) ∧ (∀ g ∈ blks (rowsS fv2 tv2 iv2 GL S.ticks JL), g < db)) := ⟨by rw [hB2]; exact hp_lt HB8.out.2.2, by rw [hB2, hdb]; exact HB9.out.2.2.2.2.2.2, HB6.out.2.2.2.2.2.2, HB3.out.2.2.2.2.1, HB3.out.2.2.2.2.2, HB9.out.2.2.2.2.1, HB9.out.2.2.2.2.2.1, HB3.out.2.2.1, HCL.out, fun g hg => by rw [hdb]; exact (HB9.out.2.2.2.1.lt g hg).2⟩
    have HIL0 : Hid (IL.map (·.1) = S.ins) := HB3.out.2.2.2.1
    rw [← hdb]
    clear hW10 b10 hs10 hdb hB2 HB9 HB8 HB7 HB6 HB3 HBa HB0
    obtain ⟨fpd, fcd, efv⟩ := own_form (HB10.out.2.2.2.2.own (rowFl fv2 GL) (by simp [rowsS]))
    obtain ⟨tpd, tcd, etv⟩ := own_form (HB10.out.2.2.2.2.own (rowTk tv2 S.ticks) (by simp [rowsS]))
    obtain ⟨ipd, icd, eiv⟩ := own_form (HB10.out.2.2.2.2.own (rowIp iv2 JL) (by simp [rowsS]))
    have hlF : GL.length = nf := by have h1 := congrArg List.length HPL.out.2.2.2.2.2.1; rw [List.length_map] at h1; have := HSB.out.2; omega
    have efv : fv2 = .slice fpd nf fcd := by rw [← hlF]; exact efv
    clear hlF
    have etv : tv2 = .slice tpd S.ticks.length tcd := etv
    have eiv : iv2 = .slice ipd JL.length icd := eiv
    subst efv
    subst etv
    subst eiv
    have HX0 : Hid (Xi w z X (.slice fp nf fc) (.slice tp nt tc) (.slice ip ni ic) S cb B1 (.slice fpc nf fcc) (.slice tpc S.ticks.length tcc) (.slice ipc IL.length icc) FL IL fb (.cells #[.slice gp gn gc, .int .i64 er] 35 (0, 0)) db B2 (.slice fpd nf fcd) (.slice tpd S.ticks.length tcd) (.slice ipd JL.length icd) GL JL 0 0 0 0 W10) := ⟨HB10.out.1, by rw [xFL_zero]; exact HB10.out.2.1, HB10.out.2.2.1, by rw [xFL_zero]; exact HB10.out.2.2.2, HPL.out.2.2.2.2.2.2.2.2.1, HPL.out.2.2.2.2.2.2.2.2.2, HPL.out.2.2.2.2.1, HPL.out.2.2.2.1, HPL.out.2.2.1, HPL.out.1, HPL.out.2.1⟩
    have HL : Hid (FL.length = nf ∧ GL.length = nf ∧ FL.map (·.1) = S.files ∧ GL.map (·.1) = S.files ∧ IL.map (·.1) = S.ins ∧ JL.map (·.1) = S.ins ∧ nf ≤ 5000) := by
      have h1 := congrArg List.length HPL.out.2.2.2.2.2.2.2.1
      have h2 := congrArg List.length HPL.out.2.2.2.2.2.1
      rw [List.length_map] at h1 h2
      have h3 := HSB.out.2
      have h4 := HF.out.nf
      exact ⟨by omega, by omega, HPL.out.2.2.2.2.2.2.2.1, HPL.out.2.2.2.2.2.1, HIL0.out, HPL.out.2.2.2.2.2.2.1, by omega⟩
    clear HB10 HPL HIL0
    go_wp2_with fail
    go_loopw [9, 10] (fun a _ wr => ∃ i : Nat, i ≤ nf ∧ a = .int .i64 i ∧ Hid (Xi w z X (.slice fp nf fc) (.slice tp nt tc) (.slice ip ni ic) S cb B1 (.slice fpc nf fcc) (.slice tpc S.ticks.length tcc) (.slice ipc IL.length icc) FL IL fb (.cells #[.slice gp gn gc, .int .i64 er] 35 (0, 0)) db B2 (.slice fpd nf fcd) (.slice tpd S.ticks.length tcd) (.slice ipd JL.length icd) GL JL i 0 i 0 wr)) (fun a _ _ => (nf - intOf a).toNat)
    case atStart => exact ⟨0, by omega, rfl, HX0.out⟩
    case round =>
      obtain ⟨i, hi, rfl, HR⟩ := hrel
      have w1 : IntKind.i64.wrap ((i : Int) + 1) = (i : Int) + 1 := by rw [IntKind.wrap_i64]; have := HL.out; omega
      have a1 := (scz_of HR.out.c.1).c1
      by_cases hlt : i < nf
      · have g0 : (i : Int) < nf := by omega
        obtain ⟨⟨f, ⟨g, c⟩⟩, hx⟩ : ∃ y, FL[i]? = some y := ⟨_, List.getElem?_eq_getElem (by have := HL.out; omega)⟩
        obtain ⟨⟨f', ⟨g', c'⟩⟩, hx'⟩ : ∃ y, GL[i]? = some y := ⟨_, List.getElem?_eq_getElem (by have := HL.out; omega)⟩
        have hff : f = f' := by
          have h1 := congrArg (fun l => l[i]?) HL.out.2.2.1
          have h2 := congrArg (fun l => l[i]?) HL.out.2.2.2.1
          simp only [List.getElem?_map, hx, hx', Option.map_some] at h1 h2
          exact Option.some.inj (h1.trans h2.symm)
        subst hff
        obtain ⟨n, hn⟩ : ∃ n, n = f.data.length := ⟨_, rfl⟩
        have hfm : f ∈ S.files := by rw [← HL.out.2.2.1]; exact List.mem_map_of_mem (f := fun x : Fl × Gc => x.1) (List.mem_of_getElem? hx)
        have hsm := sumN_mem (List.mem_map_of_mem (f := fSz) hfm)
        have hfs : fSz f = f.path.size + f.data.length := rfl
        have HE : Hid (FL[i]? = some (f, (g, c)) ∧ GL[i]? = some (f, (g', c')) ∧ n = f.data.length ∧ n ≤ 1100000) := ⟨hx, hx', hn, by have h1 := HF.out.sz; unfold fewN at h1; omega⟩
        clear hx hx' hn hfm hsm hfs
        go_wp2_with fail
        go_loopw [10] (fun a wr => ∃ k : Nat, k ≤ n ∧ a = .int .i64 k ∧ Hid (Xi w z X (.slice fp nf fc) (.slice tp nt tc) (.slice ip ni ic) S cb B1 (.slice fpc nf fcc) (.slice tpc S.ticks.length tcc) (.slice ipc IL.length icc) FL IL fb (.cells #[.slice gp gn gc, .int .i64 er] 35 (0, 0)) db B2 (.slice fpd nf fcd) (.slice tpd S.ticks.length tcd) (.slice ipd JL.length icd) GL JL i k i k wr)) (fun a _ => (n - intOf a).toNat)
        case atStart => exact ⟨0, by omega, rfl, HR.out⟩
        case round =>
          obtain ⟨k, hk, rfl, HQ⟩ := hrel
          have w2 : IntKind.i64.wrap ((k : Int) + 1) = (k : Int) + 1 := by rw [IntKind.wrap_i64]; have := HE.out; omega
          have a1 := (scz_of HQ.out.c.1).c1
          by_cases hlk : k < n
          · have g1 : (k : Int) < n := by omega
            obtain ⟨y, hy⟩ : ∃ y, f.data[k]? = some y := ⟨_, List.getElem?_eq_getElem (by have := HE.out; omega)⟩
            obtain ⟨b, hR1⟩ := HQ.out.c.read HL.out.1 HE.out.1 hy
            have HRc : Hid (Rdc b i k nf fcc cb fpc f g c y wr ∧ f.data[k]? = some y) := ⟨hR1, hy⟩
            obtain ⟨rfl, r1, r2, r3, r4⟩ := hR1
            rw [← HE.out.2.2.1] at r2
            clear hy
            go_upto_region 15 with fail
            clear a1
            have hSd : wr.drew.cell? ⟨cb, 1, .none⟩ = some (.slice (some ⟨b, 0, .none⟩) nf fcc) ∧ wr.drew.cell? ⟨b, i * 5 + 4, .none⟩ = some (.slice (some ⟨g, 0, .none⟩) n c) ∧ wr.drew.cell? ⟨g, k, .none⟩ = some (.int .u8 y) := ⟨r1, r2, r3⟩
            have r5 : wr.drew.frozen? ⟨g, k, .none⟩ = false := r4
            have r6 : wr.drew.cell? ⟨g, k, .none⟩ = some (.int .u8 y) := r3
            refine region_set (fun U => U.cell? ⟨cb, 1, .none⟩ = some (.slice (some ⟨b, 0, .none⟩) nf fcc) ∧ U.cell? ⟨b, i * 5 + 4, .none⟩ = some (.slice (some ⟨g, 0, .none⟩) n c) ∧ U.cell? ⟨g, k, .none⟩ = some (.int .u8 y)) 18 [] (by kernel_rfl) ?_
            refine sT 0 (.pointer (some ⟨cb, 1, .none⟩)) rfl ?_ (fun ww hSw => by go_simp) (hS := hSd)
            simp only [x0,x1,x2,x3,x4,x5,x6]
            refine sT 1 (.slice (some ⟨b, 0, .none⟩) nf fcc) rfl ?_ (fun ww hSw => by obtain ⟨c1, c2, c3⟩ := hSw; go_simp) (hS := hSd)
            simp only [x0,x1,x2,x3,x4,x5,x6]
            refine sT 2 (.int .i64 i) rfl ?_ (fun ww hSw => by go_simp) (hS := hSd)
            simp only [x0,x1,x2,x3,x4,x5,x6]
            refine sT 3 (.pointer (some ⟨b, i * 5, .none⟩)) rfl ?_ (fun ww hSw => by go_simp) (hS := hSd)
            simp only [x0,x1,x2,x3,x4,x5,x6]
            refine sT 4 (.pointer (some ⟨b, i * 5 + 4, .none⟩)) rfl ?_ (fun ww hSw => by go_simp) (hS := hSd)
            simp only [x0,x1,x2,x3,x4,x5,x6]
            refine sT 5 (.slice (some ⟨g, 0, .none⟩) n c) rfl ?_ (fun ww hSw => by obtain ⟨c1, c2, c3⟩ := hSw; go_simp) (hS := hSd)
            simp only [x0,x1,x2,x3,x4,x5,x6]
            refine sT 6 (.int .i64 k) rfl ?_ (fun ww hSw => by go_simp) (hS := hSd)
            simp only [x0,x1,x2,x3,x4,x5,x6]
            refine sT 7 (.pointer (some ⟨cb, 1, .none⟩)) rfl ?_ (fun ww hSw => by go_simp) (hS := hSd)
            simp only [x0,x1,x2,x3,x4,x5,x6]
            refine sT 8 (.slice (some ⟨b, 0, .none⟩) nf fcc) rfl ?_ (fun ww hSw => by obtain ⟨c1, c2, c3⟩ := hSw; go_simp) (hS := hSd)
            simp only [x0,x1,x2,x3,x4,x5,x6]
            refine sT 9 (.int .i64 i) rfl ?_ (fun ww hSw => by go_simp) (hS := hSd)
            simp only [x0,x1,x2,x3,x4,x5,x6]
            refine sT 10 (.pointer (some ⟨b, i * 5, .none⟩)) rfl ?_ (fun ww hSw => by go_simp) (hS := hSd)
            simp only [x0,x1,x2,x3,x4,x5,x6]
            refine sT 11 (.pointer (some ⟨b, i * 5 + 4, .none⟩)) rfl ?_ (fun ww hSw => by go_simp) (hS := hSd)
            simp only [x0,x1,x2,x3,x4,x5,x6]
            refine sT 12 (.slice (some ⟨g, 0, .none⟩) n c) rfl ?_ (fun ww hSw => by obtain ⟨c1, c2, c3⟩ := hSw; go_simp) (hS := hSd)
            simp only [x0,x1,x2,x3,x4,x5,x6]
            refine sT 13 (.int .i64 k) rfl ?_ (fun ww hSw => by go_simp) (hS := hSd)
            simp only [x0,x1,x2,x3,x4,x5,x6]
            refine sT 14 (.pointer (some ⟨g, k, .none⟩)) rfl ?_ (fun ww hSw => by go_simp) (hS := hSd)
            simp only [x0,x1,x2,x3,x4,x5,x6]
            refine sT 15 (.int .u8 y) rfl ?_ (fun ww hSw => by obtain ⟨c1, c2, c3⟩ := hSw; go_simp) (hS := hSd)
            simp only [x0,x1,x2,x3,x4,x5,x6]
            refine sT 16 (.int .u8 (xr y)) rfl ?_ (fun ww hSw => by go_simp; rfl) (hS := hSd)
            simp only [x0,x1,x2,x3,x4,x5,x6]
            refine sT 17 (.pointer (some ⟨g, k, .none⟩)) rfl ?_ (fun ww hSw => by go_simp) (hS := hSd)
            simp only [x0,x1,x2,x3,x4,x5,x6]
            refine set_only (i := 18) (by kernel_rfl) rfl (by rfl) (fun K hK => ?_)
            go_simp
            refine hK.out _ _ (fun h => by simp at h) ?_
            clear hK K hSd r5 r6
            try simp only [x0,x1,x2,x3,x4,x5,x6]
            refine set_tail 0 19 _ _ _ _ (by kernel_rfl) (by decide) ?_
            simp only [List.toList_toArray, List.drop_succ_cons, List.drop_zero]
            clear r1 r2 r3 r4
            have hX1 := (HQ.out.setc HE.out.1 HRc.out.2).drew
            generalize (wr.setCell ⟨g, k, .none⟩ (.int .u8 (xr y))).drew = W1 at hX1 ⊢
            have HX1 := (show Hid _ from hX1)
            clear hX1
            obtain ⟨b', hR2⟩ := HX1.out.d.read HL.out.2.1 HE.out.2.1 HRc.out.2
            obtain ⟨rfl, r1, r2, r3, r4⟩ := hR2
            rw [← HE.out.2.2.1] at r2
            go_upto_region 16 with fail
            have hSd : W1.drew.cell? ⟨db, 1, .none⟩ = some (.slice (some ⟨b', 0, .none⟩) nf fcd) ∧ W1.drew.cell? ⟨b', i * 5 + 4, .none⟩ = some (.slice (some ⟨g', 0, .none⟩) n c') ∧ W1.drew.cell? ⟨g', k, .none⟩ = some (.int .u8 y) := ⟨r1, r2, r3⟩
            have r5 : W1.drew.frozen? ⟨g', k, .none⟩ = false := r4
            have r6 : W1.drew.cell? ⟨g', k, .none⟩ = some (.int .u8 y) := r3
            refine region_set (fun U => U.cell? ⟨db, 1, .none⟩ = some (.slice (some ⟨b', 0, .none⟩) nf fcd) ∧ U.cell? ⟨b', i * 5 + 4, .none⟩ = some (.slice (some ⟨g', 0, .none⟩) n c') ∧ U.cell? ⟨g', k, .none⟩ = some (.int .u8 y)) 18 [] (by kernel_rfl) ?_
            refine sT 0 (.pointer (some ⟨db, 1, .none⟩)) rfl ?_ (fun ww hSw => by go_simp) (hS := hSd)
            simp only [x0,x1,x2,x3,x4,x5,x6]
            refine sT 1 (.slice (some ⟨b', 0, .none⟩) nf fcd) rfl ?_ (fun ww hSw => by obtain ⟨c1, c2, c3⟩ := hSw; go_simp) (hS := hSd)
            simp only [x0,x1,x2,x3,x4,x5,x6]
            refine sT 2 (.int .i64 i) rfl ?_ (fun ww hSw => by go_simp) (hS := hSd)
            simp only [x0,x1,x2,x3,x4,x5,x6]
            refine sT 3 (.pointer (some ⟨b', i * 5, .none⟩)) rfl ?_ (fun ww hSw => by go_simp) (hS := hSd)
            simp only [x0,x1,x2,x3,x4,x5,x6]
            refine sT 4 (.pointer (some ⟨b', i * 5 + 4, .none⟩)) rfl ?_ (fun ww hSw => by go_simp) (hS := hSd)
            simp only [x0,x1,x2,x3,x4,x5,x6]
            refine sT 5 (.slice (some ⟨g', 0, .none⟩) n c') rfl ?_ (fun ww hSw => by obtain ⟨c1, c2, c3⟩ := hSw; go_simp) (hS := hSd)
            simp only [x0,x1,x2,x3,x4,x5,x6]
            refine sT 6 (.int .i64 k) rfl ?_ (fun ww hSw => by go_simp) (hS := hSd)
            simp only [x0,x1,x2,x3,x4,x5,x6]
            refine sT 7 (.pointer (some ⟨db, 1, .none⟩)) rfl ?_ (fun ww hSw => by go_simp) (hS := hSd)
            simp only [x0,x1,x2,x3,x4,x5,x6]
            refine sT 8 (.slice (some ⟨b', 0, .none⟩) nf fcd) rfl ?_ (fun ww hSw => by obtain ⟨c1, c2, c3⟩ := hSw; go_simp) (hS := hSd)
            simp only [x0,x1,x2,x3,x4,x5,x6]
            refine sT 9 (.int .i64 i) rfl ?_ (fun ww hSw => by go_simp) (hS := hSd)
            simp only [x0,x1,x2,x3,x4,x5,x6]
            refine sT 10 (.pointer (some ⟨b', i * 5, .none⟩)) rfl ?_ (fun ww hSw => by go_simp) (hS := hSd)
            simp only [x0,x1,x2,x3,x4,x5,x6]
            refine sT 11 (.pointer (some ⟨b', i * 5 + 4, .none⟩)) rfl ?_ (fun ww hSw => by go_simp) (hS := hSd)
            simp only [x0,x1,x2,x3,x4,x5,x6]
            refine sT 12 (.slice (some ⟨g', 0, .none⟩) n c') rfl ?_ (fun ww hSw => by obtain ⟨c1, c2, c3⟩ := hSw; go_simp) (hS := hSd)
            simp only [x0,x1,x2,x3,x4,x5,x6]
            refine sT 13 (.int .i64 k) rfl ?_ (fun ww hSw => by go_simp) (hS := hSd)
            simp only [x0,x1,x2,x3,x4,x5,x6]
            refine sT 14 (.pointer (some ⟨g', k, .none⟩)) rfl ?_ (fun ww hSw => by go_simp) (hS := hSd)
            simp only [x0,x1,x2,x3,x4,x5,x6]
            refine sT 15 (.int .u8 y) rfl ?_ (fun ww hSw => by obtain ⟨c1, c2, c3⟩ := hSw; go_simp) (hS := hSd)
            simp only [x0,x1,x2,x3,x4,x5,x6]
            refine sT 16 (.int .u8 (xr y)) rfl ?_ (fun ww hSw => by go_simp; rfl) (hS := hSd)
            simp only [x0,x1,x2,x3,x4,x5,x6]
            refine sT 17 (.pointer (some ⟨g', k, .none⟩)) rfl ?_ (fun ww hSw => by go_simp) (hS := hSd)
            simp only [x0,x1,x2,x3,x4,x5,x6]
            refine set_only (i := 18) (by kernel_rfl) rfl (by rfl) (fun K hK => ?_)
            go_simp
            refine hK.out _ _ (fun h => by simp at h) ?_
            clear hK K hSd r5 r6
            try simp only [x0,x1,x2,x3,x4,x5,x6]
            refine set_tail 0 19 _ _ _ _ (by kernel_rfl) (by decide) ?_
            simp only [List.toList_toArray, List.drop_succ_cons, List.drop_zero]
            clear r1 r2 r3 r4
            have hX2 := (HX1.out.setd HE.out.2.1 HRc.out.2).drew
            generalize (W1.setCell ⟨g', k, .none⟩ (.int .u8 (xr y))).drew = W2 at hX2 ⊢
            have HX2 := (show Hid _ from hX2)
            clear hX2
            go_wp2_with fail
            exact ⟨⟨k + 1, by omega, by go_num, HX2.out⟩, by simp only [intOf]; omega⟩
          · have g1 : ¬ (k : Int) < n := by omega
            obtain rfl : k = n := by omega
            have HXn := (show Hid _ from HQ.out.next HE.out.1 HE.out.2.1 HE.out.2.2.1)
            obtain ⟨b, rfl, r1, r2⟩ := HQ.out.c.len HL.out.1 HE.out.1
            rw [← HE.out.2.2.1] at r2
            clear w2
            go_wp2_with fail
            exact ⟨⟨i + 1, by omega, by go_num, HXn.out⟩, by simp only [intOf]; omega⟩
      · have g0 : ¬ (i : Int) < nf := by omega
        obtain rfl : i = nf := by omega
        obtain ⟨S2, hS2⟩ : ∃ S2 : Sc, S2 = ⟨S.fr, S.files.map (fun f => xF f.data.length f), S.init, S.bu, S.ticks, S.ins⟩ := ⟨_, rfl⟩
        have hB2 : ScB S2 := by rw [hS2]; exact scb_x HSB.out.1
        have hF2 : Few S2 := by rw [hS2]; exact few_x HF.out
        have hscC := scw_lent (fr := S.fr) (bu := S.bu) (init := S.init) HR.out.c.2
        have hscD := scw_lent (fr := S.fr) (bu := S.bu) (init := S.init) HR.out.d.2
        rw [show xFL i 0 FL = xFL FL.length 0 FL by rw [HL.out.1], xFL_full, HL.out.2.2.1, HL.out.2.2.2.2.1, ← hS2] at hscC
        rw [show xFL i 0 GL = xFL GL.length 0 GL by rw [HL.out.2.1], xFL_full, HL.out.2.2.2.1, HL.out.2.2.2.2.2.1, ← hS2] at hscD
        have HBX : Hid (wr.heap[cb]? = some (.cells (scL S (.slice fpc i fcc) (.slice tpc S.ticks.length tcc) (.slice ipc IL.length icc)).toArray 26 (0, 0)) ∧ wr.heap[db]? = some (.cells (scL S (.slice fpd i fcd) (.slice tpd S.ticks.length tcd) (.slice ipd JL.length icd)).toArray 26 (0, 0)) ∧ wr.heap[fb]? = some (.cells #[.slice gp gn gc, .int .i64 er] 35 (0, 0)) ∧ ScW wr wr.heap.size (.slice fpd i fcd) (.slice tpd S.ticks.length tcd) (.slice ipd JL.length icd) S2 ∧ TB wr ∧ Below z w wr ∧ z < wr.heap.size ∧ 3 ≤ wr.heap.size) := ⟨HR.out.c.1, HR.out.d.1, HR.out.f, hscD, HR.out.bs.2.1, HR.out.bs.2.2.1, HR.out.bs.2.2.2.1, by have := HR.out.bs.2.2.2; omega⟩
        have HS2 : Hid (ScB S2 ∧ Few S2 ∧ z < fb ∧ S2.fr = S.fr ∧ S2.init = S.init ∧ S2.bu = S.bu) := ⟨hB2, hF2, by have := HR.out.o; omega, by rw [hS2], by rw [hS2], by rw [hS2]⟩
        have c6 := print_any hscC (Nat.le_refl _) hB2 hF2 HBX.out.2.2.2.2.1 HBX.out.2.2.2.2.2.2.2
        unfold PrP at c6
        obtain ⟨tx2, htx⟩ : ∃ tx, tx = (prS S2).1 := ⟨_, rfl⟩
        obtain ⟨ea2, hea⟩ : ∃ ea, ea = (prS S2).2.1 := ⟨_, rfl⟩
        obtain ⟨er2, her⟩ : ∃ er, er = (prS S2).2.2 := ⟨_, rfl⟩
        rw [← htx, ← hea, ← her] at c6
        have HPR2 : Hid (tx2 = (prS S2).1 ∧ ea2 = (prS S2).2.1 ∧ er2 = (prS S2).2.2) := ⟨htx, hea, her⟩
        have ef : scL S2 (.slice fpc i fcc) (.slice tpc S.ticks.length tcc) (.slice ipc IL.length icc) = scL S (.slice fpc i fcc) (.slice tpc S.ticks.length tcc) (.slice ipc IL.length icc) := by rw [hS2]; rfl
        rw [ef] at c6
        clear htx hea her hscC hscD hB2 hF2 hS2 HPR ef HX0 w1 HR
        have a1 := (scz_of HBX.out.1).c1
        have q := scz_of HBX.out.1
        have q0 := q.c0
        have q1 := q.c1
        have q2 := q.c2
        have q3 := q.c3
        have q4 := q.c4
        have q5 := q.c5
        clear q
        go_upto_region 18 with (go_at_call 6; refine c6.mono ?_; rintro _ W11 ⟨ev2, rfl, he, b⟩; have HB11 : Hid (ScW W11 W11.heap.size (.slice fpd i fcd) (.slice tpd S.ticks.length tcd) (.slice ipd JL.length icd) S2 ∧ TB W11 ∧ Below z w W11 ∧ z < W11.heap.size ∧ W11.heap[db]? = some (.cells (scL S (.slice fpd i fcd) (.slice tpd S.ticks.length tcd) (.slice ipd JL.length icd)).toArray 26 (0, 0)) ∧ W11.heap[fb]? = some (.cells #[.slice gp gn gc, .int .i64 er] 35 (0, 0)) ∧ ((er2 ≠ 0 ∧ FaultIn W11 0 ev2 ea2 er2) ∨ (er2 = 0 ∧ ev2 = .nilIface))) := ⟨HBX.out.2.2.2.1.keep b.size b, HBX.out.2.2.2.2.1.keep b, HBX.out.2.2.2.2.2.1.trans (b.mono (Nat.le_of_lt HBX.out.2.2.2.2.2.2.1)), Nat.lt_of_lt_of_le HBX.out.2.2.2.2.2.2.1 b.size, (b.block db (hp_lt HBX.out.2.1)).trans HBX.out.2.1, (b.block fb (hp_lt HBX.out.2.2.1)).trans HBX.out.2.2.1, he⟩; clear b he c6 a1 q0 q1 q2 q3 q4 q5)
        have c7 := rprint_any HB11.out.1 (Nat.le_refl _) HS2.out.1 HS2.out.2.1 HB11.out.2.1
        have ef : scL S2 (.slice fpd i fcd) (.slice tpd S.ticks.length tcd) (.slice ipd JL.length icd) = scL S (.slice fpd i fcd) (.slice tpd S.ticks.length tcd) (.slice ipd JL.length icd) := by unfold scL; rw [HS2.out.2.2.2.1, HS2.out.2.2.2.2.1, HS2.out.2.2.2.2.2]
        unfold PrQ at c7
        rw [← HPR2.out.1, ← HPR2.out.2.1, ← HPR2.out.2.2, ef] at c7
        clear ef
        have q := scz_of HB11.out.2.2.2.2.1
        have q0 := q.c0
        have q1 := q.c1
        have q2 := q.c2
        have q3 := q.c3
        have q4 := q.c4
        have q5 := q.c5
        clear q
        go_upto_region 19 with (go_at_call 7; refine c7.mono ?_; rintro _ W12 ⟨ge2, rfl, hr5, b5⟩; obtain ⟨gp2, gn2, gc2, rfl⟩ := hr5.form; have HB12 : Hid (Below z w W12 ∧ W12.heap[fb]? = some (.cells #[.slice gp gn gc, .int .i64 er] 35 (0, 0)) ∧ ((er2 ≠ 0 ∧ FaultIn W12 0 ev2 ea2 er2) ∨ (er2 = 0 ∧ ev2 = .nilIface)) ∧ RefR W12 (.agg #[.slice gp2 gn2 gc2, .int .i64 er2]) ea2 er2) := ⟨HB11.out.2.2.1.trans (b5.mono (Nat.le_of_lt HB11.out.2.2.2.1)), (b5.block fb (hp_lt HB11.out.2.2.2.2.2.1)).trans HB11.out.2.2.2.2.2.1, errs_keep HB11.out.2.2.2.2.2.2 b5, hr5⟩; clear b5 hr5 c7 q0 q1 q2 q3 q4 q5; have e0 : W12.cell? ⟨fb, 0, .none⟩ = some (.slice gp gn gc) := cell_heap HB12.out.2.1; have e1 : W12.cell? ⟨fb, 1, .none⟩ = some (.int .i64 er) := cell_heap HB12.out.2.1; have f0 := frozen_heap (o := 0) HB12.out.2.1; have f1 := frozen_heap (o := 1) HB12.out.2.1)
        obtain ⟨W13, hW13⟩ : ∃ W13, W13 = (W12.setCell ⟨fb, 0, .none⟩ (.slice gp2 gn2 gc2)).setCell ⟨fb, 1, .none⟩ (.int .i64 er2) := ⟨_, rfl⟩
        have g0' : (W12.setCell ⟨fb, 0, .none⟩ (.slice gp2 gn2 gc2)).cell? ⟨fb, 0, .none⟩ = some (.slice gp2 gn2 gc2) := World.cell?_setCell_same _ _ _ e0
        have h13 : W13.heap[fb]? = some (.cells #[.slice gp2 gn2 gc2, .int .i64 er2] 35 (0, 0)) := by rw [hW13]; exact setCell_heap _ _ _ _ (setCell_heap _ _ _ _ HB12.out.2.1)
        have c8 := isR_any ev2 (.agg #[.slice gp2 gn2 gc2, .int .i64 er2]) ea2 er2 W13 (by rw [hW13]; exact errs_set (errs_set HB12.out.2.2.1 e0) g0') (by rw [hW13]; exact refr_set (refr_set HB12.out.2.2.2 e0) g0')
        have HB13 : Hid (Below z w W13 ∧ z ≤ W13.heap.size) := ⟨by rw [hW13]; exact (HB12.out.1.setCell (p := ⟨fb, 0, .none⟩) (Nat.le_of_lt HS2.out.2.2.1) _).setCell (p := ⟨fb, 1, .none⟩) (Nat.le_of_lt HS2.out.2.2.1) _, by have := hp_lt h13; have := HS2.out.2.2.1; omega⟩
        rw [← hW13]
        have k0 : W13.cell? ⟨fb, 0, .none⟩ = some (.slice gp2 gn2 gc2) := cell_heap h13
        have k1 : W13.cell? ⟨fb, 1, .none⟩ = some (.int .i64 er2) := cell_heap h13
        clear hW13 e0 e1 f0 f1 g0' h13
        go_wp2_with (go_at_call 8; refine c8.mono ?_; rintro _ W14 ⟨rfl, b14⟩; have HB14 : Hid (Below z w W14) := HB13.out.1.trans (b14.mono HB13.out.2); clear b14 c8)
        go_ret
        exact ⟨rfl, by rw [← HZZ.out.1]; exact HB14.out⟩
end Go.Proofs.YtjbealefopajcaaDoor
