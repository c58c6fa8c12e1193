import Derived.Test.YtdkidhipiglbkaaPrI
namespace Go.Proofs.Ytdkidhipiglbkaa
open Go.RowKit
set_option linter.unusedVariables false
set_option linter.unusedSimpArgs false
set_option maxHeartbeats 8000000 in
set_option maxRecDepth 100000 in
theorem progs_any (J : Im) (xs ys : List Int) (M : Int) (w : World) (h1 : Byt w J.p1 J.n1 J.c1 xs) (h2 : Byt w J.p2 J.n2 J.c2 ys) (s : J.n1 + J.n2 ≤ 300000) (hM : IntKind.u64.wrap (IntKind.u64.wrap (J.ba + J.bs) - J.da) = M) (hM0 : 0 ≤ M) :
    Calls Try.prog 3 #[.agg #[.slice J.p1 J.n1 J.c1, .slice J.p2 J.n2 J.c2, .int .u64 J.da, .int .u64 J.ba, .int .u64 J.bs, .int .u64 J.en, .slice J.p3 J.n3 J.c3]] w fun e w' => e = .returned (.bool true) ∧ Below w.heap.size w w' := by
  have g1 : (J.n1 : Int) + (J.n2 : Int) ≤ 300000 := by omega
  have s1 : J.n1 < 1000000 := by omega
  have s2 : J.n2 < 1000000 := by omega
  have H1 : Hid (Byt w J.p1 J.n1 J.c1 xs ∧ Byt w J.p2 J.n2 J.c2 ys) := ⟨h1, h2⟩
  have HM : Hid (IntKind.u64.wrap (IntKind.u64.wrap (J.ba + J.bs) - J.da) = M ∧ 0 ≤ M) := ⟨hM, hM0⟩
  clear h1 h2 hM hM0 s
  go_enter Try.func3, Try.ntmps3
  go_wp2_with fail
  have HA : Hid (St w ((w.alloc (.cells #[.slice J.p1 J.n1 J.c1, .slice J.p2 J.n2 J.c2, .int .u64 J.da, .int .u64 J.ba, .int .u64 J.bs, .int .u64 J.en, .slice J.p3 J.n3 J.c3] 26)).alloc (.cells #[.slice J.p1 J.n1 J.c1, .slice J.p2 J.n2 J.c2, .int .u64 J.da, .int .u64 J.ba, .int .u64 J.bs, .int .u64 J.en, .slice J.p3 J.n3 J.c3] 26)) w.heap.size (w.heap.size + 1) J J) := st_begin w J
  generalize ((w.alloc (.cells #[.slice J.p1 J.n1 J.c1, .slice J.p2 J.n2 J.c2, .int .u64 J.da, .int .u64 J.ba, .int .u64 J.bs, .int .u64 J.en, .slice J.p3 J.n3 J.c3] 26)).alloc (.cells #[.slice J.p1 J.n1 J.c1, .slice J.p2 J.n2 J.c2, .int .u64 J.da, .int .u64 J.ba, .int .u64 J.bs, .int .u64 J.en, .slice J.p3 J.n3 J.c3] 26)) = WA at *
  generalize hB : w.heap.size = B at *
  have HBB : Hid (w.heap.size = B) := hB
  clear hB
  refine (lend_any (byt_keep' H1.out.1 HA.out.bel (Nat.le_of_eq HBB.out)) s1).mono ?_
  rintro e w1 ⟨gA, cA, rfl, lA, bA⟩
  have HS : Hid (St w w1 B (B + 1) J J) := HA.out.keep bA
  have HV1 : Hid (St w (w1.setCell ⟨B + 1, 0, .none⟩ (.slice (some ⟨gA, 0, .none⟩) J.n1 cA)) B (B + 1) J (J.code (some ⟨gA, 0, .none⟩) J.n1 cA) ∧ Lent (w1.setCell ⟨B + 1, 0, .none⟩ (.slice (some ⟨gA, 0, .none⟩) J.n1 cA)) (B + 2) gA cA xs) :=
    ⟨HS.out.code, lent_set (own_mono lA HA.out.sz) (by omega)⟩
  have k1 := HS.out.own.1
  have k2 := HS.out.fz 0
  have k3 := HS.out.box.2.1
  clear lA bA HS HA
  go_wp2_with fail
  clear k1 k2 k3
  generalize (w1.setCell ⟨B + 1, 0, .none⟩ (.slice (some ⟨gA, 0, .none⟩) J.n1 cA)) = V1 at *
  refine (lend_any (byt_keep' H1.out.2 HV1.out.1.bel (Nat.le_of_eq HBB.out)) s2).mono ?_
  rintro e w2 ⟨gB, cB, rfl, lB, bB⟩
  have HS : Hid (St w w2 B (B + 1) J (J.code (some ⟨gA, 0, .none⟩) J.n1 cA)) := HV1.out.1.keep bB
  have HV2 : Hid (St w (w2.setCell ⟨B + 1, 1, .none⟩ (.slice (some ⟨gB, 0, .none⟩) J.n2 cB)) B (B + 1) J ((J.code (some ⟨gA, 0, .none⟩) J.n1 cA).data (some ⟨gB, 0, .none⟩) J.n2 cB) ∧ Lent (w2.setCell ⟨B + 1, 1, .none⟩ (.slice (some ⟨gB, 0, .none⟩) J.n2 cB)) (B + 2) gA cA xs ∧ Lent (w2.setCell ⟨B + 1, 1, .none⟩ (.slice (some ⟨gB, 0, .none⟩) J.n2 cB)) V1.heap.size gB cB ys ∧ gA < V1.heap.size) :=
    ⟨HS.out.data, lent_set (lent_keep HV1.out.2 bB (Nat.le_refl _)) (by omega), lent_set lB HV1.out.1.sz, own_lt HV1.out.2⟩
  obtain ⟨y0, k1, y2, y3, y4, y5, y6⟩ := HS.out.own
  have k2 := HS.out.fz 1
  simp only [Im.code] at y0 k1 y2 y3 y4 y5 y6
  clear lB bB HS HV1
  go_wp2_with fail
  clear y0 k1 y2 y3 y4 y5 y6 k2
  generalize (w2.setCell ⟨B + 1, 1, .none⟩ (.slice (some ⟨gB, 0, .none⟩) J.n2 cB)) = V2 at *
  have HN2 : Hid (Mn w V2 B J ((J.code (some ⟨gA, 0, .none⟩) J.n1 cA).data (some ⟨gB, 0, .none⟩) J.n2 cB) gA cA gB cB xs ys V1.heap.size V2.heap.size) := ⟨HV2.out.1, HV2.out.2.1, HV2.out.2.2.1, HV2.out.2.2.2, own_lt HV2.out.2.2.1, Nat.le_refl _⟩
  have hb1 : Byt V2 (some ⟨gA, 0, .none⟩) J.n1 cA xs := by have := lent_byt HV2.out.2.1; rwa [H1.out.1.1] at this
  have hb2 : Byt V2 (some ⟨gB, 0, .none⟩) J.n2 cB ys := by have := lent_byt HV2.out.2.2.1; rwa [H1.out.2.1] at this
  have c5 := program5 ((J.code (some ⟨gA, 0, .none⟩) J.n1 cA).data (some ⟨gB, 0, .none⟩) J.n2 cB) xs ys M V2 hb1 hb2 s1 s2 HM.out.1 HM.out.2
  simp only [Im.code, Im.data] at c5
  refine c5.mono ?_
  clear c5
  rintro e V3 ⟨pe, ne, ce, Le, rfl, SE, KE, b3⟩
  have HE4 : Hid (El (V3.alloc (.cells #[.int .u64 J.en, .slice pe ne ce] 30)) V3.heap.size V2.heap.size J.en pe ne ce Le) := El.new SE b3.size
  have HN4 : Hid (Mn w (V3.alloc (.cells #[.int .u64 J.en, .slice pe ne ce] 30)) B J ((J.code (some ⟨gA, 0, .none⟩) J.n1 cA).data (some ⟨gB, 0, .none⟩) J.n2 cB) gA cA gB cB xs ys V1.heap.size V2.heap.size) := (HN2.out.keep b3).keep ((Below.refl _ _).alloc (Nat.le_refl _) _)
  obtain ⟨y0, y1, y2, y3, y4, y5, y6⟩ := (HN2.out.keep b3).st.box
  have zz : B < V3.heap.size := Nat.lt_trans (HN2.out.keep b3).st.lo (HN2.out.keep b3).st.sz
  have HKE : Hid (Le.map Sg.key = keyA J.n1 xs ++ keyB J.da M ys) := KE
  clear SE KE b3 hb1 hb2 HV2 HN2
  go_wp2_with fail
  clear y0 y1 y2 y3 y4 y5 y6 zz
  generalize (V3.alloc (.cells #[.int .u64 J.en, .slice pe ne ce] 30)) = V4 at *
  generalize V3.heap.size = Eb at *
  refine (program6 J xs ys M V4 (byt_keep' H1.out.1 HN4.out.st.bel (Nat.le_of_eq HBB.out)) (byt_keep' H1.out.2 HN4.out.st.bel (Nat.le_of_eq HBB.out)) s1 s2 HM.out.1 HM.out.2).mono ?_
  rintro e V5 ⟨pf, nf, cf, Lf, rfl, SF, KF, b5⟩
  have HF6 : Hid (El (V5.alloc (.cells #[.int .u64 J.en, .slice pf nf cf] 30)) V5.heap.size V4.heap.size J.en pf nf cf Lf) := El.new SF b5.size
  have HN6 : Hid (Mn w (V5.alloc (.cells #[.int .u64 J.en, .slice pf nf cf] 30)) B J ((J.code (some ⟨gA, 0, .none⟩) J.n1 cA).data (some ⟨gB, 0, .none⟩) J.n2 cB) gA cA gB cB xs ys V1.heap.size V2.heap.size) := (HN4.out.keep b5).keep ((Below.refl _ _).alloc (Nat.le_refl _) _)
  have HE6 : Hid (El (V5.alloc (.cells #[.int .u64 J.en, .slice pf nf cf] 30)) Eb V2.heap.size J.en pe ne ce Le) := (HE4.out.keep b5).keep ((Below.refl _ _).alloc (Nat.le_refl _) _)
  have HKF : Hid (Lf.map Sg.key = keyA J.n1 xs ++ keyB J.da M ys) := KF
  obtain ⟨y0, y1⟩ := (HE4.out.keep b5).box
  have zz : Eb < V5.heap.size := (HE4.out.keep b5).hi
  have HV24 : Hid (V2.heap.size ≤ V4.heap.size) := Nat.le_of_lt (Nat.lt_of_le_of_lt HE4.out.lo HE4.out.hi)
  clear SF KF b5 HN4 HE4
  go_wp2_with fail
  clear y0 y1 zz
  generalize (V5.alloc (.cells #[.int .u64 J.en, .slice pf nf cf] 30)) = V6 at *
  generalize V5.heap.size = Fb at *
  have HXY : Hid (xs.length < 1000000 ∧ ys.length < 1000000) := ⟨by rw [H1.out.1.1]; exact s1, by rw [H1.out.2.1]; exact s2⟩
  refine (els_same HE6.out HF6.out HKE.out HKF.out HXY.out.1 HXY.out.2).mono ?_
  rintro e V7 ⟨rfl, b7⟩
  have HN7 : Hid (Mn w V7 B J ((J.code (some ⟨gA, 0, .none⟩) J.n1 cA).data (some ⟨gB, 0, .none⟩) J.n2 cB) gA cA gB cB xs ys V1.heap.size V2.heap.size) := HN6.out.keep b7
  have HE7 : Hid (El V7 Eb V2.heap.size J.en pe ne ce Le) := HE6.out.keep b7
  have HF7 : Hid (El V7 Fb V4.heap.size J.en pf nf cf Lf) := HF6.out.keep b7
  have y0 := HN7.out.st.box.1
  have y1 := HN7.out.st.own.1
  simp only [Im.code, Im.data] at y1
  clear b7 HN6 HE6 HF6
  go_wp2_with fail
  clear y0 y1
  refine (kept_any (byt_keep' H1.out.1 HN7.out.st.bel (Nat.le_of_eq HBB.out)) s1 HN7.out.la).mono ?_
  rintro e V8 ⟨rfl, k8, h8⟩
  have b8 : Below V7.heap.size V7 V8 := by rw [h8]; exact below_drewN (Below.refl _ _) k8
  have HN8 : Hid (Mn w V8 B J ((J.code (some ⟨gA, 0, .none⟩) J.n1 cA).data (some ⟨gB, 0, .none⟩) J.n2 cB) gA cA gB cB xs ys V1.heap.size V2.heap.size) := HN7.out.keep b8
  have HE8 : Hid (El V8 Eb V2.heap.size J.en pe ne ce Le) := HE7.out.keep b8
  have HF8 : Hid (El V8 Fb V4.heap.size J.en pf nf cf Lf) := HF7.out.keep b8
  have y0 := HN8.out.st.box.2.1
  have y1 := HN8.out.st.own.2.1
  simp only [Im.code, Im.data] at y1
  clear h8 b8 HN7 HE7 HF7
  go_wp2_with fail
  clear y0 y1
  refine (kept_any (byt_keep' H1.out.2 HN8.out.st.bel (Nat.le_of_eq HBB.out)) s2 HN8.out.lb).mono ?_
  rintro e V9 ⟨rfl, k9, h9⟩
  have b9 : Below V8.heap.size V8 V9 := by rw [h9]; exact below_drewN (Below.refl _ _) k9
  have HN9 : Hid (Mn w V9 B J ((J.code (some ⟨gA, 0, .none⟩) J.n1 cA).data (some ⟨gB, 0, .none⟩) J.n2 cB) gA cA gB cB xs ys V1.heap.size V2.heap.size) := HN8.out.keep b9
  have HE9 : Hid (El V9 Eb V2.heap.size J.en pe ne ce Le) := HE8.out.keep b9
  have HF9 : Hid (El V9 Fb V4.heap.size J.en pf nf cf Lf) := HF8.out.keep b9
  have zz : B < V9.heap.size := Nat.lt_trans HN9.out.st.lo HN9.out.st.sz
  have HT9 : Hid (St w (V9.alloc (.cells #[.slice J.p1 J.n1 J.c1, .slice J.p2 J.n2 J.c2, .int .u64 J.da, .int .u64 J.ba, .int .u64 J.bs, .int .u64 J.en, .slice J.p3 J.n3 J.c3] 26)) B V9.heap.size J J ∧ Below V9.heap.size V9 (V9.alloc (.cells #[.slice J.p1 J.n1 J.c1, .slice J.p2 J.n2 J.c2, .int .u64 J.da, .int .u64 J.ba, .int .u64 J.bs, .int .u64 J.en, .slice J.p3 J.n3 J.c3] 26)) ∧ (V9.alloc (.cells #[.slice J.p1 J.n1 J.c1, .slice J.p2 J.n2 J.c2, .int .u64 J.da, .int .u64 J.ba, .int .u64 J.bs, .int .u64 J.en, .slice J.p3 J.n3 J.c3] 26)).heap.size = V9.heap.size + 1) := ⟨St.new HN9.out.st.box HN9.out.st.bel zz, (Below.refl _ _).alloc (Nat.le_refl _) _, World.size_alloc _ _⟩
  obtain ⟨y0, y1, y2, y3, y4, y5, y6⟩ := HN9.out.st.box
  clear h9 b9 HN8 HE8 HF8
  go_wp2_with fail
  clear y0 y1 y2 y3 y4 y5 y6 zz
  generalize (V9.alloc (.cells #[.slice J.p1 J.n1 J.c1, .slice J.p2 J.n2 J.c2, .int .u64 J.da, .int .u64 J.ba, .int .u64 J.bs, .int .u64 J.en, .slice J.p3 J.n3 J.c3] 26)) = V10 at *
  generalize hT : V9.heap.size = T at *
  have HT : Hid (V9.heap.size = T) := hT
  clear hT
  refine (copyBytes_n (byt_keep' H1.out.1 HT9.out.1.bel (Nat.le_of_eq HBB.out)) s1).mono ?_
  rintro e V11 ⟨pC, cC, rfl, oC, b11⟩
  have HS : Hid (St w V11 B T J J) := HT9.out.1.keep b11
  have HTa : Hid (St w (V11.setCell ⟨T, 0, .none⟩ (.slice pC J.n1 cC)) B T J (J.code pC J.n1 cC) ∧ (V11.setCell ⟨T, 0, .none⟩ (.slice pC J.n1 cC)).ownsRow (T + 1) 5 1 (.slice pC J.n1 cC) J.n1 (by8 xs) ∧ Below T V9 (V11.setCell ⟨T, 0, .none⟩ (.slice pC J.n1 cC))) :=
    ⟨HS.out.code, row_set (own_mono oC (Nat.le_of_eq HT9.out.2.2.symm)) (by omega), HT9.out.2.1.trans ((b11.mono (by rw [HT9.out.2.2]; omega)).trans (setCell_below _ _ _ _))⟩
  have k1 := HS.out.own.1
  have k2 := HS.out.fz 0
  have k3 := HS.out.box.2.1
  have k4 := HS.out.lo
  clear oC b11 HS HT9
  go_wp2_with fail
  clear k1 k2 k3 k4
  generalize (V11.setCell ⟨T, 0, .none⟩ (.slice pC J.n1 cC)) = V12 at *
  refine (copyBytes_n (byt_keep' H1.out.2 HTa.out.1.bel (Nat.le_of_eq HBB.out)) s2).mono ?_
  rintro e V13 ⟨pD, cD, rfl, oD, b13⟩
  have HS : Hid (St w V13 B T J (J.code pC J.n1 cC)) := HTa.out.1.keep b13
  have HTb : Hid (St w (V13.setCell ⟨T, 1, .none⟩ (.slice pD J.n2 cD)) B T J ((J.code pC J.n1 cC).data pD J.n2 cD) ∧ (V13.setCell ⟨T, 1, .none⟩ (.slice pD J.n2 cD)).ownsRow (T + 1) 5 1 (.slice pC J.n1 cC) J.n1 (by8 xs) ∧ (V13.setCell ⟨T, 1, .none⟩ (.slice pD J.n2 cD)).ownsRow V12.heap.size 5 1 (.slice pD J.n2 cD) J.n2 (by8 ys) ∧ Below T V9 (V13.setCell ⟨T, 1, .none⟩ (.slice pD J.n2 cD)) ∧ T < V12.heap.size ∧ V12.heap.size ≤ (V13.setCell ⟨T, 1, .none⟩ (.slice pD J.n2 cD)).heap.size ∧ (∀ g, Value.ownBlock (.slice pC J.n1 cC) = some g → g < V12.heap.size)) :=
    ⟨HS.out.data, row_set (own_keep HTa.out.2.1 b13 (Nat.le_refl _)) (by omega), row_set oD HTa.out.1.sz, HTa.out.2.2.trans ((b13.mono (Nat.le_of_lt HTa.out.1.sz)).trans (setCell_below _ _ _ _)), HTa.out.1.sz, by simp only [World.size_setCell]; exact b13.size, own_blk_lt HTa.out.2.1⟩
  have k1 := HS.out.own.2.1
  have k2 := HS.out.fz 1
  simp only [Im.code] at k1
  clear oD b13 HS HTa
  go_wp2_with fail
  clear k1 k2
  generalize (V13.setCell ⟨T, 1, .none⟩ (.slice pD J.n2 cD)) = V at *
  obtain ⟨gC, gD, hfx⟩ := fx_make (J2 := ((J.code (some ⟨gA, 0, .none⟩) J.n1 cA).data (some ⟨gB, 0, .none⟩) J.n2 cB)) (J3 := ((J.code pC J.n1 cC).data pD J.n2 cD)) HN9.out (Nat.le_of_lt (Nat.lt_of_le_of_lt (own_base HN9.out.lb) HN9.out.b2)) rfl H1.out.1.1.symm rfl rfl H1.out.2.1.symm rfl HT.out HTb.out.1 HTb.out.2.1 HTb.out.2.2.1 HTb.out.2.2.2.1 HTb.out.2.2.2.2.1 HTb.out.2.2.2.2.2.1 HTb.out.2.2.2.2.2.2
  have HFx : Hid (Fx V9 V B T gA gB gC gD ((J.code (some ⟨gA, 0, .none⟩) J.n1 cA).data (some ⟨gB, 0, .none⟩) J.n2 cB) ((J.code pC J.n1 cC).data pD J.n2 cD) xs ys) := hfx
  have HLx : Hid (xs.length = J.n1 ∧ ys.length = J.n2) := ⟨H1.out.1.1, H1.out.2.1⟩
  clear hfx HTb
  go_loopw [7] (fun v W => ∃ i : Nat, i ≤ J.n1 ∧ v = .int .i64 i ∧ Hid (Lo V W gA gC xs.length i (fun x => bits .xor .u8 x 60) xs)) (fun v _ => (J.n1 - intOf v).toNat)
  case atStart =>
    have ra := HFx.out.ra
    have rc := HFx.out.rc
    refine ⟨0, by omega, rfl, ?_⟩
    have e : xs.length = J.n1 := HLx.out.1
    rw [e]
    exact lo_zero _ ra rc
  case round =>
    obtain ⟨i, hi, rfl, HL⟩ := hrel
    obtain ⟨_, _, o7, t7⟩ := HFx.out.mid HL.out
    have k1 := o7.1
    have k2 := t7.1
    simp only [Im.code, Im.data] at k1 k2
    clear o7 t7
    by_cases hlt : i < J.n1
    · have g0 : (i : Int) < J.n1 := by omega
      have hx : ∃ x, xs[i]? = some x := ⟨xs[i]'(by rw [HLx.out.1]; exact hlt), by simp⟩
      obtain ⟨x, hx⟩ := hx
      have eC : pC = some ⟨gC, 0, .none⟩ := HFx.out.rc.at' (show 0 < J.n1 by omega)
      subst eC
      have mx : (mt i (fun x => bits .xor .u8 x 60) xs)[i]? = some x := by rw [mt_get, if_neg (by omega)]; exact hx
      have a0 := HL.out.ca i x mx
      have a1 := HL.out.cd i x mx
      have f0 := HL.out.fa i (by rw [HLx.out.1]; exact hlt)
      have f1 := HL.out.fd i (by rw [HLx.out.1]; exact hlt)
      have cA1 : J.n1 ≤ cA := HFx.out.ra.cap
      have cC1 : J.n1 ≤ cC := HFx.out.rc.cap
      have n1 : gA < T := by have := HFx.out.ab; have := HFx.out.bt; omega
      have n2 : T < gC := HFx.out.tc
      have n3 : B + 1 < gA := HFx.out.oa
      have HNx : Hid (Lo V ((wr.drew.setCell ⟨gA, i, .none⟩ (.int .u8 (bits .xor .u8 x 60))).drew.setCell ⟨gC, i, .none⟩ (.int .u8 (bits .xor .u8 x 60))) gA gC xs.length (i + 1) (fun x => bits .xor .u8 x 60) xs) := HL.out.drew.next hx (by omega)
      clear hx mx HL
      go_wp2
      go_region
      go_wp2
      go_region
      go_wp2
      exact ⟨⟨i + 1, by omega, rfl, HNx.out⟩, by simp only [intOf]; omega⟩
    · obtain rfl : i = J.n1 := by omega
      have HL1 : Hid (Lo V wr gA gC xs.length xs.length (fun x => bits .xor .u8 x 60) xs) := by
        have := HL.out
        rw [← HLx.out.1] at this
        exact this
      clear hi hlt HL k2
      go_wp2_with fail
      clear k1
      generalize wr = W1 at *
      go_loopw [8] (fun v W => ∃ i : Nat, i ≤ J.n2 ∧ v = .int .i64 i ∧ Hid (Lo W1 W gB gD ys.length i (fun x => bits .xor .u8 x 195) ys)) (fun v _ => (J.n2 - intOf v).toNat)
      case atStart =>
        obtain ⟨rb, rd, _, _⟩ := HFx.out.mid HL1.out
        refine ⟨0, by omega, rfl, ?_⟩
        have e : ys.length = J.n2 := HLx.out.2
        rw [e]
        exact lo_zero _ rb rd
      case round =>
        obtain ⟨i, hi, rfl, HL⟩ := hrel
        have d1 : B + 1 < gA := HFx.out.oa
        have d2 : gA < gB := HFx.out.ab
        have d3 : gB < T := HFx.out.bt
        have d4 : T < gD := HFx.out.td
        obtain ⟨RB, RD, o7, t7⟩ := HFx.out.mid HL1.out
        have o7 := s7_block o7 (HL.out.block (B + 1) (by omega) (by omega))
        have t7 := s7_block t7 (HL.out.block T (by omega) (by omega))
        have k1 := o7.2.1
        have k2 := t7.2.1
        simp only [Im.code, Im.data] at k1 k2
        by_cases hlt : i < J.n2
        · have g0 : (i : Int) < J.n2 := by omega
          have hx : ∃ x, ys[i]? = some x := ⟨ys[i]'(by rw [HLx.out.2]; exact hlt), by simp⟩
          obtain ⟨x, hx⟩ := hx
          have eD : pD = some ⟨gD, 0, .none⟩ := RD.at' (show 0 < J.n2 by omega)
          have cB1 : J.n2 ≤ cB := RB.cap
          have cD1 : J.n2 ≤ cD := RD.cap
          subst eD
          have mx : (mt i (fun x => bits .xor .u8 x 195) ys)[i]? = some x := by rw [mt_get, if_neg (by omega)]; exact hx
          have a0 := HL.out.ca i x mx
          have a1 := HL.out.cd i x mx
          have f0 := HL.out.fa i (by rw [HLx.out.2]; exact hlt)
          have f1 := HL.out.fd i (by rw [HLx.out.2]; exact hlt)
          have HNx : Hid (Lo W1 ((wr.drew.setCell ⟨gB, i, .none⟩ (.int .u8 (bits .xor .u8 x 195))).drew.setCell ⟨gD, i, .none⟩ (.int .u8 (bits .xor .u8 x 195))) gB gD ys.length (i + 1) (fun x => bits .xor .u8 x 195) ys) := HL.out.drew.next hx (by omega)
          clear hx mx HL o7 t7 RB RD
          go_wp2
          go_region
          go_wp2
          go_region
          go_wp2
          exact ⟨⟨i + 1, by omega, rfl, HNx.out⟩, by simp only [intOf]; omega⟩
        · obtain rfl : i = J.n2 := by omega
          have HL2 : Hid (Lo W1 wr gB gD ys.length ys.length (fun x => bits .xor .u8 x 195) ys) := by
            have := HL.out
            rw [← HLx.out.2] at this
            exact this
          clear hi hlt HL k2 o7 t7 RB RD d1 d2 d3 d4
          go_wp2_with fail
          --R23
          clear k1
          obtain ⟨⟨z1, z2, z3, z4⟩, u1, u2, u3, u4, u5⟩ := HFx.out.fin HL1.out HL2.out
          have HE2 : El wr.drew Eb V2.heap.size J.en pe ne ce Le := (el_range HE9.out HN9.out.b2 HT.out u4 u3).keep (Below.refl _ _).drew
          have HF2 : El wr.drew Fb V4.heap.size J.en pf nf cf Lf := (el_range HF9.out (Nat.lt_of_lt_of_le HN9.out.b2 HV24.out) HT.out u4 u3).keep (Below.refl _ _).drew
          have bD : Below wr.heap.size wr wr.drew := (Below.refl _ _).drew
          have HZ : Hid (Byt wr.drew (some ⟨gA, 0, .none⟩) J.n1 cA (xs.map fun x => bits .xor .u8 x 60) ∧ Byt wr.drew (some ⟨gB, 0, .none⟩) J.n2 cB (ys.map fun x => bits .xor .u8 x 195) ∧ Byt wr.drew pC J.n1 cC (xs.map fun x => bits .xor .u8 x 60) ∧ Byt wr.drew pD J.n2 cD (ys.map fun x => bits .xor .u8 x 195)) :=
            ⟨byt_keep' z1 bD (Nat.le_refl _), byt_keep' z2 bD (Nat.le_refl _), byt_keep' z3 bD (Nat.le_refl _), byt_keep' z4 bD (Nat.le_refl _)⟩
          have lT : T < wr.drew.heap.size := lt_of_cell u2.1
          have lB : B + 1 < wr.drew.heap.size := lt_of_cell u1.1
          have HBw : Hid (Below B w wr.drew) := HN9.out.st.bel.trans ((u5.mono (by omega)).drew)
          have HR : Rg wr.drew Eb Fb (B + 1) T J.en pe ne ce pf nf cf ((J.code (some ⟨gA, 0, .none⟩) J.n1 cA).data (some ⟨gB, 0, .none⟩) J.n2 cB) ((J.code pC J.n1 cC).data pD J.n2 cD) := ⟨HE2.box, HF2.box, u1, u2⟩
          have HEF : Hid (El wr.drew Eb V2.heap.size J.en pe ne ce Le ∧ El wr.drew Fb V4.heap.size J.en pf nf cf Lf) := ⟨HE2, HF2⟩
          have lE := HE2.hi
          have lF := HF2.hi
          clear z1 z2 z3 z4 u1 u2 u3 u4 u5 HE2 HF2 bD HL1 HL2 HFx HE9 HF9 HN9
          refine wp_region_held_drew (S := fun W => Rg W Eb Fb (B + 1) T J.en pe ne ce pf nf cf ((J.code (some ⟨gA, 0, .none⟩) J.n1 cA).data (some ⟨gB, 0, .none⟩) J.n2 cB) ((J.code pC J.n1 cC).data pD J.n2 cD)) (by kernel_rfl) HR (fun hHeld => ?_)
          generalize wr.drew = W0 at *
          refine wpAnyH_take (i := 0) (v := (.agg #[.int .u64 J.en, .slice pe ne ce])) rfl (by kernel_rfl) (by kernel_rfl) (by kernel_rfl) (fun _ _ _ h => h) (Or.inl ⟨by rfl, fun ww hSw => by (try dsimp only at hSw); obtain ⟨⟨a0, a1⟩, ⟨b0, b1⟩, ⟨d0, d1, d2, d3, d4, d5, d6⟩, e0, e1, e2, e3, e4, e5, e6⟩ := hSw; simp only [Im.code, Im.data] at d0 d1 d2 d3 d4 d5 d6 e0 e1 e2 e3 e4 e5 e6; go_simp⟩) (by assumption) ?_
          simp only [Act.put, List.setIfInBounds_toArray, List.set_cons_zero, List.set_cons_succ, List.getElem_toArray, List.getElem_cons_succ, List.getElem_cons_zero]
          refine wpAnyH_take (i := 1) (v := (.agg #[.int .u64 J.en, .slice pf nf cf])) rfl (by kernel_rfl) (by kernel_rfl) (by kernel_rfl) (fun _ _ _ h => h) (Or.inl ⟨by rfl, fun ww hSw => by (try dsimp only at hSw); obtain ⟨⟨a0, a1⟩, ⟨b0, b1⟩, ⟨d0, d1, d2, d3, d4, d5, d6⟩, e0, e1, e2, e3, e4, e5, e6⟩ := hSw; simp only [Im.code, Im.data] at d0 d1 d2 d3 d4 d5 d6 e0 e1 e2 e3 e4 e5 e6; go_simp⟩) (by assumption) ?_
          simp only [Act.put, List.setIfInBounds_toArray, List.set_cons_zero, List.set_cons_succ, List.getElem_toArray, List.getElem_cons_succ, List.getElem_cons_zero]
          refine wpAnyH_ready (rs := [2]) (by kernel_rfl) (by simp) ?_
          refine AllReadyH.cons rfl (fun K hK => ?_) AllReadyH.nil
          go_simp
          go_at_call 7
          refine (els_same HEF.out.1 HEF.out.2 HKE.out HKF.out HXY.out.1 HXY.out.2).mono ?_
          rintro e U1 ⟨rfl, c1⟩
          have r1 := rg_keep HR c1 lE lF lB lT
          have q1 := c1.size
          have HU1 : Hid (Below W0.heap.size W0 U1) := c1
          clear c1
          refine hK.out _ _ r1 (fun hHeld => ?_)
          clear hK K
          try simp only [Act.put, List.setIfInBounds_toArray, List.set_cons_zero, List.set_cons_succ, List.getElem_toArray, List.getElem_cons_succ, List.getElem_cons_zero]
          refine wpAnyH_take (i := 3) (v := (.bool true)) rfl (by kernel_rfl) (by kernel_rfl) (by kernel_rfl) (fun _ _ _ h => h) (Or.inl ⟨by rfl, fun ww hSw => by (try dsimp only at hSw); go_simp⟩) (by assumption) ?_
          simp only [Act.put, List.setIfInBounds_toArray, List.set_cons_zero, List.set_cons_succ, List.getElem_toArray, List.getElem_cons_succ, List.getElem_cons_zero]
          refine wpAnyH_take (i := 4) (v := (.agg #[.slice (some ⟨gA, 0, .none⟩) J.n1 cA, .slice (some ⟨gB, 0, .none⟩) J.n2 cB, .int .u64 J.da, .int .u64 J.ba, .int .u64 J.bs, .int .u64 J.en, .slice J.p3 J.n3 J.c3])) rfl (by kernel_rfl) (by kernel_rfl) (by kernel_rfl) (fun _ _ _ h => h) (Or.inl ⟨by rfl, fun ww hSw => by (try dsimp only at hSw); obtain ⟨⟨a0, a1⟩, ⟨b0, b1⟩, ⟨d0, d1, d2, d3, d4, d5, d6⟩, e0, e1, e2, e3, e4, e5, e6⟩ := hSw; simp only [Im.code, Im.data] at d0 d1 d2 d3 d4 d5 d6 e0 e1 e2 e3 e4 e5 e6; go_simp⟩) (by assumption) ?_
          simp only [Act.put, List.setIfInBounds_toArray, List.set_cons_zero, List.set_cons_succ, List.getElem_toArray, List.getElem_cons_succ, List.getElem_cons_zero]
          refine wpAnyH_take (i := 6) (v := (.agg #[.slice pC J.n1 cC, .slice pD J.n2 cD, .int .u64 J.da, .int .u64 J.ba, .int .u64 J.bs, .int .u64 J.en, .slice J.p3 J.n3 J.c3])) rfl (by kernel_rfl) (by kernel_rfl) (by kernel_rfl) (fun _ _ _ h => h) (Or.inl ⟨by rfl, fun ww hSw => by (try dsimp only at hSw); obtain ⟨⟨a0, a1⟩, ⟨b0, b1⟩, ⟨d0, d1, d2, d3, d4, d5, d6⟩, e0, e1, e2, e3, e4, e5, e6⟩ := hSw; simp only [Im.code, Im.data] at d0 d1 d2 d3 d4 d5 d6 e0 e1 e2 e3 e4 e5 e6; go_simp⟩) (by assumption) ?_
          simp only [Act.put, List.setIfInBounds_toArray, List.set_cons_zero, List.set_cons_succ, List.getElem_toArray, List.getElem_cons_succ, List.getElem_cons_zero]
          refine wpAnyH_ready (rs := [5]) (by kernel_rfl) (by simp) ?_
          refine AllReadyH.cons rfl (fun K hK => ?_) AllReadyH.nil
          have cc := program5 ((J.code (some ⟨gA, 0, .none⟩) J.n1 cA).data (some ⟨gB, 0, .none⟩) J.n2 cB) (xs.map fun x => bits .xor .u8 x 60) (ys.map fun x => bits .xor .u8 x 195) M U1 (byt_keep' HZ.out.1 HU1.out (Nat.le_refl _)) (byt_keep' HZ.out.2.1 HU1.out (Nat.le_refl _)) s1 s2 HM.out.1 HM.out.2
          simp only [Im.code, Im.data] at cc
          go_simp
          go_at_call 5
          refine cc.mono ?_
          clear cc
          rintro e U2 ⟨px, nx, cx, Lx, rfl, Sx, Kx, c1⟩
          have r2 := rg_keep r1 c1 (by omega) (by omega) (by omega) (by omega)
          have q2 := c1.size
          have HU2 : Hid (Below W0.heap.size W0 U2 ∧ Segs U2 U1.heap.size px nx cx Lx ∧ Lx.map Sg.key = keyA J.n1 (xs.map fun x => bits .xor .u8 x 60) ++ keyB J.da M (ys.map fun x => bits .xor .u8 x 195)) := ⟨HU1.out.trans (c1.mono q1), Sx, Kx⟩
          clear c1 Sx Kx
          refine hK.out _ _ r2 (fun hHeld => ?_)
          clear hK K
          try simp only [Act.put, List.setIfInBounds_toArray, List.set_cons_zero, List.set_cons_succ, List.getElem_toArray, List.getElem_cons_succ, List.getElem_cons_zero]
          refine wpAnyH_ready (rs := [7]) (by kernel_rfl) (by simp) ?_
          refine AllReadyH.cons rfl (fun K hK => ?_) AllReadyH.nil
          have cc := program6 ((J.code pC J.n1 cC).data pD J.n2 cD) (xs.map fun x => bits .xor .u8 x 60) (ys.map fun x => bits .xor .u8 x 195) M U2 (byt_keep' HZ.out.2.2.1 HU2.out.1 (Nat.le_refl _)) (byt_keep' HZ.out.2.2.2 HU2.out.1 (Nat.le_refl _)) s1 s2 HM.out.1 HM.out.2
          simp only [Im.code, Im.data] at cc
          go_simp
          go_at_call 6
          refine cc.mono ?_
          clear cc
          rintro e U3 ⟨py, ny, cy, Ly, rfl, Sy, Ky, c1⟩
          have r3 := rg_keep r2 c1 (by omega) (by omega) (by omega) (by omega)
          have q3 := c1.size
          have HU3 : Hid (Below W0.heap.size W0 U3 ∧ Segs U3 U1.heap.size px nx cx Lx ∧ Segs U3 U2.heap.size py ny cy Ly ∧ Ly.map Sg.key = keyA J.n1 (xs.map fun x => bits .xor .u8 x 60) ++ keyB J.da M (ys.map fun x => bits .xor .u8 x 195)) := ⟨HU2.out.1.trans (c1.mono (by omega)), segs_keep HU2.out.2.1 c1 (Nat.le_refl _), Sy, Ky⟩
          clear c1 Sy Ky
          refine hK.out _ _ r3 (fun hHeld => ?_)
          clear hK K
          try simp only [Act.put, List.setIfInBounds_toArray, List.set_cons_zero, List.set_cons_succ, List.getElem_toArray, List.getElem_cons_succ, List.getElem_cons_zero]
          refine wpAnyH_ready (rs := [8]) (by kernel_rfl) (by simp) ?_
          refine AllReadyH.cons rfl (fun K hK => ?_) AllReadyH.nil
          have cc := same_any (e := J.en) HU3.out.2.1 HU3.out.2.2.1 (HU2.out.2.2.trans HU3.out.2.2.2.symm) (by have := keys_len J.n1 (xs.map fun x => bits .xor .u8 x 60) (ys.map fun x => bits .xor .u8 x 195) J.da M; rw [← HU2.out.2.2, List.length_map, HU2.out.2.1.2.1] at this; exact this) (by rw [HU2.out.2.2]; exact keys_bd _ _ _ _ _ (by simp [HXY.out.1]) (by simp [HXY.out.2]))
          go_simp
          go_at_call 7
          refine cc.mono ?_
          clear cc
          rintro e U4 ⟨rfl, c1⟩
          have r4 := rg_keep r3 c1 (by omega) (by omega) (by omega) (by omega)
          have HU4 : Hid (Below B w U4) := HBw.out.trans ((HU3.out.1.trans (c1.mono (by omega))).mono (by omega))
          clear c1
          refine hK.out _ _ r4 (fun hHeld => ?_)
          clear hK K
          try simp only [Act.put, List.setIfInBounds_toArray, List.set_cons_zero, List.set_cons_succ, List.getElem_toArray, List.getElem_cons_succ, List.getElem_cons_zero]
          refine wpAnyH_take (i := 9) (v := (.bool true)) rfl (by kernel_rfl) (by kernel_rfl) (by kernel_rfl) (fun _ _ _ h => h) (Or.inl ⟨by rfl, fun ww hSw => by (try dsimp only at hSw); go_simp⟩) (by assumption) ?_
          simp only [Act.put, List.setIfInBounds_toArray, List.set_cons_zero, List.set_cons_succ, List.getElem_toArray, List.getElem_cons_succ, List.getElem_cons_zero]
          refine wpAnyH_take (i := 10) (v := (.bool true)) rfl (by kernel_rfl) (by kernel_rfl) (by kernel_rfl) (fun _ _ _ h => h) (Or.inl ⟨by rfl, fun ww hSw => by (try dsimp only at hSw); go_simp⟩) (by assumption) ?_
          simp only [Act.put, List.setIfInBounds_toArray, List.set_cons_zero, List.set_cons_succ, List.getElem_toArray, List.getElem_cons_succ, List.getElem_cons_zero]
          refine wpAnyH_done (by kernel_rfl) ?_ _
          go_wp2
          go_ret
          refine ⟨rfl, ?_⟩
          rw [HBB.out]
          exact HU4.out
end Go.Proofs.Ytdkidhipiglbkaa
