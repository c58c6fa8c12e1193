import Derived.Test.YtloldhcljdmofaaDoorLw0
namespace Go.Proofs.YtloldhcljdmofaaDoor
open Go.RowKit
set_option linter.unusedVariables false
set_option linter.unusedSimpArgs false
theorem Hid.mk' {P : Prop} (h : P) : Hid P := h
theorem Byt.below {w w' : World} {p : Option Addr} {n c : Nat} {xs : List Int} (h : Byt w p n c xs) (k : Below w.heap.size w w') : Byt w' p n c xs := byt_belowQ h k
set_option maxHeartbeats 8000000 in
set_option maxRecDepth 100000 in
theorem writes_any {w : World} {q : Option Addr} {m c : Nat} {S : Nat → Sr} {D : Nat → List Int} (h : Arg w q m c S D) (hL : Laid w) (en : Int) (he : 0 ≤ en ∧ en < 18446744073709551616) :
    Calls Tryd.prog 3 #[.agg #[.int .u64 en, .slice q m c]] w fun e w' => e = .returned (.bool true) ∧ Below w.heap.size w w' := by
  have HA : Hid (Arg w q m c S D) := h
  have HL : Hid (Laid w) := hL
  have HEn : Hid (0 ≤ en ∧ en < 18446744073709551616) := he
  clear h hL he
  have HB : Hid (Below w.heap.size w (w.alloc (.cells #[.int .u64 en, .slice q m c] 25))) := (Below.refl _ _).alloc (Nat.le_refl _) _
  have HCe : Hid (Cl2 (w.alloc (.cells #[.int .u64 en, .slice q m c] 25)) w.heap.size (.int .u64 en) (.slice q m c)) := cl2_new _ _ _ _
  go_enter Tryd.func3, Tryd.ntmps3
  go_upto_region 1 with fail
  generalize (w.alloc (.cells #[.int .u64 en, .slice q m c] 25)) = W0 at *
  have c5 := few_any (HA.out.below HB.out) en
  have xe0 := HCe.out.1
  have xe1 := HCe.out.2.1
  go_wp2_with fail
  refine c5.mono ?_
  rintro _ W1 ⟨rfl, hb1⟩
  clear xe0 xe1
  replace HCe := Hid.mk' (HCe.out.below hb1)
  replace HB := Hid.mk' (HB.out.trans (hb1.mono HB.out.size))
  clear c5 hb1 W0
  have xe0 := HCe.out.1
  have xe1 := HCe.out.2.1
  by_cases hf : sumN S m ≤ 400000 ∧ m ≤ 1000
  rotate_left
  · rw [decide_eq_false hf]
    go_wp2_with fail
    go_ret
    exact ⟨rfl, HB.out⟩
  rw [decide_eq_true hf]
  have HF : Hid (sumN S m ≤ 400000 ∧ m ≤ 1000) := hf
  have HZ : Hid (∀ i, i < m → (S i).n ≤ 400000) := fun i hi => Nat.le_trans (sum_one m (Nat.le_refl _) i hi) HF.out.1
  clear hf
  have HG : Hid (∀ (i : Nat) (s : Sg), (sgsG S m)[i]? = some s → s.va = (S i).va ∧ s.fl = (S i).fl ∧ s.mem = (S i).mem ∧ s.sz = (S i).n ∧ byt (datB D m) s = D i) := fun i s hs => by
    have e := (sgsG_get hs).2
    refine ⟨?_, ?_, ?_, ?_, datB_byt (fun i hi => (HA.out.dat i hi).1) hs⟩ <;> rw [e]
  have c6 := twin2_any (HA.out.below HB.out) HF.out.2 HF.out.1 en (sgsG S m) (datB D m) sgsG_len HG.out
  dsimp only
  go_upto_region 3 with fail
  go_wp2_with fail
  refine c6.mono ?_
  rintro _ W2 ⟨sv, E, rfl, own2, dat2, ln2, gs2, hb2⟩
  have HS2 : Hid (W1.heap.size ≤ W2.heap.size ∧ w.heap.size < W1.heap.size) := ⟨hb2.size, HCe.out.lt⟩
  clear xe0 xe1
  replace HCe := Hid.mk' (HCe.out.below hb2)
  replace HB := Hid.mk' (HB.out.trans (hb2.mono HB.out.size))
  have hcp := cp_new HA.out HF.out.1 own2 ln2 gs2
  have hl := hcp.len
  subst hl
  obtain ⟨qf, cf, rfl, -⟩ := own_form own2
  have HP : Hid (Cp W2 W1.heap.size (.slice qf E.length cf) E S D E.length) := hcp
  have HP2 : Hid (Cp W2 W1.heap.size (.slice qf E.length cf) E S D E.length) := hcp
  clear hcp own2 dat2 ln2 gs2 hb2 c6
  dsimp only
  have xe0 := HCe.out.1
  have xe1 := HCe.out.2.1
  go_upto_region 4 with fail
  clear xe0 xe1
  have hb3 : Below W2.heap.size W2 (W2.alloc (.cells #[.int .u64 en, .slice qf E.length cf] 25)) := (Below.refl _ _).alloc (Nat.le_refl _) _
  have HCf : Hid (Cl2 (W2.alloc (.cells #[.int .u64 en, .slice qf E.length cf] 25)) W2.heap.size (.int .u64 en) (.slice qf E.length cf)) := cl2_new _ _ _ _
  replace HCe := Hid.mk' (HCe.out.below hb3)
  replace HP := Hid.mk' (HP.out.below hb3)
  replace HB := Hid.mk' (HB.out.trans (hb3.mono HB.out.size))
  clear hb3
  generalize (W2.alloc (.cells #[.int .u64 en, .slice qf E.length cf] 25)) = W3 at *
  have HS3 : Hid (W2.heap.size < W3.heap.size) := HCf.out.lt
  have c7 := writeX_any HP.out.prs HF.out.2 (by rw [HP.out.gs]; exact plc_sgs) (HL.out.below HB.out) en HEn.out
  have xe0 := HCe.out.1
  have xe1 := HCe.out.2.1
  have xf0 := HCf.out.1
  have xf1 := HCf.out.2.1
  go_wp2_with fail
  refine c7.mono ?_
  rintro e4 W4 hP4
  obtain ⟨hb4, pb, nb, cb, vb, rfl⟩ := wx_form hP4
  have HX4 : Hid (WxP W3 E (datB D E.length) en (.returned (.tuple #[.slice pb nb cb, vb])) W4) := hP4
  have HS4 : Hid (W3.heap.size ≤ W4.heap.size) := hb4.size
  clear xe0 xe1 xf0 xf1
  replace HCe := Hid.mk' (HCe.out.below hb4)
  replace HCf := Hid.mk' (HCf.out.below hb4)
  replace HP := Hid.mk' (HP.out.below hb4)
  replace HB := Hid.mk' (HB.out.trans (hb4.mono HB.out.size))
  clear hb4 hP4 c7
  dsimp only
  have xe0 := HCe.out.1
  have xe1 := HCe.out.2.1
  have xf0 := HCf.out.1
  have xf1 := HCf.out.2.1
  go_upto_region 5 with fail
  have c8 := writeQ_any (HA.out.below HB.out) HZ.out en HEn.out
  go_wp2_with fail
  refine c8.mono ?_
  rintro e5 W5 hP5
  obtain ⟨hb5, pc, nc, cc, fp, fn, fc, r1, rfl⟩ := wq_form hP5
  obtain ⟨hnn, hn4, ⟨a1, her, hrr⟩, ⟨xs, hyb, hyc⟩, hlb, hlc⟩ := wr_both HP.out.gs HX4.out hP5
  subst hnn
  have HEr : Hid (ErrR W5 vb a1 r1) := her.below hb5
  have HRr : Hid (RefR W5 (.agg #[.slice fp fn fc, .int .i64 r1]) a1 r1) := hrr
  have HYb : Hid (Byt W5 pb nb cb xs) := hyb.below hb5
  have HYc : Hid (Byt W5 pc nb cc xs) := hyc
  have HNb : Hid (nb ≤ 262144) := hn4
  have HLb : Hid (∀ b o, pb = some ⟨b, o, .none⟩ → nb ≠ 0 → W3.heap.size ≤ b ∧ b < W5.heap.size) := fun b o e hn => ⟨hlb b o e, byt_lt HYb.out (by omega) b o e⟩
  have HLc : Hid (∀ b o, pc = some ⟨b, o, .none⟩ → nb ≠ 0 → W3.heap.size ≤ b ∧ b < W5.heap.size) := fun b o e hn => ⟨Nat.le_trans HS4.out (hlc b o e), byt_lt HYc.out (by omega) b o e⟩
  have HS5 : Hid (W4.heap.size ≤ W5.heap.size) := hb5.size
  clear xe0 xe1 xf0 xf1
  replace HCe := Hid.mk' (HCe.out.below hb5)
  replace HCf := Hid.mk' (HCf.out.below hb5)
  replace HP := Hid.mk' (HP.out.below hb5)
  replace HB := Hid.mk' (HB.out.trans (hb5.mono HB.out.size))
  clear hb5 hP5 c8 her hrr hyb hyc hlb hlc hn4 HX4
  dsimp only
  have xe0 := HCe.out.1
  have xe1 := HCe.out.2.1
  have xf0 := HCf.out.1
  have xf1 := HCf.out.2.1
  go_upto_region 6 with fail
  clear xe0 xe1 xf0 xf1
  have hb6 : Below W5.heap.size W5 (W5.alloc (.cells #[.slice fp fn fc, .int .i64 r1] 35)) := (Below.refl _ _).alloc (Nat.le_refl _) _
  have HCg : Hid (Cl2 (W5.alloc (.cells #[.slice fp fn fc, .int .i64 r1] 35)) W5.heap.size (.slice fp fn fc) (.int .i64 r1)) := cl2_new _ _ _ _
  replace HCe := Hid.mk' (HCe.out.below hb6)
  replace HCf := Hid.mk' (HCf.out.below hb6)
  replace HP := Hid.mk' (HP.out.below hb6)
  replace HEr := Hid.mk' (HEr.out.below hb6)
  replace HRr := Hid.mk' (HRr.out.below hb6)
  replace HYb := Hid.mk' (HYb.out.below hb6)
  replace HYc := Hid.mk' (HYc.out.below hb6)
  replace HB := Hid.mk' (HB.out.trans (hb6.mono HB.out.size))
  clear hb6
  generalize (W5.alloc (.cells #[.slice fp fn fc, .int .i64 r1] 35)) = W6 at *
  have HS6 : Hid (W5.heap.size < W6.heap.size) := HCg.out.lt
  have c9 := pages_any HP.out.prs HF.out.2 en HEn.out
  have xe0 := HCe.out.1
  have xe1 := HCe.out.2.1
  have xf0 := HCf.out.1
  have xf1 := HCf.out.2.1
  have xg0 := HCg.out.1
  have xg1 := HCg.out.2.1
  go_wp2_with fail
  refine c9.mono ?_
  rintro e7 W7 hP7
  rw [HP.out.gs] at hP7
  obtain ⟨hb7, n7, v7, rfl⟩ := px_form hP7
  have HX7 : Hid (PxP W6 en (sgsG S E.length) (.returned (.tuple #[.int .i64 n7, v7])) W7) := hP7
  have HS7 : Hid (W6.heap.size ≤ W7.heap.size) := hb7.size
  clear xe0 xe1 xf0 xf1 xg0 xg1
  replace HCe := Hid.mk' (HCe.out.below hb7)
  replace HCf := Hid.mk' (HCf.out.below hb7)
  replace HCg := Hid.mk' (HCg.out.below hb7)
  replace HP := Hid.mk' (HP.out.below hb7)
  replace HEr := Hid.mk' (HEr.out.below hb7)
  replace HRr := Hid.mk' (HRr.out.below hb7)
  replace HYb := Hid.mk' (HYb.out.below hb7)
  replace HYc := Hid.mk' (HYc.out.below hb7)
  replace HB := Hid.mk' (HB.out.trans (hb7.mono HB.out.size))
  clear hb7 hP7 c9
  dsimp only
  have xe0 := HCe.out.1
  have xe1 := HCe.out.2.1
  have xf0 := HCf.out.1
  have xf1 := HCf.out.2.1
  have xg0 := HCg.out.1
  have xg1 := HCg.out.2.1
  go_upto_region 7 with fail
  have c10 := pagesQ_any (HA.out.below HB.out) HZ.out en HEn.out
  go_wp2_with fail
  refine c10.mono ?_
  rintro e8 W8 hP8
  obtain ⟨hb8, n8, gp, gn, gc, r2, rfl⟩ := pq_form hP8
  obtain ⟨hnn, a2, her, hrr⟩ := pg_both HX7.out hP8
  subst hnn
  have HE2 : Hid (ErrR W8 v7 a2 r2) := her.below hb8
  have HR2 : Hid (RefR W8 (.agg #[.slice gp gn gc, .int .i64 r2]) a2 r2) := hrr
  have HS8 : Hid (W7.heap.size ≤ W8.heap.size) := hb8.size
  clear xe0 xe1 xf0 xf1 xg0 xg1
  replace HCe := Hid.mk' (HCe.out.below hb8)
  replace HCf := Hid.mk' (HCf.out.below hb8)
  replace HCg := Hid.mk' (HCg.out.below hb8)
  replace HP := Hid.mk' (HP.out.below hb8)
  replace HEr := Hid.mk' (HEr.out.below hb8)
  replace HRr := Hid.mk' (HRr.out.below hb8)
  replace HYb := Hid.mk' (HYb.out.below hb8)
  replace HYc := Hid.mk' (HYc.out.below hb8)
  replace HB := Hid.mk' (HB.out.trans (hb8.mono HB.out.size))
  clear hb8 hP8 c10 her hrr HX7
  dsimp only
  have xe0 := HCe.out.1
  have xe1 := HCe.out.2.1
  have xf0 := HCf.out.1
  have xf1 := HCf.out.2.1
  have xg0 := HCg.out.1
  have xg1 := HCg.out.2.1
  go_upto_region 8 with fail
  clear xe0 xe1 xf0 xf1 xg0 xg1
  have hb9 : Below W8.heap.size W8 (W8.alloc (.cells #[.slice gp gn gc, .int .i64 r2] 35)) := (Below.refl _ _).alloc (Nat.le_refl _) _
  have HCh : Hid (Cl2 (W8.alloc (.cells #[.slice gp gn gc, .int .i64 r2] 35)) W8.heap.size (.slice gp gn gc) (.int .i64 r2)) := cl2_new _ _ _ _
  replace HCe := Hid.mk' (HCe.out.below hb9)
  replace HCf := Hid.mk' (HCf.out.below hb9)
  replace HCg := Hid.mk' (HCg.out.below hb9)
  replace HP := Hid.mk' (HP.out.below hb9)
  replace HEr := Hid.mk' (HEr.out.below hb9)
  replace HRr := Hid.mk' (HRr.out.below hb9)
  replace HYb := Hid.mk' (HYb.out.below hb9)
  replace HYc := Hid.mk' (HYc.out.below hb9)
  replace HE2 := Hid.mk' (HE2.out.below hb9)
  replace HR2 := Hid.mk' (HR2.out.below hb9)
  replace HB := Hid.mk' (HB.out.trans (hb9.mono HB.out.size))
  clear hb9
  generalize (W8.alloc (.cells #[.slice gp gn gc, .int .i64 r2] 35)) = W9 at *
  have HS9 : Hid (W8.heap.size < W9.heap.size) := HCh.out.lt
  have c11 := isR_any vb (.agg #[.slice fp fn fc, .int .i64 r1]) a1 r1 W9 HEr.out HRr.out
  have xe0 := HCe.out.1
  have xe1 := HCe.out.2.1
  have xf0 := HCf.out.1
  have xf1 := HCf.out.2.1
  have xg0 := HCg.out.1
  have xg1 := HCg.out.2.1
  have xh0 := HCh.out.1
  have xh1 := HCh.out.2.1
  go_wp2_with fail
  refine c11.mono ?_
  rintro _ W10 ⟨rfl, hb10⟩
  have HS10 : Hid (W9.heap.size ≤ W10.heap.size) := hb10.size
  clear xe0 xe1 xf0 xf1 xg0 xg1 xh0 xh1
  replace HCe := Hid.mk' (HCe.out.below hb10)
  replace HCf := Hid.mk' (HCf.out.below hb10)
  replace HCg := Hid.mk' (HCg.out.below hb10)
  replace HCh := Hid.mk' (HCh.out.below hb10)
  replace HP := Hid.mk' (HP.out.below hb10)
  replace HYb := Hid.mk' (HYb.out.below hb10)
  replace HYc := Hid.mk' (HYc.out.below hb10)
  replace HE2 := Hid.mk' (HE2.out.below hb10)
  replace HR2 := Hid.mk' (HR2.out.below hb10)
  replace HB := Hid.mk' (HB.out.trans (hb10.mono HB.out.size))
  clear hb10 c11 HEr HRr
  dsimp only
  have c11 := isR_any v7 (.agg #[.slice gp gn gc, .int .i64 r2]) a2 r2 W10 HE2.out HR2.out
  have xe0 := HCe.out.1
  have xe1 := HCe.out.2.1
  have xf0 := HCf.out.1
  have xf1 := HCf.out.2.1
  have xg0 := HCg.out.1
  have xg1 := HCg.out.2.1
  have xh0 := HCh.out.1
  have xh1 := HCh.out.2.1
  go_wp2_with fail
  refine c11.mono ?_
  rintro _ W11 ⟨rfl, hb11⟩
  have HS11 : Hid (W10.heap.size ≤ W11.heap.size) := hb11.size
  clear xe0 xe1 xf0 xf1 xg0 xg1 xh0 xh1
  replace HCe := Hid.mk' (HCe.out.below hb11)
  replace HCf := Hid.mk' (HCf.out.below hb11)
  replace HCg := Hid.mk' (HCg.out.below hb11)
  replace HP := Hid.mk' (HP.out.below hb11)
  replace HYb := Hid.mk' (HYb.out.below hb11)
  replace HYc := Hid.mk' (HYc.out.below hb11)
  replace HB := Hid.mk' (HB.out.trans (hb11.mono HB.out.size))
  clear hb11 c11 HE2 HR2 HCh
  dsimp only
  have c12 := bytesB_any (by have := HNb.out; omega) HYb.out HYc.out
  have xe0 := HCe.out.1
  have xe1 := HCe.out.2.1
  have xf0 := HCf.out.1
  have xf1 := HCf.out.2.1
  have xg0 := HCg.out.1
  have xg1 := HCg.out.2.1
  go_wp2_with fail
  refine c12.mono ?_
  rintro _ W12 ⟨rfl, hb12⟩
  have HS12 : Hid (W11.heap.size ≤ W12.heap.size) := hb12.size
  clear xe0 xe1 xf0 xf1 xg0 xg1
  replace HCe := Hid.mk' (HCe.out.below hb12)
  replace HCf := Hid.mk' (HCf.out.below hb12)
  replace HCg := Hid.mk' (HCg.out.below hb12)
  replace HP := Hid.mk' (HP.out.below hb12)
  replace HYb := Hid.mk' (HYb.out.below hb12)
  replace HYc := Hid.mk' (HYc.out.below hb12)
  replace HB := Hid.mk' (HB.out.trans (hb12.mono HB.out.size))
  clear hb12 c12
  dsimp only
  have c13 := keptF_any HP.out.prs HP.out.ln (HA.out.below HB.out) (fun i x hx => by have e := (HP.out.get hx).2.2; refine ⟨?_, ?_, ?_, ?_, (datB_byt HP.out.ln_ (HP.out.get hx).2.1).symm⟩ <;> rw [e]) HF.out.2 en
  have xe0 := HCe.out.1
  have xe1 := HCe.out.2.1
  have xf0 := HCf.out.1
  have xf1 := HCf.out.2.1
  have xg0 := HCg.out.1
  have xg1 := HCg.out.2.1
  go_wp2_with fail
  refine c13.mono ?_
  rintro _ W13 ⟨rfl, hb13⟩
  have HS13 : Hid (W12.heap.size ≤ W13.heap.size) := hb13.size
  clear xe0 xe1 xf0 xf1 xg0 xg1
  replace HCe := Hid.mk' (HCe.out.below hb13)
  replace HCf := Hid.mk' (HCf.out.below hb13)
  replace HCg := Hid.mk' (HCg.out.below hb13)
  replace HP := Hid.mk' (HP.out.below hb13)
  replace HYb := Hid.mk' (HYb.out.below hb13)
  replace HYc := Hid.mk' (HYc.out.below hb13)
  replace HB := Hid.mk' (HB.out.trans (hb13.mono HB.out.size))
  clear hb13 c13
  dsimp only
  have xe0 := HCe.out.1
  have xe1 := HCe.out.2.1
  have xf0 := HCf.out.1
  have xf1 := HCf.out.2.1
  have xg0 := HCg.out.1
  have xg1 := HCg.out.2.1
  go_upto_region 10 with fail
  have c6 := twin2_any (HA.out.below HB.out) HF.out.2 HF.out.1 en (sgsG S E.length) (datB D E.length) sgsG_len HG.out
  go_wp2_with fail
  refine c6.mono ?_
  rintro _ W14 ⟨sv, F, rfl, own2, dat2, ln2, gs2, hb14⟩
  have HS14 : Hid (W13.heap.size ≤ W14.heap.size) := hb14.size
  clear xe0 xe1 xf0 xf1 xg0 xg1
  replace HCf := Hid.mk' (HCf.out.below hb14)
  replace HCg := Hid.mk' (HCg.out.below hb14)
  replace HP := Hid.mk' (HP.out.below hb14)
  replace HYb := Hid.mk' (HYb.out.below hb14)
  replace HYc := Hid.mk' (HYc.out.below hb14)
  replace HB := Hid.mk' (HB.out.trans (hb14.mono HB.out.size))
  have hcp := cp_new HA.out HF.out.1 own2 ln2 gs2
  obtain ⟨qg, cg, rfl, -⟩ := own_form own2
  have HQ : Hid (Cp W14 W13.heap.size (.slice qg F.length cg) F S D E.length) := hcp
  have HQ2 : Hid (Cp W14 W13.heap.size (.slice qg F.length cg) F S D E.length) := hcp
  have HFl : Hid (F.length = E.length) := hcp.len
  clear hcp own2 dat2 ln2 gs2 hb14 c6 HCe
  dsimp only
  have xf0 := HCf.out.1
  have xf1 := HCf.out.2.1
  have xg0 := HCg.out.1
  have xg1 := HCg.out.2.1
  go_upto_region 11 with fail
  clear xf0 xf1 xg0 xg1
  have hb15 : Below W14.heap.size W14 (W14.alloc (.cells #[.int .u64 en, .slice qg F.length cg] 25)) := (Below.refl _ _).alloc (Nat.le_refl _) _
  have HCk : Hid (Cl2 (W14.alloc (.cells #[.int .u64 en, .slice qg F.length cg] 25)) W14.heap.size (.int .u64 en) (.slice qg F.length cg)) := cl2_new _ _ _ _
  replace HCf := Hid.mk' (HCf.out.below hb15)
  replace HCg := Hid.mk' (HCg.out.below hb15)
  replace HP := Hid.mk' (HP.out.below hb15)
  replace HQ := Hid.mk' (HQ.out.below hb15)
  replace HYb := Hid.mk' (HYb.out.below hb15)
  replace HYc := Hid.mk' (HYc.out.below hb15)
  replace HB := Hid.mk' (HB.out.trans (hb15.mono HB.out.size))
  clear hb15
  generalize (W14.alloc (.cells #[.int .u64 en, .slice qg F.length cg] 25)) = W15 at *
  have HS15 : Hid (W14.heap.size < W15.heap.size) := HCk.out.lt
  have HSz : Hid (w.heap.size < W1.heap.size ∧ W1.heap.size ≤ W2.heap.size ∧ W2.heap.size < W3.heap.size ∧ W3.heap.size ≤ W5.heap.size ∧ W5.heap.size < W13.heap.size ∧ W13.heap.size ≤ W14.heap.size ∧ W14.heap.size < W15.heap.size) := by
    have h2 := HS2.out; have h3 := HS3.out; have h4 := HS4.out; have h5 := HS5.out; have h6 := HS6.out; have h7 := HS7.out; have h8 := HS8.out; have h9 := HS9.out; have h10 := HS10.out; have h11 := HS11.out; have h12 := HS12.out; have h13 := HS13.out; have h14 := HS14.out; have h15 := HS15.out
    exact (by omega : w.heap.size < W1.heap.size ∧ W1.heap.size ≤ W2.heap.size ∧ W2.heap.size < W3.heap.size ∧ W3.heap.size ≤ W5.heap.size ∧ W5.heap.size < W13.heap.size ∧ W13.heap.size ≤ W14.heap.size ∧ W14.heap.size < W15.heap.size)
  clear HS2 HS3 HS4 HS5 HS6 HS7 HS8 HS9 HS10 HS11 HS12 HS13 HS14 HS15 HG
  have c14 := turned_any HP.out.own HP.out.ln HF.out.2 (by have := HSz.out; omega) HP.out.by_ (fun i hi => by rw [HP.out.ln_ i hi]; exact HP.out.sz i hi) en
  have xf0 := HCf.out.1
  have xf1 := HCf.out.2.1
  have xg0 := HCg.out.1
  have xg1 := HCg.out.2.1
  have xk0 := HCk.out.1
  have xk1 := HCk.out.2.1
  go_wp2_with fail
  refine c14.mono ?_
  rintro _ W16 ⟨rfl, ln16, own16, bl16, ot16⟩
  clear xf0 xf1 xg0 xg1 xk0 xk1
  have oth : ∀ k, k < W15.heap.size → (k < W1.heap.size ∨ W2.heap.size ≤ k) → W16.heap[k]? = W15.heap[k]? := fun k hk hn => HP2.out.oth ot16 hk hn
  have sz := HSz.out
  replace HB := Hid.mk' (HB.out.trans (bl16.mono (by omega)))
  replace HCf := Hid.mk' (HCf.out.blk (oth _ HCf.out.lt (.inr (by omega))))
  replace HCg := Hid.mk' (HCg.out.blk (oth _ HCg.out.lt (.inr (by omega))))
  replace HCk := Hid.mk' (HCk.out.blk (oth _ HCk.out.lt (.inr (by omega))))
  replace HP := Hid.mk' (HP.out.turn ln16 own16)
  replace HQ := Hid.mk' (HQ.out.move HQ2.out (fun g h1 h2 => oth g (by omega) (.inr (by omega))))
  replace HYb := Hid.mk' (byt_move HYb.out (fun b o e hn => oth b (by have := HLb.out b o e hn; omega) (.inr (by have := HLb.out b o e hn; omega))))
  replace HYc := Hid.mk' (byt_move HYc.out (fun b o e hn => oth b (by have := HLc.out b o e hn; omega) (.inr (by have := HLc.out b o e hn; omega))))
  have HS16 : Hid (W15.heap.size ≤ W16.heap.size) := bl16.size
  clear ln16 own16 bl16 ot16 oth sz c14
  dsimp only
  have xf0 := HCf.out.1
  have xf1 := HCf.out.2.1
  have xg0 := HCg.out.1
  have xg1 := HCg.out.2.1
  have xk0 := HCk.out.1
  have xk1 := HCk.out.2.1
  go_upto_region 12 with fail
  have c14 := turned_any HQ.out.own HQ.out.ln (by rw [HFl.out]; exact HF.out.2) (by have := HSz.out; have := HS16.out; omega) (fun i hi => HQ.out.by_ i (by rw [HFl.out] at hi; exact hi)) (fun i hi => by rw [HFl.out] at hi; rw [HQ.out.ln_ i hi]; exact HQ.out.sz i hi) en
  go_wp2_with fail
  refine c14.mono ?_
  rintro _ W17 ⟨rfl, ln16, own16, bl16, ot16⟩
  clear xf0 xf1 xg0 xg1 xk0 xk1
  have oth : ∀ k, k < W16.heap.size → (k < W13.heap.size ∨ W14.heap.size ≤ k) → W17.heap[k]? = W16.heap[k]? := fun k hk hn => HQ2.out.oth ot16 hk hn
  have sz := HSz.out
  have sz2 := HS16.out
  replace HB := Hid.mk' (HB.out.trans (bl16.mono (by omega)))
  replace HCf := Hid.mk' (HCf.out.blk (oth _ HCf.out.lt (.inl (by omega))))
  replace HCg := Hid.mk' (HCg.out.blk (oth _ HCg.out.lt (.inl (by omega))))
  replace HCk := Hid.mk' (HCk.out.blk (oth _ HCk.out.lt (.inr (by omega))))
  replace HP := Hid.mk' (HP.out.move HP2.out (fun g h1 h2 => oth g (by omega) (.inl (by omega))))
  replace HQ := Hid.mk' (HQ.out.turn ln16 own16)
  replace HYb := Hid.mk' (byt_move HYb.out (fun b o e hn => oth b (by have := HLb.out b o e hn; omega) (.inl (by have := HLb.out b o e hn; omega))))
  replace HYc := Hid.mk' (byt_move HYc.out (fun b o e hn => oth b (by have := HLc.out b o e hn; omega) (.inl (by have := HLc.out b o e hn; omega))))
  have HS17 : Hid (W5.heap.size < W17.heap.size) := by have := bl16.size; exact (by omega : W5.heap.size < W17.heap.size)
  clear ln16 own16 bl16 ot16 oth sz sz2 c14
  dsimp only
  have xf0 := HCf.out.1
  have xf1 := HCf.out.2.1
  have xg0 := HCg.out.1
  have xg1 := HCg.out.2.1
  have xk0 := HCk.out.1
  have xk1 := HCk.out.2.1
  go_upto_region 13 with fail
  have c7 := writeX_any HP.out.prs HF.out.2 (by rw [HP.out.gs]; exact plc_sgs) (HL.out.below HB.out) en HEn.out
  go_wp2_with fail
  refine c7.mono ?_
  rintro e18 W18 hP18
  obtain ⟨hb18, pd, nd, cd, vd, rfl⟩ := wx_form hP18
  have HX18 : Hid (WxP W17 E (datB (tD D) E.length) en (.returned (.tuple #[.slice pd nd cd, vd])) W18) := hP18
  have HS18 : Hid (W17.heap.size ≤ W18.heap.size) := hb18.size
  clear xf0 xf1 xg0 xg1 xk0 xk1
  replace HCg := Hid.mk' (HCg.out.below hb18)
  replace HCk := Hid.mk' (HCk.out.below hb18)
  replace HQ := Hid.mk' (HQ.out.below hb18)
  replace HYb := Hid.mk' (HYb.out.below hb18)
  replace HYc := Hid.mk' (HYc.out.below hb18)
  replace HB := Hid.mk' (HB.out.trans (hb18.mono HB.out.size))
  clear hb18 hP18 c7 HCf
  dsimp only
  have HAr : Hid (Arg W18 qg F.length cg (srs F) (datD F (datB (tD D) E.length))) := HQ.out.prs.arg HQ.out.bd
  have c8 := writeQ_any HAr.out (fun i hi => by rw [HFl.out] at hi; rw [(HQ.out.sr hi).2.2.2]; exact HQ.out.sz i hi) en HEn.out
  have xg0 := HCg.out.1
  have xg1 := HCg.out.2.1
  have xk0 := HCk.out.1
  have xk1 := HCk.out.2.1
  have zg := HCg.out.2.2
  go_upto_region 14 with fail
  go_wp2_with fail
  refine c8.mono ?_
  rintro e19 W19 hP19
  rw [HFl.out] at hP19
  replace hP19 := HQ.out.wq hP19
  obtain ⟨hb19, px, nx, cx, hp, hn, hc, r3, rfl⟩ := wq_form hP19
  obtain ⟨hnn, hn9, ⟨a3, her, hrr⟩, ⟨ys, hyd, hyx⟩, hld, hlx⟩ := wr_both HP.out.gs HX18.out hP19
  subst hnn
  have HE3 : Hid (ErrR W19 vd a3 r3) := her.below hb19
  have HR3 : Hid (RefR W19 (.agg #[.slice hp hn hc, .int .i64 r3]) a3 r3) := hrr
  have HYd : Hid (Byt W19 pd nd cd ys) := hyd.below hb19
  have HYx : Hid (Byt W19 px nd cx ys) := hyx
  have HNd : Hid (nd ≤ 262144) := hn9
  have HLd : Hid (∀ b o, pd = some ⟨b, o, .none⟩ → b ≠ W5.heap.size) := fun b o e e2 => by have := hld b o e; have := HS17.out; omega
  have HLx : Hid (∀ b o, px = some ⟨b, o, .none⟩ → b ≠ W5.heap.size) := fun b o e e2 => by have := hlx b o e; have := HS17.out; have := HS18.out; omega
  clear xg0 xg1 xk0 xk1
  clear zg
  replace HCg := Hid.mk' (HCg.out.below hb19)
  replace HYb := Hid.mk' (HYb.out.below hb19)
  replace HYc := Hid.mk' (HYc.out.below hb19)
  replace HB := Hid.mk' (HB.out.trans (hb19.mono HB.out.size))
  clear hb19 hP19 c8 her hrr hyd hyx hld hlx hn9 HX18 HAr HCk
  dsimp only
  have xg0 := HCg.out.1
  have xg1 := HCg.out.2.1
  have zg0 := HCg.out.2.2 0
  have zg1 := HCg.out.2.2 1
  go_upto_region 15 with fail
  clear xg0 xg1
  clear zg0 zg1
  have HBz : Hid (Below w.heap.size w ((W19.setCell ⟨W5.heap.size, 0, .none⟩ (.slice hp hn hc)).setCell ⟨W5.heap.size, 1, .none⟩ (.int .i64 r3))) := (HB.out.setCell (p := ⟨W5.heap.size, 0, .none⟩) (by have := HSz.out; show w.heap.size ≤ W5.heap.size; omega) _).setCell (p := ⟨W5.heap.size, 1, .none⟩) (by have := HSz.out; show w.heap.size ≤ W5.heap.size; omega) _
  clear HB
  have HB : Hid (Below w.heap.size w ((W19.setCell ⟨W5.heap.size, 0, .none⟩ (.slice hp hn hc)).setCell ⟨W5.heap.size, 1, .none⟩ (.int .i64 r3))) := HBz.out
  clear HBz
  have HEz : Hid (ErrR ((W19.setCell ⟨W5.heap.size, 0, .none⟩ (.slice hp hn hc)).setCell ⟨W5.heap.size, 1, .none⟩ (.int .i64 r3)) vd a3 r3) := err_set HE3.out HCg.out.1 (fun s => nofun)
  have HRz : Hid (RefR ((W19.setCell ⟨W5.heap.size, 0, .none⟩ (.slice hp hn hc)).setCell ⟨W5.heap.size, 1, .none⟩ (.int .i64 r3)) (.agg #[.slice hp hn hc, .int .i64 r3]) a3 r3) := ref_set HR3.out HCg.out.1 (fun s => nofun)
  have HDz : Hid (Byt ((W19.setCell ⟨W5.heap.size, 0, .none⟩ (.slice hp hn hc)).setCell ⟨W5.heap.size, 1, .none⟩ (.int .i64 r3)) pd nd cd ys) := byt_move HYd.out (fun b o e hn => set2_blk (HLd.out b o e))
  have HXz : Hid (Byt ((W19.setCell ⟨W5.heap.size, 0, .none⟩ (.slice hp hn hc)).setCell ⟨W5.heap.size, 1, .none⟩ (.int .i64 r3)) px nd cx ys) := byt_move HYx.out (fun b o e hn => set2_blk (HLx.out b o e))
  have Hbz : Hid (Byt ((W19.setCell ⟨W5.heap.size, 0, .none⟩ (.slice hp hn hc)).setCell ⟨W5.heap.size, 1, .none⟩ (.int .i64 r3)) pb nb cb xs) := byt_move HYb.out (fun b o e hn => set2_blk (by have := HLb.out b o e hn; omega))
  have Hcz : Hid (Byt ((W19.setCell ⟨W5.heap.size, 0, .none⟩ (.slice hp hn hc)).setCell ⟨W5.heap.size, 1, .none⟩ (.int .i64 r3)) pc nb cc xs) := byt_move HYc.out (fun b o e hn => set2_blk (by have := HLc.out b o e hn; omega))
  have HCz : Hid (Cl2 ((W19.setCell ⟨W5.heap.size, 0, .none⟩ (.slice hp hn hc)).setCell ⟨W5.heap.size, 1, .none⟩ (.int .i64 r3)) W5.heap.size (.slice hp hn hc) (.int .i64 r3)) := cl2_set HCg.out
  clear HE3 HR3 HYd HYx HYb HYc HCg
  generalize ((W19.setCell ⟨W5.heap.size, 0, .none⟩ (.slice hp hn hc)).setCell ⟨W5.heap.size, 1, .none⟩ (.int .i64 r3)) = W20 at *
  have c11 := isR_any vd (.agg #[.slice hp hn hc, .int .i64 r3]) a3 r3 W20 HEz.out HRz.out
  have xz0 := HCz.out.1
  have xz1 := HCz.out.2.1
  go_wp2_with fail
  refine c11.mono ?_
  rintro _ W21 ⟨rfl, hb21⟩
  clear xz0 xz1
  replace HDz := Hid.mk' (HDz.out.below hb21)
  replace HXz := Hid.mk' (HXz.out.below hb21)
  replace Hbz := Hid.mk' (Hbz.out.below hb21)
  replace Hcz := Hid.mk' (Hcz.out.below hb21)
  replace HB := Hid.mk' (HB.out.trans (hb21.mono HB.out.size))
  clear hb21 c11
  dsimp only
  have c12 := bytesB_any (by have := HNd.out; omega) HDz.out HXz.out
  go_wp2_with fail
  refine c12.mono ?_
  rintro _ W22 ⟨rfl, hb22⟩
  replace Hbz := Hid.mk' (Hbz.out.below hb22)
  replace Hcz := Hid.mk' (Hcz.out.below hb22)
  replace HB := Hid.mk' (HB.out.trans (hb22.mono HB.out.size))
  clear hb22 c12
  dsimp only
  have c12 := bytesB_any (by have := HNb.out; omega) Hbz.out Hcz.out
  go_wp2_with fail
  refine c12.mono ?_
  rintro _ W23 ⟨rfl, hb23⟩
  replace HB := Hid.mk' (HB.out.trans (hb23.mono HB.out.size))
  clear hb23 c12
  dsimp only
  go_wp2_with fail
  go_ret
  exact ⟨rfl, HB.out⟩
end Go.Proofs.YtloldhcljdmofaaDoor
