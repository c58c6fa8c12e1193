import Derived.Test.YtnlbomggadflmabRb
namespace Go.Proofs.Ytnlbomggadflmab
open Go.RowKit
set_option linter.unusedVariables false
set_option linter.unusedSimpArgs false
set_option maxRecDepth 100000
section
variable {w : World} {b : Nat} {P : Nat → Pr} {nx : Int}
theorem rch_iff {s : Int} {i : Nat} {p : Pr} : rch s i p = true ↔ i ≠ 0 ∧ p.st ≠ 0 ∧ p.par = s := by
  simp only [rch, Bool.and_eq_true, Bool.not_eq_true', beq_eq_false_iff_ne, beq_iff_eq, and_assoc]
  constructor
  · rintro ⟨a, b, c⟩; exact ⟨by omega, b, c⟩
  · rintro ⟨a, b, c⟩; exact ⟨by omega, b, c⟩
theorem no_self (h : Inv P nx) {i : Nat} (hi : i < 64) (i0 : i ≠ 0) (hs : (P i).st ≠ 0) : (P i).par ≠ i := fun e => by
  obtain ⟨j, q1, q2, q3, q4, q5⟩ := h.pa i hi i0 hs
  have : j = i := by omega
  subst this
  omega
theorem chd0 (h : Inv P nx) (s : Int) : chd s 0 (P 0) = false := by
  cases q : chd s 0 (P 0)
  · rfl
  · have := chd_iff.1 q
    have := (h.r0 this.1).1
    omega
theorem rch_chd (h : Inv P nx) (s : Int) (i : Nat) (hi : i < 64) : rch s i (P i) = chd s i (P i) := by
  by_cases i0 : i = 0
  · subst i0
    rw [chd0 h]
    simp [rch]
  · cases q : chd s i (P i)
    · cases q2 : rch s i (P i)
      · rfl
      · have := rch_iff.1 q2
        have hc : chd s i (P i) = true := chd_iff.2 ⟨this.2.1, this.2.2, fun e => no_self h hi i0 this.2.1 (by rw [this.2.2]; exact e.symm)⟩
        rw [hc] at q
        cases q
    · have := chd_iff.1 q
      exact rch_iff.2 ⟨i0, this.1, this.2.1⟩
theorem no_child (h : Inv P nx) {s : Int} (hp : ¬ isP P s) (i : Nat) (hi : i < 64) : chd s i (P i) = false := by
  by_cases i0 : i = 0
  · subst i0; exact chd0 h s
  · cases q : chd s i (P i)
    · rfl
    · exfalso
      have := chd_iff.1 q
      obtain ⟨j, q1, q2, q3, q4, q5⟩ := h.pa i hi i0 this.1
      exact hp ⟨by omega, by omega, by rw [show s.toNat = j by omega]; exact q3⟩
set_option maxHeartbeats 4000000 in
theorem rzombie_any (h : Tb w b P nx) (hI : Inv P nx) (par : Int) : Calls Try.prog 29 #[.pointer (some ⟨b, 0, .none⟩), .int .i64 par] w fun e w' => e = .returned (.tuple #[.int .i64 (zoS P par 64), .bool (zoA P par 64)]) ∧ w' = w := by
  have k1 := none_any h hI.n1
  have k2 := there_any h par
  have HT : Hid (Tb w b P nx) := h
  have HI : Hid (Inv P nx) := hI
  clear h hI
  by_cases hp : isP P par
  · rw [decide_eq_true hp] at k2
    clear hp
    go_enter Try.func29, Try.ntmps29
    go_wp2_with fail
    refine k1.mono ?_
    rintro e w9 ⟨rfl, hw⟩
    obtain rfl : w = w9 := hw.symm
    clear k1
    go_wp2_with fail
    refine k2.mono ?_
    rintro e w9 ⟨rfl, hw⟩
    obtain rfl : w = w9 := hw.symm
    clear k2
    go_wp2
    have HZ1 : Hid (zoA P par 1 = false) := by rw [Hid, zoA_succ, chd0 HI.out]; rfl
    have HZ2 : Hid (∀ i, i < 1 → (chd par i (P i) && (P i).st == 3) = false) := fun i hi => by
      obtain rfl : i = 0 := by omega
      rw [chd0 HI.out]
      rfl
    go_loopw [7, 8] (fun t k wr => ∃ j : Nat, 1 ≤ j ∧ j ≤ 64 ∧ k = .int .i64 j ∧ t = .bool (zoA P par j) ∧ Hid (wr = w ∧ ∀ i, i < j → (chd par i (P i) && (P i).st == 3) = false)) (fun _ k _ => (64 - intOf k).toNat)
    case atStart => exact ⟨1, by omega, by omega, rfl, by rw [HZ1.out], rfl, HZ2.out⟩
    case round =>
      obtain ⟨j, hj1, hj, rfl, rfl, HV⟩ := hrel
      obtain rfl : w = wr := HV.out.1.symm
      have HV2 : Hid (∀ i, i < j → (chd par i (P i) && (P i).st == 3) = false) := HV.out.2
      clear HV
      by_cases hl : j < 64
      · have g0 : (j : Int) < 64 := by omega
        have k3 := child_any HT.out j hl par
        rw [rch_chd HI.out par j hl] at k3
        have c1 := (HT.out.cells j hl).2.1
        have HS := zoA_succ P par j
        have HSS : Hid (zoA P par (j + 1) = (zoA P par j || chd par j (P j))) := HS
        clear HS
        have HN : Hid ((chd par j (P j) && (P j).st == 3) = false → ∀ i, i < j + 1 → (chd par i (P i) && (P i).st == 3) = false) := fun q i hi => by
          by_cases e : i = j
          · rw [e]; exact q
          · exact HV2.out i (by omega)
        go_wp2_with fail
        refine k3.mono ?_
        rintro e w9 ⟨rfl, hw⟩
        obtain rfl : w = w9 := hw.symm
        clear k3
        obtain ⟨an, han⟩ : ∃ an, an = zoA P par j := ⟨_, rfl⟩
        rw [← han] at HSS ⊢
        cases hc : chd par j (P j) with
        | false =>
          rw [hc] at HSS HN
          have HNN := HN.out rfl
          have HN2 : Hid (∀ i, i < j + 1 → (chd par i (P i) && (P i).st == 3) = false) := HNN
          clear HNN han hc
          cases an
          · go_wp2
            exact ⟨⟨j + 1, by omega, by omega, rfl, by rw [HSS.out]; rfl, trivial, HN2.out⟩, by simp only [intOf]; omega⟩
          · go_wp2
            exact ⟨⟨j + 1, by omega, by omega, rfl, by rw [HSS.out]; rfl, trivial, HN2.out⟩, by simp only [intOf]; omega⟩
        | true =>
          by_cases h3 : (P j).st = 3
          · have HF : Hid (zoS P par 64 = j ∧ zoA P par 64 = true) := by
              refine ⟨?_, ?_⟩
              · rw [zoS, find_range _ 64 j hl HV2.out (by simp [hc, h3])]; rfl
              · rw [zoA, List.any_eq_true]; exact ⟨j, by simpa using hl, hc⟩
            rw [h3] at c1
            clear han hc h3 HN HSS
            go_wp2
            go_ret2
            exact ⟨by rw [HF.out.1, HF.out.2]; rfl, rfl⟩
          · have g3 : ((P j).st == 3) = false := by simpa using h3
            rw [hc] at HSS
            have HNN := HN.out (by rw [g3]; simp)
            have HN2 : Hid (∀ i, i < j + 1 → (chd par i (P i) && (P i).st == 3) = false) := HNN
            clear HNN han hc h3
            cases an
            · go_wp2
              exact ⟨⟨j + 1, by omega, by omega, rfl, by rw [HSS.out]; rfl, trivial, HN2.out⟩, by simp only [intOf]; omega⟩
            · go_wp2
              exact ⟨⟨j + 1, by omega, by omega, rfl, by rw [HSS.out]; rfl, trivial, HN2.out⟩, by simp only [intOf]; omega⟩
      · obtain rfl : j = 64 := by omega
        have HF : Hid (zoS P par 64 = -1) := by
          rw [Hid, zoS, show (List.range 64).find? (fun i => chd par i (P i) && (P i).st == 3) = none from ?_]
          · rfl
          · rw [List.find?_eq_none]
            intro i hi
            rw [HV2.out i (by simpa using hi)]
            decide
        go_wp2
        go_ret2
        exact ⟨by rw [HF.out]; rfl, rfl⟩
  · rw [decide_eq_false hp] at k2
    have HF : Hid (zoS P par 64 = -1 ∧ zoA P par 64 = false) := by
      refine ⟨?_, ?_⟩
      · rw [zoS, show (List.range 64).find? (fun i => chd par i (P i) && (P i).st == 3) = none from ?_]
        · rfl
        · rw [List.find?_eq_none]
          intro i hi
          rw [no_child HI.out hp i (by simpa using hi)]
          simp
      · rw [zoA, List.any_eq_false]
        intro i hi
        rw [no_child HI.out hp i (by simpa using hi)]
        simp
    clear hp
    go_enter Try.func29, Try.ntmps29
    go_wp2_with fail
    refine k1.mono ?_
    rintro e w9 ⟨rfl, hw⟩
    obtain rfl : w = w9 := hw.symm
    clear k1
    go_wp2_with fail
    refine k2.mono ?_
    rintro e w9 ⟨rfl, hw⟩
    obtain rfl : w = w9 := hw.symm
    clear k2
    go_wp2
    go_ret2
    exact ⟨by rw [HF.out.1, HF.out.2]; rfl, rfl⟩
set_option maxHeartbeats 4000000 in
theorem rend_any (h : Tb w b P nx) (hI : Inv P nx) (s sta : Int) : Calls Try.prog 27 #[.pointer (some ⟨b, 0, .none⟩), .int .i64 s, .int .i32 sta] w fun e w' => e = .returned (.tuple #[.bool (enZ P s sta), .int .i64 (enE P s)]) ∧ Tb w' b (enP P s sta) nx ∧ Trn b w w' := by
  have k1 := none_any h hI.n1
  have k2 := there_any h s
  have H : Hid (Tb w b P nx) := h
  have HI : Hid (Inv P nx) := hI
  by_cases hp : isP P s
  · rw [decide_eq_true hp] at k2
    obtain ⟨n, rfl, g, hst⟩ := isP_nat hp
    have gn : (n : Int) < 64 := by omega
    obtain ⟨c0, c1, c2, c3, c4, c5, c6⟩ := h.cells n g
    clear h hI
    by_cases h4 : (P n).st = 3
    · have e1 : enE P n = 265 := by rw [enE, if_pos hp, Int.toNat_natCast, if_pos h4]
      have e2 : enP P n sta = P := by rw [enP, e1]; rfl
      have e3 : enZ P n sta = false := by rw [enZ, e1]; rfl
      rw [e1, e2, e3]
      rw [h4] at c1
      clear e1 e2 e3 h4 hp hst
      go_enter Try.func27, Try.ntmps27
      go_wp2_with fail
      refine k1.mono ?_
      rintro e w9 ⟨rfl, hw⟩
      obtain rfl : w = w9 := hw.symm
      clear k1
      go_wp2_with fail
      refine k2.mono ?_
      rintro e w9 ⟨rfl, hw⟩
      obtain rfl : w = w9 := hw.symm
      clear k2
      go_wp2
      go_ret2
      exact ⟨rfl, H.out, Trn.refl _ _⟩
    have e1 : enE P n = 0 := by rw [enE, if_pos hp, Int.toNat_natCast, if_neg h4]
    have g4 : ((P n).st == 3) = false := by simpa using h4
    have f1 := H.out.fr (n * 7 + 1) (by omega)
    have f3 := H.out.fr (n * 7 + 3) (by omega)
    have f4 := H.out.fr (n * 7 + 4) (by omega)
    have f6 := H.out.fr (n * 7 + 6) (by omega)
    have HT2 : Hid (Tb ((((w.setCell ⟨b, n * 7 + 1, .none⟩ (.int .i64 3)).setCell ⟨b, n * 7 + 3, .none⟩ (.int .i64 0)).setCell ⟨b, n * 7 + 4, .none⟩ (.int .i64 0)).setCell ⟨b, n * 7 + 6, .none⟩ (.int .i32 sta)) b (en1 P n sta) nx) := tb_end H.out n g sta
    have HR2 : Hid (Trn b w ((((w.setCell ⟨b, n * 7 + 1, .none⟩ (.int .i64 3)).setCell ⟨b, n * 7 + 3, .none⟩ (.int .i64 0)).setCell ⟨b, n * 7 + 4, .none⟩ (.int .i64 0)).setCell ⟨b, n * 7 + 6, .none⟩ (.int .i32 sta))) := (((Trn.setCell _ _ _ _).trans (Trn.setCell _ _ _ _)).trans (Trn.setCell _ _ _ _)).trans (Trn.setCell _ _ _ _)
    rw [e1]
    have HE1 : Hid (enE P n = 0) := e1
    have HST : Hid ((P n).st ≠ 0) := hst
    clear e1 hp hst h4
    go_enter Try.func27, Try.ntmps27
    go_wp2_with fail
    refine k1.mono ?_
    rintro e w9 ⟨rfl, hw⟩
    obtain rfl : w = w9 := hw.symm
    clear k1
    go_wp2_with fail
    refine k2.mono ?_
    rintro e w9 ⟨rfl, hw⟩
    obtain rfl : w = w9 := hw.symm
    clear k2
    go_upto_region 11 with fail
    clear c0 c1 c2 c3 c4 c5 c6 f1 f3 f4 f6 g4
    generalize (((w.setCell ⟨b, n * 7 + 1, .none⟩ (.int .i64 3)).setCell ⟨b, n * 7 + 3, .none⟩ (.int .i64 0)).setCell ⟨b, n * 7 + 4, .none⟩ (.int .i64 0)).setCell ⟨b, n * 7 + 6, .none⟩ (.int .i32 sta) = w2 at *
    by_cases n0 : n = 0
    · subst n0
      have HE2 : Hid (enP P ((0 : Nat) : Int) sta = en1 P ((0 : Nat) : Int) sta ∧ enZ P ((0 : Nat) : Int) sta = false) := ⟨by rw [enP, HE1.out]; rfl, by rw [enZ, if_neg (fun x => x.2 rfl)]⟩
      go_wp2
      refine wp_loop_once ?_
      go_wp2
      go_ret2
      exact ⟨by rw [HE2.out.2]; rfl, by rw [HE2.out.1]; exact HT2.out, HR2.out⟩
    · have h6 : (n : Int) ≠ 0 := by omega
      have g6 : ((n : Int) == 0) = false := by simpa using h6
      have g7 : ((n : Int) != 0) = true := by simpa using h6
      have HE2 : Hid (enP P (n : Int) sta = adop (en1 P n sta) n ∧ enZ P (n : Int) sta = adoZ (en1 P n sta) n 64) := ⟨by rw [enP, HE1.out, if_pos rfl, if_neg h6], by rw [enZ, if_pos ⟨HE1.out, h6⟩]⟩
      have key : ∀ i, i < 64 → rch (n : Int) i (en1 P n sta i) = chd (n : Int) i (en1 P n sta i) := fun i hi => by
        have hpar : (en1 P (n : Int) sta i).par = (P i).par ∧ ((en1 P (n : Int) sta i).st = 0 ↔ (P i).st = 0) := by
          rw [en1, Int.toNat_natCast]
          by_cases e : i = n
          · subst e
            rw [up_same]
            exact ⟨rfl, ⟨fun x => (by cases x), fun x => absurd x HST.out⟩⟩
          · rw [up_other _ _ _ _ e]
            exact ⟨rfl, Iff.rfl⟩
        have hh := rch_chd HI.out (n : Int) i hi
        cases q : chd (n : Int) i (P i)
        · rw [q] at hh
          have a1 : rch (n : Int) i (en1 P (n : Int) sta i) = false := by
            cases x : rch (n : Int) i (en1 P (n : Int) sta i)
            · rfl
            · have y := rch_iff.1 x
              rw [rch_iff.2 ⟨y.1, fun z => y.2.1 (hpar.2.2 z), by rw [← hpar.1]; exact y.2.2⟩] at hh
              cases hh
          have a2 : chd (n : Int) i (en1 P (n : Int) sta i) = false := by
            cases x : chd (n : Int) i (en1 P (n : Int) sta i)
            · rfl
            · have y := chd_iff.1 x
              rw [chd_iff.2 ⟨fun z => y.1 (hpar.2.2 z), by rw [← hpar.1]; exact y.2.1, y.2.2⟩] at q
              cases q
          rw [a1, a2]
        · rw [q] at hh
          have y := chd_iff.1 q
          have z := rch_iff.1 hh
          rw [rch_iff.2 ⟨z.1, fun u => z.2.1 (hpar.2.1 u), by rw [hpar.1]; exact z.2.2⟩, chd_iff.2 ⟨fun u => y.1 (hpar.2.1 u), by rw [hpar.1]; exact y.2.1, y.2.2⟩]
      have k0 : chd (n : Int) 0 (en1 P n sta 0) = false := by
        rw [← key 0 (by omega)]
        simp [rch]
      have KEY : Hid (∀ i, i < 64 → rch (n : Int) i (en1 P n sta i) = chd (n : Int) i (en1 P n sta i)) := key
      have H1 : Hid (adoZ (en1 P n sta) n 1 = false ∧ part_ 1 (adop (en1 P n sta) n) (en1 P n sta) = en1 P n sta) := ⟨by rw [adoZ_succ, k0]; rfl, by rw [part_same _ _ _ (by rw [adop, k0]; rfl), part_0]⟩
      clear key k0 h6 n0
      generalize en1 P (n : Int) sta = A at *
      go_wp2
      go_loopw [9, 10] (fun t k wr => ∃ j : Nat, 1 ≤ j ∧ j ≤ 64 ∧ k = .int .i64 j ∧ t = .bool (adoZ A n j) ∧ Hid (Tb wr b (part_ j (adop A n) A) nx ∧ Trn b w wr)) (fun _ k _ => (64 - intOf k).toNat)
      case atStart => exact ⟨1, by omega, by omega, rfl, by rw [H1.out.1], by rw [H1.out.2]; exact HT2.out, HR2.out⟩
      case round =>
        clear HT2 HR2
        obtain ⟨j, hj1, hj, rfl, rfl, HV⟩ := hrel
        by_cases hl : j < 64
        · have g0 : (j : Int) < 64 := by omega
          have k3 := child_any HV.out.1 j hl (n : Int)
          rw [part_at, KEY.out j hl] at k3
          obtain ⟨c0, c1, c2, c3, c4, c5, c6⟩ := HV.out.1.cells j hl
          rw [part_at] at c0 c1 c2 c3 c4 c5 c6
          have f2 := HV.out.1.fr (j * 7 + 2) (by omega)
          have HS : Hid (adoZ A n (j + 1) = (adoZ A n j || (chd n j (A j) && (A j).st == 3))) := adoZ_succ A n j
          go_wp2_with fail
          refine k3.mono ?_
          rintro e w9 ⟨rfl, hw⟩
          obtain rfl : wr = w9 := hw.symm
          clear k3
          cases hc : chd (n : Int) j (A j) with
          | false =>
            rw [hc] at HS
            have HU : Hid (part_ (j + 1) (adop A n) A = part_ j (adop A n) A) := part_same _ _ _ (by rw [adop, hc]; rfl)
            go_wp2
            exact ⟨⟨j + 1, by omega, by omega, rfl, by rw [HS.out]; simp, by rw [HU.out]; exact HV.out.1, HV.out.2⟩, by simp only [intOf]; omega⟩
          | true =>
            rw [hc] at HS
            have HU : Hid (part_ (j + 1) (adop A n) A = up (part_ j (adop A n) A) j { A j with par := 0 }) := by rw [Hid, part_up, adop, hc]; rfl
            have HT3 : Hid (Tb (wr.setCell ⟨b, j * 7 + 2, .none⟩ (.int .i64 0)) b (up (part_ j (adop A n) A) j { A j with par := 0 }) nx ∧ Trn b w (wr.setCell ⟨b, j * 7 + 2, .none⟩ (.int .i64 0))) := ⟨HV.out.1.set j 2 hl (by omega) (.int .i64 0) { A j with par := 0 } (by rw [part_at]; rfl), HV.out.2.trans (Trn.setCell _ _ _ _)⟩
            obtain ⟨an, han⟩ : ∃ an, an = adoZ A n j := ⟨_, rfl⟩
            rw [← han] at HS ⊢
            clear han hc
            cases an
            · go_wp2
              exact ⟨⟨j + 1, by omega, by omega, rfl, by rw [HS.out]; simp, by rw [HU.out]; exact HT3.out.1, HT3.out.2⟩, by simp only [intOf]; omega⟩
            · go_wp2
              exact ⟨⟨j + 1, by omega, by omega, rfl, by rw [HS.out]; simp, by rw [HU.out]; exact HT3.out.1, HT3.out.2⟩, by simp only [intOf]; omega⟩
        · obtain rfl : j = 64 := by omega
          have HF : Hid (Tb wr b (adop A n) nx ∧ Trn b w wr) := ⟨HV.out.1.congr (fun i hi => if_pos hi), HV.out.2⟩
          go_wp2
          go_ret2
          exact ⟨by rw [HE2.out.2]; rfl, by rw [HE2.out.1]; exact HF.out.1, HF.out.2⟩
  · have e1 : enE P s = 260 := by rw [enE, if_neg hp]
    have e2 : enP P s sta = P := by rw [enP, e1]; rfl
    have e3 : enZ P s sta = false := by rw [enZ, e1]; rfl
    rw [decide_eq_false hp] at k2
    rw [e1, e2, e3]
    clear h hI e1 e2 e3 hp
    go_enter Try.func27, Try.ntmps27
    go_wp2_with fail
    refine k1.mono ?_
    rintro e w9 ⟨rfl, hw⟩
    obtain rfl : w = w9 := hw.symm
    clear k1
    go_wp2_with fail
    refine k2.mono ?_
    rintro e w9 ⟨rfl, hw⟩
    obtain rfl : w = w9 := hw.symm
    clear k2
    go_wp2
    go_ret2
    exact ⟨rfl, H.out, Trn.refl _ _⟩
end
end Go.Proofs.Ytnlbomggadflmab
