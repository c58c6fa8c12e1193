import Derived.Test.YtnlbomggadflmabRb
namespace Go.Proofs.Ytnlbomggadflmab
open Go.RowKit
set_option linter.unusedVariables false
set_option linter.unusedSimpArgs false
set_option maxRecDepth 100000
section
variable {w : World} {b : Nat} {P : Nat → Pr} {nx : Int}
set_option maxHeartbeats 4000000 in
theorem radd_any (h : Tb w b P nx) (hI : Inv P nx) (par : Int) : Calls Try.prog 15 #[.pointer (some ⟨b, 0, .none⟩), .int .i64 par] w (AdP w b P nx par) := by
  have k1 := none_any h hI.n1
  have k2 := there_any h 0
  have k3 := there_any h par
  have k4 := rleast_any h
  have H : Hid (Tb w b P nx) := h
  have hm := hI.n2
  have hn1 := hI.n1
  have cn := h.cn
  have e0 : decide (isP P 0) = anyP P := by
    cases q : anyP P
    · refine decide_eq_false (fun x => ?_)
      rw [(anyP_iff hI).2 x.2.2] at q
      cases q
    · exact decide_eq_true ⟨by decide, by decide, (anyP_iff hI).1 q⟩
  rw [e0] at k2
  clear e0
  have HC : Hid (cch P par = (decide (isP P par) && !((P par.toNat).st == 3))) := rfl
  have hcell : isP P par → w.cell? ⟨b, par.toNat * 7 + 1, .none⟩ = some (.int .i64 (P par.toNat).st) := fun hp => by
    obtain ⟨n, rfl, g, _⟩ := isP_nat hp
    rw [Int.toNat_natCast]
    exact (h.cells n g).2.1
  clear h hI
  by_cases hB : anyP P = true
  · rw [hB] at k2
    by_cases hp : isP P par
    · rw [decide_eq_true hp] at k3
      have c1 := hcell hp
      obtain ⟨p1, p2, p3⟩ := hp
      have HCC : Hid (cch P par = !((P par.toNat).st == 3)) := by rw [Hid, HC.out, decide_eq_true (show isP P par from ⟨p1, p2, p3⟩), Bool.true_and]
      clear hcell
      by_cases h3 : (P par.toNat).st = 3
      · have HE : Hid (adE P nx par = 261) := by rw [Hid, adE, if_pos ⟨hB, by rw [HCC.out]; simp [h3]⟩]
        rw [h3] at c1
        clear k4 h3 p3 hB
        go_enter Try.func15, Try.ntmps15
        go_wp2_with fail
        refine k1.mono ?_
        rintro e w9 ⟨rfl, hw⟩
        obtain rfl : w = w9 := hw.symm
        clear k1
        go_wp2_with fail
        refine k2.mono ?_
        rintro e w9 ⟨rfl, hw⟩
        obtain rfl : w = w9 := hw.symm
        clear k2
        go_wp2_with fail
        refine k3.mono ?_
        rintro e w9 ⟨rfl, hw⟩
        obtain rfl : w = w9 := hw.symm
        clear k3
        go_wp2
        go_ret3
        exact adp_no H.out HE.out (by decide) (Below.refl _ _)
      · have HNA : Hid (¬ (anyP P = true ∧ cch P par = false)) := fun x => by
          have := x.2
          rw [HCC.out] at this
          simp [h3] at this
        have g3 : ((P par.toNat).st == 3) = false := by simpa using h3
        have HP : Hid ((if anyP P = true then par else 0) = par) := by rw [Hid, if_pos hB]
        clear h3 p3 hB
        by_cases hN : 2147483647 < nx
        · have HE : Hid (adE P nx par = 262) := by rw [Hid, adE, if_neg HNA.out, if_pos hN]
          clear k4
          go_enter Try.func15, Try.ntmps15
          go_wp2_with fail
          refine k1.mono ?_
          rintro e w9 ⟨rfl, hw⟩
          obtain rfl : w = w9 := hw.symm
          clear k1
          go_wp2_with fail
          refine k2.mono ?_
          rintro e w9 ⟨rfl, hw⟩
          obtain rfl : w = w9 := hw.symm
          clear k2
          go_wp2_with fail
          refine k3.mono ?_
          rintro e w9 ⟨rfl, hw⟩
          obtain rfl : w = w9 := hw.symm
          clear k3
          go_wp2
          go_ret3
          exact adp_no H.out HE.out (by decide) (Below.refl _ _)
        · cases hr : rnd (fun i => (P i).st == 0) 0 with
          | none =>
            have HE : Hid (adE P nx par = 263) := by rw [Hid, adE, if_neg HNA.out, if_neg hN, hr]; rfl
            rw [hr] at k4
            simp only [rnI] at k4
            go_enter Try.func15, Try.ntmps15
            go_wp2_with fail
            refine k1.mono ?_
            rintro e w9 ⟨rfl, hw⟩
            obtain rfl : w = w9 := hw.symm
            clear k1
            go_wp2_with fail
            refine k2.mono ?_
            rintro e w9 ⟨rfl, hw⟩
            obtain rfl : w = w9 := hw.symm
            clear k2
            go_wp2_with fail
            refine k3.mono ?_
            rintro e w9 ⟨rfl, hw⟩
            obtain rfl : w = w9 := hw.symm
            clear k3
            go_wp2_with fail
            refine k4.mono ?_
            rintro e w9 ⟨rfl, hw⟩
            obtain rfl : w = w9 := hw.symm
            clear k4
            go_wp2
            go_ret3
            exact adp_no H.out HE.out (by decide) (Below.refl _ _)
          | some s =>
            have HE : Hid (adE P nx par = 0) := by rw [Hid, adE, if_neg HNA.out, if_neg hN, hr]; rfl
            have HR : Hid (rnd (fun i => (P i).st == 0) 0 = some s) := hr
            have hs := rnd_lt hr
            rw [hr] at k4
            simp only [rnI] at k4
            have gs : (s : Int) < 64 := by omega
            have gs0 : ¬ ((s : Int) < 0) := by omega
            obtain ⟨c0, c1, c2, c3, c4, c5, c6⟩ := H.out.cells s hs
            have fn := H.out.fr 448 (by omega)
            have f0 := H.out.fr (s * 7) (by omega)
            have f1 := H.out.fr (s * 7 + 1) (by omega)
            have f2 := H.out.fr (s * 7 + 2) (by omega)
            have f3 := H.out.fr (s * 7 + 3) (by omega)
            have f4 := H.out.fr (s * 7 + 4) (by omega)
            have f5 := H.out.fr (s * 7 + 5) (by omega)
            have f6 := H.out.fr (s * 7 + 6) (by omega)
            clear hr
            go_enter Try.func15, Try.ntmps15
            go_wp2_with fail
            refine k1.mono ?_
            rintro e w9 ⟨rfl, hw⟩
            obtain rfl : w = w9 := hw.symm
            clear k1
            go_wp2_with fail
            refine k2.mono ?_
            rintro e w9 ⟨rfl, hw⟩
            obtain rfl : w = w9 := hw.symm
            clear k2
            go_wp2_with fail
            refine k3.mono ?_
            rintro e w9 ⟨rfl, hw⟩
            obtain rfl : w = w9 := hw.symm
            clear k3
            go_wp2_with fail
            refine k4.mono ?_
            rintro e w9 ⟨rfl, hw⟩
            obtain rfl : w = w9 := hw.symm
            clear k4
            go_wp2
            go_ret3
            have T1 := Tb.setN H.out (nx + 1)
            have T2 := T1.put s hs ⟨nx, 1, par, 0, 0, false, 0⟩
            refine ⟨?_, ?_, ?_⟩
            · rw [adS, adI, HE.out, HR.out]; rfl
            · rw [adP, adN, HE.out, HR.out, HP.out, if_pos rfl, if_pos rfl]
              exact T2
            · exact (Trn.setCell b 448 _ w).trans (Trn.setCells b (s * 7) (Pr.l ⟨nx, 1, par, 0, 0, false, 0⟩) _)
    · rw [decide_eq_false hp] at k3
      have HE : Hid (adE P nx par = 261) := by rw [Hid, adE, if_pos ⟨hB, by rw [HC.out, decide_eq_false hp]; rfl⟩]
      clear k4 hcell hp hB
      go_enter Try.func15, Try.ntmps15
      go_wp2_with fail
      refine k1.mono ?_
      rintro e w9 ⟨rfl, hw⟩
      obtain rfl : w = w9 := hw.symm
      clear k1
      go_wp2_with fail
      refine k2.mono ?_
      rintro e w9 ⟨rfl, hw⟩
      obtain rfl : w = w9 := hw.symm
      clear k2
      go_wp2_with fail
      refine k3.mono ?_
      rintro e w9 ⟨rfl, hw⟩
      obtain rfl : w = w9 := hw.symm
      clear k3
      go_wp2
      go_ret3
      exact adp_no H.out HE.out (by decide) (Below.refl _ _)
  · have HNA : Hid (¬ (anyP P = true ∧ cch P par = false)) := fun x => hB x.1
    have HP : Hid ((if anyP P = true then par else 0) = 0) := by rw [Hid, if_neg hB]
    rw [show anyP P = false by simpa using hB] at k2
    clear k3 hcell hB
    by_cases hN : 2147483647 < nx
    · have HE : Hid (adE P nx par = 262) := by rw [Hid, adE, if_neg HNA.out, if_pos hN]
      clear k4
      go_enter Try.func15, Try.ntmps15
      go_wp2_with fail
      refine k1.mono ?_
      rintro e w9 ⟨rfl, hw⟩
      obtain rfl : w = w9 := hw.symm
      clear k1
      go_wp2_with fail
      refine k2.mono ?_
      rintro e w9 ⟨rfl, hw⟩
      obtain rfl : w = w9 := hw.symm
      clear k2
      go_wp2
      go_ret3
      exact adp_no H.out HE.out (by decide) (Below.refl _ _)
    · cases hr : rnd (fun i => (P i).st == 0) 0 with
      | none =>
        have HE : Hid (adE P nx par = 263) := by rw [Hid, adE, if_neg HNA.out, if_neg hN, hr]; rfl
        rw [hr] at k4
        simp only [rnI] at k4
        go_enter Try.func15, Try.ntmps15
        go_wp2_with fail
        refine k1.mono ?_
        rintro e w9 ⟨rfl, hw⟩
        obtain rfl : w = w9 := hw.symm
        clear k1
        go_wp2_with fail
        refine k2.mono ?_
        rintro e w9 ⟨rfl, hw⟩
        obtain rfl : w = w9 := hw.symm
        clear k2
        go_wp2_with fail
        refine k4.mono ?_
        rintro e w9 ⟨rfl, hw⟩
        obtain rfl : w = w9 := hw.symm
        clear k4
        go_wp2
        go_ret3
        exact adp_no H.out HE.out (by decide) (Below.refl _ _)
      | some s =>
        have HE : Hid (adE P nx par = 0) := by rw [Hid, adE, if_neg HNA.out, if_neg hN, hr]; rfl
        have HR : Hid (rnd (fun i => (P i).st == 0) 0 = some s) := hr
        have hs := rnd_lt hr
        rw [hr] at k4
        simp only [rnI] at k4
        have gs : (s : Int) < 64 := by omega
        have gs0 : ¬ ((s : Int) < 0) := by omega
        obtain ⟨c0, c1, c2, c3, c4, c5, c6⟩ := H.out.cells s hs
        have fn := H.out.fr 448 (by omega)
        have f0 := H.out.fr (s * 7) (by omega)
        have f1 := H.out.fr (s * 7 + 1) (by omega)
        have f2 := H.out.fr (s * 7 + 2) (by omega)
        have f3 := H.out.fr (s * 7 + 3) (by omega)
        have f4 := H.out.fr (s * 7 + 4) (by omega)
        have f5 := H.out.fr (s * 7 + 5) (by omega)
        have f6 := H.out.fr (s * 7 + 6) (by omega)
        clear hr
        go_enter Try.func15, Try.ntmps15
        go_wp2_with fail
        refine k1.mono ?_
        rintro e w9 ⟨rfl, hw⟩
        obtain rfl : w = w9 := hw.symm
        clear k1
        go_wp2_with fail
        refine k2.mono ?_
        rintro e w9 ⟨rfl, hw⟩
        obtain rfl : w = w9 := hw.symm
        clear k2
        go_wp2_with fail
        refine k4.mono ?_
        rintro e w9 ⟨rfl, hw⟩
        obtain rfl : w = w9 := hw.symm
        clear k4
        go_wp2
        go_ret3
        have T1 := Tb.setN H.out (nx + 1)
        have T2 := T1.put s hs ⟨nx, 1, 0, 0, 0, false, 0⟩
        refine ⟨?_, ?_, ?_⟩
        · rw [adS, adI, HE.out, HR.out]; rfl
        · rw [adP, adN, HE.out, HR.out, HP.out, if_pos rfl, if_pos rfl]
          exact T2
        · exact (Trn.setCell b 448 _ w).trans (Trn.setCells b (s * 7) (Pr.l ⟨nx, 1, 0, 0, 0, false, 0⟩) _)
end
end Go.Proofs.Ytnlbomggadflmab
