import Derived.Test.YtnlbomggadflmabRb
namespace Go.Proofs.Ytnlbomggadflmab
open Go.RowKit
set_option linter.unusedVariables false
set_option linter.unusedSimpArgs false
set_option maxRecDepth 100000
section
variable {w : World} {b : Nat} {P : Nat → Pr} {nx : Int}
set_option maxHeartbeats 4000000 in
theorem rkill_any (h : Tb w b P nx) (hI : Inv P nx) (m : Int) : Calls Try.prog 25 #[.pointer (some ⟨b, 0, .none⟩), .int .i64 m] w fun e w' => e = .returned (.int .i64 (klR P m)) ∧ Tb w' b (klP P m) nx ∧ Trn b w w' := by
  have k1 := none_any h hI.n1
  have HT : Hid (Tb w b P nx) := h
  have HI : Hid (Inv P nx) := hI
  clear h hI
  go_enter Try.func25, Try.ntmps25
  go_wp2_with fail
  refine k1.mono ?_
  rintro e w9 ⟨rfl, hw⟩
  obtain rfl : w = w9 := hw.symm
  clear k1
  go_wp2
  go_loopw [5] (fun k wr => ∃ j : Nat, j ≤ 64 ∧ k = .int .i64 j ∧ Hid (wr = w ∧ ∀ l, l < j → kq m (P l) = false)) (fun k _ => (64 - intOf k).toNat)
  case atStart => exact ⟨0, by omega, rfl, rfl, fun l hl => by omega⟩
  case round =>
    obtain ⟨j, hj, rfl, HV⟩ := hrel
    obtain rfl : w = wr := HV.out.1.symm
    have HV2 : Hid (∀ l, l < j → kq m (P l) = false) := HV.out.2
    clear HV
    by_cases hl : j < 64
    · have g0 : (j : Int) < 64 := by omega
      obtain ⟨c0, c1, c2, c3, c4, c5, c6⟩ := HT.out.cells j hl
      have HS : Hid (kq m (P j) = false → ∀ l, l < j + 1 → kq m (P l) = false) := fun q l hl2 => by
        by_cases e : l = j
        · rw [e]; exact q
        · exact HV2.out l (by omega)
      by_cases s0 : (P j).st = 0
      · have HK : Hid (kq m (P j) = false) := by simp [Hid, kq, s0]
        rw [s0] at c1
        clear s0
        go_wp2
        exact ⟨⟨j + 1, by omega, rfl, trivial, HS.out HK.out⟩, by simp only [intOf]; omega⟩
      have s1 : ((P j).st == 0) = false := by simpa using s0
      by_cases p0 : (P j).pid = m
      · have HR : Hid (rnd (fun i => kq m (P i)) 0 = some j) := by
          have := rnd_at (q := fun i => kq m (P i)) (f := 0) hl (fun k hk => by rw [show (0 + k) % 64 = k by omega]; exact HV2.out k hk) (by rw [show (0 + j) % 64 = j by omega]; simp [kq, s0, p0])
          rwa [show (0 + j) % 64 = j by omega] at this
        have HE1 : Hid (klR P m = 0) := by rw [Hid, klR, HR.out]; rfl
        have g1 : ((P j).pid == m) = true := by simpa using p0
        have g2 : ((P j).pid != m) = false := by simpa using p0
        by_cases h3 : (P j).st = 3
        · have HE2 : Hid (klP P m = P) := by rw [Hid, klP, HR.out]; simp only; rw [if_pos h3]
          rw [h3] at c1
          clear h3 p0 s0
          go_wp2
          go_ret
          exact ⟨by rw [HE1.out]; rfl, by rw [HE2.out]; exact HT.out, Trn.refl _ _⟩
        · have g3 : ((P j).st == 3) = false := by simpa using h3
          have f4 := HT.out.fr (j * 7 + 5) (by omega)
          have T1 := HT.out.set j 5 hl (by omega) (.bool true) { P j with kil := true } rfl
          have HT1 : Hid (Tb (w.setCell ⟨b, j * 7 + 5, .none⟩ (.bool true)) b (up P j { P j with kil := true }) nx) := T1
          by_cases h2 : (P j).st = 2
          · have HE2 : Hid (klP P m = up P j { (P j).wk with kil := true }) := by rw [Hid, klP, HR.out]; simp only; rw [if_neg h3]
            have k3 := up_any T1 j hl
            rw [up_same, up_up] at k3
            rw [h2] at c1
            clear h3 p0 s0 h2 T1
            go_wp2_with fail
            refine k3.mono ?_
            rintro e w2 ⟨rfl, hT, hR⟩
            have HF : Hid (Tb w2 b (up P j { (P j).wk with kil := true }) nx ∧ Trn b w w2) := ⟨hT, (Trn.setCell _ _ _ _).trans hR⟩
            clear k3 hT hR
            go_wp2
            go_ret
            exact ⟨by rw [HE1.out]; rfl, by rw [HE2.out]; exact HF.out.1, HF.out.2⟩
          · have HE2 : Hid (klP P m = up P j { P j with kil := true }) := by
              rw [Hid, klP, HR.out]
              simp only
              rw [if_neg h3]
              have h1 : (P j).st = 1 := by have := HI.out.st j hl; omega
              have := HI.out.ns j hl h2
              congr 1
              cases hq : P j
              rw [hq] at h1 this
              simp only at h1 this
              simp [Pr.wk, h1, this.1, this.2]
            have g4 : ((P j).st == 2) = false := by simpa using h2
            clear h3 p0 s0 h2 T1
            go_wp2
            go_ret
            exact ⟨by rw [HE1.out]; rfl, by rw [HE2.out]; exact HT1.out, Trn.setCell _ _ _ _⟩
      · have HK : Hid (kq m (P j) = false) := by simp [Hid, kq, p0]
        have g1 : ((P j).pid == m) = false := by simpa using p0
        have g2 : ((P j).pid != m) = true := by simpa using p0
        go_wp2
        exact ⟨⟨j + 1, by omega, rfl, trivial, HS.out HK.out⟩, by simp only [intOf]; omega⟩
    · obtain rfl : j = 64 := by omega
      have HR : Hid (rnd (fun i => kq m (P i)) 0 = none) := rnd_none.2 (fun k hk => by rw [show (0 + k) % 64 = k by omega]; exact HV2.out k hk)
      have HE1 : Hid (klR P m = 266) := by rw [Hid, klR, HR.out]; rfl
      have HE2 : Hid (klP P m = P) := by rw [Hid, klP, HR.out]
      go_wp2
      go_ret
      exact ⟨by rw [HE1.out]; rfl, by rw [HE2.out]; exact HT.out, Trn.refl _ _⟩
end
end Go.Proofs.Ytnlbomggadflmab
