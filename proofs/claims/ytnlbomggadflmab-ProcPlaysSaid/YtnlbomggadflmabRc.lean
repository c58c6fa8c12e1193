import Derived.Test.YtnlbomggadflmabRb
namespace Go.Proofs.Ytnlbomggadflmab
open Go.RowKit
set_option linter.unusedVariables false
set_option linter.unusedSimpArgs false
set_option maxRecDepth 100000
section
variable {w : World} {b : Nat} {P : Nat → Pr} {nx : Int}
set_option maxHeartbeats 4000000 in
theorem rsleep_any (h : Tb w b P nx) (hn : 1 ≤ nx) (s k m : Int) : Calls Try.prog 19 #[.pointer (some ⟨b, 0, .none⟩), .int .i64 s, .agg #[.int .i64 k, .int .i64 m]] w fun e w' => e = .returned (.int .i64 (slR P s k m)) ∧ Tb w' b (slP P s k m) nx ∧ Trn b w w' := by
  have hb := h.lt
  have hT : Tb (w.alloc (.cells #[.int .i64 k, .int .i64 m] 31)) b P nx := h.bel (below1 _ _)
  have H : Hid (Tb (w.alloc (.cells #[.int .i64 k, .int .i64 m] 31)) b P nx ∧ Trn b w (w.alloc (.cells #[.int .i64 k, .int .i64 m] 31))) := ⟨hT, Trn.ofBelow (below1 _ _)⟩
  have k1 := none_any hT hn
  have k2 := there_any hT s
  have d0 : (w.alloc (.cells #[.int .i64 k, .int .i64 m] 31)).cell? ⟨w.heap.size, 0, .none⟩ = some (.int .i64 k) := by rw [World.cell?_alloc_at _ _ _ _ rfl]; rfl
  have d1 : (w.alloc (.cells #[.int .i64 k, .int .i64 m] 31)).cell? ⟨w.heap.size, 1, .none⟩ = some (.int .i64 m) := by rw [World.cell?_alloc_at _ _ _ _ rfl]; rfl
  have hne : w.heap.size ≠ b := by omega
  have hne2 : b ≠ w.heap.size := by omega
  by_cases hp : isP P s
  · rw [decide_eq_true hp] at k2
    obtain ⟨n, rfl, g, hst⟩ := isP_nat hp
    have gn : (n : Int) < 64 := by omega
    obtain ⟨c0, c1, c2, c3, c4, c5, c6⟩ := hT.cells n g
    clear h hT
    by_cases h4 : (P n).st = 1
    · by_cases h5 : (P n).kil = false
      · have k3 := rchannel_any k m (w.alloc (.cells #[.int .i64 k, .int .i64 m] 31))
        rw [h4] at c1
        rw [h5] at c5
        have H5 : Hid ((P n).kil = false) := h5
        by_cases h6 : isCh k m = true
        · have e1 : slR P n k m = 0 := by rw [slR, if_pos hp, Int.toNat_natCast, if_pos ⟨h4, h5⟩, if_pos h6]
          have e2 : slP P n k m = up P n { P n with st := 2, ck := k, cn := m } := by rw [slP, Int.toNat_natCast, if_pos ⟨hp, ⟨h4, h5⟩, h6⟩]
          rw [e1, e2]
          rw [h6] at k3
          clear e1 e2 hp hst h4 h5 h6
          go_enter Try.func19, Try.ntmps19
          go_wp2_with fail
          refine k1.mono ?_
          rintro e w9 ⟨rfl, hw⟩
          subst hw
          clear k1
          go_wp2_with fail
          refine k2.mono ?_
          rintro e w9 ⟨rfl, hw⟩
          subst hw
          clear k2
          go_wp2_with fail
          refine k3.mono ?_
          rintro e w2 ⟨rfl, hb2⟩
          have d0' := (hb2.cell (p := ⟨w.heap.size, 0, .none⟩) (lt_cell d0)).trans d0
          have d1' := (hb2.cell (p := ⟨w.heap.size, 1, .none⟩) (lt_cell d1)).trans d1
          have HT : Hid (Tb w2 b P nx ∧ Trn b w w2) := ⟨H.out.1.bel hb2, H.out.2.trans (Trn.ofBelow hb2)⟩
          clear k3 hb2 c0 c1 c2 c3 c4 c5 c6 d0 d1 H
          obtain ⟨c0, c1, c2, c3, c4, c5, c6⟩ := HT.out.1.cells n g
          have f1 := HT.out.1.fr (n * 7 + 1) (by omega)
          have f3 := HT.out.1.fr (n * 7 + 3) (by omega)
          have f4 := HT.out.1.fr (n * 7 + 4) (by omega)
          go_wp2
          go_region
          all_goals go_wp2
          all_goals go_ret
          all_goals (
            have T1 := Tb.set HT.out.1 n 1 g (by omega) (.int .i64 2) { P n with st := 2 } rfl
            have T2 := T1.set n 3 g (by omega) (.int .i64 k) { P n with st := 2, ck := k } (by rw [up_same]; rfl)
            have T3 := T2.set n 4 g (by omega) (.int .i64 m) { P n with st := 2, ck := k, cn := m } (by rw [up_same]; rfl)
            rw [up_up, up_up] at T3
            exact ⟨rfl, T3.keep rfl, (((HT.out.2.trans (Trn.setCell _ _ _ _)).trans (Trn.setCell _ _ _ _)).trans (Trn.setCell _ _ _ _)).trans (Trn.drew _ _)⟩)
        · have e1 : slR P n k m = 264 := by rw [slR, if_pos hp, Int.toNat_natCast, if_pos ⟨h4, h5⟩, if_neg h6]
          have e2 : slP P n k m = P := by rw [slP, if_neg (fun x => h6 x.2.2)]
          rw [e1, e2]
          rw [show isCh k m = false by simpa using h6] at k3
          clear e1 e2 hp hst h4 h5 h6
          go_enter Try.func19, Try.ntmps19
          go_wp2_with fail
          refine k1.mono ?_
          rintro e w9 ⟨rfl, hw⟩
          subst hw
          clear k1
          go_wp2_with fail
          refine k2.mono ?_
          rintro e w9 ⟨rfl, hw⟩
          subst hw
          clear k2
          go_wp2_with fail
          refine k3.mono ?_
          rintro e w2 ⟨rfl, hb2⟩
          have HT : Hid (Tb w2 b P nx ∧ Trn b w w2) := ⟨H.out.1.bel hb2, H.out.2.trans (Trn.ofBelow hb2)⟩
          clear k3 hb2 c0 c1 c2 c3 c4 c5 c6 d0 d1 H
          go_wp2
          go_ret
          exact ⟨rfl, HT.out.1, HT.out.2⟩
      · have e1 : slR P n k m = 265 := by rw [slR, if_pos hp, Int.toNat_natCast, if_neg (fun x => h5 x.2)]
        have e2 : slP P n k m = P := by rw [slP, Int.toNat_natCast, if_neg (fun x => h5 x.2.1.2)]
        rw [e1, e2]
        rw [h4] at c1
        rw [show (P n).kil = true by cases q : (P n).kil; exact absurd q h5; rfl] at c5
        clear e1 e2 hp hst h4 h5
        go_enter Try.func19, Try.ntmps19
        go_wp2_with fail
        refine k1.mono ?_
        rintro e w9 ⟨rfl, hw⟩
        subst hw
        clear k1
        go_wp2_with fail
        refine k2.mono ?_
        rintro e w9 ⟨rfl, hw⟩
        subst hw
        clear k2
        go_wp2
        go_ret
        exact ⟨rfl, H.out.1, H.out.2⟩
    · have e1 : slR P n k m = 265 := by rw [slR, if_pos hp, Int.toNat_natCast, if_neg (fun x => h4 x.1)]
      have e2 : slP P n k m = P := by rw [slP, Int.toNat_natCast, if_neg (fun x => h4 x.2.1.1)]
      rw [e1, e2]
      have g4 : ((P n).st == 1) = false := by simpa using h4
      have g5 : ((P n).st != 1) = true := by simpa using h4
      clear e1 e2 hp hst h4
      go_enter Try.func19, Try.ntmps19
      go_wp2_with fail
      refine k1.mono ?_
      rintro e w9 ⟨rfl, hw⟩
      subst hw
      clear k1
      go_wp2_with fail
      refine k2.mono ?_
      rintro e w9 ⟨rfl, hw⟩
      subst hw
      clear k2
      go_wp2
      go_ret
      exact ⟨rfl, H.out.1, H.out.2⟩
  · rw [decide_eq_false hp] at k2
    have e1 : slR P s k m = 260 := by rw [slR, if_neg hp]
    have e2 : slP P s k m = P := by rw [slP, if_neg (fun x => hp x.1)]
    rw [e1, e2]
    clear h hT e1 e2 hp
    go_enter Try.func19, Try.ntmps19
    go_wp2_with fail
    refine k1.mono ?_
    rintro e w9 ⟨rfl, hw⟩
    subst hw
    clear k1
    go_wp2_with fail
    refine k2.mono ?_
    rintro e w9 ⟨rfl, hw⟩
    subst hw
    clear k2
    go_wp2
    go_ret
    exact ⟨rfl, H.out.1, H.out.2⟩
end
end Go.Proofs.Ytnlbomggadflmab
