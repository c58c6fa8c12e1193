import Derived.Test.YtnlbomggadflmabPg
import Derived.Test.YtnlbomggadflmabMi
namespace Go.Proofs.Ytnlbomggadflmab
open Go.RowKit
set_option linter.unusedVariables false
set_option linter.unusedSimpArgs false
set_option maxRecDepth 100000
section
variable {w : World} {b : Nat} {P : Nat → Pr} {nx : Int}
theorem none_any (h : Tb w b P nx) (hn : 1 ≤ nx) : Calls Try.prog 13 #[.pointer (some ⟨b, 0, .none⟩)] w fun e w' => e = .returned (.bool false) ∧ w' = w := by
  have c := h.cn
  have hn' : (nx == 0) = false := by simp; omega
  have hn2 : ¬ nx = 0 := by omega
  clear h
  go_enter Try.func13, Try.ntmps13
  go_wp2
  go_ret
  exact ⟨by simp, rfl⟩
set_option maxHeartbeats 1000000 in
theorem there_any (h : Tb w b P nx) (s : Int) : Calls Try.prog 45 #[.pointer (some ⟨b, 0, .none⟩), .int .i64 s] w fun e w' => e = .returned (.bool (decide (isP P s))) ∧ w' = w := by
  by_cases h1 : 0 ≤ s
  · by_cases h2 : s < 64
    · obtain ⟨n, rfl⟩ : ∃ n : Nat, s = n := ⟨s.toNat, by omega⟩
      have c1 := (h.cells n (by omega)).2.1
      have HE : Hid (decide (isP P (n : Int)) = !((P n).st == 0)) := by
        rw [Hid]
        by_cases x : (P n).st = 0
        · rw [decide_eq_false (fun y => y.2.2 (by rw [Int.toNat_natCast]; exact x))]; simp [x]
        · rw [decide_eq_true (show isP P (n : Int) from ⟨h1, h2, by rw [Int.toNat_natCast]; exact x⟩)]; simp [x]
      rw [HE.out]
      clear h HE
      go_enter Try.func45, Try.ntmps45
      go_wp2
      go_ret
      exact ⟨rfl, rfl⟩
    · rw [decide_eq_false (fun y => h2 y.2.1)]
      clear h
      go_enter Try.func45, Try.ntmps45
      go_wp2
      go_ret
      exact ⟨rfl, rfl⟩
  · rw [decide_eq_false (fun y => h1 y.1)]
    clear h
    go_enter Try.func45, Try.ntmps45
    go_wp2
    go_ret
    exact ⟨rfl, rfl⟩
set_option maxHeartbeats 1000000 in
theorem rleast_any (h : Tb w b P nx) : Calls Try.prog 46 #[.pointer (some ⟨b, 0, .none⟩)] w fun e w' => e = .returned (.int .i64 (rnI (rnd (fun i => (P i).st == 0) 0))) ∧ w' = w := by
  have HT : Hid (Tb w b P nx) := h
  clear h
  go_enter Try.func46, Try.ntmps46
  go_wp2
  go_loopw [3] (fun k wr => ∃ j : Nat, j ≤ 64 ∧ k = .int .i64 j ∧ Hid (wr = w ∧ ∀ l, l < j → ((P l).st == 0) = false)) (fun k _ => (64 - intOf k).toNat)
  case atStart => exact ⟨0, by omega, rfl, rfl, fun l hl => by omega⟩
  case round =>
    obtain ⟨j, hj, rfl, HV⟩ := hrel
    obtain rfl : w = wr := HV.out.1.symm
    have HV2 : Hid (∀ l, l < j → ((P l).st == 0) = false) := HV.out.2
    clear HV
    by_cases hl : j < 64
    · have g0 : (j : Int) < 64 := by omega
      have c1 := (HT.out.cells j hl).2.1
      cases hs : ((P j).st == 0) with
      | true =>
        have HR : Hid (rnd (fun i => (P i).st == 0) 0 = some j) := by
          have := rnd_at (q := fun i => (P i).st == 0) (f := 0) hl (fun k hk => by rw [show (0 + k) % 64 = k by omega]; exact HV2.out k hk) (by rw [show (0 + j) % 64 = j by omega]; exact hs)
          rwa [show (0 + j) % 64 = j by omega] at this
        go_wp2
        go_ret
        refine ⟨?_, rfl⟩
        rw [HR.out]
        rfl
      | false =>
        have HS : Hid (∀ l, l < j + 1 → ((P l).st == 0) = false) := fun l hl2 => by
          by_cases e : l = j
          · rw [e]; exact hs
          · exact HV2.out l (by omega)
        go_wp2
        exact ⟨⟨j + 1, by omega, rfl, trivial, HS.out⟩, by simp only [intOf]; omega⟩
    · obtain rfl : j = 64 := by omega
      have HR : Hid (rnd (fun i => (P i).st == 0) 0 = none) := rnd_none.2 (fun k hk => by rw [show (0 + k) % 64 = k by omega]; exact HV2.out k hk)
      go_wp2
      go_ret
      refine ⟨?_, rfl⟩
      rw [HR.out]
      rfl
set_option maxHeartbeats 1000000 in
theorem up_any (h : Tb w b P nx) (s : Nat) (hs : s < 64) : Calls Try.prog 54 #[.pointer (some ⟨b, 0, .none⟩), .int .i64 (s : Int)] w fun e w' => e = .returned (.tuple #[]) ∧ Tb w' b (up P s (P s).wk) nx ∧ Trn b w w' := by
  have c1 := h.cell s 1 hs (by omega) _ rfl
  have c3 := h.cell s 3 hs (by omega) _ rfl
  have c4 := h.cell s 4 hs (by omega) _ rfl
  have f1 := h.fr (s * 7 + 1) (by omega)
  have f3 := h.fr (s * 7 + 3) (by omega)
  have f4 := h.fr (s * 7 + 4) (by omega)
  have H : Hid (Tb w b P nx) := h
  clear h
  go_enter Try.func54, Try.ntmps54
  go_wp2
  go_end0
  have T1 := Tb.set H.out s 1 hs (by omega) (.int .i64 1) { P s with st := 1 } rfl
  have T2 := T1.set s 3 hs (by omega) (.int .i64 0) { P s with st := 1, ck := 0 } (by rw [up_same]; rfl)
  have T3 := T2.set s 4 hs (by omega) (.int .i64 0) { P s with st := 1, ck := 0, cn := 0 } (by rw [up_same]; rfl)
  rw [up_up, up_up] at T3
  exact ⟨rfl, T3, ((Trn.setCell _ _ _ _).trans (Trn.setCell _ _ _ _)).trans (Trn.setCell _ _ _ _)⟩
/-- The document's child. -/
def rch (s : Int) (i : Nat) (p : Pr) : Bool := !((i : Int) == 0) && !(p.st == 0) && p.par == s
set_option maxHeartbeats 1000000 in
theorem child_any (h : Tb w b P nx) (i : Nat) (hi : i < 64) (s : Int) : Calls Try.prog 58 #[.pointer (some ⟨b, 0, .none⟩), .int .i64 (i : Int), .int .i64 s] w fun e w' => e = .returned (.bool (rch s i (P i))) ∧ w' = w := by
  obtain ⟨c0, c1, c2, c3, c4, c5, c6⟩ := h.cells i hi
  have HE : Hid (rch s i (P i) = (!((i : Int) == 0) && !((P i).st == 0) && (P i).par == s)) := rfl
  clear h c0 c3 c4 c5 c6
  by_cases i0 : i = 0
  · have g0 : ((i : Int) == 0) = true := by simpa using i0
    have g1 : ((i : Int) != 0) = false := by simpa using i0
    have G0 : Hid (((i : Int) == 0) = true) := g0
    clear i0
    go_enter Try.func58, Try.ntmps58
    go_wp2
    go_ret
    exact ⟨by rw [HE.out, G0.out]; rfl, rfl⟩
  · have g0 : ((i : Int) == 0) = false := by simpa using i0
    have g1 : ((i : Int) != 0) = true := by simpa using i0
    have G0 : Hid (((i : Int) == 0) = false) := g0
    clear i0
    by_cases s0 : (P i).st = 0
    · rw [s0] at c1
      have S0 : Hid ((P i).st = 0) := s0
      clear s0
      go_enter Try.func58, Try.ntmps58
      go_wp2
      go_ret
      exact ⟨by rw [HE.out, G0.out, S0.out]; rfl, rfl⟩
    · have s1 : ((P i).st == 0) = false := by simpa using s0
      have s2 : ((P i).st != 0) = true := by simpa using s0
      have S1 : Hid (((P i).st == 0) = false) := s1
      go_enter Try.func58, Try.ntmps58
      go_wp2
      go_ret
      exact ⟨by rw [HE.out, G0.out, S1.out]; simp, rfl⟩
set_option maxHeartbeats 1000000 in
theorem rnew_tab (w : World) : Calls Try.prog 6 #[] w fun e w' => e = .returned (.pointer (some ⟨w.heap.size, 0, .none⟩)) ∧ Tb w' w.heap.size zS 1 ∧ Below w.heap.size w w' ∧ w.heap.size < w'.heap.size := by
  go_enter Try.func6, Try.ntmps6
  go_upto_region 1 with fail
  refine wp_region_lit ?_
  refine wpList_pure 1 { tmps := #[.pointer none, .agg (zT 1), undef], defers := [] } (by kernel_rfl) ?_
  refine Great.wpList_boxTo rfl 52 (.tmp 1) rfl _ rfl w.heap.size rfl (zT 1) rfl ?_
  simp only [Act.put, List.setIfInBounds_toArray, List.set_cons_zero, List.set_cons_succ]
  go_wp2
  go_ret
  exact ⟨rfl, tb_new w zS 1 _, below1 _ _, by simp⟩
theorem rnI_pos (x : Option Nat) : decide (0 ≤ rnI x) = x.isSome := by
  cases x with
  | none => simp [rnI]
  | some n => simp [rnI]
set_option maxHeartbeats 2000000 in
theorem rroom_any (h : Tb w b P nx) (hn : 1 ≤ nx) : Calls Try.prog 35 #[.pointer (some ⟨b, 0, .none⟩)] w fun e w' => e = .returned (.bool ((rnd (fun i => (P i).st == 0) 0).isSome && decide (nx ≤ 2147483647))) ∧ w' = w := by
  have k1 := none_any h hn
  have k2 := rleast_any h
  have cn := h.cn
  rw [← rnI_pos]
  generalize rnI (rnd (fun i => (P i).st == 0) 0) = r at *
  clear h
  by_cases h1 : nx ≤ 2147483647
  · have e : Hid ((decide (0 ≤ r) && decide (nx ≤ 2147483647)) = decide (0 ≤ r)) := by rw [Hid, decide_eq_true h1, Bool.and_true]
    rw [e.out]
    go_enter Try.func35, Try.ntmps35
    go_wp2_with fail
    refine k1.mono ?_
    rintro e w1 ⟨rfl, hw⟩
    obtain rfl : w = w1 := hw.symm
    clear k1
    go_wp2_with fail
    refine k2.mono ?_
    rintro e w1 ⟨rfl, hw⟩
    obtain rfl : w = w1 := hw.symm
    clear k2
    go_wp2
    go_ret
    exact ⟨rfl, rfl⟩
  · have e : Hid ((decide (0 ≤ r) && decide (nx ≤ 2147483647)) = false) := by rw [Hid, decide_eq_false h1, Bool.and_false]
    rw [e.out]
    go_enter Try.func35, Try.ntmps35
    go_wp2_with fail
    refine k1.mono ?_
    rintro e w1 ⟨rfl, hw⟩
    obtain rfl : w = w1 := hw.symm
    clear k1
    go_wp2
    go_ret
    exact ⟨rfl, rfl⟩
set_option maxHeartbeats 2000000 in
theorem rwakeOne_any (h : Tb w b P nx) (hn : 1 ≤ nx) (s : Int) : Calls Try.prog 23 #[.pointer (some ⟨b, 0, .none⟩), .int .i64 s] w fun e w' => e = .returned (.int .i64 (w1R P s)) ∧ Tb w' b (w1P P s) nx ∧ Trn b w w' := by
  have k1 := none_any h hn
  have k2 := there_any h s
  have H : Hid (Tb w b P nx) := h
  by_cases hp : isP P s
  · rw [decide_eq_true hp] at k2
    obtain ⟨n, rfl, hn64, hst⟩ := isP_nat hp
    have gn : (n : Int) < 64 := by omega
    have c1 := (h.cells n hn64).2.1
    by_cases h4 : (P n).st = 2
    · have e1 : w1R P n = 0 := by rw [w1R, if_pos hp, Int.toNat_natCast, if_pos h4]
      have e2 : w1P P n = up P n (P n).wk := by rw [w1P, Int.toNat_natCast, if_pos ⟨hp, h4⟩]
      have k3 := up_any h n hn64
      rw [e1, e2]
      rw [h4] at c1
      clear h e1 e2 h4 hp hst
      go_enter Try.func23, Try.ntmps23
      go_wp2_with fail
      refine k1.mono ?_
      rintro e w1 ⟨rfl, hw⟩
      obtain rfl : w = w1 := hw.symm
      clear k1
      go_wp2_with fail
      refine k2.mono ?_
      rintro e w1 ⟨rfl, hw⟩
      obtain rfl : w = w1 := hw.symm
      clear k2
      go_wp2_with fail
      refine k3.mono ?_
      rintro e w2 ⟨rfl, hT, hR⟩
      clear k3 c1
      go_wp2
      go_ret
      exact ⟨rfl, hT, hR⟩
    · have e1 : w1R P n = 265 := by rw [w1R, if_pos hp, Int.toNat_natCast, if_neg h4]
      have e2 : w1P P n = P := by rw [w1P, Int.toNat_natCast, if_neg (fun x => h4 x.2)]
      have g4 : ((P n).st == 2) = false := by simpa using h4
      rw [e1, e2]
      clear h e1 e2 h4 hp hst
      generalize (P n).st = t at *
      go_enter Try.func23, Try.ntmps23
      go_wp2_with fail
      refine k1.mono ?_
      rintro e w1 ⟨rfl, hw⟩
      obtain rfl : w = w1 := hw.symm
      clear k1
      go_wp2_with fail
      refine k2.mono ?_
      rintro e w1 ⟨rfl, hw⟩
      obtain rfl : w = w1 := hw.symm
      clear k2
      go_wp2
      go_ret
      exact ⟨rfl, H.out, Trn.refl _ _⟩
  · rw [decide_eq_false hp] at k2
    have e1 : w1R P s = 260 := by rw [w1R, if_neg hp]
    have e2 : w1P P s = P := by rw [w1P, if_neg (fun x => hp x.1)]
    rw [e1, e2]
    clear h e1 e2 hp
    go_enter Try.func23, Try.ntmps23
    go_wp2_with fail
    refine k1.mono ?_
    rintro e w1 ⟨rfl, hw⟩
    obtain rfl : w = w1 := hw.symm
    clear k1
    go_wp2_with fail
    refine k2.mono ?_
    rintro e w1 ⟨rfl, hw⟩
    obtain rfl : w = w1 := hw.symm
    clear k2
    go_wp2
    go_ret
    exact ⟨rfl, H.out, Trn.refl _ _⟩
set_option maxHeartbeats 2000000 in
theorem rfree_any (h : Tb w b P nx) (hn : 1 ≤ nx) (s : Int) : Calls Try.prog 31 #[.pointer (some ⟨b, 0, .none⟩), .int .i64 s] w fun e w' => e = .returned (.int .i64 (frR P s)) ∧ Tb w' b (frP P s) nx ∧ Trn b w w' := by
  have k1 := none_any h hn
  have k2 := there_any h s
  have H : Hid (Tb w b P nx) := h
  by_cases hp : isP P s
  · rw [decide_eq_true hp] at k2
    obtain ⟨n, rfl, hn64, hst⟩ := isP_nat hp
    have gn : (n : Int) < 64 := by omega
    obtain ⟨c0, c1, c2, c3, c4, c5, c6⟩ := h.cells n hn64
    by_cases h5 : n = 0
    · subst h5
      have e1 : frR P ((0 : Nat) : Int) = 260 := by rw [frR, if_neg (fun x => x.2 rfl)]
      have e2 : frP P ((0 : Nat) : Int) = P := by rw [frP, if_neg (fun x => x.1.2 rfl)]
      rw [e1, e2]
      clear h e1 e2 hp hst c0 c1 c2 c3 c4 c5 c6
      go_enter Try.func31, Try.ntmps31
      go_wp2_with fail
      refine k1.mono ?_
      rintro e w1 ⟨rfl, hw⟩
      obtain rfl : w = w1 := hw.symm
      clear k1
      go_wp2_with fail
      refine k2.mono ?_
      rintro e w1 ⟨rfl, hw⟩
      obtain rfl : w = w1 := hw.symm
      clear k2
      go_wp2
      go_ret
      exact ⟨rfl, H.out, Trn.refl _ _⟩
    have h6 : (n : Int) ≠ 0 := by omega
    have g5 : ((n : Int) == 0) = false := by simpa using h6
    by_cases h4 : (P n).st = 3
    · have e1 : frR P n = 0 := by rw [frR, if_pos ⟨hp, h6⟩, Int.toNat_natCast, if_pos h4]
      have e2 : frP P n = up P n zP := by rw [frP, Int.toNat_natCast, if_pos ⟨⟨hp, h6⟩, h4⟩]
      rw [e1, e2]
      rw [h4] at c1
      have f0 := h.fr (n * 7) (by omega)
      have f1 := h.fr (n * 7 + 1) (by omega)
      have f2 := h.fr (n * 7 + 2) (by omega)
      have f3 := h.fr (n * 7 + 3) (by omega)
      have f4 := h.fr (n * 7 + 4) (by omega)
      have f5 := h.fr (n * 7 + 5) (by omega)
      have f6 := h.fr (n * 7 + 6) (by omega)
      clear h e1 e2 h4 hp hst h5 h6
      go_enter Try.func31, Try.ntmps31
      go_wp2_with fail
      refine k1.mono ?_
      rintro e w1 ⟨rfl, hw⟩
      obtain rfl : w = w1 := hw.symm
      clear k1
      go_wp2_with fail
      refine k2.mono ?_
      rintro e w1 ⟨rfl, hw⟩
      obtain rfl : w = w1 := hw.symm
      clear k2
      go_wp2
      go_ret
      exact ⟨rfl, Tb.put H.out n hn64 zP, Trn.setCells b (n * 7) zP.l w⟩
    · have e1 : frR P n = 265 := by rw [frR, if_pos ⟨hp, h6⟩, Int.toNat_natCast, if_neg h4]
      have e2 : frP P n = P := by rw [frP, Int.toNat_natCast, if_neg (fun x => h4 x.2)]
      have g4 : ((P n).st == 3) = false := by simpa using h4
      rw [e1, e2]
      clear h e1 e2 h4 hp hst h5 h6
      generalize (P n).st = t at *
      go_enter Try.func31, Try.ntmps31
      go_wp2_with fail
      refine k1.mono ?_
      rintro e w1 ⟨rfl, hw⟩
      obtain rfl : w = w1 := hw.symm
      clear k1
      go_wp2_with fail
      refine k2.mono ?_
      rintro e w1 ⟨rfl, hw⟩
      obtain rfl : w = w1 := hw.symm
      clear k2
      go_wp2
      go_ret
      exact ⟨rfl, H.out, Trn.refl _ _⟩
  · rw [decide_eq_false hp] at k2
    have e1 : frR P s = 260 := by rw [frR, if_neg (fun x => hp x.1)]
    have e2 : frP P s = P := by rw [frP, if_neg (fun x => hp x.1.1)]
    rw [e1, e2]
    clear h e1 e2 hp
    go_enter Try.func31, Try.ntmps31
    go_wp2_with fail
    refine k1.mono ?_
    rintro e w1 ⟨rfl, hw⟩
    obtain rfl : w = w1 := hw.symm
    clear k1
    go_wp2_with fail
    refine k2.mono ?_
    rintro e w1 ⟨rfl, hw⟩
    obtain rfl : w = w1 := hw.symm
    clear k2
    go_wp2
    go_ret
    exact ⟨rfl, H.out, Trn.refl _ _⟩
end
end Go.Proofs.Ytnlbomggadflmab
