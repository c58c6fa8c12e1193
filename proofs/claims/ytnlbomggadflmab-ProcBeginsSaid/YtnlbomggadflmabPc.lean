import Derived.Test.YtnlbomggadflmabPb
namespace Go.Proofs.Ytnlbomggadflmab
open Go.RowKit
set_option linter.unusedVariables false
set_option linter.unusedSimpArgs false
set_option maxRecDepth 100000
instance (P : Nat → Pr) (s : Int) : Decidable (isP P s) := by unfold isP; infer_instance
theorem Tb.congr {w : World} {b : Nat} {P Q : Nat → Pr} {nx : Int} (h : Tb w b P nx) (e : ∀ i, i < 64 → P i = Q i) : Tb w b Q nx := by
  refine ⟨?_, h.th⟩
  have e1 : tl P nx = tl Q nx := by
    apply tl_ext Q nx _ (tl_len P nx)
    · intro i k hi hk
      rw [tl_get P nx i k hi hk, e i hi]
    · exact tl_nx P nx
  rw [← e1]
  exact h.rg
/-- What Look tells. -/
def lkP (P : Nat → Pr) (s : Int) : Pr := if isP P s then P s.toNat else zP
section
variable {w : World} {b : Nat} {P : Nat → Pr} {nx : Int}
/-- One that can have a child. -/
def cch (P : Nat → Pr) (s : Int) : Bool := decide (isP P s) && !((P s.toNat).st == 3)
set_option maxHeartbeats 1000000 in
theorem canHaveChild_any (h : Tb w b P nx) (hn : 1 ≤ nx) (s : Int) : Calls Try.prog 42 #[.pointer (some ⟨b, 0, .none⟩), .int .i64 s] w fun e w' => e = .returned (.bool (cch P s)) ∧ Below w.heap.size w w' := by
  by_cases hp : isP P s
  · have hc : cch P s = !((P s.toNat).st == 3) := by simp [cch, hp]
    rw [hc]
    obtain ⟨h1, h2, h3⟩ := hp
    obtain ⟨n, rfl⟩ : ∃ n : Nat, s = n := ⟨s.toNat, by omega⟩
    rw [Int.toNat_natCast] at h3 ⊢
    have k1 := get_in h hn n (by omega) h3
    have K : ∀ W, Below w.heap.size w W → W.cell? ⟨b, n * 7 + 1, .none⟩ = some (.int .i64 (P n).st) := fun W hW => ((h.bel hW).cells n (by omega)).2.1
    clear h hc h1 h2 h3
    generalize P n = p at *
    go_enter Try.func42, Try.ntmps42
    go_wp2_with fail
    refine k1.mono ?_
    rintro e w1 ⟨rfl, hb⟩
    have c1 := K w1 hb
    clear K k1
    go_wp2
    go_ret
    exact ⟨rfl, hb⟩
  · have hc : cch P s = false := by simp [cch, hp]
    rw [hc]
    have k1 := get_no h hn s hp
    clear h hc hp
    go_enter Try.func42, Try.ntmps42
    go_wp2_with fail
    refine k1.mono ?_
    rintro e w1 ⟨rfl, hb⟩
    clear k1
    go_wp2
    go_ret
    exact ⟨rfl, hb⟩
/-- WakeOne: the answer, the slots. -/
def w1R (P : Nat → Pr) (s : Int) : Int := if isP P s then (if (P s.toNat).st = 2 then 0 else 265) else 260
def w1P (P : Nat → Pr) (s : Int) : Nat → Pr := if isP P s ∧ (P s.toNat).st = 2 then up P s.toNat (P s.toNat).wk else P
set_option maxHeartbeats 1000000 in
theorem wakeOne_any (h : Tb w b P nx) (hn : 1 ≤ nx) (s : Int) : Calls Try.prog 22 #[.pointer (some ⟨b, 0, .none⟩), .int .i64 s] w fun e w' => e = .returned (.int .i64 (w1R P s)) ∧ Tb w' b (w1P P s) nx ∧ Trn b w w' := by
  by_cases hp : isP P s
  · have hp' := hp
    obtain ⟨h1, h2, h3⟩ := hp
    obtain ⟨n, rfl⟩ : ∃ n : Nat, s = n := ⟨s.toNat, by omega⟩
    rw [Int.toNat_natCast] at h3
    have k1 := get_in h hn n (by omega) h3
    have K : ∀ W, Below w.heap.size w W → W.cell? ⟨b, n * 7 + 1, .none⟩ = some (.int .i64 (P n).st) := fun W hW => ((h.bel hW).cells n (by omega)).2.1
    by_cases h4 : (P n).st = 2
    · have e1 : w1R P n = 0 := by rw [w1R, if_pos hp', Int.toNat_natCast, if_pos h4]
      have e2 : w1P P n = up P n (P n).wk := by rw [w1P, Int.toNat_natCast, if_pos ⟨hp', h4⟩]
      have K2 : ∀ W, Below w.heap.size w W → Calls Try.prog 53 #[.pointer (some ⟨b, n * 7, .none⟩)] W fun e w' => e = .returned (.tuple #[]) ∧ Tb w' b (up P n (P n).wk) nx ∧ Trn b W w' := fun W hW => wake_any (h.bel hW) n (by omega)
      rw [e1, e2]
      rw [h4] at K
      clear h e1 e2 h1 h2 h3 h4 hp'
      go_enter Try.func22, Try.ntmps22
      go_wp2_with fail
      refine k1.mono ?_
      rintro e w1 ⟨rfl, hb⟩
      have c1 := K w1 hb
      have k2 := K2 w1 hb
      clear K k1 K2
      go_wp2_with fail
      refine k2.mono ?_
      rintro e w2 ⟨rfl, hT, hR⟩
      clear c1 k2
      go_wp2
      go_ret
      exact ⟨rfl, hT, (Trn.ofBelow hb).trans hR⟩
    · have e1 : w1R P n = 265 := by rw [w1R, if_pos hp', Int.toNat_natCast, if_neg h4]
      have e2 : w1P P n = P := by rw [w1P, Int.toNat_natCast, if_neg (fun x => h4 x.2)]
      rw [e1, e2]
      have H : Hid (Tb w b P nx) := h
      have g4 : ((P n).st == 2) = false := by simpa using h4
      clear h e1 e2 h1 h2 h3 h4 hp'
      generalize (P n).st = t at *
      go_enter Try.func22, Try.ntmps22
      go_wp2_with fail
      refine k1.mono ?_
      rintro e w1 ⟨rfl, hb⟩
      have c1 := K w1 hb
      clear K k1
      go_wp2
      go_ret
      exact ⟨rfl, Tb.bel H.out hb, Trn.ofBelow hb⟩
  · have e1 : w1R P s = 260 := by rw [w1R, if_neg hp]
    have e2 : w1P P s = P := by rw [w1P, if_neg (fun x => hp x.1)]
    have k1 := get_no h hn s hp
    have H : Hid (Tb w b P nx) := h
    rw [e1, e2]
    clear h e1 e2 hp
    go_enter Try.func22, Try.ntmps22
    go_wp2_with fail
    refine k1.mono ?_
    rintro e w1 ⟨rfl, hb⟩
    clear k1
    go_wp2
    go_ret
    exact ⟨rfl, Tb.bel H.out hb, Trn.ofBelow hb⟩
/-- Free: the answer, the slots. -/
def frR (P : Nat → Pr) (s : Int) : Int := if isP P s ∧ s ≠ 0 then (if (P s.toNat).st = 3 then 0 else 265) else 260
def frP (P : Nat → Pr) (s : Int) : Nat → Pr := if (isP P s ∧ s ≠ 0) ∧ (P s.toNat).st = 3 then up P s.toNat zP else P
theorem Tb.put (h : Tb w b P nx) (n : Nat) (hn : n < 64) (p : Pr) : Tb (w.setCells b (n * 7) p.l) b (up P n p) nx := by
  have T0 := h.set n 0 hn (by omega) (.int .i64 p.pid) { P n with pid := p.pid } rfl
  have T1 := T0.set n 1 hn (by omega) (.int .i64 p.st) { P n with pid := p.pid, st := p.st } (by rw [up_same]; rfl)
  have T2 := T1.set n 2 hn (by omega) (.int .i64 p.par) { P n with pid := p.pid, st := p.st, par := p.par } (by rw [up_same]; rfl)
  have T3 := T2.set n 3 hn (by omega) (.int .i64 p.ck) { P n with pid := p.pid, st := p.st, par := p.par, ck := p.ck } (by rw [up_same]; rfl)
  have T4 := T3.set n 4 hn (by omega) (.int .i64 p.cn) { P n with pid := p.pid, st := p.st, par := p.par, ck := p.ck, cn := p.cn } (by rw [up_same]; rfl)
  have T5 := T4.set n 5 hn (by omega) (.bool p.kil) { P n with pid := p.pid, st := p.st, par := p.par, ck := p.ck, cn := p.cn, kil := p.kil } (by rw [up_same]; rfl)
  have T6 := T5.set n 6 hn (by omega) (.int .i32 p.sta) p (by rw [up_same]; rfl)
  simp only [up_up] at T6
  exact T6
set_option maxHeartbeats 1000000 in
theorem free_any (h : Tb w b P nx) (hn : 1 ≤ nx) (s : Int) : Calls Try.prog 30 #[.pointer (some ⟨b, 0, .none⟩), .int .i64 s] w fun e w' => e = .returned (.int .i64 (frR P s)) ∧ Tb w' b (frP P s) nx ∧ Trn b w w' := by
  by_cases hp : isP P s
  · have hp' := hp
    obtain ⟨h1, h2, h3⟩ := hp
    obtain ⟨n, rfl⟩ : ∃ n : Nat, s = n := ⟨s.toNat, by omega⟩
    rw [Int.toNat_natCast] at h3
    have k1 := get_in h hn n (by omega) h3
    have H : Hid (Tb w b P nx) := h
    by_cases h5 : n = 0
    · subst h5
      have e1 : frR P ((0 : Nat) : Int) = 260 := by rw [frR, if_neg (fun x => x.2 rfl)]
      have e2 : frP P ((0 : Nat) : Int) = P := by rw [frP, if_neg (fun x => x.1.2 rfl)]
      rw [e1, e2]
      clear h e1 e2 h1 h2 h3 hp'
      go_enter Try.func30, Try.ntmps30
      go_wp2_with fail
      refine k1.mono ?_
      rintro e w1 ⟨rfl, hb⟩
      clear k1
      go_wp2
      go_ret
      exact ⟨rfl, Tb.bel H.out hb, Trn.ofBelow hb⟩
    have h6 : (n : Int) ≠ 0 := by omega
    have g5 : ((n : Int) == 0) = false := by simpa using h6
    have K : ∀ W, Below w.heap.size w W → W.cell? ⟨b, n * 7 + 1, .none⟩ = some (.int .i64 (P n).st) := fun W hW => ((h.bel hW).cells n (by omega)).2.1
    by_cases h4 : (P n).st = 3
    · have e1 : frR P n = 0 := by rw [frR, if_pos ⟨hp', h6⟩, Int.toNat_natCast, if_pos h4]
      have e2 : frP P n = up P n zP := by rw [frP, Int.toNat_natCast, if_pos ⟨⟨hp', h6⟩, h4⟩]
      rw [e1, e2]
      rw [h4] at K
      have g : n < 64 := by omega
      clear h e1 e2 h1 h2 h3 h4 hp' h5 h6
      go_enter Try.func30, Try.ntmps30
      go_wp2_with fail
      refine k1.mono ?_
      rintro e w1 ⟨rfl, hb⟩
      have c1 := K w1 hb
      have HT : Hid (Tb w1 b P nx) := Tb.bel H.out hb
      have q0 := (HT.out.cells n g).1
      obtain ⟨q2, q3, q4, q5, q6⟩ := (HT.out.cells n g).2.2
      have f0 := HT.out.fr (n * 7) (by omega)
      have f1 := HT.out.fr (n * 7 + 1) (by omega)
      have f2 := HT.out.fr (n * 7 + 2) (by omega)
      have f3 := HT.out.fr (n * 7 + 3) (by omega)
      have f4 := HT.out.fr (n * 7 + 4) (by omega)
      have f5 := HT.out.fr (n * 7 + 5) (by omega)
      have f6 := HT.out.fr (n * 7 + 6) (by omega)
      clear K k1
      go_wp2
      go_ret
      exact ⟨rfl, Tb.put HT.out n g zP, (Trn.ofBelow hb).trans (Trn.setCells b (n * 7) zP.l w1)⟩
    · have e1 : frR P n = 265 := by rw [frR, if_pos ⟨hp', h6⟩, Int.toNat_natCast, if_neg h4]
      have e2 : frP P n = P := by rw [frP, Int.toNat_natCast, if_neg (fun x => h4 x.2)]
      rw [e1, e2]
      have g4 : ((P n).st == 3) = false := by simpa using h4
      clear h e1 e2 h1 h2 h3 h4 hp' h5 h6
      generalize (P n).st = t at *
      go_enter Try.func30, Try.ntmps30
      go_wp2_with fail
      refine k1.mono ?_
      rintro e w1 ⟨rfl, hb⟩
      have c1 := K w1 hb
      clear K k1
      go_wp2
      go_ret
      exact ⟨rfl, Tb.bel H.out hb, Trn.ofBelow hb⟩
  · have e1 : frR P s = 260 := by rw [frR, if_neg (fun x => hp x.1)]
    have e2 : frP P s = P := by rw [frP, if_neg (fun x => hp x.1.1)]
    have k1 := get_no h hn s hp
    have H : Hid (Tb w b P nx) := h
    rw [e1, e2]
    clear h e1 e2 hp
    go_enter Try.func30, Try.ntmps30
    go_wp2_with fail
    refine k1.mono ?_
    rintro e w1 ⟨rfl, hb⟩
    clear k1
    go_wp2
    go_ret
    exact ⟨rfl, Tb.bel H.out hb, Trn.ofBelow hb⟩
/-- Sleep: the answer, the slots. -/
def slR (P : Nat → Pr) (s k m : Int) : Int := if isP P s then (if (P s.toNat).st = 1 ∧ (P s.toNat).kil = false then (if isCh k m then 0 else 264) else 265) else 260
def slP (P : Nat → Pr) (s k m : Int) : Nat → Pr := if isP P s ∧ ((P s.toNat).st = 1 ∧ (P s.toNat).kil = false) ∧ isCh k m then up P s.toNat { P s.toNat with st := 2, ck := k, cn := m } else P
set_option maxHeartbeats 1000000 in
theorem sleep_any (h : Tb w b P nx) (hn : 1 ≤ nx) (s k m : Int) : Calls Try.prog 18 #[.pointer (some ⟨b, 0, .none⟩), .int .i64 s, .agg #[.int .i64 k, .int .i64 m]] w fun e w' => e = .returned (.int .i64 (slR P s k m)) ∧ Tb w' b (slP P s k m) nx ∧ Trn b w w' := by
  have hb := h.lt
  by_cases hp : isP P s
  · have hp' := hp
    obtain ⟨h1, h2, h3⟩ := hp
    obtain ⟨n, rfl⟩ : ∃ n : Nat, s = n := ⟨s.toNat, by omega⟩
    rw [Int.toNat_natCast] at h3
    have g : n < 64 := by omega
    have H : Hid (Tb w b P nx) := h
    have HX : Hid (Tb (w.alloc (.cells #[.int .i64 k, .int .i64 m] 31)) b P nx) := h.bel (below1 _ _)
    have k1 := get_in HX.out hn n (by omega) h3
    have HB0 : Hid (Below w.heap.size w (w.alloc (.cells #[.int .i64 k, .int .i64 m] 31))) := below1 _ _
    have d0 : (w.alloc (.cells #[.int .i64 k, .int .i64 m] 31)).cell? ⟨w.heap.size, 0, .none⟩ = some (.int .i64 k) := by rw [World.cell?_alloc_at _ _ _ _ rfl]; rfl
    have d1 : (w.alloc (.cells #[.int .i64 k, .int .i64 m] 31)).cell? ⟨w.heap.size, 1, .none⟩ = some (.int .i64 m) := by rw [World.cell?_alloc_at _ _ _ _ rfl]; rfl
    have hsz : w.heap.size < (w.alloc (.cells #[.int .i64 k, .int .i64 m] 31)).heap.size := by simp
    have KK : ∀ W, Below (w.alloc (.cells #[.int .i64 k, .int .i64 m] 31)).heap.size (w.alloc (.cells #[.int .i64 k, .int .i64 m] 31)) W → Tb W b P nx ∧ W.cell? ⟨w.heap.size, 0, .none⟩ = some (.int .i64 k) ∧ W.cell? ⟨w.heap.size, 1, .none⟩ = some (.int .i64 m) ∧ Trn b w W := fun W hW =>
      ⟨Tb.bel HX.out hW, (hW.cell (p := ⟨w.heap.size, 0, .none⟩) hsz).trans d0, (hW.cell (p := ⟨w.heap.size, 1, .none⟩) hsz).trans d1, (Trn.ofBelow HB0.out).trans (Trn.ofBelow hW)⟩
    have k2 := canRun_any (P n)
    have k3 := isChan_any k m
    clear d0 d1 h HX
    by_cases h4 : (P n).st = 1
    · rw [h4, show ((1 : Int) == 1) = true from rfl] at k2
      by_cases h5 : (P n).kil = false
      · by_cases h6 : isCh k m = true
        · have e1 : slR P n k m = 0 := by rw [slR, if_pos hp', Int.toNat_natCast, if_pos ⟨h4, h5⟩, if_pos h6]
          have e2 : slP P n k m = up P n { P n with st := 2, ck := k, cn := m } := by rw [slP, Int.toNat_natCast, if_pos ⟨hp', ⟨h4, h5⟩, h6⟩]
          rw [e1, e2]
          rw [h6] at k3
          have H5 : Hid ((P n).kil = false) := h5
          clear e1 e2 h1 h2 h3 hp' h4 h5 h6
          go_enter Try.func18, Try.ntmps18
          go_wp2_with fail
          refine k1.mono ?_
          rintro e w1 ⟨rfl, hb1⟩
          obtain ⟨hT, d0, d1, hR⟩ := KK w1 hb1
          have HT : Hid (Tb w1 b P nx) := hT
          obtain ⟨c0, c1, c2, c3, c4, c5, c6⟩ := hT.cells n g
          rw [H5.out] at c5
          have HR : Hid (Trn b w w1) := hR
          clear KK k1 hb1 hT hR hsz
          have k2 := k2 w1
          rw [Pr.l, H5.out] at k2
          go_wp2_with fail
          refine k2.mono ?_
          rintro e w2 ⟨rfl, hb2⟩
          have HT2 : Hid (Tb w2 b P nx) := Tb.bel HT.out hb2
          have HR2 : Hid (Trn b w w2) := Trn.trans HR.out (Trn.ofBelow hb2)
          have z1 := lt_cell d0
          have d0 := (hb2.cell (p := ⟨w.heap.size, 0, .none⟩) z1).trans d0
          have d1 := (hb2.cell (p := ⟨w.heap.size, 1, .none⟩) z1).trans d1
          clear c0 c1 c2 c3 c4 c5 c6 k2 hb2 z1
          obtain ⟨c0, c1, c2, c3, c4, c5, c6⟩ := HT2.out.cells n g
          rw [H5.out] at c5
          have k3 := k3 w2
          go_wp2_with fail
          refine k3.mono ?_
          rintro e w3 ⟨rfl, hb3⟩
          have HT3 : Hid (Tb w3 b P nx) := Tb.bel HT2.out hb3
          have HR3 : Hid (Trn b w w3) := Trn.trans HR2.out (Trn.ofBelow hb3)
          have z1 := lt_cell d0
          have d0 := (hb3.cell (p := ⟨w.heap.size, 0, .none⟩) z1).trans d0
          have d1 := (hb3.cell (p := ⟨w.heap.size, 1, .none⟩) z1).trans d1
          clear c0 c1 c2 c3 c4 c5 c6 k3 hb3 z1
          obtain ⟨c0, c1, c2, c3, c4, c5, c6⟩ := HT3.out.cells n g
          have f1 := HT3.out.fr (n * 7 + 1) (by omega)
          have f3 := HT3.out.fr (n * 7 + 3) (by omega)
          have f4 := HT3.out.fr (n * 7 + 4) (by omega)
          have hne : w.heap.size ≠ b := by omega
          go_wp2
          go_region
          go_wp2
          go_ret
          have T1 := Tb.set HT3.out n 1 g (by omega) (.int .i64 2) { P n with st := 2 } rfl
          have T2 := T1.set n 3 g (by omega) (.int .i64 k) { P n with st := 2, ck := k } (by rw [up_same]; rfl)
          have T3 := T2.set n 4 g (by omega) (.int .i64 m) { P n with st := 2, ck := k, cn := m } (by rw [up_same]; rfl)
          rw [up_up, up_up] at T3
          refine ⟨rfl, ?_, ?_⟩
          · exact T3.keep rfl
          · exact (((HR3.out.trans (Trn.setCell _ _ _ _)).trans (Trn.setCell _ _ _ _)).trans (Trn.setCell _ _ _ _)).trans (Trn.drew _ _)
        · have e1 : slR P n k m = 264 := by rw [slR, if_pos hp', Int.toNat_natCast, if_pos ⟨h4, h5⟩, if_neg h6]
          have e2 : slP P n k m = P := by rw [slP, if_neg (fun x => h6 x.2.2)]
          rw [e1, e2]
          rw [show isCh k m = false by simpa using h6] at k3
          have H5 : Hid ((P n).kil = false) := h5
          clear e1 e2 h1 h2 h3 hp' h4 h5 h6
          go_enter Try.func18, Try.ntmps18
          go_wp2_with fail
          refine k1.mono ?_
          rintro e w1 ⟨rfl, hb1⟩
          obtain ⟨hT, d0, d1, hR⟩ := KK w1 hb1
          have HT : Hid (Tb w1 b P nx) := hT
          obtain ⟨c0, c1, c2, c3, c4, c5, c6⟩ := hT.cells n g
          rw [H5.out] at c5
          have HR : Hid (Trn b w w1) := hR
          clear KK k1 hb1 hT hR hsz
          have k2 := k2 w1
          rw [Pr.l] at k2
          rw [H5.out] at k2
          go_wp2_with fail
          refine k2.mono ?_
          rintro e w2 ⟨rfl, hb2⟩
          have HT2 : Hid (Tb w2 b P nx) := Tb.bel HT.out hb2
          have HR2 : Hid (Trn b w w2) := Trn.trans HR.out (Trn.ofBelow hb2)
          have z1 := lt_cell d0
          have d0 := (hb2.cell (p := ⟨w.heap.size, 0, .none⟩) z1).trans d0
          have d1 := (hb2.cell (p := ⟨w.heap.size, 1, .none⟩) z1).trans d1
          clear c0 c1 c2 c3 c4 c5 c6 k2 hb2 z1
          obtain ⟨c0, c1, c2, c3, c4, c5, c6⟩ := HT2.out.cells n g
          rw [H5.out] at c5
          have k3 := k3 w2
          go_wp2_with fail
          refine k3.mono ?_
          rintro e w3 ⟨rfl, hb3⟩
          clear c0 c1 c2 c3 c4 c5 c6 k3 d0 d1
          go_wp2
          go_ret
          exact ⟨rfl, Tb.bel HT2.out hb3, Trn.trans HR2.out (Trn.ofBelow hb3)⟩
      · have e1 : slR P n k m = 265 := by rw [slR, if_pos hp', Int.toNat_natCast, if_neg (fun x => h5 x.2)]
        have e2 : slP P n k m = P := by rw [slP, Int.toNat_natCast, if_neg (fun x => h5 x.2.1.2)]
        rw [e1, e2]
        have H5 : Hid ((P n).kil = true) := by cases q : (P n).kil; exact absurd q h5; exact rfl
        clear e1 e2 h1 h2 h3 hp' h4 h5 k3
        go_enter Try.func18, Try.ntmps18
        go_wp2_with fail
        refine k1.mono ?_
        rintro e w1 ⟨rfl, hb1⟩
        obtain ⟨hT, d0, d1, hR⟩ := KK w1 hb1
        have HT : Hid (Tb w1 b P nx) := hT
        obtain ⟨c0, c1, c2, c3, c4, c5, c6⟩ := hT.cells n g
        rw [H5.out] at c5
        have HR : Hid (Trn b w w1) := hR
        clear KK k1 hb1 hT hR hsz
        have k2 := k2 w1
        rw [Pr.l] at k2
        rw [H5.out] at k2
        go_wp2_with fail
        refine k2.mono ?_
        rintro e w2 ⟨rfl, hb2⟩
        have HT2 : Hid (Tb w2 b P nx) := Tb.bel HT.out hb2
        have HR2 : Hid (Trn b w w2) := Trn.trans HR.out (Trn.ofBelow hb2)
        have z1 := lt_cell d0
        have d0 := (hb2.cell (p := ⟨w.heap.size, 0, .none⟩) z1).trans d0
        have d1 := (hb2.cell (p := ⟨w.heap.size, 1, .none⟩) z1).trans d1
        clear c0 c1 c2 c3 c4 c5 c6 k2 hb2 z1
        obtain ⟨c0, c1, c2, c3, c4, c5, c6⟩ := HT2.out.cells n g
        rw [H5.out] at c5
        go_wp2
        go_ret
        exact ⟨rfl, HT2.out, HR2.out⟩
    · rw [show ((P n).st == 1) = false by simpa using h4] at k2
      have e1 : slR P n k m = 265 := by rw [slR, if_pos hp', Int.toNat_natCast, if_neg (fun x => h4 x.1)]
      have e2 : slP P n k m = P := by rw [slP, Int.toNat_natCast, if_neg (fun x => h4 x.2.1.1)]
      rw [e1, e2]
      clear e1 e2 h1 h2 h3 hp' h4 k3
      go_enter Try.func18, Try.ntmps18
      go_wp2_with fail
      refine k1.mono ?_
      rintro e w1 ⟨rfl, hb1⟩
      obtain ⟨hT, d0, d1, hR⟩ := KK w1 hb1
      have HT : Hid (Tb w1 b P nx) := hT
      obtain ⟨c0, c1, c2, c3, c4, c5, c6⟩ := hT.cells n g
      have HR : Hid (Trn b w w1) := hR
      clear KK k1 hb1 hT hR hsz
      have k2 := k2 w1
      rw [Pr.l] at k2
      go_wp2_with fail
      refine k2.mono ?_
      rintro e w2 ⟨rfl, hb2⟩
      have HT2 : Hid (Tb w2 b P nx) := Tb.bel HT.out hb2
      have HR2 : Hid (Trn b w w2) := Trn.trans HR.out (Trn.ofBelow hb2)
      have z1 := lt_cell d0
      have d0 := (hb2.cell (p := ⟨w.heap.size, 0, .none⟩) z1).trans d0
      have d1 := (hb2.cell (p := ⟨w.heap.size, 1, .none⟩) z1).trans d1
      clear c0 c1 c2 c3 c4 c5 c6 k2 hb2 z1
      obtain ⟨c0, c1, c2, c3, c4, c5, c6⟩ := HT2.out.cells n g
      go_wp2
      go_ret
      exact ⟨rfl, HT2.out, HR2.out⟩
  · have e1 : slR P s k m = 260 := by rw [slR, if_neg hp]
    have e2 : slP P s k m = P := by rw [slP, if_neg (fun x => hp x.1)]
    have HB0 : Hid (Below w.heap.size w (w.alloc (.cells #[.int .i64 k, .int .i64 m] 31))) := below1 _ _
    have k1 := get_no (h.bel HB0.out) hn s hp
    have H : Hid (Tb w b P nx) := h
    rw [e1, e2]
    clear h e1 e2 hp
    go_enter Try.func18, Try.ntmps18
    go_wp2_with fail
    refine k1.mono ?_
    rintro e w1 ⟨rfl, hb1⟩
    have HB : Hid (Below w.heap.size w w1) := HB0.out.trans (hb1.mono HB0.out.size)
    clear k1 hb1
    go_wp2
    go_ret
    exact ⟨rfl, Tb.bel H.out HB.out, Trn.ofBelow HB.out⟩
end
end Go.Proofs.Ytnlbomggadflmab
