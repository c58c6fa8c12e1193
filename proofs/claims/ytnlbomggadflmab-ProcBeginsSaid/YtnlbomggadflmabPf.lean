import Derived.Test.YtnlbomggadflmabPq
namespace Go.Proofs.Ytnlbomggadflmab
open Go.RowKit
set_option linter.unusedVariables false
set_option linter.unusedSimpArgs false
set_option maxRecDepth 100000
/-- It sleeps on that channel. -/
def onC (k m : Int) (p : Pr) : Bool := p.st == 2 && cEq p.ck p.cn k m
def wkP (P : Nat → Pr) (k m : Int) : Nat → Pr := fun i => if onC k m (P i) then (P i).wk else P i
def wkC (P : Nat → Pr) (k m : Int) (n : Nat) : Nat := (List.range n).countP fun i => onC k m (P i)
theorem wkC_succ (P : Nat → Pr) (k m : Int) (n : Nat) : wkC P k m (n + 1) = wkC P k m n + if onC k m (P n) then 1 else 0 := by
  simp [wkC, List.range_succ, List.countP_append, List.countP_singleton]
theorem wkC_le (P : Nat → Pr) (k m : Int) (n : Nat) : wkC P k m n ≤ n := by
  have := List.countP_le_length (p := fun i => onC k m (P i)) (l := List.range n)
  simpa [wkC] using this
/-- The first n places are looked at. -/
def part_ (n : Nat) (A B : Nat → Pr) : Nat → Pr := fun i => if i < n then A i else B i
theorem part_0 (A B : Nat → Pr) : part_ 0 A B = B := by funext i; simp [part_]
theorem part_up (n : Nat) (A B : Nat → Pr) : part_ (n + 1) A B = up (part_ n A B) n (A n) := by
  funext i
  simp only [part_, up]
  by_cases h : i = n
  · simp [h]
  · by_cases h2 : i < n
    · simp [h, h2]; omega
    · simp [h, h2]; omega
theorem part_same (n : Nat) (A B : Nat → Pr) (h : A n = B n) : part_ (n + 1) A B = part_ n A B := by
  funext i
  simp only [part_]
  by_cases e : i = n
  · simp [e, h]
  · by_cases h2 : i < n
    · simp [h2]; omega
    · simp [h2]; omega
theorem part_at (n : Nat) (A B : Nat → Pr) : part_ n A B n = B n := by simp [part_]
theorem eqlc (a b c e : Int) (w : World) : (binOp .eql 31 (.agg #[.int .i64 a, .int .i64 b]) (.agg #[.int .i64 c, .int .i64 e])).run Try.prog w = .ok (.bool (cEq a b c e)) w := eql_chan a b c e w
section
variable {w : World} {b : Nat} {P : Nat → Pr} {nx : Int}
set_option maxHeartbeats 4000000 in
theorem wakeC_any (h : Tb w b P nx) (hn : 1 ≤ nx) (k m : Int) : Calls Try.prog 20 #[.pointer (some ⟨b, 0, .none⟩), .agg #[.int .i64 k, .int .i64 m]] w fun e w' => e = .returned (.int .i64 (wkC P k m 64 : Nat)) ∧ Tb w' b (wkP P k m) nx ∧ Trn b w w' := by
  have HB : Hid (Below w.heap.size w (w.alloc (.cells #[.int .i64 k, .int .i64 m] 31))) := below1 _ _
  have hsz : w.heap.size < (w.alloc (.cells #[.int .i64 k, .int .i64 m] 31)).heap.size := by simp
  have HC0 : (w.alloc (.cells #[.int .i64 k, .int .i64 m] 31)).cell? ⟨w.heap.size, 0, .none⟩ = some (.int .i64 k) := by rw [World.cell?_alloc_at _ _ _ _ rfl]; rfl
  have HC1 : (w.alloc (.cells #[.int .i64 k, .int .i64 m] 31)).cell? ⟨w.heap.size, 1, .none⟩ = some (.int .i64 m) := by rw [World.cell?_alloc_at _ _ _ _ rfl]; rfl
  have HT : Hid (Tb (w.alloc (.cells #[.int .i64 k, .int .i64 m] 31)) b P nx) := h.bel (below1 _ _)
  have k1 := isMade_any HT.out hn
  have hb := h.lt
  have HS : Hid (Tb (w.alloc (.cells #[.int .i64 k, .int .i64 m] 31)) b (part_ 0 (wkP P k m) P) nx ∧ Trn b w (w.alloc (.cells #[.int .i64 k, .int .i64 m] 31)) ∧ (w.alloc (.cells #[.int .i64 k, .int .i64 m] 31)).cell? ⟨w.heap.size, 0, .none⟩ = some (.int .i64 k) ∧ (w.alloc (.cells #[.int .i64 k, .int .i64 m] 31)).cell? ⟨w.heap.size, 1, .none⟩ = some (.int .i64 m)) := ⟨by rw [part_0]; exact HT.out, Trn.ofBelow HB.out, HC0, HC1⟩
  clear h HB HC0 HC1 HT
  go_enter Try.func20, Try.ntmps20
  go_wp2_with fail
  refine k1.mono ?_
  rintro e w1 ⟨rfl, hw⟩
  subst hw
  clear k1
  generalize w.alloc (.cells #[.int .i64 k, .int .i64 m] 31) = w1 at *
  go_wp2
  go_loopw [5, 11] (fun c i wr => ∃ n : Nat, n ≤ 64 ∧ i = .int .i64 n ∧ c = .int .i64 (wkC P k m n : Nat) ∧ Hid (Tb wr b (part_ n (wkP P k m) P) nx ∧ Trn b w wr ∧ wr.cell? ⟨w.heap.size, 0, .none⟩ = some (.int .i64 k) ∧ wr.cell? ⟨w.heap.size, 1, .none⟩ = some (.int .i64 m))) (fun _ i _ => (64 - intOf i).toNat)
  case atStart => exact ⟨0, by omega, rfl, rfl, HS.out⟩
  case round =>
    obtain ⟨n, hi, rfl, rfl, HO⟩ := hrel
    clear HS hsz
    by_cases hlt : n < 64
    · have g0 : (n : Int) < 64 := by omega
      obtain ⟨hT, hR, d0, d1⟩ := HO.out
      obtain ⟨c0, c1, c2, c3, c4, c5, c6⟩ := hT.cells n hlt
      rw [part_at] at c0 c1 c2 c3 c4 c5 c6
      have kw := wake_any (w := wr.drew) (hT.keep rfl) n hlt
      rw [part_at] at kw
      have hne : w.heap.size ≠ b := by omega
      have hle := wkC_le P k m n
      have HC := wkC_succ P k m n
      have eqc := eqlc
      clear hT hR
      cases hq : onC k m (P n) with
      | false =>
        rw [hq] at HC
        have HC' : Hid (wkC P k m (n + 1) = wkC P k m n) := HC
        have HU : Hid (part_ (n + 1) (wkP P k m) P = part_ n (wkP P k m) P) := part_same _ _ _ (by rw [wkP, hq]; rfl)
        by_cases h2 : (P n).st = 2
        · have h3 : cEq (P n).ck (P n).cn k m = false := by simpa [onC, h2] using hq
          rw [h2] at c1
          clear hq h2 HC kw
          generalize (P n).ck = ck at *
          generalize (P n).cn = cn at *
          go_wp2
          go_region
          all_goals (go_wp2; exact ⟨⟨n + 1, by omega, rfl, by rw [HC'.out], by rw [Hid, HU.out]; obtain ⟨q1, q2, q3, q4⟩ := HO.out; exact ⟨q1.keep rfl, q2.trans (Trn.drew _ _), q3, q4⟩⟩, by simp only [intOf]; omega⟩)
        · have h3 : ((P n).st == 2) = false := by simpa using h2
          clear hq h2 HC kw
          generalize (P n).st = st at *
          go_wp2
          go_region
          all_goals (go_wp2; exact ⟨⟨n + 1, by omega, rfl, by rw [HC'.out], by rw [Hid, HU.out]; obtain ⟨q1, q2, q3, q4⟩ := HO.out; exact ⟨q1.keep rfl, q2.trans (Trn.drew _ _), q3, q4⟩⟩, by simp only [intOf]; omega⟩)
      | true =>
        rw [hq] at HC
        have HC' : Hid (wkC P k m (n + 1) = wkC P k m n + 1) := HC
        have HU : Hid (part_ (n + 1) (wkP P k m) P = up (part_ n (wkP P k m) P) n (P n).wk) := by rw [Hid, part_up, wkP, hq]; rfl
        have h2 : (P n).st = 2 := by
          have := hq
          simp only [onC, Bool.and_eq_true, beq_iff_eq] at this
          exact this.1
        have h3 : cEq (P n).ck (P n).cn k m = true := by simpa [onC, h2] using hq
        rw [h2] at c1
        have HK : Hid (∀ w', Tb w' b (up (part_ n (wkP P k m) P) n (P n).wk) nx → Trn b wr.drew w' → Tb w' b (part_ (n + 1) (wkP P k m) P) nx ∧ Trn b w w' ∧ w'.cell? ⟨w.heap.size, 0, .none⟩ = some (.int .i64 k) ∧ w'.cell? ⟨w.heap.size, 1, .none⟩ = some (.int .i64 m)) := fun w' t1 t2 => by
          obtain ⟨q1, q2, q3, q4⟩ := HO.out
          rw [HU.out]
          exact ⟨t1, (q2.trans (Trn.drew _ _)).trans t2, (t2.cell (p := ⟨w.heap.size, 0, .none⟩) (lt_cell q3) hne).trans q3, (t2.cell (p := ⟨w.heap.size, 1, .none⟩) (lt_cell q4) hne).trans q4⟩
        have HW : Hid (Calls Try.prog 53 #[.pointer (some ⟨b, n * 7, .none⟩)] wr.drew fun e w' => e = .returned (.tuple #[]) ∧ Tb w' b (up (part_ n (wkP P k m) P) n (P n).wk) nx ∧ Trn b wr.drew w') := kw
        clear hq h2 HC kw HU
        generalize (P n).ck = ck at *
        generalize (P n).cn = cn at *
        go_wp2
        go_region
        all_goals (
          go_wp2_with fail
          refine HW.out.mono ?_
          rintro e w2 ⟨rfl, hT, hR⟩
          have HF := HK.out w2 hT hR
          have HFF : Hid (Tb w2 b (part_ (n + 1) (wkP P k m) P) nx ∧ Trn b w w2 ∧ w2.cell? ⟨w.heap.size, 0, .none⟩ = some (.int .i64 k) ∧ w2.cell? ⟨w.heap.size, 1, .none⟩ = some (.int .i64 m)) := HF
          clear HF hT hR
          go_wp2
          exact ⟨⟨n + 1, by omega, rfl, by rw [HC'.out]; rfl, HFF.out⟩, by simp only [intOf]; omega⟩)
    · obtain rfl : n = 64 := by omega
      have HF : Hid (Tb wr b (wkP P k m) nx ∧ Trn b w wr) := ⟨HO.out.1.congr (fun i hi => if_pos hi), HO.out.2.1⟩
      clear HO
      go_wp2
      go_ret
      exact ⟨rfl, HF.out.1, HF.out.2⟩
/-- A child of that slot? -/
def chd (par : Int) (i : Nat) (p : Pr) : Bool := !(p.st == 0) && p.par == par && !((i : Int) == par)
set_option maxHeartbeats 4000000 in
theorem each_any (par : Int) (F : Nat) (hE : Enters F) (cap : List Value) (Q : Nat → Nat → Pr) (J : Nat → World → Prop)
    (hT : ∀ i W, i < 64 → J i W → Tb W b (Q i) nx)
    (hB : ∀ i W W', i < 64 → J i W → Below W.heap.size W W' → J i W')
    (hN : ∀ i W, i < 64 → J i W → chd par i (Q i i) = false → J (i + 1) W)
    (hY : ∀ i W, i < 64 → J i W → chd par i (Q i i) = true → Calls Try.prog F (.int .i64 (i : Int) :: .pointer (some ⟨b, i * 7, .none⟩) :: cap).toArray W fun e w' => e = .returned (.tuple #[]) ∧ J (i + 1) w')
    (h0 : J 0 w) : Calls Try.prog 56 #[.pointer (some ⟨b, 0, .none⟩), .int .i64 par, .func (.func F) #[] cap.toArray] w fun e w' => e = .returned (.tuple #[]) ∧ J 64 w' := by
  unfold Enters at hE
  have HJ0 : Hid (J 0 w) := h0
  clear h0
  go_enter Try.func56, Try.ntmps56
  go_wp2
  go_loopw [8] (fun i wr => ∃ n : Nat, n ≤ 64 ∧ i = .int .i64 n ∧ Hid (J n wr)) (fun i _ => (64 - intOf i).toNat)
  case atStart => exact ⟨0, by omega, rfl, HJ0.out⟩
  case round =>
    obtain ⟨n, hi, rfl, HO⟩ := hrel
    by_cases hlt : n < 64
    · have g0 : (n : Int) < 64 := by omega
      obtain ⟨c0, c1, c2, c3, c4, c5, c6⟩ := (hT n wr hlt HO.out).cells n hlt
      have k := isProcess_any (Q n n) wr
      rw [Pr.l] at k
      have KC : ∀ W, Below wr.heap.size wr W → W.cell? ⟨b, n * 7 + 2, .none⟩ = some (.int .i64 (Q n n).par) ∧ Hid (J n W) := fun W hW => ⟨(((hT n W hlt (hB n wr W hlt HO.out hW))).cells n hlt).2.2.1, hB n wr W hlt HO.out hW⟩
      have HN : Hid (∀ W, J n W → chd par n (Q n n) = false → J (n + 1) W) := fun W => hN n W hlt
      have HY := fun W => hY n W hlt
      have HC : Hid (chd par n (Q n n) = (!((Q n n).st == 0) && (Q n n).par == par && !((n : Int) == par))) := rfl
      generalize chd par n (Q n n) = t at *
      generalize Q n n = p at *
      by_cases h1 : p.st = 0
      · have HF : Hid (t = false) := by rw [Hid, HC.out]; simp [h1]
        rw [show (!(p.st == 0)) = false by simp [h1]] at k
        clear h1
        go_wp2_with fail
        refine k.mono ?_
        rintro e w1 ⟨rfl, hb⟩
        have HJ := (KC w1 hb).2
        clear k hb KC
        go_wp2
        exact ⟨⟨n + 1, by omega, rfl, HN.out w1 HJ.out HF.out⟩, by simp only [intOf]; omega⟩
      rw [show (!(p.st == 0)) = true by simp [h1]] at k
      by_cases h2 : p.par = par
      · by_cases h3 : (n : Int) = par
        · have HF : Hid (t = false) := by rw [Hid, HC.out]; simp [h3]
          have g3 : ((n : Int) == par) = true := by simpa using h3
          have g2 : (p.par == par) = true := by simpa using h2
          clear h1 h2 h3
          go_wp2_with fail
          refine k.mono ?_
          rintro e w1 ⟨rfl, hb⟩
          obtain ⟨d2, HJ⟩ := KC w1 hb
          clear k hb KC
          go_wp2
          exact ⟨⟨n + 1, by omega, rfl, HN.out w1 HJ.out HF.out⟩, by simp only [intOf]; omega⟩
        · have HF : Hid (t = true) := by rw [Hid, HC.out]; simp [h1, h2, h3]
          have g3 : ((n : Int) == par) = false := by simpa using h3
          have g2 : (p.par == par) = true := by simpa using h2
          clear h1 h2 h3
          go_wp2_with fail
          refine k.mono ?_
          rintro e w1 ⟨rfl, hb⟩
          obtain ⟨d2, HJ⟩ := KC w1 hb
          have ky := HY w1 HJ.out HF.out
          clear k hb KC
          go_wp2_with fail
          refine ky.mono ?_
          rintro e w2 ⟨rfl, hJ⟩
          have HJ2 : Hid (J (n + 1) w2) := hJ
          clear hJ ky d2
          go_wp2
          exact ⟨⟨n + 1, by omega, rfl, HJ2.out⟩, by simp only [intOf]; omega⟩
      · have HF : Hid (t = false) := by rw [Hid, HC.out]; simp [h2]
        have g2 : (p.par == par) = false := by simpa using h2
        clear h1 h2
        go_wp2_with fail
        refine k.mono ?_
        rintro e w1 ⟨rfl, hb⟩
        obtain ⟨d2, HJ⟩ := KC w1 hb
        clear k hb KC
        go_wp2
        exact ⟨⟨n + 1, by omega, rfl, HN.out w1 HJ.out HF.out⟩, by simp only [intOf]; omega⟩
    · obtain rfl : n = 64 := by omega
      go_wp2
      go_end0
      exact ⟨rfl, HO.out⟩
end
end Go.Proofs.Ytnlbomggadflmab
