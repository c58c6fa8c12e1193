import Derived.Test.YtnlbomggadflmabRb
namespace Go.Proofs.Ytnlbomggadflmab
open Go.RowKit
set_option linter.unusedVariables false
set_option linter.unusedSimpArgs false
set_option maxRecDepth 100000
section
variable {w : World} {b : Nat} {P : Nat → Pr} {nx : Int}
set_option maxHeartbeats 8000000 in
theorem rwakeC_any (h : Tb w b P nx) (hn : 1 ≤ nx) (k m : Int) : Calls Try.prog 21 #[.pointer (some ⟨b, 0, .none⟩), .agg #[.int .i64 k, .int .i64 m]] w fun e w' => e = .returned (.int .i64 (wkC P k m 64 : Nat)) ∧ Tb w' b (wkP P k m) nx ∧ Trn b w w' := by
  have HB : Hid (Below w.heap.size w (w.alloc (.cells #[.int .i64 k, .int .i64 m] 31))) := below1 _ _
  have HC0 : (w.alloc (.cells #[.int .i64 k, .int .i64 m] 31)).cell? ⟨w.heap.size, 0, .none⟩ = some (.int .i64 k) := by rw [World.cell?_alloc_at _ _ _ _ rfl]; rfl
  have HC1 : (w.alloc (.cells #[.int .i64 k, .int .i64 m] 31)).cell? ⟨w.heap.size, 1, .none⟩ = some (.int .i64 m) := by rw [World.cell?_alloc_at _ _ _ _ rfl]; rfl
  have HT : Hid (Tb (w.alloc (.cells #[.int .i64 k, .int .i64 m] 31)) b P nx) := h.bel (below1 _ _)
  have k1 := none_any HT.out hn
  have hb := h.lt
  have HS : Hid (Tb (w.alloc (.cells #[.int .i64 k, .int .i64 m] 31)) b (part_ 0 (wkP P k m) P) nx ∧ Trn b w (w.alloc (.cells #[.int .i64 k, .int .i64 m] 31)) ∧ (w.alloc (.cells #[.int .i64 k, .int .i64 m] 31)).cell? ⟨w.heap.size, 0, .none⟩ = some (.int .i64 k) ∧ (w.alloc (.cells #[.int .i64 k, .int .i64 m] 31)).cell? ⟨w.heap.size, 1, .none⟩ = some (.int .i64 m)) := ⟨by rw [part_0]; exact HT.out, Trn.ofBelow HB.out, HC0, HC1⟩
  clear h HB HC0 HC1 HT
  go_enter Try.func21, Try.ntmps21
  go_wp2_with fail
  refine k1.mono ?_
  rintro e w1 ⟨rfl, hw⟩
  subst hw
  clear k1
  generalize w.alloc (.cells #[.int .i64 k, .int .i64 m] 31) = w1 at *
  go_wp2
  go_loopw [5, 6] (fun c i wr => ∃ n : Nat, n ≤ 64 ∧ i = .int .i64 n ∧ c = .int .i64 (wkC P k m n : Nat) ∧ Hid (Tb wr b (part_ n (wkP P k m) P) nx ∧ Trn b w wr ∧ wr.cell? ⟨w.heap.size, 0, .none⟩ = some (.int .i64 k) ∧ wr.cell? ⟨w.heap.size, 1, .none⟩ = some (.int .i64 m))) (fun _ i _ => (64 - intOf i).toNat)
  case atStart => exact ⟨0, by omega, rfl, rfl, HS.out⟩
  case round =>
    obtain ⟨n, hi, rfl, rfl, HO⟩ := hrel
    clear HS
    by_cases hlt : n < 64
    · have g0 : (n : Int) < 64 := by omega
      obtain ⟨hT, hR, d0, d1⟩ := HO.out
      obtain ⟨c0, c1, c2, c3, c4, c5, c6⟩ := hT.cells n hlt
      rw [part_at] at c0 c1 c2 c3 c4 c5 c6
      have kw := up_any (w := wr.drew) (hT.keep rfl) n hlt
      rw [part_at] at kw
      have hne : w.heap.size ≠ b := by omega
      have hle := wkC_le P k m n
      have HC := wkC_succ P k m n
      have HOC : Hid (onC k m (P n) = ((P n).st == 2 && ((P n).ck == k && (P n).cn == m))) := rfl
      clear hT hR c0 c2 c5 c6
      by_cases hq : onC k m (P n) = true
      · rw [hq] at HC
        have HC' : Hid (wkC P k m (n + 1) = wkC P k m n + 1) := HC
        have HU : Hid (part_ (n + 1) (wkP P k m) P = up (part_ n (wkP P k m) P) n (P n).wk) := by rw [Hid, part_up, wkP, hq]; rfl
        have h2 : (P n).st = 2 ∧ (P n).ck = k ∧ (P n).cn = m := by
          rw [HOC.out] at hq
          simpa using hq
        rw [h2.1] at c1
        rw [h2.2.1] at c3
        rw [h2.2.2] at c4
        have HK : Hid (∀ w', Tb w' b (up (part_ n (wkP P k m) P) n (P n).wk) nx → Trn b wr.drew w' → Tb w' b (part_ (n + 1) (wkP P k m) P) nx ∧ Trn b w w' ∧ w'.cell? ⟨w.heap.size, 0, .none⟩ = some (.int .i64 k) ∧ w'.cell? ⟨w.heap.size, 1, .none⟩ = some (.int .i64 m)) := fun w' t1 t2 => by
          obtain ⟨q1, q2, q3, q4⟩ := HO.out
          rw [HU.out]
          exact ⟨t1, (q2.trans (Trn.drew _ _)).trans t2, (t2.cell (p := ⟨w.heap.size, 0, .none⟩) (lt_cell q3) hne).trans q3, (t2.cell (p := ⟨w.heap.size, 1, .none⟩) (lt_cell q4) hne).trans q4⟩
        have HW : Hid (Calls Try.prog 54 #[.pointer (some ⟨b, 0, .none⟩), .int .i64 (n : Int)] wr.drew fun e w' => e = .returned (.tuple #[]) ∧ Tb w' b (up (part_ n (wkP P k m) P) n (P n).wk) nx ∧ Trn b wr.drew w') := kw
        clear hq h2 HC kw HU HOC
        go_wp2
        go_region
        all_goals (
          go_wp2_with fail
          refine HW.out.mono ?_
          rintro e w2 ⟨rfl, hT, hR⟩
          have HF := HK.out w2 hT hR
          have HFF : Hid (Tb w2 b (part_ (n + 1) (wkP P k m) P) nx ∧ Trn b w w2 ∧ w2.cell? ⟨w.heap.size, 0, .none⟩ = some (.int .i64 k) ∧ w2.cell? ⟨w.heap.size, 1, .none⟩ = some (.int .i64 m)) := HF
          clear HF hT hR
          go_wp2
          exact ⟨⟨n + 1, by omega, rfl, by rw [HC'.out]; rfl, HFF.out⟩, by simp only [intOf]; omega⟩)
      · have hq' : onC k m (P n) = false := by simpa using hq
        rw [hq'] at HC
        have HC' : Hid (wkC P k m (n + 1) = wkC P k m n) := HC
        have HU : Hid (part_ (n + 1) (wkP P k m) P = part_ n (wkP P k m) P) := part_same _ _ _ (by rw [wkP, hq']; rfl)
        rw [HOC.out] at hq'
        clear kw HC hq HOC
        by_cases h2 : (P n).st = 2
        · rw [h2] at c1
          by_cases h3 : (P n).ck = k
          · have h4 : ((P n).cn == m) = false := by simpa [h2, h3] using hq'
            have g3 : ((P n).ck == k) = true := by simpa using h3
            clear hq' h2 h3
            generalize (P n).ck = ck at *
            generalize (P n).cn = cn at *
            go_wp2
            go_region
            all_goals go_wp2
            all_goals exact ⟨⟨n + 1, by omega, rfl, by rw [HC'.out], by rw [Hid, HU.out]; obtain ⟨q1, q2, q3, q4⟩ := HO.out; exact ⟨q1.keep rfl, q2.trans (Trn.drew _ _), q3, q4⟩⟩, by simp only [intOf]; omega⟩
          · have g3 : ((P n).ck == k) = false := by simpa using h3
            clear hq' h2 h3
            generalize (P n).ck = ck at *
            generalize (P n).cn = cn at *
            go_wp2
            go_region
            all_goals go_wp2
            all_goals exact ⟨⟨n + 1, by omega, rfl, by rw [HC'.out], by rw [Hid, HU.out]; obtain ⟨q1, q2, q3, q4⟩ := HO.out; exact ⟨q1.keep rfl, q2.trans (Trn.drew _ _), q3, q4⟩⟩, by simp only [intOf]; omega⟩
        · have g2 : ((P n).st == 2) = false := by simpa using h2
          clear hq' h2
          generalize (P n).st = st at *
          go_wp2
          go_region
          all_goals go_wp2
          all_goals exact ⟨⟨n + 1, by omega, rfl, by rw [HC'.out], by rw [Hid, HU.out]; obtain ⟨q1, q2, q3, q4⟩ := HO.out; exact ⟨q1.keep rfl, q2.trans (Trn.drew _ _), q3, q4⟩⟩, by simp only [intOf]; omega⟩
    · obtain rfl : n = 64 := by omega
      have HF : Hid (Tb wr b (wkP P k m) nx ∧ Trn b w wr) := ⟨HO.out.1.congr (fun i hi => if_pos hi), HO.out.2.1⟩
      clear HO
      go_wp2
      go_ret
      exact ⟨rfl, HF.out.1, HF.out.2⟩
end
end Go.Proofs.Ytnlbomggadflmab
