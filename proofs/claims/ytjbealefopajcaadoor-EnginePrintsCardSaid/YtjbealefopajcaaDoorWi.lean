import Derived.Test.YtjbealefopajcaaDoorWh
import Derived.Test.YtjbealefopajcaaDoorSe
namespace Go.Proofs.YtjbealefopajcaaDoor
open Go Go.RowKit Rg
set_option linter.unusedVariables false
set_option linter.unusedSimpArgs false
set_option maxRecDepth 100000
/-! engine.Print. -/
theorem refusal_any (a r : Int) (w : World) : Calls Tryd.prog 12 #[.int .i64 a, .iface 51 (.int .i64 r)] w fun e w' => e = .returned (.pointer (some ⟨w.heap.size, 0, .none⟩)) ∧ w' = w.alloc (.cells #[.string ramB, .int .i64 a, .iface 51 (.int .i64 r)] 66) := by
  go_enter Tryd.func12, Tryd.ntmps12
  go_wp2
  go_ret
  exact ⟨rfl, rfl⟩
def PrP (S : Sc) (w : World) (e : Ending) (w' : World) : Prop := ∃ v, e = .returned (.tuple #[.string (prS S).1, v]) ∧ (((prS S).2.2 ≠ 0 ∧ FaultIn w' 0 v (prS S).2.1 (prS S).2.2) ∨ ((prS S).2.2 = 0 ∧ v = .nilIface)) ∧ Below w.heap.size w w'
set_option maxHeartbeats 4000000 in
theorem print_any {w : World} {X : Nat} {fv tv iv : Value} {S : Sc} (h : ScW w X fv tv iv S) (hX : X ≤ w.heap.size) (hB : ScB S) (hF : Few S) (hT : TB w) (h3 : 3 ≤ w.heap.size) : Calls Tryd.prog 6 #[.agg (scL S fv tv iv).toArray] w (PrP S w) := by
  obtain ⟨fp, fc, rfl⟩ := h.fs.form
  obtain ⟨tp, tc, rfl⟩ := h.ts.form
  obtain ⟨ip, ic, rfl⟩ := h.is.form
  obtain ⟨nf, hnf⟩ : ∃ n, n = S.files.length := ⟨_, rfl⟩
  obtain ⟨nt, hnt⟩ : ∃ n, n = S.ticks.length := ⟨_, rfl⟩
  obtain ⟨ni, hni⟩ : ∃ n, n = S.ins.length := ⟨_, rfl⟩
  rw [← hnf, ← hnt, ← hni] at h ⊢
  clear hnf hnt hni
  obtain ⟨W, hW⟩ : ∃ W, W = w.alloc (.cells (scL S (.slice fp nf fc) (.slice tp nt tc) (.slice ip ni ic)).toArray 26) := ⟨_, rfl⟩
  have b1 : Below w.heap.size w W := by rw [hW]; exact below1 _ _
  have hz := scz_new w S (.slice fp nf fc) (.slice tp nt tc) (.slice ip ni ic)
  rw [← hW] at hz
  have hb : W.heap[w.heap.size]? = some (.cells (scL S (.slice fp nf fc) (.slice tp nt tc) (.slice ip ni ic)).toArray 26 (0, 0)) := by rw [hW]; exact new_heap _ _
  obtain ⟨z, hzz⟩ : ∃ z, z = w.heap.size := ⟨_, rfl⟩
  have h0 := h.keep (Nat.le_refl _) (b1.mono hX)
  have c11 := wrongPlace_any h0 (Nat.le_trans hX b1.size) hF
  unfold WpP at c11
  rw [← hzz] at hb
  have H : Hid (ScW W X (.slice fp nf fc) (.slice tp nt tc) (.slice ip ni ic) S ∧ X ≤ z ∧ z < W.heap.size ∧ ScB S ∧ Few S ∧ TB W ∧ 3 ≤ z ∧ Below z w W ∧ W.heap[z]? = some (.cells (scL S (.slice fp nf fc) (.slice tp nt tc) (.slice ip ni ic)).toArray 26 (0, 0))) := ⟨h0, by omega, by rw [hzz, hW]; simp, hB, hF, hT.keep b1, by omega, by rw [hzz]; exact b1, hb⟩
  have HWW : Hid (W = w.alloc (.cells (scL S (.slice fp nf fc) (.slice tp nt tc) (.slice ip ni ic)).toArray 26) ∧ z = w.heap.size) := ⟨hW, hzz⟩
  clear h hX hB hF hT h3 hW b1 hz hb h0 hzz
  have HRES : Hid (∀ e w' a r t v, prS S = (t, a, r) → e = .returned (.tuple #[.string t, v]) → ((r ≠ 0 ∧ FaultIn w' 0 v a r) ∨ (r = 0 ∧ v = .nilIface)) → Below z w w' → PrP S w e w') := fun e w' a r t v h1 h2 h3 h4 => by
    refine ⟨v, ?_, ?_, by rw [← HWW.out.2]; exact h4⟩
    · rw [h1]; exact h2
    · rw [h1]; exact h3
  cases hwf : wrongF S with
  | some k =>
    rw [hwf] at c11
    have HP : Hid (prS S = (⟨#[]⟩, (k : Int), 366)) := by show _ = _; unfold prS; rw [hwf]
    clear hwf
    simp only [Option.getD_some, Option.isSome_some] at c11
    go_enter Tryd.func6, Tryd.ntmps6
    go_upto_region 1 with fail
    rw [← HWW.out.1, ← HWW.out.2]
    have q := scz_of H.out.2.2.2.2.2.2.2.2
    have q0 := q.c0
    have q1 := q.c1
    have q2 := q.c2
    have q3 := q.c3
    have q4 := q.c4
    have q5 := q.c5
    clear q
    go_upto_region 3 with (go_at_call 11; refine c11.mono ?_; rintro _ w1 ⟨rfl, b1⟩; have H1 : Hid (Below z w w1 ∧ z < w1.heap.size) := ⟨H.out.2.2.2.2.2.2.2.1.trans (b1.mono (by have := H.out.2.2.1; omega)), Nat.lt_of_lt_of_le H.out.2.2.1 b1.size⟩; clear b1 c11 q0 q1 q2 q3 q4 q5)
    have c12 := refusal_any (k : Int) 366 w1
    go_wp2_with (go_at_call 12; refine c12.mono ?_; rintro _ w2 ⟨rfl, rfl⟩)
    go_ret2
    exact HRES.out _ _ _ _ _ _ HP.out rfl (.inl ⟨by decide, faultIn_new _ _ _ _ (Nat.zero_le _)⟩) (H1.out.1.trans ((below1 _ _).mono (Nat.le_of_lt H1.out.2)))
  | none =>
    rw [hwf] at c11
    simp only [Option.getD_none, Option.isSome_none] at c11
    have HWN : Hid (wrongF S = none) := hwf
    clear hwf
    go_enter Tryd.func6, Tryd.ntmps6
    go_upto_region 1 with fail
    rw [← HWW.out.1, ← HWW.out.2]
    have q := scz_of H.out.2.2.2.2.2.2.2.2
    have q0 := q.c0
    have q1 := q.c1
    have q2 := q.c2
    have q3 := q.c3
    have q4 := q.c4
    have q5 := q.c5
    clear q
    go_upto_region 4 with (go_at_call 11; refine c11.mono ?_; rintro _ w1 ⟨rfl, b1⟩; have H1 : Hid (Below z w w1 ∧ z < w1.heap.size ∧ ScW w1 X (.slice fp nf fc) (.slice tp nt tc) (.slice ip ni ic) S ∧ TB w1 ∧ X ≤ w1.heap.size ∧ 3 ≤ w1.heap.size ∧ w1.heap[z]? = some (.cells (scL S (.slice fp nf fc) (.slice tp nt tc) (.slice ip ni ic)).toArray 26 (0, 0))) := (by
      have h := H.out
      have := b1.size
      exact ⟨h.2.2.2.2.2.2.2.1.trans (b1.mono (by omega)), by omega, h.1.keep (Nat.le_refl _) (b1.mono (by omega)), h.2.2.2.2.2.1.keep b1, by omega, by omega, (b1.block z h.2.2.1).trans h.2.2.2.2.2.2.2.2⟩); clear b1 c11 q0 q1 q2 q3 q4 q5)
    have c13 := far_any H1.out.2.2.1 H1.out.2.2.2.2.1 H.out.2.2.2.2.1
    obtain ⟨fr, hfr⟩ : ∃ fr, fr = decide (1048576 < lenS S) := ⟨_, rfl⟩
    rw [← hfr] at c13
    have HFR : Hid (fr = decide (1048576 < lenS S)) := hfr
    clear hfr
    have q := scz_of H1.out.2.2.2.2.2.2
    have q0 := q.c0
    have q1 := q.c1
    have q2 := q.c2
    have q3 := q.c3
    have q4 := q.c4
    have q5 := q.c5
    clear q
    cases fr with
    | true =>
      have HP : Hid (prS S = (⟨#[]⟩, 0, 360)) := by show _ = _; unfold prS; rw [HWN.out]; simp only []; rw [if_pos (of_decide_eq_true HFR.out.symm)]
      go_upto_region 5 with (go_at_call 13; refine c13.mono ?_; rintro _ w2 ⟨rfl, b1⟩; have H2 : Hid (Below z w w2 ∧ z < w2.heap.size) := ⟨H1.out.1.trans (b1.mono (by have := H1.out.2.1; omega)), Nat.lt_of_lt_of_le H1.out.2.1 b1.size⟩; clear b1 c13 q0 q1 q2 q3 q4 q5)
      have c12 := refusal_any 0 360 w2
      go_wp2_with (go_at_call 12; refine c12.mono ?_; rintro _ w3 ⟨rfl, rfl⟩)
      go_ret2
      exact HRES.out _ _ _ _ _ _ HP.out rfl (.inl ⟨by decide, faultIn_new _ _ _ _ (Nat.zero_le _)⟩) (H2.out.1.trans ((below1 _ _).mono (Nat.le_of_lt H2.out.2)))
    | false =>
      have HNL : Hid (¬ 1048576 < lenS S) := of_decide_eq_false HFR.out.symm
      go_upto_region 6 with (go_at_call 13; refine c13.mono ?_; rintro _ w2 ⟨rfl, b1⟩; have H2 : Hid (Below z w w2 ∧ z < w2.heap.size ∧ ScW w2 X (.slice fp nf fc) (.slice tp nt tc) (.slice ip ni ic) S ∧ TB w2 ∧ X ≤ w2.heap.size ∧ 3 ≤ w2.heap.size ∧ w2.heap[z]? = some (.cells (scL S (.slice fp nf fc) (.slice tp nt tc) (.slice ip ni ic)).toArray 26 (0, 0))) := (by
        have h := H1.out
        have := b1.size
        exact ⟨h.1.trans (b1.mono (by omega)), by omega, h.2.2.1.keep (Nat.le_refl _) (b1.mono (by omega)), h.2.2.2.1.keep b1, by omega, by omega, (b1.block z h.2.1).trans h.2.2.2.2.2.2⟩); clear b1 c13 q0 q1 q2 q3 q4 q5)
      have c14 := written_any H2.out.2.2.1 H.out.2.2.2.1 H.out.2.2.2.2.1 H2.out.2.2.2.2.1 H2.out.2.2.2.1 H2.out.2.2.2.2.2.1 HWN.out
      have q := scz_of H2.out.2.2.2.2.2.2
      have q0 := q.c0
      have q1 := q.c1
      have q2 := q.c2
      have q3 := q.c3
      have q4 := q.c4
      have q5 := q.c5
      clear q
      obtain ⟨L, hL⟩ : ∃ L, L = (txT S).length := ⟨_, rfl⟩
      obtain ⟨t, ht⟩ : ∃ t, t = toB (txT S) := ⟨_, rfl⟩
      rw [← ht] at c14
      have HLT : Hid (L = (txT S).length ∧ t = toB (txT S) ∧ t.size = L) := ⟨hL, ht, by rw [ht, toB_size, hL]⟩
      clear hL ht
      go_upto_region 7 with (go_at_call 14; refine c14.mono ?_; rintro _ w3 ⟨rfl, b1⟩; have H3 : Hid (Below z w w3 ∧ z < w3.heap.size) := ⟨H2.out.1.trans (b1.mono (by have := H2.out.2.1; omega)), Nat.lt_of_lt_of_le H2.out.2.1 b1.size⟩; clear b1 c14 q0 q1 q2 q3 q4 q5)
      by_cases hlt : 1048576 < L
      · have hlt2 : (1048576 : Int) < t.size := by rw [HLT.out.2.2]; omega
        have HP : Hid (prS S = (⟨#[]⟩, 0, 360)) := by show _ = _; unfold prS; rw [HWN.out]; simp only []; rw [if_neg HNL.out, if_pos (by rw [← HLT.out.1]; exact hlt)]
        have c12 := refusal_any 0 360 w3
        go_wp2_with (go_at_call 12; refine c12.mono ?_; rintro _ w4 ⟨rfl, rfl⟩)
        go_ret2
        exact HRES.out _ _ _ _ _ _ HP.out rfl (.inl ⟨by decide, faultIn_new _ _ _ _ (Nat.zero_le _)⟩) (H3.out.1.trans ((below1 _ _).mono (Nat.le_of_lt H3.out.2)))
      · have hlt2 : ¬ (1048576 : Int) < t.size := by rw [HLT.out.2.2]; omega
        have HP : Hid (prS S = (t, 0, 0)) := by show _ = _; unfold prS; rw [HWN.out]; simp only []; rw [if_neg HNL.out, if_neg (by rw [← HLT.out.1]; exact hlt), ← HLT.out.2.1]
        go_wp2
        go_ret2
        exact HRES.out _ _ _ _ _ _ HP.out rfl (.inr ⟨rfl, rfl⟩) H3.out.1
end Go.Proofs.YtjbealefopajcaaDoor
