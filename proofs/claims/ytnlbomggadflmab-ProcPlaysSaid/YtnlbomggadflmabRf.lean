import Derived.Test.YtnlbomggadflmabFs
namespace Go.Proofs.Ytnlbomggadflmab
open Go.RowKit
set_option linter.unusedVariables false
set_option linter.unusedSimpArgs false
set_option maxRecDepth 100000
theorem rchannel_any (k n : Int) (w : World) : Calls Try.prog 52 #[.agg #[.int .i64 k, .int .i64 n]] w fun e w' => e = .returned (.bool (isCh k n)) ∧ Below w.heap.size w w' := by
  by_cases h1 : 1 ≤ k
  · by_cases h2 : k ≤ 5
    · have e : isCh k n = decide (0 ≤ n) := by simp [isCh, h1, h2]
      rw [e]
      go_enter Try.func52, Try.ntmps52
      go_wp2
      go_ret
      exact ⟨rfl, below1 _ _⟩
    · have e : isCh k n = false := by simp [isCh, h2]
      rw [e]
      go_enter Try.func52, Try.ntmps52
      go_wp2
      go_ret
      exact ⟨rfl, below1 _ _⟩
  · have e : isCh k n = false := by simp [isCh, h1]
    rw [e]
    go_enter Try.func52, Try.ntmps52
    go_wp2
    go_ret
    exact ⟨rfl, below1 _ _⟩
/-- The document's parented. -/
def prB (P : Nat → Pr) (i : Nat) : Bool := if i = 0 then (P 0).par == 0 && (P 0).pid == 1 else if 0 ≤ (P i).par ∧ (P i).par < 64 then (if (P (P i).par.toNat).st = 0 ∨ (P i).pid ≤ (P (P i).par.toNat).pid then false else (P i).par == 0 || !((P (P i).par.toNat).st == 3)) else false
section
variable {P : Nat → Pr} {nx : Int}
set_option maxHeartbeats 4000000 in
theorem parented_any (i : Nat) (hi : i < 64) (w : World) : Calls Try.prog 69 #[.agg (tl P nx).toArray, .int .i64 (i : Int)] w fun e w' => e = .returned (.bool (prB P i)) ∧ Below w.heap.size w w' := by
  have gi : (i : Int) < 64 := by omega
  obtain ⟨T, hTT⟩ : ∃ T, T = (tl P nx).toArray := ⟨_, rfl⟩
  rw [← hTT]
  have HTT : Hid (T = (tl P nx).toArray) := hTT
  clear hTT
  go_enter Try.func69, Try.ntmps69
  go_upto_region 0 with fail
  refine wp_region_lit ?_
  refine wpList_boxed (P := P) (nx := nx) 2 0 _ rfl rfl rfl (congrArg Value.agg HTT.out) ?_
  intro w1 hT1 hb1
  simp only [Act.put, List.setIfInBounds_toArray, List.set_cons_zero, List.set_cons_succ]
  obtain ⟨x, hx⟩ : ∃ x, x = w.heap.size := ⟨_, rfl⟩
  rw [← hx] at hT1 hb1 ⊢
  have HX : Hid (x = w.heap.size) := hx
  have HH : Hid (Tb w1 x P nx ∧ Below x w w1 ∧ x < w1.heap.size) := ⟨hT1, hb1, hT1.lt⟩
  obtain ⟨c0, c1, c2, c3, c4, c5, c6⟩ := hT1.cells i hi
  clear hT1 hb1 hx HTT
  go_upto_region 2 with fail
  have hcs := bx_cells w1 (P i) 33
  have H2 : Hid (Tb (w1.alloc (.cells (P i).l.toArray 33)) x P nx ∧ Below x w (w1.alloc (.cells (P i).l.toArray 33))) := ⟨HH.out.1.bel (below1 _ _), HH.out.2.1.trans ((below1 _ _).mono (by have := HH.out.2.2; omega))⟩
  have hxy : x ≠ w1.heap.size := by have := HH.out.2.2; omega
  have eW : w1.alloc (.cells #[.int .i64 (P i).pid, .int .i64 (P i).st, .int .i64 (P i).par, .int .i64 (P i).ck, .int .i64 (P i).cn, .bool (P i).kil, .int .i32 (P i).sta] 33) = w1.alloc (.cells (P i).l.toArray 33) := rfl
  rw [eW]
  clear eW c0 c1 c2 c3 c4 c5 c6
  generalize w1.alloc (.cells (P i).l.toArray 33) = w2 at *
  generalize w1.heap.size = y at *
  have d0 := hcs 0 _ rfl
  have d1 := hcs 1 _ rfl
  have d2 := hcs 2 _ rfl
  clear hcs HH
  by_cases i0 : i = 0
  · subst i0
    have E0 : Hid (prB P 0 = ((P 0).par == 0 && (P 0).pid == 1)) := by rw [Hid, prB, if_pos rfl]
    cases hq : ((P 0).par == 0) with
    | true =>
      rw [hq] at E0
      go_wp2
      go_ret
      exact ⟨by rw [E0.out]; simp, by rw [← HX.out]; exact H2.out.2⟩
    | false =>
      rw [hq] at E0
      go_wp2
      go_ret
      exact ⟨by rw [E0.out]; simp, by rw [← HX.out]; exact H2.out.2⟩
  have g0 : ((i : Int) == 0) = false := by simpa using i0
  by_cases hr : 0 ≤ (P i).par ∧ (P i).par < 64
  · obtain ⟨j, hj⟩ : ∃ j : Nat, (P i).par = j := ⟨(P i).par.toNat, by omega⟩
    have hj64 : j < 64 := by omega
    have E0 : Hid (prB P i = (if (P j).st = 0 ∨ (P i).pid ≤ (P j).pid then false else (P i).par == 0 || !((P j).st == 3))) := by rw [Hid, prB, if_neg i0, if_pos hr, hj, Int.toNat_natCast]
    have HJ : Hid ((P i).par = j) := hj
    have hr0 : ¬ ((P i).par < 0) := by omega
    have hr1 : (P i).par < 64 := by omega
    obtain ⟨x0, x1, x2, x3, x4, x5, x6⟩ := H2.out.1.cells j hj64
    have hdx : (P i).par.toNat = j := by omega
    have HDX : Hid ((P i).par.toNat = j) := hdx
    have hp0 : 0 ≤ (P i).par := by omega
    rw [← hdx] at x0 x1 x2 x3 x4 x5 x6
    clear hr i0 hj hdx
    go_upto_region 7 with fail
    rw [HDX.out]
    have hcs := bx_cells w2 (P j) 33
    have b3 := below1 w2 (.cells (P j).l.toArray 33)
    have H3 : Hid (Below x w (w2.alloc (.cells (P j).l.toArray 33))) := H2.out.2.trans (b3.mono (by have := H2.out.1.lt; omega))
    have d0 := (b3.cell (p := ⟨y, 0, .none⟩) (lt_cell d0)).trans d0
    have d2 := (b3.cell (p := ⟨y, 2, .none⟩) (lt_cell d2)).trans d2
    have eW : w2.alloc (.cells #[.int .i64 (P j).pid, .int .i64 (P j).st, .int .i64 (P j).par, .int .i64 (P j).ck, .int .i64 (P j).cn, .bool (P j).kil, .int .i32 (P j).sta] 33) = w2.alloc (.cells (P j).l.toArray 33) := rfl
    rw [eW]
    clear eW x0 x1 x2 x3 x4 x5 x6 b3
    generalize w2.alloc (.cells (P j).l.toArray 33) = w3 at *
    generalize w2.heap.size = z at *
    have e0 := hcs 0 _ rfl
    have e1 := hcs 1 _ rfl
    clear hcs
    by_cases hs : (P j).st = 0
    · have HE : Hid ((if (P j).st = 0 ∨ (P i).pid ≤ (P j).pid then false else (P i).par == 0 || !((P j).st == 3)) = false) := if_pos (.inl hs)
      have gs : ((P j).st == 0) = true := by simpa using hs
      clear hs
      go_wp2
      go_ret
      exact ⟨by rw [E0.out, HE.out]; rfl, by rw [← HX.out]; exact H3.out⟩
    have gs : ((P j).st == 0) = false := by simpa using hs
    by_cases hp : (P i).pid ≤ (P j).pid
    · have HE : Hid ((if (P j).st = 0 ∨ (P i).pid ≤ (P j).pid then false else (P i).par == 0 || !((P j).st == 3)) = false) := if_pos (.inr hp)
      go_wp2
      go_ret
      exact ⟨by rw [E0.out, HE.out]; rfl, by rw [← HX.out]; exact H3.out⟩
    · have HE : Hid ((if (P j).st = 0 ∨ (P i).pid ≤ (P j).pid then false else (P i).par == 0 || !((P j).st == 3)) = ((P i).par == 0 || !((P j).st == 3))) := by rw [Hid, if_neg (fun x => x.elim hs hp)]
      cases hq : ((P i).par == 0) with
      | true =>
        have HQ : Hid (((P i).par == 0) = true) := hq
        go_wp2
        go_ret
        exact ⟨by rw [E0.out, HE.out, HQ.out]; simp [bne], by rw [← HX.out]; exact H3.out⟩
      | false =>
        have HQ : Hid (((P i).par == 0) = false) := hq
        go_wp2
        go_ret
        exact ⟨by rw [E0.out, HE.out, HQ.out]; simp [bne], by rw [← HX.out]; exact H3.out⟩
  · have E0 : Hid (prB P i = false) := by rw [Hid, prB, if_neg i0, if_neg hr]
    by_cases h1 : (P i).par < 0
    · clear hr
      go_wp2
      go_ret
      exact ⟨by rw [E0.out]; rfl, by rw [← HX.out]; exact H2.out.2⟩
    · have h2 : 64 ≤ (P i).par := by omega
      clear hr
      go_wp2
      go_ret
      exact ⟨by rw [E0.out]; rfl, by rw [← HX.out]; exact H2.out.2⟩
/-- The document's fine. -/
def fnB (P : Nat → Pr) (nx : Int) (an : Bool) (i : Nat) : Bool := if (P i).st = 0 then pEq (P i) zP && (!((i : Int) == 0) || !an) else
  if (P i).st < 1 ∨ 3 < (P i).st ∨ (P i).pid < 1 ∨ nx ≤ (P i).pid then false else
  if (List.range i).any (fun j => !((P j).st == 0) && (P j).pid == (P i).pid) then false else
  if prB P i = false then false else
  if (P i).st = 2 then (isCh (P i).ck (P i).cn && !(P i).kil && (P i).sta == 0) else cEq (P i).ck (P i).cn 0 0 && ((P i).st == 3 || (P i).sta == 0)
set_option maxHeartbeats 8000000 in
theorem fine_any (an : Bool) (i : Nat) (hi : i < 64) (w : World) : Calls Try.prog 63 #[.agg (tl P nx).toArray, .int .i64 (i : Int), .bool an] w fun e w' => e = .returned (.bool (fnB P nx an i)) ∧ Below w.heap.size w w' := by
  have gi : (i : Int) < 64 := by omega
  have kp := parented_any (P := P) (nx := nx) i hi
  obtain ⟨T, hTT⟩ : ∃ T, T = (tl P nx).toArray := ⟨_, rfl⟩
  rw [← hTT] at kp ⊢
  have HTT : Hid (T = (tl P nx).toArray) := hTT
  clear hTT
  go_enter Try.func63, Try.ntmps63
  go_upto_region 0 with fail
  refine wp_region_lit ?_
  refine wpList_boxed (P := P) (nx := nx) 3 0 _ rfl rfl rfl (congrArg Value.agg HTT.out) ?_
  intro w1 hT1 hb1
  simp only [Act.put, List.setIfInBounds_toArray, List.set_cons_zero, List.set_cons_succ]
  obtain ⟨x, hx⟩ : ∃ x, x = w.heap.size := ⟨_, rfl⟩
  rw [← hx] at hT1 hb1 ⊢
  have HX : Hid (x = w.heap.size) := hx
  have HH : Hid (Tb w1 x P nx ∧ Below x w w1 ∧ x < w1.heap.size) := ⟨hT1, hb1, hT1.lt⟩
  obtain ⟨c0, c1, c2, c3, c4, c5, c6⟩ := hT1.cells i hi
  clear hT1 hb1 hx
  go_upto_region 2 with fail
  have hcs := bx_cells w1 (P i) 33
  have H2 : Hid (Tb (w1.alloc (.cells (P i).l.toArray 33)) x P nx ∧ Below x w (w1.alloc (.cells (P i).l.toArray 33)) ∧ ∀ (j : Nat) (v : Value), (P i).l[j]? = some v → (w1.alloc (.cells (P i).l.toArray 33)).cell? ⟨w1.heap.size, j, .none⟩ = some v) := ⟨HH.out.1.bel (below1 _ _), HH.out.2.1.trans ((below1 _ _).mono (by have := HH.out.2.2; omega)), hcs⟩
  have hxy : x ≠ w1.heap.size := by have := HH.out.2.2; omega
  have eW : w1.alloc (.cells #[.int .i64 (P i).pid, .int .i64 (P i).st, .int .i64 (P i).par, .int .i64 (P i).ck, .int .i64 (P i).cn, .bool (P i).kil, .int .i32 (P i).sta] 33) = w1.alloc (.cells (P i).l.toArray 33) := rfl
  rw [eW]
  clear eW c0 c1 c2 c3 c4 c5 c6
  generalize w1.alloc (.cells (P i).l.toArray 33) = w2 at *
  generalize w1.heap.size = y at *
  have d0 := hcs 0 _ rfl
  have d1 := hcs 1 _ rfl
  have d2 := hcs 2 _ rfl
  have d3 := hcs 3 _ rfl
  have d4 := hcs 4 _ rfl
  have d5 := hcs 5 _ rfl
  have d6 := hcs 6 _ rfl
  have cn := H2.out.1.cn
  clear hcs HH
  by_cases hs : (P i).st = 0
  · have HE : Hid (fnB P nx an i = (pEq (P i) zP && (!((i : Int) == 0) || !an))) := by rw [Hid, fnB, if_pos hs]
    have gs : ((P i).st == 0) = true := by simpa using hs
    have heq : ∀ W, (binOp .eql 33 (.agg #[.int .i64 (P i).pid, .int .i64 (P i).st, .int .i64 (P i).par, .int .i64 (P i).ck, .int .i64 (P i).cn, .bool (P i).kil, .int .i32 (P i).sta]) (.agg #[.int .i64 0, .int .i64 0, .int .i64 0, .int .i64 0, .int .i64 0, .bool false, .int .i32 0])).run Try.prog W = .ok (.bool (pEq (P i) zP)) W := fun W => eqlp (P i) zP W
    clear hs
    obtain ⟨t, ht⟩ : ∃ t, t = pEq (P i) zP := ⟨_, rfl⟩
    rw [← ht] at heq
    have HTQ : Hid (t = pEq (P i) zP) := ht
    clear ht
    cases t
    · go_wp2
      go_ret
      exact ⟨by rw [HE.out, ← HTQ.out]; simp, by rw [← HX.out]; exact H2.out.2.1⟩
    · by_cases i0 : i = 0
      · have g0 : ((i : Int) == 0) = true := by simpa using i0
        have g1 : ((i : Int) != 0) = false := by simpa using i0
        have G0 : Hid (((i : Int) == 0) = true) := g0
        clear i0
        go_wp2
        go_ret
        exact ⟨by rw [HE.out, ← HTQ.out, G0.out]; simp, by rw [← HX.out]; exact H2.out.2.1⟩
      · have g0 : ((i : Int) == 0) = false := by simpa using i0
        have g1 : ((i : Int) != 0) = true := by simpa using i0
        have G0 : Hid (((i : Int) == 0) = false) := g0
        clear i0
        go_wp2
        go_ret
        exact ⟨by rw [HE.out, ← HTQ.out, G0.out]; simp, by rw [← HX.out]; exact H2.out.2.1⟩
  have gs : ((P i).st == 0) = false := by simpa using hs
  by_cases hbad : (P i).st < 1 ∨ 3 < (P i).st ∨ (P i).pid < 1 ∨ nx ≤ (P i).pid
  · have HE : Hid (fnB P nx an i = false) := by rw [Hid, fnB, if_neg hs, if_pos hbad]
    clear hs
    by_cases b1 : (P i).st < 1
    · clear hbad
      go_wp2
      go_ret
      exact ⟨by rw [HE.out]; rfl, by rw [← HX.out]; exact H2.out.2.1⟩
    by_cases b2 : 3 < (P i).st
    · clear hbad
      go_wp2
      go_ret
      exact ⟨by rw [HE.out]; rfl, by rw [← HX.out]; exact H2.out.2.1⟩
    by_cases b3 : (P i).pid < 1
    · clear hbad
      go_wp2
      go_ret
      exact ⟨by rw [HE.out]; rfl, by rw [← HX.out]; exact H2.out.2.1⟩
    have b4 : nx ≤ (P i).pid := by omega
    clear hbad
    go_wp2
    go_ret
    exact ⟨by rw [HE.out]; rfl, by rw [← HX.out]; exact H2.out.2.1⟩
  have b1 : ¬ (P i).st < 1 := fun x => hbad (.inl x)
  have b2 : ¬ 3 < (P i).st := fun x => hbad (.inr (.inl x))
  have b3 : ¬ (P i).pid < 1 := fun x => hbad (.inr (.inr (.inl x)))
  have b4 : ¬ nx ≤ (P i).pid := fun x => hbad (.inr (.inr (.inr x)))
  have HE1 : Hid (fnB P nx an i = (if (List.range i).any (fun j => !((P j).st == 0) && (P j).pid == (P i).pid) then false else
    if prB P i = false then false else
    if (P i).st = 2 then (isCh (P i).ck (P i).cn && !(P i).kil && (P i).sta == 0) else cEq (P i).ck (P i).cn 0 0 && ((P i).st == 3 || (P i).sta == 0))) := by rw [Hid, fnB, if_neg hs, if_neg hbad]
  clear hbad
  go_wp2
  clear d0 d1 d2 d3 d4 d5 d6 cn
  go_loopw [8] (fun k wr => ∃ j : Nat, j ≤ i ∧ k = .int .i64 j ∧ Hid ((∀ l, l < j → (!((P l).st == 0) && (P l).pid == (P i).pid) = false) ∧ Tb wr x P nx ∧ Below x w wr ∧ ∀ (l : Nat) (v : Value), (P i).l[l]? = some v → wr.cell? ⟨y, l, .none⟩ = some v)) (fun k _ => (i - intOf k).toNat)
  case atStart => exact ⟨0, by omega, rfl, fun l hl => by omega, H2.out⟩
  case round =>
    clear H2
    obtain ⟨j, hj, rfl, HV⟩ := hrel
    by_cases hl : j < i
    · have gl : (j : Int) < i := by omega
      have gj : (j : Int) < 64 := by omega
      obtain ⟨c0, c1, c2, c3, c4, c5, c6⟩ := HV.out.2.1.cells j (by omega)
      have d0 := HV.out.2.2.2 0 _ rfl
      clear c2 c3 c4 c5 c6
      have HB : Hid (Below x w wr ∧ Tb wr x P nx ∧ ∀ (l : Nat) (v : Value), (P i).l[l]? = some v → wr.cell? ⟨y, l, .none⟩ = some v) := ⟨HV.out.2.2.1, HV.out.2.1, HV.out.2.2.2⟩
      have step : ∀ (t : Bool), (!((P j).st == 0) && (P j).pid == (P i).pid) = t → Hid (t = false → ∀ l, l < j + 1 → (!((P l).st == 0) && (P l).pid == (P i).pid) = false) := fun t ht q l hl2 => by
        by_cases e : l = j
        · rw [e, ht, q]
        · exact HV.out.1 l (by omega)
      have hany : Hid ((!((P j).st == 0) && (P j).pid == (P i).pid) = true → fnB P nx an i = false) := fun q => by
        rw [HE1.out, if_pos]
        rw [List.any_eq_true]
        exact ⟨j, by simpa using hl, q⟩
      by_cases s0 : (P j).st = 0
      · have HS := step false (by simp [s0])
        rw [s0] at c1
        clear step hany s0
        go_wp2
        go_region
        all_goals go_wp2
        all_goals exact ⟨⟨j + 1, by omega, rfl, HS.out (by trivial), HB.out.2.1.keep rfl, below_drw HB.out.1, HB.out.2.2⟩, by simp only [intOf]; omega⟩
      · have g0 : ((P j).st == 0) = false := by simpa using s0
        have g1 : ((P j).st != 0) = true := by simpa using s0
        by_cases p0 : (P j).pid = (P i).pid
        · have g2 : ((P j).pid == (P i).pid) = true := by simpa using p0
          have HA := hany.out (by rw [g0, g2]; rfl)
          have HAA : Hid (fnB P nx an i = false) := HA
          clear step hany p0 HA
          go_wp2
          go_region
          all_goals go_wp2
          all_goals go_ret
          all_goals exact ⟨by rw [HAA.out]; rfl, by rw [← HX.out]; exact below_drw HB.out.1⟩
        · have g2 : ((P j).pid == (P i).pid) = false := by simpa using p0
          have HS := step false (by rw [g0, g2]; rfl)
          clear step hany p0
          go_wp2
          go_region
          all_goals go_wp2
          all_goals exact ⟨⟨j + 1, by omega, rfl, HS.out (by trivial), HB.out.2.1.keep rfl, below_drw HB.out.1, HB.out.2.2⟩, by simp only [intOf]; omega⟩
    · obtain rfl : j = i := by omega
      have HE2 : Hid (fnB P nx an j = (if prB P j = false then false else
        if (P j).st = 2 then (isCh (P j).ck (P j).cn && !(P j).kil && (P j).sta == 0) else cEq (P j).ck (P j).cn 0 0 && ((P j).st == 3 || (P j).sta == 0))) := by
        rw [Hid, HE1.out, if_neg]
        rw [List.any_eq_true]
        rintro ⟨l, hl1, hl2⟩
        rw [HV.out.1 l (by simpa using hl1)] at hl2
        cases hl2
      clear HE1
      go_upto_region 11 with fail
      refine wp_region_lit ?_
      refine wpList_load_mid rfl 36 (.tmp 3) rfl x 0 rfl (tl P nx) _ HV.out.2.1.rg Try.underlying36 rfl (by rw [tl_len]; exact info_tab) ?_
      rw [← HTT.out]
      simp only [Act.put, List.setIfInBounds_toArray, List.set_cons_zero, List.set_cons_succ]
      have kp := kp wr
      go_wp2_with fail
      refine kp.mono ?_
      rintro e w5 ⟨rfl, hb5⟩
      have hl5 := lt_cell (HV.out.2.2.2 0 _ rfl)
      have H5 : Hid (Below x w w5 ∧ (∀ (l : Nat) (v : Value), (P j).l[l]? = some v → w5.cell? ⟨y, l, .none⟩ = some v) ∧ x ≤ w5.heap.size ∧ y < w5.heap.size) := ⟨HV.out.2.2.1.trans (hb5.mono (by have := HV.out.2.1.lt; omega)), fun l v hl => (hb5.cell (p := ⟨y, l, .none⟩) hl5).trans (HV.out.2.2.2 l v hl), by have := HV.out.2.1.lt; have := hb5.size; omega, by have := hb5.size; have : y < wr.heap.size := hl5; omega⟩
      clear kp hb5 hl5 HV
      cases hpr : prB P j with
      | false =>
        have HE3 : Hid (fnB P nx an j = false) := by rw [Hid, HE2.out, hpr]; rfl
        go_wp2
        go_ret
        exact ⟨by rw [HE3.out]; rfl, by rw [← HX.out]; exact H5.out.1⟩
      | true =>
        have HE3 : Hid (fnB P nx an j = (if (P j).st = 2 then (isCh (P j).ck (P j).cn && !(P j).kil && (P j).sta == 0) else cEq (P j).ck (P j).cn 0 0 && ((P j).st == 3 || (P j).sta == 0))) := by rw [Hid, HE2.out, hpr]; rfl
        clear HE2 hpr
        have d3 := H5.out.2.1 3 _ rfl
        have d4 := H5.out.2.1 4 _ rfl
        have kc := rchannel_any (P j).ck (P j).cn w5
        go_wp2_with fail
        refine kc.mono ?_
        rintro e w6 ⟨rfl, hb6⟩
        have H6 : Hid (Below x w w6 ∧ (∀ (l : Nat) (v : Value), (P j).l[l]? = some v → w6.cell? ⟨y, l, .none⟩ = some v)) := ⟨H5.out.1.trans (hb6.mono H5.out.2.2.1), fun l v hl => (hb6.cell (p := ⟨y, l, .none⟩) H5.out.2.2.2).trans (H5.out.2.1 l v hl)⟩
        clear kc hb6 H5 d3 d4
        have d1 := H6.out.2 1 _ rfl
        have d3 := H6.out.2 3 _ rfl
        have d4 := H6.out.2 4 _ rfl
        have d5 := H6.out.2 5 _ rfl
        have d6 := H6.out.2 6 _ rfl
        have heq : ∀ W, (binOp .neq 31 (.agg #[.int .i64 (P j).ck, .int .i64 (P j).cn]) (.agg #[.int .i64 0, .int .i64 0])).run Try.prog W = .ok (.bool (!cEq (P j).ck (P j).cn 0 0)) W := fun W => neq_chan _ _ 0 0 W
        by_cases h2 : (P j).st = 2
        · have HE4 : Hid (fnB P nx an j = (isCh (P j).ck (P j).cn && !(P j).kil && (P j).sta == 0)) := by rw [Hid, HE3.out, if_pos h2]
          rw [h2] at d1
          clear HE3 b1 b2 heq h2 gs hs
          cases hc : isCh (P j).ck (P j).cn with
          | false =>
            rw [hc] at HE4
            go_wp2
            go_ret
            exact ⟨by rw [HE4.out]; simp, by rw [← HX.out]; exact H6.out.1⟩
          | true =>
            rw [hc] at HE4
            cases hk : (P j).kil with
            | true =>
              rw [hk] at HE4 d5
              go_wp2
              go_ret
              exact ⟨by rw [HE4.out]; simp, by rw [← HX.out]; exact H6.out.1⟩
            | false =>
              rw [hk] at HE4 d5
              go_wp2
              go_ret
              exact ⟨by rw [HE4.out]; simp, by rw [← HX.out]; exact H6.out.1⟩
        · have HE4 : Hid (fnB P nx an j = (cEq (P j).ck (P j).cn 0 0 && ((P j).st == 3 || (P j).sta == 0))) := by rw [Hid, HE3.out, if_neg h2]
          have g2 : ((P j).st == 2) = false := by simpa using h2
          have g2' : ((P j).st != 2) = true := by simpa using h2
          clear HE3
          cases hc : cEq (P j).ck (P j).cn 0 0 with
          | false =>
            rw [hc] at HE4 heq
            go_wp2
            go_ret
            exact ⟨by rw [HE4.out]; simp, by rw [← HX.out]; exact H6.out.1⟩
          | true =>
            rw [hc] at HE4 heq
            cases h3 : ((P j).st == 3) with
            | true =>
              rw [h3] at HE4
              go_wp2
              go_ret
              exact ⟨by rw [HE4.out]; simp, by rw [← HX.out]; exact H6.out.1⟩
            | false =>
              rw [h3] at HE4
              go_wp2
              go_ret
              exact ⟨by rw [HE4.out]; simp, by rw [← HX.out]; exact H6.out.1⟩
end
end Go.Proofs.Ytnlbomggadflmab
