import Derived.Test.YtnlbomggadflmaaPh
namespace Go.Proofs.Ytnlbomggadflmaa
open Go.RowKit
set_option linter.unusedVariables false
set_option linter.unusedSimpArgs false
set_option maxRecDepth 100000
theorem countP_lt (l : List Nat) (p q : Nat → Bool) (h : ∀ x ∈ l, p x = true → q x = true) (y : Nat) (hy : y ∈ l) (h1 : q y = true) (h2 : p y = false) : l.countP p + 1 ≤ l.countP q := by
  induction l with
  | nil => cases hy
  | cons z l ih =>
    rw [List.countP_cons, List.countP_cons]
    have hm : l.countP p ≤ l.countP q := List.countP_mono_left fun x hx hp => h x (by simp [hx]) hp
    by_cases e : z = y
    · subst e
      rw [h1, h2]
      simp
      omega
    · have := ih (fun x hx => h x (by simp [hx])) (by simpa [fun x => e (Eq.symm x)] using (List.mem_cons.1 hy).resolve_left (fun x => e x.symm))
      have hz := h z (by simp)
      cases a : p z
      · simp; split <;> omega
      · rw [hz a]; simp; omega
/-- How many have a lesser pid. -/
def low (P : Nat → Pr) (c : Nat) : Nat := (List.range 64).countP fun j => !((P j).st == 0) && decide ((P j).pid < (P c).pid)
theorem low_le (P : Nat → Pr) (c : Nat) (hc : c < 64) (hs : (P c).st ≠ 0) : low P c ≤ 63 := by
  have := countP_lt (List.range 64) (fun j => !((P j).st == 0) && decide ((P j).pid < (P c).pid)) (fun _ => true) (fun _ _ _ => rfl) c (by simpa using hc) rfl (by simp)
  rw [low]
  simp at this
  omega
theorem low_lt (P : Nat → Pr) (c j : Nat) (hj : j < 64) (hs : (P j).st ≠ 0) (h : (P j).pid < (P c).pid) : low P j + 1 ≤ low P c := by
  refine countP_lt _ _ _ (fun x _ hx => ?_) j (by simpa using hj) ?_ ?_
  · simp only [Bool.and_eq_true, decide_eq_true_eq] at hx ⊢
    exact ⟨hx.1, by omega⟩
  · simp [hs, h]
  · simp
section
variable {w : World} {b : Nat} {P : Nat → Pr} {nx : Int}
set_option maxHeartbeats 2000000 in
theorem chain_any (hI : Inv P nx) (s : Nat) (hs : s < 64) (h0 : (P s).st ≠ 0) : Calls Try.prog 46 #[.agg (tl P nx).toArray, .int .i64 (s : Int)] w fun e w' => e = .returned (.bool true) ∧ Below w.heap.size w w' := by
  have HI : Hid (Inv P nx) := hI
  have HA : Hid (low P s ≤ 63) := low_le P s hs h0
  clear hI
  obtain ⟨T, hT⟩ : ∃ T, T = (tl P nx).toArray := ⟨_, rfl⟩
  rw [← hT]
  have HTT : Hid (T = (tl P nx).toArray) := hT
  clear hT
  go_enter Try.func46, Try.ntmps46
  go_upto_region 0 with fail
  refine wp_region_lit ?_
  refine wpList_boxed (P := P) (nx := nx) 2 0 _ rfl rfl rfl (congrArg Value.agg HTT.out) ?_
  intro W hT hB
  have HT : Hid (Tb W w.heap.size P nx ∧ Below w.heap.size w W) := ⟨hT, hB⟩
  clear hT hB HTT
  simp only [Act.put, List.setIfInBounds_toArray, List.set_cons_zero, List.set_cons_succ]
  have H0 : Hid ((P s).st ≠ 0) := h0
  clear h0
  go_wp2
  go_loopw [1, 5] (fun c i wr => ∃ m n : Nat, n ≤ 64 ∧ i = .int .i64 n ∧ m < 64 ∧ c = .int .i64 m ∧ Hid (wr = W ∧ (P m).st ≠ 0 ∧ low P m + n ≤ 63)) (fun _ i _ => (64 - intOf i).toNat)
  case atStart => exact ⟨s, 0, by omega, rfl, hs, rfl, rfl, H0.out, HA.out⟩
  case round =>
    obtain ⟨m, n, hn, rfl, hm, rfl, HO'⟩ := hrel
    have HO : Hid ((P m).st ≠ 0 ∧ low P m + n ≤ 63) := HO'.out.2
    obtain rfl : wr = W := HO'.out.1
    clear HO'
    have hlt : n < 64 := by have := HO.out.2; omega
    have g0 : (n : Int) < 64 := by omega
    obtain ⟨c0, c1, c2, c3, c4, c5, c6⟩ := HT.out.1.cells m hm
    by_cases m0 : m = 0
    · subst m0
      have r := (HI.out.r0 HO.out.1).1
      have z2 := (HT.out.1.cells 0 hm).2.2.1
      rw [r] at z2
      clear c0 c1 c2 c3 c4 c5 c6 r
      go_wp2
      go_ret
      exact ⟨rfl, HT.out.2⟩
    · have gm : ((m : Int) == 0) = false := by simp; omega
      obtain ⟨j, hj, e1, e2, e3, e4⟩ := HI.out.pa m hm m0 HO.out.1
      have HL : Hid (low P j + (n + 1) ≤ 63) := by have := low_lt P m j hj e2 e3; have := HO.out.2; show low P j + (n + 1) ≤ 63; omega
      have H2 : Hid ((P j).st ≠ 0) := e2
      rw [e1] at c2
      obtain ⟨d0, d1, d2, d3, d4, d5, d6⟩ := HT.out.1.cells j hj
      have gj : ((P j).st == 0) = false := by simpa using e2
      clear c0 c1 c3 c4 c5 c6 e1 e2 e3
      by_cases j0 : j = 0
      · subst j0
        clear e4
        generalize hst : (P 0).st = st at *
        have HST : Hid ((P 0).st = st) := hst
        clear hst
        go_wp2
        exact ⟨⟨0, n + 1, by omega, rfl, by omega, rfl, trivial, by rw [HST.out]; exact H2.out, HL.out⟩, by simp only [intOf]; omega⟩
      · have ej : (P j).st ≠ 3 := e4.resolve_left j0
        have gj3 : ((P j).st == 3) = false := by simpa using ej
        have gj0 : ((j : Int) == 0) = false := by simp; omega
        have gj1 : ((j : Int) != 0) = true := by simp; omega
        have gj2 : ¬ ((j : Int) = 0) := by omega
        have gj3' : ¬ (j = 0) := by omega
        clear e4 ej j0
        generalize hst : (P j).st = st at *
        have HST : Hid ((P j).st = st) := hst
        clear hst
        go_wp2
        exact ⟨⟨j, n + 1, by omega, rfl, hj, rfl, trivial, by rw [HST.out]; exact H2.out, HL.out⟩, by simp only [intOf]; omega⟩
end
end Go.Proofs.Ytnlbomggadflmaa
