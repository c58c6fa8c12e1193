import Derived.Test.YtnlbomggadflmabRf
namespace Go.Proofs.Ytnlbomggadflmab
open Go.RowKit
set_option linter.unusedVariables false
set_option linter.unusedSimpArgs false
set_option maxRecDepth 100000
section
variable {P : Nat → Pr} {nx : Int}
theorem cEq_iff {a b c e : Int} : cEq a b c e = true ↔ a = c ∧ b = e := by simp [cEq]
theorem anyP_any : anyP P = (List.range 64).any fun i => !((P i).st == 0) := by
  cases h : anyP P
  · rw [anyP, Option.isSome_eq_false_iff, Option.isNone_iff_eq_none, rnd_none] at h
    symm
    rw [List.any_eq_false]
    intro i hi
    have := h i (by simpa using hi)
    rw [show (0 + i) % 64 = i by have : i < 64 := by simpa using hi
                                 omega] at this
    simpa using this
  · rw [anyP, Option.isSome_iff_exists] at h
    obtain ⟨n, h⟩ := h
    symm
    rw [List.any_eq_true]
    obtain ⟨_, _, _, hq, _⟩ := rnd_some h
    exact ⟨n, by simpa using rnd_lt h, hq⟩
/-- The least place of a pid. -/
theorem least_pid (i : Nat) (hi : i < 64) (h : ∀ j, j < i → (P j).pid ≠ (P i).pid) : rnI (rnd (fun j => (P j).pid == (P i).pid) 0) = i := by
  have : rnd (fun j => (P j).pid == (P i).pid) 0 = some ((0 + i) % 64) := rnd_at hi (fun j hj => by
    rw [show (0 + j) % 64 = j by omega]
    simpa using h j hj) (by rw [show (0 + i) % 64 = i by omega]; simp)
  rw [this, show (0 + i) % 64 = i by omega]
  rfl
theorem least_pid_no (i : Nat) (hi : i < 64) (j : Nat) (hj : j < i) (h : (P j).pid = (P i).pid) : rnI (rnd (fun j => (P j).pid == (P i).pid) 0) ≠ i := by
  intro e
  cases hr : rnd (fun j => (P j).pid == (P i).pid) 0 with
  | none => rw [hr] at e; simp only [rnI] at e; omega
  | some n =>
    rw [hr] at e
    simp only [rnI] at e
    obtain ⟨k, hk, hmin, _, hn⟩ := rnd_some hr
    have : n = i := by omega
    have := hmin j (by omega)
    rw [show (0 + j) % 64 = j by omega] at this
    simp [h] at this
theorem cN_iff : cN P nx = true ↔ 1 ≤ nx ∧ nx ≤ 2147483648 ∧ (1 < nx ↔ anyP P = true) := by
  simp only [cN, Bool.and_eq_true, decide_eq_true_eq, beq_iff_eq, and_assoc]
  constructor
  · rintro ⟨a, b, c⟩
    refine ⟨a, b, ?_⟩
    rw [← c]
    simp
  · rintro ⟨a, b, c⟩
    refine ⟨a, b, ?_⟩
    cases h : anyP P
    · simp only [decide_eq_false_iff_not]
      intro x
      rw [c.1 x] at h
      cases h
    · simp only [decide_eq_true_eq]
      exact c.2 h
/-- Slot by slot both say the same, as long as those ahead are as they may be. -/
theorem fine_same (hN : cN P nx = true) (i : Nat) (hi : i < 64) (hp : ∀ j, j < i → cH P nx j = true) : cH P nx i = fnB P nx (anyP P) i := by
  obtain ⟨n1, n2, n3⟩ := cN_iff.1 hN
  have hz : ∀ j, j < i → (P j).st = 0 → P j = zP := fun j hj h => by
    have := hp j hj
    rw [cH, if_pos h, Bool.and_eq_true] at this
    exact (pEq_iff _ _).1 this.1
  by_cases hs : (P i).st = 0
  · rw [cH, fnB, if_pos hs, if_pos hs]
    congr 2
    cases h : anyP P
    · have : ¬ 1 < nx := fun x => by rw [n3.1 x] at h; cases h
      have : nx = 1 := by omega
      simp [this]
    · have : 1 < nx := n3.2 h
      have : nx ≠ 1 := by omega
      simp [this]
  · rw [cH, fnB, if_neg hs, if_neg hs]
    by_cases hbad : (P i).st < 1 ∨ 3 < (P i).st ∨ (P i).pid < 1 ∨ nx ≤ (P i).pid
    · rw [if_pos hbad]
      by_cases hst : (P i).st < 1 ∨ 3 < (P i).st
      · have : fS (P i) = false := by
          rw [fS, if_neg (by omega), if_neg (by omega), if_neg (by omega)]
        rw [this, Bool.and_false]
      · have hpid : (P i).pid < 1 ∨ nx ≤ (P i).pid := by omega
        have : cP P nx i = false := by
          rw [cP]
          split
          · rename_i i0
            subst i0
            -- slot 0 has pid 1, and there is somebody, so 1 < nx
            have ha : anyP P = true := by
              rw [anyP_any, List.any_eq_true]
              exact ⟨0, by simp, by simpa using hs⟩
            have := n3.2 ha
            simp
            omega
          · rcases hpid with h | h
            · rw [decide_eq_false (show ¬ 1 ≤ (P i).pid by omega)]; simp
            · rw [decide_eq_false (show ¬ (P i).pid < nx by omega)]; simp
        rw [this]
        simp
    · rw [if_neg hbad]
      have b1 : 1 ≤ (P i).pid ∧ (P i).pid < nx := by omega
      by_cases hdup : (List.range i).any (fun j => !((P j).st == 0) && (P j).pid == (P i).pid) = true
      · rw [if_pos hdup]
        rw [List.any_eq_true] at hdup
        obtain ⟨j, hj, hq⟩ := hdup
        simp only [List.mem_range] at hj
        simp only [Bool.and_eq_true, beq_iff_eq] at hq
        have : cP P nx i = false := by
          rw [cP, if_neg (by omega)]
          have := least_pid_no i hi j hj hq.2
          simp [this]
        rw [this]
        simp
      · rw [if_neg hdup]
        have hun : ∀ j, j < i → (P j).pid ≠ (P i).pid := fun j hj e => by
          by_cases h0 : (P j).st = 0
          · have := hz j hj h0
            rw [this] at e
            simp only [zP] at e
            omega
          · exact hdup (by
              rw [List.any_eq_true]
              exact ⟨j, by simpa using hj, by simp [h0, e]⟩)
        have hcp : (cP P nx i && cR P i) = prB P i := by
          rw [cP, cR, prB]
          by_cases i0 : i = 0
          · subst i0
            simp only [if_true]
            rw [Bool.and_comm]
          · rw [if_neg i0, if_neg i0, if_neg i0, decide_eq_true b1.1, decide_eq_true b1.2, least_pid i hi hun]
            simp only [beq_self_eq_true, Bool.and_true, Bool.true_and]
            split
            · split
              · rfl
              · rw [Bool.or_comm]
            · rfl
        rw [hcp]
        cases hpr : prB P i
        · simp
        · simp only [Bool.true_and, Bool.true_eq_false, if_false]
          rw [fS]
          by_cases h1 : (P i).st = 1
          · rw [if_pos h1, if_neg (by omega)]
            simp [h1]
          · rw [if_neg h1]
            by_cases h2 : (P i).st = 2
            · rw [if_pos h2, if_pos h2]
            · rw [if_neg h2, if_neg h2, if_pos (by omega)]
              have : (P i).st = 3 := by omega
              simp [this]
/-- The document's From. -/
def frmB (P : Nat → Pr) (nx : Int) : Option Nat := if cN P nx = true then (List.range 64).find? (fun i => !fnB P nx (anyP P) i) else some 64
theorem find_same (f g : Nat → Bool) : ∀ n, (∀ i, i < n → (∀ j, j < i → f j = false) → f i = g i) → (List.range n).find? f = (List.range n).find? g
  | 0, _ => rfl
  | n + 1, h => by
    have ih := find_same f g n (fun i hi => h i (by omega))
    rw [List.range_succ, List.find?_append, List.find?_append, ← ih]
    cases hf : (List.range n).find? f with
    | some k => rfl
    | none =>
      rw [List.find?_eq_none] at hf
      have := h n (by omega) (fun j hj => by simpa using hf j (by simpa using hj))
      simp [List.find?, this]
theorem frm_same : frm P nx = frmB P nx := by
  rw [frm, frmB]
  split
  · rename_i hN
    refine find_same _ _ 64 fun i hi hp => ?_
    rw [fine_same hN i hi (fun j hj => by simpa using hp j hj)]
  · rfl
/-- Nothing is wrong just of a table as it may be. -/
theorem frm_inv : frm P nx = none ↔ Inv P nx := by
  constructor
  · intro h
    rw [frm] at h
    split at h
    case isFalse => cases h
    rename_i hN
    obtain ⟨n1, n2, n3⟩ := cN_iff.1 hN
    rw [List.find?_eq_none] at h
    have hc : ∀ i, i < 64 → cH P nx i = true := fun i hi => by simpa using h i (by simpa using hi)
    have hf : ∀ i, i < 64 → fnB P nx (anyP P) i = true := fun i hi => by rw [← fine_same hN i hi (fun j hj => hc j (by omega))]; exact hc i hi
    have hz : ∀ i, i < 64 → (P i).st = 0 → P i = zP ∧ (i = 0 → nx = 1) := fun i hi h0 => by
      have := hc i hi
      rw [cH, if_pos h0, Bool.and_eq_true] at this
      refine ⟨(pEq_iff _ _).1 this.1, fun i0 => ?_⟩
      subst i0
      simpa using this.2
    have hn : ∀ i, i < 64 → (P i).st ≠ 0 → (1 ≤ (P i).st ∧ (P i).st ≤ 3) ∧ (1 ≤ (P i).pid ∧ (P i).pid < nx) ∧ (∀ j, j < i → (P j).st ≠ 0 → (P j).pid ≠ (P i).pid) ∧ prB P i = true ∧ ((P i).st = 2 → isCh (P i).ck (P i).cn = true ∧ (P i).kil = false ∧ (P i).sta = 0) ∧ ((P i).st ≠ 2 → (P i).ck = 0 ∧ (P i).cn = 0 ∧ ((P i).st = 3 ∨ (P i).sta = 0)) := fun i hi h0 => by
      have := hf i hi
      rw [fnB, if_neg h0] at this
      split at this
      · cases this
      rename_i hbad
      split at this
      · cases this
      rename_i hdup
      split at this
      · cases this
      rename_i hpr
      refine ⟨by omega, by omega, fun j hj s e => hdup (by rw [List.any_eq_true]; exact ⟨j, by simpa using hj, by simp [s, e]⟩), by simpa using hpr, fun h2 => ?_, fun h2 => ?_⟩
      · rw [if_pos h2] at this
        simp only [Bool.and_eq_true, Bool.not_eq_true', beq_iff_eq] at this
        exact ⟨this.1.1, this.1.2, this.2⟩
      · rw [if_neg h2] at this
        simp only [Bool.and_eq_true, cEq_iff, Bool.or_eq_true, beq_iff_eq] at this
        exact ⟨this.1.1, this.1.2, this.2⟩
    refine ⟨n1, n2, fun x => (hz 0 (by omega) x).2 rfl, fun i hi x => (hz i hi x).1, ?_, fun i hi x => (hn i hi x).2.1, ?_, ?_, ?_, ?_, ?_, ?_⟩
    · intro i hi
      by_cases x : (P i).st = 0
      · exact .inl x
      · have := (hn i hi x).1; omega
    · intro i j hi hj x y e
      rcases Nat.lt_trichotomy i j with l | l | l
      · exact absurd e ((hn j hj y).2.2.1 i l x)
      · exact l
      · exact absurd e.symm ((hn i hi x).2.2.1 j l y)
    · intro x
      have := (hn 0 (by omega) x).2.2.2.1
      rw [prB, if_pos rfl] at this
      simpa using this
    · intro i hi i0 x
      have := (hn i hi x).2.2.2.1
      rw [prB, if_neg i0] at this
      split at this
      · rename_i hr
        split at this
        · cases this
        · rename_i hq
          refine ⟨(P i).par.toNat, by omega, by omega, fun y => hq (.inl y), ?_, ?_⟩
          · have : ¬ (P i).pid ≤ (P (P i).par.toNat).pid := fun y => hq (.inr y)
            omega
          · simp only [Bool.or_eq_true, beq_iff_eq, Bool.not_eq_true', beq_eq_false_iff_ne] at this
            rcases this with y | y
            · left; omega
            · exact .inr y
      · cases this
    · intro i hi x
      have := (hn i hi (by omega)).2.2.2.2.1 x
      exact ⟨this.1, this.2.1⟩
    · intro i hi x
      by_cases y : (P i).st = 0
      · rw [(hz i hi y).1]; exact ⟨rfl, rfl⟩
      · have := (hn i hi y).2.2.2.2.2 x
        exact ⟨this.1, this.2.1⟩
    · intro i hi x
      by_cases y : (P i).st = 0
      · rw [(hz i hi y).1]; rfl
      · by_cases z : (P i).st = 2
        · exact ((hn i hi y).2.2.2.2.1 z).2.2
        · exact ((hn i hi y).2.2.2.2.2 z).2.2.resolve_left x
  · intro h
    have hN : cN P nx = true := cN_iff.2 ⟨h.n1, h.n2, by
      rw [anyP_iff h]
      constructor
      · intro x y
        have := h.z0 y
        omega
      · intro x
        have := h.pd 0 (by omega) x
        omega⟩
    rw [frm, if_pos hN, List.find?_eq_none]
    intro i hi
    have hi : i < 64 := by simpa using hi
    suffices hc : ∀ n, n ≤ 64 → ∀ i, i < n → cH P nx i = true by simp [hc 64 (by omega) i hi]
    intro n hn
    induction n with
    | zero => intro i hi; omega
    | succ n ih =>
      intro i hi
      by_cases e : i < n
      · exact ih (by omega) i e
      · obtain rfl : i = n := by omega
        have hi64 : i < 64 := by omega
        rw [fine_same hN i hi64 (ih (by omega)), fnB]
        by_cases hs : (P i).st = 0
        · rw [if_pos hs, h.fr i hi64 hs, pEq_refl, Bool.true_and]
          by_cases i0 : i = 0
          · subst i0
            cases ha : anyP P
            · simp
            · exact absurd hs ((anyP_iff h).1 ha)
          · simp [i0]
        · rw [if_neg hs, if_neg (by have := h.st i hi64; have := h.pd i hi64 hs; omega), if_neg, if_neg]
          · by_cases h2 : (P i).st = 2
            · rw [if_pos h2]
              have := h.sp i hi64 h2
              simp [this.1, this.2, h.nz i hi64 (by omega)]
            · rw [if_neg h2]
              have := h.ns i hi64 h2
              rw [this.1, this.2]
              by_cases h3 : (P i).st = 3
              · simp [cEq, h3]
              · simp [cEq, h.nz i hi64 h3]
          · rw [prB]
            by_cases i0 : i = 0
            · subst i0
              have := h.r0 hs
              simp [this.1, this.2]
            · rw [if_neg i0]
              obtain ⟨j, q1, q2, q3, q4, q5⟩ := h.pa i hi64 i0 hs
              rw [q2, if_pos (by omega), Int.toNat_natCast, if_neg (fun x => x.elim q3 (by omega))]
              rcases q5 with q5 | q5
              · simp [q5]
              · simp [q5]
          · rw [List.any_eq_true]
            rintro ⟨j, hj, hq⟩
            have hj : j < i := by simpa using hj
            simp only [Bool.and_eq_true, Bool.not_eq_true', beq_eq_false_iff_ne, beq_iff_eq] at hq
            have := h.un j i (by omega) hi64 hq.1 hs hq.2
            omega
end
end Go.Proofs.Ytnlbomggadflmab
