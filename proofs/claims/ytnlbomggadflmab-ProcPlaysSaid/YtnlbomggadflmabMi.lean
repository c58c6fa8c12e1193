import Derived.Test.YtnlbomggadflmabPg
namespace Go.Proofs.Ytnlbomggadflmab
open Go.RowKit
set_option linter.unusedVariables false
set_option linter.unusedSimpArgs false
set_option maxRecDepth 100000
/-- What holds of a table behind every call. -/
structure Inv (P : Nat → Pr) (nx : Int) : Prop where
  n1 : 1 ≤ nx
  n2 : nx ≤ 2147483648
  z0 : (P 0).st = 0 → nx = 1
  fr : ∀ i, i < 64 → (P i).st = 0 → P i = zP
  st : ∀ i, i < 64 → (P i).st = 0 ∨ (P i).st = 1 ∨ (P i).st = 2 ∨ (P i).st = 3
  pd : ∀ i, i < 64 → (P i).st ≠ 0 → 1 ≤ (P i).pid ∧ (P i).pid < nx
  un : ∀ i j, i < 64 → j < 64 → (P i).st ≠ 0 → (P j).st ≠ 0 → (P i).pid = (P j).pid → i = j
  r0 : (P 0).st ≠ 0 → (P 0).par = 0 ∧ (P 0).pid = 1
  pa : ∀ i, i < 64 → i ≠ 0 → (P i).st ≠ 0 → ∃ j : Nat, j < 64 ∧ (P i).par = (j : Int) ∧ (P j).st ≠ 0 ∧ (P j).pid < (P i).pid ∧ (j = 0 ∨ (P j).st ≠ 3)
  sp : ∀ i, i < 64 → (P i).st = 2 → isCh (P i).ck (P i).cn = true ∧ (P i).kil = false
  ns : ∀ i, i < 64 → (P i).st ≠ 2 → (P i).ck = 0 ∧ (P i).cn = 0
  nz : ∀ i, i < 64 → (P i).st ≠ 3 → (P i).sta = 0
theorem inv_new : Inv zS 1 :=
  ⟨by decide, by decide, fun _ => rfl, fun _ _ _ => rfl, fun _ _ => .inl rfl, fun _ _ h => absurd rfl h, fun _ _ _ _ h => absurd rfl h, fun h => absurd rfl h, fun _ _ _ h => absurd rfl h, fun _ _ h => (by cases h), fun _ _ _ => ⟨rfl, rfl⟩, fun _ _ _ => rfl⟩
/-- There is a process just if the first is there. -/
theorem Inv.first {P : Nat → Pr} {nx : Int} (h : Inv P nx) {i : Nat} (hi : i < 64) (hs : (P i).st ≠ 0) : (P 0).st ≠ 0 := fun e => by
  have := h.z0 e
  have := h.pd i hi hs
  omega
/-- States, channels and so on alone have turned. -/
theorem Inv.map {P Q : Nat → Pr} {nx : Int} (h : Inv P nx) (H : ∀ i, i < 64 → (Q i).pid = (P i).pid ∧ (Q i).par = (P i).par ∧ ((Q i).st = 0 ↔ (P i).st = 0) ∧ ((Q i).st = 3 ↔ (P i).st = 3) ∧ ((P i).st = 0 → Q i = P i)
    ∧ ((Q i).st = 0 ∨ (Q i).st = 1 ∨ (Q i).st = 2 ∨ (Q i).st = 3) ∧ ((Q i).st = 2 → isCh (Q i).ck (Q i).cn = true ∧ (Q i).kil = false) ∧ ((Q i).st ≠ 2 → (Q i).ck = 0 ∧ (Q i).cn = 0) ∧ ((Q i).st ≠ 3 → (Q i).sta = 0)) : Inv Q nx := by
  refine ⟨h.n1, h.n2, ?_, ?_, fun i hi => (H i hi).2.2.2.2.2.1, ?_, ?_, ?_, ?_, fun i hi => (H i hi).2.2.2.2.2.2.1, fun i hi => (H i hi).2.2.2.2.2.2.2.1, fun i hi => (H i hi).2.2.2.2.2.2.2.2⟩
  · intro e
    exact h.z0 ((H 0 (by omega)).2.2.1.1 e)
  · intro i hi e
    have e' := (H i hi).2.2.1.1 e
    rw [(H i hi).2.2.2.2.1 e']
    exact h.fr i hi e'
  · intro i hi e
    rw [(H i hi).1]
    exact h.pd i hi (fun x => e ((H i hi).2.2.1.2 x))
  · intro i j hi hj ei ej e
    rw [(H i hi).1, (H j hj).1] at e
    exact h.un i j hi hj (fun x => ei ((H i hi).2.2.1.2 x)) (fun x => ej ((H j hj).2.2.1.2 x)) e
  · intro e
    rw [(H 0 (by omega)).1, (H 0 (by omega)).2.1]
    exact h.r0 (fun x => e ((H 0 (by omega)).2.2.1.2 x))
  · intro i hi h0 e
    obtain ⟨j, hj, h1, h2, h3, h4⟩ := h.pa i hi h0 (fun x => e ((H i hi).2.2.1.2 x))
    refine ⟨j, hj, by rw [(H i hi).2.1]; exact h1, fun x => h2 ((H j hj).2.2.1.1 x), by rw [(H i hi).1, (H j hj).1]; exact h3, ?_⟩
    rcases h4 with h4 | h4
    · exact .inl h4
    · exact .inr fun x => h4 ((H j hj).2.2.2.1.1 x)
theorem Inv.self {P : Nat → Pr} {nx : Int} (h : Inv P nx) (i : Nat) (hi : i < 64) : (P i).pid = (P i).pid ∧ (P i).par = (P i).par ∧ ((P i).st = 0 ↔ (P i).st = 0) ∧ ((P i).st = 3 ↔ (P i).st = 3) ∧ ((P i).st = 0 → P i = P i)
    ∧ ((P i).st = 0 ∨ (P i).st = 1 ∨ (P i).st = 2 ∨ (P i).st = 3) ∧ ((P i).st = 2 → isCh (P i).ck (P i).cn = true ∧ (P i).kil = false) ∧ ((P i).st ≠ 2 → (P i).ck = 0 ∧ (P i).cn = 0) ∧ ((P i).st ≠ 3 → (P i).sta = 0) :=
  ⟨rfl, rfl, Iff.rfl, Iff.rfl, fun _ => rfl, h.st i hi, h.sp i hi, h.ns i hi, h.nz i hi⟩
/-- One slot's state alone. -/
theorem Inv.one {P : Nat → Pr} {nx : Int} (h : Inv P nx) (s : Nat) (q : Pr) (H : s < 64 → q.pid = (P s).pid ∧ q.par = (P s).par ∧ (P s).st ≠ 0 ∧ (P s).st ≠ 3 ∧ (q.st = 1 ∨ q.st = 2) ∧ (q.st = 2 → isCh q.ck q.cn = true ∧ q.kil = false) ∧ (q.st = 1 → q.ck = 0 ∧ q.cn = 0) ∧ q.sta = 0) : Inv (up P s q) nx := by
  refine h.map fun i hi => ?_
  by_cases e : i = s
  · subst e
    rw [up_same]
    obtain ⟨h1, h2, h3, h4, h5, h6, h7, h8⟩ := H hi
    refine ⟨h1, h2, ⟨fun x => by omega, fun x => absurd x h3⟩, ⟨fun x => by omega, fun x => absurd x h4⟩, fun x => absurd x h3, .inr (by omega), h6, fun x => h7 (by omega), fun _ => h8⟩
  · rw [up_other _ _ _ _ e]
    exact h.self i hi
theorem Inv.sleep {P : Nat → Pr} {nx : Int} (h : Inv P nx) (s k m : Int) : Inv (slP P s k m) nx := by
  rw [slP]
  split
  · rename_i e
    obtain ⟨⟨e1, e2, e3⟩, ⟨e4, e5⟩, e6⟩ := e
    refine h.one _ _ fun hs => ⟨rfl, rfl, e3, by omega, .inr rfl, fun _ => ⟨e6, e5⟩, fun x => by simp at x, h.nz _ hs (by omega)⟩
  · exact h
theorem Inv.wake1 {P : Nat → Pr} {nx : Int} (h : Inv P nx) (s : Int) : Inv (w1P P s) nx := by
  rw [w1P]
  split
  · rename_i e
    obtain ⟨⟨e1, e2, e3⟩, e4⟩ := e
    refine h.one _ _ fun hs => ⟨rfl, rfl, e3, by omega, .inl rfl, fun x => by simp [Pr.wk] at x, fun x => ⟨rfl, rfl⟩, h.nz _ hs (by omega)⟩
  · exact h
theorem Inv.wake {P : Nat → Pr} {nx : Int} (h : Inv P nx) (k m : Int) : Inv (wkP P k m) nx := by
  refine h.map fun i hi => ?_
  rw [wkP]
  split
  · rename_i e
    have e4 : (P i).st = 2 := by
      simp only [onC, Bool.and_eq_true, beq_iff_eq] at e
      exact e.1
    refine ⟨rfl, rfl, ⟨fun x => by simp [Pr.wk] at x, fun x => by omega⟩, ⟨fun x => by simp [Pr.wk] at x, fun x => by omega⟩, fun x => by omega, .inr (.inl rfl), fun x => by simp [Pr.wk] at x, fun x => ⟨rfl, rfl⟩, fun _ => h.nz i hi (by omega)⟩
  · exact h.self i hi
theorem kq_st {m : Int} {p : Pr} (h : kq m p = true) : p.st ≠ 0 ∧ p.pid = m := by
  simp only [kq, Bool.and_eq_true, Bool.not_eq_true', beq_eq_false_iff_ne, beq_iff_eq] at h
  exact h
theorem Inv.kill {P : Nat → Pr} {nx : Int} (h : Inv P nx) (m : Int) : Inv (klP P m) nx := by
  rw [klP]
  split
  · exact h
  · rename_i s e
    obtain ⟨_, _, _, hq, _⟩ := rnd_some e
    have h1 := kq_st hq
    split
    · exact h
    · rename_i h3
      refine h.one _ _ fun hs => ⟨rfl, rfl, h1.1, h3, .inl rfl, fun x => by simp [Pr.wk] at x, fun x => ⟨rfl, rfl⟩, h.nz _ hs h3⟩
theorem isP_nat {P : Nat → Pr} {s : Int} (h : isP P s) : ∃ n : Nat, s = n ∧ n < 64 ∧ (P n).st ≠ 0 := by
  obtain ⟨h1, h2, h3⟩ := h
  exact ⟨s.toNat, by omega, by omega, h3⟩
theorem Inv.free {P : Nat → Pr} {nx : Int} (h : Inv P nx) (s : Int) : Inv (frP P s) nx := by
  rw [frP]
  split
  · rename_i e
    obtain ⟨⟨e1, e0⟩, e4⟩ := e
    obtain ⟨n, rfl, hn, e3⟩ := isP_nat e1
    rw [Int.toNat_natCast] at e4 ⊢
    have hn0 : n ≠ 0 := by omega
    have hz : ∀ i, (up P n zP i).st ≠ 0 → i ≠ n ∧ up P n zP i = P i := fun i x => by
      have : i ≠ n := fun y => by subst y; rw [up_same] at x; exact x rfl
      exact ⟨this, up_other _ _ _ _ this⟩
    have h0 : up P n zP 0 = P 0 := up_other _ _ _ _ (fun x => hn0 x.symm)
    have hc : ∀ i, up P n zP i = zP ∨ up P n zP i = P i := fun i => by
      by_cases x : i = n
      · subst x; exact .inl (up_same _ _ _)
      · exact .inr (up_other _ _ _ _ x)
    refine ⟨h.n1, h.n2, by rw [h0]; exact h.z0, ?_, ?_, ?_, ?_, by rw [h0]; exact h.r0, ?_, ?_, ?_, ?_⟩
    · intro i hi x
      rcases hc i with y | y
      · exact y
      · rw [y] at x ⊢; exact h.fr i hi x
    · intro i hi
      rcases hc i with y | y
      · rw [y]; exact .inl rfl
      · rw [y]; exact h.st i hi
    · intro i hi x
      have x' := x
      rw [(hz i x).2] at x' ⊢
      exact h.pd i hi x'
    · intro i j hi hj x y
      rw [(hz i x).2, (hz j y).2]
      exact h.un i j hi hj (by rw [← (hz i x).2]; exact x) (by rw [← (hz j y).2]; exact y)
    · intro i hi hi0 x
      have x' := x
      rw [(hz i x).2] at x' ⊢
      obtain ⟨j, hj, h1, h2, h3, h4⟩ := h.pa i hi hi0 x'
      have hjn : j ≠ n := fun y => by
        subst y
        rcases h4 with h4 | h4
        · exact hn0 h4
        · exact h4 e4
      refine ⟨j, hj, h1, ?_⟩
      rw [up_other _ _ _ _ hjn]
      exact ⟨h2, h3, h4⟩
    · intro i hi x
      rcases hc i with y | y
      · rw [y] at x; cases x
      · rw [y] at x ⊢; exact h.sp i hi x
    · intro i hi x
      rcases hc i with y | y
      · rw [y]; exact ⟨rfl, rfl⟩
      · rw [y] at x ⊢; exact h.ns i hi x
    · intro i hi x
      rcases hc i with y | y
      · rw [y]; rfl
      · rw [y] at x ⊢; exact h.nz i hi x
  · exact h
theorem anyP_iff {P : Nat → Pr} {nx : Int} (h : Inv P nx) : anyP P = true ↔ (P 0).st ≠ 0 := by
  constructor
  · intro e
    rw [anyP, Option.isSome_iff_exists] at e
    obtain ⟨n, e⟩ := e
    have hn := rnd_lt e
    obtain ⟨_, _, _, hq, _⟩ := rnd_some e
    exact h.first hn (by simpa using hq)
  · intro e
    cases q : anyP P
    · rw [anyP, Option.isSome_eq_false_iff, Option.isNone_iff_eq_none] at q
      have := rnd_none.1 q 0 (by omega)
      simp at this
      exact absurd this e
    · rfl
theorem cch_nat {P : Nat → Pr} {s : Int} (h : cch P s = true) : ∃ n : Nat, s = n ∧ n < 64 ∧ (P n).st ≠ 0 ∧ (P n).st ≠ 3 := by
  simp only [cch, Bool.and_eq_true, decide_eq_true_eq, Bool.not_eq_true', beq_eq_false_iff_ne] at h
  obtain ⟨n, rfl, h1, h2⟩ := isP_nat h.1
  rw [Int.toNat_natCast] at h
  exact ⟨n, rfl, h1, h2, h.2⟩
theorem Inv.add {P : Nat → Pr} {nx : Int} (h : Inv P nx) (par : Int) : Inv (adP P nx par) (adN P nx par) := by
  rw [adP, adN]
  split
  · rename_i e
    rw [adE] at e
    split at e
    · cases e
    rename_i e1
    split at e
    · cases e
    rename_i e2
    split at e
    · cases e
    rename_i e3
    simp only [Bool.not_eq_false, Option.isSome_iff_exists] at e3
    obtain ⟨s, e3⟩ := e3
    have hs := rnd_lt e3
    obtain ⟨k, hk, hj, hq, hsk⟩ := rnd_some e3
    have hs0 : (P s).st = 0 := by simpa using hq
    rw [e3]
    simp only [rnI, Int.toNat_natCast]
    have hzs := h.fr s hs hs0
    -- the parent
    have hpar : (s = 0 ∧ (if anyP P = true then par else 0) = 0 ∧ nx = 1) ∨ (s ≠ 0 ∧ (P 0).st ≠ 0 ∧ ∃ j : Nat, j < 64 ∧ j ≠ s ∧ (if anyP P = true then par else 0) = j ∧ (P j).st ≠ 0 ∧ (P j).st ≠ 3) := by
      by_cases a : anyP P = true
      · right
        have a0 := (anyP_iff h).1 a
        have hc : cch P par = true := by
          cases q : cch P par
          · exact absurd ⟨a, q⟩ e1
          · rfl
        obtain ⟨j, rfl, h1, h2, h3⟩ := cch_nat hc
        refine ⟨fun x => by subst x; exact a0 hs0, a0, j, h1, fun x => by subst x; exact h2 hs0, by rw [if_pos a], h2, h3⟩
      · left
        have a0 : (P 0).st = 0 := Classical.byContradiction fun x => a ((anyP_iff h).2 x)
        refine ⟨?_, by rw [if_neg a], h.z0 a0⟩
        by_cases k0 : k = 0
        · subst k0; omega
        · have := hj 0 (by omega)
          simp [a0] at this
    generalize (if anyP P = true then par else 0) = pz at *
    have hc : ∀ i, i ≠ s → up P s ⟨nx, 1, pz, 0, 0, false, 0⟩ i = P i := fun i x => up_other _ _ _ _ x
    have hh := h.n1
    refine ⟨by omega, by omega, ?_, ?_, ?_, ?_, ?_, ?_, ?_, ?_, ?_, ?_⟩
    · intro x
      by_cases y : s = 0
      · subst y; rw [up_same] at x; cases x
      · rw [hc 0 (fun z => y z.symm)] at x
        rcases hpar with p | p
        · omega
        · exact absurd x p.2.1
    · intro i hi x
      by_cases y : i = s
      · subst y; rw [up_same] at x; cases x
      · rw [hc i y] at x ⊢; exact h.fr i hi x
    · intro i hi
      by_cases y : i = s
      · subst y; rw [up_same]; exact .inr (.inl rfl)
      · rw [hc i y]; exact h.st i hi
    · intro i hi x
      by_cases y : i = s
      · subst y; rw [up_same]; exact ⟨h.n1, by show nx < nx + 1; omega⟩
      · rw [hc i y] at x ⊢; have := h.pd i hi x; omega
    · intro i j hi hj x y z
      by_cases a : i = s
      · by_cases b : j = s
        · omega
        · subst a
          rw [up_same] at z
          rw [hc j b] at y z
          have := h.pd j hj y
          simp only at z
          omega
      · by_cases b : j = s
        · subst b
          rw [up_same] at z
          rw [hc i a] at x z
          have := h.pd i hi x
          simp only at z
          omega
        · rw [hc i a] at x z
          rw [hc j b] at y z
          exact h.un i j hi hj x y z
    · intro x
      by_cases y : s = 0
      · subst y
        rw [up_same]
        rcases hpar with p | p
        · exact ⟨p.2.1, p.2.2⟩
        · exact absurd rfl p.1
      · rw [hc 0 (fun z => y z.symm)] at x ⊢
        exact h.r0 x
    · intro i hi hi0 x
      by_cases y : i = s
      · subst y
        rw [up_same]
        rcases hpar with p | ⟨_, _, j, h1, h2, h3, h4, h5⟩
        · exact absurd p.1 hi0
        · refine ⟨j, h1, h3, ?_⟩
          rw [hc j h2]
          exact ⟨h4, (h.pd j h1 h4).2, .inr h5⟩
      · rw [hc i y] at x ⊢
        obtain ⟨j, h1, h2, h3, h4, h5⟩ := h.pa i hi hi0 x
        refine ⟨j, h1, h2, ?_⟩
        rw [hc j (fun z => by subst z; exact h3 hs0)]
        exact ⟨h3, h4, h5⟩
    · intro i hi x
      by_cases y : i = s
      · subst y; rw [up_same] at x; cases x
      · rw [hc i y] at x ⊢; exact h.sp i hi x
    · intro i hi x
      by_cases y : i = s
      · subst y; rw [up_same]; exact ⟨rfl, rfl⟩
      · rw [hc i y] at x ⊢; exact h.ns i hi x
    · intro i hi x
      by_cases y : i = s
      · subst y; rw [up_same]
      · rw [hc i y] at x ⊢; exact h.nz i hi x
  · exact h
theorem enE0 {P : Nat → Pr} {s : Int} (h : enE P s = 0) : ∃ n : Nat, s = n ∧ n < 64 ∧ (P n).st ≠ 0 ∧ (P n).st ≠ 3 := by
  rw [enE] at h
  split at h
  · rename_i e
    obtain ⟨n, rfl, h1, h2⟩ := isP_nat e
    rw [Int.toNat_natCast] at h
    split at h
    · cases h
    · rename_i h3; exact ⟨n, rfl, h1, h2, h3⟩
  · cases h
theorem chd_iff {s : Int} {i : Nat} {p : Pr} : chd s i p = true ↔ p.st ≠ 0 ∧ p.par = s ∧ (i : Int) ≠ s := by
  simp only [chd, Bool.and_eq_true, Bool.not_eq_true', beq_eq_false_iff_ne, beq_iff_eq, and_assoc]
theorem Inv.ends {P : Nat → Pr} {nx : Int} (h : Inv P nx) (s sta : Int) : Inv (enP P s sta) nx := by
  rw [enP]
  split
  · rename_i e
    obtain ⟨n, rfl, hn, h1, h2⟩ := enE0 e
    have f0 := h.first hn h1
    -- what a slot has behind it
    have key : ∀ Q : Nat → Pr, (∀ i, i < 64 → (Q i).pid = (P i).pid ∧ ((Q i).st = 0 ↔ (P i).st = 0) ∧ (i ≠ n → Q i = P i ∨ (Q i = { P i with par := 0 } ∧ (P i).st ≠ 0 ∧ i ≠ 0)) ∧ (i = n → Q i = { P n with st := 3, ck := 0, cn := 0, sta := sta }) ∧ (n ≠ 0 → i ≠ n → (P i).st ≠ 0 → i ≠ 0 → (P i).par = (n : Int) → Q i = { P i with par := 0 })) → Inv Q nx := by
      intro Q H
      have c : ∀ i, i < 64 → i = n ∨ i ≠ n := fun i _ => Decidable.em _
      refine ⟨h.n1, h.n2, fun x => h.z0 ((H 0 (by omega)).2.1.1 x), ?_, ?_, ?_, ?_, ?_, ?_, ?_, ?_, ?_⟩
      · intro i hi x
        have x' := (H i hi).2.1.1 x
        rcases c i hi with y | y
        · subst y; exact absurd x' h1
        · rcases (H i hi).2.2.1 y with z | z
          · rw [z]; exact h.fr i hi x'
          · exact absurd x' z.2.1
      · intro i hi
        rcases c i hi with y | y
        · rw [(H i hi).2.2.2.1 y]; exact .inr (.inr (.inr rfl))
        · rcases (H i hi).2.2.1 y with z | z
          · rw [z]; exact h.st i hi
          · rw [z.1]; exact h.st i hi
      · intro i hi x
        rw [(H i hi).1]
        exact h.pd i hi (fun y => x ((H i hi).2.1.2 y))
      · intro i j hi hj x y z
        rw [(H i hi).1, (H j hj).1] at z
        exact h.un i j hi hj (fun q => x ((H i hi).2.1.2 q)) (fun q => y ((H j hj).2.1.2 q)) z
      · intro x
        have r := h.r0 f0
        refine ⟨?_, by rw [(H 0 (by omega)).1]; exact r.2⟩
        rcases c 0 (by omega) with y | y
        · rw [(H 0 (by omega)).2.2.2.1 y, ← y]; exact r.1
        · rcases (H 0 (by omega)).2.2.1 y with z | z
          · rw [z]; exact r.1
          · exact absurd rfl z.2.2
      · intro i hi hi0 x
        have x' : (P i).st ≠ 0 := fun y => x ((H i hi).2.1.2 y)
        have g0 : ∃ j : Nat, j < 64 ∧ (0 : Int) = (j : Int) ∧ (Q j).st ≠ 0 ∧ (Q j).pid < (Q i).pid ∧ (j = 0 ∨ (Q j).st ≠ 3) := by
          refine ⟨0, by omega, rfl, fun y => f0 ((H 0 (by omega)).2.1.1 y), ?_, .inl rfl⟩
          rw [(H 0 (by omega)).1, (H i hi).1, (h.r0 f0).2]
          have p1 := h.pd i hi x'
          have p2 : (P i).pid ≠ 1 := fun y => hi0 (h.un i 0 hi (by omega) x' f0 (by rw [y, (h.r0 f0).2]))
          omega
        obtain ⟨j, q1, q2, q3, q4, q5⟩ := h.pa i hi hi0 x'
        by_cases jn : j = n
        · by_cases n0 : n = 0
          · -- the first process ends: its children stay
            have : (Q i).par = 0 := by
              rcases c i hi with y | y
              · omega
              · rcases (H i hi).2.2.1 y with z | z
                · rw [z, q2, jn, n0]; rfl
                · rw [z.1]
            rw [this]
            exact g0
          · rcases c i hi with y | y
            · subst y; subst jn; omega
            · have := (H i hi).2.2.2.2 n0 y x' hi0 (by rw [q2, jn])
              rw [this]
              rw [this] at g0
              exact g0
        · have hp : (Q i).par = (P i).par ∨ (Q i).par = 0 := by
            rcases c i hi with y | y
            · rw [(H i hi).2.2.2.1 y, ← y]; exact .inl rfl
            · rcases (H i hi).2.2.1 y with z | z
              · rw [z]; exact .inl rfl
              · rw [z.1]; exact .inr rfl
          rcases hp with hp | hp
          · refine ⟨j, q1, by rw [hp]; exact q2, fun y => q3 ((H j q1).2.1.1 y), by rw [(H i hi).1, (H j q1).1]; exact q4, ?_⟩
            rcases q5 with q5 | q5
            · exact .inl q5
            · right
              rcases (H j q1).2.2.1 jn with z | z
              · rw [z]; exact q5
              · rw [z.1]; exact q5
          · rw [hp]; exact g0
      · intro i hi x
        rcases c i hi with y | y
        · rw [(H i hi).2.2.2.1 y] at x; cases x
        · rcases (H i hi).2.2.1 y with z | z
          · rw [z] at x ⊢; exact h.sp i hi x
          · rw [z.1] at x ⊢; exact h.sp i hi x
      · intro i hi x
        rcases c i hi with y | y
        · rw [(H i hi).2.2.2.1 y]; exact ⟨rfl, rfl⟩
        · rcases (H i hi).2.2.1 y with z | z
          · rw [z] at x ⊢; exact h.ns i hi x
          · rw [z.1] at x ⊢; exact h.ns i hi x
      · intro i hi x
        rcases c i hi with y | y
        · rw [(H i hi).2.2.2.1 y] at x; exact absurd rfl x
        · rcases (H i hi).2.2.1 y with z | z
          · rw [z] at x ⊢; exact h.nz i hi x
          · rw [z.1] at x ⊢; exact h.nz i hi x
    have e1 : ∀ i, i ≠ n → en1 P (n : Int) sta i = P i := fun i x => by rw [en1, Int.toNat_natCast]; exact up_other _ _ _ _ x
    have e2 : en1 P (n : Int) sta n = { P n with st := 3, ck := 0, cn := 0, sta := sta } := by rw [en1, Int.toNat_natCast]; exact up_same _ _ _
    split
    · rename_i n0
      refine key _ fun i hi => ?_
      by_cases y : i = n
      · subst y
        rw [e2]
        exact ⟨rfl, ⟨fun x => (by cases x), fun x => absurd x h1⟩, fun x => absurd rfl x, fun _ => rfl, fun _ x => absurd rfl x⟩
      · rw [e1 i y]
        exact ⟨rfl, Iff.rfl, fun _ => .inl rfl, fun x => absurd x y, fun x => by omega⟩
    · rename_i n0
      refine key _ fun i hi => ?_
      rw [adop]
      by_cases y : i = n
      · subst y
        rw [if_neg (fun x => (chd_iff.1 x).2.2 rfl), e2]
        exact ⟨rfl, ⟨fun x => (by cases x), fun x => absurd x h1⟩, fun x => absurd rfl x, fun _ => rfl, fun _ x => absurd rfl x⟩
      · rw [e1 i y]
        split
        · rename_i z
          have z := chd_iff.1 z
          have i0 : i ≠ 0 := fun q => by
            subst q
            have := (h.r0 z.1).1
            omega
          exact ⟨rfl, Iff.rfl, fun _ => .inr ⟨rfl, z.1, i0⟩, fun x => absurd x y, fun _ _ _ _ _ => rfl⟩
        · rename_i z
          refine ⟨rfl, Iff.rfl, fun _ => .inl rfl, fun x => absurd x y, fun _ _ q1 _ q2 => absurd (chd_iff.2 ⟨q1, q2, by omega⟩) z⟩
  · exact h
end Go.Proofs.Ytnlbomggadflmab
