import Derived.Test.YtnlbomggadflmaaNob
namespace Go.Proofs.Ytnlbomggadflmaa
open Go.RowKit
set_option linter.unusedVariables false
set_option linter.unusedSimpArgs false
set_option maxRecDepth 100000
section
variable {P : Nat → Pr} {nx : Int} {n : Nat} {t : Int}
theorem en1_n : en1 P (n : Int) t n = { P n with st := 3, ck := 0, cn := 0, sta := t } := by rw [en1, Int.toNat_natCast]; exact up_same _ _ _
theorem en1_o (i : Nat) (h : i ≠ n) : en1 P (n : Int) t i = P i := by rw [en1, Int.toNat_natCast]; exact up_other _ _ _ _ h
theorem enP_n (hE : enE P (n : Int) = 0) : enP P (n : Int) t n = { P n with st := 3, ck := 0, cn := 0, sta := t } := by
  rw [enP, if_pos hE]
  split
  · exact en1_n
  · rw [adop, if_neg (fun x => (chd_iff.1 x).2.2 rfl)]
    exact en1_n
theorem enP_o (hE : enE P (n : Int) = 0) (i : Nat) (h : i ≠ n) : enP P (n : Int) t i = if n ≠ 0 ∧ (P i).st ≠ 0 ∧ (P i).par = n then { P i with par := 0 } else P i := by
  rw [enP, if_pos hE]
  split
  · rename_i e
    rw [if_neg (fun x => x.1 (by omega)), en1_o i h]
  · rename_i e
    rw [adop, en1_o i h]
    by_cases c : chd (n : Int) i (P i) = true
    · have := chd_iff.1 c
      rw [if_pos c, if_pos ⟨by omega, this.1, this.2.1⟩]
    · rw [if_neg c, if_neg (fun x => c (chd_iff.2 ⟨x.2.1, x.2.2, by omega⟩))]
theorem enP_pid (hE : enE P (n : Int) = 0) (hn : (P n).st ≠ 0) (i : Nat) : (enP P (n : Int) t i).pid = (P i).pid ∧ ((enP P (n : Int) t i).st = 0 ↔ (P i).st = 0) := by
  by_cases h : i = n
  · subst h
    rw [enP_n hE]
    exact ⟨rfl, ⟨fun x => (by cases x), fun x => absurd x hn⟩⟩
  · rw [enP_o hE i h]
    split
    · exact ⟨rfl, Iff.rfl⟩
    · exact ⟨rfl, Iff.rfl⟩
/-- What the law has found. -/
def fz (P : Nat → Pr) (n : Nat) (t : Int) (j : Nat) : Bool := if n = 0 then false else adoZ (en1 P (n : Int) t) (n : Int) j
theorem fz_one (h : Inv P nx) (hn : (P n).st ≠ 0) (h64 : n < 64) : fz P n t 1 = false := by
  rw [fz]
  split
  · rfl
  · rename_i n0
    have hc : chd (n : Int) 0 (en1 P (n : Int) t 0) = false := by
      rw [en1_o 0 (fun x => n0 x.symm)]
      cases q : chd (n : Int) 0 (P 0)
      · rfl
      · have := chd_iff.1 q
        have := (h.r0 this.1).1
        omega
    rw [adoZ_succ, hc]
    rfl
theorem fz_all (hE : enE P (n : Int) = 0) : fz P n t 64 = enZ P (n : Int) t := by
  rw [fz, enZ]
  by_cases n0 : n = 0
  · rw [if_pos n0, if_neg (fun x => x.2 (by omega))]
  · rw [if_neg n0, if_pos ⟨hE, by omega⟩]
theorem fz_skip (j : Nat) (h : j = n ∨ (P j).st = 0 ∨ n = 0 ∨ (P j).par ≠ n) : fz P n t (j + 1) = fz P n t j := by
  rw [fz, fz]
  split
  · rfl
  · rename_i n0
    have hc : chd (n : Int) j (en1 P (n : Int) t j) = false := by
      cases q : chd (n : Int) j (en1 P (n : Int) t j)
      · rfl
      · have := chd_iff.1 q
        have hj : j ≠ n := fun x => this.2.2 (by omega)
        rw [en1_o j hj] at this
        rcases h with h | h | h | h
        · exact absurd h hj
        · exact absurd h this.1
        · exact absurd h n0
        · exact absurd this.2.1 h
    rw [adoZ_succ, hc, Bool.false_and, Bool.or_false]
theorem fz_step (j : Nat) (h1 : j ≠ n) (h2 : (P j).st ≠ 0) (h3 : n ≠ 0) (h4 : (P j).par = n) : fz P n t (j + 1) = (fz P n t j || (P j).st == 3) := by
  rw [fz, fz, if_neg h3, if_neg h3, adoZ_succ, en1_o j h1, chd_iff.2 ⟨h2, h4, by omega⟩, Bool.true_and]
/-- The ended one is found by its parent. -/
theorem zo_found {Q : Nat → Pr} {par : Int} {n : Nat} (hn : n < 64) (hc : chd par n (Q n) = true) (h3 : (Q n).st = 3) (h0 : chd par 0 (Q 0) = false) : zoA Q par 64 = true ∧ ∃ z : Nat, zoS Q par 64 = z ∧ 1 ≤ z ∧ z ≤ n ∧ (Q z).st = 3 ∧ (Q z).par = par := by
  refine ⟨?_, ?_⟩
  · rw [zoA, List.any_eq_true]
    exact ⟨n, by simpa using hn, hc⟩
  · cases hf : (List.range 64).find? (fun i => chd par i (Q i) && (Q i).st == 3) with
    | none =>
      rw [List.find?_eq_none] at hf
      have := hf n (by simpa using hn)
      simp [hc, h3] at this
    | some z =>
      have hf' := hf
      rw [List.find?_eq_some_iff_getElem] at hf
      obtain ⟨h1, i, hi, hz, hmin⟩ := hf
      simp only [List.getElem_range] at hz
      subst hz
      simp only [Bool.and_eq_true, beq_iff_eq] at h1
      refine ⟨i, by rw [zoS, hf']; rfl, ?_, ?_, h1.2, (chd_iff.1 h1.1).2.1⟩
      · refine Classical.byContradiction fun x => ?_
        have : i = 0 := by omega
        rw [this, h0] at h1
        cases h1.1
      · refine Classical.byContradiction fun x => ?_
        have := hmin n (by omega)
        simp [hc, h3] at this
theorem kl_none (h : Inv P nx) (hE : enE P (n : Int) = 0) (hn : (P n).st ≠ 0) (h64 : n < 64) (n0 : n ≠ 0) : frR (enP P (n : Int) t) n = 0 ∧ lkP (frP (enP P (n : Int) t) n) n = zP ∧ klR (frP (enP P (n : Int) t) n) (P n).pid = 266 := by
  have q3 : (enP P (n : Int) t n).st = 3 := by rw [enP_n hE]
  have hp : isP (enP P (n : Int) t) n := ⟨by omega, by omega, by rw [Int.toNat_natCast, q3]; decide⟩
  have c : (isP (enP P (n : Int) t) n ∧ (n : Int) ≠ 0) := ⟨hp, by omega⟩
  have f : frP (enP P (n : Int) t) n = up (enP P (n : Int) t) n zP := by rw [frP, Int.toNat_natCast, if_pos ⟨c, q3⟩]
  refine ⟨by rw [frR, if_pos c, Int.toNat_natCast, if_pos q3], ?_, ?_⟩
  · rw [lkP, if_neg]
    rintro ⟨_, _, x⟩
    rw [Int.toNat_natCast, f, up_same] at x
    exact x rfl
  · rw [klR, f, show (rnd (fun i => kq (P n).pid (up (enP P (n : Int) t) n zP i)) 0).isSome = false from ?_]
    · rfl
    · rw [Option.isSome_eq_false_iff, Option.isNone_iff_eq_none, rnd_none]
      intro k hk
      have hk2 : (0 + k) % 64 = k := by omega
      rw [hk2]
      cases q : kq (P n).pid (up (enP P (n : Int) t) n zP k)
      · rfl
      · have e := kq_st q
        by_cases y : k = n
        · subst y
          rw [up_same] at e
          exact absurd rfl e.1
        · rw [up_other _ _ _ _ y] at e
          have e2 := enP_pid (t := t) hE hn k
          have := h.un k n hk h64 (fun x => e.1 (e2.2.2 x)) hn (by rw [← e2.1]; exact e.2)
          exact absurd this y
end
end Go.Proofs.Ytnlbomggadflmaa
