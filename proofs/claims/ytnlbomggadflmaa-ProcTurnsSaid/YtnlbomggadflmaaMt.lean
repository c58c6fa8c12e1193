import Derived.Test.YtnlbomggadflmaaLf
namespace Go.Proofs.Ytnlbomggadflmaa
set_option linter.unusedVariables false
set_option linter.unusedSimpArgs false
set_option maxRecDepth 100000
/-- How many of the first D places from f0 on, going round. -/
def cnt (r : Nat → Bool) (f0 D : Nat) : Nat := (List.range D).countP fun k => r ((f0 + k) % 64)
theorem cnt_succ (r : Nat → Bool) (f0 D : Nat) : cnt r f0 (D + 1) = cnt r f0 D + if r ((f0 + D) % 64) = true then 1 else 0 := by
  simp [cnt, List.range_succ, List.countP_append, List.countP_singleton]
theorem cnt_shift (r : Nat → Bool) (t : Nat) : cnt r (t + 1) 64 = cnt r t 64 := by
  have h1 : (List.range 65).countP (fun k => r ((t + k) % 64)) = cnt r t 64 + if r ((t + 64) % 64) = true then 1 else 0 := cnt_succ r t 64
  have h2 : (List.range 65).countP (fun k => r ((t + k) % 64)) = (if r ((t + 0) % 64) = true then 1 else 0) + cnt r (t + 1) 64 := by
    rw [show (65 : Nat) = 64 + 1 from rfl, List.range_succ_eq_map, List.countP_cons, List.countP_map, cnt]
    have e : ((fun k => r ((t + k) % 64)) ∘ Nat.succ) = fun k => r ((t + 1 + k) % 64) := by
      funext k
      simp only [Function.comp, Nat.succ_eq_add_one]
      rw [show t + (k + 1) = t + 1 + k by omega]
    rw [e, Nat.add_comm]
  have h3 : (t + 64) % 64 = (t + 0) % 64 := by omega
  rw [h3] at h1
  omega
theorem cnt_all (r : Nat → Bool) (t : Nat) : cnt r t 64 = cnt r 0 64 := by
  induction t with
  | zero => rfl
  | succ t ih => rw [cnt_shift, ih]
theorem cnt_add (r : Nat → Bool) (f0 D n : Nat) : cnt r f0 (D + n) = cnt r f0 D + (List.range n).countP fun k => r ((f0 + D + k) % 64) := by
  rw [cnt, List.range_add, List.countP_append, List.countP_map]
  congr 1
  apply List.countP_congr
  intro k _
  simp [Nat.add_assoc]
theorem cnt_mono (r : Nat → Bool) (f0 : Nat) {D E : Nat} (h : D ≤ E) : cnt r f0 D ≤ cnt r f0 E := by
  obtain ⟨n, rfl⟩ : ∃ n, E = D + n := ⟨E - D, by omega⟩
  rw [cnt_add]
  omega
theorem cnt_none {r : Nat → Bool} {f0 D n : Nat} (h : ∀ k, k < n → r ((f0 + D + k) % 64) = false) : cnt r f0 (D + n) = cnt r f0 D := by
  rw [cnt_add]
  have : (List.range n).countP (fun k => r ((f0 + D + k) % 64)) = 0 := by
    rw [List.countP_eq_zero]
    intro k hk
    simp [h k (by simpa using hk)]
  omega
/-- One turn. -/
theorem turn_step {r : Nat → Bool} {f0 D p : Nat} (hD : D ≤ 64) (hc : cnt r f0 D < cnt r f0 64) (hp : p % 64 = (f0 + D) % 64) :
    ∃ k, D ≤ k ∧ k < 64 ∧ rnd r p = some ((f0 + k) % 64) ∧ r ((f0 + k) % 64) = true ∧ cnt r f0 (k + 1) = cnt r f0 D + 1 ∧ ∀ i, D ≤ i → i < k → r ((f0 + i) % 64) = false := by
  have he : ∃ k0, D ≤ k0 ∧ k0 < 64 ∧ r ((f0 + k0) % 64) = true := by
    refine Classical.byContradiction fun hn => ?_
    have := cnt_none (r := r) (f0 := f0) (D := D) (n := 64 - D) (fun k hk => by
      cases q : r ((f0 + D + k) % 64)
      · rfl
      · exact absurd ⟨D + k, by omega, by omega, by rw [← Nat.add_assoc]; exact q⟩ hn)
    rw [show D + (64 - D) = 64 by omega] at this
    omega
  obtain ⟨k0, h1, h2, h3⟩ := he
  have hmod : ∀ i, (p + i) % 64 = (f0 + (D + i)) % 64 := fun i => by omega
  cases hr : rnd r p with
  | none =>
    have := rnd_none.1 hr (k0 - D) (by omega)
    rw [hmod, show D + (k0 - D) = k0 by omega, h3] at this
    cases this
  | some n =>
    obtain ⟨j, hj, hmin, hq, hn⟩ := rnd_some hr
    rw [hmod] at hn
    have hjk : j ≤ k0 - D := by
      refine Classical.byContradiction fun x => ?_
      have := hmin (k0 - D) (by omega)
      rw [hmod, show D + (k0 - D) = k0 by omega, h3] at this
      cases this
    have hz : ∀ i, D ≤ i → i < D + j → r ((f0 + i) % 64) = false := fun i a b => by
      have := hmin (i - D) (by omega)
      rwa [hmod, show D + (i - D) = i by omega] at this
    refine ⟨D + j, by omega, by omega, by rw [hn], by rw [← hn]; exact hq, ?_, hz⟩
    rw [cnt_succ, ← hn, hq, if_pos rfl, cnt_none (fun k hk => by
      have := hz (D + k) (by omega) (by omega)
      rwa [← Nat.add_assoc] at this)]
/-- Who was seen. -/
def seenF (r : Nat → Bool) (f0 D : Nat) : Nat → Int := fun s => if r s = true ∧ (s + 128 - f0) % 64 < D then 1 else 0
theorem seen_at {r : Nat → Bool} {f0 D k : Nat} (hf : f0 ≤ 64) (hk : D ≤ k) (hk2 : k < 64) : seenF r f0 D ((f0 + k) % 64) = 0 := by
  rw [seenF, if_neg]
  rintro ⟨_, h⟩
  omega
theorem seen_step {r : Nat → Bool} {f0 D k : Nat} (hf : f0 ≤ 64) (hk : D ≤ k) (hk2 : k < 64) (hr : r ((f0 + k) % 64) = true) (hz : ∀ i, D ≤ i → i < k → r ((f0 + i) % 64) = false) (s : Nat) (hs : s < 64) :
    seenF r f0 (k + 1) s = if s = (f0 + k) % 64 then 1 else seenF r f0 D s := by
  by_cases e : s = (f0 + k) % 64
  · rw [if_pos e, e, seenF, if_pos ⟨hr, by omega⟩]
  · rw [if_neg e, seenF, seenF]
    have hd : (s + 128 - f0) % 64 ≠ k := by omega
    have hb : (f0 + (s + 128 - f0) % 64) % 64 = s := by omega
    by_cases h1 : r s = true ∧ (s + 128 - f0) % 64 < D
    · rw [if_pos h1, if_pos ⟨h1.1, by omega⟩]
    · rw [if_neg h1, if_neg]
      rintro ⟨a, b⟩
      have : ¬ (s + 128 - f0) % 64 < D := fun c => h1 ⟨a, c⟩
      have := hz ((s + 128 - f0) % 64) (by omega) (by omega)
      rw [hb, a] at this
      cases this
/-- All were seen. -/
theorem seen_all {r : Nat → Bool} {f0 D : Nat} (hf : f0 ≤ 64) (hD : D ≤ 64) (hc : cnt r f0 D = cnt r f0 64) (s : Nat) (hs : s < 64) (hr : r s = true) : seenF r f0 D s = 1 := by
  rw [seenF, if_pos]
  refine ⟨hr, Classical.byContradiction fun h => ?_⟩
  have hb : (f0 + (s + 128 - f0) % 64) % 64 = s := by omega
  have h1 := cnt_succ r f0 ((s + 128 - f0) % 64)
  rw [hb, hr, if_pos rfl] at h1
  have h2 := cnt_mono r f0 (show D ≤ (s + 128 - f0) % 64 by omega)
  have h3 := cnt_mono r f0 (show (s + 128 - f0) % 64 + 1 ≤ 64 by omega)
  omega
end Go.Proofs.Ytnlbomggadflmaa
