import Derived.Test.YtblmkkhiojbcjaaGreatUt
namespace Go.Proofs.YtblmkkhiojbcjaaGreat
open Go Go.RowKit
set_option linter.unusedVariables false
set_option linter.unusedSimpArgs false
/-- How many numbers below M have it. -/
def cnt (M : Nat) (p : Nat → Bool) : Nat := (List.range M).countP p
theorem cnt_succ (M : Nat) (p : Nat → Bool) : cnt (M + 1) p = cnt M p + if p M = true then 1 else 0 := by
  unfold cnt
  rw [List.range_succ, List.countP_append, List.countP_singleton]
theorem cnt_ext {M : Nat} {p q : Nat → Bool} (h : ∀ v, v < M → p v = q v) : cnt M p = cnt M q := by
  induction M with
  | zero => rfl
  | succ M ih => rw [cnt_succ, cnt_succ, ih (fun v hv => h v (by omega)), h M (by omega)]
theorem cnt_add {M v0 : Nat} {p q : Nat → Bool} (hv : v0 < M) (h0 : p v0 = false) (h1 : q v0 = true) (h : ∀ v, v < M → v ≠ v0 → q v = p v) : cnt M q = cnt M p + 1 := by
  induction M with
  | zero => omega
  | succ M ih =>
    rw [cnt_succ, cnt_succ]
    by_cases e : v0 = M
    · subst e
      rw [h0, h1, cnt_ext (fun v hv => h v (by omega) (by omega))]
      simp
    · rw [ih (by omega) (fun v hv hne => h v (by omega) hne), h M (by omega) (fun e2 => e e2.symm)]
      omega
theorem cnt_zero (M : Nat) : cnt M (fun _ => false) = 0 := by
  induction M with
  | zero => rfl
  | succ M ih => rw [cnt_succ, ih]; simp
/-- The parts are counted by their numbers. -/
theorem prt_cnt (V : Nat → Int) (s : Int) (M : Nat) : ∀ n, (∀ i, i < n → 0 ≤ V i / s ∧ V i / s < M) → prt V s n = cnt M (fun v => decide (∃ i : Nat, i < n ∧ V i / s = (v : Int)))
  | 0, h => by
    have : (fun v : Nat => decide (∃ i : Nat, i < 0 ∧ V i / s = (v : Int))) = fun _ => false := by
      funext v
      exact decide_eq_false (fun ⟨i, hi, _⟩ => by omega)
    rw [this, cnt_zero]
    rfl
  | n + 1, h => by
    have ih := prt_cnt V s M n (fun i hi => h i (by omega))
    have hb := h n (by omega)
    unfold prt
    rw [ih]
    by_cases hd : ∀ k, k < n → V k / s ≠ V n / s
    · rw [if_pos hd]
      refine (cnt_add (v0 := (V n / s).toNat) (by omega) ?_ ?_ (fun v hv hne => ?_)).symm
      · exact decide_eq_false (fun ⟨i, hi, e⟩ => hd i hi (by omega))
      · exact decide_eq_true ⟨n, by omega, by omega⟩
      · refine decide_eq_decide.2 ⟨fun ⟨i, hi, e⟩ => ⟨i, ?_, e⟩, fun ⟨i, hi, e⟩ => ⟨i, by omega, e⟩⟩
        by_cases e2 : i = n
        · subst e2; omega
        · omega
    · rw [if_neg hd, Nat.add_zero]
      refine cnt_ext fun v hv => decide_eq_decide.2 ⟨fun ⟨i, hi, e⟩ => ⟨i, by omega, e⟩, fun ⟨i, hi, e⟩ => ?_⟩
      by_cases e2 : i = n
      · subst e2
        obtain ⟨k, hk⟩ := Classical.not_forall.1 hd
        obtain ⟨hk1, hk2⟩ := Classical.not_imp.1 hk
        exact ⟨k, hk1, by rw [Classical.not_not.1 hk2]; exact e⟩
      · exact ⟨i, by omega, e⟩
end Go.Proofs.YtblmkkhiojbcjaaGreat
