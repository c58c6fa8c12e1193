import Derived.Test.YtblmkkhiojbcjaaGreatUs
namespace Go.Proofs.YtblmkkhiojbcjaaGreat
open Go Go.RowKit
set_option linter.unusedVariables false
set_option linter.unusedSimpArgs false
/-- A page that may be laid down. -/
def okP (x : Pg) : Prop := (0 ≤ x.1 ∧ x.1 < 274877906944 ∧ x.1 % 4096 = 0) ∧ (0 ≤ x.2.1 ∧ x.2.1 < 72057594037927936 ∧ x.2.1 % 4096 = 0) ∧ (0 ≤ x.2.2 ∧ x.2.2 < 256 ∧ x.2.2 % 2 = 0) ∧ kd (toP x.2.1 x.2.2) 0 = 2
theorem okP.ne {x : Pg} (h : okP x) : toP x.2.1 x.2.2 ≠ 0 := fun e => by
  have := h.2.2.2
  rw [e, kd_zero] at this
  omega
/-- A table has just these pages, and no node without one. -/
structure TL (F : Nat → Option Nat) (lf : Nat → Nat → Int) (l : List Pg) : Prop where
  ok : ∀ x ∈ l, okP x
  uniq : ∀ x ∈ l, ∀ y ∈ l, x.1 = y.1 → x = y
  leaf : ∀ x ∈ l, lf (y0 x.1) (i0 x.1) = toP x.2.1 x.2.2
  only : ∀ y k, 513 ≤ y → k < 512 → lf y k ≠ 0 → ∃ x ∈ l, y = y0 x.1 ∧ k = i0 x.1
  n0 : ∀ y, 513 ≤ y → F y ≠ none → ∃ k, k < 512 ∧ lf y k ≠ 0
  n1 : ∀ x, 1 ≤ x → x ≤ 512 → F x ≠ none → ∃ d, d < 512 ∧ F (ch x d) ≠ none
theorem TL.init (r : Nat) : TL (fun x => if x = 0 then some r else none) (fun _ _ => 0) [] :=
  ⟨fun x h => by simp at h, fun x h => by simp at h, fun x h => by simp at h, fun y k _ _ h => absurd rfl h, fun y hy h => by simp [show y ≠ 0 by omega] at h, fun x hx _ h => by simp [show x ≠ 0 by omega] at h⟩
/-- Two addresses of one place are one. -/
theorem va_inj {a c : Int} (ha : 0 ≤ a ∧ a < 274877906944 ∧ a % 4096 = 0) (hc : 0 ≤ c ∧ c < 274877906944 ∧ c % 4096 = 0) (h1 : y0 a = y0 c) (h2 : i0 a = i0 c) : a = c := by
  obtain ⟨h3, h4⟩ := ch_inj (y1_le a).1 (y1_le c).1 (i1_lt a) (i1_lt c) h1
  obtain ⟨_, h5⟩ := ch_inj (by omega) (by omega) (i2_lt a) (i2_lt c) h3
  have b0 := ix_b a 0
  have b1 := ix_b a 1
  have b2 := ix_b a 2
  have d0 := ix_b c 0
  have d1 := ix_b c 1
  have d2 := ix_b c 2
  unfold i0 at h2
  unfold i1 at h4
  unfold i2 at h5
  have e0 : ix a 0 = ix c 0 := by omega
  have e1 : ix a 1 = ix c 1 := by omega
  have e2 : ix a 2 = ix c 2 := by omega
  simp only [ix, spn0, spn1, show spn 2 = 1073741824 from rfl] at e0 e1 e2
  omega
section
variable {N : Nat} {L L' : List Nat} {B B' : Nat → Int} {F F' : Nat → Option Nat} {lf lf' : Nat → Nat → Int} {l : List Pg}
theorem TL.map {x : Pg} (h : TL F lf l) (hx : okP x) (hn : ∀ y ∈ l, y.1 ≠ x.1) (hl : LP N x.1 (toP x.2.1 x.2.2) L B F lf L' B' F') : TL F' (setE lf (y0 x.1) (i0 x.1) (toP x.2.1 x.2.2)) (l ++ [x]) := by
  have hy0 := y0_ge x.1
  have hy1 := y1_le x.1
  have hne := hx.ne
  refine ⟨fun y hy => ?_, fun y hy z hz e => ?_, fun y hy => ?_, fun y k h1 h2 h3 => ?_, fun y h1 h2 => ?_, fun y h0 h1 h2 => ?_⟩
  · rcases List.mem_append.1 hy with h1 | h1
    · exact h.ok y h1
    · rw [List.mem_singleton.1 h1]; exact hx
  · rcases List.mem_append.1 hy with h1 | h1 <;> rcases List.mem_append.1 hz with h2 | h2
    · exact h.uniq y h1 z h2 e
    · rw [List.mem_singleton.1 h2] at e; exact absurd e (hn y h1)
    · rw [List.mem_singleton.1 h1] at e; exact absurd e.symm (hn z h2)
    · rw [List.mem_singleton.1 h1, List.mem_singleton.1 h2]
  · unfold setE
    rcases List.mem_append.1 hy with h1 | h1
    · rw [if_neg (fun e => hn y h1 (va_inj (h.ok y h1).1 hx.1 e.1 e.2))]
      exact h.leaf y h1
    · rw [List.mem_singleton.1 h1, if_pos ⟨rfl, rfl⟩]
  · unfold setE at h3
    by_cases e : y = y0 x.1 ∧ k = i0 x.1
    · exact ⟨x, List.mem_append_right _ (List.mem_singleton.2 rfl), e.1, e.2⟩
    · rw [if_neg e] at h3
      obtain ⟨z, hz, e1, e2⟩ := h.only y k h1 h2 h3
      exact ⟨z, List.mem_append_left _ hz, e1, e2⟩
  · by_cases e : y = y0 x.1
    · exact ⟨i0 x.1, i0_lt _, by unfold setE; rw [if_pos ⟨e, rfl⟩]; exact hne⟩
    · cases hf : F' y with
      | none => exact absurd hf h2
      | some f =>
        rcases hl.new y f hf with h3 | ⟨_, _, h3⟩
        · obtain ⟨k, hk, h4⟩ := h.n0 y h1 (by rw [h3]; simp)
          exact ⟨k, hk, by unfold setE; rw [if_neg (fun e2 => e e2.1)]; exact h4⟩
        · omega
  · cases hf : F' y with
    | none => exact absurd hf h2
    | some f =>
      rcases hl.new y f hf with h3 | ⟨_, _, h3⟩
      · obtain ⟨d, hd, h4⟩ := h.n1 y h0 h1 (by rw [h3]; simp)
        refine ⟨d, hd, fun e => ?_⟩
        cases hc : F (ch y d) with
        | none => exact h4 hc
        | some g => rw [hl.ext _ g hc] at e; cases e
      · have e1 : y = y1 x.1 := by omega
        obtain ⟨g, q, _, h5⟩ := hl.has
        refine ⟨i1 x.1, i1_lt _, ?_⟩
        rw [e1, show ch (y1 x.1) (i1 x.1) = y0 x.1 from rfl, h5]
        simp
theorem TL.unmap {x : Pg} {q g : Nat} {lm : List Pg} (h : TL F lf l) (hx : x ∈ l) (hm : ∀ y, y ∈ lm ↔ y ∈ l ∧ y ≠ x) (hr : PrR L F (setE lf (y0 x.1) (i0 x.1) 0) x.1 q g L' F' lf') : TL F' lf' lm := by
  have hy0 := y0_ge x.1
  have hy1 := y1_le x.1
  have hlf : ∀ y k, 513 ≤ y → k < 512 → lf' y k = setE lf (y0 x.1) (i0 x.1) 0 y k := fun y k h1 h2 => by
    rcases hr with ⟨_, _, rfl, _⟩ | ⟨_, _, rfl, hz, _⟩ | ⟨_, _, rfl, hz, _⟩
    · rfl
    · unfold clrE
      split
      · next e => rw [e]; exact (hz k h2).symm
      · rfl
    · unfold clrE
      rw [if_neg (by omega)]
      split
      · next e => rw [e]; exact (hz k h2).symm
      · rfl
  refine ⟨fun y hy => h.ok y ((hm y).1 hy).1, fun y hy z hz e => h.uniq y ((hm y).1 hy).1 z ((hm z).1 hz).1 e, fun y hy => ?_, fun y k h1 h2 h3 => ?_, fun y h1 h2 => ?_, fun y h0 h1 h2 => ?_⟩
  · obtain ⟨h1, h2⟩ := (hm y).1 hy
    rw [hlf _ _ (y0_ge _) (i0_lt _)]
    unfold setE
    rw [if_neg (fun e => h2 (h.uniq y h1 x hx (va_inj (h.ok y h1).1 (h.ok x hx).1 e.1 e.2)))]
    exact h.leaf y h1
  · rw [hlf y k h1 h2] at h3
    unfold setE at h3
    by_cases e : y = y0 x.1 ∧ k = i0 x.1
    · rw [if_pos e] at h3; exact absurd rfl h3
    · rw [if_neg e] at h3
      obtain ⟨z, hz, e1, e2⟩ := h.only y k h1 h2 h3
      exact ⟨z, (hm z).2 ⟨hz, fun e3 => e (by rw [e1, e2, e3]; exact ⟨rfl, rfl⟩)⟩, e1, e2⟩
  · have key : y ≠ y0 x.1 → F y ≠ none → ∃ k, k < 512 ∧ lf' y k ≠ 0 := fun e h3 => by
      obtain ⟨k, hk, h4⟩ := h.n0 y h1 h3
      refine ⟨k, hk, ?_⟩
      rw [hlf y k h1 hk]
      unfold setE
      rw [if_neg (fun e2 => e e2.1)]
      exact h4
    rcases hr with ⟨_, rfl, rfl, hz⟩ | ⟨_, rfl, rfl, hz, _⟩ | ⟨_, rfl, rfl, hz, _⟩
    · by_cases e : y = y0 x.1
      · subst e
        refine Classical.byContradiction fun hc => hz fun k hk => Classical.byContradiction fun h5 => hc ⟨k, hk, h5⟩
      · exact key e h2
    · by_cases e : y = y0 x.1
      · rw [e] at h2; unfold setN at h2; rw [if_pos rfl] at h2; exact absurd rfl h2
      · unfold setN at h2; rw [if_neg e] at h2; exact key e h2
    · by_cases e : y = y0 x.1
      · rw [e] at h2; unfold setN at h2; rw [if_neg (by omega), if_pos rfl] at h2; exact absurd rfl h2
      · unfold setN at h2; rw [if_neg (by omega), if_neg e] at h2; exact key e h2
  · rcases hr with ⟨_, rfl, rfl, hz⟩ | ⟨_, rfl, rfl, hz, hd⟩ | ⟨_, rfl, rfl, hz, hd⟩
    · exact h.n1 y h0 h1 h2
    · by_cases e : y = y1 x.1
      · subst e
        refine Classical.byContradiction fun hc => hd fun d hd2 => Classical.byContradiction fun h5 => hc ⟨d, hd2, h5⟩
      · have h3 : F y ≠ none := by unfold setN at h2; rwa [if_neg (by omega)] at h2
        obtain ⟨d, hd2, h4⟩ := h.n1 y h0 h1 h3
        refine ⟨d, hd2, ?_⟩
        unfold setN
        rw [if_neg (show ¬ ch y d = y0 x.1 from fun e2 => e (ch_inj h1 hy1.1 hd2 (i1_lt _) e2).1)]
        exact h4
    · by_cases e : y = y1 x.1
      · rw [e] at h2; unfold setN at h2; rw [if_pos rfl] at h2; exact absurd rfl h2
      · have h3 : F y ≠ none := by unfold setN at h2; rwa [if_neg e, if_neg (by omega)] at h2
        obtain ⟨d, hd2, h4⟩ := h.n1 y h0 h1 h3
        refine ⟨d, hd2, ?_⟩
        unfold setN
        rw [if_neg (fun e2 => by have := e2; unfold ch at this; rw [if_neg (by omega)] at this; omega), if_neg (show ¬ ch y d = y0 x.1 from fun e2 => e (ch_inj h1 hy1.1 hd2 (i1_lt _) e2).1)]
        exact h4
end
end Go.Proofs.YtblmkkhiojbcjaaGreat
namespace Go.Proofs.YtblmkkhiojbcjaaGreat
open Go Go.RowKit
set_option linter.unusedVariables false
set_option linter.unusedSimpArgs false
/-- How many numbers below M have it. -/
def cnt (M : Nat) (p : Nat → Bool) : Nat := (List.range M).countP p
theorem cnt_succ (M : Nat) (p : Nat → Bool) : cnt (M + 1) p = cnt M p + if p M = true then 1 else 0 := by
  unfold cnt
  rw [List.range_succ, List.countP_append, List.countP_singleton]
theorem cnt_ext {M : Nat} {p q : Nat → Bool} (h : ∀ v, v < M → p v = q v) : cnt M p = cnt M q := by
  induction M with
  | zero => rfl
  | succ M ih => rw [cnt_succ, cnt_succ, ih (fun v hv => h v (by omega)), h M (by omega)]
theorem cnt_add {M v0 : Nat} {p q : Nat → Bool} (hv : v0 < M) (h0 : p v0 = false) (h1 : q v0 = true) (h : ∀ v, v < M → v ≠ v0 → q v = p v) : cnt M q = cnt M p + 1 := by
  induction M with
  | zero => omega
  | succ M ih =>
    rw [cnt_succ, cnt_succ]
    by_cases e : v0 = M
    · subst e
      rw [h0, h1, cnt_ext (fun v hv => h v (by omega) (by omega))]
      simp
    · rw [ih (by omega) (fun v hv hne => h v (by omega) hne), h M (by omega) (fun e2 => e e2.symm)]
      omega
theorem cnt_zero (M : Nat) : cnt M (fun _ => false) = 0 := by
  induction M with
  | zero => rfl
  | succ M ih => rw [cnt_succ, ih]; simp
/-- The parts are counted by their numbers. -/
theorem prt_cnt (V : Nat → Int) (s : Int) (M : Nat) : ∀ n, (∀ i, i < n → 0 ≤ V i / s ∧ V i / s < M) → prt V s n = cnt M (fun v => decide (∃ i : Nat, i < n ∧ V i / s = (v : Int)))
  | 0, h => by
    have : (fun v : Nat => decide (∃ i : Nat, i < 0 ∧ V i / s = (v : Int))) = fun _ => false := by
      funext v
      exact decide_eq_false (fun ⟨i, hi, _⟩ => by omega)
    rw [this, cnt_zero]
    rfl
  | n + 1, h => by
    have ih := prt_cnt V s M n (fun i hi => h i (by omega))
    have hb := h n (by omega)
    unfold prt
    rw [ih]
    by_cases hd : ∀ k, k < n → V k / s ≠ V n / s
    · rw [if_pos hd]
      refine (cnt_add (v0 := (V n / s).toNat) (by omega) ?_ ?_ (fun v hv hne => ?_)).symm
      · exact decide_eq_false (fun ⟨i, hi, e⟩ => hd i hi (by omega))
      · exact decide_eq_true ⟨n, by omega, by omega⟩
      · refine decide_eq_decide.2 ⟨fun ⟨i, hi, e⟩ => ⟨i, ?_, e⟩, fun ⟨i, hi, e⟩ => ⟨i, by omega, e⟩⟩
        by_cases e2 : i = n
        · subst e2; omega
        · omega
    · rw [if_neg hd, Nat.add_zero]
      refine cnt_ext fun v hv => decide_eq_decide.2 ⟨fun ⟨i, hi, e⟩ => ⟨i, by omega, e⟩, fun ⟨i, hi, e⟩ => ?_⟩
      by_cases e2 : i = n
      · subst e2
        obtain ⟨k, hk⟩ := Classical.not_forall.1 hd
        obtain ⟨hk1, hk2⟩ := Classical.not_imp.1 hk
        exact ⟨k, hk1, by rw [Classical.not_not.1 hk2]; exact e⟩
      · exact ⟨i, by omega, e⟩
end Go.Proofs.YtblmkkhiojbcjaaGreat
