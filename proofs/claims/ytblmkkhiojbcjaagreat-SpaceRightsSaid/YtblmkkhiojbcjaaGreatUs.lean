import Derived.Test.YtblmkkhiojbcjaaGreatUq
import Derived.Laws.AppendOwn
namespace Go.Proofs.YtblmkkhiojbcjaaGreat
open Go Go.RowKit Fz
attribute [local go_sem] Oper.semAt_some
set_option linter.unusedVariables false
set_option linter.unusedSimpArgs false
/-- How many different parts there are. -/
def prt (V : Nat → Int) (s : Int) : Nat → Nat
  | 0 => 0
  | n + 1 => prt V s n + if ∀ k, k < n → V k / s ≠ V n / s then 1 else 0
theorem prt_le (V : Nat → Int) (s : Int) : ∀ n, prt V s n ≤ n
  | 0 => Nat.le_refl _
  | n + 1 => by have := prt_le V s n; unfold prt; split <;> omega
end Go.Proofs.YtblmkkhiojbcjaaGreat
namespace Go.Proofs.YtblmkkhiojbcjaaGreat
open Go Go.RowKit Fz
attribute [local go_sem] Oper.semAt_some
set_option linter.unusedVariables false
set_option linter.unusedSimpArgs false
abbrev Pg := Int × Int × Int
def pc (x : Pg) : List Value := [.int .u64 x.1, .int .u64 x.2.1, .int .u64 x.2.2]
def pcs (l : List Pg) : List Value := l.flatMap pc
theorem pcs_len (l : List Pg) : (pcs l).length = l.length * 3 := by
  induction l with
  | nil => rfl
  | cons x l ih => simp only [pcs, List.flatMap_cons, List.length_append, List.length_cons] at ih ⊢; rw [ih]; simp [pc]; omega
theorem pcs_app (l : List Pg) (x : Pg) : pcs (l ++ [x]) = pcs l ++ pc x := by simp [pcs]
theorem pcs_get (l : List Pg) (i : Nat) (x : Pg) (h : l[i]? = some x) : (pcs l)[i * 3]? = some (.int .u64 x.1) ∧ (pcs l)[i * 3 + 1]? = some (.int .u64 x.2.1) ∧ (pcs l)[i * 3 + 2]? = some (.int .u64 x.2.2) := by
  induction l generalizing i with
  | nil => simp at h
  | cons y l ih =>
    cases i with
    | zero =>
      simp only [List.getElem?_cons_zero, Option.some.injEq] at h
      subst h
      simp [pcs, pc]
    | succ i =>
      simp only [List.getElem?_cons_succ] at h
      obtain ⟨h1, h2, h3⟩ := ih i h
      have e : pcs (y :: l) = pc y ++ pcs l := by simp [pcs]
      have el : (pc y).length = 3 := rfl
      rw [e]
      refine ⟨?_, ?_, ?_⟩
      · rw [List.getElem?_append_right (by rw [el]; omega), el, show (i + 1) * 3 - 3 = i * 3 by omega]; exact h1
      · rw [List.getElem?_append_right (by rw [el]; omega), el, show (i + 1) * 3 + 1 - 3 = i * 3 + 1 by omega]; exact h2
      · rw [List.getElem?_append_right (by rw [el]; omega), el, show (i + 1) * 3 + 2 - 3 = i * 3 + 2 by omega]; exact h3
def gV (l : List Pg) (i : Nat) : Int := (l.getD i (0, 0, 0)).1
def gA (l : List Pg) (i : Nat) : Int := (l.getD i (0, 0, 0)).2.1
def gP (l : List Pg) (i : Nat) : Int := (l.getD i (0, 0, 0)).2.2
theorem erase_same (l : List Pg) (i : Nat) : (l.take (i + 1)).eraseIdx i = (l.take i).eraseIdx i := by
  by_cases h : i < l.length
  · rw [List.take_add_one, List.getElem?_eq_getElem h, List.eraseIdx_append_of_length_le (by simp; omega)]
    have e1 : (List.take i l).length = i := by rw [List.length_take]; omega
    rw [e1, Nat.sub_self, List.eraseIdx_of_length_le (l := l.take i) (by omega)]
    simp
  · rw [List.take_of_length_le (by omega), List.take_of_length_le (by omega)]
theorem erase_next (l : List Pg) (i k : Nat) (x : Pg) (h : l[i]? = some x) (hk : i ≠ k) : (l.take (i + 1)).eraseIdx k = (l.take i).eraseIdx k ++ [x] := by
  have hi : i < l.length := (List.getElem?_eq_some_iff.1 h).1
  have e1 : (List.take i l).length = i := by rw [List.length_take]; omega
  rw [List.take_add_one, h]
  by_cases hlt : k < i
  · rw [List.eraseIdx_append_of_lt_length (by omega)]
    rfl
  · rw [List.eraseIdx_append_of_length_le (by omega), List.eraseIdx_of_length_le (l := l.take i) (by omega), e1]
    rw [List.eraseIdx_of_length_le (by simp; omega)]
    rfl
theorem three_new (w : World) (a b c : Value) (t : TypeId) : ∀ j u, [a, b, c][j]? = some u → (w.alloc (.cells #[a, b, c] t)).cell? ((⟨w.heap.size, 0, .none⟩ : Addr).add j) = some u := by
  have e0 : (w.alloc (.cells #[a, b, c] t)).cell? ⟨w.heap.size, 0, .none⟩ = some a := by simp
  have e1 : (w.alloc (.cells #[a, b, c] t)).cell? ⟨w.heap.size, 1, .none⟩ = some b := by simp
  have e2 : (w.alloc (.cells #[a, b, c] t)).cell? ⟨w.heap.size, 2, .none⟩ = some c := by simp
  intro j u hj
  match j, hj with
  | 0, hj => simp only [List.getElem?_cons_zero, Option.some.injEq] at hj; subst hj; exact e0
  | 1, hj => simp only [List.getElem?_cons_succ, List.getElem?_cons_zero, Option.some.injEq] at hj; subst hj; exact e1
  | 2, hj => simp only [List.getElem?_cons_succ, List.getElem?_cons_zero, Option.some.injEq] at hj; subst hj; exact e2
  | j + 3, hj => simp at hj
end Go.Proofs.YtblmkkhiojbcjaaGreat
