import Derived.Test.YtncjmlndjnfncaaVo
namespace Go.Proofs.Ytncjmlndjnfncaa
open Go Go.RowKit Go.Shelf Fz
set_option linter.unusedVariables false
set_option linter.unusedSimpArgs false
theorem PgR.keep {W W' : World} {X : Nat} {v : Value} {l : List Pg} (h : PgR W X v l) (hb : ∀ k, X ≤ k → k < W.heap.size → W'.heap[k]? = W.heap[k]?) : PgR W' X v l := by
  refine ⟨h.1, ?_⟩
  rcases h.2 with h1 | ⟨g, cap, cur, h1, h2, h3, h4⟩
  · exact .inl h1
  · exact .inr ⟨g, cap, cur, h1, h2, (hb g h2 (Array.getElem?_eq_some_iff.1 h3).1).trans h3, h4⟩
theorem PgR.base {W : World} {X Y : Nat} {v : Value} {l : List Pg} (h : PgR W Y v l) (hx : X ≤ Y) : PgR W X v l := by
  refine ⟨h.1, ?_⟩
  rcases h.2 with h1 | ⟨g, cap, cur, h1, h2, h3⟩
  · exact .inl h1
  · exact .inr ⟨g, cap, cur, h1, Nat.le_trans hx h2, h3⟩
section
variable {W W' : World} {p b m : Nat}
theorem C3.fra {P : Nat} {x0 x1 x2 : Value} (h : C3 W P x0 x1 x2) (f : Fra p b m W W') (h1 : P ≠ p) (h2 : P ≠ b) (h3 : P ≠ m) : C3 W' P x0 x1 x2 := by
  have hp : P < W.heap.size := lt_of_cell h.c0
  have e := f.block P hp h1 h2 h3
  have ec : ∀ o, W'.cell? ⟨P, o, .none⟩ = W.cell? ⟨P, o, .none⟩ := fun o => by simp only [World.cell?, e]
  have ef : ∀ o, W'.frozen? ⟨P, o, .none⟩ = W.frozen? ⟨P, o, .none⟩ := fun o => by simp only [World.frozen?, e]
  exact ⟨(ec 0).trans h.c0, (ec 1).trans h.c1, (ec 2).trans h.c2, (ef 0).trans h.f0, (ef 1).trans h.f1, (ef 2).trans h.f2⟩
end
def lenOf : Value → Nat
  | .slice _ n _ => n
  | _ => 0
theorem no_of {l : List Pg} {va : Int} {n : Nat} (hn : n = l.length) (h : ∀ i, i < n → gV l i ≠ va) : ∀ x ∈ l, x.1 ≠ va := fun x hx e => by
  obtain ⟨i, hi, he⟩ := List.getElem_of_mem hx
  refine h i (by omega) ?_
  unfold gV
  rw [List.getD_eq_getElem?_getD, List.getElem?_eq_getElem hi, Option.getD_some, he]
  exact e
theorem at_of {l : List Pg} {i : Nat} (hi : i < l.length) : ∃ y, y ∈ l ∧ l[i]? = some y ∧ gV l i = y.1 ∧ gA l i = y.2.1 ∧ gP l i = y.2.2 := by
  refine ⟨l[i], List.getElem_mem hi, List.getElem?_eq_getElem hi, ?_, ?_, ?_⟩
  · unfold gV; rw [List.getD_eq_getElem?_getD, List.getElem?_eq_getElem hi, Option.getD_some]
  · unfold gA; rw [List.getD_eq_getElem?_getD, List.getElem?_eq_getElem hi, Option.getD_some]
  · unfold gP; rw [List.getD_eq_getElem?_getD, List.getElem?_eq_getElem hi, Option.getD_some]
theorem erase_mem {l : List Pg} {i : Nat} {y : Pg} (hp : l.Pairwise (fun a b => a.1 ≠ b.1)) (hi : l[i]? = some y) : ∀ z, z ∈ l.eraseIdx i ↔ z ∈ l ∧ z ≠ y := by
  have hlt : i < l.length := (List.getElem?_eq_some_iff.1 hi).1
  have hy : l[i] = y := (List.getElem?_eq_some_iff.1 hi).2
  have e : l = l.take i ++ y :: l.drop (i + 1) := by rw [← hy, List.getElem_cons_drop, List.take_append_drop]
  have e2 : l.eraseIdx i = l.take i ++ l.drop (i + 1) := List.eraseIdx_eq_take_drop_succ l i
  have hp2 := hp
  rw [e, List.pairwise_append, List.pairwise_cons] at hp2
  intro z
  rw [e2, List.mem_append]
  constructor
  · rintro (h | h)
    · exact ⟨List.mem_of_mem_take h, fun e9 => hp2.2.2 z h y (by simp) (by rw [e9])⟩
    · exact ⟨List.mem_of_mem_drop h, fun e9 => hp2.2.1.1 z h (by rw [e9])⟩
  · rintro ⟨h, hne⟩
    rw [e, List.mem_append, List.mem_cons] at h
    rcases h with h | h | h
    · exact .inl h
    · exact absurd h hne
    · exact .inr h
end Go.Proofs.Ytncjmlndjnfncaa
