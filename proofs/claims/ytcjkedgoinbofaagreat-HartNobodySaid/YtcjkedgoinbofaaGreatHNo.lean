import Derived.Test.YtcjkedgoinbofaaGreatHEq
import Derived.Test.YtcjkedgoinbofaaGreatSTrb
import Derived.Test.YtcjkedgoinbofaaGreatNew
namespace Go.Proofs.YtcjkedgoinbofaaGreat
open Go.RowKit
set_option linter.unusedVariables false
set_option linter.unusedSimpArgs false
/-- Where Translate finds no page the step is given up at its fetch. -/
theorem step_no (q : Option Addr) (root : Int) (X : Nat → Int) (W : World) (hp : 0 ≤ X 32 ∧ X 32 < 18446744073709551616) (pa : Int) (t : Tra W (.pointer q) root (X 32) 1 pa false) :
    Calls Tryz.prog 9 #[.pointer q, .int .u64 root, .agg (rl X).toArray] W fun e w' => e = .returned (.tuple #[.agg (rl (z0 X)).toArray, tr (if X 32 % 4 = 0 then 12 else 0) (X 32)]) ∧ Below W.heap.size W w' := by
  by_cases h : X 32 % 4 = 0
  · rw [if_pos h]
    exact step_up q root 12 (X 32) X W (fun b0 b1 W1 h1 => read_up h1 1 (X 32) 4 12 (X 32) (fun W2 h2 => place_pg h2 1 (X 32) 4 pa (by omega) hp (by omega) h t))
  · rw [if_neg h]
    exact step_up q root 0 (X 32) X W (fun b0 b1 W1 h1 => read_up h1 1 (X 32) 4 0 (X 32) (fun W2 h2 => place_al h2 1 (X 32) 4 (by omega) hp (by omega) h))
theorem tra_unm {W : World} {q : Option Addr} (h : Unm W (.pointer q)) (root va : Int) (hv : 0 ≤ va ∧ va < 18446744073709551616) : Tra W (.pointer q) root va 1 0 false := fun W1 h1 => no_translate (h.below h1) root va 1 hv
theorem ndB_four (nd : Int) : ndB 4 (down (4 - 1)) nd = false := by
  unfold ndB
  refine decide_eq_false ?_
  rintro ⟨_, h1, h2, h3⟩
  exact h3 ((down_mem _ _).2 (by omega))
theorem tra_four {W : World} {p b m : Nat} {B : Nat → Int} (h : Ram W p b m 4 B (down (4 - 1))) (root va : Int) (hr : 0 ≤ root ∧ root < 18446744073709551616) (hv : 0 ≤ va ∧ va < 18446744073709551616) : Tra W (.pointer (some ⟨p, 0, .none⟩)) root va 1 0 false := fun W1 h1 => by
  have c := translate_any (h.below h1) root va 1 hr hv
  have e : look 4 (down (4 - 1)) B root va = ⟨0, 0, 0, 2, 0, 4⟩ := by
    unfold look wk
    rw [ndB_four]
    rfl
  rw [e] at c
  exact c
end Go.Proofs.YtcjkedgoinbofaaGreat
