import Derived.Test.YtblmkkhiojbcjaaGreatSWalk
import Derived.RangeFuncNested
import Derived.RangeFuncBound
import Derived.RangeFuncCalls
import Derived.RangeFuncLeaves
import Derived.RangeFuncFrom
import Derived.Shelf.Abstract
import Derived.Shelf.RegionOpen
import Derived.OwnWalkIn
import Derived.TacticsInMore
import Derived.LoopNIn
import Derived.LoopIn
namespace Go.Proofs.YtblmkkhiojbcjaaGreat
open Go.RowKit Go.Shelf
attribute [local go_sem] Oper.semAt_some
set_option linter.unusedVariables false
set_option linter.unusedSimpArgs false
section
variable {w : World} {v : Value}
theorem no_nodes (h : Unm w v) (root : Int) : Calls Tryz.prog 59 #[v, .int .u64 root] w fun e w' => e = .returned (.slice .none 0 0) ∧ w' = w := by
  have c := no_isNode h root
  clear h
  refine (callsIn_wide (n := 3)).1 ?_
  refine callsIn_of_wp_marks Tryz.func59 rfl trivial ?_ rfl
  simp only [Tryz.ntmps59, List.size_toArray, List.length_cons, List.length_nil, Nat.reduceAdd, Nat.reduceSub, Array.replicate_succ, Array.replicate_zero, List.push_toArray, List.append_toArray, List.nil_append, List.cons_append]
  gi_wp2_with (first | (refine ⟨trivial, ?_⟩; gi_at_call 93; refine (callsIn_wide.2 c).mono ?_; rintro e w0 ⟨rfl, rfl⟩))
  exact ⟨.slice .none 0 0, by simp [results, Tryz.results59, go_sem], rfl, rfl⟩
theorem no_free (h : Unm w v) (root : Int) : Calls Tryz.prog 104 #[v, .int .u64 root] w fun e w' => e = .returned (.int .i64 3) ∧ Below w.heap.size w w' := by
  have c := no_isMade (h.alloc (.cells #[.int .i64 0] 29))
  clear h
  refine (callsIn_wide (n := 3)).1 ?_
  refine callsIn_of_wp_marks Tryz.func104 rfl trivial ?_ rfl
  simp only [Tryz.ntmps104, List.size_toArray, List.length_cons, List.length_nil, Nat.reduceAdd, Nat.reduceSub, Array.replicate_succ, Array.replicate_zero, List.push_toArray, List.append_toArray, List.nil_append, List.cons_append]
  gi_wp2_with (first | (refine ⟨trivial, ?_⟩; gi_at_call 111; refine (callsIn_wide.2 c).mono ?_; rintro e w0 ⟨rfl, rfl⟩))
  exact ⟨.int .i64 3, by simp [results, Tryz.results104, go_sem], rfl, below1 _ _⟩
end
end Go.Proofs.YtblmkkhiojbcjaaGreat
