import Derived.Test.YtblmkkhiojbcjaaGreatSPure
namespace Go.Proofs.YtblmkkhiojbcjaaGreat
open Go.RowKit
set_option linter.unusedVariables false
set_option linter.unusedSimpArgs false
/-- A path: where its entries stand, its level, its last entry and that one's kind. -/
def pth (a0 a1 a2 l e k : Int) : Value := .agg #[.int .u64 a0, .int .u64 a1, .int .u64 a2, .int .i64 l, .int .u64 e, .int .i64 k]
theorem below1 (w : World) (o : Obj) : Below w.heap.size w (w.alloc o) := (Below.refl w.heap.size w).alloc (Nat.le_refl _) o
theorem below2 (w : World) (o o1 : Obj) : Below w.heap.size w ((w.alloc o).alloc o1) := (below1 w o).alloc (by simp) o1
theorem below3 (w : World) (o o1 o2 : Obj) : Below w.heap.size w (((w.alloc o).alloc o1).alloc o2) := (below2 w o o1).alloc (by simp only [World.size_alloc]; omega) o2
section
variable {w : World} {v : Value}
set_option maxHeartbeats 1000000 in
theorem no_walk (h : Unm w v) (root va : Int) (hv : 0 ≤ va ∧ va < 18446744073709551616) : Calls Tryz.prog 102 #[v, .int .u64 root, .int .u64 va, .agg #[]] w fun e w' => e = .returned (pth 0 0 0 2 0 4) ∧ Below w.heap.size w w' := by
  have c1 := index_any va 2 hv (by omega)
  have hu : Hid (Unm _ v) := ((h.alloc (.cells #[] 138)).alloc (.cells #[.int .u64 0, .int .u64 0, .int .u64 0, .int .i64 0, .int .u64 0, .int .i64 0] 131)).alloc (.cells #[.int .u64 0, .int .u64 0, .int .u64 0, .int .i64 2, .int .u64 0, .int .i64 0] 131)
  clear h
  go_enter Tryz.func102, Tryz.ntmps102
  go_wp2
  go_step3
  go_wp2
  go_step3
  go_wp2
  refine wp_loop_rounds 1 ?_
  rw [rounds_succ]
  go_wp2_with (first | (go_at_call 137; refine (c1 _).mono ?_; rintro e w0 ⟨rfl, rfl⟩) | (go_at_call 118; refine (no_load hu.out _ 8).mono ?_; rintro e w0 ⟨rfl, rfl⟩))
  rw [Exit.noGoto_ret]
  refine bodyPost_ret (v := pth 0 0 0 2 0 4) (by simp [results, Tryz.results102, go_sem, pth]) rfl ⟨rfl, ?_⟩
  exact below3 _ _ _ _
set_option maxHeartbeats 1000000 in
theorem no_walkT (h : Unm w v) (root va : Int) (t : Value) (hv : 0 ≤ va ∧ va < 18446744073709551616) : Calls Tryz.prog 144 #[v, .int .u64 root, .int .u64 va, t] w fun e w' => e = .returned (pth 0 0 0 2 0 4) ∧ Below w.heap.size w w' := by
  have c1 := index_any va 2 hv (by omega)
  have hu : Hid (Unm _ v) := (h.alloc (.cells #[.int .u64 0, .int .u64 0, .int .u64 0, .int .i64 0, .int .u64 0, .int .i64 0] 131)).alloc (.cells #[.int .u64 0, .int .u64 0, .int .u64 0, .int .i64 2, .int .u64 0, .int .i64 0] 131)
  clear h
  go_enter Tryz.func144, Tryz.ntmps144
  go_wp2
  go_step3
  go_wp2
  go_step3
  go_wp2
  refine wp_loop_rounds 1 ?_
  rw [rounds_succ]
  go_wp2_with (first | (go_at_call 137; refine (c1 _).mono ?_; rintro e w0 ⟨rfl, rfl⟩) | (go_at_call 118; refine (no_load hu.out _ 8).mono ?_; rintro e w0 ⟨rfl, rfl⟩))
  rw [Exit.noGoto_ret]
  refine bodyPost_ret (v := pth 0 0 0 2 0 4) (by simp [results, Tryz.results144, go_sem, pth]) rfl ⟨rfl, ?_⟩
  exact below2 _ _ _
theorem no_new (h : Unm w v) : Calls Tryz.prog 109 #[v] w fun e w' => e = .returned (.tuple #[.int .u64 0, .int .i64 3]) ∧ w' = w := by
  have c := no_isMade h
  clear h
  go_enter Tryz.func109, Tryz.ntmps109
  go_wp2_with (go_at_call 111; refine c.mono ?_; rintro e w0 ⟨rfl, rfl⟩)
  go_ret2
  exact ⟨rfl, rfl⟩
theorem no_unmap (h : Unm w v) (root va : Int) : Calls Tryz.prog 88 #[v, .int .u64 root, .int .u64 va] w fun e w' => e = .returned (.tuple #[.int .u64 0, .int .i64 3]) ∧ Below w.heap.size w w' := by
  have c := no_isMade h
  clear h
  go_enter Tryz.func88, Tryz.ntmps88
  go_wp2_with (go_at_call 111; refine c.mono ?_; rintro e w0 ⟨rfl, rfl⟩)
  go_ret2
  exact ⟨rfl, Below.refl _ _⟩
theorem no_entry (h : Unm w v) (root va : Int) (hv : 0 ≤ va ∧ va < 18446744073709551616) : Calls Tryz.prog 67 #[v, .int .u64 root, .int .u64 va] w fun e w' => e = .returned (.tuple #[.int .u64 0, .int .i64 0, .bool false]) ∧ Below w.heap.size w w' := by
  have c := no_walk h root va hv
  clear h
  go_enter Tryz.func67, Tryz.ntmps67
  go_wp2_with (go_at_call 102; refine c.mono ?_; rintro e w0 ⟨rfl, hb⟩; simp only [pth])
  go_ret3
  exact ⟨rfl, hb.trans ((below1 _ _).mono hb.size)⟩
theorem no_translate (h : Unm w v) (root va a : Int) (hv : 0 ≤ va ∧ va < 18446744073709551616) : Calls Tryz.prog 66 #[v, .int .u64 root, .int .u64 va, .int .i64 a] w fun e w' => e = .returned (.tuple #[.int .u64 0, .bool false]) ∧ Below w.heap.size w w' := by
  have c := no_entry h root va hv
  clear h
  go_enter Tryz.func66, Tryz.ntmps66
  go_wp2_with (go_at_call 67; refine c.mono ?_; rintro e w0 ⟨rfl, hb⟩)
  go_ret2
  exact ⟨rfl, hb⟩
theorem no_map (h : Unm w v) (root va pa perm : Int) (hv : 0 ≤ va ∧ va < 18446744073709551616) : Calls Tryz.prog 86 #[v, .int .u64 root, .int .u64 va, .int .u64 pa, .int .u64 perm] w fun e w' => e = .returned (.int .i64 3) ∧ Below w.heap.size w w' := by
  have c := no_walk h root va hv
  go_enter Tryz.func86, Tryz.ntmps86
  go_wp2_with (first | (go_at_call 102; refine c.mono ?_; rintro e w0 ⟨rfl, hb⟩; simp only [pth]) | (go_at_call 111; refine (no_isMade ((h.below hb).alloc _)).mono ?_; rintro e w1 ⟨rfl, rfl⟩))
  go_ret
  exact ⟨rfl, hb.trans ((below1 _ _).mono hb.size)⟩
end
end Go.Proofs.YtblmkkhiojbcjaaGreat
