import Derived.Test.YtcjkedgoinbofaaGreatHDo
namespace Go.Proofs.YtcjkedgoinbofaaGreat
open Go.RowKit
set_option linter.unusedVariables false
set_option linter.unusedSimpArgs false
theorem ta_yes (c x : Int) (w : World) : (Instr.typeAssert (.iface 37 (.agg #[.bool true, .int .u64 c, .int .u64 x])) 20 37 true).run Tryz.prog w = .ok (.tuple #[.agg #[.bool true, .int .u64 c, .int .u64 x], .bool true]) w := by kernel_rfl
theorem ta_no (w : World) : (Instr.typeAssert .nilIface 20 37 true).run Tryz.prog w = .ok (.tuple #[.agg #[.bool false, .int .u64 0, .int .u64 0], .bool false]) w := by kernel_rfl
set_option maxHeartbeats 1000000 in
set_option maxRecDepth 10000 in
theorem catch_up (T : Nat) (c x : Int) (older : List PanicEntry) (w : World) (x0 x1 x2 : Value) (h0 : w.cell? ⟨T, 0, .none⟩ = some x0) (h1 : w.cell? ⟨T, 1, .none⟩ = some x1) (h2 : w.cell? ⟨T, 2, .none⟩ = some x2) (f0 : w.frozen? ⟨T, 0, .none⟩ = false) (f1 : w.frozen? ⟨T, 1, .none⟩ = false) (f2 : w.frozen? ⟨T, 2, .none⟩ = false) :
    CallsD Tryz.prog 31 #[.pointer (some ⟨T, 0, .none⟩)] (.panicking ({ v := .iface 37 (tr c x), recovered := false } :: older)) w fun e u' w' =>
      e = .returned (.tuple #[]) ∧ u' = .panicking ({ v := .iface 37 (tr c x), recovered := true } :: older) ∧ w' = (((w.alloc (.cells #[.bool true, .int .u64 c, .int .u64 x] 37)).setCell ⟨T, 0, .none⟩ (.bool true)).setCell ⟨T, 1, .none⟩ (.int .u64 c)).setCell ⟨T, 2, .none⟩ (.int .u64 x) := by
  have hlt : T < w.heap.size := lt_of_cell h0
  have a0 := (Below.cell (below1 w (.cells #[.bool true, .int .u64 c, .int .u64 x] 37)) (p := ⟨T, 0, .none⟩) hlt).trans h0
  have a1 := (Below.cell (below1 w (.cells #[.bool true, .int .u64 c, .int .u64 x] 37)) (p := ⟨T, 1, .none⟩) hlt).trans h1
  have a2 := (Below.cell (below1 w (.cells #[.bool true, .int .u64 c, .int .u64 x] 37)) (p := ⟨T, 2, .none⟩) hlt).trans h2
  have g0 := (Below.frozen (below1 w (.cells #[.bool true, .int .u64 c, .int .u64 x] 37)) (p := ⟨T, 0, .none⟩) hlt).trans f0
  have g1 := (Below.frozen (below1 w (.cells #[.bool true, .int .u64 c, .int .u64 x] 37)) (p := ⟨T, 1, .none⟩) hlt).trans f1
  have g2 := (Below.frozen (below1 w (.cells #[.bool true, .int .u64 c, .int .u64 x] 37)) (p := ⟨T, 2, .none⟩) hlt).trans f2
  refine callsD_of_wpS Tryz.func31 rfl fun c₀ cs hu => ?_
  apply wpS_seq
  apply wpS_region
  simp [wpOpsS, go_sem, recoverD, hu, Tryz.ntmps31, Exit.thenS, tr, ta_yes, Array.replicate]
  apply wpS_seq
  apply wpS_region
  simp [wpOpsS, go_sem, Exit.thenS]
  refine wpS_cond (t := true) (by simp [Act.eval]) ?_
  simp only [if_true]
  apply wpS_region
  have j0 : (w.alloc (.cells #[.bool true, .int .u64 c, .int .u64 x] 37)).cell? ⟨w.heap.size, 0, .none⟩ = some (.bool true) := (World.cell?_alloc_at _ _ _ _ rfl)
  have j1 : (w.alloc (.cells #[.bool true, .int .u64 c, .int .u64 x] 37)).cell? ⟨w.heap.size, 1, .none⟩ = some (.int .u64 c) := (World.cell?_alloc_at _ _ _ _ rfl)
  have j2 : (w.alloc (.cells #[.bool true, .int .u64 c, .int .u64 x] 37)).cell? ⟨w.heap.size, 2, .none⟩ = some (.int .u64 x) := (World.cell?_alloc_at _ _ _ _ rfl)
  generalize w.alloc (.cells #[.bool true, .int .u64 c, .int .u64 x] 37) = V at *
  simp [wpOpsS, go_sem, a0, a1, a2, g0, g1, g2, j0, j1, j2, bodyPostS, results, Tryz.results31]
theorem catch_idle (T : Nat) (w : World) : CallsD Tryz.prog 31 #[.pointer (some ⟨T, 0, .none⟩)] .returning w fun e u' w' => e = .returned (.tuple #[]) ∧ u' = .returning ∧ w' = w.alloc (.cells #[.bool false, .int .u64 0, .int .u64 0] 37) := by
  refine callsD_of_wpS Tryz.func31 rfl fun c₀ cs hu => ?_
  apply wpS_seq
  apply wpS_region
  simp [wpOpsS, go_sem, recoverD, hu, Tryz.ntmps31, Exit.thenS, ta_no, Array.replicate]
  apply wpS_seq
  apply wpS_region
  simp [wpOpsS, go_sem, Exit.thenS]
  refine wpS_cond (t := false) (by simp [Act.eval]) ?_
  simp only [Bool.false_eq_true, if_false]
  refine wpS_of_wp (wp_skip ?_)
  cases c₀
  simp_all [bodyPostS, results, Tryz.results31]
end Go.Proofs.YtcjkedgoinbofaaGreat
