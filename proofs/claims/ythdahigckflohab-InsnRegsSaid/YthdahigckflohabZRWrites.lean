import Derived.Test.YthdahigckflohabZRReads
namespace Go.Proofs.Ythdahigckflohab
open Go.RowKit
set_option linter.unusedVariables false
set_option linter.unusedSimpArgs false
theorem field98_0 (x0 x1 x2 x3 x4 : Value) (w : World) : (Instr.field 98 (.agg #[x0, x1, x2, x3, x4]) 0).run Try.prog w = .ok x0 w := by kernel_rfl
attribute [local go_sem] field98_0
set_option maxHeartbeats 2000000 in
set_option maxRecDepth 100000 in
theorem rwrites_n (op rd rs1 rs2 imm csr x s : Int) (nm : ByteArray) (f1 f2 f3 f4 : Int) (ok q2 q3 q4 q5 : Bool) (w : World)
    (c1 : ∀ w, Calls Try.prog 72 #[.agg #[.int .i64 op, .int .i64 rd, .int .i64 rs1, .int .i64 rs2, .int .i64 imm, .int .i64 csr]] w fun e w' => e = .returned (.tuple #[.int .i64 x, .int .i64 0]) ∧ Below w.heap.size w w')
    (c2 : ∀ w, Calls Try.prog 73 #[.int .i64 op] w fun e w' => e = .returned (.tuple #[.agg #[.string nm, .int .i64 s, .int .i64 f1, .int .i64 f2, .int .i64 f3, .int .u32 f4], .bool ok]) ∧ Below w.heap.size w w')
    (c3 : ∀ w, Calls Try.prog 74 #[.int .i64 s] w fun e w' => e = .returned (.agg #[.bool false, .bool q2, .bool q3, .bool q4, .bool q5]) ∧ Below w.heap.size w w')  :
    Calls Try.prog 32 #[.agg #[.int .i64 op, .int .i64 rd, .int .i64 rs1, .int .i64 rs2, .int .i64 imm, .int .i64 csr]] w fun e w' => e = .returned (.int .i64 0) ∧ Below w.heap.size w w' := by
  go_enter Try.func32, Try.ntmps32
  go_wp2_with fail
  refine (c1 _).mono ?_
  rintro e w1 ⟨rfl, hb1⟩
  clear c1
  have z1 := hb1.size
  simp only [World.size_alloc] at z1
  have K1 : Hid (Row6 w1 w.heap.size (.int .i64 op) (.int .i64 rd) (.int .i64 rs1) (.int .i64 rs2) (.int .i64 imm) (.int .i64 csr)) := row6_keep hb1 (by simp only [World.size_alloc]; omega) (row6_new w (.int .i64 op) (.int .i64 rd) (.int .i64 rs1) (.int .i64 rs2) (.int .i64 imm) (.int .i64 csr) 49)
  have HB1 : Hid (Below w.heap.size w w1) := (below_past _ _).trans (hb1.mono (by simp only [World.size_alloc]; omega))
  have y1 : w.heap.size < w1.heap.size := by omega
  have k0 := K1.out.1
  clear hb1
  go_wp2_with fail
  clear k0
  refine (c2 _).mono ?_
  rintro e w2 ⟨rfl, hb2⟩
  clear c2
  have z2 := hb2.size
  have K2 : Hid (Row6 w2 w.heap.size (.int .i64 op) (.int .i64 rd) (.int .i64 rs1) (.int .i64 rs2) (.int .i64 imm) (.int .i64 csr)) := row6_keep hb2 y1 K1.out
  have HB2 : Hid (Below w.heap.size w w2) := bseq HB1.out hb2
  clear hb2 K1 HB1
  go_wp2_with fail
  refine (c3 _).mono ?_
  rintro e w3 ⟨rfl, hb3⟩
  clear c3
  have z3 := hb3.size
  simp only [World.size_alloc] at z3
  have ks := cell_keep hb3 (by simp only [World.size_alloc]; omega) (show (w2.alloc (.cells #[.string nm, .int .i64 s, .int .i64 f1, .int .i64 f2, .int .i64 f3, .int .u32 f4] 94)).cell? ⟨w2.heap.size, 1, .none⟩ = some (.int .i64 s) by simp)
  have kp := below_past w2 (.cells #[.string nm, .int .i64 s, .int .i64 f1, .int .i64 f2, .int .i64 f3, .int .u32 f4] 94)
  obtain ⟨m0, m1, m2, m3, m4, m5⟩ := row6_keep (bseq kp hb3) (by omega) K2.out
  have HB3 : Hid (Below w.heap.size w w3) := bseq HB2.out (bseq kp hb3)
  have y3 : w.heap.size < w3.heap.size := by omega
  have x3 : w2.heap.size < w3.heap.size := by omega
  clear hb3 K2 HB2 kp
  go_wp2
  go_ret
  exact ⟨rfl, HB3.out⟩
set_option maxHeartbeats 2000000 in
set_option maxRecDepth 100000 in
theorem rwrites_f (op rd rs1 rs2 imm csr x s : Int) (nm : ByteArray) (f1 f2 f3 f4 : Int) (ok q2 q3 q4 q5 : Bool) (w : World)
    (c1 : ∀ w, Calls Try.prog 72 #[.agg #[.int .i64 op, .int .i64 rd, .int .i64 rs1, .int .i64 rs2, .int .i64 imm, .int .i64 csr]] w fun e w' => e = .returned (.tuple #[.int .i64 x, .int .i64 0]) ∧ Below w.heap.size w w')
    (c2 : ∀ w, Calls Try.prog 73 #[.int .i64 op] w fun e w' => e = .returned (.tuple #[.agg #[.string nm, .int .i64 s, .int .i64 f1, .int .i64 f2, .int .i64 f3, .int .u32 f4], .bool ok]) ∧ Below w.heap.size w w')
    (c3 : ∀ w, Calls Try.prog 74 #[.int .i64 s] w fun e w' => e = .returned (.agg #[.bool true, .bool q2, .bool q3, .bool q4, .bool q5]) ∧ Below w.heap.size w w') (hs : s = 10) :
    Calls Try.prog 32 #[.agg #[.int .i64 op, .int .i64 rd, .int .i64 rs1, .int .i64 rs2, .int .i64 imm, .int .i64 csr]] w fun e w' => e = .returned (.int .i64 0) ∧ Below w.heap.size w w' := by
  subst hs
  go_enter Try.func32, Try.ntmps32
  go_wp2_with fail
  refine (c1 _).mono ?_
  rintro e w1 ⟨rfl, hb1⟩
  clear c1
  have z1 := hb1.size
  simp only [World.size_alloc] at z1
  have K1 : Hid (Row6 w1 w.heap.size (.int .i64 op) (.int .i64 rd) (.int .i64 rs1) (.int .i64 rs2) (.int .i64 imm) (.int .i64 csr)) := row6_keep hb1 (by simp only [World.size_alloc]; omega) (row6_new w (.int .i64 op) (.int .i64 rd) (.int .i64 rs1) (.int .i64 rs2) (.int .i64 imm) (.int .i64 csr) 49)
  have HB1 : Hid (Below w.heap.size w w1) := (below_past _ _).trans (hb1.mono (by simp only [World.size_alloc]; omega))
  have y1 : w.heap.size < w1.heap.size := by omega
  have k0 := K1.out.1
  clear hb1
  go_wp2_with fail
  clear k0
  refine (c2 _).mono ?_
  rintro e w2 ⟨rfl, hb2⟩
  clear c2
  have z2 := hb2.size
  have K2 : Hid (Row6 w2 w.heap.size (.int .i64 op) (.int .i64 rd) (.int .i64 rs1) (.int .i64 rs2) (.int .i64 imm) (.int .i64 csr)) := row6_keep hb2 y1 K1.out
  have HB2 : Hid (Below w.heap.size w w2) := bseq HB1.out hb2
  clear hb2 K1 HB1
  go_wp2_with fail
  refine (c3 _).mono ?_
  rintro e w3 ⟨rfl, hb3⟩
  clear c3
  have z3 := hb3.size
  simp only [World.size_alloc] at z3
  have ks := cell_keep hb3 (by simp only [World.size_alloc]; omega) (show (w2.alloc (.cells #[.string nm, .int .i64 10, .int .i64 f1, .int .i64 f2, .int .i64 f3, .int .u32 f4] 94)).cell? ⟨w2.heap.size, 1, .none⟩ = some (.int .i64 10) by simp)
  have kp := below_past w2 (.cells #[.string nm, .int .i64 10, .int .i64 f1, .int .i64 f2, .int .i64 f3, .int .u32 f4] 94)
  obtain ⟨m0, m1, m2, m3, m4, m5⟩ := row6_keep (bseq kp hb3) (by omega) K2.out
  have HB3 : Hid (Below w.heap.size w w3) := bseq HB2.out (bseq kp hb3)
  have y3 : w.heap.size < w3.heap.size := by omega
  have x3 : w2.heap.size < w3.heap.size := by omega
  clear hb3 K2 HB2 kp
  go_wp2
  go_ret
  exact ⟨rfl, HB3.out⟩
set_option maxHeartbeats 2000000 in
set_option maxRecDepth 100000 in
theorem rwrites_t (op rd rs1 rs2 imm csr x s : Int) (nm : ByteArray) (f1 f2 f3 f4 : Int) (ok q2 q3 q4 q5 : Bool) (w : World)
    (c1 : ∀ w, Calls Try.prog 72 #[.agg #[.int .i64 op, .int .i64 rd, .int .i64 rs1, .int .i64 rs2, .int .i64 imm, .int .i64 csr]] w fun e w' => e = .returned (.tuple #[.int .i64 x, .int .i64 0]) ∧ Below w.heap.size w w')
    (c2 : ∀ w, Calls Try.prog 73 #[.int .i64 op] w fun e w' => e = .returned (.tuple #[.agg #[.string nm, .int .i64 s, .int .i64 f1, .int .i64 f2, .int .i64 f3, .int .u32 f4], .bool ok]) ∧ Below w.heap.size w w')
    (c3 : ∀ w, Calls Try.prog 74 #[.int .i64 s] w fun e w' => e = .returned (.agg #[.bool true, .bool q2, .bool q3, .bool q4, .bool q5]) ∧ Below w.heap.size w w') (hs : s ≠ 10) :
    Calls Try.prog 32 #[.agg #[.int .i64 op, .int .i64 rd, .int .i64 rs1, .int .i64 rs2, .int .i64 imm, .int .i64 csr]] w fun e w' => e = .returned (.int .i64 rd) ∧ Below w.heap.size w w' := by
  have gs : (s != 10) = true := by rw [bne_iff_ne]; exact hs
  clear hs
  go_enter Try.func32, Try.ntmps32
  go_wp2_with fail
  refine (c1 _).mono ?_
  rintro e w1 ⟨rfl, hb1⟩
  clear c1
  have z1 := hb1.size
  simp only [World.size_alloc] at z1
  have K1 : Hid (Row6 w1 w.heap.size (.int .i64 op) (.int .i64 rd) (.int .i64 rs1) (.int .i64 rs2) (.int .i64 imm) (.int .i64 csr)) := row6_keep hb1 (by simp only [World.size_alloc]; omega) (row6_new w (.int .i64 op) (.int .i64 rd) (.int .i64 rs1) (.int .i64 rs2) (.int .i64 imm) (.int .i64 csr) 49)
  have HB1 : Hid (Below w.heap.size w w1) := (below_past _ _).trans (hb1.mono (by simp only [World.size_alloc]; omega))
  have y1 : w.heap.size < w1.heap.size := by omega
  have k0 := K1.out.1
  clear hb1
  go_wp2_with fail
  clear k0
  refine (c2 _).mono ?_
  rintro e w2 ⟨rfl, hb2⟩
  clear c2
  have z2 := hb2.size
  have K2 : Hid (Row6 w2 w.heap.size (.int .i64 op) (.int .i64 rd) (.int .i64 rs1) (.int .i64 rs2) (.int .i64 imm) (.int .i64 csr)) := row6_keep hb2 y1 K1.out
  have HB2 : Hid (Below w.heap.size w w2) := bseq HB1.out hb2
  clear hb2 K1 HB1
  go_wp2_with fail
  refine (c3 _).mono ?_
  rintro e w3 ⟨rfl, hb3⟩
  clear c3
  have z3 := hb3.size
  simp only [World.size_alloc] at z3
  have ks := cell_keep hb3 (by simp only [World.size_alloc]; omega) (show (w2.alloc (.cells #[.string nm, .int .i64 s, .int .i64 f1, .int .i64 f2, .int .i64 f3, .int .u32 f4] 94)).cell? ⟨w2.heap.size, 1, .none⟩ = some (.int .i64 s) by simp)
  have kp := below_past w2 (.cells #[.string nm, .int .i64 s, .int .i64 f1, .int .i64 f2, .int .i64 f3, .int .u32 f4] 94)
  obtain ⟨m0, m1, m2, m3, m4, m5⟩ := row6_keep (bseq kp hb3) (by omega) K2.out
  have HB3 : Hid (Below w.heap.size w w3) := bseq HB2.out (bseq kp hb3)
  have y3 : w.heap.size < w3.heap.size := by omega
  have x3 : w2.heap.size < w3.heap.size := by omega
  clear hb3 K2 HB2 kp
  go_wp2
  go_ret
  exact ⟨rfl, HB3.out⟩
set_option maxHeartbeats 1000000 in
theorem rwrites_bad (op rd rs1 rs2 imm csr x r : Int) (w : World) (hr : r ≠ 0) (c1 : ∀ w, Calls Try.prog 72 #[.agg #[.int .i64 op, .int .i64 rd, .int .i64 rs1, .int .i64 rs2, .int .i64 imm, .int .i64 csr]] w fun e w' => e = .returned (.tuple #[.int .i64 x, .int .i64 r]) ∧ Below w.heap.size w w') :
    Calls Try.prog 32 #[.agg #[.int .i64 op, .int .i64 rd, .int .i64 rs1, .int .i64 rs2, .int .i64 imm, .int .i64 csr]] w fun e w' => e = .returned (.int .i64 0) ∧ Below w.heap.size w w' := by
  have g : (r != 0) = true := by rw [bne_iff_ne]; exact hr
  clear hr
  go_enter Try.func32, Try.ntmps32
  go_wp2_with fail
  refine (c1 _).mono ?_
  rintro e w1 ⟨rfl, hb1⟩
  have HB1 : Hid (Below w.heap.size w w1) := (below_past _ _).trans (hb1.mono (by simp only [World.size_alloc]; omega))
  clear hb1 c1
  go_wp2
  go_ret
  exact ⟨rfl, HB1.out⟩
set_option maxHeartbeats 1000000 in
theorem rreads_bad (op rd rs1 rs2 imm csr x r : Int) (w : World) (hr : r ≠ 0) (c1 : ∀ w, Calls Try.prog 72 #[.agg #[.int .i64 op, .int .i64 rd, .int .i64 rs1, .int .i64 rs2, .int .i64 imm, .int .i64 csr]] w fun e w' => e = .returned (.tuple #[.int .i64 x, .int .i64 r]) ∧ Below w.heap.size w w') :
    Calls Try.prog 28 #[.agg #[.int .i64 op, .int .i64 rd, .int .i64 rs1, .int .i64 rs2, .int .i64 imm, .int .i64 csr]] w fun e w' => Gives w w' e [] := by
  have g : (r != 0) = true := by rw [bne_iff_ne]; exact hr
  clear hr
  go_enter Try.func28, Try.ntmps28
  go_wp2_with fail
  refine (c1 _).mono ?_
  rintro e w1 ⟨rfl, hb1⟩
  have HB1 : Hid (Below w.heap.size w w1) := (below_past _ _).trans (hb1.mono (by simp only [World.size_alloc]; omega))
  clear hb1 c1
  go_wp2
  go_ret
  exact ⟨⟨_, _, rfl, World.ownsRow_nil _ _ _ _⟩, HB1.out⟩
/-- What a valid instruction's registers are. -/
theorem valid_regs (op rd rs1 rs2 imm csr : Int) (h : (refuse op rd rs1 rs2 imm csr).2 = 0) : sh op ≠ 0 ∧ (hRd (sh op) = false → rd = 0) ∧ (0 ≤ rs1) ∧ (hRs1 (sh op) = false → rs1 = 0) ∧ (0 ≤ rs2) ∧ (hRs2 (sh op) = false → rs2 = 0) := by
  have hs := ((refuse_none op rd rs1 rs2 imm csr).1 h).1
  rw [refuse_eq op rd rs1 rs2 imm csr hs] at h
  refine ⟨hs, ?_⟩
  by_cases h1 : fieldB (hRd (sh op)) rd 31 = false
  · rw [if_pos h1] at h; cases h
  rw [if_neg h1] at h
  by_cases h2 : fieldB (hRs1 (sh op)) rs1 31 = false
  · rw [if_pos h2] at h; cases h
  rw [if_neg h2] at h
  by_cases h3 : fieldB (hRs2 (sh op)) rs2 31 = false
  · rw [if_pos h3] at h; cases h
  clear h
  unfold fieldB at h1 h2 h3
  refine ⟨fun q => ?_, ?_, fun q => ?_, ?_, fun q => ?_⟩
  · rw [q] at h1; simpa using h1
  · cases q : hRs1 (sh op) <;> rw [q] at h2 <;> simp at h2 <;> omega
  · rw [q] at h2; simpa using h2
  · cases q : hRs2 (sh op) <;> rw [q] at h3 <;> simp at h3 <;> omega
  · rw [q] at h3; simpa using h3
theorem rwrites_any (op rd rs1 rs2 imm csr : Int) (w : World) :
    Calls Try.prog 32 #[.agg #[.int .i64 op, .int .i64 rd, .int .i64 rs1, .int .i64 rs2, .int .i64 imm, .int .i64 csr]] w fun e w' => e = .returned (.int .i64 (if uses op rd rs1 rs2 imm csr then rd else 0)) ∧ Below w.heap.size w w' := by
  have c1 := refuse_any op rd rs1 rs2 imm csr
  by_cases h : (refuse op rd rs1 rs2 imm csr).2 = 0
  · obtain ⟨hs, v1, _, _, _, _⟩ := valid_regs op rd rs1 rs2 imm csr h
    have b := sh_bd op
    have c2 := row_any op
    rw [rsh_eq] at c2
    have c3 := fun w => has_any (sh op) w (by omega) b.2
    rw [h] at c1
    cases q : hRd (sh op) with
    | false =>
      rw [q] at c3
      have e : (if uses op rd rs1 rs2 imm csr then rd else 0) = 0 := by rw [v1 q]; simp
      rw [e]
      exact rwrites_n _ _ _ _ _ _ _ _ _ _ _ _ _ _ _ _ _ _ w c1 c2 c3
    | true =>
      rw [q] at c3
      by_cases h10 : sh op = 10
      · have e : uses op rd rs1 rs2 imm csr = false := by simp [uses, h10]
        rw [e]
        exact rwrites_f _ _ _ _ _ _ _ _ _ _ _ _ _ _ _ _ _ _ w c1 c2 c3 h10
      · have e : uses op rd rs1 rs2 imm csr = true := by simp [uses, h10, h]
        rw [e]
        exact rwrites_t _ _ _ _ _ _ _ _ _ _ _ _ _ _ _ _ _ _ w c1 c2 c3 h10
  · have e : uses op rd rs1 rs2 imm csr = false := by simp [uses, h]
    rw [e]
    exact rwrites_bad _ _ _ _ _ _ _ _ w h c1
theorem rreads_any (op rd rs1 rs2 imm csr : Int) (w : World) :
    Calls Try.prog 28 #[.agg #[.int .i64 op, .int .i64 rd, .int .i64 rs1, .int .i64 rs2, .int .i64 imm, .int .i64 csr]] w fun e w' => Gives w w' e (if uses op rd rs1 rs2 imm csr then rl rs1 rs2 else []) := by
  have c1 := refuse_any op rd rs1 rs2 imm csr
  by_cases h : (refuse op rd rs1 rs2 imm csr).2 = 0
  · obtain ⟨hs, _, p1, v1, p2, v2⟩ := valid_regs op rd rs1 rs2 imm csr h
    have b := sh_bd op
    have c2 := row_any op
    rw [rsh_eq] at c2
    have c3 := fun w => has_any (sh op) w (by omega) b.2
    rw [h] at c1
    have hq : hRs1 (sh op) = false → hRs2 (sh op) = false := by
      unfold hRs1 hRs2
      intro q
      simp only [Bool.not_eq_false', decide_eq_true_eq] at q
      rw [decide_eq_false_iff_not]
      omega
    have hq10 : sh op = 10 → hRs1 (sh op) = true ∧ hRs2 (sh op) = false := fun q => by rw [q]; exact ⟨rfl, rfl⟩
    cases q1 : hRs1 (sh op) with
    | false =>
      have q2 := hq q1
      rw [q1, q2] at c3
      have e : (if uses op rd rs1 rs2 imm csr then rl rs1 rs2 else []) = [] := by rw [v1 q1, v2 q2]; simp [rl]
      rw [e]
      exact rreads_n _ _ _ _ _ _ _ _ _ _ _ _ _ _ _ _ _ w c1 c2 c3
    | true =>
      by_cases h10 : sh op = 10
      · have e : uses op rd rs1 rs2 imm csr = false := by simp [uses, h10]
        rw [q1, (hq10 h10).2] at c3
        rw [e]
        exact rreads_f _ _ _ _ _ _ _ _ _ _ _ _ _ _ _ _ _ w c1 c2 c3 h10
      · have e : uses op rd rs1 rs2 imm csr = true := by simp [uses, h10, h]
        rw [e]
        simp only [if_true]
        cases q2 : hRs2 (sh op) with
        | false =>
          rw [q1, q2] at c3
          by_cases z : rs1 = 0
          · have e2 : rl rs1 rs2 = [] := by rw [v2 q2, z]; rfl
            rw [e2]
            exact rreads_a0 _ _ _ _ _ _ _ _ _ _ _ _ _ _ _ _ _ w c1 c2 c3 h10 z
          · have e2 : rl rs1 rs2 = [rs1] := by
              rw [v2 q2]; unfold rl
              rw [if_neg (by omega), if_neg z, if_pos rfl]
            rw [e2]
            exact rreads_a1 _ _ _ _ _ _ _ _ _ _ _ _ _ _ _ _ _ w c1 c2 c3 h10 (by omega)
        | true =>
          rw [q1, q2] at c3
          unfold rl
          by_cases h1 : rs1 < rs2
          · rw [if_pos h1]
            by_cases h2 : rs1 = 0
            · rw [if_pos h2]; exact rreads_b1 _ _ _ _ _ _ _ _ _ _ _ _ _ _ _ _ _ w c1 c2 c3 h10 p1 p2 h1 h2
            · rw [if_neg h2]; exact rreads_b2 _ _ _ _ _ _ _ _ _ _ _ _ _ _ _ _ _ w c1 c2 c3 h10 p1 p2 h1 h2
          · rw [if_neg h1]
            by_cases h3 : rs1 = rs2
            · rw [if_pos h3]
              by_cases h2 : rs1 = 0
              · rw [if_pos h2]; exact rreads_b3 _ _ _ _ _ _ _ _ _ _ _ _ _ _ _ _ _ w c1 c2 c3 h10 p1 p2 h3 h2
              · rw [if_neg h2]; exact rreads_b4 _ _ _ _ _ _ _ _ _ _ _ _ _ _ _ _ _ w c1 c2 c3 h10 p1 p2 h3 h2
            · rw [if_neg h3]
              by_cases h2 : rs2 = 0
              · rw [if_pos h2]; exact rreads_b5 _ _ _ _ _ _ _ _ _ _ _ _ _ _ _ _ _ w c1 c2 c3 h10 p1 p2 (by omega) h2
              · rw [if_neg h2]; exact rreads_b6 _ _ _ _ _ _ _ _ _ _ _ _ _ _ _ _ _ w c1 c2 c3 h10 p1 p2 (by omega) h2
  · have e : uses op rd rs1 rs2 imm csr = false := by simp [uses, h]
    rw [e]
    exact rreads_bad _ _ _ _ _ _ _ _ w h c1
end Go.Proofs.Ythdahigckflohab
