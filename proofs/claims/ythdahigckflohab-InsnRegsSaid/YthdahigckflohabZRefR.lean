import Derived.Test.YthdahigckflohabZBack
namespace Go.Proofs.Ythdahigckflohab
open Go.RowKit
set_option linter.unusedVariables false
theorem rsh_all : (List.range 77).all (fun n => decide (rsh (n : Int) = sh (n : Int))) = true := by decide +kernel
theorem rsh_eq (op : Int) : rsh op = sh op := by
  by_cases h : op < 1 ∨ 77 ≤ op
  · rw [sh_out op h]; unfold rsh; rw [refRow_out op h]; rfl
  · have := List.all_eq_true.1 rsh_all op.toNat (by simp; omega)
    rw [show (op.toNat : Int) = op by omega] at this
    simpa using this
theorem sh_zero_all : (List.range 76).all (fun n => decide (sh ((n : Int) + 1) ≠ 0)) = true := by decide +kernel
theorem sh_iff (op : Int) : sh op ≠ 0 ↔ 1 ≤ op ∧ op ≤ 76 := by
  constructor
  · intro h
    have : ¬ (op < 1 ∨ 77 ≤ op) := fun x => h (sh_out op x)
    omega
  · intro h
    have := List.all_eq_true.1 sh_zero_all (op - 1).toNat (by simp; omega)
    rw [show (((op - 1).toNat : Nat) : Int) + 1 = op by omega] at this
    simpa using this
theorem bad1 (s rd : Int) : (rd < 0 ∨ fRd s 4294967295 < rd) ↔ fieldB (hRd s) rd 31 = false := by
  obtain ⟨m1, m2, m3, m4⟩ := m31
  unfold fRd fieldB hRd
  rw [m1]
  by_cases h : s = 6 ∨ s = 7 ∨ s = 11 ∨ s = 12
  · simp [h]; omega
  · simp [h]; omega
theorem bad2 (s rd : Int) : (rd < 0 ∨ fRs1 s 4294967295 < rd) ↔ fieldB (hRs1 s) rd 31 = false := by
  obtain ⟨m1, m2, m3, m4⟩ := m31
  unfold fRs1 fieldB hRs1
  rw [m2]
  by_cases h : s = 8 ∨ s = 9 ∨ s = 11 ∨ s = 14
  · simp [h]; omega
  · simp [h]; omega
theorem bad3 (s rd : Int) : (rd < 0 ∨ fRs2 s 4294967295 < rd) ↔ fieldB (hRs2 s) rd 31 = false := by
  obtain ⟨m1, m2, m3, m4⟩ := m31
  unfold fRs2 fieldB hRs2
  rw [m3]
  by_cases h : s = 1 ∨ s = 6 ∨ s = 7 ∨ s = 12
  · simp [h]; omega
  · simp [h]; omega
theorem bad5 (s rd : Int) : (rd < 0 ∨ fCsr s 4294967295 < rd) ↔ fieldB (hCsr s) rd 4095 = false := by
  obtain ⟨m1, m2, m3, m4⟩ := m31
  unfold fCsr fieldB hCsr
  rw [m4]
  by_cases h : s = 13 ∨ s = 14
  · simp [h]; omega
  · simp [h]; omega
/-- The same refusal, by the document's tests. -/
theorem refuse_eq (op rd rs1 rs2 imm csr : Int) (h : sh op ≠ 0) : refuse op rd rs1 rs2 imm csr =
    if fieldB (hRd (sh op)) rd 31 = false then (1, 22) else if fieldB (hRs1 (sh op)) rs1 31 = false then (2, 22) else if fieldB (hRs2 (sh op)) rs2 31 = false then (3, 22) else if fieldB (hCsr (sh op)) csr 4095 = false then (5, 22)
    else if tk (sh op) (pt (sh op) imm) ≠ imm then (4, 23) else (0, 0) := by
  unfold refuse wf
  rw [if_neg h]
  simp only [bad1, bad2, bad3, bad5]
  by_cases h1 : fieldB (hRd (sh op)) rd 31 = false
  · simp [h1]
  · by_cases h2 : fieldB (hRs1 (sh op)) rs1 31 = false
    · simp [h1, h2]
    · by_cases h3 : fieldB (hRs2 (sh op)) rs2 31 = false
      · simp [h1, h2, h3]
      · by_cases h5 : fieldB (hCsr (sh op)) csr 4095 = false
        · simp [h1, h2, h3, h5]
        · simp [h1, h2, h3, h5]
theorem row5_new (w : World) (c0 c1 c2 c3 c4 : Value) (t : TypeId) : (w.alloc (.cells #[c0, c1, c2, c3, c4] t)).cell? ⟨w.heap.size, 0, .none⟩ = some c0 := by simp
set_option maxHeartbeats 2000000 in
theorem rrefuse_out (op rd rs1 rs2 imm csr : Int) (w : World) (h : sh op = 0) :
    Calls Try.prog 72 #[.agg #[.int .i64 op, .int .i64 rd, .int .i64 rs1, .int .i64 rs2, .int .i64 imm, .int .i64 csr]] w fun e w' => e = .returned (.tuple #[.int .i64 0, .int .i64 21]) ∧ Below w.heap.size w w' := by
  have hR := row_any op
  have e : decide (1 ≤ op ∧ op ≤ 76) = false := decide_eq_false (fun x => (sh_iff op).2 x h)
  rw [e] at hR
  clear e h
  go_enter Try.func72, Try.ntmps72
  go_wp2_with fail
  refine (hR _).mono ?_
  rintro e w1 ⟨rfl, hb⟩
  clear hR
  have hz := hb.size
  simp only [World.size_alloc] at hz
  go_wp2
  go_ret2
  exact ⟨rfl, ((below_past _ _).trans (hb.mono (by simp only [World.size_alloc]; omega))).alloc (by omega) _⟩
set_option maxHeartbeats 2000000 in
theorem rrefuse_in (op rd rs1 rs2 imm csr : Int) (w : World) (h : sh op ≠ 0) :
    Calls Try.prog 72 #[.agg #[.int .i64 op, .int .i64 rd, .int .i64 rs1, .int .i64 rs2, .int .i64 imm, .int .i64 csr]] w fun e w' => e = .returned (.tuple #[.int .i64 (refuse op rd rs1 rs2 imm csr).1, .int .i64 (refuse op rd rs1 rs2 imm csr).2]) ∧ Below w.heap.size w w' := by
  have hR := row_any op
  have e : decide (1 ≤ op ∧ op ≤ 76) = true := decide_eq_true ((sh_iff op).1 h)
  have b := sh_bd op
  rw [e, rsh_eq] at hR
  rw [refuse_eq op rd rs1 rs2 imm csr h]
  have hH := fun w => has_any (sh op) w (by omega) b.2
  have hF1 := fun w => rfield_any (hRd (sh op)) rd 31 w
  have hF2 := fun w => rfield_any (hRs1 (sh op)) rs1 31 w
  have hF3 := fun w => rfield_any (hRs2 (sh op)) rs2 31 w
  have hF5 := fun w => rfield_any (hCsr (sh op)) csr 4095 w
  have hI : ∃ v : Bool, (v = true ↔ tk (sh op) (pt (sh op) imm) = imm) ∧ ∀ w, Calls Try.prog 86 #[.int .i64 (sh op), .int .i64 imm] w fun e w' => e = .returned (.bool v) ∧ w' = w := by
    have hk := back_iff (sh op) imm (by omega) b.2
    by_cases hh : Hs (sh op) imm
    · exact ⟨true, by simp [hk, hh], fun w => holds_yes _ _ w (by omega) b.2 hh⟩
    · exact ⟨false, by simp [hk, hh], fun w => holds_no _ _ w (by omega) b.2 hh⟩
  obtain ⟨v, hv, hI⟩ := hI
  have ev : (if tk (sh op) (pt (sh op) imm) ≠ imm then ((4, 23) : Int × Int) else (0, 0)) = if v = false then (4, 23) else (0, 0) := by
    cases v
    · rw [if_pos (fun x => by simpa using hv.2 x), if_pos rfl]
    · rw [if_neg (fun x => x (hv.1 rfl)), if_neg (by decide)]
  rw [ev]
  clear ev hv e h b
  generalize hRd (sh op) = q1 at *
  generalize hRs1 (sh op) = q2 at *
  generalize hRs2 (sh op) = q3 at *
  generalize hImm (sh op) = q4 at *
  generalize hCsr (sh op) = q5 at *
  generalize fieldB q1 rd 31 = t1 at *
  generalize fieldB q2 rs1 31 = t2 at *
  generalize fieldB q3 rs2 31 = t3 at *
  generalize fieldB q5 csr 4095 = t5 at *
  generalize sh op = s at *
  go_enter Try.func72, Try.ntmps72
  go_wp2_with fail
  refine (hR _).mono ?_
  rintro e w1 ⟨rfl, hb⟩
  clear hR
  have hz := hb.size
  simp only [World.size_alloc] at hz
  have y0 : w.heap.size < w1.heap.size := by omega
  have r1 := row6_keep hb (by simp only [World.size_alloc]; omega) (row6_new w (.int .i64 op) (.int .i64 rd) (.int .i64 rs1) (.int .i64 rs2) (.int .i64 imm) (.int .i64 csr) 49)
  go_wp2_with fail
  refine (hH _).mono ?_
  rintro e w2 ⟨rfl, hb2⟩
  clear hH
  have hz2 := hb2.size
  simp only [World.size_alloc] at hz2
  have y1 : w.heap.size < w2.heap.size := by omega
  have y2 : w1.heap.size < w2.heap.size := by omega
  have r2 := row6_keep hb2 (by simp only [World.size_alloc]; omega) (row6_keep (below_past _ _) y0 r1)
  have q2 := row6_keep hb2 (by simp only [World.size_alloc]; omega) (row6_new w1 (.string (rnm op)) (.int .i64 s) (.int .i64 (rop op)) (.int .i64 (rf3 op)) (.int .i64 (rf7 op)) (.int .u32 (rwd op)) 94)
  have hB : Below w.heap.size w w2 := (((below_past _ _).trans (hb.mono (by simp only [World.size_alloc]; omega))).alloc (by omega) _).trans (hb2.mono (by simp only [World.size_alloc]; omega))
  clear r1 hb hb2
  obtain ⟨k0, k1, k2, k3, k4, k5⟩ := r2
  obtain ⟨l0, l1, l2, l3, l4, l5⟩ := q2
  have hz3 : w2.heap.size < w2.heap.size + 1 := by omega
  cases t1
  · go_wp2_with (go_at_call 85; refine (hF1 _).mono ?_; rintro e w3 ⟨rfl, rfl⟩)
    go_ret2
    exact ⟨rfl, hB.alloc (by omega) _⟩
  cases t2
  · go_wp2_with fail
    refine (hF1 _).mono ?_; rintro e w3 ⟨rfl, rfl⟩
    go_wp2_with fail
    refine (hF2 _).mono ?_; rintro e w3 ⟨rfl, rfl⟩
    go_wp2
    go_ret2
    exact ⟨rfl, hB.alloc (by omega) _⟩
  cases t3
  · go_wp2_with fail
    refine (hF1 _).mono ?_; rintro e w3 ⟨rfl, rfl⟩
    go_wp2_with fail
    refine (hF2 _).mono ?_; rintro e w3 ⟨rfl, rfl⟩
    go_wp2_with fail
    refine (hF3 _).mono ?_; rintro e w3 ⟨rfl, rfl⟩
    go_wp2
    go_ret2
    exact ⟨rfl, hB.alloc (by omega) _⟩
  cases t5
  · go_wp2_with fail
    refine (hF1 _).mono ?_; rintro e w3 ⟨rfl, rfl⟩
    go_wp2_with fail
    refine (hF2 _).mono ?_; rintro e w3 ⟨rfl, rfl⟩
    go_wp2_with fail
    refine (hF3 _).mono ?_; rintro e w3 ⟨rfl, rfl⟩
    go_wp2_with fail
    refine (hF5 _).mono ?_; rintro e w3 ⟨rfl, rfl⟩
    go_wp2
    go_ret2
    exact ⟨rfl, hB.alloc (by omega) _⟩
  cases v
  all_goals
    go_wp2_with fail
    refine (hF1 _).mono ?_; rintro e w3 ⟨rfl, rfl⟩
    go_wp2_with fail
    refine (hF2 _).mono ?_; rintro e w3 ⟨rfl, rfl⟩
    go_wp2_with fail
    refine (hF3 _).mono ?_; rintro e w3 ⟨rfl, rfl⟩
    go_wp2_with fail
    refine (hF5 _).mono ?_; rintro e w3 ⟨rfl, rfl⟩
    go_wp2_with fail
    refine (hI _).mono ?_; rintro e w3 ⟨rfl, rfl⟩
    go_wp2
    go_ret2
    exact ⟨rfl, hB.alloc (by omega) _⟩
end Go.Proofs.Ythdahigckflohab
