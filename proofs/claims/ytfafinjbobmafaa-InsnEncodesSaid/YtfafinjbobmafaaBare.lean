import Derived.Test.YtfafinjbobmafaaEnc
import Derived.Test.YtfafinjbobmafaaInj
namespace Go.Proofs.Ytfafinjbobmafaa
open Go.RowKit
set_option linter.unusedVariables false
/-- The place and the number of what bars an instruction. -/
def refuse (op rd rs1 rs2 imm csr : Int) : Int × Int :=
  if sh op = 0 then (0, 21) else if wf (sh op) rd rs1 rs2 csr ≠ 0 then (wf (sh op) rd rs1 rs2 csr, 22) else if tk (sh op) (pt (sh op) imm) ≠ imm then (4, 23) else (0, 0)
def eS (op rd rs1 rs2 imm csr : Int) : Int := wd op + (rd * 128 + rs1 * 32768 + rs2 * 1048576 + csr * 1048576) + pt (sh op) imm
theorem refuse_none (op rd rs1 rs2 imm csr : Int) : (refuse op rd rs1 rs2 imm csr).2 = 0 ↔ sh op ≠ 0 ∧ wf (sh op) rd rs1 rs2 csr = 0 ∧ tk (sh op) (pt (sh op) imm) = imm := by
  unfold refuse
  by_cases h1 : sh op = 0
  · simp [h1]
  · by_cases h2 : wf (sh op) rd rs1 rs2 csr = 0
    · by_cases h3 : tk (sh op) (pt (sh op) imm) = imm
      · simp [h1, h2, h3]
      · simp [h1, h2, h3]
    · simp [h1, h2]
theorem enc_yes (op rd rs1 rs2 imm csr : Int) (w : World) (h : (refuse op rd rs1 rs2 imm csr).2 = 0) :
    Calls Try.prog 13 #[.agg #[.int .i64 op, .int .i64 rd, .int .i64 rs1, .int .i64 rs2, .int .i64 imm, .int .i64 csr]] w fun e w' => e = .returned (.tuple #[.int .u32 (eS op rd rs1 rs2 imm csr), .nilIface]) ∧ Below w.heap.size w w' := by
  obtain ⟨h1, h2, h3⟩ := (refuse_none _ _ _ _ _ _).1 h
  have := encode_ok op rd rs1 rs2 imm csr w h1 h2 h3 (pt_bd _ _).1 (pt_bd _ _).2
  rw [enc_sum op rd rs1 rs2 imm csr h1 h2] at this
  exact this
theorem enc_no (op rd rs1 rs2 imm csr : Int) (w : World) (h : (refuse op rd rs1 rs2 imm csr).2 ≠ 0) :
    Calls Try.prog 13 #[.agg #[.int .i64 op, .int .i64 rd, .int .i64 rs1, .int .i64 rs2, .int .i64 imm, .int .i64 csr]] w fun e w' =>
      (∃ v, e = .returned (.tuple #[.int .u32 0, v]) ∧ FaultIn w' w.heap.size v (refuse op rd rs1 rs2 imm csr).1 (refuse op rd rs1 rs2 imm csr).2) ∧ Below w.heap.size w w' := by
  by_cases h1 : sh op = 0
  · have e : refuse op rd rs1 rs2 imm csr = (0, 21) := by simp [refuse, h1]
    rw [e]
    exact encode_noOp op rd rs1 rs2 imm csr w h1
  · by_cases h2 : wf (sh op) rd rs1 rs2 csr = 0
    · by_cases h3 : tk (sh op) (pt (sh op) imm) = imm
      · exact absurd ((refuse_none _ _ _ _ _ _).2 ⟨h1, h2, h3⟩) h
      · have e : refuse op rd rs1 rs2 imm csr = (4, 23) := by simp [refuse, h1, h2, h3]
        rw [e]
        exact encode_imm op rd rs1 rs2 imm csr w h1 h2 h3 (pt_bd _ _).1 (pt_bd _ _).2
    · have e : refuse op rd rs1 rs2 imm csr = (wf (sh op) rd rs1 rs2 csr, 22) := by simp [refuse, h1, h2]
      rw [e]
      exact encode_wrong op rd rs1 rs2 imm csr _ w h1 rfl h2
theorem eS_inj (op rd rs1 rs2 imm csr op' rd' rs1' rs2' imm' csr' : Int) (h : (refuse op rd rs1 rs2 imm csr).2 = 0) (h' : (refuse op' rd' rs1' rs2' imm' csr').2 = 0)
    (he : eS op rd rs1 rs2 imm csr = eS op' rd' rs1' rs2' imm' csr') : op = op' ∧ rd = rd' ∧ rs1 = rs1' ∧ rs2 = rs2' ∧ imm = imm' ∧ csr = csr' := by
  obtain ⟨h1, h2, h3⟩ := (refuse_none _ _ _ _ _ _).1 h
  obtain ⟨h1', h2', h3'⟩ := (refuse_none _ _ _ _ _ _).1 h'
  exact enc_inj op rd rs1 rs2 imm csr op' rd' rs1' rs2' imm' csr' h1 h1' h2 h2' h3 h3' he
theorem two_boxes (w : World) (c0 c1 c2 c3 c4 c5 d0 d1 d2 d3 d4 d5 : Value) (t t' : TypeId) :
    Row6 ((w.alloc (.cells #[c0, c1, c2, c3, c4, c5] t)).alloc (.cells #[d0, d1, d2, d3, d4, d5] t')) w.heap.size c0 c1 c2 c3 c4 c5 ∧ Row6 ((w.alloc (.cells #[c0, c1, c2, c3, c4, c5] t)).alloc (.cells #[d0, d1, d2, d3, d4, d5] t')) (w.heap.size + 1) d0 d1 d2 d3 d4 d5 := by
  refine ⟨⟨?_, ?_, ?_, ?_, ?_, ?_⟩, ⟨?_, ?_, ?_, ?_, ?_, ?_⟩⟩ <;> simp
theorem enc_bad (op rd rs1 rs2 imm csr : Int) (w : World) (h : (refuse op rd rs1 rs2 imm csr).2 ≠ 0) :
    Calls Try.prog 13 #[.agg #[.int .i64 op, .int .i64 rd, .int .i64 rs1, .int .i64 rs2, .int .i64 imm, .int .i64 csr]] w fun e w' => (∃ b, e = .returned (.tuple #[.int .u32 0, .iface 84 (.pointer (some ⟨b, 0, .none⟩))])) ∧ Below w.heap.size w w' :=
  (enc_no op rd rs1 rs2 imm csr w h).mono fun e w' ⟨⟨v, he, b, _, _, hv, _⟩, hb⟩ => ⟨⟨b, by rw [he, hv]⟩, hb⟩
set_option maxHeartbeats 1000000 in
theorem bare_no (op rd rs1 rs2 imm csr op' rd' rs1' rs2' imm' csr' : Int) (w : World) (h : (refuse op rd rs1 rs2 imm csr).2 ≠ 0) :
    Calls Try.prog 4 #[.agg #[.int .i64 op, .int .i64 rd, .int .i64 rs1, .int .i64 rs2, .int .i64 imm, .int .i64 csr], .agg #[.int .i64 op', .int .i64 rd', .int .i64 rs1', .int .i64 rs2', .int .i64 imm', .int .i64 csr']] w fun e w' => e = .returned (.bool true) ∧ Below w.heap.size w w' := by
  have c1 := fun w => enc_bad _ _ _ _ _ _ w h
  have c2 : ∀ w, Calls Try.prog 13 #[.agg #[.int .i64 op', .int .i64 rd', .int .i64 rs1', .int .i64 rs2', .int .i64 imm', .int .i64 csr']] w fun e w' => (∃ A v, e = .returned (.tuple #[.int .u32 A, v])) ∧ Below w.heap.size w w' := fun w => by
    by_cases h' : (refuse op' rd' rs1' rs2' imm' csr').2 = 0
    · exact (enc_yes _ _ _ _ _ _ w h').mono fun e w' ⟨he, hb⟩ => ⟨⟨_, _, he⟩, hb⟩
    · exact (enc_bad _ _ _ _ _ _ w h').mono fun e w' ⟨⟨b, he⟩, hb⟩ => ⟨⟨_, _, he⟩, hb⟩
  clear h
  go_enter Try.func4, Try.ntmps4
  go_wp2_with fail
  refine (c1 _).mono ?_
  rintro e w1 ⟨⟨b1, rfl⟩, hb1⟩
  have z1 := hb1.size
  simp only [World.size_alloc] at z1
  have y0 : w.heap.size < w1.heap.size := by omega
  have y1 : w.heap.size + 1 < w1.heap.size := by omega
  obtain ⟨r1, r2⟩ := two_boxes w (.int .i64 op) (.int .i64 rd) (.int .i64 rs1) (.int .i64 rs2) (.int .i64 imm) (.int .i64 csr) (.int .i64 op') (.int .i64 rd') (.int .i64 rs1') (.int .i64 rs2') (.int .i64 imm') (.int .i64 csr') 26 26
  have r1 := row6_keep hb1 (by simp only [World.size_alloc]; omega) r1
  have r2 := row6_keep hb1 (by simp only [World.size_alloc]; omega) r2
  have R1 := r1
  have R2 := r2
  obtain ⟨k0, k1, k2, k3, k4, k5⟩ := r1
  obtain ⟨l0, l1, l2, l3, l4, l5⟩ := r2
  go_wp2_with fail
  clear k0 k1 k2 k3 k4 k5 l0 l1 l2 l3 l4 l5
  refine (c2 _).mono ?_
  rintro e w2 ⟨⟨A2, v2, rfl⟩, hb2⟩
  clear c1 c2
  obtain ⟨k0, k1, k2, k3, k4, k5⟩ := row6_keep hb2 y0 R1
  obtain ⟨l0, l1, l2, l3, l4, l5⟩ := row6_keep hb2 y1 R2
  clear R1 R2
  have hB : Below w.heap.size w w2 := (((below_past _ _).alloc (by simp only [World.size_alloc]; omega) _).trans (hb1.mono (by simp only [World.size_alloc]; omega))).trans (hb2.mono (by omega))
  clear hb1 hb2
  go_wp2
  all_goals (go_ret; exact ⟨rfl, hB⟩)
set_option maxHeartbeats 1000000 in
theorem bare_yn (op rd rs1 rs2 imm csr op' rd' rs1' rs2' imm' csr' : Int) (w : World) (h : (refuse op rd rs1 rs2 imm csr).2 = 0) (h' : (refuse op' rd' rs1' rs2' imm' csr').2 ≠ 0) :
    Calls Try.prog 4 #[.agg #[.int .i64 op, .int .i64 rd, .int .i64 rs1, .int .i64 rs2, .int .i64 imm, .int .i64 csr], .agg #[.int .i64 op', .int .i64 rd', .int .i64 rs1', .int .i64 rs2', .int .i64 imm', .int .i64 csr']] w fun e w' => e = .returned (.bool true) ∧ Below w.heap.size w w' := by
  have c1 := fun w => enc_yes _ _ _ _ _ _ w h
  have c2 := fun w => enc_bad _ _ _ _ _ _ w h'
  clear h h'
  go_enter Try.func4, Try.ntmps4
  go_wp2_with fail
  refine (c1 _).mono ?_
  rintro e w1 ⟨rfl, hb1⟩
  have z1 := hb1.size
  simp only [World.size_alloc] at z1
  have y0 : w.heap.size < w1.heap.size := by omega
  have y1 : w.heap.size + 1 < w1.heap.size := by omega
  obtain ⟨r1, r2⟩ := two_boxes w (.int .i64 op) (.int .i64 rd) (.int .i64 rs1) (.int .i64 rs2) (.int .i64 imm) (.int .i64 csr) (.int .i64 op') (.int .i64 rd') (.int .i64 rs1') (.int .i64 rs2') (.int .i64 imm') (.int .i64 csr') 26 26
  have r1 := row6_keep hb1 (by simp only [World.size_alloc]; omega) r1
  have r2 := row6_keep hb1 (by simp only [World.size_alloc]; omega) r2
  have R1 := r1
  have R2 := r2
  obtain ⟨k0, k1, k2, k3, k4, k5⟩ := r1
  obtain ⟨l0, l1, l2, l3, l4, l5⟩ := r2
  go_wp2_with fail
  clear k0 k1 k2 k3 k4 k5 l0 l1 l2 l3 l4 l5
  refine (c2 _).mono ?_
  rintro e w2 ⟨⟨b2, rfl⟩, hb2⟩
  clear c1 c2
  obtain ⟨k0, k1, k2, k3, k4, k5⟩ := row6_keep hb2 y0 R1
  obtain ⟨l0, l1, l2, l3, l4, l5⟩ := row6_keep hb2 y1 R2
  clear R1 R2
  have hB : Below w.heap.size w w2 := (((below_past _ _).alloc (by simp only [World.size_alloc]; omega) _).trans (hb1.mono (by simp only [World.size_alloc]; omega))).trans (hb2.mono (by omega))
  clear hb1 hb2
  go_wp2
  all_goals (go_ret; exact ⟨rfl, hB⟩)
set_option maxHeartbeats 1000000 in
theorem bare_same (op rd rs1 rs2 imm csr : Int) (w : World) (h : (refuse op rd rs1 rs2 imm csr).2 = 0) :
    Calls Try.prog 4 #[.agg #[.int .i64 op, .int .i64 rd, .int .i64 rs1, .int .i64 rs2, .int .i64 imm, .int .i64 csr], .agg #[.int .i64 op, .int .i64 rd, .int .i64 rs1, .int .i64 rs2, .int .i64 imm, .int .i64 csr]] w fun e w' => e = .returned (.bool true) ∧ Below w.heap.size w w' := by
  have c1 := fun w => enc_yes _ _ _ _ _ _ w h
  have c2 := c1
  clear h
  go_enter Try.func4, Try.ntmps4
  go_wp2_with fail
  refine (c1 _).mono ?_
  rintro e w1 ⟨rfl, hb1⟩
  have z1 := hb1.size
  simp only [World.size_alloc] at z1
  have y0 : w.heap.size < w1.heap.size := by omega
  have y1 : w.heap.size + 1 < w1.heap.size := by omega
  obtain ⟨r1, r2⟩ := two_boxes w (.int .i64 op) (.int .i64 rd) (.int .i64 rs1) (.int .i64 rs2) (.int .i64 imm) (.int .i64 csr) (.int .i64 op) (.int .i64 rd) (.int .i64 rs1) (.int .i64 rs2) (.int .i64 imm) (.int .i64 csr) 26 26
  have r1 := row6_keep hb1 (by simp only [World.size_alloc]; omega) r1
  have r2 := row6_keep hb1 (by simp only [World.size_alloc]; omega) r2
  have R1 := r1
  have R2 := r2
  obtain ⟨k0, k1, k2, k3, k4, k5⟩ := r1
  obtain ⟨l0, l1, l2, l3, l4, l5⟩ := r2
  go_wp2_with fail
  clear k0 k1 k2 k3 k4 k5 l0 l1 l2 l3 l4 l5
  refine (c2 _).mono ?_
  rintro e w2 ⟨rfl, hb2⟩
  clear c1 c2
  obtain ⟨k0, k1, k2, k3, k4, k5⟩ := row6_keep hb2 y0 R1
  obtain ⟨l0, l1, l2, l3, l4, l5⟩ := row6_keep hb2 y1 R2
  clear R1 R2
  have hB : Below w.heap.size w w2 := (((below_past _ _).alloc (by simp only [World.size_alloc]; omega) _).trans (hb1.mono (by simp only [World.size_alloc]; omega))).trans (hb2.mono (by omega))
  clear hb1 hb2
  go_wp2
  all_goals (go_ret; exact ⟨rfl, hB⟩)
set_option maxHeartbeats 1000000 in
theorem bare_diff (op rd rs1 rs2 imm csr op' rd' rs1' rs2' imm' csr' : Int) (w : World) (h : (refuse op rd rs1 rs2 imm csr).2 = 0) (h' : (refuse op' rd' rs1' rs2' imm' csr').2 = 0) (hne : ¬ (op = op' ∧ rd = rd' ∧ rs1 = rs1' ∧ rs2 = rs2' ∧ imm = imm' ∧ csr = csr')) :
    Calls Try.prog 4 #[.agg #[.int .i64 op, .int .i64 rd, .int .i64 rs1, .int .i64 rs2, .int .i64 imm, .int .i64 csr], .agg #[.int .i64 op', .int .i64 rd', .int .i64 rs1', .int .i64 rs2', .int .i64 imm', .int .i64 csr']] w fun e w' => e = .returned (.bool true) ∧ Below w.heap.size w w' := by
  have c1 := fun w => enc_yes _ _ _ _ _ _ w h
  have c2 := fun w => enc_yes _ _ _ _ _ _ w h'
  have hd : (eS op rd rs1 rs2 imm csr == eS op' rd' rs1' rs2' imm' csr') = false := by
    rw [beq_eq_false_iff_ne]
    exact fun he => hne (eS_inj _ _ _ _ _ _ _ _ _ _ _ _ h h' he)
  have Hne : Hid (¬ (op = op' ∧ rd = rd' ∧ rs1 = rs1' ∧ rs2 = rs2' ∧ imm = imm' ∧ csr = csr')) := hne
  generalize eS op rd rs1 rs2 imm csr = A at *
  generalize eS op' rd' rs1' rs2' imm' csr' = B at *
  clear h h' hne
  go_enter Try.func4, Try.ntmps4
  go_wp2_with fail
  refine (c1 _).mono ?_
  rintro e w1 ⟨rfl, hb1⟩
  have z1 := hb1.size
  simp only [World.size_alloc] at z1
  have y0 : w.heap.size < w1.heap.size := by omega
  have y1 : w.heap.size + 1 < w1.heap.size := by omega
  obtain ⟨r1, r2⟩ := two_boxes w (.int .i64 op) (.int .i64 rd) (.int .i64 rs1) (.int .i64 rs2) (.int .i64 imm) (.int .i64 csr) (.int .i64 op') (.int .i64 rd') (.int .i64 rs1') (.int .i64 rs2') (.int .i64 imm') (.int .i64 csr') 26 26
  have r1 := row6_keep hb1 (by simp only [World.size_alloc]; omega) r1
  have r2 := row6_keep hb1 (by simp only [World.size_alloc]; omega) r2
  have R1 := r1
  have R2 := r2
  obtain ⟨k0, k1, k2, k3, k4, k5⟩ := r1
  obtain ⟨l0, l1, l2, l3, l4, l5⟩ := r2
  go_wp2_with fail
  clear k0 k1 k2 k3 k4 k5 l0 l1 l2 l3 l4 l5
  refine (c2 _).mono ?_
  rintro e w2 ⟨rfl, hb2⟩
  clear c1 c2
  obtain ⟨k0, k1, k2, k3, k4, k5⟩ := row6_keep hb2 y0 R1
  obtain ⟨l0, l1, l2, l3, l4, l5⟩ := row6_keep hb2 y1 R2
  clear R1 R2
  have hB : Below w.heap.size w w2 := (((below_past _ _).alloc (by simp only [World.size_alloc]; omega) _).trans (hb1.mono (by simp only [World.size_alloc]; omega))).trans (hb2.mono (by omega))
  clear hb1 hb2
  go_wp2
  all_goals (first | (exfalso; exact Hne.out ⟨‹op = op'›, ‹rd = rd'›, ‹rs1 = rs1'›, ‹rs2 = rs2'›, ‹imm = imm'›, ‹csr = csr'›⟩) | (go_ret; exact ⟨rfl, hB⟩))
theorem bare_walk (op rd rs1 rs2 imm csr op' rd' rs1' rs2' imm' csr' : Int) (w : World) :
    Calls Try.prog 4 #[.agg #[.int .i64 op, .int .i64 rd, .int .i64 rs1, .int .i64 rs2, .int .i64 imm, .int .i64 csr], .agg #[.int .i64 op', .int .i64 rd', .int .i64 rs1', .int .i64 rs2', .int .i64 imm', .int .i64 csr']] w fun e w' =>
      e = .returned (.bool true) ∧ Below w.heap.size w w' := by
  by_cases h : (refuse op rd rs1 rs2 imm csr).2 = 0
  · by_cases h' : (refuse op' rd' rs1' rs2' imm' csr').2 = 0
    · by_cases heq : op = op' ∧ rd = rd' ∧ rs1 = rs1' ∧ rs2 = rs2' ∧ imm = imm' ∧ csr = csr'
      · obtain ⟨rfl, rfl, rfl, rfl, rfl, rfl⟩ := heq
        exact bare_same op rd rs1 rs2 imm csr w h
      · exact bare_diff _ _ _ _ _ _ _ _ _ _ _ _ w h h' heq
    · exact bare_yn _ _ _ _ _ _ _ _ _ _ _ _ w h h'
  · exact bare_no _ _ _ _ _ _ _ _ _ _ _ _ w h
end Go.Proofs.Ytfafinjbobmafaa
