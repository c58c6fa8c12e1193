import Derived.Test.YthdahigckflohabZSum
import Derived.Deep.RegionHeld3
namespace Go.Proofs.Ythdahigckflohab
open Go.RowKit
set_option linter.unusedVariables false
attribute [local go_sem] run_store_func
/-- A refusal of the layer: a new fault, and what it holds. -/
def FaultIn (w' : World) (B : Nat) (v : Value) (a r : Int) : Prop :=
  ∃ b, B ≤ b ∧ b < w'.heap.size ∧ v = .iface 69 (.pointer (some ⟨b, 0, .none⟩)) ∧ w'.cell? ⟨b, 0, .none⟩ = some (.string insnB) ∧ w'.cell? ⟨b, 1, .none⟩ = some (.int .i64 a) ∧ w'.cell? ⟨b, 2, .none⟩ = some (.iface 53 (.int .i64 r))
theorem faultIn_new (w : World) (B : Nat) (a r : Int) (h : B ≤ w.heap.size) : FaultIn (w.alloc (.cells #[.string insnB, .int .i64 a, .iface 53 (.int .i64 r)] 71)) B (.iface 69 (.pointer (some ⟨w.heap.size, 0, .none⟩))) a r :=
  ⟨w.heap.size, h, by simp, rfl, by simp, by simp, by simp⟩
def Row6 (w : World) (b : Nat) (c0 c1 c2 c3 c4 c5 : Value) : Prop :=
  w.cell? ⟨b, 0, .none⟩ = some c0 ∧ w.cell? ⟨b, 1, .none⟩ = some c1 ∧ w.cell? ⟨b, 2, .none⟩ = some c2 ∧ w.cell? ⟨b, 3, .none⟩ = some c3 ∧ w.cell? ⟨b, 4, .none⟩ = some c4 ∧ w.cell? ⟨b, 5, .none⟩ = some c5
theorem row6_new (w : World) (c0 c1 c2 c3 c4 c5 : Value) (t : TypeId) : Row6 (w.alloc (.cells #[c0, c1, c2, c3, c4, c5] t)) w.heap.size c0 c1 c2 c3 c4 c5 := by
  refine ⟨?_, ?_, ?_, ?_, ?_, ?_⟩ <;> simp
theorem row6_keep {B : Nat} {W w' : World} {b : Nat} {c0 c1 c2 c3 c4 c5 : Value} (h : Below B W w') (hb : b < B) (k : Row6 W b c0 c1 c2 c3 c4 c5) : Row6 w' b c0 c1 c2 c3 c4 c5 := by
  obtain ⟨k0, k1, k2, k3, k4, k5⟩ := k
  exact ⟨(h.cell hb).trans k0, (h.cell hb).trans k1, (h.cell hb).trans k2, (h.cell hb).trans k3, (h.cell hb).trans k4, (h.cell hb).trans k5⟩
def Row3 (w : World) (b : Nat) (c0 c1 c2 : Value) : Prop :=
  w.cell? ⟨b, 0, .none⟩ = some c0 ∧ w.cell? ⟨b, 1, .none⟩ = some c1 ∧ w.cell? ⟨b, 2, .none⟩ = some c2
theorem row3_new (w : World) (c0 c1 c2 : Value) (t : TypeId) : Row3 (w.alloc (.cells #[c0, c1, c2] t)) w.heap.size c0 c1 c2 := by
  refine ⟨?_, ?_, ?_⟩ <;> simp
theorem row3_keep {B : Nat} {W w' : World} {b : Nat} {c0 c1 c2 : Value} (h : Below B W w') (hb : b < B) (k : Row3 W b c0 c1 c2) : Row3 w' b c0 c1 c2 := by
  obtain ⟨k0, k1, k2⟩ := k
  exact ⟨(h.cell hb).trans k0, (h.cell hb).trans k1, (h.cell hb).trans k2⟩
theorem below_new (w : World) (o : Obj) : Below (w.heap.size + 1) (w.alloc o) (w.alloc o) := Below.refl _ _
theorem below_past (w : World) (o : Obj) : Below w.heap.size w (w.alloc o) := (Below.refl _ _).alloc (Nat.le_refl _) o
set_option maxHeartbeats 1000000 in
theorem encode_noOp (op rd rs1 rs2 imm csr : Int) (w : World) (h : sh op = 0) :
    Calls Try.prog 89 #[.agg #[.int .i64 op, .int .i64 rd, .int .i64 rs1, .int .i64 rs2, .int .i64 imm, .int .i64 csr]] w fun e w' => (∃ v, e = .returned (.tuple #[.int .u32 0, v]) ∧ FaultIn w' w.heap.size v 0 21) ∧ Below w.heap.size w w' := by
  have hO := operationOf_any op
  rw [h] at hO
  go_enter Try.func89, Try.ntmps89
  go_wp2_with fail
  refine (hO _).mono ?_
  rintro e w1 ⟨rfl, hb⟩
  clear hO h
  have hz := hb.size
  simp at hz
  go_wp2_with fail
  refine (fault_any _ _ _).mono ?_
  rintro e w2 ⟨rfl, rfl⟩
  go_wp2
  go_ret2
  refine ⟨⟨_, rfl, ?_⟩, ?_⟩
  · have := faultIn_new (w1.alloc (.cells #[.string (nm op), .int .i64 0, .int .u32 (wd op)] 112)) w.heap.size 0 21 (by simp; omega)
    rwa [World.size_alloc] at this
  · exact ((((Below.refl _ _).alloc (Nat.le_refl _) _).trans (hb.mono (by simp))).alloc (by omega) _).alloc (by simp; omega) _
set_option maxHeartbeats 1000000 in
theorem encode_wrong (op rd rs1 rs2 imm csr a : Int) (w : World) (h : sh op ≠ 0) (ha : wf (sh op) rd rs1 rs2 csr = a) (hne : a ≠ 0) :
    Calls Try.prog 89 #[.agg #[.int .i64 op, .int .i64 rd, .int .i64 rs1, .int .i64 rs2, .int .i64 imm, .int .i64 csr]] w fun e w' => (∃ v, e = .returned (.tuple #[.int .u32 0, v]) ∧ FaultIn w' w.heap.size v a 22) ∧ Below w.heap.size w w' := by
  have hO := operationOf_any op
  have b := sh_bd op
  have hW := wrongField_any (sh op) op rd rs1 rs2 imm csr
  rw [ha] at hW
  generalize sh op = s at *
  generalize nm op = nmv at *
  generalize wd op = wdv at *
  have g0 : (s == 0) = false := by simpa using h
  have g1 : (a != 0) = true := by simpa using hne
  have hW := fun w => hW w (by omega) b.2
  clear ha h hne
  go_enter Try.func89, Try.ntmps89
  go_wp2_with fail
  refine (hO _).mono ?_
  rintro e w1 ⟨rfl, hb⟩
  clear hO
  obtain ⟨hc, hf⟩ := bcell hb
  have hz : w.heap.size < w1.heap.size := by have := hb.size; simp at this; omega
  go_wp2_with fail
  refine (hW _).mono ?_
  rintro e w2 ⟨rfl, hb2⟩
  clear hW
  obtain ⟨hc2, hf2⟩ := bcell hb2
  have hz2 : w1.heap.size < w2.heap.size := by have := hb2.size; simp at this; omega
  go_wp2_with fail
  refine (fault_any _ _ _).mono ?_
  rintro e w3 ⟨rfl, rfl⟩
  go_wp2
  go_ret2
  refine ⟨⟨_, rfl, ?_⟩, ?_⟩
  · exact faultIn_new w2 w.heap.size a 22 (by omega)
  · exact (((((Below.refl _ _).alloc (Nat.le_refl _) _).trans (hb.mono (by simp))).alloc (by omega) _).trans (hb2.mono (by simp; omega))).alloc (by omega) _
set_option maxHeartbeats 1000000 in
theorem encode_imm (op rd rs1 rs2 imm csr : Int) (w : World) (h : sh op ≠ 0) (ha : wf (sh op) rd rs1 rs2 csr = 0) (hne : tk (sh op) (pt (sh op) imm) ≠ imm) (p0 : 0 ≤ pt (sh op) imm) (p1 : pt (sh op) imm < 4294967296) :
    Calls Try.prog 89 #[.agg #[.int .i64 op, .int .i64 rd, .int .i64 rs1, .int .i64 rs2, .int .i64 imm, .int .i64 csr]] w fun e w' => (∃ v, e = .returned (.tuple #[.int .u32 0, v]) ∧ FaultIn w' w.heap.size v 4 23) ∧ Below w.heap.size w w' := by
  have hO := operationOf_any op
  have b := sh_bd op
  have hW := wrongField_any (sh op) op rd rs1 rs2 imm csr
  rw [ha] at hW
  generalize sh op = s at *
  generalize nm op = nmv at *
  generalize wd op = wdv at *
  have g0 : (s == 0) = false := by simpa using h
  have hW := fun w => hW w (by omega) b.2
  have hL := fun w => layout_any s w (by omega) b.2
  have hP := fun w => put_any s imm w (by omega) b.2
  have hT := fun w => take_any s (pt s imm) w (by omega) b.2 p0 p1
  have eP := putId_enters s (by omega) b.2
  have eT := takeId_enters s (by omega) b.2
  generalize takeId s = ti at *
  generalize putId s = pi at *
  generalize tk s (pt s imm) = tv at *
  generalize pt s imm = pv at *
  generalize fxb s = fv at *
  have g1 : (tv != imm) = true := by simpa using hne
  clear ha h hne
  go_enter Try.func89, Try.ntmps89
  go_wp2_with fail
  refine (hO _).mono ?_
  rintro e w1 ⟨rfl, hb⟩
  clear hO
  have hz : w.heap.size < w1.heap.size := by have := hb.size; simp at this; omega
  have r1 := row6_keep hb (by simp) (row6_new w (.int .i64 op) (.int .i64 rd) (.int .i64 rs1) (.int .i64 rs2) (.int .i64 imm) (.int .i64 csr) 49)
  have R1 := r1
  obtain ⟨k0, k1, k2, k3, k4, k5⟩ := r1
  go_wp2_with fail
  clear k0 k1 k2 k3 k4 k5
  refine (hW _).mono ?_
  rintro e w2 ⟨rfl, hb2⟩
  clear hW
  have hz2 : w1.heap.size < w2.heap.size := by have := hb2.size; simp at this; omega
  have hy2 : w.heap.size < w2.heap.size := by omega
  have r2 := row6_keep hb2 (by simp; omega) (row6_keep (below_past _ _) hz R1)
  have q2 := row3_keep hb2 (by simp) (row3_new w1 (.string nmv) (.int .i64 s) (.int .u32 wdv) 112)
  have R2 := r2
  have Q2 := q2
  obtain ⟨k0, k1, k2, k3, k4, k5⟩ := r2
  obtain ⟨l0, l1, l2⟩ := q2
  go_wp2_with fail
  clear k0 k1 k2 k3 k4 k5 l0 l1 l2
  refine (hL _).mono ?_
  rintro e w3 ⟨rfl, hb3⟩
  clear hL
  have hz3 : w2.heap.size ≤ w3.heap.size := hb3.size
  have hy3 : w.heap.size < w3.heap.size := by omega
  have hx3 : w1.heap.size < w3.heap.size := by omega
  have r3 := row6_keep hb3 hy2 R2
  have q3 := row3_keep hb3 hz2 Q2
  obtain ⟨k0, k1, k2, k3, k4, k5⟩ := r3
  obtain ⟨l0, l1, l2⟩ := q3
  clear R1 R2 Q2
  go_wp2_with fail
  refine (hP _).mono ?_
  rintro e w4 ⟨rfl, n4, rfl⟩
  clear hP eP
  go_wp2_with fail
  refine wp_region_quiet_lit (by kernel_rfl) (by kernel_rfl) ?_
  go_big_quiet_step (fail)
  go_big_quiet_step (fail)
  go_big_quiet_step (fail)
  refine wpQuiet_step (fun K hK => ?_)
  go_simp
  refine ⟨.int .i64 tv, fun a => (hT _).mono fun e w'' ⟨he, m, hm⟩ => ⟨he, a + m, by rw [hm, World.drewN_drewN, Nat.add_assoc]⟩, hK _ ?_⟩
  clear hK K hT eT
  repeat (go_big_quiet_step (fail))
  refine wpQuiet_nil ?_
  intro _ hw'
  obtain ⟨nq, hw''⟩ := hw'
  subst hw''
  go_wp2_with fail
  refine (fault_any _ _ _).mono ?_
  rintro e w5 ⟨rfl, rfl⟩
  go_wp2
  go_ret2
  refine ⟨⟨_, rfl, ?_⟩, ?_⟩
  · have := faultIn_new ((w3.alloc (.cells #[.int .u32 fv, .func (.func ti) #[] #[], .func (.func pi) #[] #[]] 119)).drewN (n4 + nq)) w.heap.size 4 23 (by simp; omega)
    simpa using this
  · exact (below_drewN ((((((below_past _ _).trans (hb.mono (by simp))).alloc (by omega) _).trans (hb2.mono (by simp; omega))).trans (hb3.mono (by omega))).alloc (by omega) _) _).alloc (by simp; omega) _
set_option maxHeartbeats 1000000 in
theorem encode_ok (op rd rs1 rs2 imm csr : Int) (w : World) (h : sh op ≠ 0) (ha : wf (sh op) rd rs1 rs2 csr = 0) (hne : tk (sh op) (pt (sh op) imm) = imm) (p0 : 0 ≤ pt (sh op) imm) (p1 : pt (sh op) imm < 4294967296) :
    Calls Try.prog 89 #[.agg #[.int .i64 op, .int .i64 rd, .int .i64 rs1, .int .i64 rs2, .int .i64 imm, .int .i64 csr]] w fun e w' => e = .returned (.tuple #[.int .u32 (bits .or .u32 (bits .or .u32 (wd op) (flds rd rs1 rs2 csr)) (pt (sh op) imm)), .nilIface]) ∧ Below w.heap.size w w' := by
  have hO := operationOf_any op
  have b := sh_bd op
  have hW := wrongField_any (sh op) op rd rs1 rs2 imm csr
  rw [ha] at hW
  generalize sh op = s at *
  generalize nm op = nmv at *
  generalize wd op = wdv at *
  have g0 : (s == 0) = false := by simpa using h
  have hW := fun w => hW w (by omega) b.2
  have hL := fun w => layout_any s w (by omega) b.2
  have hP := fun w => put_any s imm w (by omega) b.2
  have hT := fun w => take_any s (pt s imm) w (by omega) b.2 p0 p1
  have eP := putId_enters s (by omega) b.2
  have eT := takeId_enters s (by omega) b.2
  generalize takeId s = ti at *
  generalize putId s = pi at *
  generalize tk s (pt s imm) = tv at *
  generalize pt s imm = pv at *
  generalize fxb s = fv at *
  have g1 : (tv != imm) = false := by simpa using hne
  clear ha h hne
  go_enter Try.func89, Try.ntmps89
  go_wp2_with fail
  refine (hO _).mono ?_
  rintro e w1 ⟨rfl, hb⟩
  clear hO
  have hz : w.heap.size < w1.heap.size := by have := hb.size; simp at this; omega
  have r1 := row6_keep hb (by simp) (row6_new w (.int .i64 op) (.int .i64 rd) (.int .i64 rs1) (.int .i64 rs2) (.int .i64 imm) (.int .i64 csr) 49)
  have R1 := r1
  obtain ⟨k0, k1, k2, k3, k4, k5⟩ := r1
  go_wp2_with fail
  clear k0 k1 k2 k3 k4 k5
  refine (hW _).mono ?_
  rintro e w2 ⟨rfl, hb2⟩
  clear hW
  have hz2 : w1.heap.size < w2.heap.size := by have := hb2.size; simp at this; omega
  have hy2 : w.heap.size < w2.heap.size := by omega
  have r2 := row6_keep hb2 (by simp; omega) (row6_keep (below_past _ _) hz R1)
  have q2 := row3_keep hb2 (by simp) (row3_new w1 (.string nmv) (.int .i64 s) (.int .u32 wdv) 112)
  have R2 := r2
  have Q2 := q2
  obtain ⟨k0, k1, k2, k3, k4, k5⟩ := r2
  obtain ⟨l0, l1, l2⟩ := q2
  go_wp2_with fail
  clear k0 k1 k2 k3 k4 k5 l0 l1 l2
  refine (hL _).mono ?_
  rintro e w3 ⟨rfl, hb3⟩
  clear hL
  have hz3 : w2.heap.size ≤ w3.heap.size := hb3.size
  have hy3 : w.heap.size < w3.heap.size := by omega
  have hx3 : w1.heap.size < w3.heap.size := by omega
  have r3 := row6_keep hb3 hy2 R2
  have q3 := row3_keep hb3 hz2 Q2
  obtain ⟨k0, k1, k2, k3, k4, k5⟩ := r3
  obtain ⟨l0, l1, l2⟩ := q3
  clear R1 R2 Q2
  go_wp2_with fail
  refine (hP _).mono ?_
  rintro e w4 ⟨rfl, n4, rfl⟩
  clear hP eP
  go_wp2_with fail
  refine wp_region_quiet_lit (by kernel_rfl) (by kernel_rfl) ?_
  go_big_quiet_step (fail)
  go_big_quiet_step (fail)
  go_big_quiet_step (fail)
  refine wpQuiet_step (fun K hK => ?_)
  go_simp
  refine ⟨.int .i64 tv, fun a => (hT _).mono fun e w'' ⟨he, m, hm⟩ => ⟨he, a + m, by rw [hm, World.drewN_drewN, Nat.add_assoc]⟩, hK _ ?_⟩
  clear hK K hT eT
  repeat (go_big_quiet_step (fail))
  refine wpQuiet_nil ?_
  intro _ hw'
  obtain ⟨nq, hw''⟩ := hw'
  subst hw''
  go_wp2_with fail
  have hB : Below w.heap.size w (((w3.alloc (.cells #[.int .u32 fv, .func (.func ti) #[] #[], .func (.func pi) #[] #[]] 119)).drewN n4).drewN nq) := below_drewN (below_drewN ((((((below_past _ _).trans (hb.mono (by simp))).alloc (by omega) _).trans (hb2.mono (by simp; omega))).trans (hb3.mono (by omega))).alloc (by omega) _) _) _
  have x0 : w.heap.size < (((w3.alloc (.cells #[.int .u32 fv, .func (.func ti) #[] #[], .func (.func pi) #[] #[]] 119)).drewN n4).drewN nq).heap.size := by simp; omega
  have x1 : w1.heap.size < (((w3.alloc (.cells #[.int .u32 fv, .func (.func ti) #[] #[], .func (.func pi) #[] #[]] 119)).drewN n4).drewN nq).heap.size := by simp; omega
  have r4 := row6_keep (below_drewN (below_drewN (below_past w3 (.cells #[.int .u32 fv, .func (.func ti) #[] #[], .func (.func pi) #[] #[]] 119)) n4) nq) hy3 ⟨k0, k1, k2, k3, k4, k5⟩
  have q4 := row3_keep (below_drewN (below_drewN (below_past w3 (.cells #[.int .u32 fv, .func (.func ti) #[] #[], .func (.func pi) #[] #[]] 119)) n4) nq) hx3 ⟨l0, l1, l2⟩
  clear k0 k1 k2 k3 k4 k5 l0 l1 l2
  generalize ((w3.alloc (.cells #[.int .u32 fv, .func (.func ti) #[] #[], .func (.func pi) #[] #[]] 119)).drewN n4).drewN nq = X at *
  clear hb hb2 hb3 hz hz2 hy2 hz3 hy3 hx3
  obtain ⟨k0, k1, k2, k3, k4, k5⟩ := r4
  obtain ⟨l0, l1, l2⟩ := q4
  go_region_held3 (fun w' => w'.cell? ⟨w.heap.size, 0, .none⟩ = some (.int .i64 op) ∧ w'.cell? ⟨w.heap.size, 1, .none⟩ = some (.int .i64 rd) ∧ w'.cell? ⟨w.heap.size, 2, .none⟩ = some (.int .i64 rs1) ∧ w'.cell? ⟨w.heap.size, 3, .none⟩ = some (.int .i64 rs2) ∧ w'.cell? ⟨w.heap.size, 4, .none⟩ = some (.int .i64 imm) ∧ w'.cell? ⟨w.heap.size, 5, .none⟩ = some (.int .i64 csr) ∧ w'.cell? ⟨w1.heap.size, 2, .none⟩ = some (.int .u32 wdv)) (simp [go_sem, World.cell?_alloc_past, *])
    ((go_at_call 96; refine (putFields_any op rd rs1 rs2 imm csr _).mono ?_; rintro e w' ⟨rfl, rfl⟩))
  go_wp2
  go_ret2
  exact ⟨rfl, (hB.alloc (by omega) _).drew⟩
end Go.Proofs.Ythdahigckflohab
