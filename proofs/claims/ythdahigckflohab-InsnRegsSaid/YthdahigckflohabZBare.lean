import Derived.Test.YthdahigckflohabZEnc
import Derived.Test.YthdahigckflohabZInj
namespace Go.Proofs.Ythdahigckflohab
open Go.RowKit
set_option linter.unusedVariables false
/-- The place and the number of what bars an instruction. -/
def refuse (op rd rs1 rs2 imm csr : Int) : Int × Int :=
  if sh op = 0 then (0, 21) else if wf (sh op) rd rs1 rs2 csr ≠ 0 then (wf (sh op) rd rs1 rs2 csr, 22) else if tk (sh op) (pt (sh op) imm) ≠ imm then (4, 23) else (0, 0)
def eS (op rd rs1 rs2 imm csr : Int) : Int := wd op + (rd * 128 + rs1 * 32768 + rs2 * 1048576 + csr * 1048576) + pt (sh op) imm
theorem refuse_none (op rd rs1 rs2 imm csr : Int) : (refuse op rd rs1 rs2 imm csr).2 = 0 ↔ sh op ≠ 0 ∧ wf (sh op) rd rs1 rs2 csr = 0 ∧ tk (sh op) (pt (sh op) imm) = imm := by
  unfold refuse
  by_cases h1 : sh op = 0
  · simp [h1]
  · by_cases h2 : wf (sh op) rd rs1 rs2 csr = 0
    · by_cases h3 : tk (sh op) (pt (sh op) imm) = imm
      · simp [h1, h2, h3]
      · simp [h1, h2, h3]
    · simp [h1, h2]
theorem enc_yes (op rd rs1 rs2 imm csr : Int) (w : World) (h : (refuse op rd rs1 rs2 imm csr).2 = 0) :
    Calls Try.prog 89 #[.agg #[.int .i64 op, .int .i64 rd, .int .i64 rs1, .int .i64 rs2, .int .i64 imm, .int .i64 csr]] w fun e w' => e = .returned (.tuple #[.int .u32 (eS op rd rs1 rs2 imm csr), .nilIface]) ∧ Below w.heap.size w w' := by
  obtain ⟨h1, h2, h3⟩ := (refuse_none _ _ _ _ _ _).1 h
  have := encode_ok op rd rs1 rs2 imm csr w h1 h2 h3 (pt_bd _ _).1 (pt_bd _ _).2
  rw [enc_sum op rd rs1 rs2 imm csr h1 h2] at this
  exact this
theorem enc_no (op rd rs1 rs2 imm csr : Int) (w : World) (h : (refuse op rd rs1 rs2 imm csr).2 ≠ 0) :
    Calls Try.prog 89 #[.agg #[.int .i64 op, .int .i64 rd, .int .i64 rs1, .int .i64 rs2, .int .i64 imm, .int .i64 csr]] w fun e w' =>
      (∃ v, e = .returned (.tuple #[.int .u32 0, v]) ∧ FaultIn w' w.heap.size v (refuse op rd rs1 rs2 imm csr).1 (refuse op rd rs1 rs2 imm csr).2) ∧ Below w.heap.size w w' := by
  by_cases h1 : sh op = 0
  · have e : refuse op rd rs1 rs2 imm csr = (0, 21) := by simp [refuse, h1]
    rw [e]
    exact encode_noOp op rd rs1 rs2 imm csr w h1
  · by_cases h2 : wf (sh op) rd rs1 rs2 csr = 0
    · by_cases h3 : tk (sh op) (pt (sh op) imm) = imm
      · exact absurd ((refuse_none _ _ _ _ _ _).2 ⟨h1, h2, h3⟩) h
      · have e : refuse op rd rs1 rs2 imm csr = (4, 23) := by simp [refuse, h1, h2, h3]
        rw [e]
        exact encode_imm op rd rs1 rs2 imm csr w h1 h2 h3 (pt_bd _ _).1 (pt_bd _ _).2
    · have e : refuse op rd rs1 rs2 imm csr = (wf (sh op) rd rs1 rs2 csr, 22) := by simp [refuse, h1, h2]
      rw [e]
      exact encode_wrong op rd rs1 rs2 imm csr _ w h1 rfl h2
theorem eS_inj (op rd rs1 rs2 imm csr op' rd' rs1' rs2' imm' csr' : Int) (h : (refuse op rd rs1 rs2 imm csr).2 = 0) (h' : (refuse op' rd' rs1' rs2' imm' csr').2 = 0)
    (he : eS op rd rs1 rs2 imm csr = eS op' rd' rs1' rs2' imm' csr') : op = op' ∧ rd = rd' ∧ rs1 = rs1' ∧ rs2 = rs2' ∧ imm = imm' ∧ csr = csr' := by
  obtain ⟨h1, h2, h3⟩ := (refuse_none _ _ _ _ _ _).1 h
  obtain ⟨h1', h2', h3'⟩ := (refuse_none _ _ _ _ _ _).1 h'
  exact enc_inj op rd rs1 rs2 imm csr op' rd' rs1' rs2' imm' csr' h1 h1' h2 h2' h3 h3' he
theorem two_boxes (w : World) (c0 c1 c2 c3 c4 c5 d0 d1 d2 d3 d4 d5 : Value) (t t' : TypeId) :
    Row6 ((w.alloc (.cells #[c0, c1, c2, c3, c4, c5] t)).alloc (.cells #[d0, d1, d2, d3, d4, d5] t')) w.heap.size c0 c1 c2 c3 c4 c5 ∧ Row6 ((w.alloc (.cells #[c0, c1, c2, c3, c4, c5] t)).alloc (.cells #[d0, d1, d2, d3, d4, d5] t')) (w.heap.size + 1) d0 d1 d2 d3 d4 d5 := by
  refine ⟨⟨?_, ?_, ?_, ?_, ?_, ?_⟩, ⟨?_, ?_, ?_, ?_, ?_, ?_⟩⟩ <;> simp
theorem enc_bad (op rd rs1 rs2 imm csr : Int) (w : World) (h : (refuse op rd rs1 rs2 imm csr).2 ≠ 0) :
    Calls Try.prog 89 #[.agg #[.int .i64 op, .int .i64 rd, .int .i64 rs1, .int .i64 rs2, .int .i64 imm, .int .i64 csr]] w fun e w' => (∃ b, e = .returned (.tuple #[.int .u32 0, .iface 69 (.pointer (some ⟨b, 0, .none⟩))])) ∧ Below w.heap.size w w' :=
  (enc_no op rd rs1 rs2 imm csr w h).mono fun e w' ⟨⟨v, he, b, _, _, hv, _⟩, hb⟩ => ⟨⟨b, by rw [he, hv]⟩, hb⟩
end Go.Proofs.Ythdahigckflohab
