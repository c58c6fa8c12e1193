import Derived.Test.YtfafinjbobmafabEnc
import Derived.Test.YtfafinjbobmafabInj
namespace Go.Proofs.Ytfafinjbobmafab
open Go.RowKit
set_option linter.unusedVariables false
/-- The place and the number of what bars an instruction. -/
def refuse (op rd rs1 rs2 imm csr : Int) : Int × Int :=
  if sh op = 0 then (0, 21) else if wf (sh op) rd rs1 rs2 csr ≠ 0 then (wf (sh op) rd rs1 rs2 csr, 22) else if tk (sh op) (pt (sh op) imm) ≠ imm then (4, 23) else (0, 0)
def eS (op rd rs1 rs2 imm csr : Int) : Int := wd op + (rd * 128 + rs1 * 32768 + rs2 * 1048576 + csr * 1048576) + pt (sh op) imm
theorem refuse_none (op rd rs1 rs2 imm csr : Int) : (refuse op rd rs1 rs2 imm csr).2 = 0 ↔ sh op ≠ 0 ∧ wf (sh op) rd rs1 rs2 csr = 0 ∧ tk (sh op) (pt (sh op) imm) = imm := by
  unfold refuse
  by_cases h1 : sh op = 0
  · simp [h1]
  · by_cases h2 : wf (sh op) rd rs1 rs2 csr = 0
    · by_cases h3 : tk (sh op) (pt (sh op) imm) = imm
      · simp [h1, h2, h3]
      · simp [h1, h2, h3]
    · simp [h1, h2]
theorem eS_inj (op rd rs1 rs2 imm csr op' rd' rs1' rs2' imm' csr' : Int) (h : (refuse op rd rs1 rs2 imm csr).2 = 0) (h' : (refuse op' rd' rs1' rs2' imm' csr').2 = 0)
    (he : eS op rd rs1 rs2 imm csr = eS op' rd' rs1' rs2' imm' csr') : op = op' ∧ rd = rd' ∧ rs1 = rs1' ∧ rs2 = rs2' ∧ imm = imm' ∧ csr = csr' := by
  obtain ⟨h1, h2, h3⟩ := (refuse_none _ _ _ _ _ _).1 h
  obtain ⟨h1', h2', h3'⟩ := (refuse_none _ _ _ _ _ _).1 h'
  exact enc_inj op rd rs1 rs2 imm csr op' rd' rs1' rs2' imm' csr' h1 h1' h2 h2' h3 h3' he
theorem two_boxes (w : World) (c0 c1 c2 c3 c4 c5 d0 d1 d2 d3 d4 d5 : Value) (t t' : TypeId) :
    Row6 ((w.alloc (.cells #[c0, c1, c2, c3, c4, c5] t)).alloc (.cells #[d0, d1, d2, d3, d4, d5] t')) w.heap.size c0 c1 c2 c3 c4 c5 ∧ Row6 ((w.alloc (.cells #[c0, c1, c2, c3, c4, c5] t)).alloc (.cells #[d0, d1, d2, d3, d4, d5] t')) (w.heap.size + 1) d0 d1 d2 d3 d4 d5 := by
  refine ⟨⟨?_, ?_, ?_, ?_, ?_, ?_⟩, ⟨?_, ?_, ?_, ?_, ?_, ?_⟩⟩ <;> simp
end Go.Proofs.Ytfafinjbobmafab
