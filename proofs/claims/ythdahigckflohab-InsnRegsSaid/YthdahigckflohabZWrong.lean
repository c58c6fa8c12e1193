import Derived.Test.YthdahigckflohabZFld
namespace Go.Proofs.Ythdahigckflohab
open Go.RowKit
set_option linter.unusedVariables false
/-- The place of the first plain field that may not be. -/
def wf (s rd rs1 rs2 csr : Int) : Int :=
  if rd < 0 ∨ fRd s 4294967295 < rd then 1 else if rs1 < 0 ∨ fRs1 s 4294967295 < rs1 then 2 else if rs2 < 0 ∨ fRs2 s 4294967295 < rs2 then 3 else if csr < 0 ∨ fCsr s 4294967295 < csr then 5 else 0
set_option maxHeartbeats 2000000 in
theorem wrongField_any (s op rd rs1 rs2 imm csr : Int) (w : World) (hs0 : 1 ≤ s) (hs1 : s ≤ 14) :
    Calls Try.prog 94 #[.agg #[.int .i64 op, .int .i64 rd, .int .i64 rs1, .int .i64 rs2, .int .i64 imm, .int .i64 csr], .int .i64 s] w fun e w' => e = .returned (.int .i64 (wf s rd rs1 rs2 csr)) ∧ Below w.heap.size w w' := by
  have hF := fields_any s 4294967295
  unfold wf
  generalize fRd s 4294967295 = m1 at *
  generalize fRs1 s 4294967295 = m2 at *
  generalize fRs2 s 4294967295 = m3 at *
  generalize fCsr s 4294967295 = m5 at *
  go_enter Try.func94, Try.ntmps94
  go_wp2_with fail
  refine (hF _ hs0 hs1 (by decide) (by decide)).mono ?_
  rintro e w1 ⟨rfl, hb⟩
  clear hF
  obtain ⟨hc, hf⟩ := bcell hb
  have hz : w.heap.size < w1.heap.size := by have := hb.size; simp at this; omega
  go_wp2
  all_goals (go_ret; exact ⟨rfl, (((Below.refl _ _).alloc (Nat.le_refl _) _).trans (hb.mono (by simp))).alloc (by omega) _⟩)
end Go.Proofs.Ythdahigckflohab
