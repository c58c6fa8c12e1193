import Derived.Test.YthdahigckflohabZBare
import Derived.Test.YthdahigckflohabZREnc
namespace Go.Proofs.Ythdahigckflohab
open Go.RowKit
set_option linter.unusedVariables false
/-- Do the register fields of an instruction count? -/
def uses (op rd rs1 rs2 imm csr : Int) : Bool := decide ((refuse op rd rs1 rs2 imm csr).2 = 0) && decide (sh op ≠ 10)
set_option maxHeartbeats 1000000 in
theorem uses_any (op rd rs1 rs2 imm csr : Int) (w : World) :
    Calls Try.prog 75 #[.agg #[.int .i64 op, .int .i64 rd, .int .i64 rs1, .int .i64 rs2, .int .i64 imm, .int .i64 csr]] w fun e w' => e = .returned (.bool (uses op rd rs1 rs2 imm csr)) ∧ Below w.heap.size w w' := by
  by_cases h : (refuse op rd rs1 rs2 imm csr).2 = 0
  · have c1 := fun w => enc_yes _ _ _ _ _ _ w h
    have c2 := shape_any op
    by_cases hs : sh op = 10
    · have e : uses op rd rs1 rs2 imm csr = false := by simp [uses, hs]
      rw [e]
      rw [hs] at c2
      clear h hs e
      go_enter Try.func75, Try.ntmps75
      go_wp2_with fail
      refine (c1 _).mono ?_
      rintro e w1 ⟨rfl, hb1⟩
      have z1 := hb1.size
      simp only [World.size_alloc] at z1
      obtain ⟨k0, k1, k2, k3, k4, k5⟩ := row6_keep hb1 (by simp only [World.size_alloc]; omega) (row6_new w (.int .i64 op) (.int .i64 rd) (.int .i64 rs1) (.int .i64 rs2) (.int .i64 imm) (.int .i64 csr) 49)
      have hB1 : Below w.heap.size w w1 := (below_past _ _).trans (hb1.mono (by simp only [World.size_alloc]; omega))
      clear hb1 c1
      go_wp2_with fail
      refine (c2 _).mono ?_
      rintro e w2 ⟨rfl, hb2⟩
      have hB2 := bseq hB1 hb2
      clear hb2 hB1 c2 k0 k1 k2 k3 k4 k5
      go_wp2
      go_ret
      exact ⟨rfl, hB2⟩
    · have e : uses op rd rs1 rs2 imm csr = true := by simp [uses, hs, h]
      have g : (sh op == 10) = false := by simpa using hs
      rw [e]
      clear h hs e
      go_enter Try.func75, Try.ntmps75
      go_wp2_with fail
      refine (c1 _).mono ?_
      rintro e w1 ⟨rfl, hb1⟩
      have z1 := hb1.size
      simp only [World.size_alloc] at z1
      obtain ⟨k0, k1, k2, k3, k4, k5⟩ := row6_keep hb1 (by simp only [World.size_alloc]; omega) (row6_new w (.int .i64 op) (.int .i64 rd) (.int .i64 rs1) (.int .i64 rs2) (.int .i64 imm) (.int .i64 csr) 49)
      have hB1 : Below w.heap.size w w1 := (below_past _ _).trans (hb1.mono (by simp only [World.size_alloc]; omega))
      clear hb1 c1
      go_wp2_with fail
      refine (c2 _).mono ?_
      rintro e w2 ⟨rfl, hb2⟩
      have hB2 := bseq hB1 hb2
      clear hb2 hB1 c2 k0 k1 k2 k3 k4 k5
      go_wp2
      go_ret
      exact ⟨by simp; simpa using g, hB2⟩
  · have c1 := fun w => enc_bad _ _ _ _ _ _ w h
    have e : uses op rd rs1 rs2 imm csr = false := by simp [uses, h]
    rw [e]
    clear h e
    go_enter Try.func75, Try.ntmps75
    go_wp2_with fail
    refine (c1 _).mono ?_
    rintro e w1 ⟨⟨b, rfl⟩, hb1⟩
    have hB1 : Below w.heap.size w w1 := (below_past _ _).trans (hb1.mono (by simp only [World.size_alloc]; omega))
    clear hb1 c1
    go_wp2
    go_ret
    exact ⟨rfl, hB1⟩
set_option maxHeartbeats 1000000 in
theorem writes_any (op rd rs1 rs2 imm csr : Int) (w : World) :
    Calls Try.prog 31 #[.agg #[.int .i64 op, .int .i64 rd, .int .i64 rs1, .int .i64 rs2, .int .i64 imm, .int .i64 csr]] w fun e w' => e = .returned (.int .i64 (if uses op rd rs1 rs2 imm csr then rd else 0)) ∧ Below w.heap.size w w' := by
  have c1 := uses_any op rd rs1 rs2 imm csr
  cases hu : uses op rd rs1 rs2 imm csr with
  | true =>
    rw [hu] at c1
    clear hu
    go_enter Try.func31, Try.ntmps31
    go_wp2_with fail
    refine (c1 _).mono ?_
    rintro e w1 ⟨rfl, hb1⟩
    have z1 := hb1.size
    simp only [World.size_alloc] at z1
    obtain ⟨k0, k1, k2, k3, k4, k5⟩ := row6_keep hb1 (by simp only [World.size_alloc]; omega) (row6_new w (.int .i64 op) (.int .i64 rd) (.int .i64 rs1) (.int .i64 rs2) (.int .i64 imm) (.int .i64 csr) 49)
    have hB1 : Below w.heap.size w w1 := (below_past _ _).trans (hb1.mono (by simp only [World.size_alloc]; omega))
    clear hb1 c1
    go_wp2
    go_ret
    exact ⟨rfl, hB1⟩
  | false =>
    rw [hu] at c1
    clear hu
    go_enter Try.func31, Try.ntmps31
    go_wp2_with fail
    refine (c1 _).mono ?_
    rintro e w1 ⟨rfl, hb1⟩
    have hB1 : Below w.heap.size w w1 := (below_past _ _).trans (hb1.mono (by simp only [World.size_alloc]; omega))
    clear hb1 c1
    go_wp2
    go_ret
    exact ⟨rfl, hB1⟩
end Go.Proofs.Ythdahigckflohab
