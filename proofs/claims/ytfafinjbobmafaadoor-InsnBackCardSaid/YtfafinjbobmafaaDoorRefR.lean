import Derived.Test.YtfafinjbobmafaaDoorBack
namespace Go.Proofs.YtfafinjbobmafaaDoor
open Go.RowKit
set_option linter.unusedVariables false
theorem rsh_all : (List.range 77).all (fun n => decide (rsh (n : Int) = sh (n : Int))) = true := by decide +kernel
theorem rsh_eq (op : Int) : rsh op = sh op := by
  by_cases h : op < 1 ∨ 77 ≤ op
  · rw [sh_out op h]; unfold rsh; rw [refRow_out op h]; rfl
  · have := List.all_eq_true.1 rsh_all op.toNat (by simp; omega)
    rw [show (op.toNat : Int) = op by omega] at this
    simpa using this
theorem sh_zero_all : (List.range 76).all (fun n => decide (sh ((n : Int) + 1) ≠ 0)) = true := by decide +kernel
theorem sh_iff (op : Int) : sh op ≠ 0 ↔ 1 ≤ op ∧ op ≤ 76 := by
  constructor
  · intro h
    have : ¬ (op < 1 ∨ 77 ≤ op) := fun x => h (sh_out op x)
    omega
  · intro h
    have := List.all_eq_true.1 sh_zero_all (op - 1).toNat (by simp; omega)
    rw [show (((op - 1).toNat : Nat) : Int) + 1 = op by omega] at this
    simpa using this
theorem bad1 (s rd : Int) : (rd < 0 ∨ fRd s 4294967295 < rd) ↔ fieldB (hRd s) rd 31 = false := by
  obtain ⟨m1, m2, m3, m4⟩ := m31
  unfold fRd fieldB hRd
  rw [m1]
  by_cases h : s = 6 ∨ s = 7 ∨ s = 11 ∨ s = 12
  · simp [h]; omega
  · simp [h]; omega
theorem bad2 (s rd : Int) : (rd < 0 ∨ fRs1 s 4294967295 < rd) ↔ fieldB (hRs1 s) rd 31 = false := by
  obtain ⟨m1, m2, m3, m4⟩ := m31
  unfold fRs1 fieldB hRs1
  rw [m2]
  by_cases h : s = 8 ∨ s = 9 ∨ s = 11 ∨ s = 14
  · simp [h]; omega
  · simp [h]; omega
theorem bad3 (s rd : Int) : (rd < 0 ∨ fRs2 s 4294967295 < rd) ↔ fieldB (hRs2 s) rd 31 = false := by
  obtain ⟨m1, m2, m3, m4⟩ := m31
  unfold fRs2 fieldB hRs2
  rw [m3]
  by_cases h : s = 1 ∨ s = 6 ∨ s = 7 ∨ s = 12
  · simp [h]; omega
  · simp [h]; omega
theorem bad5 (s rd : Int) : (rd < 0 ∨ fCsr s 4294967295 < rd) ↔ fieldB (hCsr s) rd 4095 = false := by
  obtain ⟨m1, m2, m3, m4⟩ := m31
  unfold fCsr fieldB hCsr
  rw [m4]
  by_cases h : s = 13 ∨ s = 14
  · simp [h]; omega
  · simp [h]; omega
/-- The same refusal, by the document's tests. -/
theorem refuse_eq (op rd rs1 rs2 imm csr : Int) (h : sh op ≠ 0) : refuse op rd rs1 rs2 imm csr =
    if fieldB (hRd (sh op)) rd 31 = false then (1, 22) else if fieldB (hRs1 (sh op)) rs1 31 = false then (2, 22) else if fieldB (hRs2 (sh op)) rs2 31 = false then (3, 22) else if fieldB (hCsr (sh op)) csr 4095 = false then (5, 22)
    else if tk (sh op) (pt (sh op) imm) ≠ imm then (4, 23) else (0, 0) := by
  unfold refuse wf
  rw [if_neg h]
  simp only [bad1, bad2, bad3, bad5]
  by_cases h1 : fieldB (hRd (sh op)) rd 31 = false
  · simp [h1]
  · by_cases h2 : fieldB (hRs1 (sh op)) rs1 31 = false
    · simp [h1, h2]
    · by_cases h3 : fieldB (hRs2 (sh op)) rs2 31 = false
      · simp [h1, h2, h3]
      · by_cases h5 : fieldB (hCsr (sh op)) csr 4095 = false
        · simp [h1, h2, h3, h5]
        · simp [h1, h2, h3, h5]
theorem row5_new (w : World) (c0 c1 c2 c3 c4 : Value) (t : TypeId) : (w.alloc (.cells #[c0, c1, c2, c3, c4] t)).cell? ⟨w.heap.size, 0, .none⟩ = some c0 := by simp
end Go.Proofs.YtfafinjbobmafaaDoor
