import Derived.Test.YthdahigckflohabZLaid
namespace Go.Proofs.Ythdahigckflohab
open Go.RowKit
set_option linter.unusedVariables false
theorem ref_all : (List.range 77).all (fun n => let op : Int := n; let s := sh op; let o := rop op; let f3 := rf3 op; let f7 := rf7 op; let w := wd op
    decide (s = 0) || decide ((0 ≤ o ∧ o < 128) ∧ (0 ≤ f3 ∧ f3 < 8) ∧ (0 ≤ f7 ∧ f7 < 128) ∧ (s = 11 → rwd op = w) ∧ (s = 8 ∨ s = 9 → w = o) ∧ (s = 1 ∨ s = 4 ∨ s = 12 → w = o + f3 * 4096 + f7 * 33554432) ∧ (s = 3 → w = o + f3 * 4096 + f7 / 2 * 67108864)
      ∧ (s = 2 ∨ s = 5 ∨ s = 6 ∨ s = 7 ∨ s = 10 ∨ s = 13 ∨ s = 14 → w = o + f3 * 4096))) = true := by decide +kernel
theorem ref_at (op : Int) (hs : sh op ≠ 0) : (0 ≤ rop op ∧ rop op < 128) ∧ (0 ≤ rf3 op ∧ rf3 op < 8) ∧ (0 ≤ rf7 op ∧ rf7 op < 128) ∧ (sh op = 11 → rwd op = wd op) ∧ (sh op = 8 ∨ sh op = 9 → wd op = rop op) ∧ (sh op = 1 ∨ sh op = 4 ∨ sh op = 12 → wd op = rop op + rf3 op * 4096 + rf7 op * 33554432)
    ∧ (sh op = 3 → wd op = rop op + rf3 op * 4096 + rf7 op / 2 * 67108864) ∧ (sh op = 2 ∨ sh op = 5 ∨ sh op = 6 ∨ sh op = 7 ∨ sh op = 10 ∨ sh op = 13 ∨ sh op = 14 → wd op = rop op + rf3 op * 4096) := by
  have hop : ¬ (op < 1 ∨ 77 ≤ op) := fun h => hs (sh_out op h)
  have h := List.all_eq_true.1 ref_all op.toNat (by simp; omega)
  simp only [show (op.toNat : Int) = op by omega, Bool.or_eq_true, decide_eq_true_eq] at h
  exact h.resolve_left hs
theorem or_bd (a b : Int) : 0 ≤ bits .or .u32 a b ∧ bits .or .u32 a b < 4294967296 := by
  have e : bits .or .u32 a b = IntKind.u32.wrap (((BitVec.ofInt 32 a ||| BitVec.ofInt 32 b).toNat : Nat) : Int) := rfl
  rw [e, IntKind.wrap_u32]
  omega
theorem eS_bd (op rd rs1 rs2 imm csr : Int) (h : (refuse op rd rs1 rs2 imm csr).2 = 0) : 0 ≤ eS op rd rs1 rs2 imm csr ∧ eS op rd rs1 rs2 imm csr < 4294967296 := by
  obtain ⟨h1, h2, h3⟩ := (refuse_none _ _ _ _ _ _).1 h
  unfold eS
  rw [← enc_sum op rd rs1 rs2 imm csr h1 h2]
  exact or_bd _ _
theorem ret_w {a b : Int} (h : a = b) : Ending.returned (.tuple #[.int .u32 a, .bool true]) = .returned (.tuple #[.int .u32 b, .bool true]) := by rw [h]
theorem refuse_any (op rd rs1 rs2 imm csr : Int) (w : World) :
    Calls Try.prog 72 #[.agg #[.int .i64 op, .int .i64 rd, .int .i64 rs1, .int .i64 rs2, .int .i64 imm, .int .i64 csr]] w fun e w' => e = .returned (.tuple #[.int .i64 (refuse op rd rs1 rs2 imm csr).1, .int .i64 (refuse op rd rs1 rs2 imm csr).2]) ∧ Below w.heap.size w w' := by
  by_cases h : sh op = 0
  · have e : refuse op rd rs1 rs2 imm csr = (0, 21) := by simp [refuse, h]
    rw [e]
    exact rrefuse_out op rd rs1 rs2 imm csr w h
  · exact rrefuse_in op rd rs1 rs2 imm csr w h
end Go.Proofs.Ythdahigckflohab
