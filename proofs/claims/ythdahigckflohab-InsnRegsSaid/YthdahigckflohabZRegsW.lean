import Derived.Test.YthdahigckflohabZRegs
namespace Go.Proofs.Ythdahigckflohab
open Go.RowKit
set_option linter.unusedVariables false
/-- Six cells in a row, from a place of a block on. -/
def Row6At (w : World) (b off : Nat) (c0 c1 c2 c3 c4 c5 : Value) : Prop :=
  w.cell? ⟨b, off, .none⟩ = some c0 ∧ w.cell? ⟨b, off + 1, .none⟩ = some c1 ∧ w.cell? ⟨b, off + 2, .none⟩ = some c2 ∧ w.cell? ⟨b, off + 3, .none⟩ = some c3 ∧ w.cell? ⟨b, off + 4, .none⟩ = some c4 ∧ w.cell? ⟨b, off + 5, .none⟩ = some c5
theorem row6At_keep {B : Nat} {W w' : World} {b off : Nat} {c0 c1 c2 c3 c4 c5 : Value} (h : Below B W w') (hb : b < B) (k : Row6At W b off c0 c1 c2 c3 c4 c5) : Row6At w' b off c0 c1 c2 c3 c4 c5 := by
  obtain ⟨k0, k1, k2, k3, k4, k5⟩ := k
  exact ⟨(h.cell hb).trans k0, (h.cell hb).trans k1, (h.cell hb).trans k2, (h.cell hb).trans k3, (h.cell hb).trans k4, (h.cell hb).trans k5⟩
/-- A slice of instructions that came in. -/
def IsInsns (w : World) (a0 : Option Addr) (len : Nat) : Prop :=
  len = 0 ∨ ∃ b off, a0 = some ⟨b, off, .none⟩ ∧ b < w.heap.size ∧ ∀ i, i < len → ∃ op rd rs1 rs2 imm csr : Int, Row6At w b (off + i * 6) (.int .i64 op) (.int .i64 rd) (.int .i64 rs1) (.int .i64 rs2) (.int .i64 imm) (.int .i64 csr)
set_option maxHeartbeats 2000000 in
theorem insnRegs_walk (a0 : Option Addr) (len cap : Nat) (w : World) (hlen : len ≤ maxLen) (h : IsInsns w a0 len) :
    Calls Try.prog 8 #[.slice a0 len cap] w fun e w' => e = .returned (.bool true) ∧ Below w.heap.size w w' := by
  unfold maxLen at hlen
  have H : Hid (IsInsns w a0 len) := h
  clear h
  go_enter Try.func8, Try.ntmps8
  go_wp2
  go_loopw [3] (fun k wr => ∃ n : Nat, n ≤ len ∧ k = .int .i64 n ∧ Below w.heap.size w wr) (fun k _ => len - (intOf k).toNat)
  case atStart => exact ⟨0, Nat.zero_le _, rfl, Below.refl _ _⟩
  case round =>
    obtain ⟨n, hn, rfl, hB⟩ := hrel
    by_cases hlt : n < len
    · by_cases h400 : n < 400
      · rcases H.out with h | ⟨b, off, rfl, hbw, hrows⟩
        · omega
        obtain ⟨op, rd, rs1, rs2, imm, csr, hrow⟩ := hrows n hlt
        clear H hrows
        have r0 := row6At_keep hB hbw hrow
        have e1 : (n : Int) < (len : Int) := by omega
        have e2 : (n : Int) < 400 := by omega
        have c1 := fun w => regs_any op rd rs1 rs2 imm csr w
        have HB : Hid (Below w.heap.size w wr) := hB
        have hx := hB.size
        have y : b < wr.heap.size := by omega
        clear hB
        obtain ⟨k0, k1, k2, k3, k4, k5⟩ := r0
        go_wp2_with fail
        clear k0 k1 k2 k3 k4 k5
        refine (c1 _).mono ?_
        rintro e w1 ⟨rfl, hb1⟩
        clear c1
        go_wp2
        exact ⟨⟨n + 1, by omega, by go_num, bseq HB.out hb1⟩, by simp [intOf]; omega⟩
      · have e1 : (n : Int) < (len : Int) := by omega
        have e2 : decide ((n : Int) < 400) = false := by simp; omega
        clear H
        go_wp2
        go_ret
        exact ⟨rfl, hB⟩
    · have e1 : decide ((n : Int) < (len : Int)) = false := by simp; omega
      clear H
      go_wp2
      go_ret
      exact ⟨rfl, hB⟩
end Go.Proofs.Ythdahigckflohab
