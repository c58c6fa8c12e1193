import Derived.Test.YtfafinjbobmafaaIsA
import Derived.Test.YtfafinjbobmafaaREnc
namespace Go.Proofs.Ytfafinjbobmafaa
open Go.RowKit
set_option linter.unusedVariables false
theorem faultIn_keep {W w' : World} {B : Nat} {v : Value} {a r : Int} (h : Below W.heap.size W w') (hF : FaultIn W B v a r) : FaultIn w' 0 v a r := by
  obtain ⟨b, _, hb, hv, f0, f1, f2⟩ := hF
  exact ⟨b, Nat.zero_le _, Nat.lt_of_lt_of_le hb h.size, hv, (h.cell hb).trans f0, (h.cell hb).trans f1, (h.cell hb).trans f2⟩
/-- Six cells in a row, from a place of a block on. -/
def Row6At (w : World) (b off : Nat) (c0 c1 c2 c3 c4 c5 : Value) : Prop :=
  w.cell? ⟨b, off, .none⟩ = some c0 ∧ w.cell? ⟨b, off + 1, .none⟩ = some c1 ∧ w.cell? ⟨b, off + 2, .none⟩ = some c2 ∧ w.cell? ⟨b, off + 3, .none⟩ = some c3 ∧ w.cell? ⟨b, off + 4, .none⟩ = some c4 ∧ w.cell? ⟨b, off + 5, .none⟩ = some c5
theorem row6At_keep {B : Nat} {W w' : World} {b off : Nat} {c0 c1 c2 c3 c4 c5 : Value} (h : Below B W w') (hb : b < B) (k : Row6At W b off c0 c1 c2 c3 c4 c5) : Row6At w' b off c0 c1 c2 c3 c4 c5 := by
  obtain ⟨k0, k1, k2, k3, k4, k5⟩ := k
  exact ⟨(h.cell hb).trans k0, (h.cell hb).trans k1, (h.cell hb).trans k2, (h.cell hb).trans k3, (h.cell hb).trans k4, (h.cell hb).trans k5⟩
/-- A slice of instructions that came in. -/
def IsInsns (w : World) (a0 : Option Addr) (len : Nat) : Prop :=
  len = 0 ∨ ∃ b off, a0 = some ⟨b, off, .none⟩ ∧ b < w.heap.size ∧ ∀ i, i < len → ∃ op rd rs1 rs2 imm csr : Int, Row6At w b (off + i * 6) (.int .i64 op) (.int .i64 rd) (.int .i64 rs1) (.int .i64 rs2) (.int .i64 imm) (.int .i64 csr)
set_option maxHeartbeats 2000000 in
theorem encodes_walk (a0 : Option Addr) (len cap : Nat) (w : World) (hlen : len ≤ maxLen) (h : IsInsns w a0 len) :
    Calls Try.prog 6 #[.slice a0 len cap] w fun e w' => e = .returned (.bool true) ∧ Below w.heap.size w w' := by
  unfold maxLen at hlen
  have H : Hid (IsInsns w a0 len) := h
  clear h
  go_enter Try.func6, Try.ntmps6
  go_wp2
  go_loopw [3] (fun k wr => ∃ n : Nat, n ≤ len ∧ k = .int .i64 n ∧ Below w.heap.size w wr) (fun k _ => len - (intOf k).toNat)
  case atStart => exact ⟨0, Nat.zero_le _, rfl, Below.refl _ _⟩
  case round =>
    obtain ⟨n, hn, rfl, hB⟩ := hrel
    by_cases hlt : n < len
    · by_cases h400 : n < 400
      · rcases H.out with h | ⟨b, off, rfl, hbw, hrows⟩
        · omega
        obtain ⟨op, rd, rs1, rs2, imm, csr, hrow⟩ := hrows n hlt
        clear H hrows
        have r0 := row6At_keep hB hbw hrow
        have e1 : (n : Int) < (len : Int) := by omega
        have e2 : (n : Int) < 400 := by omega
        by_cases hv : (refuse op rd rs1 rs2 imm csr).2 = 0
        · have c1 := fun w => enc_yes op rd rs1 rs2 imm csr w hv
          have c2 := fun w => rencode_yes op rd rs1 rs2 imm csr w hv
          have c3 := refuse_any op rd rs1 rs2 imm csr
          rw [hv] at c3
          clear hv
          generalize eS op rd rs1 rs2 imm csr = E at *
          generalize (refuse op rd rs1 rs2 imm csr).1 = A at *
          have R := r0
          obtain ⟨k0, k1, k2, k3, k4, k5⟩ := r0
          go_wp2_with fail
          clear k0 k1 k2 k3 k4 k5
          refine (c1 _).mono ?_
          rintro e w1 ⟨rfl, hb1⟩
          clear c1
          have z1 := hb1.size
          have hx := hB.size
          have r1 := row6At_keep hb1 (by omega) R
          have R1 := r1
          obtain ⟨k0, k1, k2, k3, k4, k5⟩ := r1
          go_wp2_with fail
          clear k0 k1 k2 k3 k4 k5
          refine (c2 _).mono ?_
          rintro e w2 ⟨rfl, hb2⟩
          clear c2
          have z2 := hb2.size
          have r2 := row6At_keep hb2 (by omega) R1
          obtain ⟨k0, k1, k2, k3, k4, k5⟩ := r2
          go_wp2_with fail
          clear k0 k1 k2 k3 k4 k5 R R1
          refine (c3 _).mono ?_
          rintro e w3 ⟨rfl, hb3⟩
          clear c3
          have z3 := hb3.size
          go_wp2_with fail
          refine (lfault_none _ _).mono ?_
          rintro e w4 ⟨rfl, hb4⟩
          have z4 := hb4.size
          go_wp2_with fail
          refine (is_none _).mono ?_
          rintro e w5 ⟨rfl, hb5⟩
          go_wp2
          exact ⟨⟨n + 1, by omega, by go_num, bseq (bseq (bseq (bseq (bseq hB hb1) hb2) hb3) hb4) hb5⟩, by simp [intOf]; omega⟩
        · have c1 := fun w => enc_no op rd rs1 rs2 imm csr w hv
          have c2 := fun w => rencode_no op rd rs1 rs2 imm csr w hv
          have c3 := refuse_any op rd rs1 rs2 imm csr
          generalize (refuse op rd rs1 rs2 imm csr).1 = A at *
          generalize (refuse op rd rs1 rs2 imm csr).2 = r at *
          have R := r0
          obtain ⟨k0, k1, k2, k3, k4, k5⟩ := r0
          go_wp2_with fail
          clear k0 k1 k2 k3 k4 k5
          refine (c1 _).mono ?_
          rintro e w1 ⟨⟨v, rfl, hF⟩, hb1⟩
          clear c1
          have z1 := hb1.size
          have hx := hB.size
          have r1 := row6At_keep hb1 (by omega) R
          have R1 := r1
          obtain ⟨k0, k1, k2, k3, k4, k5⟩ := r1
          go_wp2_with fail
          clear k0 k1 k2 k3 k4 k5
          refine (c2 _).mono ?_
          rintro e w2 ⟨rfl, hb2⟩
          clear c2
          have z2 := hb2.size
          have r2 := row6At_keep hb2 (by omega) R1
          obtain ⟨k0, k1, k2, k3, k4, k5⟩ := r2
          go_wp2_with fail
          clear k0 k1 k2 k3 k4 k5 R R1
          refine (c3 _).mono ?_
          rintro e w3 ⟨rfl, hb3⟩
          clear c3
          have z3 := hb3.size
          go_wp2_with fail
          refine (lfault_new A r _ hv).mono ?_
          rintro e w4 ⟨⟨B, _, hB4, rfl, q0, q1⟩, hb4⟩
          have z4 := hb4.size
          have hF4 := faultIn_keep (bseq (bseq hb2 hb3) hb4) hF
          have hI := is_fault v B 1 A r w4 hF4 hv hB4 q0 q1
          clear hF hF4 q0 q1
          go_wp2_with fail
          refine hI.mono ?_
          rintro e w5 ⟨rfl, hb5⟩
          clear hI
          go_wp2
          exact ⟨⟨n + 1, by omega, by go_num, bseq (bseq (bseq (bseq (bseq hB hb1) hb2) hb3) hb4) hb5⟩, by simp [intOf]; omega⟩
      · have e1 : (n : Int) < (len : Int) := by omega
        have e2 : decide ((n : Int) < 400) = false := by simp; omega
        clear H
        go_wp2
        go_ret
        exact ⟨rfl, hB⟩
    · have e1 : decide ((n : Int) < (len : Int)) = false := by simp; omega
      clear H
      go_wp2
      go_ret
      exact ⟨rfl, hB⟩
end Go.Proofs.Ytfafinjbobmafaa
