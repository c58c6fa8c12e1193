import Derived.Test.YtfafinjbobmafaaDoorDecW
namespace Go.Proofs.YtfafinjbobmafaaDoor
open Go.RowKit
set_option linter.unusedVariables false
set_option maxHeartbeats 1000000 in
theorem ms_eS (op rd rs1 rs2 imm csr : Int) (h : (refuse op rd rs1 rs2 imm csr).2 = 0) : ms (sh op) (eS op rd rs1 rs2 imm csr) = wd op := by
  obtain ⟨h1, h2, h3⟩ := (refuse_none _ _ _ _ _ _).1 h
  have K := word_keys op rd rs1 rs2 imm csr _ h1 h2 rfl
  have W := ms_wd op h1
  have b := sh_bd op
  obtain ⟨⟨a1, a2, a3⟩, ⟨b1, b2, b3⟩, ⟨c1, c2, c3⟩, ⟨d1, d2, d3⟩⟩ := wf_nums _ _ _ _ _ h2
  have hE : eS op rd rs1 rs2 imm csr = wd op + (rd * 128 + rs1 * 32768 + rs2 * 1048576 + csr * 1048576) + pt (sh op) imm := rfl
  rw [← hE] at K
  generalize eS op rd rs1 rs2 imm csr = E at *
  have hs14 := shapes14 (sh op) (by omega) b.2
  clear h h1 h2 h3
  generalize sh op = s at *
  generalize wd op = v at *
  rcases hs14 with rfl | rfl | rfl | rfl | rfl | rfl | rfl | rfl | rfl | rfl | rfl | rfl | rfl | rfl <;> simp [ms] at W K a3 b3 c3 d3 ⊢ <;> first | omega | (simp [pt] at hE; omega)
theorem or_bd (a b : Int) : 0 ≤ bits .or .u32 a b ∧ bits .or .u32 a b < 4294967296 := by
  have e : bits .or .u32 a b = IntKind.u32.wrap (((BitVec.ofInt 32 a ||| BitVec.ofInt 32 b).toNat : Nat) : Int) := rfl
  rw [e]
  have := (BitVec.ofInt 32 a ||| BitVec.ofInt 32 b).isLt
  generalize (BitVec.ofInt 32 a ||| BitVec.ofInt 32 b).toNat = n at *
  simp [IntKind.wrap, IntKind.signed, IntKind.bits]
  omega
theorem eS_bd (op rd rs1 rs2 imm csr : Int) (h : (refuse op rd rs1 rs2 imm csr).2 = 0) : 0 ≤ eS op rd rs1 rs2 imm csr ∧ eS op rd rs1 rs2 imm csr < 4294967296 := by
  obtain ⟨h1, h2, h3⟩ := (refuse_none _ _ _ _ _ _).1 h
  have := or_bd (bits .or .u32 (wd op) (flds rd rs1 rs2 csr)) (pt (sh op) imm)
  rw [enc_sum op rd rs1 rs2 imm csr h1 h2] at this
  exact this
theorem first_exists (x : Int) : ∃ op0, First x op0 := by
  have key : ∀ m : Nat, m ≤ 76 → (∃ op0, First x op0) ∨ (∀ k : Int, 1 ≤ k → k ≤ m → ms (sh k) x ≠ wd k) := by
    intro m
    induction m with
    | zero => intro _; exact .inr fun k h1 h2 => by omega
    | succ m ih =>
      intro hm
      rcases ih (by omega) with h | h
      · exact .inl h
      · by_cases hx : ms (sh ((m : Int) + 1)) x = wd ((m : Int) + 1)
        · exact .inl ⟨(m : Int) + 1, by omega, by omega, fun k h1 h2 => h k h1 (by omega), fun _ => hx⟩
        · refine .inr fun k h1 h2 => ?_
          by_cases hk : k = (m : Int) + 1
          · rw [hk]; exact hx
          · exact h k h1 (by omega)
  rcases key 76 (Nat.le_refl _) with h | h
  · exact h
  · exact ⟨77, by omega, by omega, fun k h1 h2 => h k h1 (by omega), fun h => by omega⟩
theorem first_eS (op rd rs1 rs2 imm csr : Int) (h : (refuse op rd rs1 rs2 imm csr).2 = 0) : First (eS op rd rs1 rs2 imm csr) op ∧ op ≤ 76 := by
  obtain ⟨h1, h2, h3⟩ := (refuse_none _ _ _ _ _ _).1 h
  have hop := (sh_iff op).1 h1
  have hb := eS_bd _ _ _ _ _ _ h
  refine ⟨⟨hop.1, by omega, fun k k1 k2 hk => ?_, fun _ => ms_eS _ _ _ _ _ _ h⟩, hop.2⟩
  have hs := sh_ne k k1 (by omega)
  have := eS_inj _ _ _ _ _ _ _ _ _ _ _ _ (guess_valid k _ hs hb) h ((guess_word k _ hs hb).2 hk)
  omega
/-- There: the word of an instruction is read as that instruction. -/
theorem there (op rd rs1 rs2 imm csr : Int) (h : (refuse op rd rs1 rs2 imm csr).2 = 0) (w : World) :
    Calls Tryd.prog 6 #[.int .u32 (eS op rd rs1 rs2 imm csr)] w fun e w' => e = .returned (.tuple #[.agg #[.int .i64 op, .int .i64 rd, .int .i64 rs1, .int .i64 rs2, .int .i64 imm, .int .i64 csr], .nilIface]) ∧ Below w.heap.size w w' := by
  have hb := eS_bd _ _ _ _ _ _ h
  have hf := first_eS _ _ _ _ _ _ h
  have hs := ((refuse_none _ _ _ _ _ _).1 h).1
  have hD := decode_some _ op w hb.1 hb.2 hf.1 hf.2
  obtain ⟨_, e1, e2, e3, e4, e5⟩ := eS_inj _ _ _ _ _ _ _ _ _ _ _ _ (guess_valid op _ hs hb) h ((guess_word op _ hs hb).2 (ms_eS _ _ _ _ _ _ h))
  rw [e1, e2, e3, e4, e5] at hD
  exact hD
/-- Back: what a word is read as has that word; and what it is. -/
theorem wd3_all : (List.range 77).all (fun n => let op : Int := n; decide (sh op = 0) || decide (wd op % 4 = 3)) = true := by decide +kernel
theorem wd3 (op : Int) (hs : sh op ≠ 0) : wd op % 4 = 3 := by
  have hop : ¬ (op < 1 ∨ 77 ≤ op) := fun h => hs (sh_out op h)
  have h := List.all_eq_true.1 wd3_all op.toNat (by simp; omega)
  simp only [show (op.toNat : Int) = op by omega, Bool.or_eq_true, decide_eq_true_eq] at h
  exact h.resolve_left hs
theorem and3 (x : Int) (hx : 0 ≤ x ∧ x < 4294967296) (h : x % 4 = 3) : bits .and .u32 x 3 = 3 := by
  obtain ⟨n, rfl⟩ : ∃ n : Nat, x = n := ⟨x.toNat, by omega⟩
  have e : bits .and .u32 (n : Int) 3 = IntKind.u32.wrap (((BitVec.ofInt 32 (n : Int) &&& BitVec.ofInt 32 3).toNat : Nat) : Int) := rfl
  have hn : n < 4294967296 := by omega
  have e2 : (BitVec.ofInt 32 (n : Int) &&& BitVec.ofInt 32 3).toNat = n % 4 := by
    rw [BitVec.toNat_and]
    have e3 : (BitVec.ofInt 32 (n : Int)).toNat = n := by simp; omega
    have e4 : (BitVec.ofInt 32 3).toNat = 2 ^ 2 - 1 := by decide
    rw [e3, e4, Nat.and_two_pow_sub_one_eq_mod]
  rw [e, e2, show n % 4 = 3 by omega]
  decide
theorem back (x op : Int) (hx : 0 ≤ x ∧ x < 4294967296) (hF : First x op) (hop : op ≤ 76) :
    ∃ d1 d2 d3 d4 d5 : Int, 1 ≤ op ∧ bits .and .u32 x 3 = 3 ∧
      (∀ w, Calls Tryd.prog 6 #[.int .u32 x] w fun e w' => e = .returned (.tuple #[.agg #[.int .i64 op, .int .i64 d1, .int .i64 d2, .int .i64 d3, .int .i64 d4, .int .i64 d5], .nilIface]) ∧ Below w.heap.size w w') ∧
      (∀ w, Calls Tryd.prog 5 #[.agg #[.int .i64 op, .int .i64 d1, .int .i64 d2, .int .i64 d3, .int .i64 d4, .int .i64 d5]] w fun e w' => e = .returned (.tuple #[.int .u32 x, .nilIface]) ∧ Below w.heap.size w w') := by
  have hs := sh_ne op hF.1 hop
  have b := sh_bd op
  have hm := hF.2.2.2 hop
  refine ⟨_, _, _, _, _, hF.1, ?_, fun w => decode_some x op w hx.1 hx.2 hF hop, fun w => ?_⟩
  · have := ms_low (sh op) x (by omega) b.2 hx
    have := wd3 op hs
    rw [hm] at *
    exact and3 x hx (by omega)
  · have := enc_yes op _ _ _ _ _ w (guess_valid op x hs hx)
    rw [(guess_word op x hs hx).2 hm] at this
    exact this
end Go.Proofs.YtfafinjbobmafaaDoor
