import Derived.Test.YtfafinjbobmafabLaid
namespace Go.Proofs.Ytfafinjbobmafab
open Go.RowKit
set_option linter.unusedVariables false
theorem ref_all : (List.range 77).all (fun n => let op : Int := n; let s := sh op; let o := rop op; let f3 := rf3 op; let f7 := rf7 op; let w := wd op
    decide (s = 0) || decide ((0 ≤ o ∧ o < 128) ∧ (0 ≤ f3 ∧ f3 < 8) ∧ (0 ≤ f7 ∧ f7 < 128) ∧ (s = 11 → rwd op = w) ∧ (s = 8 ∨ s = 9 → w = o) ∧ (s = 1 ∨ s = 4 ∨ s = 12 → w = o + f3 * 4096 + f7 * 33554432) ∧ (s = 3 → w = o + f3 * 4096 + f7 / 2 * 67108864)
      ∧ (s = 2 ∨ s = 5 ∨ s = 6 ∨ s = 7 ∨ s = 10 ∨ s = 13 ∨ s = 14 → w = o + f3 * 4096))) = true := by decide +kernel
theorem ref_at (op : Int) (hs : sh op ≠ 0) : (0 ≤ rop op ∧ rop op < 128) ∧ (0 ≤ rf3 op ∧ rf3 op < 8) ∧ (0 ≤ rf7 op ∧ rf7 op < 128) ∧ (sh op = 11 → rwd op = wd op) ∧ (sh op = 8 ∨ sh op = 9 → wd op = rop op) ∧ (sh op = 1 ∨ sh op = 4 ∨ sh op = 12 → wd op = rop op + rf3 op * 4096 + rf7 op * 33554432)
    ∧ (sh op = 3 → wd op = rop op + rf3 op * 4096 + rf7 op / 2 * 67108864) ∧ (sh op = 2 ∨ sh op = 5 ∨ sh op = 6 ∨ sh op = 7 ∨ sh op = 10 ∨ sh op = 13 ∨ sh op = 14 → wd op = rop op + rf3 op * 4096) := by
  have hop : ¬ (op < 1 ∨ 77 ≤ op) := fun h => hs (sh_out op h)
  have h := List.all_eq_true.1 ref_all op.toNat (by simp; omega)
  simp only [show (op.toNat : Int) = op by omega, Bool.or_eq_true, decide_eq_true_eq] at h
  exact h.resolve_left hs
theorem or_bd (a b : Int) : 0 ≤ bits .or .u32 a b ∧ bits .or .u32 a b < 4294967296 := by
  have e : bits .or .u32 a b = IntKind.u32.wrap (((BitVec.ofInt 32 a ||| BitVec.ofInt 32 b).toNat : Nat) : Int) := rfl
  rw [e, IntKind.wrap_u32]
  omega
theorem eS_bd (op rd rs1 rs2 imm csr : Int) (h : (refuse op rd rs1 rs2 imm csr).2 = 0) : 0 ≤ eS op rd rs1 rs2 imm csr ∧ eS op rd rs1 rs2 imm csr < 4294967296 := by
  obtain ⟨h1, h2, h3⟩ := (refuse_none _ _ _ _ _ _).1 h
  unfold eS
  rw [← enc_sum op rd rs1 rs2 imm csr h1 h2]
  exact or_bd _ _
theorem ret_w {a b : Int} (h : a = b) : Ending.returned (.tuple #[.int .u32 a, .bool true]) = .returned (.tuple #[.int .u32 b, .bool true]) := by rw [h]
theorem refuse_any (op rd rs1 rs2 imm csr : Int) (w : World) :
    Calls Try.prog 46 #[.agg #[.int .i64 op, .int .i64 rd, .int .i64 rs1, .int .i64 rs2, .int .i64 imm, .int .i64 csr]] w fun e w' => e = .returned (.tuple #[.int .i64 (refuse op rd rs1 rs2 imm csr).1, .int .i64 (refuse op rd rs1 rs2 imm csr).2]) ∧ Below w.heap.size w w' := by
  by_cases h : sh op = 0
  · have e : refuse op rd rs1 rs2 imm csr = (0, 21) := by simp [refuse, h]
    rw [e]
    exact rrefuse_out op rd rs1 rs2 imm csr w h
  · exact rrefuse_in op rd rs1 rs2 imm csr w h
set_option maxHeartbeats 2000000 in
theorem rencode_no (op rd rs1 rs2 imm csr : Int) (w : World) (h : (refuse op rd rs1 rs2 imm csr).2 ≠ 0) :
    Calls Try.prog 18 #[.agg #[.int .i64 op, .int .i64 rd, .int .i64 rs1, .int .i64 rs2, .int .i64 imm, .int .i64 csr]] w fun e w' => e = .returned (.tuple #[.int .u32 0, .bool false]) ∧ Below w.heap.size w w' := by
  have hR := refuse_any op rd rs1 rs2 imm csr
  generalize (refuse op rd rs1 rs2 imm csr).1 = a at *
  generalize (refuse op rd rs1 rs2 imm csr).2 = r at *
  have g : (r != 0) = true := by simpa using h
  clear h
  go_enter Try.func18, Try.ntmps18
  go_wp2_with fail
  refine (hR _).mono ?_
  rintro e w1 ⟨rfl, hb⟩
  clear hR
  go_wp2
  go_ret2
  exact ⟨rfl, (below_past _ _).trans (hb.mono (by simp only [World.size_alloc]; omega))⟩
set_option maxHeartbeats 4000000 in
theorem rencode_yes (op rd rs1 rs2 imm csr : Int) (w : World) (h : (refuse op rd rs1 rs2 imm csr).2 = 0) :
    Calls Try.prog 18 #[.agg #[.int .i64 op, .int .i64 rd, .int .i64 rs1, .int .i64 rs2, .int .i64 imm, .int .i64 csr]] w fun e w' => e = .returned (.tuple #[.int .u32 (eS op rd rs1 rs2 imm csr), .bool true]) ∧ Below w.heap.size w w' := by
  have hR := refuse_any op rd rs1 rs2 imm csr
  have hbd := eS_bd op rd rs1 rs2 imm csr h
  obtain ⟨h1, h2, h3⟩ := (refuse_none _ _ _ _ _ _).1 h
  rw [h] at hR
  generalize (refuse op rd rs1 rs2 imm csr).1 = a at *
  clear h h3
  obtain ⟨⟨a1, a2, a3⟩, ⟨b1, b2, b3⟩, ⟨c1, c2, c3⟩, ⟨d1, d2, d3⟩⟩ := wf_nums _ _ _ _ _ h2
  have b := sh_bd op
  obtain ⟨o1, o2, o3, m1, m2, m3, m4, m5⟩ := ref_at op h1
  have hW := row_any op
  rw [decide_eq_true ((sh_iff op).1 h1), rsh_eq] at hW
  have hL := fun w => laid_any (sh op) imm w (by omega) b.2
  have hp := pt_bd (sh op) imm
  have hp0 : sh op = 11 → pt (sh op) imm = 0 := fun h => by rw [h]; simp [pt]
  unfold eS at hbd ⊢
  generalize pt (sh op) imm = p at *
  generalize rop op = o at *
  generalize rf3 op = f3 at *
  generalize rf7 op = f7 at *
  generalize rwd op = wz at *
  generalize wd op = wv at *
  generalize rnm op = nv at *
  have x1 := o1.1
  have x2 := o1.2
  have x3 := o2.1
  have x4 := o2.2
  have x5 := o3.1
  have x6 := o3.2
  have x7 := hp.1
  have x8 := hp.2
  have H : Hid ((0 ≤ wv + (rd * 128 + rs1 * 32768 + rs2 * 1048576 + csr * 1048576) + p ∧ wv + (rd * 128 + rs1 * 32768 + rs2 * 1048576 + csr * 1048576) + p < 4294967296) ∧ (sh op = 11 → wz = wv) ∧ (sh op = 8 ∨ sh op = 9 → wv = o) ∧ (sh op = 1 ∨ sh op = 4 ∨ sh op = 12 → wv = o + f3 * 4096 + f7 * 33554432) ∧ (sh op = 3 → wv = o + f3 * 4096 + f7 / 2 * 67108864)
      ∧ (sh op = 2 ∨ sh op = 5 ∨ sh op = 6 ∨ sh op = 7 ∨ sh op = 10 ∨ sh op = 13 ∨ sh op = 14 → wv = o + f3 * 4096) ∧ (sh op = 6 ∨ sh op = 7 ∨ sh op = 11 ∨ sh op = 12 → rd = 0) ∧ (sh op = 8 ∨ sh op = 9 ∨ sh op = 11 ∨ sh op = 14 → rs1 = 0) ∧ (¬ (sh op = 1 ∨ sh op = 6 ∨ sh op = 7 ∨ sh op = 12) → rs2 = 0) ∧ (¬ (sh op = 13 ∨ sh op = 14) → csr = 0) ∧ (sh op = 11 → p = 0)) := ⟨hbd, m1, m2, m3, m4, m5, a3, b3, c3, d3, hp0⟩
  clear o1 o2 o3 hp hp0 hbd m1 m2 m3 m4 m5 a3 b3 c3 d3 h2
  have hs14 := shapes14 (sh op) (by omega) b.2
  generalize sh op = s at *
  clear h1 b
  go_enter Try.func18, Try.ntmps18
  go_wp2_with fail
  refine (hR _).mono ?_
  rintro e w1 ⟨rfl, hb⟩
  clear hR
  have hz := hb.size
  simp only [World.size_alloc] at hz
  have y0 : w.heap.size < w1.heap.size := by omega
  have r1 := row6_keep hb (by simp only [World.size_alloc]; omega) (row6_new w (.int .i64 op) (.int .i64 rd) (.int .i64 rs1) (.int .i64 rs2) (.int .i64 imm) (.int .i64 csr) 27)
  have R1 := r1
  obtain ⟨k0, k1, k2, k3, k4, k5⟩ := r1
  go_wp2_with fail
  clear k0 k1 k2 k3 k4 k5
  refine (hW _).mono ?_
  rintro e w2 ⟨rfl, hb2⟩
  clear hW
  have hz2 := hb2.size
  have y1 : w.heap.size < w2.heap.size := by omega
  have r2 := row6_keep hb2 y0 R1
  have hB : Below w.heap.size w w2 := ((below_past _ _).trans (hb.mono (by simp only [World.size_alloc]; omega))).trans (hb2.mono (by omega))
  clear R1 hb hb2
  obtain ⟨k0, k1, k2, k3, k4, k5⟩ := r2
  rcases hs14 with rfl | rfl | rfl | rfl | rfl | rfl | rfl | rfl | rfl | rfl | rfl | rfl | rfl | rfl
  · go_wp2_with fail
    refine (hL _).mono ?_
    rintro e w3 ⟨rfl, rfl⟩
    go_wp2
    go_ret2
    exact ⟨ret_w (by obtain ⟨hbd, m1, m2, m3, m4, m5, a3, b3, c3, d3, z9⟩ := H.out; clear H; have f3' := m3 (by simp); have g4 := d3 (by simp); clear m1 m2 m3 m4 m5 a3 b3 c3 d3 z9; omega), hB.alloc (by omega) _⟩
  · go_wp2_with fail
    refine (hL _).mono ?_
    rintro e w3 ⟨rfl, rfl⟩
    go_wp2
    go_ret2
    exact ⟨ret_w (by obtain ⟨hbd, m1, m2, m3, m4, m5, a3, b3, c3, d3, z9⟩ := H.out; clear H; have f5 := m5 (by simp); have g3 := c3 (by simp); have g4 := d3 (by simp); clear m1 m2 m3 m4 m5 a3 b3 c3 d3 z9; omega), hB.alloc (by omega) _⟩
  · go_wp2_with fail
    refine (hL _).mono ?_
    rintro e w3 ⟨rfl, rfl⟩
    go_wp2
    go_ret2
    exact ⟨ret_w (by obtain ⟨hbd, m1, m2, m3, m4, m5, a3, b3, c3, d3, z9⟩ := H.out; clear H; have f4 := m4 (by simp); have g3 := c3 (by simp); have g4 := d3 (by simp); clear m1 m2 m3 m4 m5 a3 b3 c3 d3 z9; omega), hB.alloc (by omega) _⟩
  · go_wp2_with fail
    refine (hL _).mono ?_
    rintro e w3 ⟨rfl, rfl⟩
    go_wp2
    go_ret2
    exact ⟨ret_w (by obtain ⟨hbd, m1, m2, m3, m4, m5, a3, b3, c3, d3, z9⟩ := H.out; clear H; have f3' := m3 (by simp); have g3 := c3 (by simp); have g4 := d3 (by simp); clear m1 m2 m3 m4 m5 a3 b3 c3 d3 z9; omega), hB.alloc (by omega) _⟩
  · go_wp2_with fail
    refine (hL _).mono ?_
    rintro e w3 ⟨rfl, rfl⟩
    go_wp2
    go_ret2
    exact ⟨ret_w (by obtain ⟨hbd, m1, m2, m3, m4, m5, a3, b3, c3, d3, z9⟩ := H.out; clear H; have f5 := m5 (by simp); have g3 := c3 (by simp); have g4 := d3 (by simp); clear m1 m2 m3 m4 m5 a3 b3 c3 d3 z9; omega), hB.alloc (by omega) _⟩
  · go_wp2_with fail
    refine (hL _).mono ?_
    rintro e w3 ⟨rfl, rfl⟩
    go_wp2
    go_ret2
    exact ⟨ret_w (by obtain ⟨hbd, m1, m2, m3, m4, m5, a3, b3, c3, d3, z9⟩ := H.out; clear H; have f5 := m5 (by simp); have g1 := a3 (by simp); have g4 := d3 (by simp); clear m1 m2 m3 m4 m5 a3 b3 c3 d3 z9; omega), hB.alloc (by omega) _⟩
  · go_wp2_with fail
    refine (hL _).mono ?_
    rintro e w3 ⟨rfl, rfl⟩
    go_wp2
    go_ret2
    exact ⟨ret_w (by obtain ⟨hbd, m1, m2, m3, m4, m5, a3, b3, c3, d3, z9⟩ := H.out; clear H; have f5 := m5 (by simp); have g1 := a3 (by simp); have g4 := d3 (by simp); clear m1 m2 m3 m4 m5 a3 b3 c3 d3 z9; omega), hB.alloc (by omega) _⟩
  · go_wp2_with fail
    refine (hL _).mono ?_
    rintro e w3 ⟨rfl, rfl⟩
    go_wp2
    go_ret2
    exact ⟨ret_w (by obtain ⟨hbd, m1, m2, m3, m4, m5, a3, b3, c3, d3, z9⟩ := H.out; clear H; have f2 := m2 (by simp); have g2 := b3 (by simp); have g3 := c3 (by simp); have g4 := d3 (by simp); clear m1 m2 m3 m4 m5 a3 b3 c3 d3 z9; omega), hB.alloc (by omega) _⟩
  · go_wp2_with fail
    refine (hL _).mono ?_
    rintro e w3 ⟨rfl, rfl⟩
    go_wp2
    go_ret2
    exact ⟨ret_w (by obtain ⟨hbd, m1, m2, m3, m4, m5, a3, b3, c3, d3, z9⟩ := H.out; clear H; have f2 := m2 (by simp); have g2 := b3 (by simp); have g3 := c3 (by simp); have g4 := d3 (by simp); clear m1 m2 m3 m4 m5 a3 b3 c3 d3 z9; omega), hB.alloc (by omega) _⟩
  · go_wp2_with fail
    refine (hL _).mono ?_
    rintro e w3 ⟨rfl, rfl⟩
    go_wp2
    go_ret2
    exact ⟨ret_w (by obtain ⟨hbd, m1, m2, m3, m4, m5, a3, b3, c3, d3, z9⟩ := H.out; clear H; have f5 := m5 (by simp); have g3 := c3 (by simp); have g4 := d3 (by simp); clear m1 m2 m3 m4 m5 a3 b3 c3 d3 z9; omega), hB.alloc (by omega) _⟩
  · go_wp2
    go_ret2
    exact ⟨ret_w (by obtain ⟨hbd, m1, m2, m3, m4, m5, a3, b3, c3, d3, z9⟩ := H.out; clear H; have f1 := m1 (by simp); have f9 := z9 (by simp); have g1 := a3 (by simp); have g2 := b3 (by simp); have g3 := c3 (by simp); have g4 := d3 (by simp); clear m1 m2 m3 m4 m5 a3 b3 c3 d3 z9; omega), hB.alloc (by omega) _⟩
  · go_wp2_with fail
    refine (hL _).mono ?_
    rintro e w3 ⟨rfl, rfl⟩
    go_wp2
    go_ret2
    exact ⟨ret_w (by obtain ⟨hbd, m1, m2, m3, m4, m5, a3, b3, c3, d3, z9⟩ := H.out; clear H; have f3' := m3 (by simp); have g1 := a3 (by simp); have g4 := d3 (by simp); clear m1 m2 m3 m4 m5 a3 b3 c3 d3 z9; omega), hB.alloc (by omega) _⟩
  · go_wp2_with fail
    refine (hL _).mono ?_
    rintro e w3 ⟨rfl, rfl⟩
    go_wp2
    go_ret2
    exact ⟨ret_w (by obtain ⟨hbd, m1, m2, m3, m4, m5, a3, b3, c3, d3, z9⟩ := H.out; clear H; have f5 := m5 (by simp); have g3 := c3 (by simp); clear m1 m2 m3 m4 m5 a3 b3 c3 d3 z9; omega), hB.alloc (by omega) _⟩
  · go_wp2_with fail
    refine (hL _).mono ?_
    rintro e w3 ⟨rfl, rfl⟩
    go_wp2
    go_ret2
    exact ⟨ret_w (by obtain ⟨hbd, m1, m2, m3, m4, m5, a3, b3, c3, d3, z9⟩ := H.out; clear H; have f5 := m5 (by simp); have g2 := b3 (by simp); have g3 := c3 (by simp); clear m1 m2 m3 m4 m5 a3 b3 c3 d3 z9; omega), hB.alloc (by omega) _⟩
end Go.Proofs.Ytfafinjbobmafab
