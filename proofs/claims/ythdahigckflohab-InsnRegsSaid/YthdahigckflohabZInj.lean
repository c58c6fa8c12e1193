import Derived.Test.YthdahigckflohabZSum
namespace Go.Proofs.Ythdahigckflohab
set_option linter.unusedVariables false
/-- What stands in a word of a shape: the operation's own pieces. -/
theorem word_keys (op rd rs1 rs2 imm csr E : Int) (hs : sh op ≠ 0) (hv : wf (sh op) rd rs1 rs2 csr = 0)
    (hE : E = wd op + (rd * 128 + rs1 * 32768 + rs2 * 1048576 + csr * 1048576) + pt (sh op) imm) :
    E % 128 = wd op % 128 ∧ (¬ (sh op = 8 ∨ sh op = 9) → E / 4096 % 8 = wd op / 4096 % 8) ∧ (sh op = 1 ∨ sh op = 4 ∨ sh op = 11 ∨ sh op = 12 → E / 33554432 = wd op / 33554432) ∧ (sh op = 1 ∨ sh op = 3 ∨ sh op = 4 ∨ sh op = 11 ∨ sh op = 12 → E / 67108864 = wd op / 67108864) ∧ (sh op = 11 → E = wd op) := by
  obtain ⟨⟨a1, a2, a3⟩, ⟨b1, b2, b3⟩, ⟨c1, c2, c3⟩, ⟨d1, d2, d3⟩⟩ := wf_nums _ _ _ _ _ hv
  have hb := sh_bd op
  obtain ⟨w0, w1, w2, w3, w4, w5⟩ := wd_at op hs
  obtain ⟨p1, p2, p3, p4, p5, ep, q1, q2, q3, q4, q5, r1, r2, r3, r4, r5⟩ := pt_slots (sh op) imm (by omega) hb.2
  rw [ep] at hE
  clear ep hv
  generalize sh op = s at *
  generalize wd op = w at *
  by_cases h11 : s = 11
  · subst h11
    have z1 : rd = 0 := a3 (by omega)
    have z2 : rs1 = 0 := b3 (by omega)
    have z3 : rs2 = 0 := c3 (by omega)
    have z4 : csr = 0 := d3 (by omega)
    have y1 : p1 = 0 := by omega
    have y2 : p2 = 0 := by omega
    have y3 : p3 = 0 := by omega
    have y4 : p4 = 0 := by omega
    have y5 : p5 = 0 := by omega
    subst z1 z2 z3 z4 y1 y2 y3 y4 y5
    have : E = w := by omega
    subst this
    exact ⟨rfl, fun _ => rfl, fun _ => rfl, fun _ => rfl, fun _ => rfl⟩
  have ew := w2 h11
  have x3 : ¬ (s = 8 ∨ s = 9) → p2 = 0 := fun h => by rcases r2 with h' | h' <;> omega
  have x4 : s = 1 ∨ s = 4 ∨ s = 11 ∨ s = 12 → p5 = 0 ∧ csr = 0 := fun h => ⟨by rcases r5 with h' | h' | h' <;> omega, d3 (by omega)⟩
  have x5 : s = 1 ∨ s = 3 ∨ s = 4 ∨ s = 11 ∨ s = 12 → p5 < 2 ∧ csr = 0 := fun h => ⟨by rcases r5 with h' | h' | h' <;> omega, d3 (by omega)⟩
  have x6 : s = 1 ∨ s = 4 ∨ s = 11 ∨ s = 12 → p5 = 0 := fun h => (x4 h).1
  have k2 : p1 = 0 ∨ rd = 0 := by
    rcases r1 with h | h
    · exact .inl h
    · exact .inr (a3 (by omega))
  have k4 : p4 = 0 ∨ (rs2 = 0 ∧ csr = 0) := by
    rcases r4 with h | h
    · exact .inl h
    · exact .inr ⟨c3 (by omega), d3 (by omega)⟩
  have k3 : p3 = 0 ∨ rs1 = 0 := by
    rcases r3 with h | h
    · exact .inl h
    · exact .inr (b3 (by omega))
  have k6 : rs2 = 0 ∨ csr = 0 := by
    by_cases h : s = 13 ∨ s = 14
    · exact .inl (c3 (by omega))
    · exact .inr (d3 h)
  have w5' := w5
  generalize ho : w % 128 = o at *
  generalize hf3 : w / 4096 % 8 = f3 at *
  generalize hf7 : w / 33554432 = f7 at *
  have hf6 : w / 67108864 = f7 / 2 := by omega
  rw [hf6]
  have bo : 0 ≤ o ∧ o < 128 := by omega
  have bf3 : 0 ≤ f3 ∧ f3 < 8 := by omega
  have bf7 : 0 ≤ f7 ∧ f7 < 128 := by omega
  clear r1 r2 r3 r4 r5 a3 b3 c3 hs hb w5
  have sl1 : 0 ≤ rd + p1 ∧ rd + p1 < 32 := by rcases k2 with h | h <;> omega
  have sl3 : 0 ≤ rs1 + p3 ∧ rs1 + p3 < 32 := by rcases k3 with h | h <;> omega
  have sl4 : 0 ≤ rs2 + csr % 32 + p4 ∧ rs2 + csr % 32 + p4 < 32 := by
    rcases k4 with h | h
    · rcases k6 with h' | h' <;> omega
    · omega
  generalize e1 : rd + p1 = A1 at *
  generalize e3 : rs1 + p3 = A3 at *
  generalize e4 : rs2 + csr % 32 + p4 = A4 at *
  have eE : E = o + 128 * A1 + 4096 * (f3 + p2) + 32768 * A3 + 1048576 * A4 + 33554432 * (f7 + csr / 32 + p5) := by omega
  clear hE ew ho hf3 hf7 hf6 w2 k2 k3 k4 k6 e1 e3 e4 a1 a2 b1 b2 c1 c2 w0 w1
  refine ⟨?_, ?_, ?_, ?_, ?_⟩
  · clear w3 w4 x3 x4 x5 x6 w5' d3; omega
  · intro h
    have := x3 h
    clear w3 w4 x3 x4 x5 x6 w5' d3
    omega
  · intro h
    have h1 := x4 h
    have h2 : ¬ (s = 8 ∨ s = 9) := by omega
    have h3 := x3 h2
    clear w3 w4 x3 x4 x5 x6 w5' d3
    omega
  · intro h
    have h1 := x5 h
    have h2 : ¬ (s = 8 ∨ s = 9) := by omega
    have h3 := x3 h2
    by_cases h4 : s = 3
    · have h5 := w5' h4
      clear w3 w4 x3 x4 x5 x6 w5' d3
      omega
    · have h5 := x6 (by omega)
      clear w3 w4 x3 x4 x5 x6 w5' d3
      omega
  · intro h; exact absurd h h11
/-- Do two rows part in a piece that both have? -/
def parts (op op' : Int) : Bool :=
  let w := wd op; let w' := wd op'; let s := sh op; let s' := sh op'
  decide (w % 128 ≠ w' % 128) || (decide (¬ (s = 8 ∨ s = 9) ∧ ¬ (s' = 8 ∨ s' = 9)) && decide (w / 4096 % 8 ≠ w' / 4096 % 8)) ||
  (decide ((s = 1 ∨ s = 4 ∨ s = 11 ∨ s = 12) ∧ (s' = 1 ∨ s' = 4 ∨ s' = 11 ∨ s' = 12)) && decide (w / 33554432 ≠ w' / 33554432)) ||
  (decide ((s = 1 ∨ s = 3 ∨ s = 4 ∨ s = 11 ∨ s = 12) ∧ (s' = 1 ∨ s' = 3 ∨ s' = 4 ∨ s' = 11 ∨ s' = 12)) && decide (w / 67108864 ≠ w' / 67108864)) ||
  (decide (s = 11 ∧ s' = 11) && decide (w ≠ w'))
theorem parts_all : (List.range 76).all (fun n => (List.range 76).all fun m => decide (n = m) || parts ((n : Int) + 1) ((m : Int) + 1)) = true := by decide +kernel
theorem parts_at (op op' : Int) (h : sh op ≠ 0) (h' : sh op' ≠ 0) (hne : op ≠ op') : parts op op' = true := by
  have hop : ¬ (op < 1 ∨ 77 ≤ op) := fun x => h (sh_out op x)
  have hop' : ¬ (op' < 1 ∨ 77 ≤ op') := fun x => h' (sh_out op' x)
  have := List.all_eq_true.1 (List.all_eq_true.1 parts_all (op - 1).toNat (by simp; omega)) (op' - 1).toNat (by simp; omega)
  rw [show (((op - 1).toNat : Nat) : Int) + 1 = op by omega, show (((op' - 1).toNat : Nat) : Int) + 1 = op' by omega] at this
  simp only [Bool.or_eq_true, decide_eq_true_eq] at this
  rcases this with h | h
  · omega
  · exact h
theorem pt_kinds (s : Int) (p1 p2 p3 p4 p5 : Int) (r1 : p1 = 0 ∨ s = 6 ∨ s = 7) (r2 : p2 = 0 ∨ s = 8 ∨ s = 9) (r3 : p3 = 0 ∨ s = 8 ∨ s = 9 ∨ s = 14) (r4 : p4 = 0 ∨ s = 2 ∨ s = 3 ∨ s = 4 ∨ s = 5 ∨ s = 8 ∨ s = 9 ∨ s = 10) (r5 : p5 = 0 ∨ (s = 3 ∧ p5 < 2) ∨ s = 2 ∨ s = 5 ∨ s = 6 ∨ s = 7 ∨ s = 8 ∨ s = 9 ∨ s = 10) :
    (¬ (s = 6 ∨ s = 7) → p1 = 0) ∧ (¬ (s = 8 ∨ s = 9) → p2 = 0) ∧ (¬ (s = 8 ∨ s = 9 ∨ s = 14) → p3 = 0) ∧ (¬ (s = 2 ∨ s = 3 ∨ s = 4 ∨ s = 5 ∨ s = 8 ∨ s = 9 ∨ s = 10) → p4 = 0) ∧ (¬ (s = 2 ∨ s = 3 ∨ s = 5 ∨ s = 6 ∨ s = 7 ∨ s = 8 ∨ s = 9 ∨ s = 10) → p5 = 0) := by
  refine ⟨?_, ?_, ?_, ?_, ?_⟩ <;> intro h
  · rcases r1 with h' | h' <;> omega
  · rcases r2 with h' | h' <;> omega
  · rcases r3 with h' | h' <;> omega
  · rcases r4 with h' | h' <;> omega
  · rcases r5 with h' | h' | h' <;> omega
theorem slots_inj (a0 a1 a2 a3 a4 a5 b0 b1 b2 b3 b4 b5 : Int) (h : a0 + 128 * a1 + 4096 * a2 + 32768 * a3 + 1048576 * a4 + 33554432 * a5 = b0 + 128 * b1 + 4096 * b2 + 32768 * b3 + 1048576 * b4 + 33554432 * b5)
    (ha0 : 0 ≤ a0 ∧ a0 < 128) (ha1 : 0 ≤ a1 ∧ a1 < 32) (ha2 : 0 ≤ a2 ∧ a2 < 8) (ha3 : 0 ≤ a3 ∧ a3 < 32) (ha4 : 0 ≤ a4 ∧ a4 < 32)
    (hb0 : 0 ≤ b0 ∧ b0 < 128) (hb1 : 0 ≤ b1 ∧ b1 < 32) (hb2 : 0 ≤ b2 ∧ b2 < 8) (hb3 : 0 ≤ b3 ∧ b3 < 32) (hb4 : 0 ≤ b4 ∧ b4 < 32) : a0 = b0 ∧ a1 = b1 ∧ a2 = b2 ∧ a3 = b3 ∧ a4 = b4 ∧ a5 = b5 := by
  have e0 : a0 = b0 := by omega
  subst e0
  have e1 : a1 = b1 := by omega
  subst e1
  have e2 : a2 = b2 := by omega
  subst e2
  have e3 : a3 = b3 := by omega
  subst e3
  refine ⟨rfl, rfl, rfl, rfl, ?_, ?_⟩ <;> omega
/-- One operation: its fields and the number's places are told by the sum. -/
theorem fields_inj (op rd rs1 rs2 imm csr rd' rs1' rs2' imm' csr' : Int) (hs : sh op ≠ 0) (hv : wf (sh op) rd rs1 rs2 csr = 0) (hv' : wf (sh op) rd' rs1' rs2' csr' = 0)
    (he : wd op + (rd * 128 + rs1 * 32768 + rs2 * 1048576 + csr * 1048576) + pt (sh op) imm = wd op + (rd' * 128 + rs1' * 32768 + rs2' * 1048576 + csr' * 1048576) + pt (sh op) imm') :
    rd = rd' ∧ rs1 = rs1' ∧ rs2 = rs2' ∧ csr = csr' ∧ pt (sh op) imm = pt (sh op) imm' := by
  obtain ⟨⟨a1, a2, a3⟩, ⟨b1, b2, b3⟩, ⟨c1, c2, c3⟩, ⟨d1, d2, d3⟩⟩ := wf_nums _ _ _ _ _ hv
  obtain ⟨⟨a1', a2', a3'⟩, ⟨b1', b2', b3'⟩, ⟨c1', c2', c3'⟩, ⟨d1', d2', d3'⟩⟩ := wf_nums _ _ _ _ _ hv'
  have hb := sh_bd op
  obtain ⟨p1, p2, p3, p4, p5, ep, q1, q2, q3, q4, q5, r1, r2, r3, r4, r5⟩ := pt_slots (sh op) imm (by omega) hb.2
  obtain ⟨p1', p2', p3', p4', p5', ep', q1', q2', q3', q4', q5', r1', r2', r3', r4', r5'⟩ := pt_slots (sh op) imm' (by omega) hb.2
  obtain ⟨t1, t2, t3, t4, t5⟩ := pt_kinds _ _ _ _ _ _ r1 r2 r3 r4 r5
  obtain ⟨t1', t2', t3', t4', t5'⟩ := pt_kinds _ _ _ _ _ _ r1' r2' r3' r4' r5'
  clear r1 r2 r3 r4 r5 r1' r2' r3' r4' r5' hv hv'
  rw [ep, ep'] at he ⊢
  clear ep ep'
  generalize sh op = s at *
  have he2 : 0 + 128 * (rd + p1) + 4096 * p2 + 32768 * (rs1 + p3) + 1048576 * (rs2 + csr % 32 + p4) + 33554432 * (csr / 32 + p5) = 0 + 128 * (rd' + p1') + 4096 * p2' + 32768 * (rs1' + p3') + 1048576 * (rs2' + csr' % 32 + p4') + 33554432 * (csr' / 32 + p5') := by omega
  have l1 : 0 ≤ rd + p1 ∧ rd + p1 < 32 := by
    by_cases h : s = 6 ∨ s = 7
    · have := a3 (by omega); omega
    · have := t1 h; omega
  have l1' : 0 ≤ rd' + p1' ∧ rd' + p1' < 32 := by
    by_cases h : s = 6 ∨ s = 7
    · have := a3' (by omega); omega
    · have := t1' h; omega
  have l3 : 0 ≤ rs1 + p3 ∧ rs1 + p3 < 32 := by
    by_cases h : s = 8 ∨ s = 9 ∨ s = 14
    · have := b3 (by omega); omega
    · have := t3 h; omega
  have l3' : 0 ≤ rs1' + p3' ∧ rs1' + p3' < 32 := by
    by_cases h : s = 8 ∨ s = 9 ∨ s = 14
    · have := b3' (by omega); omega
    · have := t3' h; omega
  have l4 : 0 ≤ rs2 + csr % 32 + p4 ∧ rs2 + csr % 32 + p4 < 32 := by
    by_cases h : s = 2 ∨ s = 3 ∨ s = 4 ∨ s = 5 ∨ s = 8 ∨ s = 9 ∨ s = 10
    · have := c3 (by omega); have := d3 (by omega); omega
    · have := t4 h
      by_cases h2 : s = 13 ∨ s = 14
      · have := c3 (by omega); omega
      · have := d3 h2; omega
  have l4' : 0 ≤ rs2' + csr' % 32 + p4' ∧ rs2' + csr' % 32 + p4' < 32 := by
    by_cases h : s = 2 ∨ s = 3 ∨ s = 4 ∨ s = 5 ∨ s = 8 ∨ s = 9 ∨ s = 10
    · have := c3' (by omega); have := d3' (by omega); omega
    · have := t4' h
      by_cases h2 : s = 13 ∨ s = 14
      · have := c3' (by omega); omega
      · have := d3' h2; omega
  obtain ⟨_, e1, e2, e3, e4, e5⟩ := slots_inj _ _ _ _ _ _ _ _ _ _ _ _ he2 (by omega) l1 q2 l3 l4 (by omega) l1' q2' l3' l4'
  clear he he2 l1 l1' l3 l3' l4 l4'
  have f1 : rd = rd' ∧ p1 = p1' := by
    by_cases h : s = 6 ∨ s = 7
    · have := a3 (by omega); have := a3' (by omega); omega
    · have := t1 h; have := t1' h; omega
  have f3 : rs1 = rs1' ∧ p3 = p3' := by
    by_cases h : s = 8 ∨ s = 9 ∨ s = 14
    · have := b3 (by omega); have := b3' (by omega); omega
    · have := t3 h; have := t3' h; omega
  have f4 : rs2 = rs2' ∧ csr % 32 = csr' % 32 ∧ p4 = p4' := by
    by_cases h : s = 2 ∨ s = 3 ∨ s = 4 ∨ s = 5 ∨ s = 8 ∨ s = 9 ∨ s = 10
    · have := c3 (by omega); have := d3 (by omega); have := c3' (by omega); have := d3' (by omega); omega
    · have := t4 h
      have := t4' h
      by_cases h2 : s = 13 ∨ s = 14
      · have := c3 (by omega); have := c3' (by omega); omega
      · have := d3 h2; have := d3' h2; omega
  have f5 : csr / 32 = csr' / 32 ∧ p5 = p5' := by
    by_cases h2 : s = 13 ∨ s = 14
    · have := t5 (by omega); have := t5' (by omega); omega
    · have := d3 h2; have := d3' h2; omega
  clear t1 t2 t3 t4 t5 t1' t2' t3' t4' t5' a3 b3 c3 d3 a3' b3' c3' d3' hb
  obtain ⟨g1, g2⟩ := f1
  obtain ⟨g3, g4⟩ := f3
  obtain ⟨g5, g6, g7⟩ := f4
  obtain ⟨g8, g9⟩ := f5
  subst g1 g2 g3 g4 g5 g7 g9 e2
  exact ⟨rfl, rfl, rfl, by omega, rfl⟩
/-- What Encode takes is told by its word. -/
theorem enc_inj (op rd rs1 rs2 imm csr op' rd' rs1' rs2' imm' csr' : Int) (hs : sh op ≠ 0) (hs' : sh op' ≠ 0) (hv : wf (sh op) rd rs1 rs2 csr = 0) (hv' : wf (sh op') rd' rs1' rs2' csr' = 0)
    (ht : tk (sh op) (pt (sh op) imm) = imm) (ht' : tk (sh op') (pt (sh op') imm') = imm')
    (he : wd op + (rd * 128 + rs1 * 32768 + rs2 * 1048576 + csr * 1048576) + pt (sh op) imm = wd op' + (rd' * 128 + rs1' * 32768 + rs2' * 1048576 + csr' * 1048576) + pt (sh op') imm') :
    op = op' ∧ rd = rd' ∧ rs1 = rs1' ∧ rs2 = rs2' ∧ imm = imm' ∧ csr = csr' := by
  have hop : op = op' := by
    by_cases hne : op = op'
    · exact hne
    · exfalso
      have hp := parts_at op op' hs hs' hne
      obtain ⟨k1, k2, k3, k4, k5⟩ := word_keys op rd rs1 rs2 imm csr _ hs hv rfl
      obtain ⟨l1, l2, l3, l4, l5⟩ := word_keys op' rd' rs1' rs2' imm' csr' _ hs' hv' he
      unfold parts at hp
      simp only [Bool.or_eq_true, Bool.and_eq_true, decide_eq_true_eq] at hp
      rcases hp with (((hp | ⟨⟨h1, h2⟩, hp⟩) | ⟨⟨h1, h2⟩, hp⟩) | ⟨⟨h1, h2⟩, hp⟩) | ⟨⟨h1, h2⟩, hp⟩
      · exact hp (k1.symm.trans l1)
      · exact hp ((k2 h1).symm.trans (l2 h2))
      · exact hp ((k3 h1).symm.trans (l3 h2))
      · exact hp ((k4 h1).symm.trans (l4 h2))
      · exact hp ((k5 h1).symm.trans (l5 h2))
  subst hop
  obtain ⟨f1, f2, f3, f4, f5⟩ := fields_inj op rd rs1 rs2 imm csr rd' rs1' rs2' imm' csr' hs hv hv' he
  refine ⟨rfl, f1, f2, f3, ?_, f4⟩
  rw [← ht, ← ht', f5]
end Go.Proofs.Ythdahigckflohab
