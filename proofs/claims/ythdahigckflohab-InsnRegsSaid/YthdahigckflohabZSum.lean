import Derived.Test.YthdahigckflohabZMath
namespace Go.Proofs.Ythdahigckflohab
set_option linter.unusedVariables false
/-- The numbers that the plain fields may have, by shape. -/
theorem wf_nums (s rd rs1 rs2 csr : Int) (h : wf s rd rs1 rs2 csr = 0) :
    (0 ≤ rd ∧ rd < 32 ∧ (s = 6 ∨ s = 7 ∨ s = 11 ∨ s = 12 → rd = 0)) ∧ (0 ≤ rs1 ∧ rs1 < 32 ∧ (s = 8 ∨ s = 9 ∨ s = 11 ∨ s = 14 → rs1 = 0)) ∧
    (0 ≤ rs2 ∧ rs2 < 32 ∧ (¬ (s = 1 ∨ s = 6 ∨ s = 7 ∨ s = 12) → rs2 = 0)) ∧ (0 ≤ csr ∧ csr < 4096 ∧ (¬ (s = 13 ∨ s = 14) → csr = 0)) := by
  obtain ⟨h1, h2, h3, h4⟩ := (wf_iff s rd rs1 rs2 csr).1 h
  obtain ⟨m1, m2, m3, m4⟩ := m31
  unfold fRd at h1
  unfold fRs1 at h2
  unfold fRs2 at h3
  unfold fCsr at h4
  rw [m1] at h1
  rw [m2] at h2
  rw [m3] at h3
  rw [m4] at h4
  refine ⟨?_, ?_, ?_, ?_⟩
  · split at h1 <;> refine ⟨by omega, by omega, fun h => ?_⟩ <;> first | omega | exact absurd h (by assumption)
  · split at h2 <;> refine ⟨by omega, by omega, fun h => ?_⟩ <;> first | omega | exact absurd h (by assumption)
  · split at h3 <;> refine ⟨by omega, by omega, fun h => ?_⟩ <;> first | omega | exact absurd (by assumption) h
  · split at h4 <;> refine ⟨by omega, by omega, fun h => ?_⟩ <;> first | omega | exact absurd (by assumption) h
theorem flds_sum (rd rs1 rs2 csr : Int) (h1 : 0 ≤ rd ∧ rd < 32) (h2 : 0 ≤ rs1 ∧ rs1 < 32) (h3 : 0 ≤ rs2 ∧ rs2 < 32) (h4 : 0 ≤ csr ∧ csr < 4096) (h5 : rs2 = 0 ∨ csr = 0) :
    flds rd rs1 rs2 csr = rd * 128 + rs1 * 32768 + rs2 * 1048576 + csr * 1048576 := by
  have e1 : rd % 4294967296 * 128 % 4294967296 = rd * 128 := by omega
  have e2 : rs1 % 4294967296 * 32768 % 4294967296 = rs1 * 32768 := by omega
  have e3 : rs2 % 4294967296 * 1048576 % 4294967296 = rs2 * 1048576 := by omega
  have e4 : csr % 4294967296 * 1048576 % 4294967296 = csr * 1048576 := by omega
  unfold flds
  rw [e1, e2, e3, e4]
  rw [or_slots_int (rd * 128) (rs1 * 32768) 0 rd 0 0 0 0 0 0 0 rs1 0 0 (by omega) (by omega) (by decide) h1 (by decide) (by decide) (by decide) (by decide) (by decide) (by decide) (by decide) h2 (by decide) (by decide) (.inl rfl) (.inr rfl) (.inl rfl) (.inl rfl) (.inl rfl) (.inl rfl),
    or_slots_int (rd * 128 + rs1 * 32768) (rs2 * 1048576) 0 rd 0 rs1 0 0 0 0 0 0 rs2 0 (by omega) (by omega) (by decide) h1 (by decide) h2 (by decide) (by decide) (by decide) (by decide) (by decide) (by decide) h3 (by decide) (.inl rfl) (.inr rfl) (.inl rfl) (.inr rfl) (.inl rfl) (.inl rfl),
    or_slots_int (rd * 128 + rs1 * 32768 + rs2 * 1048576) (csr * 1048576) 0 rd 0 rs1 rs2 0 0 0 0 0 (csr % 32) (csr / 32) (by omega) (by omega) (by decide) h1 (by decide) h2 h3 (by decide) (by decide) (by decide) (by decide) (by decide) (by omega) (by omega) (.inl rfl) (.inr rfl) (.inl rfl) (.inr rfl) (by omega) (.inl rfl)]
/-- The places of the number's bits, by shape. -/
theorem pt_slots (s y : Int) (hs0 : 1 ≤ s) (hs1 : s ≤ 14) : ∃ p1 p2 p3 p4 p5 : Int, pt s y = 0 + 128 * (p1 + 32 * (p2 + 8 * (p3 + 32 * (p4 + 32 * p5)))) ∧ (0 ≤ p1 ∧ p1 < 32) ∧ (0 ≤ p2 ∧ p2 < 8) ∧ (0 ≤ p3 ∧ p3 < 32) ∧ (0 ≤ p4 ∧ p4 < 32) ∧ (0 ≤ p5 ∧ p5 < 128) ∧
    (p1 = 0 ∨ s = 6 ∨ s = 7) ∧ (p2 = 0 ∨ s = 8 ∨ s = 9) ∧ (p3 = 0 ∨ s = 8 ∨ s = 9 ∨ s = 14) ∧ (p4 = 0 ∨ s = 2 ∨ s = 3 ∨ s = 4 ∨ s = 5 ∨ s = 8 ∨ s = 9 ∨ s = 10) ∧ (p5 = 0 ∨ (s = 3 ∧ p5 < 2) ∨ s = 2 ∨ s = 5 ∨ s = 6 ∨ s = 7 ∨ s = 8 ∨ s = 9 ∨ s = 10) := by
  have d : ∀ lo wd : Int, 0 ≤ pc (y % 4294967296) lo wd ∧ pc (y % 4294967296) lo wd < 2 ^ wd.toNat := fun lo wd => pc_bd _ lo wd
  rcases shapes14 s hs0 hs1 with rfl | rfl | rfl | rfl | rfl | rfl | rfl | rfl | rfl | rfl | rfl | rfl | rfl | rfl
  · exact ⟨0, 0, 0, 0, 0, by simp [pt], by omega, by omega, by omega, by omega, by omega, by omega, by omega, by omega, by omega, by omega⟩
  · have a := d 0 12
    have e : pt 2 y = pc (y % 4294967296) 0 12 * 1048576 := by simp [pt]
    generalize pc (y % 4294967296) 0 12 = v at a e
    rw [show (2 : Int) ^ (12 : Int).toNat = 4096 from rfl] at a
    exact ⟨0, 0, 0, v % 32, v / 32, by omega, by omega, by omega, by omega, by omega, by omega, by omega, by omega, by omega, by omega, by omega⟩
  · have a := d 0 6
    have e : pt 3 y = pc (y % 4294967296) 0 6 * 1048576 := by simp [pt]
    generalize pc (y % 4294967296) 0 6 = v at a e
    rw [show (2 : Int) ^ (6 : Int).toNat = 64 from rfl] at a
    exact ⟨0, 0, 0, v % 32, v / 32, by omega, by omega, by omega, by omega, by omega, by omega, by omega, by omega, by omega, by omega, by omega⟩
  · have a := d 0 5
    have e : pt 4 y = pc (y % 4294967296) 0 5 * 1048576 := by simp [pt]
    generalize pc (y % 4294967296) 0 5 = v at a e
    rw [show (2 : Int) ^ (5 : Int).toNat = 32 from rfl] at a
    exact ⟨0, 0, 0, v, 0, by omega, by omega, by omega, by omega, by omega, by omega, by omega, by omega, by omega, by omega, by omega⟩
  · have a := d 0 12
    have e : pt 5 y = pc (y % 4294967296) 0 12 * 1048576 := by simp [pt]
    generalize pc (y % 4294967296) 0 12 = v at a e
    rw [show (2 : Int) ^ (12 : Int).toNat = 4096 from rfl] at a
    exact ⟨0, 0, 0, v % 32, v / 32, by omega, by omega, by omega, by omega, by omega, by omega, by omega, by omega, by omega, by omega, by omega⟩
  · have a := d 5 7
    have b := d 0 5
    have e : pt 6 y = pc (y % 4294967296) 5 7 * 33554432 + pc (y % 4294967296) 0 5 * 128 := by simp [pt]
    generalize pc (y % 4294967296) 5 7 = v at a e
    generalize pc (y % 4294967296) 0 5 = u at b e
    rw [show (2 : Int) ^ (7 : Int).toNat = 128 from rfl] at a
    rw [show (2 : Int) ^ (5 : Int).toNat = 32 from rfl] at b
    exact ⟨u, 0, 0, 0, v, by omega, by omega, by omega, by omega, by omega, by omega, by omega, by omega, by omega, by omega, by omega⟩
  · have a := d 12 1
    have b := d 5 6
    have c := d 1 4
    have f := d 11 1
    have e : pt 7 y = pc (y % 4294967296) 12 1 * 2147483648 + pc (y % 4294967296) 5 6 * 33554432 + pc (y % 4294967296) 1 4 * 256 + pc (y % 4294967296) 11 1 * 128 := by simp [pt]
    generalize pc (y % 4294967296) 12 1 = v at a e
    generalize pc (y % 4294967296) 5 6 = u at b e
    generalize pc (y % 4294967296) 1 4 = t at c e
    generalize pc (y % 4294967296) 11 1 = r at f e
    rw [show (2 : Int) ^ (1 : Int).toNat = 2 from rfl] at a f
    rw [show (2 : Int) ^ (6 : Int).toNat = 64 from rfl] at b
    rw [show (2 : Int) ^ (4 : Int).toNat = 16 from rfl] at c
    exact ⟨2 * t + r, 0, 0, 0, 64 * v + u, by omega, by omega, by omega, by omega, by omega, by omega, by omega, by omega, by omega, by omega, by omega⟩
  · have a := d 12 20
    have e : pt 8 y = pc (y % 4294967296) 12 20 * 4096 := by simp [pt]
    generalize pc (y % 4294967296) 12 20 = v at a e
    rw [show (2 : Int) ^ (20 : Int).toNat = 1048576 from rfl] at a
    exact ⟨0, v % 8, v / 8 % 32, v / 256 % 32, v / 8192, by omega, by omega, by omega, by omega, by omega, by omega, by omega, by omega, by omega, by omega, by omega⟩
  · have a := d 20 1
    have b := d 1 10
    have c := d 11 1
    have f := d 12 8
    have e : pt 9 y = pc (y % 4294967296) 20 1 * 2147483648 + pc (y % 4294967296) 1 10 * 2097152 + pc (y % 4294967296) 11 1 * 1048576 + pc (y % 4294967296) 12 8 * 4096 := by simp [pt]
    generalize pc (y % 4294967296) 20 1 = v at a e
    generalize pc (y % 4294967296) 1 10 = u at b e
    generalize pc (y % 4294967296) 11 1 = t at c e
    generalize pc (y % 4294967296) 12 8 = r at f e
    rw [show (2 : Int) ^ (1 : Int).toNat = 2 from rfl] at a c
    rw [show (2 : Int) ^ (10 : Int).toNat = 1024 from rfl] at b
    rw [show (2 : Int) ^ (8 : Int).toNat = 256 from rfl] at f
    exact ⟨0, r % 8, r / 8, t + 2 * (u % 16), u / 16 + 64 * v, by omega, by omega, by omega, by omega, by omega, by omega, by omega, by omega, by omega, by omega, by omega⟩
  · have a := d 0 12
    have e : pt 10 y = pc (y % 4294967296) 0 12 * 1048576 := by simp [pt]
    generalize pc (y % 4294967296) 0 12 = v at a e
    rw [show (2 : Int) ^ (12 : Int).toNat = 4096 from rfl] at a
    exact ⟨0, 0, 0, v % 32, v / 32, by omega, by omega, by omega, by omega, by omega, by omega, by omega, by omega, by omega, by omega, by omega⟩
  · exact ⟨0, 0, 0, 0, 0, by simp [pt], by omega, by omega, by omega, by omega, by omega, by omega, by omega, by omega, by omega, by omega⟩
  · exact ⟨0, 0, 0, 0, 0, by simp [pt], by omega, by omega, by omega, by omega, by omega, by omega, by omega, by omega, by omega, by omega⟩
  · exact ⟨0, 0, 0, 0, 0, by simp [pt], by omega, by omega, by omega, by omega, by omega, by omega, by omega, by omega, by omega, by omega⟩
  · have a := d 0 5
    have e : pt 14 y = pc (y % 4294967296) 0 5 * 32768 := by simp [pt]
    generalize pc (y % 4294967296) 0 5 = v at a e
    rw [show (2 : Int) ^ (5 : Int).toNat = 32 from rfl] at a
    exact ⟨0, 0, v, 0, 0, by omega, by omega, by omega, by omega, by omega, by omega, by omega, by omega, by omega, by omega, by omega⟩
theorem sh_all : (List.range 77).all (fun n => decide (sh (n : Int) = 0 → n = 0) && decide (0 ≤ sh (n : Int) ∧ sh (n : Int) ≤ 14)) = true := by decide +kernel
theorem sh_bd (op : Int) : 0 ≤ sh op ∧ sh op ≤ 14 := by
  by_cases h : op < 1 ∨ 77 ≤ op
  · rw [sh_out op h]; decide
  · have := List.all_eq_true.1 sh_all op.toNat (by simp; omega)
    rw [show (op.toNat : Int) = op by omega] at this
    simp at this
    exact this.2
/-- What Encode lays down is a sum. -/
theorem enc_sum (op rd rs1 rs2 imm csr : Int) (hs : sh op ≠ 0) (hv : wf (sh op) rd rs1 rs2 csr = 0) :
    bits .or .u32 (bits .or .u32 (wd op) (flds rd rs1 rs2 csr)) (pt (sh op) imm) = wd op + (rd * 128 + rs1 * 32768 + rs2 * 1048576 + csr * 1048576) + pt (sh op) imm := by
  obtain ⟨⟨a1, a2, a3⟩, ⟨b1, b2, b3⟩, ⟨c1, c2, c3⟩, ⟨d1, d2, d3⟩⟩ := wf_nums _ _ _ _ _ hv
  have hb := sh_bd op
  obtain ⟨w0, w1, w2, w3, w4, w5⟩ := wd_at op hs
  obtain ⟨p1, p2, p3, p4, p5, ep, q1, q2, q3, q4, q5, r1, r2, r3, r4, r5⟩ := pt_slots (sh op) imm (by omega) hb.2
  rw [flds_sum rd rs1 rs2 csr ⟨a1, a2⟩ ⟨b1, b2⟩ ⟨c1, c2⟩ ⟨d1, d2⟩ (by omega), ep]
  clear ep hv
  generalize sh op = s at *
  generalize wd op = w at *
  by_cases h11 : s = 11
  · subst h11
    have z1 : rd = 0 := a3 (by omega)
    have z2 : rs1 = 0 := b3 (by omega)
    have z3 : rs2 = 0 := c3 (by omega)
    have z4 : csr = 0 := d3 (by omega)
    have y1 : p1 = 0 := by omega
    have y2 : p2 = 0 := by omega
    have y3 : p3 = 0 := by omega
    have y4 : p4 = 0 := by omega
    have y5 : p5 = 0 := by omega
    subst z1 z2 z3 z4 y1 y2 y3 y4 y5
    have o0 : bits .or .u32 w 0 = w := by
      rw [u32_or w 0 w0 w1 (by omega) (by omega)]; simp; omega
    simp [o0]
  · have ew := w2 h11
    generalize ho : w % 128 = o at *
    generalize hf3 : w / 4096 % 8 = f3 at *
    generalize hf7 : w / 33554432 = f7 at *
    have o1 : 0 ≤ o ∧ o < 128 := by omega
    have o2 : 0 ≤ f3 ∧ f3 < 8 := by omega
    have o3 : 0 ≤ f7 ∧ f7 < 128 := by omega
    have g1 : f7 = 0 ∨ csr / 32 = 0 ∨ (f7 % 2 = 0 ∧ csr / 32 < 2) := by
      by_cases h : s = 13 ∨ s = 14
      · exact .inl (w4 (by omega))
      · have := d3 h; omega
    have g2 : rs2 = 0 ∨ csr = 0 := by
      by_cases h : s = 13 ∨ s = 14
      · exact .inl (c3 (by omega))
      · exact .inr (d3 h)
    rw [or_slots_int w (rd * 128 + rs1 * 32768 + rs2 * 1048576 + csr * 1048576) o 0 f3 0 0 f7 0 rd 0 rs1 (rs2 + csr % 32) (csr / 32) (by omega) (by omega) o1 (by omega) o2 (by omega) (by omega) o3 (by omega) ⟨a1, a2⟩ (by omega) ⟨b1, b2⟩ (by omega) (by omega)
      (.inr rfl) (.inl rfl) (.inr rfl) (.inl rfl) (.inl rfl) g1]
    clear ho hf3 hf7
    have k1 : rd = 0 ∨ p1 = 0 := by
      rcases r1 with h | h
      · exact .inr h
      · exact .inl (a3 (by omega))
    have k2 : f3 = 0 ∨ p2 = 0 := by
      rcases r2 with h | h
      · exact .inr h
      · exact .inl (w3 (by omega)).1
    have k3 : rs1 = 0 ∨ p3 = 0 := by
      rcases r3 with h | h
      · exact .inr h
      · exact .inl (b3 (by omega))
    have k4 : rs2 + csr % 32 = 0 ∨ p4 = 0 := by
      rcases r4 with h | h
      · exact .inr h
      · have := c3 (by omega)
        have := d3 (by omega)
        omega
    have k5 : f7 + csr / 32 = 0 ∨ p5 = 0 ∨ ((f7 + csr / 32) % 2 = 0 ∧ p5 < 2) := by
      rcases r5 with h | ⟨h, h'⟩ | h
      · exact .inr (.inl h)
      · have := d3 (by omega)
        have := w5 h
        refine .inr (.inr ⟨?_, h'⟩)
        omega
      · have z := d3 (by omega)
        by_cases h89 : s = 8 ∨ s = 9
        · have := (w3 h89).2; omega
        · have := w4 (by omega); omega
    have l4 : 0 ≤ rs2 + csr % 32 ∧ rs2 + csr % 32 < 32 := by rcases g2 with h | h <;> omega
    have l5 : 0 ≤ f7 + csr / 32 ∧ f7 + csr / 32 < 128 := by
      by_cases h : s = 13 ∨ s = 14
      · have := w4 (by omega); omega
      · have := d3 h; omega
    have es : w + (rd * 128 + rs1 * 32768 + rs2 * 1048576 + csr * 1048576) = o + 128 * (rd + 32 * (f3 + 8 * (rs1 + 32 * (rs2 + csr % 32 + 32 * (f7 + csr / 32))))) := by omega
    clear w2 w3 w4 w5 a3 b3 c3 d3 g1 g2 r1 r2 r3 r4 r5 hs h11
    exact or_slots_int _ _ o rd f3 rs1 (rs2 + csr % 32) (f7 + csr / 32) 0 p1 p2 p3 p4 p5 es rfl o1 ⟨a1, a2⟩ o2 ⟨b1, b2⟩ l4 l5 ⟨by decide, by decide⟩ q1 q2 q3 q4 q5 (.inr rfl) k1 k2 k3 k4 k5
end Go.Proofs.Ythdahigckflohab
