import Derived.Test.YthdahigckflohabHalf
namespace Go.Proofs.Ythdahigckflohab
open Go.RowKit
set_option linter.unusedVariables false
set_option linter.unusedSimpArgs false
/-- The amount of a word as it is signed. -/
def amt (v : Int) : Int := if 9223372036854775808 ≤ v then (0 - v) % 18446744073709551616 else v
theorem amount_any (v : Int) (w : World) (hv : W64 v) : Calls Try.prog 10 #[.int .u64 v] w fun e w' => e = .returned (.int .u64 (amt v)) ∧ w' = w := by
  obtain ⟨h0, h1⟩ := hv
  unfold amt
  by_cases h : 9223372036854775808 ≤ v
  · rw [if_pos h]
    have g : (v / 9223372036854775808 == 1) = true := by rw [beq_iff_eq]; omega
    go_enter Try.func10, Try.ntmps10
    go_wp2
    go_ret
    exact ⟨by simp [wu], rfl⟩
  · rw [if_neg h]
    have g : (v / 9223372036854775808 == 1) = false := by rw [beq_eq_false_iff_ne]; omega
    go_enter Try.func10, Try.ntmps10
    go_wp2
    go_ret
    exact ⟨rfl, rfl⟩
theorem half_raw (v : Int) : wid 4294967296 v = IntKind.u64.wrap (wrap64 (wrap32 (v % 4294967296))) := by
  rw [wu]; unfold wid wrap64 wrap32; omega
theorem lhalf_any (v : Int) (w : World) (hv : W64 v) : Calls Try.prog 11 #[.int .u64 v] w fun e w' => e = .returned (.int .u64 (wid 4294967296 v)) ∧ w' = w := by
  obtain ⟨h0, h1⟩ := hv
  rw [half_raw]
  go_enter Try.func11, Try.ntmps11
  go_wp2
  go_ret
  exact ⟨by simp, rfl⟩
theorem wrap_w (x : Int) : W64 (IntKind.u64.wrap x) := by rw [wu]; exact mod_bd _
set_option maxHeartbeats 8000000 in
set_option maxRecDepth 100000 in
theorem parts_pp (a b Q R U S x y q r u s : Int) (w : World) (ha : W64 a) (hb : W64 b) (hR : W64 R) (hy : W64 y) (hr : W64 r)
    (c1 : ∀ w, Calls Try.prog 9 #[.int .i64 54, .int .u64 a, .int .u64 b] w fun e w' => e = .returned (.tuple #[.int .u64 Q, .bool true]) ∧ Below w.heap.size w w')
    (c2 : ∀ w, Calls Try.prog 9 #[.int .i64 56, .int .u64 a, .int .u64 b] w fun e w' => e = .returned (.tuple #[.int .u64 R, .bool true]) ∧ Below w.heap.size w w')
    (c3 : ∀ w, Calls Try.prog 9 #[.int .i64 55, .int .u64 a, .int .u64 b] w fun e w' => e = .returned (.tuple #[.int .u64 U, .bool true]) ∧ Below w.heap.size w w')
    (c4 : ∀ w, Calls Try.prog 9 #[.int .i64 57, .int .u64 a, .int .u64 b] w fun e w' => e = .returned (.tuple #[.int .u64 S, .bool true]) ∧ Below w.heap.size w w')
    (d1 : ∀ w, Calls Try.prog 9 #[.int .i64 59, .int .u64 a, .int .u64 b] w fun e w' => e = .returned (.tuple #[.int .u64 q, .bool true]) ∧ Below w.heap.size w w')
    (d2 : ∀ w, Calls Try.prog 9 #[.int .i64 61, .int .u64 a, .int .u64 b] w fun e w' => e = .returned (.tuple #[.int .u64 r, .bool true]) ∧ Below w.heap.size w w')
    (d3 : ∀ w, Calls Try.prog 9 #[.int .i64 60, .int .u64 a, .int .u64 b] w fun e w' => e = .returned (.tuple #[.int .u64 u, .bool true]) ∧ Below w.heap.size w w')
    (d4 : ∀ w, Calls Try.prog 9 #[.int .i64 62, .int .u64 a, .int .u64 b] w fun e w' => e = .returned (.tuple #[.int .u64 s, .bool true]) ∧ Below w.heap.size w w')
    (hx : wid 4294967296 a = x) (hy' : wid 4294967296 b = y)
    (e1 : (IntKind.u64.wrap (IntKind.u64.wrap (Q * b) + R) != a) = false) (e2 : (IntKind.u64.wrap (IntKind.u64.wrap (U * b) + S) != a) = false)
    (e3 : wid 4294967296 (IntKind.u64.wrap (IntKind.u64.wrap (q * y) + r)) = x) (e4 : wid 4294967296 (IntKind.u64.wrap (IntKind.u64.wrap (u * b) + s)) = x)
    (f0 : b ≠ 0) (f1 : amt R < amt b) (f2 : S < b) (f4 : R ≠ 0 → R / 9223372036854775808 = a / 9223372036854775808) (f5 : U ≤ a)
    (g0 : y ≠ 0) (g1 : amt r < amt y) (g2 : s % 4294967296 < b % 4294967296) (g3 : r ≠ 0 → r / 9223372036854775808 = x / 9223372036854775808) :
    Calls Try.prog 4 #[.int .u64 a, .int .u64 b] w fun e w' => e = .returned (.bool true) ∧ Below w.heap.size w w' := by
  have am1 := fun w => amount_any R w hR
  have am2 := fun w => amount_any b w hb
  have k0 : (b != 0) = true := by rw [bne_iff_ne]; exact f0
  have k1 : (b == 0) = false := by rw [beq_eq_false_iff_ne]; exact f0
  have k2 : decide (amt b ≤ amt R) = false := by rw [decide_eq_false_iff_not]; omega
  have k3 : decide (b ≤ S) = false := by rw [decide_eq_false_iff_not]; omega
  have k5 : decide (a < U) = false := by rw [decide_eq_false_iff_not]; omega
  have k4 : (R != 0) = false ∨ ((R != 0) = true ∧ (R / 9223372036854775808 != a / 9223372036854775808) = false) := by
    by_cases h : R = 0
    · exact .inl (by rw [bne_eq_false_iff_eq]; exact h)
    · exact .inr ⟨by rw [bne_iff_ne]; exact h, by rw [bne_eq_false_iff_eq]; exact f4 h⟩
  clear f0 f1 f2 f4 f5
  have am3 := fun w => amount_any r w hr
  have am4 := fun w => amount_any y w hy
  have l0 : (y == 0) = false := by rw [beq_eq_false_iff_ne]; exact g0
  have l1 : decide (amt r < amt y) = true := by rw [decide_eq_true_eq]; exact g1
  have l2 : decide (s % 4294967296 < b % 4294967296) = true := by rw [decide_eq_true_eq]; exact g2
  have l3 : (r == 0) = true ∨ ((r == 0) = false ∧ (r / 9223372036854775808 == x / 9223372036854775808) = true) := by
    by_cases h : r = 0
    · exact .inl (by rw [beq_iff_eq]; exact h)
    · exact .inr ⟨by rw [beq_eq_false_iff_ne]; exact h, by rw [beq_iff_eq]; exact g3 h⟩
  clear g0 g1 g2 g3
  have h1 := fun w => lhalf_any a w ha
  have h2 := fun w => lhalf_any b w hb
  have h3 := fun w => lhalf_any _ w (wrap_w (IntKind.u64.wrap (q * y) + r))
  have h4 := fun w => lhalf_any _ w (wrap_w (IntKind.u64.wrap (u * b) + s))
  rw [hx] at h1
  rw [hy'] at h2
  rw [e3] at h3
  rw [e4] at h4
  clear hx hy' e3 e4
  obtain ⟨a0, a1⟩ := ha
  obtain ⟨b0, b1⟩ := hb
  obtain ⟨R0, R1⟩ := hR
  obtain ⟨y0, y1⟩ := hy
  obtain ⟨r0, r1⟩ := hr
  generalize amt R = aR at *
  generalize amt b = aB at *
  generalize amt r = ar at *
  generalize amt y = ay at *
  rcases k4 with k4 | ⟨k4, k6⟩
  · rcases l3 with l3 | ⟨l3, l4⟩
    · go_enter Try.func4, Try.ntmps4
      go_wp2_with fail
      refine (c1 _).mono ?_; rintro e w1 ⟨rfl, hb1⟩
      clear c1
      go_wp2_with fail
      refine (c2 _).mono ?_; rintro e w2 ⟨rfl, hb2⟩
      clear c2
      go_wp2_with fail
      refine (c3 _).mono ?_; rintro e w3 ⟨rfl, hb3⟩
      clear c3
      go_wp2_with fail
      refine (c4 _).mono ?_; rintro e w4 ⟨rfl, hb4⟩
      clear c4
      go_wp2_with fail
      refine (am1 _).mono ?_; rintro e w' ⟨rfl, rfl⟩
      clear am1
      go_wp2_with fail
      refine (am2 _).mono ?_; rintro e w' ⟨rfl, rfl⟩
      clear am2
      go_wp2_with fail
      refine (h1 _).mono ?_; rintro e w' ⟨rfl, rfl⟩
      clear h1
      go_wp2_with fail
      refine (h2 _).mono ?_; rintro e w' ⟨rfl, rfl⟩
      clear h2
      go_wp2_with fail
      refine (d1 _).mono ?_; rintro e w5 ⟨rfl, hb5⟩
      clear d1
      go_wp2_with fail
      refine (d2 _).mono ?_; rintro e w6 ⟨rfl, hb6⟩
      clear d2
      go_wp2_with fail
      refine (d3 _).mono ?_; rintro e w7 ⟨rfl, hb7⟩
      clear d3
      go_wp2_with fail
      refine (d4 _).mono ?_; rintro e w8 ⟨rfl, hb8⟩
      clear d4
      go_wp2_with fail
      refine (h3 _).mono ?_; rintro e w' ⟨rfl, rfl⟩
      clear h3
      go_wp2_with fail
      refine (h4 _).mono ?_; rintro e w' ⟨rfl, rfl⟩
      clear h4
      go_wp2_with fail
      refine (am3 _).mono ?_; rintro e w' ⟨rfl, rfl⟩
      clear am3
      go_wp2_with fail
      refine (am4 _).mono ?_; rintro e w' ⟨rfl, rfl⟩
      clear am4
      go_wp2
      go_ret
      exact ⟨rfl, bseq (bseq (bseq (bseq (bseq (bseq (bseq hb1 hb2) hb3) hb4) hb5) hb6) hb7) hb8⟩
    · go_enter Try.func4, Try.ntmps4
      go_wp2_with fail
      refine (c1 _).mono ?_; rintro e w1 ⟨rfl, hb1⟩
      clear c1
      go_wp2_with fail
      refine (c2 _).mono ?_; rintro e w2 ⟨rfl, hb2⟩
      clear c2
      go_wp2_with fail
      refine (c3 _).mono ?_; rintro e w3 ⟨rfl, hb3⟩
      clear c3
      go_wp2_with fail
      refine (c4 _).mono ?_; rintro e w4 ⟨rfl, hb4⟩
      clear c4
      go_wp2_with fail
      refine (am1 _).mono ?_; rintro e w' ⟨rfl, rfl⟩
      clear am1
      go_wp2_with fail
      refine (am2 _).mono ?_; rintro e w' ⟨rfl, rfl⟩
      clear am2
      go_wp2_with fail
      refine (h1 _).mono ?_; rintro e w' ⟨rfl, rfl⟩
      clear h1
      go_wp2_with fail
      refine (h2 _).mono ?_; rintro e w' ⟨rfl, rfl⟩
      clear h2
      go_wp2_with fail
      refine (d1 _).mono ?_; rintro e w5 ⟨rfl, hb5⟩
      clear d1
      go_wp2_with fail
      refine (d2 _).mono ?_; rintro e w6 ⟨rfl, hb6⟩
      clear d2
      go_wp2_with fail
      refine (d3 _).mono ?_; rintro e w7 ⟨rfl, hb7⟩
      clear d3
      go_wp2_with fail
      refine (d4 _).mono ?_; rintro e w8 ⟨rfl, hb8⟩
      clear d4
      go_wp2_with fail
      refine (h3 _).mono ?_; rintro e w' ⟨rfl, rfl⟩
      clear h3
      go_wp2_with fail
      refine (h4 _).mono ?_; rintro e w' ⟨rfl, rfl⟩
      clear h4
      go_wp2_with fail
      refine (am3 _).mono ?_; rintro e w' ⟨rfl, rfl⟩
      clear am3
      go_wp2_with fail
      refine (am4 _).mono ?_; rintro e w' ⟨rfl, rfl⟩
      clear am4
      go_wp2
      go_ret
      exact ⟨rfl, bseq (bseq (bseq (bseq (bseq (bseq (bseq hb1 hb2) hb3) hb4) hb5) hb6) hb7) hb8⟩
  · rcases l3 with l3 | ⟨l3, l4⟩
    · go_enter Try.func4, Try.ntmps4
      go_wp2_with fail
      refine (c1 _).mono ?_; rintro e w1 ⟨rfl, hb1⟩
      clear c1
      go_wp2_with fail
      refine (c2 _).mono ?_; rintro e w2 ⟨rfl, hb2⟩
      clear c2
      go_wp2_with fail
      refine (c3 _).mono ?_; rintro e w3 ⟨rfl, hb3⟩
      clear c3
      go_wp2_with fail
      refine (c4 _).mono ?_; rintro e w4 ⟨rfl, hb4⟩
      clear c4
      go_wp2_with fail
      refine (am1 _).mono ?_; rintro e w' ⟨rfl, rfl⟩
      clear am1
      go_wp2_with fail
      refine (am2 _).mono ?_; rintro e w' ⟨rfl, rfl⟩
      clear am2
      go_wp2_with fail
      refine (h1 _).mono ?_; rintro e w' ⟨rfl, rfl⟩
      clear h1
      go_wp2_with fail
      refine (h2 _).mono ?_; rintro e w' ⟨rfl, rfl⟩
      clear h2
      go_wp2_with fail
      refine (d1 _).mono ?_; rintro e w5 ⟨rfl, hb5⟩
      clear d1
      go_wp2_with fail
      refine (d2 _).mono ?_; rintro e w6 ⟨rfl, hb6⟩
      clear d2
      go_wp2_with fail
      refine (d3 _).mono ?_; rintro e w7 ⟨rfl, hb7⟩
      clear d3
      go_wp2_with fail
      refine (d4 _).mono ?_; rintro e w8 ⟨rfl, hb8⟩
      clear d4
      go_wp2_with fail
      refine (h3 _).mono ?_; rintro e w' ⟨rfl, rfl⟩
      clear h3
      go_wp2_with fail
      refine (h4 _).mono ?_; rintro e w' ⟨rfl, rfl⟩
      clear h4
      go_wp2_with fail
      refine (am3 _).mono ?_; rintro e w' ⟨rfl, rfl⟩
      clear am3
      go_wp2_with fail
      refine (am4 _).mono ?_; rintro e w' ⟨rfl, rfl⟩
      clear am4
      go_wp2
      go_ret
      exact ⟨rfl, bseq (bseq (bseq (bseq (bseq (bseq (bseq hb1 hb2) hb3) hb4) hb5) hb6) hb7) hb8⟩
    · go_enter Try.func4, Try.ntmps4
      go_wp2_with fail
      refine (c1 _).mono ?_; rintro e w1 ⟨rfl, hb1⟩
      clear c1
      go_wp2_with fail
      refine (c2 _).mono ?_; rintro e w2 ⟨rfl, hb2⟩
      clear c2
      go_wp2_with fail
      refine (c3 _).mono ?_; rintro e w3 ⟨rfl, hb3⟩
      clear c3
      go_wp2_with fail
      refine (c4 _).mono ?_; rintro e w4 ⟨rfl, hb4⟩
      clear c4
      go_wp2_with fail
      refine (am1 _).mono ?_; rintro e w' ⟨rfl, rfl⟩
      clear am1
      go_wp2_with fail
      refine (am2 _).mono ?_; rintro e w' ⟨rfl, rfl⟩
      clear am2
      go_wp2_with fail
      refine (h1 _).mono ?_; rintro e w' ⟨rfl, rfl⟩
      clear h1
      go_wp2_with fail
      refine (h2 _).mono ?_; rintro e w' ⟨rfl, rfl⟩
      clear h2
      go_wp2_with fail
      refine (d1 _).mono ?_; rintro e w5 ⟨rfl, hb5⟩
      clear d1
      go_wp2_with fail
      refine (d2 _).mono ?_; rintro e w6 ⟨rfl, hb6⟩
      clear d2
      go_wp2_with fail
      refine (d3 _).mono ?_; rintro e w7 ⟨rfl, hb7⟩
      clear d3
      go_wp2_with fail
      refine (d4 _).mono ?_; rintro e w8 ⟨rfl, hb8⟩
      clear d4
      go_wp2_with fail
      refine (h3 _).mono ?_; rintro e w' ⟨rfl, rfl⟩
      clear h3
      go_wp2_with fail
      refine (h4 _).mono ?_; rintro e w' ⟨rfl, rfl⟩
      clear h4
      go_wp2_with fail
      refine (am3 _).mono ?_; rintro e w' ⟨rfl, rfl⟩
      clear am3
      go_wp2_with fail
      refine (am4 _).mono ?_; rintro e w' ⟨rfl, rfl⟩
      clear am4
      go_wp2
      go_ret
      exact ⟨rfl, bseq (bseq (bseq (bseq (bseq (bseq (bseq hb1 hb2) hb3) hb4) hb5) hb6) hb7) hb8⟩
set_option maxHeartbeats 8000000 in
set_option maxRecDepth 100000 in
theorem parts_pz (a b Q R U S x y q r u s : Int) (w : World) (ha : W64 a) (hb : W64 b) (hR : W64 R) (hy : W64 y) (hr : W64 r)
    (c1 : ∀ w, Calls Try.prog 9 #[.int .i64 54, .int .u64 a, .int .u64 b] w fun e w' => e = .returned (.tuple #[.int .u64 Q, .bool true]) ∧ Below w.heap.size w w')
    (c2 : ∀ w, Calls Try.prog 9 #[.int .i64 56, .int .u64 a, .int .u64 b] w fun e w' => e = .returned (.tuple #[.int .u64 R, .bool true]) ∧ Below w.heap.size w w')
    (c3 : ∀ w, Calls Try.prog 9 #[.int .i64 55, .int .u64 a, .int .u64 b] w fun e w' => e = .returned (.tuple #[.int .u64 U, .bool true]) ∧ Below w.heap.size w w')
    (c4 : ∀ w, Calls Try.prog 9 #[.int .i64 57, .int .u64 a, .int .u64 b] w fun e w' => e = .returned (.tuple #[.int .u64 S, .bool true]) ∧ Below w.heap.size w w')
    (d1 : ∀ w, Calls Try.prog 9 #[.int .i64 59, .int .u64 a, .int .u64 b] w fun e w' => e = .returned (.tuple #[.int .u64 q, .bool true]) ∧ Below w.heap.size w w')
    (d2 : ∀ w, Calls Try.prog 9 #[.int .i64 61, .int .u64 a, .int .u64 b] w fun e w' => e = .returned (.tuple #[.int .u64 r, .bool true]) ∧ Below w.heap.size w w')
    (d3 : ∀ w, Calls Try.prog 9 #[.int .i64 60, .int .u64 a, .int .u64 b] w fun e w' => e = .returned (.tuple #[.int .u64 u, .bool true]) ∧ Below w.heap.size w w')
    (d4 : ∀ w, Calls Try.prog 9 #[.int .i64 62, .int .u64 a, .int .u64 b] w fun e w' => e = .returned (.tuple #[.int .u64 s, .bool true]) ∧ Below w.heap.size w w')
    (hx : wid 4294967296 a = x) (hy' : wid 4294967296 b = y)
    (e1 : (IntKind.u64.wrap (IntKind.u64.wrap (Q * b) + R) != a) = false) (e2 : (IntKind.u64.wrap (IntKind.u64.wrap (U * b) + S) != a) = false)
    (e3 : wid 4294967296 (IntKind.u64.wrap (IntKind.u64.wrap (q * y) + r)) = x) (e4 : wid 4294967296 (IntKind.u64.wrap (IntKind.u64.wrap (u * b) + s)) = x)
    (f0 : b ≠ 0) (f1 : amt R < amt b) (f2 : S < b) (f4 : R ≠ 0 → R / 9223372036854775808 = a / 9223372036854775808) (f5 : U ≤ a)
    (g0 : y = 0) (g1 : q = 18446744073709551615) (g2 : u = 18446744073709551615) (g3 : r = x) (g4 : s = x) :
    Calls Try.prog 4 #[.int .u64 a, .int .u64 b] w fun e w' => e = .returned (.bool true) ∧ Below w.heap.size w w' := by
  have am1 := fun w => amount_any R w hR
  have am2 := fun w => amount_any b w hb
  have k0 : (b != 0) = true := by rw [bne_iff_ne]; exact f0
  have k1 : (b == 0) = false := by rw [beq_eq_false_iff_ne]; exact f0
  have k2 : decide (amt b ≤ amt R) = false := by rw [decide_eq_false_iff_not]; omega
  have k3 : decide (b ≤ S) = false := by rw [decide_eq_false_iff_not]; omega
  have k5 : decide (a < U) = false := by rw [decide_eq_false_iff_not]; omega
  have k4 : (R != 0) = false ∨ ((R != 0) = true ∧ (R / 9223372036854775808 != a / 9223372036854775808) = false) := by
    by_cases h : R = 0
    · exact .inl (by rw [bne_eq_false_iff_eq]; exact h)
    · exact .inr ⟨by rw [bne_iff_ne]; exact h, by rw [bne_eq_false_iff_eq]; exact f4 h⟩
  clear f0 f1 f2 f4 f5
  have l0 : (y == 0) = true := by rw [beq_iff_eq]; exact g0
  have l1 : (IntKind.u64.wrap (q + 1) == 0) = true := by rw [g1]; rfl
  have l2 : (IntKind.u64.wrap (u + 1) == 0) = true := by rw [g2]; rfl
  have l3 : (r == x) = true := by rw [beq_iff_eq]; exact g3
  have l4 : (s == x) = true := by rw [beq_iff_eq]; exact g4
  clear g0 g1 g2 g3 g4
  have h1 := fun w => lhalf_any a w ha
  have h2 := fun w => lhalf_any b w hb
  have h3 := fun w => lhalf_any _ w (wrap_w (IntKind.u64.wrap (q * y) + r))
  have h4 := fun w => lhalf_any _ w (wrap_w (IntKind.u64.wrap (u * b) + s))
  rw [hx] at h1
  rw [hy'] at h2
  rw [e3] at h3
  rw [e4] at h4
  clear hx hy' e3 e4
  obtain ⟨a0, a1⟩ := ha
  obtain ⟨b0, b1⟩ := hb
  obtain ⟨R0, R1⟩ := hR
  obtain ⟨y0, y1⟩ := hy
  obtain ⟨r0, r1⟩ := hr
  generalize amt R = aR at *
  generalize amt b = aB at *
  rcases k4 with k4 | ⟨k4, k6⟩
  · go_enter Try.func4, Try.ntmps4
    go_wp2_with fail
    refine (c1 _).mono ?_; rintro e w1 ⟨rfl, hb1⟩
    clear c1
    go_wp2_with fail
    refine (c2 _).mono ?_; rintro e w2 ⟨rfl, hb2⟩
    clear c2
    go_wp2_with fail
    refine (c3 _).mono ?_; rintro e w3 ⟨rfl, hb3⟩
    clear c3
    go_wp2_with fail
    refine (c4 _).mono ?_; rintro e w4 ⟨rfl, hb4⟩
    clear c4
    go_wp2_with fail
    refine (am1 _).mono ?_; rintro e w' ⟨rfl, rfl⟩
    clear am1
    go_wp2_with fail
    refine (am2 _).mono ?_; rintro e w' ⟨rfl, rfl⟩
    clear am2
    go_wp2_with fail
    refine (h1 _).mono ?_; rintro e w' ⟨rfl, rfl⟩
    clear h1
    go_wp2_with fail
    refine (h2 _).mono ?_; rintro e w' ⟨rfl, rfl⟩
    clear h2
    go_wp2_with fail
    refine (d1 _).mono ?_; rintro e w5 ⟨rfl, hb5⟩
    clear d1
    go_wp2_with fail
    refine (d2 _).mono ?_; rintro e w6 ⟨rfl, hb6⟩
    clear d2
    go_wp2_with fail
    refine (d3 _).mono ?_; rintro e w7 ⟨rfl, hb7⟩
    clear d3
    go_wp2_with fail
    refine (d4 _).mono ?_; rintro e w8 ⟨rfl, hb8⟩
    clear d4
    go_wp2_with fail
    refine (h3 _).mono ?_; rintro e w' ⟨rfl, rfl⟩
    clear h3
    go_wp2_with fail
    refine (h4 _).mono ?_; rintro e w' ⟨rfl, rfl⟩
    clear h4
    go_wp2
    go_ret
    exact ⟨rfl, bseq (bseq (bseq (bseq (bseq (bseq (bseq hb1 hb2) hb3) hb4) hb5) hb6) hb7) hb8⟩
  · go_enter Try.func4, Try.ntmps4
    go_wp2_with fail
    refine (c1 _).mono ?_; rintro e w1 ⟨rfl, hb1⟩
    clear c1
    go_wp2_with fail
    refine (c2 _).mono ?_; rintro e w2 ⟨rfl, hb2⟩
    clear c2
    go_wp2_with fail
    refine (c3 _).mono ?_; rintro e w3 ⟨rfl, hb3⟩
    clear c3
    go_wp2_with fail
    refine (c4 _).mono ?_; rintro e w4 ⟨rfl, hb4⟩
    clear c4
    go_wp2_with fail
    refine (am1 _).mono ?_; rintro e w' ⟨rfl, rfl⟩
    clear am1
    go_wp2_with fail
    refine (am2 _).mono ?_; rintro e w' ⟨rfl, rfl⟩
    clear am2
    go_wp2_with fail
    refine (h1 _).mono ?_; rintro e w' ⟨rfl, rfl⟩
    clear h1
    go_wp2_with fail
    refine (h2 _).mono ?_; rintro e w' ⟨rfl, rfl⟩
    clear h2
    go_wp2_with fail
    refine (d1 _).mono ?_; rintro e w5 ⟨rfl, hb5⟩
    clear d1
    go_wp2_with fail
    refine (d2 _).mono ?_; rintro e w6 ⟨rfl, hb6⟩
    clear d2
    go_wp2_with fail
    refine (d3 _).mono ?_; rintro e w7 ⟨rfl, hb7⟩
    clear d3
    go_wp2_with fail
    refine (d4 _).mono ?_; rintro e w8 ⟨rfl, hb8⟩
    clear d4
    go_wp2_with fail
    refine (h3 _).mono ?_; rintro e w' ⟨rfl, rfl⟩
    clear h3
    go_wp2_with fail
    refine (h4 _).mono ?_; rintro e w' ⟨rfl, rfl⟩
    clear h4
    go_wp2
    go_ret
    exact ⟨rfl, bseq (bseq (bseq (bseq (bseq (bseq (bseq hb1 hb2) hb3) hb4) hb5) hb6) hb7) hb8⟩
set_option maxHeartbeats 8000000 in
set_option maxRecDepth 100000 in
theorem parts_zz (a b Q R U S x y q r u s : Int) (w : World) (ha : W64 a) (hb : W64 b) (hR : W64 R) (hy : W64 y) (hr : W64 r)
    (c1 : ∀ w, Calls Try.prog 9 #[.int .i64 54, .int .u64 a, .int .u64 b] w fun e w' => e = .returned (.tuple #[.int .u64 Q, .bool true]) ∧ Below w.heap.size w w')
    (c2 : ∀ w, Calls Try.prog 9 #[.int .i64 56, .int .u64 a, .int .u64 b] w fun e w' => e = .returned (.tuple #[.int .u64 R, .bool true]) ∧ Below w.heap.size w w')
    (c3 : ∀ w, Calls Try.prog 9 #[.int .i64 55, .int .u64 a, .int .u64 b] w fun e w' => e = .returned (.tuple #[.int .u64 U, .bool true]) ∧ Below w.heap.size w w')
    (c4 : ∀ w, Calls Try.prog 9 #[.int .i64 57, .int .u64 a, .int .u64 b] w fun e w' => e = .returned (.tuple #[.int .u64 S, .bool true]) ∧ Below w.heap.size w w')
    (d1 : ∀ w, Calls Try.prog 9 #[.int .i64 59, .int .u64 a, .int .u64 b] w fun e w' => e = .returned (.tuple #[.int .u64 q, .bool true]) ∧ Below w.heap.size w w')
    (d2 : ∀ w, Calls Try.prog 9 #[.int .i64 61, .int .u64 a, .int .u64 b] w fun e w' => e = .returned (.tuple #[.int .u64 r, .bool true]) ∧ Below w.heap.size w w')
    (d3 : ∀ w, Calls Try.prog 9 #[.int .i64 60, .int .u64 a, .int .u64 b] w fun e w' => e = .returned (.tuple #[.int .u64 u, .bool true]) ∧ Below w.heap.size w w')
    (d4 : ∀ w, Calls Try.prog 9 #[.int .i64 62, .int .u64 a, .int .u64 b] w fun e w' => e = .returned (.tuple #[.int .u64 s, .bool true]) ∧ Below w.heap.size w w')
    (hx : wid 4294967296 a = x) (hy' : wid 4294967296 b = y)
    (e1 : (IntKind.u64.wrap (IntKind.u64.wrap (Q * b) + R) != a) = false) (e2 : (IntKind.u64.wrap (IntKind.u64.wrap (U * b) + S) != a) = false)
    (e3 : wid 4294967296 (IntKind.u64.wrap (IntKind.u64.wrap (q * y) + r)) = x) (e4 : wid 4294967296 (IntKind.u64.wrap (IntKind.u64.wrap (u * b) + s)) = x)
    (f0 : b = 0) (f1 : Q = 18446744073709551615) (f2 : U = 18446744073709551615) (f3 : R = a) (f4 : S = a)
    (g0 : y = 0) (g1 : q = 18446744073709551615) (g2 : u = 18446744073709551615) (g3 : r = x) (g4 : s = x) :
    Calls Try.prog 4 #[.int .u64 a, .int .u64 b] w fun e w' => e = .returned (.bool true) ∧ Below w.heap.size w w' := by
  have k0 : (b != 0) = false := by rw [bne_eq_false_iff_eq]; exact f0
  have k1 : (b == 0) = true := by rw [beq_iff_eq]; exact f0
  have k2 : (IntKind.u64.wrap (Q + 1) != 0) = false := by rw [f1]; rfl
  have k3 : (IntKind.u64.wrap (U + 1) != 0) = false := by rw [f2]; rfl
  have k4 : (R != a) = false := by rw [bne_eq_false_iff_eq]; exact f3
  have k5 : (S != a) = false := by rw [bne_eq_false_iff_eq]; exact f4
  clear f0 f1 f2 f3 f4
  have l0 : (y == 0) = true := by rw [beq_iff_eq]; exact g0
  have l1 : (IntKind.u64.wrap (q + 1) == 0) = true := by rw [g1]; rfl
  have l2 : (IntKind.u64.wrap (u + 1) == 0) = true := by rw [g2]; rfl
  have l3 : (r == x) = true := by rw [beq_iff_eq]; exact g3
  have l4 : (s == x) = true := by rw [beq_iff_eq]; exact g4
  clear g0 g1 g2 g3 g4
  have h1 := fun w => lhalf_any a w ha
  have h2 := fun w => lhalf_any b w hb
  have h3 := fun w => lhalf_any _ w (wrap_w (IntKind.u64.wrap (q * y) + r))
  have h4 := fun w => lhalf_any _ w (wrap_w (IntKind.u64.wrap (u * b) + s))
  rw [hx] at h1
  rw [hy'] at h2
  rw [e3] at h3
  rw [e4] at h4
  clear hx hy' e3 e4
  obtain ⟨a0, a1⟩ := ha
  obtain ⟨b0, b1⟩ := hb
  obtain ⟨R0, R1⟩ := hR
  obtain ⟨y0, y1⟩ := hy
  obtain ⟨r0, r1⟩ := hr
  go_enter Try.func4, Try.ntmps4
  go_wp2_with fail
  refine (c1 _).mono ?_; rintro e w1 ⟨rfl, hb1⟩
  clear c1
  go_wp2_with fail
  refine (c2 _).mono ?_; rintro e w2 ⟨rfl, hb2⟩
  clear c2
  go_wp2_with fail
  refine (c3 _).mono ?_; rintro e w3 ⟨rfl, hb3⟩
  clear c3
  go_wp2_with fail
  refine (c4 _).mono ?_; rintro e w4 ⟨rfl, hb4⟩
  clear c4
  go_wp2_with fail
  refine (h1 _).mono ?_; rintro e w' ⟨rfl, rfl⟩
  clear h1
  go_wp2_with fail
  refine (h2 _).mono ?_; rintro e w' ⟨rfl, rfl⟩
  clear h2
  go_wp2_with fail
  refine (d1 _).mono ?_; rintro e w5 ⟨rfl, hb5⟩
  clear d1
  go_wp2_with fail
  refine (d2 _).mono ?_; rintro e w6 ⟨rfl, hb6⟩
  clear d2
  go_wp2_with fail
  refine (d3 _).mono ?_; rintro e w7 ⟨rfl, hb7⟩
  clear d3
  go_wp2_with fail
  refine (d4 _).mono ?_; rintro e w8 ⟨rfl, hb8⟩
  clear d4
  go_wp2_with fail
  refine (h3 _).mono ?_; rintro e w' ⟨rfl, rfl⟩
  clear h3
  go_wp2_with fail
  refine (h4 _).mono ?_; rintro e w' ⟨rfl, rfl⟩
  clear h4
  go_wp2
  go_ret
  exact ⟨rfl, bseq (bseq (bseq (bseq (bseq (bseq (bseq hb1 hb2) hb3) hb4) hb5) hb6) hb7) hb8⟩
end Go.Proofs.Ythdahigckflohab
