import Derived.Test.YtfafinjbobmafaaDoorBack
namespace Go.Proofs.YtfafinjbobmafaaDoor
open Go.RowKit
set_option linter.unusedVariables false
/-- The bits of a word that are its operation's own, by shape. -/
def ms (s x : Int) : Int :=
  if s = 1 ∨ s = 4 then x % 128 + x / 4096 % 8 * 4096 + x / 33554432 * 33554432
  else if s = 3 then x % 128 + x / 4096 % 8 * 4096 + x / 67108864 * 67108864
  else if s = 8 ∨ s = 9 then x % 128
  else if s = 11 then x
  else if s = 12 then x % 128 + x / 128 % 32 * 128 + x / 4096 % 8 * 4096 + x / 33554432 * 33554432
  else x % 128 + x / 4096 % 8 * 4096
theorem and_split (k x0 x1 y0 y1 : Nat) (hx : x0 < 2 ^ k) (hy : y0 < 2 ^ k) : (x0 + 2 ^ k * x1) &&& (y0 + 2 ^ k * y1) = (x0 &&& y0) + 2 ^ k * (x1 &&& y1) := by
  have h : x0 &&& y0 < 2 ^ k := Nat.and_lt_two_pow _ hy
  apply Nat.eq_of_testBit_eq
  intro i
  rw [Nat.testBit_and, Nat.add_comm x0, Nat.add_comm y0, Nat.add_comm (x0 &&& y0), Nat.testBit_two_pow_mul_add _ hx, Nat.testBit_two_pow_mul_add _ hy, Nat.testBit_two_pow_mul_add _ h]
  split <;> simp
theorem and_slots (a0 a1 a2 a3 a4 a5 b0 b1 b2 b3 b4 b5 : Nat) (ha0 : a0 < 128) (ha1 : a1 < 32) (ha2 : a2 < 8) (ha3 : a3 < 32) (ha4 : a4 < 32) (hb0 : b0 < 128) (hb1 : b1 < 32) (hb2 : b2 < 8) (hb3 : b3 < 32) (hb4 : b4 < 32) :
    (a0 + 128 * (a1 + 32 * (a2 + 8 * (a3 + 32 * (a4 + 32 * a5))))) &&& (b0 + 128 * (b1 + 32 * (b2 + 8 * (b3 + 32 * (b4 + 32 * b5))))) =
    (a0 &&& b0) + 128 * ((a1 &&& b1) + 32 * ((a2 &&& b2) + 8 * ((a3 &&& b3) + 32 * ((a4 &&& b4) + 32 * (a5 &&& b5))))) := by
  have e0 := and_split 7 a0 (a1 + 32 * (a2 + 8 * (a3 + 32 * (a4 + 32 * a5)))) b0 (b1 + 32 * (b2 + 8 * (b3 + 32 * (b4 + 32 * b5)))) ha0 hb0
  have e1 := and_split 5 a1 (a2 + 8 * (a3 + 32 * (a4 + 32 * a5))) b1 (b2 + 8 * (b3 + 32 * (b4 + 32 * b5))) ha1 hb1
  have e2 := and_split 3 a2 (a3 + 32 * (a4 + 32 * a5)) b2 (b3 + 32 * (b4 + 32 * b5)) ha2 hb2
  have e3 := and_split 5 a3 (a4 + 32 * a5) b3 (b4 + 32 * b5) ha3 hb3
  have e4 := and_split 5 a4 a5 b4 b5 ha4 hb4
  rw [show (2 : Nat) ^ 7 = 128 from rfl] at e0
  rw [show (2 : Nat) ^ 5 = 32 from rfl] at e1 e3 e4
  rw [show (2 : Nat) ^ 3 = 8 from rfl] at e2
  rw [e0, e1, e2, e3, e4]
theorem and_ones (k a : Nat) (h : a < 2 ^ k) : a &&& (2 ^ k - 1) = a := by
  rw [Nat.and_two_pow_sub_one_eq_mod, Nat.mod_eq_of_lt h]
/-- A word's own bits by a mask. -/
theorem and_mask (s x : Nat) (hs0 : 1 ≤ s) (hs1 : s ≤ 14) (hx : x < 4294967296) : ((x &&& (fxb (s : Int)).toNat : Nat) : Int) = ms (s : Int) (x : Int) := by
  have e := fun b0 b1 b2 b3 b4 b5 h0 h1 h2 h3 h4 => and_slots (x % 128) (x / 128 % 32) (x / 4096 % 8) (x / 32768 % 32) (x / 1048576 % 32) (x / 33554432) b0 b1 b2 b3 b4 b5 (by omega) (by omega) (by omega) (by omega) (by omega) h0 h1 h2 h3 h4
  have ex : x % 128 + 128 * (x / 128 % 32 + 32 * (x / 4096 % 8 + 8 * (x / 32768 % 32 + 32 * (x / 1048576 % 32 + 32 * (x / 33554432))))) = x := by omega
  rw [ex] at e
  have o7 : ∀ a, a < 128 → a &&& 127 = a := fun a h => and_ones 7 a h
  have o5 : ∀ a, a < 32 → a &&& 31 = a := fun a h => and_ones 5 a h
  have o3 : ∀ a, a < 8 → a &&& 7 = a := fun a h => and_ones 3 a h
  have o6 : ∀ a, a < 128 → a &&& 126 = a / 2 * 2 := fun a h => by
    have := and_split 1 (a % 2) (a / 2) 0 63 (by omega) (by omega)
    rw [show a % 2 + 2 ^ 1 * (a / 2) = a by omega, show 0 + 2 ^ 1 * 63 = 126 from rfl, and_ones 6 (a / 2) (by omega)] at this
    rw [this]; simp; omega
  have m0 := o7 (x % 128) (by omega)
  have m1 := o5 (x / 128 % 32) (by omega)
  have m2 := o3 (x / 4096 % 8) (by omega)
  have m3 := o5 (x / 32768 % 32) (by omega)
  have m4 := o5 (x / 1048576 % 32) (by omega)
  have m5 := o7 (x / 33554432) (by omega)
  have m6 := o6 (x / 33554432) (by omega)
  have hc : s = 1 ∨ s = 2 ∨ s = 3 ∨ s = 4 ∨ s = 5 ∨ s = 6 ∨ s = 7 ∨ s = 8 ∨ s = 9 ∨ s = 10 ∨ s = 11 ∨ s = 12 ∨ s = 13 ∨ s = 14 := by omega
  have eR := e 127 0 7 0 0 127 (by omega) (by omega) (by omega) (by omega) (by omega)
  have eI := e 127 0 7 0 0 0 (by omega) (by omega) (by omega) (by omega) (by omega)
  have eH := e 127 0 7 0 0 126 (by omega) (by omega) (by omega) (by omega) (by omega)
  have eU := e 127 0 0 0 0 0 (by omega) (by omega) (by omega) (by omega) (by omega)
  have eZ := e 127 31 7 31 31 127 (by omega) (by omega) (by omega) (by omega) (by omega)
  have eV := e 127 31 7 0 0 127 (by omega) (by omega) (by omega) (by omega) (by omega)
  clear e ex o7 o5 o3 o6
  simp only [m0, m1, m2, m3, m4, m5, m6, Nat.and_zero, Nat.mul_zero, Nat.add_zero, Nat.reduceMul, Nat.reduceAdd] at eR eI eH eU eZ eV
  rcases hc with rfl | rfl | rfl | rfl | rfl | rfl | rfl | rfl | rfl | rfl | rfl | rfl | rfl | rfl
  · rw [show (fxb ((1 : Nat) : Int)).toNat = 4261441663 from by kernel_rfl, eR]; clear eR eI eH eU eZ eV m0 m1 m2 m3 m4 m5 m6; simp [ms]; omega
  · rw [show (fxb ((2 : Nat) : Int)).toNat = 28799 from by kernel_rfl, eI]; clear eR eI eH eU eZ eV m0 m1 m2 m3 m4 m5 m6; simp [ms]; omega
  · rw [show (fxb ((3 : Nat) : Int)).toNat = 4227887231 from by kernel_rfl, eH]; clear eR eI eH eU eZ eV m0 m1 m2 m3 m4 m5 m6; simp [ms]; omega
  · rw [show (fxb ((4 : Nat) : Int)).toNat = 4261441663 from by kernel_rfl, eR]; clear eR eI eH eU eZ eV m0 m1 m2 m3 m4 m5 m6; simp [ms]; omega
  · rw [show (fxb ((5 : Nat) : Int)).toNat = 28799 from by kernel_rfl, eI]; clear eR eI eH eU eZ eV m0 m1 m2 m3 m4 m5 m6; simp [ms]; omega
  · rw [show (fxb ((6 : Nat) : Int)).toNat = 28799 from by kernel_rfl, eI]; clear eR eI eH eU eZ eV m0 m1 m2 m3 m4 m5 m6; simp [ms]; omega
  · rw [show (fxb ((7 : Nat) : Int)).toNat = 28799 from by kernel_rfl, eI]; clear eR eI eH eU eZ eV m0 m1 m2 m3 m4 m5 m6; simp [ms]; omega
  · rw [show (fxb ((8 : Nat) : Int)).toNat = 127 from by kernel_rfl, eU]; clear eR eI eH eU eZ eV m0 m1 m2 m3 m4 m5 m6; simp [ms]
  · rw [show (fxb ((9 : Nat) : Int)).toNat = 127 from by kernel_rfl, eU]; clear eR eI eH eU eZ eV m0 m1 m2 m3 m4 m5 m6; simp [ms]
  · rw [show (fxb ((10 : Nat) : Int)).toNat = 28799 from by kernel_rfl, eI]; clear eR eI eH eU eZ eV m0 m1 m2 m3 m4 m5 m6; simp [ms]; omega
  · rw [show (fxb ((11 : Nat) : Int)).toNat = 4294967295 from by kernel_rfl, eZ]; clear eR eI eH eU eZ eV m0 m1 m2 m3 m4 m5 m6; simp [ms]; omega
  · rw [show (fxb ((12 : Nat) : Int)).toNat = 4261445631 from by kernel_rfl, eV]; clear eR eI eH eU eZ eV m0 m1 m2 m3 m4 m5 m6; simp [ms]; omega
  · rw [show (fxb ((13 : Nat) : Int)).toNat = 28799 from by kernel_rfl, eI]; clear eR eI eH eU eZ eV m0 m1 m2 m3 m4 m5 m6; simp [ms]; omega
  · rw [show (fxb ((14 : Nat) : Int)).toNat = 28799 from by kernel_rfl, eI]; clear eR eI eH eU eZ eV m0 m1 m2 m3 m4 m5 m6; simp [ms]; omega
theorem xor_zero (a b : Nat) : a ^^^ b = 0 ↔ a = b := by
  constructor
  · intro h
    have := congrArg (fun y => y ^^^ b) h
    simpa [Nat.xor_assoc] using this
  · rintro rfl; simp
theorem xor_and (a b m : Nat) : (a ^^^ b) &&& m = 0 ↔ a &&& m = b &&& m := by
  rw [Nat.and_xor_distrib_right]
  exact xor_zero _ _
theorem fxb_bd (s : Int) (hs0 : 1 ≤ s) (hs1 : s ≤ 14) : 0 ≤ fxb s ∧ fxb s < 4294967296 := by
  rcases shapes14 s hs0 hs1 with rfl | rfl | rfl | rfl | rfl | rfl | rfl | rfl | rfl | rfl | rfl | rfl | rfl | rfl <;> decide +kernel
theorem test_and (a x m : Int) (ha : 0 ≤ a ∧ a < 4294967296) (hx : 0 ≤ x ∧ x < 4294967296) (hm : 0 ≤ m ∧ m < 4294967296) :
    bits .and .u32 (bits .xor .u32 a x) m = 0 ↔ ((a.toNat &&& m.toNat : Nat) : Int) = ((x.toNat &&& m.toNat : Nat) : Int) := by
  have hl : a.toNat ^^^ x.toNat < 2 ^ 32 := Nat.xor_lt_two_pow (by omega) (by omega)
  rw [u32_xor a x ha.1 ha.2 hx.1 hx.2, u32_and _ m (by omega) (by omega) hm.1 hm.2, Int.toNat_natCast]
  rw [show (((a.toNat ^^^ x.toNat) &&& m.toNat : Nat) : Int) = 0 ↔ (a.toNat ^^^ x.toNat) &&& m.toNat = 0 from by omega, xor_and]
  omega
theorem mask_int (s x : Int) (hs0 : 1 ≤ s) (hs1 : s ≤ 14) (hx : 0 ≤ x ∧ x < 4294967296) : ((x.toNat &&& (fxb s).toNat : Nat) : Int) = ms s x := by
  have := and_mask s.toNat x.toNat (by omega) (by omega) (by omega)
  rwa [show ((s.toNat : Nat) : Int) = s by omega, show ((x.toNat : Nat) : Int) = x by omega] at this
theorem ms_wd_all : (List.range 77).all (fun n => let op : Int := n; decide (sh op = 0) || decide (ms (sh op) (wd op) = wd op)) = true := by decide +kernel
theorem ms_wd (op : Int) (hs : sh op ≠ 0) : ms (sh op) (wd op) = wd op := by
  have hop : ¬ (op < 1 ∨ 77 ≤ op) := fun h => hs (sh_out op h)
  have h := List.all_eq_true.1 ms_wd_all op.toNat (by simp; omega)
  simp only [show (op.toNat : Int) = op by omega, Bool.or_eq_true, decide_eq_true_eq] at h
  exact h.resolve_left hs
/-- The program's test of a word against a row. -/
theorem test_mask (op x : Int) (hs : sh op ≠ 0) (hx : 0 ≤ x ∧ x < 4294967296) : bits .and .u32 (bits .xor .u32 (wd op) x) (fxb (sh op)) = 0 ↔ ms (sh op) x = wd op := by
  have b := sh_bd op
  have hw := wd_at op hs
  rw [test_and (wd op) x _ ⟨hw.1, hw.2.1⟩ hx (fxb_bd _ (by omega) b.2), mask_int _ _ (by omega) b.2 ⟨hw.1, hw.2.1⟩, mask_int _ _ (by omega) b.2 hx, ms_wd op hs]
  exact eq_comm
theorem test_127 (op x : Int) (hs : sh op ≠ 0) (hx : 0 ≤ x ∧ x < 4294967296) : bits .and .u32 (bits .xor .u32 (wd op) x) 127 = 0 ↔ x % 128 = wd op % 128 := by
  have hw := wd_at op hs
  have e : ∀ y : Int, 0 ≤ y → ((y.toNat &&& (127 : Int).toNat : Nat) : Int) = y % 128 := fun y hy => by
    rw [show y.toNat &&& (127 : Int).toNat = y.toNat % 128 from Nat.and_two_pow_sub_one_eq_mod _ 7]
    omega
  rw [test_and (wd op) x _ ⟨hw.1, hw.2.1⟩ hx (by decide), e _ hw.1, e _ hx.1]
  exact eq_comm
theorem ms_low (s x : Int) (hs0 : 1 ≤ s) (hs1 : s ≤ 14) (hx : 0 ≤ x ∧ x < 4294967296) : ms s x % 128 = x % 128 := by
  rcases shapes14 s hs0 hs1 with rfl | rfl | rfl | rfl | rfl | rfl | rfl | rfl | rfl | rfl | rfl | rfl | rfl | rfl <;> simp [ms] <;> omega
/-- The bits of a word where its shape's number lies. -/
def im (s x : Int) : Int :=
  if s = 2 ∨ s = 5 ∨ s = 10 then x / 1048576 * 1048576
  else if s = 3 then x / 1048576 % 64 * 1048576
  else if s = 4 then x / 1048576 % 32 * 1048576
  else if s = 6 ∨ s = 7 then x / 33554432 * 33554432 + x / 128 % 32 * 128
  else if s = 8 ∨ s = 9 then x / 4096 * 4096
  else if s = 14 then x / 32768 % 32 * 32768
  else 0
theorem w32 (x : Int) (hx : 0 ≤ x ∧ x < 4294967296) : wrap32 x = x - x / 2147483648 * 4294967296 := by unfold wrap32; omega
theorem tk_holds (s x : Int) (hs0 : 1 ≤ s) (hs1 : s ≤ 14) (hx : 0 ≤ x ∧ x < 4294967296) : Hs s (tk s x) := by
  have hw := w32 x hx
  rcases shapes14 s hs0 hs1 with rfl | rfl | rfl | rfl | rfl | rfl | rfl | rfl | rfl | rfl | rfl | rfl | rfl | rfl <;> simp [tk, Hs, sg, pc] <;> omega
theorem back7' (a b c d : Int) (ha : 0 ≤ a ∧ a < 2) (hb : 0 ≤ b ∧ b < 64) (hc : 0 ≤ c ∧ c < 16) (hd : 0 ≤ d ∧ d < 2) :
    let n := -a * 4096 + (d * 2048 + b * 32 + c * 2)
    n % 4294967296 / 4096 % 2 = a ∧ n % 4294967296 / 32 % 64 = b ∧ n % 4294967296 / 2 % 16 = c ∧ n % 4294967296 / 2048 % 2 = d := by
  intro n
  refine ⟨?_, ?_, ?_, ?_⟩ <;> omega
theorem back9' (a b c d : Int) (ha : 0 ≤ a ∧ a < 2) (hb : 0 ≤ b ∧ b < 1024) (hc : 0 ≤ c ∧ c < 2) (hd : 0 ≤ d ∧ d < 256) :
    let n := -a * 1048576 + (d * 4096 + c * 2048 + b * 2)
    n % 4294967296 / 1048576 % 2 = a ∧ n % 4294967296 / 2 % 1024 = b ∧ n % 4294967296 / 2048 % 2 = c ∧ n % 4294967296 / 4096 % 256 = d := by
  intro n
  refine ⟨?_, ?_, ?_, ?_⟩ <;> omega
theorem pt_tk (s x : Int) (hs0 : 1 ≤ s) (hs1 : s ≤ 14) (hx : 0 ≤ x ∧ x < 4294967296) : pt s (tk s x) = im s x := by
  have hw := w32 x hx
  rcases shapes14 s hs0 hs1 with rfl | rfl | rfl | rfl | rfl | rfl | rfl | rfl | rfl | rfl | rfl | rfl | rfl | rfl
  · simp [pt, im]
  · simp [tk, pt, im, sg, pc]; omega
  · simp [tk, pt, im, pc]
  · simp [tk, pt, im, pc]
  · simp [tk, pt, im, sg, pc]; omega
  · simp [tk, pt, im, sg, pc]; omega
  · have hn : wrap32 x / 2147483648 = -(x / 2147483648) := by omega
    obtain ⟨q1, q2, q3, q4⟩ := back7' (x / 2147483648) (x / 33554432 % 64) (x / 256 % 16) (x / 128 % 2) (by omega) (by omega) (by omega) (by omega)
    simp [tk, pt, im, sg, pc]
    rw [hn, q1, q2, q3, q4]
    clear q1 q2 q3 q4 hn hw
    omega
  · simp [tk, pt, im, sg, pc]; omega
  · have hn : wrap32 x / 2147483648 = -(x / 2147483648) := by omega
    obtain ⟨q1, q2, q3, q4⟩ := back9' (x / 2147483648) (x / 2097152 % 1024) (x / 1048576 % 2) (x / 4096 % 256) (by omega) (by omega) (by omega) (by omega)
    simp [tk, pt, im, sg, pc]
    rw [hn, q1, q2, q3, q4]
    clear q1 q2 q3 q4 hn hw
    omega
  · simp [tk, pt, im, pc]; omega
  · simp [pt, im]
  · simp [pt, im]
  · simp [pt, im]
  · simp [tk, pt, im, pc]
/-- The instruction that a word is, if it is one of that operation: it may be, and its word is this one just where the operation's own bits are the row's. -/
theorem guess_valid (op x : Int) (hs : sh op ≠ 0) (hx : 0 ≤ x ∧ x < 4294967296) :
    (refuse op (fRd (sh op) x) (fRs1 (sh op) x) (fRs2 (sh op) x) (tk (sh op) x) (fCsr (sh op) x)).2 = 0 := by
  have b := sh_bd op
  refine (refuse_none _ _ _ _ _ _).2 ⟨hs, ?_, ?_⟩
  · rw [wf_iff]
    obtain ⟨m1, m2, m3, m4⟩ := m31
    have p1 := pc_bd x 7 5
    have p2 := pc_bd x 15 5
    have p3 := pc_bd x 20 5
    have p4 := pc_bd x 20 12
    rw [show (2 : Int) ^ (5 : Int).toNat = 32 from rfl] at p1 p2 p3
    rw [show (2 : Int) ^ (12 : Int).toNat = 4096 from rfl] at p4
    unfold fRd fRs1 fRs2 fCsr
    rw [m1, m2, m3, m4]
    refine ⟨?_, ?_, ?_, ?_⟩ <;> split <;> omega
  · exact (back_iff _ _ (by omega) b.2).2 (tk_holds _ x (by omega) b.2 hx)
theorem guess_word (op x : Int) (hs : sh op ≠ 0) (hx : 0 ≤ x ∧ x < 4294967296) :
    eS op (fRd (sh op) x) (fRs1 (sh op) x) (fRs2 (sh op) x) (tk (sh op) x) (fCsr (sh op) x) = x ↔ ms (sh op) x = wd op := by
  have b := sh_bd op
  unfold eS
  rw [pt_tk _ x (by omega) b.2 hx]
  have key : ms (sh op) x + (fRd (sh op) x * 128 + fRs1 (sh op) x * 32768 + fRs2 (sh op) x * 1048576 + fCsr (sh op) x * 1048576) + im (sh op) x = x := by
    have hs14 := shapes14 (sh op) (by omega) b.2
    generalize sh op = s at *
    rcases hs14 with rfl | rfl | rfl | rfl | rfl | rfl | rfl | rfl | rfl | rfl | rfl | rfl | rfl | rfl <;> simp [ms, im, fRd, fRs1, fRs2, fCsr, pc] <;> omega
  omega
end Go.Proofs.YtfafinjbobmafaaDoor
