import Derived.Test.YthdahigckflohabZWrong
namespace Go.Proofs.Ythdahigckflohab
set_option linter.unusedVariables false
theorem pt_bd (s y : Int) : 0 ≤ pt s y ∧ pt s y < 4294967296 := by
  unfold pt
  have d : ∀ lo wd : Int, 0 ≤ pc (y % 4294967296) lo wd ∧ pc (y % 4294967296) lo wd < 2 ^ wd.toNat := fun lo wd => pc_bd _ lo wd
  have a1 := d 0 12; have a2 := d 0 6; have a3 := d 0 5; have a4 := d 5 7; have a5 := d 12 1; have a6 := d 5 6; have a7 := d 1 4; have a8 := d 11 1; have a9 := d 12 20; have a10 := d 20 1; have a11 := d 1 10; have a12 := d 12 8
  simp only [show (12 : Int).toNat = 12 from rfl, show (6 : Int).toNat = 6 from rfl, show (5 : Int).toNat = 5 from rfl, show (7 : Int).toNat = 7 from rfl, show (1 : Int).toNat = 1 from rfl, show (4 : Int).toNat = 4 from rfl, show (20 : Int).toNat = 20 from rfl, show (10 : Int).toNat = 10 from rfl, show (8 : Int).toNat = 8 from rfl] at *
  repeat' split
  all_goals omega
theorem or_split (k x0 x1 y0 y1 : Nat) (hx : x0 < 2 ^ k) (hy : y0 < 2 ^ k) : (x0 + 2 ^ k * x1) ||| (y0 + 2 ^ k * y1) = (x0 ||| y0) + 2 ^ k * (x1 ||| y1) := by
  have h : x0 ||| y0 < 2 ^ k := Nat.or_lt_two_pow hx hy
  apply Nat.eq_of_testBit_eq
  intro i
  rw [Nat.testBit_or, Nat.add_comm x0, Nat.add_comm y0, Nat.add_comm (x0 ||| y0), Nat.testBit_two_pow_mul_add _ hx, Nat.testBit_two_pow_mul_add _ hy, Nat.testBit_two_pow_mul_add _ h]
  split <;> simp
theorem or_zero_add (a b : Nat) (h : a = 0 ∨ b = 0) : a ||| b = a + b := by
  rcases h with rfl | rfl <;> simp
theorem or_even (a b : Nat) (h : a = 0 ∨ b = 0 ∨ (a % 2 = 0 ∧ b < 2)) : a ||| b = a + b := by
  rcases h with h | h | ⟨h1, h2⟩
  · exact or_zero_add a b (.inl h)
  · exact or_zero_add a b (.inr h)
  · exact nat_join 1 a b h1 h2
/-- Two numbers in six places (7, 5, 3, 5, 5, 7 bits), in each place one of them nothing: their 'or' is their sum. -/
theorem or_slots (a0 a1 a2 a3 a4 a5 b0 b1 b2 b3 b4 b5 : Nat) (ha0 : a0 < 128) (ha1 : a1 < 32) (ha2 : a2 < 8) (ha3 : a3 < 32) (ha4 : a4 < 32) (hb0 : b0 < 128) (hb1 : b1 < 32) (hb2 : b2 < 8) (hb3 : b3 < 32) (hb4 : b4 < 32)
    (h0 : a0 = 0 ∨ b0 = 0) (h1 : a1 = 0 ∨ b1 = 0) (h2 : a2 = 0 ∨ b2 = 0) (h3 : a3 = 0 ∨ b3 = 0) (h4 : a4 = 0 ∨ b4 = 0) (h5 : a5 = 0 ∨ b5 = 0 ∨ (a5 % 2 = 0 ∧ b5 < 2)) :
    (a0 + 128 * (a1 + 32 * (a2 + 8 * (a3 + 32 * (a4 + 32 * a5))))) ||| (b0 + 128 * (b1 + 32 * (b2 + 8 * (b3 + 32 * (b4 + 32 * b5))))) =
    (a0 + 128 * (a1 + 32 * (a2 + 8 * (a3 + 32 * (a4 + 32 * a5))))) + (b0 + 128 * (b1 + 32 * (b2 + 8 * (b3 + 32 * (b4 + 32 * b5))))) := by
  have e0 := or_split 7 a0 (a1 + 32 * (a2 + 8 * (a3 + 32 * (a4 + 32 * a5)))) b0 (b1 + 32 * (b2 + 8 * (b3 + 32 * (b4 + 32 * b5)))) ha0 hb0
  have e1 := or_split 5 a1 (a2 + 8 * (a3 + 32 * (a4 + 32 * a5))) b1 (b2 + 8 * (b3 + 32 * (b4 + 32 * b5))) ha1 hb1
  have e2 := or_split 3 a2 (a3 + 32 * (a4 + 32 * a5)) b2 (b3 + 32 * (b4 + 32 * b5)) ha2 hb2
  have e3 := or_split 5 a3 (a4 + 32 * a5) b3 (b4 + 32 * b5) ha3 hb3
  have e4 := or_split 5 a4 a5 b4 b5 ha4 hb4
  rw [show (2 : Nat) ^ 7 = 128 from rfl] at e0
  rw [show (2 : Nat) ^ 5 = 32 from rfl] at e1 e3 e4
  rw [show (2 : Nat) ^ 3 = 8 from rfl] at e2
  rw [e0, e1, e2, e3, e4, or_zero_add _ _ h0, or_zero_add _ _ h1, or_zero_add _ _ h2, or_zero_add _ _ h3, or_zero_add _ _ h4, or_even _ _ h5]
  omega
theorem slots_nat (A a0 a1 a2 a3 a4 a5 : Int) (hA : A = a0 + 128 * (a1 + 32 * (a2 + 8 * (a3 + 32 * (a4 + 32 * a5)))))
    (ha0 : 0 ≤ a0 ∧ a0 < 128) (ha1 : 0 ≤ a1 ∧ a1 < 32) (ha2 : 0 ≤ a2 ∧ a2 < 8) (ha3 : 0 ≤ a3 ∧ a3 < 32) (ha4 : 0 ≤ a4 ∧ a4 < 32) (ha5 : 0 ≤ a5 ∧ a5 < 128) :
    0 ≤ A ∧ A < 4294967296 ∧ A.toNat = a0.toNat + 128 * (a1.toNat + 32 * (a2.toNat + 8 * (a3.toNat + 32 * (a4.toNat + 32 * a5.toNat)))) := by
  refine ⟨?_, ?_, ?_⟩ <;> omega
theorem nil_nat {a b : Int} (h : a = 0 ∨ b = 0) : a.toNat = 0 ∨ b.toNat = 0 := by
  rcases h with rfl | rfl
  · exact .inl rfl
  · exact .inr rfl
theorem nil_nat5 {a b : Int} (ha : 0 ≤ a) (h : a = 0 ∨ b = 0 ∨ (a % 2 = 0 ∧ b < 2)) : a.toNat = 0 ∨ b.toNat = 0 ∨ (a.toNat % 2 = 0 ∧ b.toNat < 2) := by
  omega
theorem or_slots_int (A B a0 a1 a2 a3 a4 a5 b0 b1 b2 b3 b4 b5 : Int) (hA : A = a0 + 128 * (a1 + 32 * (a2 + 8 * (a3 + 32 * (a4 + 32 * a5))))) (hB : B = b0 + 128 * (b1 + 32 * (b2 + 8 * (b3 + 32 * (b4 + 32 * b5)))))
    (ha0 : 0 ≤ a0 ∧ a0 < 128) (ha1 : 0 ≤ a1 ∧ a1 < 32) (ha2 : 0 ≤ a2 ∧ a2 < 8) (ha3 : 0 ≤ a3 ∧ a3 < 32) (ha4 : 0 ≤ a4 ∧ a4 < 32) (ha5 : 0 ≤ a5 ∧ a5 < 128)
    (hb0 : 0 ≤ b0 ∧ b0 < 128) (hb1 : 0 ≤ b1 ∧ b1 < 32) (hb2 : 0 ≤ b2 ∧ b2 < 8) (hb3 : 0 ≤ b3 ∧ b3 < 32) (hb4 : 0 ≤ b4 ∧ b4 < 32) (hb5 : 0 ≤ b5 ∧ b5 < 128)
    (h0 : a0 = 0 ∨ b0 = 0) (h1 : a1 = 0 ∨ b1 = 0) (h2 : a2 = 0 ∨ b2 = 0) (h3 : a3 = 0 ∨ b3 = 0) (h4 : a4 = 0 ∨ b4 = 0) (h5 : a5 = 0 ∨ b5 = 0 ∨ (a5 % 2 = 0 ∧ b5 < 2)) :
    bits .or .u32 A B = A + B := by
  obtain ⟨pA, qA, eA⟩ := slots_nat A a0 a1 a2 a3 a4 a5 hA ha0 ha1 ha2 ha3 ha4 ha5
  obtain ⟨pB, qB, eB⟩ := slots_nat B b0 b1 b2 b3 b4 b5 hB hb0 hb1 hb2 hb3 hb4 hb5
  rw [u32_or A B pA qA pB qB]
  have lt : ∀ {x : Int} {n : Nat}, 0 ≤ x ∧ x < (n : Int) → x.toNat < n := fun h => by omega
  have key := or_slots a0.toNat a1.toNat a2.toNat a3.toNat a4.toNat a5.toNat b0.toNat b1.toNat b2.toNat b3.toNat b4.toNat b5.toNat (lt ha0) (lt ha1) (lt ha2) (lt ha3) (lt ha4) (lt hb0) (lt hb1) (lt hb2) (lt hb3) (lt hb4)
    (nil_nat h0) (nil_nat h1) (nil_nat h2) (nil_nat h3) (nil_nat h4) (nil_nat5 ha5.1 h5)
  rw [← eA, ← eB] at key
  rw [key]
  clear h0 h1 h2 h3 h4 h5 eA eB hA hB key
  omega
theorem wf_iff (s rd rs1 rs2 csr : Int) : wf s rd rs1 rs2 csr = 0 ↔ (0 ≤ rd ∧ rd ≤ fRd s 4294967295) ∧ (0 ≤ rs1 ∧ rs1 ≤ fRs1 s 4294967295) ∧ (0 ≤ rs2 ∧ rs2 ≤ fRs2 s 4294967295) ∧ (0 ≤ csr ∧ csr ≤ fCsr s 4294967295) := by
  unfold wf
  repeat' split
  all_goals omega
theorem m31 : pc 4294967295 7 5 = 31 ∧ pc 4294967295 15 5 = 31 ∧ pc 4294967295 20 5 = 31 ∧ pc 4294967295 20 12 = 4095 := by decide +kernel
/-- What a row's word holds in its places. -/
theorem wd_all : (List.range 77).all (fun n => let op : Int := n; let w := wd op; let s := sh op; let o := w % 128; let f3 := w / 4096 % 8; let f7 := w / 33554432
    decide (s = 0) || decide (0 ≤ w ∧ w < 4294967296 ∧ (s ≠ 11 → w = o + 4096 * f3 + 33554432 * f7) ∧ (s = 8 ∨ s = 9 → f3 = 0 ∧ f7 = 0) ∧ (s = 2 ∨ s = 5 ∨ s = 6 ∨ s = 7 ∨ s = 10 ∨ s = 13 ∨ s = 14 → f7 = 0) ∧ (s = 3 → f7 % 2 = 0))) = true := by decide +kernel
theorem wd_at (op : Int) (hs : sh op ≠ 0) : 0 ≤ wd op ∧ wd op < 4294967296 ∧ (sh op ≠ 11 → wd op = wd op % 128 + 4096 * (wd op / 4096 % 8) + 33554432 * (wd op / 33554432)) ∧ (sh op = 8 ∨ sh op = 9 → wd op / 4096 % 8 = 0 ∧ wd op / 33554432 = 0)
    ∧ (sh op = 2 ∨ sh op = 5 ∨ sh op = 6 ∨ sh op = 7 ∨ sh op = 10 ∨ sh op = 13 ∨ sh op = 14 → wd op / 33554432 = 0) ∧ (sh op = 3 → wd op / 33554432 % 2 = 0) := by
  have hop : ¬ (op < 1 ∨ 77 ≤ op) := fun h => hs (sh_out op h)
  have h := List.all_eq_true.1 wd_all op.toNat (by simp; omega)
  simp only [show (op.toNat : Int) = op by omega, Bool.or_eq_true, decide_eq_true_eq] at h
  exact h.resolve_left hs
end Go.Proofs.Ythdahigckflohab
