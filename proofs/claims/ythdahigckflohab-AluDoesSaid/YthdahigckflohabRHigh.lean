import Derived.Test.YthdahigckflohabRFn
import Derived.Test.YthdahigckflohabShifts
namespace Go.Proofs.Ythdahigckflohab
open Go.RowKit
set_option linter.unusedVariables false
set_option linter.unusedSimpArgs false
set_option maxHeartbeats 1000000 in
theorem right_no (a : Int) (n : Nat) (w : World) (ha : W64 a) (hn : n < 64) : Calls Try.prog 62 #[.int .u64 a, .int .u64 (n : Int), .bool false] w fun e w' => e = .returned (.int .u64 (a / 2 ^ n)) ∧ w' = w := by
  obtain ⟨a0, a1⟩ := ha
  go_enter Try.func62, Try.ntmps62
  go_wp2
  go_loopw [0, 7] (fun x k wr => ∃ i : Nat, i ≤ n ∧ k = .int .u64 (i : Int) ∧ x = .int .u64 (a / 2 ^ i) ∧ wr = w) (fun _ k _ => n - (intOf k).toNat)
  case atStart => exact ⟨0, by omega, rfl, by rw [Int.pow_zero, Int.ediv_one], rfl⟩
  case round =>
    obtain ⟨i, hi0, rfl, rfl, rfl⟩ := hrel
    by_cases hlt : i < n
    · have e1 : (i : Int) < (n : Int) := by omega
      have e2 : (i : Int) < 64 := by omega
      have HQ : Hid (a / 2 ^ (i + 1) = a / 2 ^ i / 2) := (by rw [Int.pow_succ, Int.ediv_ediv_of_nonneg (Int.le_of_lt (pow_pos2 i))] : a / 2 ^ (i + 1) = a / 2 ^ i / 2)
      generalize a / 2 ^ i = x at *
      go_wp2
      exact ⟨⟨i + 1, by omega, by go_num, by rw [HQ.out], trivial⟩, by simp [intOf]; omega⟩
    · obtain rfl : i = n := by omega
      go_wp2
      go_ret
      exact ⟨rfl, rfl⟩
theorem fill_step (z : Int) (h0 : -9223372036854775808 ≤ z) (h1 : z < 0) : bits .or .u64 (z % 18446744073709551616 / 2) 9223372036854775808 = z / 2 % 18446744073709551616 := by
  have e : bits .or .u64 (z % 18446744073709551616 / 2) 9223372036854775808 = bits .or .u64 9223372036854775808 (z % 18446744073709551616 / 2) := by
    simp only [bits]; rw [BitVec.or_comm]
  rw [e, join64u 63 _ _ (by omega) (by omega) (by omega) (by omega) (by omega) (by omega)]
  omega
theorem neg_part (A : Int) (i : Nat) (h0 : -9223372036854775808 ≤ A) (h1 : A < 0) : -9223372036854775808 ≤ A / 2 ^ i ∧ A / 2 ^ i < 0 := by
  have p := pow_pos2 i
  constructor
  · refine (Int.le_ediv_iff_mul_le p).2 ?_
    have : (-9223372036854775808 : Int) * 2 ^ i ≤ -9223372036854775808 * 1 := by omega
    omega
  · exact Int.ediv_neg_of_neg_of_pos h1 p
set_option maxHeartbeats 1000000 in
theorem right_fill (a : Int) (n : Nat) (w : World) (ha : W64 a) (hs : 9223372036854775808 ≤ a) (hn : n < 64) : Calls Try.prog 62 #[.int .u64 a, .int .u64 (n : Int), .bool true] w fun e w' => e = .returned (.int .u64 (wrap64 a / 2 ^ n % 18446744073709551616)) ∧ w' = w := by
  obtain ⟨a0, a1⟩ := ha
  have A0 : -9223372036854775808 ≤ wrap64 a ∧ wrap64 a < 0 := by unfold wrap64; omega
  have A1 : a = wrap64 a % 18446744073709551616 := by unfold wrap64; omega
  generalize wrap64 a = A at *
  subst A1
  clear a0 a1 hs
  go_enter Try.func62, Try.ntmps62
  go_wp2
  go_loopw [0, 7] (fun x k wr => ∃ i : Nat, i ≤ n ∧ k = .int .u64 (i : Int) ∧ x = .int .u64 (A / 2 ^ i % 18446744073709551616) ∧ wr = w) (fun _ k _ => n - (intOf k).toNat)
  case atStart => exact ⟨0, by omega, rfl, by rw [Int.pow_zero, Int.ediv_one], rfl⟩
  case round =>
    obtain ⟨i, hi0, rfl, rfl, rfl⟩ := hrel
    by_cases hlt : i < n
    · have e1 : (i : Int) < (n : Int) := by omega
      have e2 : (i : Int) < 64 := by omega
      have np := neg_part A i A0.1 A0.2
      have HQ : Hid (A / 2 ^ (i + 1) = A / 2 ^ i / 2) := (by rw [Int.pow_succ, Int.ediv_ediv_of_nonneg (Int.le_of_lt (pow_pos2 i))] : A / 2 ^ (i + 1) = A / 2 ^ i / 2)
      have HF : Hid (_ = _) := fill_step (A / 2 ^ i) np.1 np.2
      generalize A / 2 ^ i = z at *
      have z0 : 0 ≤ z % 18446744073709551616 := by omega
      have z1 : z % 18446744073709551616 < 18446744073709551616 := by omega
      go_wp2
      exact ⟨⟨i + 1, by omega, by go_num, by rw [HQ.out, ← HF.out], trivial⟩, by simp [intOf]; omega⟩
    · obtain rfl : i = n := by omega
      go_wp2
      go_ret
      exact ⟨rfl, rfl⟩
set_option maxHeartbeats 1000000 in
theorem minus_any (P : Int) (w : World) (hP : 0 ≤ P) : Calls Try.prog 83 #[.agg #[.int .u64 (hi P), .int .u64 (lo P)]] w fun e w' => e = .returned (.agg #[.int .u64 (hi (-P)), .int .u64 (lo (-P))]) ∧ Below w.heap.size w w' := by
  have x1 := xor_max (hi P) (hi_w P)
  have x2 := xor_max (lo P) (lo_w P)
  have a0 := hi_w P
  have a1 := lo_w P
  have c := fun w => radd_any ((18446744073709551615 - hi P) * 18446744073709551616 + (18446744073709551615 - lo P)) 1 w (by omega) (by decide)
  have k1 : hi ((18446744073709551615 - hi P) * 18446744073709551616 + (18446744073709551615 - lo P)) = 18446744073709551615 - hi P := by
    generalize hi P = p at *
    generalize lo P = q at *
    unfold hi; omega
  have k2 : lo ((18446744073709551615 - hi P) * 18446744073709551616 + (18446744073709551615 - lo P)) = 18446744073709551615 - lo P := by
    generalize hi P = p at *
    generalize lo P = q at *
    unfold lo; omega
  have k3 : hi ((18446744073709551615 - hi P) * 18446744073709551616 + (18446744073709551615 - lo P) + 1) = hi (-P) := by
    unfold hi lo; omega
  have k4 : lo ((18446744073709551615 - hi P) * 18446744073709551616 + (18446744073709551615 - lo P) + 1) = lo (-P) := by
    unfold hi lo; omega
  rw [k1, k2, k3, k4, ← x1, ← x2, show hi 1 = 0 from rfl, show lo 1 = 1 from rfl] at c
  clear k1 k2 k3 k4 x1 x2
  generalize hi (-P) = p' at *
  generalize lo (-P) = q' at *
  generalize hi P = p at *
  generalize lo P = q at *
  go_enter Try.func83, Try.ntmps83
  go_wp2_with fail
  refine (c _).mono ?_; rintro e w1 ⟨rfl, hb⟩
  clear c
  have hz := hb.size
  simp only [World.size_alloc] at hz
  have y : w.heap.size + 1 < w1.heap.size := by omega
  have k := row2_keep hb (by simp) (row2_new (w.alloc (.cells #[.int .u64 p, .int .u64 q] 83)) (.int .u64 0) (.int .u64 0) 83)
  simp only [World.size_alloc] at k
  obtain ⟨k0, k1⟩ := k
  have f0 : w1.frozen? ⟨w.heap.size + 1, 0, .none⟩ = false := (hb.frozen (p := ⟨w.heap.size + 1, 0, .none⟩) (by simp)).trans (by simp)
  have f1 : w1.frozen? ⟨w.heap.size + 1, 1, .none⟩ = false := (hb.frozen (p := ⟨w.heap.size + 1, 1, .none⟩) (by simp)).trans (by simp)
  have hW : Below w.heap.size w w1 := ((below_past _ _).alloc (by simp) _).trans (hb.mono (by simp only [World.size_alloc]; omega))
  go_wp2
  exact bodyPost_ret (v := .agg #[.int .u64 p', .int .u64 q']) (by simp [results, Try.results83, go_sem, y, k0, k1]) rfl ⟨rfl, (hW.setCell (by show w.heap.size ≤ w.heap.size + 1; omega) _).setCell (by show w.heap.size ≤ w.heap.size + 1; omega) _⟩
theorem hi_mh (a b : Int) (ha : W64 a) (hb : W64 b) : hi (wrap64 a * wrap64 b) = fMH a b := by
  obtain ⟨a0, a1⟩ := ha
  obtain ⟨b0, b1⟩ := hb
  have ea : (neg a = 0 ∧ wrap64 a = a) ∨ (neg a = 1 ∧ wrap64 a = a - 18446744073709551616) := by unfold neg wrap64; split <;> omega
  have eb : (neg b = 0 ∧ wrap64 b = b) ∨ (neg b = 1 ∧ wrap64 b = b - 18446744073709551616) := by unfold neg wrap64; split <;> omega
  unfold fMH hi
  rcases ea with ⟨n1, e1⟩ | ⟨n1, e1⟩ <;> rcases eb with ⟨n2, e2⟩ | ⟨n2, e2⟩ <;> rw [n1, n2, e1, e2]
  · generalize a * b = z at *; omega
  · rw [show a * (b - 18446744073709551616) = a * b - 18446744073709551616 * a by grind]; generalize a * b = z at *; omega
  · rw [show (a - 18446744073709551616) * b = a * b - 18446744073709551616 * b by grind]; generalize a * b = z at *; omega
  · rw [show (a - 18446744073709551616) * (b - 18446744073709551616) = a * b - 18446744073709551616 * b - 18446744073709551616 * a + 340282366920938463463374607431768211456 by grind]; generalize a * b = z at *; omega
theorem hi_mix (a b : Int) (ha : W64 a) : hi (wrap64 a * b) = fMIX a b := by
  obtain ⟨a0, a1⟩ := ha
  have ea : (neg a = 0 ∧ wrap64 a = a) ∨ (neg a = 1 ∧ wrap64 a = a - 18446744073709551616) := by unfold neg wrap64; split <;> omega
  unfold fMIX hi
  rcases ea with ⟨n1, e1⟩ | ⟨n1, e1⟩ <;> rw [n1, e1]
  · generalize a * b = z at *; omega
  · rw [show (a - 18446744073709551616) * b = a * b - 18446744073709551616 * b by grind]; generalize a * b = z at *; omega
theorem rmul_hi (x y : Int) (w : World) (hx : W64 x) (hy : W64 y) : Calls Try.prog 66 #[.int .u64 x, .int .u64 y] w fun e w' => e = .returned (.agg #[.int .u64 (hi (x * y)), .int .u64 (lo (x * y))]) ∧ Below w.heap.size w w' := by
  have h := hi_bd x y hx hy
  have e1 : hi (x * y) = x * y / 18446744073709551616 := Int.emod_eq_of_lt h.1 h.2
  rw [e1]
  exact rmul_any x y w hx hy
theorem pos_amt (a : Int) (h : ¬ 9223372036854775808 ≤ a) (ha : W64 a) : wrap64 a = a := by have := ha.1; unfold wrap64; omega
theorem neg_amt (a : Int) (h : 9223372036854775808 ≤ a) (ha : W64 a) : wrap64 a = -(amt a) := by have := ha.2; unfold wrap64 amt; rw [if_pos h]; omega
theorem amt_w64 (a : Int) (ha : W64 a) : W64 (amt a) := by have := amt_w a ha; exact ⟨this.1, by omega⟩
set_option maxHeartbeats 1000000 in
theorem high_tt11 (a b : Int) (w : World) (ha : W64 a) (hb : W64 b) (h1 : 9223372036854775808 ≤ a) (h2 : 9223372036854775808 ≤ b) :
    Calls Try.prog 67 #[.int .u64 a, .int .u64 b, .bool true, .bool true] w fun e w' => e = .returned (.int .u64 (hi (((amt a) * (amt b))))) ∧ Below w.heap.size w w' := by
  have ca := fun w => rbelow_any a w ha
  rw [decide_eq_true h1] at ca
  have cb := fun w => rbelow_any b w hb
  rw [decide_eq_true h2] at cb
  have da := fun w => ramount_any a w ha
  have db := fun w => ramount_any b w hb
  have cm := fun w => rmul_hi (amt a) (amt b) w (amt_w64 a ha) (amt_w64 b hb)
  clear h1
  clear h2
  generalize hi ((amt a) * (amt b)) = p at *
  generalize lo ((amt a) * (amt b)) = q at *
  generalize amt a = A at *
  generalize amt b = B at *
  go_enter Try.func67, Try.ntmps67
  go_wp2_with fail
  refine (ca _).mono ?_; rintro e w' ⟨rfl, rfl⟩
  clear ca
  go_wp2_with fail
  refine (da _).mono ?_; rintro e w' ⟨rfl, rfl⟩
  clear da
  go_wp2_with fail
  refine (cb _).mono ?_; rintro e w' ⟨rfl, rfl⟩
  clear cb
  go_wp2_with fail
  refine (db _).mono ?_; rintro e w' ⟨rfl, rfl⟩
  clear db
  go_wp2_with fail
  refine (cm _).mono ?_; rintro e w1 ⟨rfl, hbw1⟩
  clear cm
  go_wp2
  go_ret
  exact ⟨rfl, hbw1.alloc hbw1.size _⟩
set_option maxHeartbeats 1000000 in
theorem high_tt10 (a b : Int) (w : World) (ha : W64 a) (hb : W64 b) (h1 : 9223372036854775808 ≤ a) (h2 : ¬ 9223372036854775808 ≤ b) :
    Calls Try.prog 67 #[.int .u64 a, .int .u64 b, .bool true, .bool true] w fun e w' => e = .returned (.int .u64 (hi (-((amt a) * b)))) ∧ Below w.heap.size w w' := by
  have ca := fun w => rbelow_any a w ha
  rw [decide_eq_true h1] at ca
  have cb := fun w => rbelow_any b w hb
  rw [decide_eq_false h2] at cb
  have da := fun w => ramount_any a w ha
  have cm := fun w => rmul_hi (amt a) b w (amt_w64 a ha) hb
  have cn := fun w => minus_any ((amt a) * b) w (Int.mul_nonneg (amt_w64 a ha).1 hb.1)
  clear h1
  clear h2
  generalize hi (-((amt a) * b)) = p' at *
  generalize lo (-((amt a) * b)) = q' at *
  generalize hi ((amt a) * b) = p at *
  generalize lo ((amt a) * b) = q at *
  generalize amt a = A at *
  go_enter Try.func67, Try.ntmps67
  go_wp2_with fail
  refine (ca _).mono ?_; rintro e w' ⟨rfl, rfl⟩
  clear ca
  go_wp2_with fail
  refine (da _).mono ?_; rintro e w' ⟨rfl, rfl⟩
  clear da
  go_wp2_with fail
  refine (cb _).mono ?_; rintro e w' ⟨rfl, rfl⟩
  clear cb
  go_wp2_with fail
  refine (cm _).mono ?_; rintro e w1 ⟨rfl, hbw1⟩
  clear cm
  have q1 := row2_new w1 (.int .u64 p) (.int .u64 q) 83
  have hp := below_past w1 (.cells #[.int .u64 p, .int .u64 q] 83)
  have hB := bseq hbw1 hp
  have y1 : w1.heap.size < (w1.alloc (.cells #[.int .u64 p, .int .u64 q] 83)).heap.size := by simp only [World.size_alloc]; omega
  have fr : ∀ o : Nat, (w1.alloc (.cells #[.int .u64 p, .int .u64 q] 83)).frozen? ⟨w1.heap.size, o, .none⟩ = false := fun o => by simp
  go_wp2_with fail
  generalize (w1.alloc (.cells #[.int .u64 p, .int .u64 q] 83)) = w2 at *
  refine (cn _).mono ?_; rintro e w3 ⟨rfl, hb3⟩
  clear cn
  have z3 := hb3.size
  obtain ⟨k0, k1⟩ := row2_keep hb3 y1 q1
  have f0 : w3.frozen? ⟨w1.heap.size, 0, .none⟩ = false := (hb3.frozen (p := ⟨w1.heap.size, 0, .none⟩) y1).trans (fr 0)
  have f1 : w3.frozen? ⟨w1.heap.size, 1, .none⟩ = false := (hb3.frozen (p := ⟨w1.heap.size, 1, .none⟩) y1).trans (fr 1)
  have y3 : w1.heap.size < w3.heap.size := by omega
  clear fr q1
  go_wp2
  go_ret
  exact ⟨rfl, ((bseq hB hb3).setCell hbw1.size _).setCell hbw1.size _⟩
set_option maxHeartbeats 1000000 in
theorem high_tt01 (a b : Int) (w : World) (ha : W64 a) (hb : W64 b) (h1 : ¬ 9223372036854775808 ≤ a) (h2 : 9223372036854775808 ≤ b) :
    Calls Try.prog 67 #[.int .u64 a, .int .u64 b, .bool true, .bool true] w fun e w' => e = .returned (.int .u64 (hi (-(a * (amt b))))) ∧ Below w.heap.size w w' := by
  have ca := fun w => rbelow_any a w ha
  rw [decide_eq_false h1] at ca
  have cb := fun w => rbelow_any b w hb
  rw [decide_eq_true h2] at cb
  have db := fun w => ramount_any b w hb
  have cm := fun w => rmul_hi a (amt b) w ha (amt_w64 b hb)
  have cn := fun w => minus_any (a * (amt b)) w (Int.mul_nonneg ha.1 (amt_w64 b hb).1)
  clear h1
  clear h2
  generalize hi (-(a * (amt b))) = p' at *
  generalize lo (-(a * (amt b))) = q' at *
  generalize hi (a * (amt b)) = p at *
  generalize lo (a * (amt b)) = q at *
  generalize amt b = B at *
  go_enter Try.func67, Try.ntmps67
  go_wp2_with fail
  refine (ca _).mono ?_; rintro e w' ⟨rfl, rfl⟩
  clear ca
  go_wp2_with fail
  refine (cb _).mono ?_; rintro e w' ⟨rfl, rfl⟩
  clear cb
  go_wp2_with fail
  refine (db _).mono ?_; rintro e w' ⟨rfl, rfl⟩
  clear db
  go_wp2_with fail
  refine (cm _).mono ?_; rintro e w1 ⟨rfl, hbw1⟩
  clear cm
  have q1 := row2_new w1 (.int .u64 p) (.int .u64 q) 83
  have hp := below_past w1 (.cells #[.int .u64 p, .int .u64 q] 83)
  have hB := bseq hbw1 hp
  have y1 : w1.heap.size < (w1.alloc (.cells #[.int .u64 p, .int .u64 q] 83)).heap.size := by simp only [World.size_alloc]; omega
  have fr : ∀ o : Nat, (w1.alloc (.cells #[.int .u64 p, .int .u64 q] 83)).frozen? ⟨w1.heap.size, o, .none⟩ = false := fun o => by simp
  go_wp2_with fail
  generalize (w1.alloc (.cells #[.int .u64 p, .int .u64 q] 83)) = w2 at *
  refine (cn _).mono ?_; rintro e w3 ⟨rfl, hb3⟩
  clear cn
  have z3 := hb3.size
  obtain ⟨k0, k1⟩ := row2_keep hb3 y1 q1
  have f0 : w3.frozen? ⟨w1.heap.size, 0, .none⟩ = false := (hb3.frozen (p := ⟨w1.heap.size, 0, .none⟩) y1).trans (fr 0)
  have f1 : w3.frozen? ⟨w1.heap.size, 1, .none⟩ = false := (hb3.frozen (p := ⟨w1.heap.size, 1, .none⟩) y1).trans (fr 1)
  have y3 : w1.heap.size < w3.heap.size := by omega
  clear fr q1
  go_wp2
  go_ret
  exact ⟨rfl, ((bseq hB hb3).setCell hbw1.size _).setCell hbw1.size _⟩
set_option maxHeartbeats 1000000 in
theorem high_tt00 (a b : Int) (w : World) (ha : W64 a) (hb : W64 b) (h1 : ¬ 9223372036854775808 ≤ a) (h2 : ¬ 9223372036854775808 ≤ b) :
    Calls Try.prog 67 #[.int .u64 a, .int .u64 b, .bool true, .bool true] w fun e w' => e = .returned (.int .u64 (hi ((a * b)))) ∧ Below w.heap.size w w' := by
  have ca := fun w => rbelow_any a w ha
  rw [decide_eq_false h1] at ca
  have cb := fun w => rbelow_any b w hb
  rw [decide_eq_false h2] at cb
  have cm := fun w => rmul_hi a b w ha hb
  clear h1
  clear h2
  generalize hi (a * b) = p at *
  generalize lo (a * b) = q at *
  go_enter Try.func67, Try.ntmps67
  go_wp2_with fail
  refine (ca _).mono ?_; rintro e w' ⟨rfl, rfl⟩
  clear ca
  go_wp2_with fail
  refine (cb _).mono ?_; rintro e w' ⟨rfl, rfl⟩
  clear cb
  go_wp2_with fail
  refine (cm _).mono ?_; rintro e w1 ⟨rfl, hbw1⟩
  clear cm
  go_wp2
  go_ret
  exact ⟨rfl, hbw1.alloc hbw1.size _⟩
set_option maxHeartbeats 1000000 in
theorem high_tf1 (a b : Int) (w : World) (ha : W64 a) (hb : W64 b) (h1 : 9223372036854775808 ≤ a) :
    Calls Try.prog 67 #[.int .u64 a, .int .u64 b, .bool true, .bool false] w fun e w' => e = .returned (.int .u64 (hi (-((amt a) * b)))) ∧ Below w.heap.size w w' := by
  have ca := fun w => rbelow_any a w ha
  rw [decide_eq_true h1] at ca
  have da := fun w => ramount_any a w ha
  have cm := fun w => rmul_hi (amt a) b w (amt_w64 a ha) hb
  have cn := fun w => minus_any ((amt a) * b) w (Int.mul_nonneg (amt_w64 a ha).1 hb.1)
  clear h1
  generalize hi (-((amt a) * b)) = p' at *
  generalize lo (-((amt a) * b)) = q' at *
  generalize hi ((amt a) * b) = p at *
  generalize lo ((amt a) * b) = q at *
  generalize amt a = A at *
  go_enter Try.func67, Try.ntmps67
  go_wp2_with fail
  refine (ca _).mono ?_; rintro e w' ⟨rfl, rfl⟩
  clear ca
  go_wp2_with fail
  refine (da _).mono ?_; rintro e w' ⟨rfl, rfl⟩
  clear da
  go_wp2_with fail
  refine (cm _).mono ?_; rintro e w1 ⟨rfl, hbw1⟩
  clear cm
  have q1 := row2_new w1 (.int .u64 p) (.int .u64 q) 83
  have hp := below_past w1 (.cells #[.int .u64 p, .int .u64 q] 83)
  have hB := bseq hbw1 hp
  have y1 : w1.heap.size < (w1.alloc (.cells #[.int .u64 p, .int .u64 q] 83)).heap.size := by simp only [World.size_alloc]; omega
  have fr : ∀ o : Nat, (w1.alloc (.cells #[.int .u64 p, .int .u64 q] 83)).frozen? ⟨w1.heap.size, o, .none⟩ = false := fun o => by simp
  go_wp2_with fail
  generalize (w1.alloc (.cells #[.int .u64 p, .int .u64 q] 83)) = w2 at *
  refine (cn _).mono ?_; rintro e w3 ⟨rfl, hb3⟩
  clear cn
  have z3 := hb3.size
  obtain ⟨k0, k1⟩ := row2_keep hb3 y1 q1
  have f0 : w3.frozen? ⟨w1.heap.size, 0, .none⟩ = false := (hb3.frozen (p := ⟨w1.heap.size, 0, .none⟩) y1).trans (fr 0)
  have f1 : w3.frozen? ⟨w1.heap.size, 1, .none⟩ = false := (hb3.frozen (p := ⟨w1.heap.size, 1, .none⟩) y1).trans (fr 1)
  have y3 : w1.heap.size < w3.heap.size := by omega
  clear fr q1
  go_wp2
  go_ret
  exact ⟨rfl, ((bseq hB hb3).setCell hbw1.size _).setCell hbw1.size _⟩
set_option maxHeartbeats 1000000 in
theorem high_tf0 (a b : Int) (w : World) (ha : W64 a) (hb : W64 b) (h1 : ¬ 9223372036854775808 ≤ a) :
    Calls Try.prog 67 #[.int .u64 a, .int .u64 b, .bool true, .bool false] w fun e w' => e = .returned (.int .u64 (hi ((a * b)))) ∧ Below w.heap.size w w' := by
  have ca := fun w => rbelow_any a w ha
  rw [decide_eq_false h1] at ca
  have cm := fun w => rmul_hi a b w ha hb
  clear h1
  generalize hi (a * b) = p at *
  generalize lo (a * b) = q at *
  go_enter Try.func67, Try.ntmps67
  go_wp2_with fail
  refine (ca _).mono ?_; rintro e w' ⟨rfl, rfl⟩
  clear ca
  go_wp2_with fail
  refine (cm _).mono ?_; rintro e w1 ⟨rfl, hbw1⟩
  clear cm
  go_wp2
  go_ret
  exact ⟨rfl, hbw1.alloc hbw1.size _⟩
set_option maxHeartbeats 1000000 in
theorem high_ff (a b : Int) (w : World) (ha : W64 a) (hb : W64 b) :
    Calls Try.prog 67 #[.int .u64 a, .int .u64 b, .bool false, .bool false] w fun e w' => e = .returned (.int .u64 (hi ((a * b)))) ∧ Below w.heap.size w w' := by
  have cm := fun w => rmul_hi a b w ha hb
  generalize hi (a * b) = p at *
  generalize lo (a * b) = q at *
  go_enter Try.func67, Try.ntmps67
  go_wp2_with fail
  refine (cm _).mono ?_; rintro e w1 ⟨rfl, hbw1⟩
  clear cm
  go_wp2
  go_ret
  exact ⟨rfl, hbw1.alloc hbw1.size _⟩
theorem high_tt (a b : Int) (w : World) (ha : W64 a) (hb : W64 b) : Calls Try.prog 67 #[.int .u64 a, .int .u64 b, .bool true, .bool true] w fun e w' => e = .returned (.int .u64 (fMH a b)) ∧ Below w.heap.size w w' := by
  rw [← hi_mh a b ha hb]
  by_cases h1 : 9223372036854775808 ≤ a <;> by_cases h2 : 9223372036854775808 ≤ b
  · rw [neg_amt a h1 ha, neg_amt b h2 hb, Int.neg_mul_neg]; exact high_tt11 a b w ha hb h1 h2
  · rw [neg_amt a h1 ha, pos_amt b h2 hb, Int.neg_mul]; exact high_tt10 a b w ha hb h1 h2
  · rw [pos_amt a h1 ha, neg_amt b h2 hb, Int.mul_neg]; exact high_tt01 a b w ha hb h1 h2
  · rw [pos_amt a h1 ha, pos_amt b h2 hb]; exact high_tt00 a b w ha hb h1 h2
theorem high_tf (a b : Int) (w : World) (ha : W64 a) (hb : W64 b) : Calls Try.prog 67 #[.int .u64 a, .int .u64 b, .bool true, .bool false] w fun e w' => e = .returned (.int .u64 (fMIX a b)) ∧ Below w.heap.size w w' := by
  rw [← hi_mix a b ha]
  by_cases h1 : 9223372036854775808 ≤ a
  · rw [neg_amt a h1 ha, Int.neg_mul]; exact high_tf1 a b w ha hb h1
  · rw [pos_amt a h1 ha]; exact high_tf0 a b w ha hb h1
theorem high_uu (a b : Int) (w : World) (ha : W64 a) (hb : W64 b) : Calls Try.prog 67 #[.int .u64 a, .int .u64 b, .bool false, .bool false] w fun e w' => e = .returned (.int .u64 (a * b / 18446744073709551616)) ∧ Below w.heap.size w w' := by
  have h := hi_bd a b ha hb
  have e1 : hi (a * b) = a * b / 18446744073709551616 := Int.emod_eq_of_lt h.1 h.2
  rw [← e1]
  exact high_ff a b w ha hb
end Go.Proofs.Ythdahigckflohab
