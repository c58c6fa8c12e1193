import Derived.Test.YthdahigckflohabHolds
import Derived.Test.YthdahigckflohabNum
namespace Go.Proofs.Ythdahigckflohab
open Go.RowKit
set_option linter.unusedVariables false
set_option linter.unusedSimpArgs false
def hi (X : Int) : Int := X / 18446744073709551616 % 18446744073709551616
def lo (X : Int) : Int := X % 18446744073709551616
theorem hi_w (X : Int) : 0 ≤ hi X ∧ hi X < 18446744073709551616 := by unfold hi; omega
theorem lo_w (X : Int) : 0 ≤ lo X ∧ lo X < 18446744073709551616 := by unfold lo; omega
theorem radd_any (X Y : Int) (w : World) (h0 : 0 ≤ X) (h1 : 0 ≤ Y) :
    Calls Try.prog 81 #[.agg #[.int .u64 (hi X), .int .u64 (lo X)], .agg #[.int .u64 (hi Y), .int .u64 (lo Y)]] w fun e w' => e = .returned (.agg #[.int .u64 (hi (X + Y)), .int .u64 (lo (X + Y))]) ∧ Below w.heap.size w w' := by
  have l : lo (X + Y) = IntKind.u64.wrap (lo X + lo Y) := by rw [wu]; unfold lo; omega
  by_cases c : 18446744073709551616 ≤ lo X + lo Y
  · have h : hi (X + Y) = IntKind.u64.wrap (IntKind.u64.wrap (hi X + hi Y) + 1) := by simp only [wu]; unfold hi lo at *; omega
    rw [h, l]
    have a0 := hi_w X
    have a1 := hi_w Y
    have a2 := lo_w X
    have a3 := lo_w Y
    have g : decide (IntKind.u64.wrap (lo X + lo Y) < lo X) = true := by rw [decide_eq_true_eq, wu]; omega
    clear h l c
    generalize hi X = p at *
    generalize hi Y = q at *
    generalize lo X = r at *
    generalize lo Y = s at *
    go_enter Try.func81, Try.ntmps81
    go_wp2
    exact bodyPost_ret (v := .agg #[.int .u64 (IntKind.u64.wrap (IntKind.u64.wrap (p + q) + 1)), .int .u64 (IntKind.u64.wrap (r + s))]) (by simp [results, Try.results81, go_sem]) rfl ⟨rfl, ((((Below.refl _ _).alloc (Nat.le_refl _) _).alloc (by simp only [World.size_alloc]; omega) _).alloc (by simp only [World.size_alloc]; omega) _).alloc (by simp only [World.size_alloc]; omega) _⟩
  · have h : hi (X + Y) = IntKind.u64.wrap (hi X + hi Y) := by simp only [wu]; unfold hi lo at *; omega
    have l2 : lo (X + Y) = lo X + lo Y := by unfold lo at *; omega
    rw [h, l2]
    have a0 := hi_w X
    have a1 := hi_w Y
    have a2 := lo_w X
    have a3 := lo_w Y
    have g : decide (lo X + lo Y < lo X) = false := by rw [decide_eq_false_iff_not]; omega
    have cc : lo X + lo Y < 18446744073709551616 := by omega
    clear h l l2 c
    generalize hi X = p at *
    generalize hi Y = q at *
    generalize lo X = r at *
    generalize lo Y = s at *
    go_enter Try.func81, Try.ntmps81
    go_wp2
    exact bodyPost_ret (v := .agg #[.int .u64 (IntKind.u64.wrap (p + q)), .int .u64 (r + s)]) (by simp [results, Try.results81, go_sem]) rfl ⟨rfl, ((((Below.refl _ _).alloc (Nat.le_refl _) _).alloc (by simp only [World.size_alloc]; omega) _).alloc (by simp only [World.size_alloc]; omega) _).alloc (by simp only [World.size_alloc]; omega) _⟩
/-- The product's state: the result's, the sum's and the shifted factor's block. -/
structure MulSt (w wr : World) (P X : Int) : Prop where
  size : w.heap.size + 2 < wr.heap.size
  res : Row2 wr w.heap.size (.int .u64 0) (.int .u64 0)
  sum : Row2 wr (w.heap.size + 1) (.int .u64 (hi P)) (.int .u64 (lo P))
  fac : Row2 wr (w.heap.size + 2) (.int .u64 (hi X)) (.int .u64 (lo X))
  free : ∀ b o : Nat, w.heap.size ≤ b → b ≤ w.heap.size + 2 → wr.frozen? ⟨b, o, .none⟩ = false
  bel : Below w.heap.size w wr
theorem MulSt.keep {w wr w1 : World} {P X : Int} (h : MulSt w wr P X) (k : Below wr.heap.size wr w1) : MulSt w w1 P X :=
  ⟨Nat.lt_of_lt_of_le h.size k.size, row2_keep k (by have := h.size; omega) h.res, row2_keep k (by have := h.size; omega) h.sum, row2_keep k (by have := h.size; omega) h.fac,
   fun b o h0 h1 => (k.frozen (p := ⟨b, o, .none⟩) (by have := h.size; show b < _; omega)).trans (h.free b o h0 h1), bseq h.bel k⟩
theorem row2_set (w : World) (b B : Nat) (u v c0 c1 : Value) (h : B ≠ b) (k : Row2 w B c0 c1) : Row2 ((w.setCell ⟨b, 0, .none⟩ u).setCell ⟨b, 1, .none⟩ v) B c0 c1 :=
  ⟨by rw [set_other _ _ _ _ _ _ h, set_other _ _ _ _ _ _ h]; exact k.1, by rw [set_other _ _ _ _ _ _ h, set_other _ _ _ _ _ _ h]; exact k.2⟩
theorem row2_put (w : World) (b : Nat) (u v c0 c1 : Value) (k : Row2 w b c0 c1) : Row2 ((w.setCell ⟨b, 0, .none⟩ u).setCell ⟨b, 1, .none⟩ v) b u v := by
  have n : (⟨b, 1, .none⟩ : Addr) ≠ ⟨b, 0, .none⟩ := by intro h; cases h
  constructor
  · rw [World.cell?_setCell_other _ _ _ _ n]; exact World.cell?_setCell_same _ _ _ k.1
  · exact World.cell?_setCell_same _ _ _ ((World.cell?_setCell_other _ _ _ _ n.symm).trans k.2)
theorem MulSt.putSum {w wr : World} {P X : Int} (h : MulSt w wr P X) (P' : Int) : MulSt w ((wr.setCell ⟨w.heap.size + 1, 0, .none⟩ (.int .u64 (hi P'))).setCell ⟨w.heap.size + 1, 1, .none⟩ (.int .u64 (lo P'))) P' X :=
  ⟨by simpa using h.size, row2_set _ _ _ _ _ _ _ (by omega) h.res, row2_put _ _ _ _ _ _ h.sum, row2_set _ _ _ _ _ _ _ (by omega) h.fac,
   fun b o h0 h1 => by simpa using h.free b o h0 h1, (h.bel.setCell (by show _ ≤ w.heap.size + 1; omega) _).setCell (by show _ ≤ w.heap.size + 1; omega) _⟩
theorem MulSt.putFac {w wr : World} {P X : Int} (h : MulSt w wr P X) (X' : Int) : MulSt w ((wr.setCell ⟨w.heap.size + 2, 0, .none⟩ (.int .u64 (hi X'))).setCell ⟨w.heap.size + 2, 1, .none⟩ (.int .u64 (lo X'))) P X' :=
  ⟨by simpa using h.size, row2_set _ _ _ _ _ _ _ (by omega) h.res, row2_set _ _ _ _ _ _ _ (by omega) h.sum, row2_put _ _ _ _ _ _ h.fac,
   fun b o h0 h1 => by simpa using h.free b o h0 h1, (h.bel.setCell (by show _ ≤ w.heap.size + 2; omega) _).setCell (by show _ ≤ w.heap.size + 2; omega) _⟩
theorem pow_pos3 (j : Nat) : (0 : Int) < 2 ^ j := Int.pow_pos (by decide)
theorem low_bit (b : Int) (j : Nat) : b % 2 ^ (j + 1) = b % 2 ^ j + 2 ^ j * (b / 2 ^ j % 2) := by
  have p := pow_pos3 j
  have m1 := Int.mul_ediv_add_emod b (2 ^ j)
  have m2 := Int.mul_ediv_add_emod (b / 2 ^ j) 2
  have r0 := Int.emod_nonneg b (Int.ne_of_gt p)
  have r1 := Int.emod_lt_of_pos b p
  have c : b / 2 ^ j % 2 = 0 ∨ b / 2 ^ j % 2 = 1 := by omega
  have e : b = (b % 2 ^ j + 2 ^ j * (b / 2 ^ j % 2)) + 2 ^ (j + 1) * (b / 2 ^ j / 2) := by
    rw [Int.pow_succ]
    generalize b % 2 ^ j = r at *
    generalize b / 2 ^ j = q at *
    generalize q % 2 = s at *
    generalize q / 2 = t at *
    generalize (2 : Int) ^ j = z at *
    subst m2
    rw [← m1]
    grind
  conv => lhs; rw [e, Int.add_mul_emod_self_left]
  refine Int.emod_eq_of_lt ?_ ?_
  · rcases c with c | c <;> rw [c] <;> omega
  · rw [Int.pow_succ]; rcases c with c | c <;> rw [c] <;> omega
theorem mulSt_start (w : World) (a : Int) (h : W64 a) : MulSt w (((w.alloc (.cells #[.int .u64 0, .int .u64 0] 83)).alloc (.cells #[.int .u64 0, .int .u64 0] 83)).alloc (.cells #[.int .u64 0, .int .u64 a] 83)) 0 a := by
  have h1 : hi a = 0 := by have := h.1; have := h.2; unfold hi; omega
  have h2 : lo a = a := by have := h.1; have := h.2; unfold lo; omega
  have k1 := below_past (w.alloc (.cells #[.int .u64 0, .int .u64 0] 83)) (.cells #[.int .u64 0, .int .u64 0] 83)
  have k2 := below_past ((w.alloc (.cells #[.int .u64 0, .int .u64 0] 83)).alloc (.cells #[.int .u64 0, .int .u64 0] 83)) (.cells #[.int .u64 0, .int .u64 a] 83)
  have e1 : ∀ o, (w.alloc o).heap.size = w.heap.size + 1 := fun o => by simp
  refine ⟨by simp, ?_, ?_, ?_, ?_, ?_⟩
  · exact row2_keep k2 (by simp only [World.size_alloc]; omega) (row2_keep k1 (by simp) (row2_new w _ _ _))
  · have := row2_keep k2 (by simp) (row2_new (w.alloc (.cells #[.int .u64 0, .int .u64 0] 83)) (.int .u64 0) (.int .u64 0) 83)
    rw [e1] at this
    exact this
  · have := row2_new ((w.alloc (.cells #[.int .u64 0, .int .u64 0] 83)).alloc (.cells #[.int .u64 0, .int .u64 0] 83)) (.int .u64 0) (.int .u64 a) 83
    rw [h1, h2]
    simpa only [World.size_alloc] using this
  · intro b o g0 g1
    have hb : b = w.heap.size ∨ b = w.heap.size + 1 ∨ b = w.heap.size + 2 := by omega
    rcases hb with rfl | rfl | rfl
    · rw [World.frozen?_alloc_past _ _ _ (by simp only [World.size_alloc]; omega), World.frozen?_alloc_past _ _ _ (by simp)]; simp
    · rw [World.frozen?_alloc_past _ _ _ (by simp only [World.size_alloc]; omega), World.frozen?_alloc_at _ _ _ _ (by simp)]
    · rw [World.frozen?_alloc_at _ _ _ _ (by simp only [World.size_alloc])]
  · exact bseq (bseq (below_past _ _) k1) k2
set_option maxHeartbeats 4000000 in
theorem rmul_any (a b : Int) (w : World) (ha : W64 a) (hb : W64 b) :
    Calls Try.prog 66 #[.int .u64 a, .int .u64 b] w fun e w' => e = .returned (.agg #[.int .u64 (a * b / 18446744073709551616), .int .u64 (a * b % 18446744073709551616)]) ∧ Below w.heap.size w w' := by
  have hf := hi_bd a b ha hb
  obtain ⟨a0, a1⟩ := ha
  obtain ⟨b0, b1⟩ := hb
  have ef : Hid (hi (a * b) = a * b / 18446744073709551616) := (by unfold hi; exact Int.emod_eq_of_lt hf.1 hf.2 : hi (a * b) = a * b / 18446744073709551616)
  clear hf
  go_enter Try.func66, Try.ntmps66
  go_wp2
  go_loopw [7] (fun k wr => ∃ i : Nat, i ≤ 64 ∧ k = .int .i64 i ∧ MulSt w wr (a * (b % 2 ^ i)) (a * 2 ^ i)) (fun k _ => 64 - (intOf k).toNat)
  case atStart =>
    refine ⟨0, by omega, rfl, ?_⟩
    simp only [Int.pow_zero, Int.emod_one, Int.mul_zero, Int.mul_one]
    exact mulSt_start w a ⟨a0, a1⟩
  case round =>
    obtain ⟨i, hi64, rfl, hS⟩ := hrel
    by_cases hlt : i < 64
    · have p := pow_pos3 i
      have e1 : (i : Int) < 64 := by omega
      have hand := and1 (b / 2 ^ i) ⟨Int.ediv_nonneg b0 (Int.le_of_lt p), Int.lt_of_le_of_lt (Int.ediv_le_self _ b0) b1⟩
      have HX : Hid (0 ≤ a * 2 ^ i ∧ 0 ≤ a * (b % 2 ^ i)) := ⟨Int.mul_nonneg a0 (Int.le_of_lt p), Int.mul_nonneg a0 (Int.emod_nonneg _ (Int.ne_of_gt p))⟩
      have HD : Hid (a * 2 ^ i + a * 2 ^ i = a * 2 ^ (i + 1)) := (by rw [Int.pow_succ]; grind : a * 2 ^ i + a * 2 ^ i = a * 2 ^ (i + 1))
      have lb := low_bit b i
      by_cases hbit : b / 2 ^ i % 2 = 1
      · have g : (bits .and .u64 (b / 2 ^ i) 1 == 1) = true := by rw [hand, hbit]; rfl
        have HP : Hid (a * (b % 2 ^ i) + a * 2 ^ i = a * (b % 2 ^ (i + 1))) := (by rw [lb, hbit]; grind : a * (b % 2 ^ i) + a * 2 ^ i = a * (b % 2 ^ (i + 1)))
        clear lb hbit hand
        have HS : Hid (MulSt w wr (a * (b % 2 ^ i)) (a * 2 ^ i)) := hS
        obtain ⟨z, _, ⟨s0, s1⟩, ⟨x0, x1⟩, fr, _⟩ := hS
        have z1 : w.heap.size + 1 < wr.heap.size := by omega
        have c := fun w => radd_any (a * (b % 2 ^ i)) (a * 2 ^ i) w HX.out.2 HX.out.1
        have d := fun w => radd_any (a * 2 ^ i) (a * 2 ^ i) w HX.out.1 HX.out.1
        generalize a * (b % 2 ^ i) = P at *
        generalize a * 2 ^ i = X at *
        go_wp2_with fail
        refine (c _).mono ?_; rintro e w1 ⟨rfl, hb1⟩
        clear c s0 s1 x0 x1
        have S1 := HS.out.keep hb1
        have S2 : Hid (MulSt w _ (P + X) X) := S1.putSum (P + X)
        obtain ⟨zz, _, ⟨s0, s1⟩, ⟨x0, x1⟩, fr1, _⟩ := S1
        have f0 := fr1 (w.heap.size + 1) 0 (by omega) (by omega)
        have f1 := fr1 (w.heap.size + 1) 1 (by omega) (by omega)
        have z2 : w.heap.size + 1 < w1.heap.size := by omega
        go_wp2_with fail
        clear s0 s1 x0 x1 f0 f1 fr1 fr zz z z1 z2
        generalize ((w1.setCell { block := w.heap.size + 1, off := 0 } (Value.int IntKind.u64 (hi (P + X)))).setCell { block := w.heap.size + 1, off := 1 } (Value.int IntKind.u64 (lo (P + X)))) = w2 at *
        refine (d _).mono ?_; rintro e w3 ⟨rfl, hb3⟩
        clear d
        have S3 := S2.out.keep hb3
        have S4 : Hid (MulSt w _ (P + X) (X + X)) := S3.putFac (X + X)
        obtain ⟨zz, _, ⟨s0, s1⟩, ⟨x0, x1⟩, fr1, _⟩ := S3
        have f0 := fr1 (w.heap.size + 2) 0 (by omega) (by omega)
        have f1 := fr1 (w.heap.size + 2) 1 (by omega) (by omega)
        go_wp2
        exact ⟨⟨i + 1, by omega, by go_num, by rw [← HP.out, ← HD.out]; exact S4.out⟩, by simp [intOf]; omega⟩
      · have g : (bits .and .u64 (b / 2 ^ i) 1 == 1) = false := by rw [hand, beq_eq_false_iff_ne]; exact hbit
        have hb0 : b / 2 ^ i % 2 = 0 := by omega
        have HP : Hid (a * (b % 2 ^ i) = a * (b % 2 ^ (i + 1))) := (by rw [lb, hb0]; grind : a * (b % 2 ^ i) = a * (b % 2 ^ (i + 1)))
        clear lb hbit hand hb0
        have HS : Hid (MulSt w wr (a * (b % 2 ^ i)) (a * 2 ^ i)) := hS
        obtain ⟨z, _, ⟨s0, s1⟩, ⟨x0, x1⟩, fr, _⟩ := hS
        have d := fun w => radd_any (a * 2 ^ i) (a * 2 ^ i) w HX.out.1 HX.out.1
        generalize a * (b % 2 ^ i) = P at *
        generalize a * 2 ^ i = X at *
        go_wp2_with fail
        clear s0 s1 x0 x1 fr z
        refine (d _).mono ?_; rintro e w3 ⟨rfl, hb3⟩
        clear d
        have S3 := HS.out.keep hb3
        have S4 : Hid (MulSt w _ P (X + X)) := S3.putFac (X + X)
        obtain ⟨zz, _, ⟨s0, s1⟩, ⟨x0, x1⟩, fr1, _⟩ := S3
        have f0 := fr1 (w.heap.size + 2) 0 (by omega) (by omega)
        have f1 := fr1 (w.heap.size + 2) 1 (by omega) (by omega)
        go_wp2
        exact ⟨⟨i + 1, by omega, by go_num, by rw [← HP.out, ← HD.out]; exact S4.out⟩, by simp [intOf]; omega⟩
    · obtain rfl : i = 64 := by omega
      have e64 : b % 2 ^ 64 = b := Int.emod_eq_of_lt b0 b1
      rw [e64] at hS
      clear e64 hi64 hlt
      have HS : Hid (MulSt w wr (a * b) (a * 2 ^ 64)) := hS
      obtain ⟨z, ⟨r0, r1⟩, ⟨s0, s1⟩, _, fr, _⟩ := hS
      have f0 := fr w.heap.size 0 (by omega) (by omega)
      have f1 := fr w.heap.size 1 (by omega) (by omega)
      have z1 : w.heap.size + 1 < wr.heap.size := by omega
      have z0 : w.heap.size < wr.heap.size := by omega
      go_wp2
      refine bodyPost_ret (v := .agg #[.int .u64 (hi (a * b)), .int .u64 (lo (a * b))]) (by simp [results, Try.results66, go_sem, z0, r0, r1]) rfl ⟨by rw [ef.out]; rfl, (HS.out.bel.setCell (Nat.le_refl _) _).setCell (Nat.le_refl _) _⟩
end Go.Proofs.Ythdahigckflohab
