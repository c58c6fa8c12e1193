import Derived.Test.YthdahigckflohabParts
namespace Go.Proofs.Ythdahigckflohab
open Go.RowKit
set_option linter.unusedVariables false
set_option linter.unusedSimpArgs false
theorem modlin (m t Bs s Q b R : Int) (hQ : Q % m = t % m) (hb : b % m = Bs % m) (hR : R % m = s % m) : (Q * b + R) % m = (t * Bs + s) % m := by
  rw [Int.add_emod, Int.mul_emod, hQ, hb, hR, ← Int.mul_emod, ← Int.add_emod]
theorem trunc (A B : Int) : A.tdiv B * B + A.tmod B = A := by
  have := Int.mul_tdiv_add_tmod A B
  rw [Int.mul_comm] at this
  exact this
theorem tmod_lt (A B : Int) (h : B ≠ 0) : (A.tmod B).natAbs < B.natAbs := by
  rw [Int.natAbs_tmod]
  exact Nat.mod_lt _ (by omega)
theorem tmod_pos (A B : Int) (h : 0 ≤ A) : 0 ≤ A.tmod B := Int.tmod_nonneg B h
theorem tmod_neg (A B : Int) (h : A ≤ 0) : A.tmod B ≤ 0 := by
  have := Int.tmod_nonneg B (show 0 ≤ -A by omega)
  rw [Int.neg_tmod] at this
  omega
theorem wrap64_bd (x : Int) : -9223372036854775808 ≤ wrap64 x ∧ wrap64 x < 9223372036854775808 := by unfold wrap64; omega
theorem wrap64_mod (x : Int) : wrap64 x % 18446744073709551616 = x % 18446744073709551616 := by unfold wrap64; omega
theorem amt_abs (b : Int) (hb : W64 b) : amt b = ((wrap64 b).natAbs : Int) := by
  obtain ⟨h0, h1⟩ := hb
  unfold amt wrap64
  split <;> omega
theorem amt_small (s : Int) (h0 : -9223372036854775808 < s) (h1 : s < 9223372036854775808) : amt (s % 18446744073709551616) = (s.natAbs : Int) := by
  unfold amt
  split <;> omega
theorem sum64 (Q b R a t Bs s : Int) (ha : W64 a) (hQ : Q % 18446744073709551616 = t % 18446744073709551616) (hb : b % 18446744073709551616 = Bs % 18446744073709551616) (hR : R % 18446744073709551616 = s % 18446744073709551616) (h : (t * Bs + s) % 18446744073709551616 = a) :
    (IntKind.u64.wrap (IntKind.u64.wrap (Q * b) + R) != a) = false := by
  have e := modlin 18446744073709551616 t Bs s Q b R hQ hb hR
  rw [h] at e
  rw [bne_eq_false_iff_eq, wu, wu]
  generalize Q * b = z at *
  omega
theorem wid_congr (z z' : Int) (h : z % 4294967296 = z' % 4294967296) : wid 4294967296 z = wid 4294967296 z' := by unfold wid; omega
theorem wid_mod (z : Int) : wid 4294967296 z % 4294967296 = z % 4294967296 := by unfold wid; omega
theorem sum32 (q y r a t Y s : Int) (hq : q % 4294967296 = t % 4294967296) (hy : y % 4294967296 = Y % 4294967296) (hr : r % 4294967296 = s % 4294967296) (h : (t * Y + s) % 4294967296 = a % 4294967296) :
    wid 4294967296 (IntKind.u64.wrap (IntKind.u64.wrap (q * y) + r)) = wid 4294967296 a := by
  refine wid_congr _ _ ?_
  have e := modlin 4294967296 t Y s q y r hq hy hr
  rw [h] at e
  rw [wu, wu]
  generalize q * y = z at *
  omega
theorem half_s (a : Int) : -2147483648 ≤ wrap64 (wid 4294967296 a) ∧ wrap64 (wid 4294967296 a) < 2147483648 ∧ wrap64 (wid 4294967296 a) % 18446744073709551616 = wid 4294967296 a ∧ wrap64 (wid 4294967296 a) % 4294967296 = a % 4294967296 := by
  unfold wrap64 wid; omega
theorem half_zero (b : Int) : wid 4294967296 b = 0 ↔ b % 4294967296 = 0 := by unfold wid; omega
theorem wid_small (s : Int) (h0 : -2147483648 ≤ s) (h1 : s < 2147483648) : wid 4294967296 (s % 18446744073709551616) = s % 18446744073709551616 := by unfold wid; omega
theorem parts_walk (a b : Int) (w : World) (ha : W64 a) (hb : W64 b) :
    Calls Try.prog 4 #[.int .u64 a, .int .u64 b] w fun e w' => e = .returned (.bool true) ∧ Below w.heap.size w w' := by
  have c1 := fun w => does_as 54 a b _ w (fun w => do_word 14 (by decide) a b w ha hb)
  have c2 := fun w => does_as 56 a b _ w (fun w => do_word 16 (by decide) a b w ha hb)
  have c3 := fun w => does_as 55 a b _ w (fun w => do_word 15 (by decide) a b w ha hb)
  have c4 := fun w => does_as 57 a b _ w (fun w => do_word 17 (by decide) a b w ha hb)
  have d1 := fun w => does_as 59 a b _ w (fun w => do_half 6 (by decide) a b w ha hb)
  have d2 := fun w => does_as 61 a b _ w (fun w => do_half 8 (by decide) a b w ha hb)
  have d3 := fun w => does_as 60 a b _ w (fun w => do_half 7 (by decide) a b w ha hb)
  have d4 := fun w => does_as 62 a b _ w (fun w => do_half 9 (by decide) a b w ha hb)
  have hRw : W64 (fREM a b) := hop_w 8 (by decide) a b ha hb
  have hyw := wid_bd 4294967296 b
  have hrw : W64 (wid 4294967296 (fREM (wid 4294967296 a) (wid 4294967296 b))) := wid_bd _ _
  -- the halves
  have X := half_s a
  have Y := half_s b
  by_cases hb0 : b = 0
  · have y0 : wid 4294967296 b = 0 := (half_zero b).2 (by rw [hb0]; rfl)
    have b' : b % 4294967296 = 0 := by rw [hb0]; rfl
    refine parts_zz a b _ _ _ _ _ _ _ _ _ _ w ha hb hRw hyw hrw c1 c2 c3 c4 d1 d2 d3 d4 rfl rfl ?_ ?_ ?_ ?_ hb0 ?_ ?_ ?_ ?_ y0 ?_ ?_ ?_ ?_
    · show (IntKind.u64.wrap (IntKind.u64.wrap (fDIV a b * b) + fREM a b) != a) = false
      refine sum64 _ _ _ a (fDIV a b) 0 a ha rfl (by rw [hb0]) (by unfold fREM; rw [if_pos hb0]) ?_
      rw [Int.mul_zero, Int.zero_add]; exact Int.emod_eq_of_lt ha.1 ha.2
    · show (IntKind.u64.wrap (IntKind.u64.wrap (fDIVU a b * b) + fREMU a b) != a) = false
      refine sum64 _ _ _ a (fDIVU a b) 0 a ha rfl (by rw [hb0]) (by unfold fREMU; rw [if_pos hb0]) ?_
      rw [Int.mul_zero, Int.zero_add]; exact Int.emod_eq_of_lt ha.1 ha.2
    · refine sum32 _ _ _ a (hres 6 a b) 0 a rfl (by rw [y0]) ?_ (by rw [Int.mul_zero, Int.zero_add])
      show wid 4294967296 (fREM (wid 4294967296 a) (wid 4294967296 b)) % 4294967296 = _
      unfold fREM; rw [if_pos y0, wid_mod, wid_mod]
    · refine sum32 _ _ _ a (hres 7 a b) 0 a rfl (by rw [b']; rfl) ?_ (by rw [Int.mul_zero, Int.zero_add])
      show wid 4294967296 (fREMU (a % 4294967296) (b % 4294967296)) % 4294967296 = _
      unfold fREMU; rw [if_pos b', wid_mod]; omega
    · show fDIV a b = _; unfold fDIV; rw [if_pos hb0]
    · show fDIVU a b = _; unfold fDIVU; rw [if_pos hb0]
    · show fREM a b = _; unfold fREM; rw [if_pos hb0]
    · show fREMU a b = _; unfold fREMU; rw [if_pos hb0]
    · show wid 4294967296 (fDIV (wid 4294967296 a) (wid 4294967296 b)) = _; unfold fDIV; rw [if_pos y0]; rfl
    · show wid 4294967296 (fDIVU (a % 4294967296) (b % 4294967296)) = _; unfold fDIVU; rw [if_pos b']; rfl
    · show wid 4294967296 (fREM (wid 4294967296 a) (wid 4294967296 b)) = _; unfold fREM; rw [if_pos y0]; exact wid_congr _ _ (wid_mod a)
    · show wid 4294967296 (fREMU (a % 4294967296) (b % 4294967296)) = _; unfold fREMU; rw [if_pos b']; exact wid_congr _ _ (by omega)
  · -- b is not 0
    have B0 := wrap64_ne b hb hb0
    have eD : fDIV a b = (wrap64 a).tdiv (wrap64 b) % 18446744073709551616 := if_neg hb0
    have eR : fREM a b = (wrap64 a).tmod (wrap64 b) % 18446744073709551616 := if_neg hb0
    have eU : fDIVU a b = a / b := if_neg hb0
    have eS : fREMU a b = a % b := if_neg hb0
    have lt := tmod_lt (wrap64 a) (wrap64 b) B0
    have bb := wrap64_bd b
    have ba := wrap64_bd a
    have bpos : 0 < b := by have := hb.1; omega
    have E1 : (IntKind.u64.wrap (IntKind.u64.wrap (fDIV a b * b) + fREM a b) != a) = false := by
      refine sum64 _ _ _ a ((wrap64 a).tdiv (wrap64 b)) (wrap64 b) ((wrap64 a).tmod (wrap64 b)) ha (by rw [eD]; omega) (wrap64_mod b).symm (by rw [eR]; omega) ?_
      rw [trunc, wrap64_mod]; exact Int.emod_eq_of_lt ha.1 ha.2
    have E2 : (IntKind.u64.wrap (IntKind.u64.wrap (fDIVU a b * b) + fREMU a b) != a) = false := by
      refine sum64 _ _ _ a (a / b) b (a % b) ha (by rw [eU]) rfl (by rw [eS]) ?_
      rw [Int.mul_comm, Int.mul_ediv_add_emod]; exact Int.emod_eq_of_lt ha.1 ha.2
    have F1 : amt (fREM a b) < amt b := by
      rw [eR, amt_small _ (by omega) (by omega), amt_abs b hb]; omega
    have F2 : fREMU a b < b := by rw [eS]; exact Int.emod_lt_of_pos _ bpos
    have F4 : fREM a b ≠ 0 → fREM a b / 9223372036854775808 = a / 9223372036854775808 := by
      rw [eR]
      have p1 := tmod_pos (wrap64 a) (wrap64 b)
      have p2 := tmod_neg (wrap64 a) (wrap64 b)
      obtain ⟨h0, h1⟩ := ha
      have ea : (wrap64 a = a ∧ a < 9223372036854775808) ∨ (wrap64 a = a - 18446744073709551616 ∧ 9223372036854775808 ≤ a) := by unfold wrap64; omega
      generalize (wrap64 a).tmod (wrap64 b) = s at *
      intro hs
      rcases ea with ⟨ea, hl⟩ | ⟨ea, hl⟩
      · have := p1 (by omega); omega
      · have := p2 (by omega); omega
    have F5 : fDIVU a b ≤ a := by rw [eU]; exact Int.ediv_le_self _ ha.1
    by_cases hy0 : wid 4294967296 b = 0
    · have b' : b % 4294967296 = 0 := (half_zero b).1 hy0
      refine parts_pz a b _ _ _ _ _ _ _ _ _ _ w ha hb hRw hyw hrw c1 c2 c3 c4 d1 d2 d3 d4 rfl rfl E1 E2 ?_ ?_ hb0 F1 F2 F4 F5 hy0 ?_ ?_ ?_ ?_
      · refine sum32 _ _ _ a (hres 6 a b) 0 a rfl (by rw [hy0]) ?_ (by rw [Int.mul_zero, Int.zero_add])
        show wid 4294967296 (fREM (wid 4294967296 a) (wid 4294967296 b)) % 4294967296 = _
        unfold fREM; rw [if_pos hy0, wid_mod, wid_mod]
      · refine sum32 _ _ _ a (hres 7 a b) 0 a rfl (by rw [b']; rfl) ?_ (by rw [Int.mul_zero, Int.zero_add])
        show wid 4294967296 (fREMU (a % 4294967296) (b % 4294967296)) % 4294967296 = _
        unfold fREMU; rw [if_pos b', wid_mod]; omega
      · show wid 4294967296 (fDIV (wid 4294967296 a) (wid 4294967296 b)) = _; unfold fDIV; rw [if_pos hy0]; rfl
      · show wid 4294967296 (fDIVU (a % 4294967296) (b % 4294967296)) = _; unfold fDIVU; rw [if_pos b']; rfl
      · show wid 4294967296 (fREM (wid 4294967296 a) (wid 4294967296 b)) = _; unfold fREM; rw [if_pos hy0]; exact wid_congr _ _ (wid_mod a)
      · show wid 4294967296 (fREMU (a % 4294967296) (b % 4294967296)) = _; unfold fREMU; rw [if_pos b']; exact wid_congr _ _ (by omega)
    · have b' : b % 4294967296 ≠ 0 := fun h => hy0 ((half_zero b).2 h)
      have bp : 0 < b % 4294967296 := by omega
      obtain ⟨X0, X1, X2, X3⟩ := X
      obtain ⟨Y0, Y1, Y2, Y3⟩ := Y
      have Yn := wrap64_ne _ hyw hy0
      have eD' : fDIV (wid 4294967296 a) (wid 4294967296 b) = (wrap64 (wid 4294967296 a)).tdiv (wrap64 (wid 4294967296 b)) % 18446744073709551616 := if_neg hy0
      have eR' : fREM (wid 4294967296 a) (wid 4294967296 b) = (wrap64 (wid 4294967296 a)).tmod (wrap64 (wid 4294967296 b)) % 18446744073709551616 := if_neg hy0
      have eU' : fDIVU (a % 4294967296) (b % 4294967296) = a % 4294967296 / (b % 4294967296) := if_neg b'
      have eS' : fREMU (a % 4294967296) (b % 4294967296) = a % 4294967296 % (b % 4294967296) := if_neg b'
      have lt' := tmod_lt (wrap64 (wid 4294967296 a)) (wrap64 (wid 4294967296 b)) Yn
      have tr := trunc (wrap64 (wid 4294967296 a)) (wrap64 (wid 4294967296 b))
      have p1 := tmod_pos (wrap64 (wid 4294967296 a)) (wrap64 (wid 4294967296 b))
      have p2 := tmod_neg (wrap64 (wid 4294967296 a)) (wrap64 (wid 4294967296 b))
      have er : wid 4294967296 (fREM (wid 4294967296 a) (wid 4294967296 b)) = (wrap64 (wid 4294967296 a)).tmod (wrap64 (wid 4294967296 b)) % 18446744073709551616 := by
        rw [eR']; exact wid_small _ (by omega) (by omega)
      refine parts_pp a b _ _ _ _ _ _ _ _ _ _ w ha hb hRw hyw hrw c1 c2 c3 c4 d1 d2 d3 d4 rfl rfl E1 E2 ?_ ?_ hb0 F1 F2 F4 F5 hy0 ?_ ?_ ?_
      · refine sum32 _ _ _ a ((wrap64 (wid 4294967296 a)).tdiv (wrap64 (wid 4294967296 b))) (wrap64 (wid 4294967296 b)) ((wrap64 (wid 4294967296 a)).tmod (wrap64 (wid 4294967296 b))) ?_ (by omega) (by rw [er]; omega) (by rw [tr]; exact X3)
        show wid 4294967296 (fDIV (wid 4294967296 a) (wid 4294967296 b)) % 4294967296 = _
        rw [eD', wid_mod]; omega
      · refine sum32 _ _ _ a (a % 4294967296 / (b % 4294967296)) (b % 4294967296) (a % 4294967296 % (b % 4294967296)) ?_ (by omega) ?_ (by rw [Int.mul_comm, Int.mul_ediv_add_emod]; omega)
        · show wid 4294967296 (fDIVU (a % 4294967296) (b % 4294967296)) % 4294967296 = _
          rw [eU', wid_mod]
        · show wid 4294967296 (fREMU (a % 4294967296) (b % 4294967296)) % 4294967296 = _
          rw [eS', wid_mod]
      · rw [er, amt_small _ (by omega) (by omega), amt_abs _ hyw]; omega
      · show wid 4294967296 (fREMU (a % 4294967296) (b % 4294967296)) % 4294967296 < b % 4294967296
        rw [eS', wid_mod]
        have l0 := Int.emod_nonneg (a % 4294967296) b'
        have l1 := Int.emod_lt_of_pos (a % 4294967296) bp
        generalize a % 4294967296 % (b % 4294967296) = z at *
        omega
      · rw [er]
        generalize (wrap64 (wid 4294967296 a)).tmod (wrap64 (wid 4294967296 b)) = s at *
        have hx : 0 ≤ wid 4294967296 a ∧ wid 4294967296 a < 18446744073709551616 := wid_bd _ _
        generalize wrap64 (wid 4294967296 a) = XX at *
        intro hs
        by_cases h : 0 ≤ XX
        · have := p1 h; omega
        · have := p2 (by omega); omega
end Go.Proofs.Ythdahigckflohab
