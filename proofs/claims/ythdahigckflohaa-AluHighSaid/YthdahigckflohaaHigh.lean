import Derived.Test.YthdahigckflohaaDo
namespace Go.Proofs.Ythdahigckflohaa
open Go.RowKit
set_option linter.unusedVariables false
set_option linter.unusedSimpArgs false
theorem neg_div (a : Int) (ha : W64 a) : neg a = a / 9223372036854775808 := by
  obtain ⟨h0, h1⟩ := ha
  unfold neg; split <;> omega
theorem mix_raw (a b : Int) (ha : W64 a) : fMIX a b = IntKind.u64.wrap (a * b / 18446744073709551616 - IntKind.u64.wrap (b * (a / 9223372036854775808))) := by
  unfold fMIX; rw [neg_div a ha]; simp only [wu]; omega
theorem mh_raw (a b : Int) (hb : W64 b) : fMH a b = IntKind.u64.wrap (fMIX a b - IntKind.u64.wrap (a * (b / 9223372036854775808))) := by
  unfold fMH fMIX; rw [neg_div b hb]; simp only [wu]; omega
def school (a b : Int) : Int :=
  IntKind.u64.wrap (IntKind.u64.wrap (IntKind.u64.wrap (IntKind.u64.wrap (a / 4294967296 * (b / 4294967296)) + IntKind.u64.wrap (bits .and .u64 a 4294967295 * (b / 4294967296)) / 4294967296) + IntKind.u64.wrap (a / 4294967296 * bits .and .u64 b 4294967295) / 4294967296) +
    IntKind.u64.wrap (IntKind.u64.wrap (IntKind.u64.wrap (bits .and .u64 a 4294967295 * bits .and .u64 b 4294967295) / 4294967296 + bits .and .u64 (IntKind.u64.wrap (bits .and .u64 a 4294967295 * (b / 4294967296))) 4294967295) + bits .and .u64 (IntKind.u64.wrap (a / 4294967296 * bits .and .u64 b 4294967295)) 4294967295) / 4294967296)
theorem school_eq (a b : Int) (ha : W64 a) (hb : W64 b) : school a b = a * b / 18446744073709551616 := by
  unfold school
  rw [and32 a ha, and32 b hb]
  obtain ⟨h0, h1⟩ := ha
  obtain ⟨h2, h3⟩ := hb
  have e := ring1 (a / 4294967296) (a % 4294967296) (b / 4294967296) (b % 4294967296)
  rw [Int.mul_ediv_add_emod, Int.mul_ediv_add_emod] at e
  rw [e]
  clear e
  have q0 : 0 ≤ a / 4294967296 := by omega
  have q1 : a / 4294967296 < 4294967296 := by omega
  have q2 : 0 ≤ b / 4294967296 := by omega
  have q3 : b / 4294967296 < 4294967296 := by omega
  have q4 : 0 ≤ a % 4294967296 := by omega
  have q5 : a % 4294967296 < 4294967296 := by omega
  have q6 : 0 ≤ b % 4294967296 := by omega
  have q7 : b % 4294967296 < 4294967296 := by omega
  have b1 := prod_bd _ _ q0 q1 q2 q3
  have b2 := prod_bd _ _ q0 q1 q6 q7
  have b3 := prod_bd _ _ q4 q5 q2 q3
  have b4 := prod_bd _ _ q4 q5 q6 q7
  generalize a / 4294967296 * (b / 4294967296) = S at *
  generalize a / 4294967296 * (b % 4294967296) = Q at *
  generalize a % 4294967296 * (b / 4294967296) = R at *
  generalize a % 4294967296 * (b % 4294967296) = P at *
  have e1 : IntKind.u64.wrap S = S := by rw [wu]; omega
  have e2 : IntKind.u64.wrap Q = Q := by rw [wu]; omega
  have e3 : IntKind.u64.wrap R = R := by rw [wu]; omega
  have e4 : IntKind.u64.wrap P = P := by rw [wu]; omega
  rw [e1, e2, e3, e4, and32 R ⟨by omega, by omega⟩, and32 Q ⟨by omega, by omega⟩]
  simp only [wu]
  omega
set_option maxHeartbeats 2000000 in
theorem high_walk (a b : Int) (w : World) (ha : W64 a) (hb : W64 b) :
    Calls Try.prog 8 #[.int .u64 a, .int .u64 b] w fun e w' => e = .returned (.bool true) ∧ Below w.heap.size w w' := by
  have c0 := fun w => does_as 50 a b _ w (fun w => do_word 10 (by decide) a b w ha hb)
  have c1 := fun w => does_as 53 a b _ w (fun w => do_word 13 (by decide) a b w ha hb)
  have c2 := fun w => does_as 51 a b _ w (fun w => do_word 11 (by decide) a b w ha hb)
  have c3 := fun w => does_as 52 a b _ w (fun w => do_word 12 (by decide) a b w ha hb)
  have c4 := fun w => mulW_any a b w ha hb
  rw [show wres 10 a b = a * b % 18446744073709551616 from rfl, ← wu] at c0
  rw [show wres 13 a b = a * b / 18446744073709551616 from rfl] at c1
  rw [show wres 11 a b = fMH a b from rfl, mh_raw a b hb, mix_raw a b ha] at c2
  rw [show wres 12 a b = fMIX a b from rfl, mix_raw a b ha] at c3
  rw [← wu] at c4
  have HU : Hid (school a b = a * b / 18446744073709551616) := school_eq a b ha hb
  unfold school at HU
  obtain ⟨h0, h1⟩ := ha
  obtain ⟨h2, h3⟩ := hb
  generalize a * b / 18446744073709551616 = U at *
  go_enter Try.func8, Try.ntmps8
  go_wp2_with fail
  refine (c0 _).mono ?_; rintro e w1 ⟨rfl, hb1⟩
  go_wp2_with fail
  refine (c1 _).mono ?_; rintro e w2 ⟨rfl, hb2⟩
  go_wp2_with fail
  refine (c2 _).mono ?_; rintro e w3 ⟨rfl, hb3⟩
  go_wp2_with fail
  refine (c3 _).mono ?_; rintro e w4 ⟨rfl, hb4⟩
  go_wp2_with fail
  refine (c4 _).mono ?_; rintro e w5 ⟨rfl, hb5⟩
  clear c0 c1 c2 c3 c4
  have z5 := hb5.size
  go_wp2
  go_ret
  refine ⟨?_, (bseq (bseq (bseq (bseq hb1 hb2) hb3) hb4) hb5).alloc (bseq (bseq (bseq (bseq hb1 hb2) hb3) hb4) hb5).size _⟩
  exact congrArg (fun x => Ending.returned (.bool x)) (by rw [beq_iff_eq]; exact HU.out.symm)
end Go.Proofs.Ythdahigckflohaa
