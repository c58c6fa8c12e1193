import Derived.Test.YthdahigckflohabWord
namespace Go.Proofs.Ythdahigckflohab
open Go.RowKit
set_option linter.unusedVariables false
theorem ring1 (a1 a0 b1 b0 : Int) : (4294967296 * a1 + a0) * (4294967296 * b1 + b0) = 18446744073709551616 * (a1 * b1) + 4294967296 * (a1 * b0 + a0 * b1) + a0 * b0 := by
  grind
theorem and32 (x : Int) (h : W64 x) : bits .and .u64 x 4294967295 = x % 4294967296 := bits_mask .u64 64 (by decide) (fun n h0 h1 => by rw [wu]; omega) 32 (by decide) x h.1 h.2
theorem and1 (x : Int) (h : W64 x) : bits .and .u64 x 1 = x % 2 := bits_mask .u64 64 (by decide) (fun n h0 h1 => by rw [wu]; omega) 1 (by decide) x h.1 h.2
theorem prod_bd (x y : Int) (h0 : 0 ≤ x) (h1 : x < 4294967296) (h2 : 0 ≤ y) (h3 : y < 4294967296) : 0 ≤ x * y ∧ x * y ≤ 18446744065119617025 := by
  refine ⟨Int.mul_nonneg h0 h2, ?_⟩
  have := Int.mul_le_mul (show x ≤ 4294967295 by omega) (show y ≤ 4294967295 by omega) h2 (by decide)
  omega
def hiM (a b : Int) : Int := IntKind.u64.wrap (IntKind.u64.wrap (IntKind.u64.wrap (a / 4294967296 * (b / 4294967296)) +
     IntKind.u64.wrap
       (IntKind.u64.wrap (a / 4294967296 * bits .and .u64 b 4294967295) +
         IntKind.u64.wrap (bits .and .u64 a 4294967295 * bits .and .u64 b 4294967295) / 4294967296) / 4294967296) +
   IntKind.u64.wrap
     (bits .and .u64
        (IntKind.u64.wrap
          (IntKind.u64.wrap (a / 4294967296 * bits .and .u64 b 4294967295) +
           IntKind.u64.wrap (bits .and .u64 a 4294967295 * bits .and .u64 b 4294967295) / 4294967296))
        4294967295 +
      IntKind.u64.wrap (bits .and .u64 a 4294967295 * (b / 4294967296))) / 4294967296)
theorem hiM_eq (a b : Int) (ha : W64 a) (hb : W64 b) : hiM a b = a * b / 18446744073709551616 := by
  unfold hiM
  rw [and32 a ha, and32 b hb]
  obtain ⟨h0, h1⟩ := ha
  obtain ⟨h2, h3⟩ := hb
  have e := ring1 (a / 4294967296) (a % 4294967296) (b / 4294967296) (b % 4294967296)
  rw [Int.mul_ediv_add_emod, Int.mul_ediv_add_emod] at e
  rw [e]
  clear e
  have q0 : 0 ≤ a / 4294967296 := by omega
  have q1 : a / 4294967296 < 4294967296 := by omega
  have q2 : 0 ≤ b / 4294967296 := by omega
  have q3 : b / 4294967296 < 4294967296 := by omega
  have q4 : 0 ≤ a % 4294967296 := by omega
  have q5 : a % 4294967296 < 4294967296 := by omega
  have q6 : 0 ≤ b % 4294967296 := by omega
  have q7 : b % 4294967296 < 4294967296 := by omega
  have b1 := prod_bd _ _ q0 q1 q2 q3
  have b2 := prod_bd _ _ q0 q1 q6 q7
  have b3 := prod_bd _ _ q4 q5 q2 q3
  have b4 := prod_bd _ _ q4 q5 q6 q7
  generalize a / 4294967296 * (b / 4294967296) = S at *
  generalize a / 4294967296 * (b % 4294967296) = Q at *
  generalize a % 4294967296 * (b / 4294967296) = R at *
  generalize a % 4294967296 * (b % 4294967296) = P at *
  have e1 : IntKind.u64.wrap S = S := by rw [wu]; omega
  have e2 : IntKind.u64.wrap Q = Q := by rw [wu]; omega
  have e3 : IntKind.u64.wrap R = R := by rw [wu]; omega
  have e4 : IntKind.u64.wrap P = P := by rw [wu]; omega
  rw [e1, e2, e3, e4]
  have e5 : IntKind.u64.wrap (Q + P / 4294967296) = Q + P / 4294967296 := by rw [wu]; omega
  rw [e5, and32 _ ⟨by omega, by omega⟩]
  simp only [wu]
  omega
theorem hi_bd (a b : Int) (ha : W64 a) (hb : W64 b) : W64 (a * b / 18446744073709551616) := by
  have := mod_bd 0
  rw [← hiM_eq a b ha hb]
  unfold hiM
  rw [wu]
  exact mod_bd _
theorem mul64_any (a b : Int) (w : World) (ha : W64 a) (hb : W64 b) :
    Calls Try.prog 91 #[.int .u64 a, .int .u64 b] w fun e w' => e = .returned (.tuple #[.int .u64 (a * b / 18446744073709551616), .int .u64 (a * b % 18446744073709551616)]) ∧ w' = w := by
  rw [← hiM_eq a b ha hb, ← wu]
  obtain ⟨h0, h1⟩ := ha
  obtain ⟨h2, h3⟩ := hb
  unfold hiM
  go_enter Try.func91, Try.ntmps91
  go_wp2
  go_ret2
  exact ⟨rfl, rfl⟩
theorem mulW_any (a b : Int) (w : World) (ha : W64 a) (hb : W64 b) :
    Calls Try.prog 78 #[.int .u64 a, .int .u64 b] w fun e w' => e = .returned (.agg #[.int .u64 (a * b / 18446744073709551616), .int .u64 (a * b % 18446744073709551616)]) ∧ Below w.heap.size w w' := by
  have c := fun w => mul64_any a b w ha hb
  generalize a * b / 18446744073709551616 = h at *
  generalize a * b % 18446744073709551616 = l at *
  go_enter Try.func78, Try.ntmps78
  go_wp2_with fail
  refine (c _).mono ?_; rintro e w' ⟨rfl, rfl⟩
  clear c
  go_wp2
  exact bodyPost_ret (v := .agg #[.int .u64 h, .int .u64 l]) (by simp [results, Try.results78, go_sem]) rfl ⟨rfl, (((Below.refl _ _).alloc (Nat.le_refl _) _).alloc (by simp only [World.size_alloc]; omega) _)⟩
end Go.Proofs.Ythdahigckflohab
