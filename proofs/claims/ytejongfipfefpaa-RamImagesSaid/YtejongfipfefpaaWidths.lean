import Derived.Test.YtejongfipfefpaaRw
namespace Go.Proofs.Ytejongfipfefpaa
open Go.RowKit
set_option linter.unusedVariables false
set_option linter.unusedSimpArgs false
theorem over_in (B : Nat → Int) (o : Nat) (vs : List Int) (k : Nat) (h : k < vs.length) : over B o vs (o + k) = vs.getD k 0 := by
  unfold over
  rw [if_pos (by omega), show o + k - o = k by omega]
theorem over_out (B : Nat → Int) (o : Nat) (vs : List Int) (j : Nat) (h : j < o ∨ o + vs.length ≤ j) : over B o vs j = B j := by
  unfold over
  rw [if_neg (by omega)]
theorem over_le (B : Nat → Int) (o : Nat) (v : Int) (n k : Nat) (h : k < n) : over B o (le v n) (o + k) = v / 256 ^ k % 256 := by
  rw [over_in B o (le v n) k (by rw [le_len]; exact h), le_get v n k h]
theorem num_le (B : Nat → Int) (o : Nat) (v : Int) (n : Nat) : ∀ k, k ≤ n → num (over B o (le v n)) o k = md v k := by
  intro k
  induction k with
  | zero => intro _; rw [md_zero]; rfl
  | succ k ih => intro hk; rw [md_step]; simp only [num]; rw [ih (by omega), over_le B o v n k (by omega), Int.mul_comm]
theorem hdL_ok (N : Nat) (L : List Nat) (o n : Nat) (h : ∀ f, o / 4096 ≤ f → f * 4096 < o + n → f < N ∧ f ∉ L) : ∀ f : Nat, o / 4096 ≤ f → f * 4096 < o + n → hdL N L (2147483648 + f * 4096) = true := fun f h1 h2 => by
  rw [hdL_addr N L f (h f h1 h2).1]
  simp [(h f h1 h2).2]
theorem u64_not (v : Int) (hv : 0 ≤ v ∧ v < 18446744073709551616) : 0 ≤ bits .xor .u64 IntKind.u64.max v ∧ bits .xor .u64 IntKind.u64.max v < 18446744073709551616 := by
  have e : bits .xor .u64 IntKind.u64.max v = IntKind.u64.wrap (((BitVec.ofInt 64 IntKind.u64.max ^^^ BitVec.ofInt 64 v).toNat : Nat) : Int) := rfl
  rw [e, IntKind.wrap_u64]
  omega
theorem and_mask (i : Nat) (hi : i ≤ 64) (v : Int) (hv : 0 ≤ v ∧ v < 18446744073709551616) : bits .and .u64 v (2 ^ i - 1) = v % 2 ^ i :=
  bits_mask .u64 64 (by decide) wraps_u64 i hi v hv.1 hv.2
end Go.Proofs.Ytejongfipfefpaa
