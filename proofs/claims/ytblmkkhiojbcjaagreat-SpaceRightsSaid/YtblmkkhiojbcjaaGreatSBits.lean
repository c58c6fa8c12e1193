import Derived.Test.YtblmkkhiojbcjaaGreatSLay
import Derived.Laws.Bits64b
namespace Go.Proofs.YtblmkkhiojbcjaaGreat
open Go.RowKit
set_option linter.unusedVariables false
set_option linter.unusedSimpArgs false
theorem land_low (x c : Nat) (hc : c < 1024) : x &&& c = (x % 1024) &&& c := by
  have e : c = 1023 &&& c := by
    have : c % 1024 = c := Nat.mod_eq_of_lt hc
    have h := Nat.and_two_pow_sub_one_eq_mod c 10
    rw [Nat.and_comm]
    simpa [this] using h.symm
  have h2 : x % 1024 = x &&& 1023 := (Nat.and_two_pow_sub_one_eq_mod x 10).symm
  rw [h2, Nat.and_assoc, ← e]
/-- The bits below 1024 of an entry are its remainder. -/
theorem and_low (e : Int) (he : 0 ≤ e ∧ e < 18446744073709551616) (c : Nat) (hc : c < 1024) : bits .and .u64 e c = (((e % 1024).toNat &&& c : Nat) : Int) := by
  obtain ⟨n, rfl⟩ : ∃ n : Nat, e = n := ⟨e.toNat, by omega⟩
  have h := bits_and_u64_nat n c (by omega) (by omega)
  rw [h, land_low n c hc]
  congr 2
theorem join_u (i : Nat) (x y : Int) (hx₀ : 0 ≤ x) (hx : x % 2 ^ i = 0) (hx₁ : x < 18446744073709551616) (hy₀ : 0 ≤ y) (hy : y < 2 ^ i) (hy₁ : y < 18446744073709551616) : bits .or .u64 x y = x + y :=
  bits_join .u64 64 (by decide) (fun n h0 h1 => by rw [IntKind.wrap_u64]; omega) i x y hx₀ hx (by omega) hy₀ hy (by omega)
/-- An entry that is laid down, as a number. -/
theorem toP_val (pa c : Int) (hp : 0 ≤ pa ∧ pa < 72057594037927936) (hc : 0 ≤ c ∧ c < 1023) (he : c % 2 = 0) : toP pa c = pa / 4096 * 1024 + c + 1 := by
  unfold toP
  rw [join_u 10 (pa / 4096 * 1024) c (by omega) (by omega) (by omega) hc.1 (by omega) (by omega), join_u 1 (pa / 4096 * 1024 + c) 1 (by omega) (by omega) (by omega) (by omega) (by omega) (by omega)]
theorem adE_toP (pa c : Int) (hp : 0 ≤ pa ∧ pa < 72057594037927936) (ha : pa % 4096 = 0) (hc : 0 ≤ c ∧ c < 1023) (he : c % 2 = 0) : adE (toP pa c) = pa := by
  rw [toP_val pa c hp hc he]
  unfold adE
  omega
theorem hs_toP (pa c : Int) (hp : 0 ≤ pa ∧ pa < 72057594037927936) (hc : 0 ≤ c ∧ c < 1023) (he : c % 2 = 0) (d : Nat) (hd : d < 1024) : hs (toP pa c) d = ((((c + 1).toNat &&& d : Nat) : Int) == (d : Int)) := by
  have hv := toP_val pa c hp hc he
  unfold hs
  rw [and_low (toP pa c) (toP_b pa c) d hd, hv, show (pa / 4096 * 1024 + c + 1) % 1024 = c + 1 by omega]
theorem ho_toP (pa c : Int) (hp : 0 ≤ pa ∧ pa < 72057594037927936) (hc : 0 ≤ c ∧ c < 1023) (he : c % 2 = 0) (d : Nat) (hd : d < 1024) : ho (toP pa c) d = ((((c + 1).toNat &&& d : Nat) : Int) != 0) := by
  have hv := toP_val pa c hp hc he
  unfold ho
  rw [and_low (toP pa c) (toP_b pa c) d hd, hv, show (pa / 4096 * 1024 + c + 1) % 1024 = c + 1 by omega]
/-- A pointer to a node is one. -/
theorem kd_node (pa l : Int) (hp : 0 ≤ pa ∧ pa < 72057594037927936) (hl : l = 1 ∨ l = 2) : kd (toP pa 0) l = 3 := by
  have h1 := hs_toP pa 0 hp (by omega) (by omega) 1 (by omega)
  have h4 := hs_toP pa 0 hp (by omega) (by omega) 4 (by omega)
  have h10 := ho_toP pa 0 hp (by omega) (by omega) 10 (by omega)
  have h208 := ho_toP pa 0 hp (by omega) (by omega) 208 (by omega)
  have hv := toP_val pa 0 hp (by omega) (by omega)
  have e1 : hs (toP pa 0) 1 = true := h1
  have e4 : hs (toP pa 0) 4 = false := h4
  have e10 : ho (toP pa 0) 10 = false := h10
  have e208 : ho (toP pa 0) 208 = false := h208
  have hlt : ¬ 18014398509481984 ≤ toP pa 0 := by rw [hv]; omega
  unfold kd
  simp only [e1, e4, e10, e208, hlt, Bool.false_eq_true, if_false, false_and]
  rcases hl with rfl | rfl <;> simp
/-- A page with permissions is a leaf at the lowest level. -/
theorem kd_leaf (pa c : Int) (hp : 0 ≤ pa ∧ pa < 72057594037927936) (ha : pa % 4096 = 0) (hc : 0 ≤ c ∧ c < 256) (he : c % 2 = 0) (hrw : hs (toP pa c) 4 = true → hs (toP pa c) 2 = true) (hrx : ho (toP pa c) 10 = true) : kd (toP pa c) 0 = 2 := by
  have h1 := hs_toP pa c hp (by omega) he 1 (by omega)
  have e1 : hs (toP pa c) 1 = true := by
    have hx : ((c + 1).toNat &&& 1 : Nat) = 1 := by
      rw [Nat.and_one_is_mod]
      omega
    rw [show hs (toP pa c) 1 = ((((c + 1).toNat &&& 1 : Nat) : Int) == ((1 : Nat) : Int)) from h1, hx]
    rfl
  have hv := toP_val pa c hp (by omega) he
  have hlt : ¬ 18014398509481984 ≤ toP pa c := by rw [hv]; omega
  have hno : ¬ (hs (toP pa c) 4 = true ∧ hs (toP pa c) 2 = false) := fun e => by
    have := hrw e.1
    rw [this] at e
    simp at e
  unfold kd
  rw [if_neg (by rw [e1]; simp), if_neg hlt, if_neg hno, if_pos hrx, adE_toP pa c hp ha (by omega) he, spn0, if_pos ha]
end Go.Proofs.YtblmkkhiojbcjaaGreat
