import Derived.Test.YtacdgfojdkppmaaGreatDoorLeB
import Derived.Test.YtacdgfojdkppmaaGreatDoorEF
import Derived.Deep.Cut
import Derived.Deep.DeepCutAuto
import Derived.Deep.CutBlock
import Derived.OneCell
namespace Go.Proofs.YtacdgfojdkppmaaGreatDoor
open Go.RowKit
set_option linter.unusedVariables false
set_option linter.unusedSimpArgs false
/-- So many bytes from a place on, the low one first, as a number. -/
def num (B : Nat → Int) (o : Nat) : Nat → Int
  | 0 => 0
  | k + 1 => num B o k + 256 ^ k * B (o + k)
theorem num_bd (B : Nat → Int) (hB : ∀ i, 0 ≤ B i ∧ B i < 256) (o k : Nat) : 0 ≤ num B o k ∧ num B o k < 256 ^ k := by
  induction k with
  | zero => simp [num]
  | succ k ih =>
    have h1 := hB (o + k)
    have hp : (0 : Int) < 256 ^ k := Int.pow_pos (by decide)
    simp only [num, Int.pow_succ]
    have h2 : 256 ^ k * B (o + k) ≤ 256 ^ k * 255 := Int.mul_le_mul_of_nonneg_left (by omega) (by omega)
    have h3 : 0 ≤ 256 ^ k * B (o + k) := Int.mul_nonneg (by omega) h1.1
    omega
theorem lt_of_cell {w : World} {x : Addr} {v : Value} (h : w.cell? x = some v) : x.block < w.heap.size := by
  by_cases hx : x.block < w.heap.size
  · exact hx
  · simp [World.cell?, Array.getElem?_eq_none (Nat.le_of_not_lt hx)] at h
theorem wraps_u64 (n : Int) (h₀ : 0 ≤ n) (h₁ : n < 2 ^ 64) : IntKind.u64.wrap n = n := by rw [IntKind.wrap_u64]; omega
theorem or_u64 (i : Nat) (x y z : Int) (hx : 0 ≤ x) (hxi : x < 2 ^ i) (hy : 0 ≤ y) (hyi : y % 2 ^ i = 0) (hy1 : y < 18446744073709551616) (hz : x + y = z) (hx1 : x < 18446744073709551616) : bits .or .u64 x y = z := by
  have e : bits .or .u64 x y = bits .or .u64 y x := by simp only [bits]; rw [BitVec.or_comm]
  rw [e, bits_join .u64 64 (by decide) wraps_u64 i y x hy hyi (by omega) hx hxi (by omega)]
  omega
theorem or_step (B : Nat → Int) (hB : ∀ i, 0 ≤ B i ∧ B i < 256) (o i : Nat) (hi : i < 8) : bits .or .u64 (num B o i) (IntKind.u64.wrap (B (o + i) * 2 ^ (8 * i))) = num B o (i + 1) := by
  have h1 := num_bd B hB o i
  have h2 := hB (o + i)
  have e : (2 : Int) ^ (8 * i) = 256 ^ i := by rw [Int.pow_mul]; rfl
  have hp : (0 : Int) < 256 ^ i := Int.pow_pos (by decide)
  have hq : (256 : Int) ^ i * 256 ≤ 18446744073709551616 := by
    have : i = 0 ∨ i = 1 ∨ i = 2 ∨ i = 3 ∨ i = 4 ∨ i = 5 ∨ i = 6 ∨ i = 7 := by omega
    rcases this with rfl | rfl | rfl | rfl | rfl | rfl | rfl | rfl <;> decide
  rw [e]
  have h3 : B (o + i) * 256 ^ i ≤ 255 * 256 ^ i := Int.mul_le_mul_of_nonneg_right (by omega) (by omega)
  have h4 : 0 ≤ B (o + i) * 256 ^ i := Int.mul_nonneg h2.1 (by omega)
  rw [wraps_u64 _ h4 (by omega)]
  refine or_u64 (8 * i) _ _ _ h1.1 (by rw [e]; exact h1.2) h4 (by rw [e]; exact Int.mul_emod_left _ _) (by omega) ?_ (by omega)
  simp only [num]
  rw [Int.mul_comm]
theorem num_front (B : Nat → Int) (o : Nat) : ∀ m, num B o (m + 1) = B o + 256 * num B (o + 1) m
  | 0 => by simp [num]
  | m + 1 => by
    have ih := num_front B o m
    have e1 : num B o (m + 1 + 1) = num B o (m + 1) + 256 ^ (m + 1) * B (o + (m + 1)) := rfl
    have e2 : num B (o + 1) (m + 1) = num B (o + 1) m + 256 ^ m * B (o + 1 + m) := rfl
    rw [e1, ih, e2, show o + 1 + m = o + (m + 1) by omega, Int.pow_succ, Int.mul_add, ← Int.mul_assoc, Int.mul_comm (256 ^ m) 256]
    omega
theorem or_front (B : Nat → Int) (hB : ∀ i, 0 ≤ B i ∧ B i < 256) (o m : Nat) (hm : m < 8) : bits .or .u64 (IntKind.u64.wrap (num B (o + 1) m * 256)) (B o) = num B o (m + 1) := by
  have h1 := num_bd B hB (o + 1) m
  have h2 := hB o
  have hq : (256 : Int) ^ m * 256 ≤ 18446744073709551616 := by
    have : m = 0 ∨ m = 1 ∨ m = 2 ∨ m = 3 ∨ m = 4 ∨ m = 5 ∨ m = 6 ∨ m = 7 := by omega
    rcases this with rfl | rfl | rfl | rfl | rfl | rfl | rfl | rfl <;> decide
  rw [wraps_u64 _ (by omega) (by omega)]
  rw [bits_join .u64 64 (by decide) wraps_u64 8 _ _ (by omega) (by omega) (by omega) h2.1 (by omega) (by omega), num_front]
  omega
/-- A row of bytes in a world, from a place of its block on. -/
def Row (w : World) (b o n : Nat) (B : Nat → Int) : Prop := ∀ i, i < n → w.cell? ⟨b, o + i, .none⟩ = some (.int .u8 (B i))
theorem Row.keep {w w' : World} {b o n : Nat} {B : Nat → Int} (h : Row w b o n B) (hb : Below w.heap.size w w') : Row w' b o n B := fun i hi => (hb.cell (lt_of_cell (h i hi))).trans (h i hi)
theorem cut_any (b o n c at_ k : Nat) (w : World) (hk : 0 < k) (h : at_ + k ≤ c) (hc : c ≤ 9223372036854775807) : Calls Tryz.prog 162 #[.slice (some ⟨b, o, .none⟩) n c, .int .i64 at_, .int .i64 k] w fun e w' => e = .returned (.slice (some ⟨b, o + at_, .none⟩) k k) ∧ w' = w := by
  have h1 : (at_ : Int) + k ≤ c := by omega
  have h2 : (c : Int) ≤ 9223372036854775807 := by omega
  go_enter Tryz.func162, Tryz.ntmps162
  go_wp2
  go_ret
  exact ⟨by simp, rfl⟩
set_option maxHeartbeats 1000000 in
theorem in_any (b o n c at_ k : Nat) (fx : Int) (B : Nat → Int) (w : World) (hn : at_ + k ≤ n) (hc : n ≤ c) (hcm : c ≤ 9223372036854775807) (hk0 : 0 < k) (hk : k ≤ 8) (hB : ∀ i, 0 ≤ B i ∧ B i < 256) (h : Row w b o n B) :
    Calls Tryz.prog 137 #[.agg #[.int .i64 at_, .int .i64 k, .int .u64 fx], .slice (some ⟨b, o, .none⟩) n c] w fun e w' => e = .returned (.int .u64 (num B at_ k)) ∧ Below w.heap.size w w' := by
  have c35 := fun w' => cut_any b o n c at_ k w' hk0 (by omega) hcm
  go_enter Tryz.func137, Tryz.ntmps137
  go_wp2_with (first | (go_at_call 162; refine (c35 _).mono ?_; rintro e w1 ⟨rfl, rfl⟩) | fail)
  have HB1 : Hid (Below w.heap.size w (w.alloc (.cells #[.int .i64 at_, .int .i64 k, .int .u64 fx] 185))) := (Below.refl _ _).alloc (Nat.le_refl _) _
  generalize (w.alloc (.cells #[.int .i64 at_, .int .i64 k, .int .u64 fx] 185)) = W1 at *
  go_loopw [5, 15] (fun v a wr => ∃ i : Nat, i ≤ k ∧ a = .int .i64 i ∧ v = .int .u64 (num B at_ i) ∧ wr = W1) (fun _ a _ => (k - intOf a).toNat)
  case atStart => exact ⟨0, by omega, rfl, rfl, rfl⟩
  case round =>
    obtain ⟨i, hi, rfl, rfl, rfl⟩ := hrel
    by_cases hlt : i < k
    · have g0 : (i : Int) < k := by omega
      have a0 : wr.cell? ⟨b, o + at_ + i, .none⟩ = some (.int .u8 (B (at_ + i))) := by
        have := (h.keep HB1.out) (at_ + i) (by omega)
        rwa [← Nat.add_assoc] at this
      have bb := hB (at_ + i)
      have ho := or_step B hB at_ i (by omega)
      go_wp2_with fail
      exact ⟨⟨i + 1, by omega, by simp, rfl, trivial⟩, by simp [intOf]; omega⟩
    · have he : i = k := by omega
      have hn : ¬ ((i : Int) < k) := by omega
      subst he
      go_wp2_with fail
      go_ret
      exact ⟨rfl, HB1.out⟩
end Go.Proofs.YtacdgfojdkppmaaGreatDoor
