import Derived.Test.YtloldhcljdmofaaDoorPg3
import Derived.Test.YtloldhcljdmofaaDoorRd8
namespace Go.Proofs.YtloldhcljdmofaaDoor
open Go.RowKit
set_option linter.unusedVariables false
set_option linter.unusedSimpArgs false
theorem num_congr {B C : Nat → Int} {o p : Nat} : ∀ k, (∀ j, j < k → B (o + j) = C (p + j)) → num B o k = num C p k
  | 0, _ => rfl
  | k + 1, h => by
    have h1 := num_congr (B := B) (C := C) (o := o) (p := p) k (fun j hj => h j (by omega))
    simp only [num]
    rw [h1, h k (by omega)]
theorem emod_split (v a : Int) (ha : 0 < a) : v % (a * 256) = v % a + a * (v / a % 256) := by
  have h1 : v = a * (v / a) + v % a := (Int.mul_ediv_add_emod v a).symm
  have h2 : v / a = 256 * (v / a / 256) + v / a % 256 := (Int.mul_ediv_add_emod (v / a) 256).symm
  have h3 := Int.emod_nonneg v (show a ≠ 0 by omega)
  have h4 := Int.emod_lt_of_pos v ha
  have h5 : 0 ≤ v / a % 256 := Int.emod_nonneg _ (by decide)
  have h6 : v / a % 256 < 256 := Int.emod_lt_of_pos _ (by decide)
  have h7 : a * (v / a % 256) ≤ a * 255 := Int.mul_le_mul_of_nonneg_left (by omega) (by omega)
  have h8 : 0 ≤ a * (v / a % 256) := Int.mul_nonneg (by omega) h5
  have e : v = (v % a + a * (v / a % 256)) + a * 256 * (v / a / 256) := by
    have h9 : a * (v / a) = a * 256 * (v / a / 256) + a * (v / a % 256) := by
      rw [Int.mul_assoc, ← Int.mul_add, ← h2]
    omega
  have h10 : v % (a * 256) = (v % a + a * (v / a % 256)) % (a * 256) := by
    conv => lhs; rw [e]
    exact Int.add_mul_emod_self_left _ _ _
  rw [h10]
  exact Int.emod_eq_of_lt (by omega) (by omega)
theorem num_put (H : Nat → Int) (o n : Nat) (v : Int) : ∀ k, k ≤ n → num (putB H o n v) o k = v % 256 ^ k
  | 0, _ => by simp [num]
  | k + 1, h => by
    simp only [num]
    rw [num_put H o n v k (by omega), Int.pow_succ, emod_split _ _ (Int.pow_pos (by decide))]
    congr 2
    simp only [putB, if_pos (show o ≤ o + k ∧ o + k < o + n by omega), Nat.add_sub_cancel_left]
theorem put_out (H : Nat → Int) (o n : Nat) (v : Int) (i : Nat) (h : i < o ∨ o + n ≤ i) : putB H o n v i = H i := by
  simp only [putB]
  rw [if_neg (by omega)]
theorem put_bd (H : Nat → Int) (o n : Nat) (v : Int) (hH : ∀ i, 0 ≤ H i ∧ H i < 256) : ∀ i, 0 ≤ putB H o n v i ∧ putB H o n v i < 256 := fun i => by
  simp only [putB]
  split
  · exact ⟨Int.emod_nonneg _ (by decide), Int.emod_lt_of_pos _ (by decide)⟩
  · exact hH i
theorem hdP_bd : ∀ n i, 0 ≤ hdP n i ∧ hdP n i < 256
  | 0, i => by simp [hdP]
  | n + 1, i => put_bd _ _ _ _ (hdP_bd n) i
theorem sdP_bd : ∀ n i, 0 ≤ sdP n i ∧ sdP n i < 256
  | 0, i => by simp [sdP]
  | n + 1, i => put_bd _ _ _ _ (sdP_bd n) i
theorem headB_bd (en : Int) (n : Nat) : ∀ i, 0 ≤ headB en n i ∧ headB en n i < 256 := put_bd _ _ _ _ (put_bd _ _ _ _ (put_bd _ _ _ _ (hdP_bd 12)))
theorem segB_bd (va fl mem at_ : Int) (n : Nat) : ∀ i, 0 ≤ segB va fl mem at_ n i ∧ segB va fl mem at_ n i < 256 := put_bd _ _ _ _ (put_bd _ _ _ _ (put_bd _ _ _ _ (put_bd _ _ _ _ (put_bd _ _ _ _ (put_bd _ _ _ _ (sdP_bd 8))))))
theorem fil_bd (en : Int) (S : List Sg) (B : Nat → Int) (hB : ∀ i, 0 ≤ B i ∧ B i < 256) : ∀ i, 0 ≤ fil en S B i ∧ fil en S B i < 256 := fun i => by
  simp only [fil]
  split
  · exact headB_bd _ _ _
  · split
    · unfold sgB
      cases S[(i - 64) / 56]? with
      | some s => exact segB_bd _ _ _ _ _ _
      | none => exact ⟨Int.le_refl _, (by omega : (0 : Int) < 256)⟩
    · exact hB i
section
variable {en : Int} {S : List Sg} {B : Nat → Int}
theorem num_head (o k : Nat) (h : o + k ≤ 64) : num (fil en S B) o k = num (headB en S.length) o k :=
  num_congr k fun j hj => by simp only [fil, if_pos (show o + j < 64 by omega)]
theorem num_segF {i : Nat} {s : Sg} (hs : S[i]? = some s) (o k : Nat) (h : o + k ≤ 56) : num (fil en S B) (64 + 56 * i + o) k = num (segB s.va s.fl s.mem s.wh s.sz) o k :=
  num_congr k fun j hj => by
    have hlt := (List.getElem?_eq_some_iff.1 hs).1
    simp only [fil, if_neg (show ¬ 64 + 56 * i + o + j < 64 by omega), if_pos (show 64 + 56 * i + o + j < 64 + 56 * S.length by omega)]
    rw [show (64 + 56 * i + o + j - 64) / 56 = i by omega, show (64 + 56 * i + o + j - 64) % 56 = o + j by omega]
    simp only [sgB, hs]
theorem head_fix (n o k : Nat) (h : o + k ≤ 24 ∨ (40 ≤ o ∧ o + k ≤ 56) ∨ 58 ≤ o) : num (headB en n) o k = num (hdP 12) o k :=
  num_congr k fun j hj => by
    simp only [headB]
    rw [put_out _ _ _ _ _ (by omega), put_out _ _ _ _ _ (by omega), put_out _ _ _ _ _ (by omega)]
theorem fix_all : ∀ i, i < 12 → hFx i ≠ 0 → num (hdP 12) (hOf i) (hBy i) = hFx i ∧ (hOf i + hBy i ≤ 24 ∨ (40 ≤ hOf i ∧ hOf i + hBy i ≤ 56) ∨ 58 ≤ hOf i) := by decide
theorem hd_fil : Hd (fil en S B) 0 0 := by
  refine .inl ⟨rfl, rfl, fun i hi => ?_⟩
  by_cases h0 : hFx i = 0
  · exact .inl h0
  · obtain ⟨h1, h2⟩ := fix_all i hi h0
    refine .inr ?_
    rw [num_head _ _ (hOf_le i hi).1, head_fix _ _ _ h2, h1]
theorem num_en (he : 0 ≤ en ∧ en < 18446744073709551616) : num (fil en S B) 24 8 = en := by
  rw [num_head _ _ (by omega)]
  have : num (headB en S.length) 24 8 = num (putB (hdP 12) 24 8 en) 24 8 := num_congr 8 fun j hj => by
    simp only [headB]
    rw [put_out _ _ _ _ _ (by omega), put_out _ _ _ _ _ (by omega)]
  rw [this, num_put _ _ _ _ 8 (Nat.le_refl _), pow8]
  omega
theorem num_fro : num (fil en S B) 32 8 = 64 := by
  rw [num_head _ _ (by omega)]
  have : num (headB en S.length) 32 8 = num (putB (putB (hdP 12) 24 8 en) 32 8 64) 32 8 := num_congr 8 fun j hj => by
    simp only [headB]
    rw [put_out _ _ _ _ _ (by omega)]
  rw [this, num_put _ _ _ _ 8 (Nat.le_refl _), pow8]
  decide
theorem num_cnt (h : S.length ≤ 8) : num (fil en S B) 56 2 = S.length := by
  rw [num_head _ _ (by omega)]
  simp only [headB]
  rw [num_put _ _ _ _ 2 (Nat.le_refl _), show (256 : Int) ^ 2 = 65536 by decide]
  omega
theorem seg_ty (va fl mem at_ : Int) (n : Nat) : num (segB va fl mem at_ n) 0 4 = 1 := by
  have : num (segB va fl mem at_ n) 0 4 = num (sdP 8) 0 4 := num_congr 4 fun j hj => by
    simp only [segB]
    rw [put_out _ _ _ _ _ (by omega), put_out _ _ _ _ _ (by omega), put_out _ _ _ _ _ (by omega), put_out _ _ _ _ _ (by omega), put_out _ _ _ _ _ (by omega), put_out _ _ _ _ _ (by omega)]
  rw [this]
  decide
theorem seg_fl (va fl mem at_ : Int) (n : Nat) (h : 0 ≤ fl ∧ fl < 4294967296) : num (segB va fl mem at_ n) 4 4 = fl := by
  have : num (segB va fl mem at_ n) 4 4 = num (putB (sdP 8) 4 4 fl) 4 4 := num_congr 4 fun j hj => by
    simp only [segB]
    rw [put_out _ _ _ _ _ (by omega), put_out _ _ _ _ _ (by omega), put_out _ _ _ _ _ (by omega), put_out _ _ _ _ _ (by omega), put_out _ _ _ _ _ (by omega)]
  rw [this, num_put _ _ _ _ 4 (Nat.le_refl _), pow4]
  omega
theorem seg_at (va fl mem at_ : Int) (n : Nat) (h : 0 ≤ at_ ∧ at_ < 18446744073709551616) : num (segB va fl mem at_ n) 8 8 = at_ := by
  have : num (segB va fl mem at_ n) 8 8 = num (putB (putB (sdP 8) 4 4 fl) 8 8 at_) 8 8 := num_congr 8 fun j hj => by
    simp only [segB]
    rw [put_out _ _ _ _ _ (by omega), put_out _ _ _ _ _ (by omega), put_out _ _ _ _ _ (by omega), put_out _ _ _ _ _ (by omega)]
  rw [this, num_put _ _ _ _ 8 (Nat.le_refl _), pow8]
  omega
theorem seg_va (va fl mem at_ : Int) (n : Nat) (h : 0 ≤ va ∧ va < 18446744073709551616) : num (segB va fl mem at_ n) 16 8 = va := by
  have : num (segB va fl mem at_ n) 16 8 = num (putB (putB (putB (sdP 8) 4 4 fl) 8 8 at_) 16 8 va) 16 8 := num_congr 8 fun j hj => by
    simp only [segB]
    rw [put_out _ _ _ _ _ (by omega), put_out _ _ _ _ _ (by omega), put_out _ _ _ _ _ (by omega)]
  rw [this, num_put _ _ _ _ 8 (Nat.le_refl _), pow8]
  omega
theorem seg_n (va fl mem at_ : Int) (n : Nat) (h : n < 18446744073709551616) : num (segB va fl mem at_ n) 32 8 = n := by
  have : num (segB va fl mem at_ n) 32 8 = num (putB (putB (putB (putB (putB (sdP 8) 4 4 fl) 8 8 at_) 16 8 va) 24 8 va) 32 8 n) 32 8 := num_congr 8 fun j hj => by
    simp only [segB]
    rw [put_out _ _ _ _ _ (by omega)]
  rw [this, num_put _ _ _ _ 8 (Nat.le_refl _), pow8]
  omega
theorem seg_mem (va fl mem at_ : Int) (n : Nat) (h : 0 ≤ mem ∧ mem < 18446744073709551616) : num (segB va fl mem at_ n) 40 8 = mem := by
  simp only [segB]
  rw [num_put _ _ _ _ 8 (Nat.le_refl _), pow8]
  omega
end
end Go.Proofs.YtloldhcljdmofaaDoor
