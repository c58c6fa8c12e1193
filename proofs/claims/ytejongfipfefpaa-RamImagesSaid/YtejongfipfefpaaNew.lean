import Derived.Test.YtejongfipfefpaaAlloc
namespace Go.Proofs.Ytejongfipfefpaa
open Go.RowKit
set_option linter.unusedVariables false
set_option linter.unusedSimpArgs false
/-- The free frames of a new memory. -/
def down : Nat → List Nat
  | 0 => []
  | k + 1 => (k + 1) :: down k
theorem down_mem : ∀ (k i : Nat), i ∈ down k ↔ 1 ≤ i ∧ i ≤ k
  | 0, i => by simp [down]; omega
  | k + 1, i => by
    simp only [down, List.mem_cons, down_mem k i]
    omega
theorem down_nd : ∀ k : Nat, (down k).Nodup
  | 0 => List.nodup_nil
  | k + 1 => List.nodup_cons.2 ⟨fun h => by have := (down_mem k (k + 1)).1 h; omega, down_nd k⟩
theorem down_len : ∀ k : Nat, (down k).length = k
  | 0 => rfl
  | k + 1 => by simp only [down, List.length_cons, down_len k]
/-- The bytes of a new memory. -/
def newB : Nat → Nat → Int
  | 0 => over (fun _ => 0) 0 (le 270532723 4)
  | k + 1 => thr (newB k) (k + 1) (adr (down k))
theorem newB_first : ∀ (k j : Nat), j < 4096 → newB k j = newB 0 j
  | 0, _, _ => rfl
  | k + 1, j, hj => (thr_out (newB k) (k + 1) _ j (by omega)).trans (newB_first k j hj)
theorem newB_thr : ∀ k : Nat, Thr (newB k) (down k)
  | 0 => trivial
  | k + 1 => (newB_thr k).cons (k + 1) (fun h => by have := (down_mem k (k + 1)).1 h; omega)
theorem hd_new (n : Nat) (h : 1 ≤ n) (a : Int) : (decide (a = 2147483648) || false) = hdL n (down (n - 1)) a := by
  unfold hdL
  by_cases e : a = 2147483648
  · subst e
    have h1 := isFr_addr 0 n (by omega)
    simp only [Int.natCast_zero, Int.zero_mul, Int.add_zero] at h1
    have h2 : ¬ 0 ∈ down (n - 1) := fun h => by have := (down_mem _ _).1 h; omega
    simp [h1, h2]
  · cases hf : isFr a n with
    | false => simp [e]
    | true =>
      have hf' : a % 4096 = 0 ∧ 2147483648 ≤ a ∧ a < 2147483648 + (n : Int) * 4096 := by simpa [isFr] using hf
      have : ((a - 2147483648) / 4096).toNat ∈ down (n - 1) := (down_mem _ _).2 (by omega)
      simp [e, this]
/-- What New hands back. -/
def NewP (w : World) (n : Nat) (e : Ending) (w' : World) : Prop := ∃ p b m, w.heap.size ≤ p ∧ w.heap.size ≤ b ∧ w.heap.size ≤ m ∧ e = .returned (.tuple #[.pointer (some ⟨p, 0, .none⟩), .nilIface]) ∧ Ram w' p b m n (newB (n - 1)) (down (n - 1)) ∧ Below w.heap.size w w'
end Go.Proofs.Ytejongfipfefpaa
