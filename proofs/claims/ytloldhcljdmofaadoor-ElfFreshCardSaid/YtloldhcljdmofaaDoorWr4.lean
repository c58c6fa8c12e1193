import Derived.Test.YtloldhcljdmofaaDoorWr2
namespace Go.Proofs.YtloldhcljdmofaaDoor
open Go.RowKit
set_option linter.unusedVariables false
set_option linter.unusedSimpArgs false
/-- A program's segments as they lie in a row: where, flags, bytes, memory. -/
structure Sr where
  va : Int
  fl : Int
  q : Option Addr
  n : Nat
  c : Nat
  mem : Int
structure Sgs (w : World) (b o : Nat) (S : Nat → Sr) (m : Nat) : Prop where
  c0 : ∀ i, i < m → w.cell? ⟨b, o + i * 4, .none⟩ = some (.int .u64 (S i).va)
  c1 : ∀ i, i < m → w.cell? ⟨b, o + i * 4 + 1, .none⟩ = some (.int .u32 (S i).fl)
  c2 : ∀ i, i < m → w.cell? ⟨b, o + i * 4 + 2, .none⟩ = some (.slice (S i).q (S i).n (S i).c)
  c3 : ∀ i, i < m → w.cell? ⟨b, o + i * 4 + 3, .none⟩ = some (.int .u64 (S i).mem)
theorem Sgs.below {w w' : World} {b o m : Nat} {S : Nat → Sr} (h : Sgs w b o S m) (k : Below w.heap.size w w') : Sgs w' b o S m :=
  ⟨fun i hi => (k.cell (lt_of_cell (h.c0 i hi))).trans (h.c0 i hi), fun i hi => (k.cell (lt_of_cell (h.c1 i hi))).trans (h.c1 i hi), fun i hi => (k.cell (lt_of_cell (h.c2 i hi))).trans (h.c2 i hi), fun i hi => (k.cell (lt_of_cell (h.c3 i hi))).trans (h.c3 i hi)⟩
def sumN (S : Nat → Sr) : Nat → Nat
  | 0 => 0
  | i + 1 => sumN S i + (S i).n
theorem sum_le (S : Nat → Sr) (m : Nat) (hn : ∀ i, i < m → (S i).n ≤ 1073741824 ∧ (S i).n ≤ (S i).c ∧ (S i).c ≤ 9223372036854775807) : ∀ i, i ≤ m → sumN S i ≤ i * 1073741824
  | 0, _ => by simp [sumN]
  | i + 1, h => by
    have := sum_le S m hn i (by omega)
    have := (hn i (by omega)).1
    simp only [sumN]
    omega
set_option maxHeartbeats 1000000 in
theorem fileSize_any (b o m c : Nat) (S : Nat → Sr) (w : World) (h : Sgs w b o S m) (hm : m ≤ 8) (hc : m ≤ c ∧ c ≤ 9223372036854775807) (hn : ∀ i, i < m → (S i).n ≤ 1073741824 ∧ (S i).n ≤ (S i).c ∧ (S i).c ≤ 9223372036854775807) :
    Calls Tryd.prog 21 #[.slice (some ⟨b, o, .none⟩) m c] w fun e w' => e = .returned (.int .u64 (64 + 56 * m + sumN S m)) ∧ Below w.heap.size w w' := by
  have c20 := fun w' => begin_any (some ⟨b, o, .none⟩) m c w' (by omega) hc
  have HG : Hid (Sgs w b o S m) := h
  clear h
  go_enter Tryd.func21, Tryd.ntmps21
  go_wp2_with (first | (go_at_call 43; refine (c20 _).mono ?_; rintro e w1 ⟨rfl, hw1⟩; rw [hw1]; clear hw1 w1) | fail)
  go_loopw [3, 10] (fun a k wr => ∃ i : Nat, i ≤ m ∧ k = .int .i64 i ∧ a = .int .u64 (64 + 56 * m + sumN S i) ∧ Hid (Below w.heap.size w wr)) (fun _ k _ => (m - intOf k).toNat)
  case atStart => exact ⟨0, by omega, rfl, by simp [sumN], Below.refl _ _⟩
  case round =>
    obtain ⟨i, hi, rfl, rfl, HS⟩ := hrel
    by_cases hlt : i < m
    · have g0 : (i : Int) < m := by omega
      have hg := HG.out.below HS.out
      have r0 := hg.c0 i hlt
      have r1 := hg.c1 i hlt
      have r2 := hg.c2 i hlt
      have r3 := hg.c3 i hlt
      clear hg
      have hb := hn i hlt
      have hs := sum_le S m hn i hi
      have hs2 : sumN S (i + 1) = sumN S i + (S i).n := rfl
      have HN : Hid (Below w.heap.size w (wr.alloc (.cells #[.int .u64 (S i).va, .int .u32 (S i).fl, .slice (S i).q (S i).n (S i).c, .int .u64 (S i).mem] 54))) := HS.out.alloc HS.out.size _
      go_wp2_with fail
      exact ⟨⟨i + 1, by omega, by simp, by rw [hs2]; congr 1; push_cast; omega, HN⟩, by simp [intOf]; omega⟩
    · have he : i = m := by omega
      have hn9 : ¬ ((i : Int) < m) := by omega
      subst he
      go_wp2_with fail
      go_ret
      exact ⟨rfl, HS.out⟩
end Go.Proofs.YtloldhcljdmofaaDoor
