import Derived.Test.YthopgmmodldljaaCb
namespace Go.Proofs.Ythopgmmodldljaa
open Go Go.RowKit
set_option linter.unusedVariables false
set_option linter.unusedSimpArgs false
theorem below_drewN (B : Nat) (w : World) : ∀ j, Below B w (w.drewN j)
  | 0 => Below.refl _ _
  | j + 1 => (below_drewN B w j).drew
set_option maxHeartbeats 1000000 in
theorem sameWords_eq {w : World} {X Y : Nat} {u v : Value} {l : List Int} (h1 : Sl w X 1 (qI .u64) u l) (h2 : Sl w Y 1 (qI .u64) v l) (hn : l.length ≤ 10000000) : Calls Try.prog 26 #[u, v] w fun e w' => e = .returned (.bool true) ∧ Below w.heap.size w w' := by
  obtain ⟨p1, c1, rfl⟩ := h1.form
  obtain ⟨p2, c2, rfl⟩ := h2.form
  obtain ⟨n, hnl⟩ : ∃ n, n = l.length := ⟨_, rfl⟩
  rw [← hnl] at h1 h2 hn ⊢
  have H1 : Hid (Sl w X 1 (qI .u64) (.slice p1 n c1) l) := h1
  have H2 : Hid (Sl w Y 1 (qI .u64) (.slice p2 n c2) l) := h2
  clear h1 h2 hnl
  go_enter Try.func26, Try.ntmps26
  go_wp2
  go_loopw [5] (fun k wr => ∃ i : Nat, i ≤ n ∧ k = .int .i64 i ∧ ∃ j, wr = w.drewN j) (fun k _ => (n - intOf k).toNat)
  case atStart => exact ⟨0, by omega, rfl, 0, rfl⟩
  case round =>
    obtain ⟨i, hi, rfl, j, rfl⟩ := hrel
    by_cases hlt : i < n
    · have g0 : (i : Int) < n := by omega
      obtain ⟨-, b1, o1, x, cs, rfl, _, hx, rfl, _, hr1⟩ := H1.out.at hlt
      obtain ⟨-, b2, o2, x2, cs2, rfl, _, hx2, rfl, _, hr2⟩ := H2.out.at hlt
      rw [hx] at hx2
      injection hx2 with hx2
      subst hx2
      have a0 := hr1 0 _ rfl
      have b0 := hr2 0 _ rfl
      rw [Nat.mul_one, Nat.add_zero] at a0 b0
      clear hx hr1 hr2
      go_wp2
      go_region
      go_wp2
      exact ⟨⟨i + 1, by omega, rfl, j + 1, rfl⟩, by simp only [intOf]; omega⟩
    · obtain rfl : i = n := by omega
      have g0 : ¬ (i : Int) < i := by omega
      clear hi hlt
      go_wp2
      go_ret
      exact ⟨rfl, below_drewN _ _ _⟩
set_option maxHeartbeats 1000000 in
theorem sameInts_eq {w : World} {X Y : Nat} {u v : Value} {l : List Int} (h1 : Sl w X 1 (qI .i64) u l) (h2 : Sl w Y 1 (qI .i64) v l) (hn : l.length ≤ 10000000) : Calls Try.prog 25 #[u, v] w fun e w' => e = .returned (.bool true) ∧ Below w.heap.size w w' := by
  obtain ⟨p1, c1, rfl⟩ := h1.form
  obtain ⟨p2, c2, rfl⟩ := h2.form
  obtain ⟨n, hnl⟩ : ∃ n, n = l.length := ⟨_, rfl⟩
  rw [← hnl] at h1 h2 hn ⊢
  have H1 : Hid (Sl w X 1 (qI .i64) (.slice p1 n c1) l) := h1
  have H2 : Hid (Sl w Y 1 (qI .i64) (.slice p2 n c2) l) := h2
  clear h1 h2 hnl
  go_enter Try.func25, Try.ntmps25
  go_wp2
  go_loopw [5] (fun k wr => ∃ i : Nat, i ≤ n ∧ k = .int .i64 i ∧ ∃ j, wr = w.drewN j) (fun k _ => (n - intOf k).toNat)
  case atStart => exact ⟨0, by omega, rfl, 0, rfl⟩
  case round =>
    obtain ⟨i, hi, rfl, j, rfl⟩ := hrel
    by_cases hlt : i < n
    · have g0 : (i : Int) < n := by omega
      obtain ⟨-, b1, o1, x, cs, rfl, _, hx, rfl, _, hr1⟩ := H1.out.at hlt
      obtain ⟨-, b2, o2, x2, cs2, rfl, _, hx2, rfl, _, hr2⟩ := H2.out.at hlt
      rw [hx] at hx2
      injection hx2 with hx2
      subst hx2
      have a0 := hr1 0 _ rfl
      have b0 := hr2 0 _ rfl
      rw [Nat.mul_one, Nat.add_zero] at a0 b0
      clear hx hr1 hr2
      go_wp2
      go_region
      go_wp2
      exact ⟨⟨i + 1, by omega, rfl, j + 1, rfl⟩, by simp only [intOf]; omega⟩
    · obtain rfl : i = n := by omega
      have g0 : ¬ (i : Int) < i := by omega
      clear hi hlt
      go_wp2
      go_ret
      exact ⟨rfl, below_drewN _ _ _⟩
end Go.Proofs.Ythopgmmodldljaa
