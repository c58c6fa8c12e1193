import Derived.Test.YthopgmmodldljaaCc
namespace Go.Proofs.Ythopgmmodldljaa
open Go Go.RowKit
set_option linter.unusedVariables false
set_option linter.unusedSimpArgs false
set_option maxHeartbeats 1000000 in
theorem sameBytes_eq {w : World} {X Y : Nat} {u v : Value} {l : List Int} (h1 : Sl w X 1 (qI .u8) u l) (h2 : Sl w Y 1 (qI .u8) v l) (hn : l.length ≤ 10000000) : Calls Try.prog 49 #[u, v] w fun e w' => e = .returned (.bool true) ∧ Below w.heap.size w w' := by
  obtain ⟨p1, c1, rfl⟩ := h1.form
  obtain ⟨p2, c2, rfl⟩ := h2.form
  obtain ⟨n, hnl⟩ : ∃ n, n = l.length := ⟨_, rfl⟩
  rw [← hnl] at h1 h2 hn ⊢
  have H1 : Hid (Sl w X 1 (qI .u8) (.slice p1 n c1) l) := h1
  have H2 : Hid (Sl w Y 1 (qI .u8) (.slice p2 n c2) l) := h2
  clear h1 h2 hnl
  go_enter Try.func49, Try.ntmps49
  go_wp2
  go_loopw [5] (fun k wr => ∃ i : Nat, i ≤ n ∧ k = .int .i64 i ∧ ∃ j, wr = w.drewN j) (fun k _ => (n - intOf k).toNat)
  case atStart => exact ⟨0, by omega, rfl, 0, rfl⟩
  case round =>
    obtain ⟨i, hi, rfl, j, rfl⟩ := hrel
    by_cases hlt : i < n
    · have g0 : (i : Int) < n := by omega
      obtain ⟨-, b1, o1, x, cs, rfl, _, hx, rfl, _, hr1⟩ := H1.out.at hlt
      obtain ⟨-, b2, o2, x2, cs2, rfl, _, hx2, rfl, _, hr2⟩ := H2.out.at hlt
      rw [hx] at hx2
      injection hx2 with hx2
      subst hx2
      have a0 := hr1 0 _ rfl
      have b0 := hr2 0 _ rfl
      rw [Nat.mul_one, Nat.add_zero] at a0 b0
      clear hx hr1 hr2
      go_wp2
      go_region
      go_wp2
      exact ⟨⟨i + 1, by omega, rfl, j + 1, rfl⟩, by simp only [intOf]; omega⟩
    · obtain rfl : i = n := by omega
      have g0 : ¬ (i : Int) < i := by omega
      clear hi hlt
      go_wp2
      go_ret
      exact ⟨rfl, below_drewN _ _ _⟩
set_option maxHeartbeats 1000000 in
theorem sameInode_eq (x : In) (p1 p2 : Option Addr) (n c1 c2 : Nat) (w : World) : Calls Try.prog 51 #[.agg (x.l (.slice p1 n c1)).toArray, .agg (x.l (.slice p2 n c2)).toArray] w fun e w' => e = .returned (.bool true) ∧ Below w.heap.size w w' := by
  obtain ⟨x0, x1, x2, x3, x4, x5, x6, x7⟩ := x
  go_enter Try.func51, Try.ntmps51
  go_wp2_with (first
    | (refine wpList_is (.box 66 (.tmp 0)) rfl ?_; refine wpList_boxG 66 [.int .i64 x0, .int .i64 x1, .int .i16 x2, .int .i16 x3, .int .i64 x4, .int .i64 x5, .int .i64 x6, .slice p1 n c1] 2 (.tmp 0) _ rfl rfl rfl rfl ?_; intro W1 hW1 hB1 hs1)
    | (refine wpList_is (.box 66 (.tmp 1)) rfl ?_; refine wpList_boxG 66 [.int .i64 x0, .int .i64 x1, .int .i16 x2, .int .i16 x3, .int .i64 x4, .int .i64 x5, .int .i64 x6, .slice p2 n c2] 3 (.tmp 1) _ rfl rfl rfl rfl ?_; intro W2 hW2 hB2 hs2; rw [hs1] at hW2; have hW3 := (hB2.block _ (by omega)).trans hW1; have d0 := cell_heap (o := 0) hW3; have d1 := cell_heap (o := 1) hW3; have d2 := cell_heap (o := 2) hW3; have d3 := cell_heap (o := 3) hW3; have d4 := cell_heap (o := 4) hW3; have d5 := cell_heap (o := 5) hW3; have d6 := cell_heap (o := 6) hW3; have d7 := cell_heap (o := 7) hW3; have f0 := cell_heap (o := 0) hW2; have f1 := cell_heap (o := 1) hW2; have f2 := cell_heap (o := 2) hW2; have f3 := cell_heap (o := 3) hW2; have f4 := cell_heap (o := 4) hW2; have f5 := cell_heap (o := 5) hW2; have f6 := cell_heap (o := 6) hW2; have f7 := cell_heap (o := 7) hW2)
    | fail)
  go_ret
  exact ⟨rfl, hB1.trans (hB2.mono (by omega))⟩
end Go.Proofs.Ythopgmmodldljaa
