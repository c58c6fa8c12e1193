import Derived.Test.YthopgmmodldljaaCf
namespace Go.Proofs.Ythopgmmodldljaa
open Go Go.RowKit
set_option linter.unusedVariables false
set_option linter.unusedSimpArgs false
set_option maxHeartbeats 1000000 in
theorem samePipe_eq (x : Pp) (X Y : Nat) (p1 p2 : Option Addr) (n c1 c2 : Nat) (w : World) (h1 : Bt w X (.slice p1 n c1) x.bs) (h2 : Bt w Y (.slice p2 n c2) x.bs) (hX : X ≤ w.heap.size) (hY : Y ≤ w.heap.size) (hn : x.bs.length ≤ 10000000) : Calls Try.prog 52 #[.agg (x.l (.slice p1 n c1)).toArray, .agg (x.l (.slice p2 n c2)).toArray] w fun e w' => e = .returned (.bool true) ∧ Below w.heap.size w w' := by
  obtain ⟨x0, bs, x2, x3, x4, x5⟩ := x
  have H1 : Hid (Bt w X (.slice p1 n c1) bs ∧ Bt w Y (.slice p2 n c2) bs ∧ bs.length ≤ 10000000) := ⟨h1, h2, hn⟩
  clear h1 h2 hn
  go_enter Try.func52, Try.ntmps52
  go_wp2_with (first
    | (refine wpList_is (.box 98 (.tmp 0)) rfl ?_; refine wpList_boxG 98 [.int .i64 x0, .slice p1 n c1, .int .u32 x2, .int .u32 x3, .bool x4, .bool x5] 2 (.tmp 0) _ rfl rfl rfl rfl ?_; intro W1 hW1 hB1 hs1)
    | (refine wpList_is (.box 98 (.tmp 1)) rfl ?_; refine wpList_boxG 98 [.int .i64 x0, .slice p2 n c2, .int .u32 x2, .int .u32 x3, .bool x4, .bool x5] 3 (.tmp 1) _ rfl rfl rfl rfl ?_; intro W2 hW2 hB2 hs2; rw [hs1] at hW2 hs2; have hW3 := (hB2.block _ (by omega)).trans hW1; have d0 := cell_heap (o := 0) hW3; have d1 := cell_heap (o := 1) hW3; have d2 := cell_heap (o := 2) hW3; have d3 := cell_heap (o := 3) hW3; have d4 := cell_heap (o := 4) hW3; have d5 := cell_heap (o := 5) hW3; have f0 := cell_heap (o := 0) hW2; have f1 := cell_heap (o := 1) hW2; have f2 := cell_heap (o := 2) hW2; have f3 := cell_heap (o := 3) hW2; have f4 := cell_heap (o := 4) hW2; have f5 := cell_heap (o := 5) hW2)
    | fail)
  obtain ⟨W4, hW4⟩ : ∃ W4, W4 = (W2.alloc (.cells #[.slice p1 n c1, .int .u32 x2, .int .u32 x3, .bool x4, .bool x5] 96)).alloc (.cells #[.slice p2 n c2, .int .u32 x2, .int .u32 x3, .bool x4, .bool x5] 96) := ⟨_, rfl⟩
  have b4 : Below w.heap.size w W4 := by rw [hW4]; exact (((hB1.trans (hB2.mono (by omega))).alloc (by omega) _).alloc (by simp; omega) _)
  have s4 : W4.heap.size = w.heap.size + 4 := by rw [hW4]; simp; omega
  have k1 : W4.heap[w.heap.size + 1 + 1]? = some (.cells #[.slice p1 n c1, .int .u32 x2, .int .u32 x3, .bool x4, .bool x5] 96) := by
    rw [hW4, Below.heap_alloc _ _ _ (by simp; omega), ← hs2]; show (W2.heap.push _)[W2.heap.size]? = _; simp
  have k2 : W4.heap[w.heap.size + 1 + 1 + 1]? = some (.cells #[.slice p2 n c2, .int .u32 x2, .int .u32 x3, .bool x4, .bool x5] 96) := by
    rw [hW4, ← hs2]; show ((W2.heap.push _).push _)[W2.heap.size + 1]? = _; rw [Array.getElem?_push, if_pos (by simp)]
  rw [← hW4]
  refine (sameBytes_eq (Sl.mono H1.out.1 (X' := X) (by omega) (b4.mono (by omega)) (fun _ _ _ q => q)) (Sl.mono H1.out.2.1 (X' := Y) (by omega) (b4.mono (by omega)) (fun _ _ _ q => q)) H1.out.2.2).mono ?_
  rintro e W5 ⟨rfl, hB5⟩
  have hk1 := (hB5.block _ (by omega)).trans k1
  have hk2 := (hB5.block _ (by omega)).trans k2
  have d6 := cell_heap (o := 1) hk1; have d7 := cell_heap (o := 2) hk1; have d8 := cell_heap (o := 3) hk1; have d9 := cell_heap (o := 4) hk1
  have f6 := cell_heap (o := 1) hk2; have f7 := cell_heap (o := 2) hk2; have f8 := cell_heap (o := 3) hk2; have f9 := cell_heap (o := 4) hk2
  go_wp2
  go_ret
  exact ⟨rfl, b4.trans (hB5.mono (by omega))⟩
end Go.Proofs.Ythopgmmodldljaa
