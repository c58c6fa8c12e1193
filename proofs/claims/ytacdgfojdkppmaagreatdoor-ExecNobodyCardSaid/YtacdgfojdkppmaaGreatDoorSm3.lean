import Derived.Test.YtacdgfojdkppmaaGreatDoorSm2
import Derived.Test.YtacdgfojdkppmaaGreatDoorRq7
namespace Go.Proofs.YtacdgfojdkppmaaGreatDoor
open Go.RowKit
set_option linter.unusedVariables false
set_option linter.unusedSimpArgs false
set_option maxRecDepth 10000 in
set_option maxHeartbeats 1000000 in
theorem small_any (w : World) : Calls Tryz.prog 11 #[] w fun e w' => ∃ q c, e = .returned (.slice q 124 c) ∧ Byt w' q 124 c smF ∧ Below w.heap.size w w' := by
  obtain ⟨w1, hw1⟩ : ∃ w1, w1 = (w.alloc (.cells #[.int .u8 115, .int .u8 0, .int .u8 0, .int .u8 0] 5)).alloc (.cells #[.int .u64 0, .int .u32 5, .slice (some ⟨w.heap.size, 0, .none⟩) 4 4, .int .u64 4] 61) := ⟨_, rfl⟩
  have hS : Sm w1 (w.heap.size + 1) w.heap.size := by
    rw [hw1]
    exact ⟨by simp, by simp, by simp, by simp, by simp, by simp, by simp, by simp⟩
  have b1 : Below w.heap.size w w1 := by rw [hw1]; exact ((Below.refl _ _).alloc (Nat.le_refl _) _).alloc (by simp) _
  have c32 := writeS_any hS
  rw [hw1] at c32
  have HB : Hid (Below w.heap.size w w1 ∧ w1 = (w.alloc (.cells #[.int .u8 115, .int .u8 0, .int .u8 0, .int .u8 0] 5)).alloc (.cells #[.int .u64 0, .int .u32 5, .slice (some ⟨w.heap.size, 0, .none⟩) 4 4, .int .u64 4] 61)) := ⟨b1, hw1⟩
  clear hS b1 hw1
  go_enter Tryz.func11, Tryz.ntmps11
  go_wp2_with (go_at_call 32; refine c32.mono ?_; rintro _ w2 ⟨q, c, rfl, h2, b2⟩; rw [← HB.out.2] at b2; have H2 : Hid (Byt w2 q 124 c smF ∧ Below w.heap.size w w2) := ⟨h2, HB.out.1.trans (b2.mono HB.out.1.size)⟩; clear h2 b2 c32)
  go_ret
  have ba : Below w2.heap.size w2 (w2.alloc (.cells #[.slice .none 0 0, .int .i64 0] 86)) := (Below.refl _ _).alloc (Nat.le_refl _) _
  exact ⟨q, c, rfl, bytU H2.out.1 ba, H2.out.2.trans (ba.mono H2.out.2.size)⟩
/-- The file's bytes, by place. -/
def smB : Nat → Int := fun i => smF.getD i 0
theorem smB_bd (i : Nat) : 0 ≤ smB i ∧ smB i < 256 := by
  by_cases h : i < 124
  · have : ∀ i, i < 124 → 0 ≤ smB i ∧ smB i < 256 := by decide +kernel
    exact this i h
  · have hl : smF.length = 124 := by decide +kernel
    unfold smB
    rw [List.getD_eq_getElem?_getD, List.getElem?_eq_none (by omega)]
    simp
def smG : Sg := ⟨0, 5, 4, 120, 4⟩
theorem smB_rd : rdF 124 smB 0 0 = ((0, 0), [smG]) := by kernel_rfl
theorem smB_hd : Hd smB 0 0 := by
  refine .inl ⟨rfl, rfl, ?_⟩
  unfold chk
  decide +kernel
end Go.Proofs.YtacdgfojdkppmaaGreatDoor
