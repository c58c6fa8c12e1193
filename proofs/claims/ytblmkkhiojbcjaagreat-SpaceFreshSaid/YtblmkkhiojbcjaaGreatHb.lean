import Derived.Test.YtblmkkhiojbcjaaGreatUl
import Derived.Test.YtblmkkhiojbcjaaGreatEu
namespace Go.Proofs.YtblmkkhiojbcjaaGreat.Fz
open Go.RowKit
set_option linter.unusedVariables false
set_option linter.unusedSimpArgs false
set_option maxHeartbeats 1000000 in
theorem copyB_any {w : World} {n ca : Nat} {qa : Option Addr} {R : Nat → Int} (hn : n ≤ 1000000000) (ha : See w .u8 qa n R) : Calls Tryz.prog 20 #[.slice qa n ca] w fun e w' => CopyRB w n R e w' := by
  obtain ⟨j0, hj0, hjz, hj1, hj2⟩ := infoB'
  go_enter Tryz.func20, Tryz.ntmps20
  go_wp2
  go_loopw [3, 4] (fun v3 v4 wr => CRelB w n R v3 v4 wr) (fun _ v4 _ => n - (intOf v4).toNat)
  case atStart => exact ⟨0, .none, 0, by omega, rfl, rfl, World.ownsRow_nil _ _ _ _, Below.refl _ _⟩
  case round =>
    obtain ⟨i, q, c, hi, rfl, rfl, hO, hB⟩ := hrel
    have HB : Hid (Below w.heap.size w wr) := hB
    have HO : Hid (wr.ownsRow w.heap.size 5 1 (.slice q i c) i ((List.range i).map fun i => .int .u8 (R i))) := hO
    by_cases hin : i < n
    · rcases ha with h | ⟨g1, o1, rfl, hg1, r1⟩
      · omega
      have i1 : (i : Int) < n := by omega
      have k0 := (hB.cell (p := ⟨g1, o1 + i, .none⟩) hg1).trans (r1 i hin)
      have HOA : Hid (∀ o, (wr.alloc o).ownsRow w.heap.size 5 1 (.slice q i c) i ((List.range i).map fun i => .int .u8 (R i))) := fun o => hO.alloc o
      have HX : Hid (∃ x, x = R i) := ⟨_, rfl⟩
      obtain ⟨x, hx⟩ := HX.out
      have Hx : Hid (x = R i) := hx
      rw [← hx] at k0
      clear hB r1 hO hx HX
      go_wp2_with (first | (at_builtin; refine wpList_append_own _ rfl _ _ 24 rfl w.heap.size 5 j0 (.int .u8 0) 1 1 Tryz.underlying24 hj0 hjz hj1 hj2 rfl (by decide) _ _ ((List.range i).map fun i => .int .u8 (R i)) rfl (HOA.out _) ⟨wr.heap.size, 0, .none⟩ 1 1 [.int .u8 x] rfl rfl (cell_one_new _ _ _) (by simp [Value.oneCell']) (by unfold maxLen; omega) (by omega) (by simp only [World.size_alloc]; exact Nat.le_succ_of_le HB.out.size) ?_; intro v' w5 hown5 hgrow _) | fail)
      have hBA : Below w.heap.size w (wr.alloc (.cells #[.int .u8 x] 5)) := HB.out.alloc HB.out.size _
      have hB5 : Below w.heap.size w w5 := hBA.grown hgrow hBA.size (fun k hk => ((HO.out.lt k hk)).1)
      obtain ⟨g2, cap2, rfl⟩ := ownsRow_some hown5
      refine ⟨⟨i + 1, _, _, by omega, rfl, by simp, ?_, hB5⟩, by simp [intOf]; omega⟩
      rw [List.range_succ, List.map_append, List.map_singleton, ← Hx.out]
      exact hown5
    · have i1 : ¬ ((i : Int) < n) := by omega
      clear hB ha hO
      have hin' : i = n := by omega
      have HP : Hid (CopyRB w n R (.returned (.slice q i c)) wr) := by subst hin'; exact ⟨q, c, rfl, HO.out, HB.out⟩
      clear hin'
      go_wp2
      go_ret
      exact HP.out
end Go.Proofs.YtblmkkhiojbcjaaGreat.Fz
