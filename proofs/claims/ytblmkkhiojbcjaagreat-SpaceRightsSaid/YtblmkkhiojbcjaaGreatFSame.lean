import Derived.Test.YtblmkkhiojbcjaaGreatFFreeM
import Derived.Deep.RegionHeld3
namespace Go.Proofs.YtblmkkhiojbcjaaGreat.Fz
open Go.RowKit
set_option linter.unusedVariables false
set_option linter.unusedSimpArgs false
/-- A slice's numbers, each where it lies. -/
def See (w : World) (k : IntKind) (q : Option Addr) (n : Nat) (R : Nat → Int) : Prop := n = 0 ∨ ∃ g o, q = some ⟨g, o, .none⟩ ∧ g < w.heap.size ∧ ∀ i, i < n → w.cell? ⟨g, o + i, .none⟩ = some (.int k (R i))
theorem See.below {w w' : World} {k : IntKind} {q : Option Addr} {n : Nat} {R : Nat → Int} (h : See w k q n R) (b : Below w.heap.size w w') : See w' k q n R := by
  rcases h with h | ⟨g, o, hq, hg, hr⟩
  · exact .inl h
  · exact .inr ⟨g, o, hq, Nat.lt_of_lt_of_le hg b.size, fun i hi => (b.cell (p := ⟨g, o + i, .none⟩) hg).trans (hr i hi)⟩
/-- A copy's row, new. -/
def CopyRB (w : World) (n : Nat) (R : Nat → Int) (e : Ending) (w' : World) : Prop := ∃ q c, e = .returned (.slice q n c) ∧ w'.ownsRow w.heap.size 5 1 (.slice q n c) n ((List.range n).map fun i => .int .u8 (R i)) ∧ Below w.heap.size w w'
def CRelB (w : World) (n : Nat) (R : Nat → Int) (v3 v4 : Value) (wr : World) : Prop := ∃ (i : Nat) (q : Option Addr) (c : Nat), i ≤ n ∧ v3 = .slice q i c ∧ v4 = .int .i64 i ∧ wr.ownsRow w.heap.size 5 1 (.slice q i c) i ((List.range i).map fun i => .int .u8 (R i)) ∧ Below w.heap.size w wr
/-- A copy's row, new. -/
def CopyRW (w : World) (n : Nat) (R : Nat → Int) (e : Ending) (w' : World) : Prop := ∃ q c, e = .returned (.slice q n c) ∧ w'.ownsRow w.heap.size 23 1 (.slice q n c) n ((List.range n).map fun i => .int .u64 (R i)) ∧ Below w.heap.size w w'
def CRelW (w : World) (n : Nat) (R : Nat → Int) (v3 v4 : Value) (wr : World) : Prop := ∃ (i : Nat) (q : Option Addr) (c : Nat), i ≤ n ∧ v3 = .slice q i c ∧ v4 = .int .i64 i ∧ wr.ownsRow w.heap.size 23 1 (.slice q i c) i ((List.range i).map fun i => .int .u64 (R i)) ∧ Below w.heap.size w wr
theorem ownsRow_some {W : World} {base e size k : Nat} {v : Value} {xs : List Value} (h : W.ownsRow base e size v (k + 1) xs) : ∃ g cap, v = .slice (some ⟨g, 0, .none⟩) (k + 1) cap := by
  rcases h.2 with ⟨_, h0⟩ | ⟨g, cap, _, rfl, _⟩
  · omega
  · exact ⟨g, cap, rfl⟩
theorem info28' : ∃ i, Tryz.prog.info? 23 = some i ∧ i.zero = some (.int .u64 0) ∧ i.size = 1 ∧ i.bytes = 8 := by
  have h : (Tryz.prog.info? 23).map (fun i => (i.zero, i.size, i.bytes)) = some (some (.int .u64 0), 1, 8) := by kernel_rfl
  cases hq : Tryz.prog.info? 23 with
  | none => rw [hq] at h; cases h
  | some i =>
    rw [hq] at h
    simp only [Option.map_some, Option.some.injEq, Prod.mk.injEq] at h
    exact ⟨i, rfl, h⟩
set_option maxHeartbeats 1000000 in
theorem copyW_any {w : World} {n ca : Nat} {qa : Option Addr} {R : Nat → Int} (hn : n ≤ 1000000000) (ha : See w .u64 qa n R) : Calls Tryz.prog 22 #[.slice qa n ca] w fun e w' => CopyRW w n R e w' := by
  obtain ⟨j0, hj0, hjz, hj1, hj2⟩ := info28'
  go_enter Tryz.func22, Tryz.ntmps22
  go_wp2
  go_loopw [3, 4] (fun v3 v4 wr => CRelW w n R v3 v4 wr) (fun _ v4 _ => n - (intOf v4).toNat)
  case atStart => exact ⟨0, .none, 0, by omega, rfl, rfl, World.ownsRow_nil _ _ _ _, Below.refl _ _⟩
  case round =>
    obtain ⟨i, q, c, hi, rfl, rfl, hO, hB⟩ := hrel
    have HB : Hid (Below w.heap.size w wr) := hB
    have HO : Hid (wr.ownsRow w.heap.size 23 1 (.slice q i c) i ((List.range i).map fun i => .int .u64 (R i))) := hO
    by_cases hin : i < n
    · rcases ha with h | ⟨g1, o1, rfl, hg1, r1⟩
      · omega
      have i1 : (i : Int) < n := by omega
      have k0 := (hB.cell (p := ⟨g1, o1 + i, .none⟩) hg1).trans (r1 i hin)
      have HOA : Hid (∀ o, (wr.alloc o).ownsRow w.heap.size 23 1 (.slice q i c) i ((List.range i).map fun i => .int .u64 (R i))) := fun o => hO.alloc o
      have HX : Hid (∃ x, x = R i) := ⟨_, rfl⟩
      obtain ⟨x, hx⟩ := HX.out
      have Hx : Hid (x = R i) := hx
      rw [← hx] at k0
      clear hB r1 hO hx HX
      go_wp2_with (first | (at_builtin; refine wpList_append_own _ rfl _ _ 22 rfl w.heap.size 23 j0 (.int .u64 0) 1 8 Tryz.underlying22 hj0 hjz hj1 hj2 rfl (by decide) _ _ ((List.range i).map fun i => .int .u64 (R i)) rfl (HOA.out _) ⟨wr.heap.size, 0, .none⟩ 1 1 [.int .u64 x] rfl rfl (cell_one_new _ _ _) (by simp [Value.oneCell']) (by unfold maxLen; omega) (by omega) (by simp only [World.size_alloc]; exact Nat.le_succ_of_le HB.out.size) ?_; intro v' w5 hown5 hgrow _) | fail)
      have hBA : Below w.heap.size w (wr.alloc (.cells #[.int .u64 x] 23)) := HB.out.alloc HB.out.size _
      have hB5 : Below w.heap.size w w5 := hBA.grown hgrow hBA.size (fun k hk => ((HO.out.lt k hk)).1)
      obtain ⟨g2, cap2, rfl⟩ := ownsRow_some hown5
      refine ⟨⟨i + 1, _, _, by omega, rfl, by simp, ?_, hB5⟩, by simp [intOf]; omega⟩
      rw [List.range_succ, List.map_append, List.map_singleton, ← Hx.out]
      exact hown5
    · have i1 : ¬ ((i : Int) < n) := by omega
      clear hB ha hO
      have hin' : i = n := by omega
      have HP : Hid (CopyRW w n R (.returned (.slice q i c)) wr) := by subst hin'; exact ⟨q, c, rfl, HO.out, HB.out⟩
      clear hin'
      go_wp2
      go_ret
      exact HP.out
theorem words_same {w : World} {n ca cb : Nat} {qa qb : Option Addr} {R : Nat → Int} (hn : n ≤ 1000000000) (ha : See w .u64 qa n R) (hb : See w .u64 qb n R) : Calls Tryz.prog 25 #[.slice qa n ca, .slice qb n cb] w fun e w' => e = .returned (.bool true) ∧ Below w.heap.size w w' := by
  go_enter Tryz.func25, Tryz.ntmps25
  go_wp2
  go_loopw [5] (fun k wr => ∃ i : Nat, i ≤ n ∧ k = .int .i64 i ∧ Below w.heap.size w wr) (fun k _ => n - (intOf k).toNat)
  case atStart => exact ⟨0, by omega, rfl, Below.refl _ _⟩
  case round =>
    obtain ⟨i, hi, rfl, hB⟩ := hrel
    have HB : Hid (Below w.heap.size w wr) := hB
    by_cases hin : i < n
    · rcases ha with h | ⟨g1, o1, rfl, hg1, r1⟩
      · omega
      rcases hb with h | ⟨g2, o2, rfl, hg2, r2⟩
      · omega
      have i1 : (i : Int) < n := by omega
      have k0 := (hB.cell (p := ⟨g1, o1 + i, .none⟩) hg1).trans (r1 i hin)
      have k1 := (hB.cell (p := ⟨g2, o2 + i, .none⟩) hg2).trans (r2 i hin)
      clear hB r1 r2
      generalize R i = x at *
      go_wp2
      go_quiet (fail)
      go_wp2
      exact ⟨⟨i + 1, by omega, by simp, below_drewN HB.out _⟩, by simp [intOf]; omega⟩
    · have i1 : ¬ ((i : Int) < n) := by omega
      clear hB ha hb
      go_wp2
      go_ret
      exact ⟨rfl, HB.out⟩
end Go.Proofs.YtblmkkhiojbcjaaGreat.Fz
