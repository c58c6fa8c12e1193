import Derived.Test.YtejongfipfefpaaImg
import Derived.Deep.RegionHeld3
namespace Go.Proofs.Ytejongfipfefpaa
open Go.RowKit
set_option linter.unusedVariables false
set_option linter.unusedSimpArgs false
/-- A slice's numbers, each where it lies. -/
def See (w : World) (k : IntKind) (q : Option Addr) (n : Nat) (R : Nat → Int) : Prop := n = 0 ∨ ∃ g o, q = some ⟨g, o, .none⟩ ∧ g < w.heap.size ∧ ∀ i, i < n → w.cell? ⟨g, o + i, .none⟩ = some (.int k (R i))
theorem See.below {w w' : World} {k : IntKind} {q : Option Addr} {n : Nat} {R : Nat → Int} (h : See w k q n R) (b : Below w.heap.size w w') : See w' k q n R := by
  rcases h with h | ⟨g, o, hq, hg, hr⟩
  · exact .inl h
  · exact .inr ⟨g, o, hq, Nat.lt_of_lt_of_le hg b.size, fun i hi => (b.cell (p := ⟨g, o + i, .none⟩) hg).trans (hr i hi)⟩
set_option maxHeartbeats 281474976710656 in
theorem bytes_same {w : World} {n ca cb : Nat} {qa qb : Option Addr} {R : Nat → Int} (hn : n ≤ 281474976710656) (ha : See w .u8 qa n R) (hb : See w .u8 qb n R) : Calls Try.prog 27 #[.slice qa n ca, .slice qb n cb] w fun e w' => e = .returned (.bool true) ∧ Below w.heap.size w w' := by
  go_enter Try.func27, Try.ntmps27
  go_wp2
  go_loopw [5] (fun k wr => ∃ i : Nat, i ≤ n ∧ k = .int .i64 i ∧ Below w.heap.size w wr) (fun k _ => n - (intOf k).toNat)
  case atStart => exact ⟨0, by omega, rfl, Below.refl _ _⟩
  case round =>
    obtain ⟨i, hi, rfl, hB⟩ := hrel
    have HB : Hid (Below w.heap.size w wr) := hB
    by_cases hin : i < n
    · rcases ha with h | ⟨g1, o1, rfl, hg1, r1⟩
      · omega
      rcases hb with h | ⟨g2, o2, rfl, hg2, r2⟩
      · omega
      have i1 : (i : Int) < n := by omega
      have k0 := (hB.cell (p := ⟨g1, o1 + i, .none⟩) hg1).trans (r1 i hin)
      have k1 := (hB.cell (p := ⟨g2, o2 + i, .none⟩) hg2).trans (r2 i hin)
      clear hB r1 r2
      generalize R i = x at *
      go_wp2
      go_quiet (fail)
      go_wp2
      exact ⟨⟨i + 1, by omega, by simp, below_drewN HB.out _⟩, by simp [intOf]; omega⟩
    · have i1 : ¬ ((i : Int) < n) := by omega
      clear hB ha hb
      go_wp2
      go_ret
      exact ⟨rfl, HB.out⟩
/-- A copy's row, new. -/
def CopyRB (w : World) (n : Nat) (R : Nat → Int) (e : Ending) (w' : World) : Prop := ∃ q c, e = .returned (.slice q n c) ∧ w'.ownsRow w.heap.size 5 1 (.slice q n c) n ((List.range n).map fun i => .int .u8 (R i)) ∧ Below w.heap.size w w'
def CRelB (w : World) (n : Nat) (R : Nat → Int) (v3 v4 : Value) (wr : World) : Prop := ∃ (i : Nat) (q : Option Addr) (c : Nat), i ≤ n ∧ v3 = .slice q i c ∧ v4 = .int .i64 i ∧ wr.ownsRow w.heap.size 5 1 (.slice q i c) i ((List.range i).map fun i => .int .u8 (R i)) ∧ Below w.heap.size w wr
/-- A copy's row, new. -/
def CopyRW (w : World) (n : Nat) (R : Nat → Int) (e : Ending) (w' : World) : Prop := ∃ q c, e = .returned (.slice q n c) ∧ w'.ownsRow w.heap.size 26 1 (.slice q n c) n ((List.range n).map fun i => .int .u64 (R i)) ∧ Below w.heap.size w w'
def CRelW (w : World) (n : Nat) (R : Nat → Int) (v3 v4 : Value) (wr : World) : Prop := ∃ (i : Nat) (q : Option Addr) (c : Nat), i ≤ n ∧ v3 = .slice q i c ∧ v4 = .int .i64 i ∧ wr.ownsRow w.heap.size 26 1 (.slice q i c) i ((List.range i).map fun i => .int .u64 (R i)) ∧ Below w.heap.size w wr
end Go.Proofs.Ytejongfipfefpaa
