import Derived.Test.YtblmkkhiojbcjaaGreatEt
import Derived.Maps.AppendAt
namespace Go.Proofs.YtblmkkhiojbcjaaGreat
open Go Go.RowKit Fz
set_option linter.unusedVariables false
set_option linter.unusedSimpArgs false
section
variable {w W W' : World} {s p b m N r P K : Nat} {B : Nat → Int} {L : List Nat} {F : Nat → Option Nat} {lf : Nat → Nat → Int} {fr : Nat → Nat} {c l : Nat → Int}
theorem SpG.keep (h : SpG W s p b m N r P K B L F lf fr c) (hs : W'.heap[s]? = W.heap[s]?) (hp : W'.heap[p]? = W.heap[p]?) (hb : W'.heap[b]? = W.heap[b]?) (hm : W'.heap[m]? = W.heap[m]?) : SpG W' s p b m N r P K B L F lf fr c := by
  have cs : ∀ i, W'.cell? ⟨s, i, .none⟩ = W.cell? ⟨s, i, .none⟩ := fun i => by simp only [World.cell?, hs]
  have fs : ∀ i, W'.frozen? ⟨s, i, .none⟩ = W.frozen? ⟨s, i, .none⟩ := fun i => by simp only [World.frozen?, hs]
  have hR : Ram W' p b m N B L := by
    have := h.su.ram
    exact ⟨this.mem.keep hp hb hm, this.nd, this.lt, this.thr⟩
  exact ⟨⟨⟨(cs 0).trans h.su.sp.c0, (cs 1).trans h.su.sp.c1, (cs 2).trans h.su.sp.c2, fun k => (fs k).trans (h.su.sp.fr k)⟩, h.su.sz, h.su.pm, hR, h.su.pt, h.su.rt, h.su.ne, h.su.pag⟩, h.zr, h.nod, h.len, h.inj⟩
theorem own_blk {base e size n : Nat} {v : Value} {xs : List Value} (h : W.ownsRow base e size v n xs) (hk : ∀ g, v.ownBlock = some g → g < W.heap.size → W'.heap[g]? = W.heap[g]?) : W'.ownsRow base e size v n xs := by
  refine ⟨h.1, ?_⟩
  rcases h.2 with h1 | ⟨g, cap, cur, h1, h2, h3, h4⟩
  · exact .inl h1
  · have hg : g < W.heap.size := by
      rcases Nat.lt_or_ge g W.heap.size with hh | hh
      · exact hh
      · rw [Array.getElem?_eq_none hh] at h3; cases h3
    exact .inr ⟨g, cap, cur, h1, h2, (hk g (by rw [h1]; rfl) hg).trans h3, h4⟩
/-- A page's right as the law keeps it, and as the leaf has it. -/
def pgO (x y : Int) : Prop := (rgt x ∧ y = x + 208) ∨ (x = 0 ∧ ∃ z, rdb z y)
theorem pgO_rd {x y : Int} (h : pgO x y) : hs y (wnt 1) = decide (bits .and .u64 x 2 ≠ 0) := by
  rcases h with ⟨h1, rfl⟩ | ⟨rfl, z, h1⟩
  · rcases h1 with rfl | rfl | rfl | rfl | rfl <;> decide
  · rcases h1 with ⟨rfl, rfl⟩ | ⟨rfl, rfl⟩ | ⟨rfl, rfl⟩ | ⟨rfl, rfl⟩ <;> decide
theorem pgO_wr {x y : Int} (h : pgO x y) : hs y (wnt 2) = decide (bits .and .u64 x 4 ≠ 0) := by
  rcases h with ⟨h1, rfl⟩ | ⟨rfl, z, h1⟩
  · rcases h1 with rfl | rfl | rfl | rfl | rfl <;> decide
  · rcases h1 with ⟨rfl, rfl⟩ | ⟨rfl, rfl⟩ | ⟨rfl, rfl⟩ | ⟨rfl, rfl⟩ <;> decide
/-- What the law has: its space, and its row of rights. -/
structure SRS (w W : World) (s p b m r P : Nat) (v : Value) (l c : Nat → Int) : Prop where
  own : W.ownsRow w.heap.size 23 1 v P ((List.range P).map fun k => .int .u64 (l k))
  ap : ∀ g, v.ownBlock = some g → g ≠ s ∧ g ≠ p ∧ g ≠ b ∧ g ≠ m
  sp : ∃ B L F lf fr, SpG W s p b m 60 r P 55 B L F lf fr c
  bel : Below w.heap.size w W
  lb : w.heap.size ≤ s ∧ w.heap.size ≤ p ∧ w.heap.size ≤ b ∧ w.heap.size ≤ m
  pg : ∀ k, k < P → pgO (l k) (c k)
theorem own_see {q : Option Addr} {cap base : Nat} (h : W.ownsRow base 23 1 (.slice q P cap) P ((List.range P).map fun k => .int .u64 (l k))) : See W .u64 q P l := by
  by_cases h0 : P = 0
  · exact .inl h0
  rcases h.2 with h1 | ⟨g, cap', cur, h1, h2, h3, h4⟩
  · exact absurd h1.2 h0
  · have e : q = some ⟨g, 0, none⟩ ∧ cap = cap' := by simpa using h1
    obtain ⟨rfl, rfl⟩ := e
    have hg : g < W.heap.size := by
      rcases Nat.lt_or_ge g W.heap.size with hh | hh
      · exact hh
      · rw [Array.getElem?_eq_none hh] at h3; cases h3
    refine .inr ⟨g, 0, rfl, hg, fun i hi => ?_⟩
    have := h.cellAt i (by omega)
    rw [Nat.zero_add, this, List.getElem?_map, List.getElem?_range hi]
    rfl
/-- The space moved, the row did not. -/
theorem SRS.grow {q : Option Addr} {cap : Nat} {c' : Nat → Int} (h : SRS w W s p b m r P (.slice q P cap) l c) (hk : ∀ k, k < W.heap.size → k ≠ p → k ≠ b → k ≠ m → k ≠ s → W'.heap[k]? = W.heap[k]?) (hz : W.heap.size ≤ W'.heap.size) (ho : W'.os = W.os ∧ W'.tape = W.tape ∧ W'.output = W.output) :
    W'.ownsRow w.heap.size 23 1 (.slice q P cap) P ((List.range P).map fun k => .int .u64 (l k)) ∧ Below w.heap.size w W' := by
  refine ⟨own_blk h.own fun g hg hl => ?_, ?_⟩
  · have := h.ap g hg
    exact hk g hl this.2.1 this.2.2.1 this.2.2.2 this.1
  · have hlb := h.lb
    have hs := h.bel.size
    exact h.bel.trans ⟨ho.1, ho.2.1, ho.2.2, hz, fun k hk' => hk k (by omega) (by omega) (by omega) (by omega) (by omega)⟩
end
end Go.Proofs.YtblmkkhiojbcjaaGreat
