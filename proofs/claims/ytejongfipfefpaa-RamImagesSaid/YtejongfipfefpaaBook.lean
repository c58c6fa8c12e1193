import Derived.Test.YtejongfipfefpaaNews
import Derived.Deep.RegionHeld3
import Derived.Deep.RegionWith
namespace Go.Proofs.Ytejongfipfefpaa
open Go.RowKit
set_option linter.unusedVariables false
set_option linter.unusedSimpArgs false
/-- What the book holds: a frame's number, a place, a number. -/
abbrev Ent := Nat × Int × Int
def pa (x : Ent) : Int := 2147483648 + x.1 * 4096
structure RowM (w : World) (g : Nat) (l : List Ent) : Prop where
  c0 : ∀ i (h : i < l.length), w.cell? ⟨g, i * 3, .none⟩ = some (.int .u64 (pa l[i]))
  c1 : ∀ i (h : i < l.length), w.cell? ⟨g, i * 3 + 1, .none⟩ = some (.int .u64 l[i].2.1)
  c2 : ∀ i (h : i < l.length), w.cell? ⟨g, i * 3 + 2, .none⟩ = some (.int .u64 l[i].2.2)
def HasM (w : World) (q : Option Addr) (l : List Ent) : Prop := l.length = 0 ∨ ∃ g, q = some ⟨g, 0, .none⟩ ∧ g < w.heap.size ∧ RowM w g l
theorem HasM.below {w w' : World} {q : Option Addr} {l : List Ent} (h : HasM w q l) (b : Below w.heap.size w w') : HasM w' q l := by
  rcases h with h | ⟨g, e, hg, r⟩
  · exact .inl h
  · exact .inr ⟨g, e, Nat.lt_of_lt_of_le hg b.size, fun i h => (b.cell hg).trans (r.c0 i h), fun i h => (b.cell hg).trans (r.c1 i h), fun i h => (b.cell hg).trans (r.c2 i h)⟩
/-- What the book says of the memory. -/
structure Kp (B : Nat → Int) (x : Ent) : Prop where
  a0 : 0 ≤ x.2.1
  a1 : x.2.1 < 4096
  a8 : x.2.1 % 8 = 0
  v0 : 0 ≤ x.2.2 ∧ x.2.2 < 18446744073709551616
  at_ : num B (x.1 * 4096 + x.2.1.toNat) 8 = x.2.2
  nx : num B (x.1 * 4096 + ((x.2.1 + 8) % 4096).toNat) 8 = 0
end Go.Proofs.Ytejongfipfefpaa
