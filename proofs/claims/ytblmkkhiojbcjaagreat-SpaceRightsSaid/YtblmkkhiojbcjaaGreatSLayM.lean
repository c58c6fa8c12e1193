import Derived.Test.YtblmkkhiojbcjaaGreatSBits
namespace Go.Proofs.YtblmkkhiojbcjaaGreat
open Go.RowKit
set_option linter.unusedVariables false
set_option linter.unusedSimpArgs false
theorem C6.fra {W W' : World} {p b m P : Nat} {x0 x1 x2 x3 x4 x5 : Value} (h : C6 W P x0 x1 x2 x3 x4 x5) (f : Fra p b m W W') (h1 : P ≠ p) (h2 : P ≠ b) (h3 : P ≠ m) : C6 W' P x0 x1 x2 x3 x4 x5 := by
  have hP : P < W.heap.size := lt_of_cell h.c0
  exact ⟨(f.cell (x := ⟨P, 0, .none⟩) hP h1 h2 h3).trans h.c0, (f.cell (x := ⟨P, 1, .none⟩) hP h1 h2 h3).trans h.c1, (f.cell (x := ⟨P, 2, .none⟩) hP h1 h2 h3).trans h.c2, (f.cell (x := ⟨P, 3, .none⟩) hP h1 h2 h3).trans h.c3, (f.cell (x := ⟨P, 4, .none⟩) hP h1 h2 h3).trans h.c4, (f.cell (x := ⟨P, 5, .none⟩) hP h1 h2 h3).trans h.c5,
    (f.frozen (x := ⟨P, 0, .none⟩) hP h1 h2 h3).trans h.f0, (f.frozen (x := ⟨P, 1, .none⟩) hP h1 h2 h3).trans h.f1, (f.frozen (x := ⟨P, 2, .none⟩) hP h1 h2 h3).trans h.f2, (f.frozen (x := ⟨P, 3, .none⟩) hP h1 h2 h3).trans h.f3, (f.frozen (x := ⟨P, 4, .none⟩) hP h1 h2 h3).trans h.f4, (f.frozen (x := ⟨P, 5, .none⟩) hP h1 h2 h3).trans h.f5⟩
/-- How a leaf is laid down below a node of level l: what lies in memory behind it. -/
def Lays (N : Nat) (va leaf : Int) : Nat → (Nat → Int) → List Nat → Int → (Nat → Int) → List Nat → Prop
  | 0, B, L, nd, B', L' => ndB N L nd = true ∧ kd (ent B nd va 0) 0 = 0 ∧ B' = over B (fi nd * 4096 + (ix va 0).toNat * 8) (le leaf 8) ∧ L' = L
  | l + 1, B, L, nd, B', L' => ndB N L nd = true ∧ ((kd (ent B nd va (l + 1 : Nat)) (l + 1 : Nat) = 3 ∧ Lays N va leaf l B L (adE (ent B nd va (l + 1 : Nat))) B' L') ∨
      (kd (ent B nd va (l + 1 : Nat)) (l + 1 : Nat) = 0 ∧ ∃ i L1, L = i :: L1 ∧ ndB N L1 nd = true ∧ Lays N va leaf l (over (zer B i) (fi nd * 4096 + (ix va (l + 1 : Nat)).toNat * 8) (le (toP (2147483648 + i * 4096) 0) 8)) L1 (2147483648 + i * 4096) B' L'))
/-- What stands besides the memory while a leaf is laid down: the guide's own box, the result, the path. -/
structure LW (w W : World) (p b m : Nat) (leaf : Int) (a0 a1 a2 l e k : Int) : Prop where
  c : C6 W (w.heap.size + 1 + 1) (.int .u64 a0) (.int .u64 a1) (.int .u64 a2) (.int .i64 l) (.int .u64 e) (.int .i64 k)
  r : C6 W (w.heap.size + 1) (.int .u64 0) (.int .u64 0) (.int .u64 0) (.int .i64 0) (.int .u64 0) (.int .i64 0)
  g0 : W.cell? ⟨w.heap.size, 0, .none⟩ = some (.pointer (some ⟨p, 0, .none⟩))
  g1 : W.cell? ⟨w.heap.size, 1, .none⟩ = some (.int .u64 leaf)
  f : Fra p b m w W
section
variable {w W W' : World} {p b m : Nat} {leaf a0 a1 a2 l e k : Int}
theorem LW.fra (h : LW w W p b m leaf a0 a1 a2 l e k) (hp : p < w.heap.size) (hb : b < w.heap.size) (hm : m < w.heap.size) (f : Fra p b m W W') : LW w W' p b m leaf a0 a1 a2 l e k := by
  have h0 : w.heap.size < W.heap.size := lt_of_cell h.g0
  exact ⟨h.c.fra f (by omega) (by omega) (by omega), h.r.fra f (by omega) (by omega) (by omega), (f.cell (x := ⟨w.heap.size, 0, .none⟩) h0 (by show w.heap.size ≠ p; omega) (by show w.heap.size ≠ b; omega) (by show w.heap.size ≠ m; omega)).trans h.g0, (f.cell (x := ⟨w.heap.size, 1, .none⟩) h0 (by show w.heap.size ≠ p; omega) (by show w.heap.size ≠ b; omega) (by show w.heap.size ≠ m; omega)).trans h.g1, h.f.trans f⟩
theorem LW.below (h : LW w W p b m leaf a0 a1 a2 l e k) (hp : p < w.heap.size) (hb : b < w.heap.size) (hm : m < w.heap.size) (f : Below W.heap.size W W') : LW w W' p b m leaf a0 a1 a2 l e k := h.fra hp hb hm (Fra.below f)
end
/-- A store beside the three blocks. -/
theorem Fra.beside {p b m : Nat} {w W : World} (h : Fra p b m w W) (a : Addr) (v : Value) (ha : w.heap.size ≤ a.block) : Fra p b m w (W.setCell a v) := by
  have g : Below w.heap.size W (W.setCell a v) := (Below.refl _ _).setCell ha _
  exact ⟨g.os.trans h.os, g.tape.trans h.tape, g.output.trans h.output, Nat.le_trans h.size g.size, fun k hk h1 h2 h3 => (g.block k hk).trans (h.block k hk h1 h2 h3)⟩
end Go.Proofs.YtblmkkhiojbcjaaGreat
