import Derived.Test.YtjbealefopajcaaDoorSb
import Derived.Test.YtjbealefopajcaaDoorSc1
namespace Go.Proofs.YtjbealefopajcaaDoor
open Go Go.RowKit Rg
set_option linter.unusedVariables false
set_option linter.unusedSimpArgs false
/-! The place of the first thing of a script that no text tells. -/
theorem lt_of_cell {w : World} {a : Addr} {v : Value} (h : w.cell? a = some v) : a.block < w.heap.size := World.block_lt_of_cell? w a h
/-- A script's box. -/
structure ScZ (W : World) (z : Nat) (S : Sc) (fv tv iv : Value) : Prop where
  c0 : W.cell? ⟨z, 0, .none⟩ = some (.int .i64 S.fr)
  c1 : W.cell? ⟨z, 1, .none⟩ = some fv
  c2 : W.cell? ⟨z, 2, .none⟩ = some (.string S.init)
  c3 : W.cell? ⟨z, 3, .none⟩ = some (.int .i64 S.bu)
  c4 : W.cell? ⟨z, 4, .none⟩ = some tv
  c5 : W.cell? ⟨z, 5, .none⟩ = some iv
theorem scz_new (w : World) (S : Sc) (fv tv iv : Value) : ScZ (w.alloc (.cells (scL S fv tv iv).toArray 26)) w.heap.size S fv tv iv := by
  have h : (w.alloc (.cells (scL S fv tv iv).toArray 26)).heap[w.heap.size]? = some (.cells (scL S fv tv iv).toArray 26 (0, 0)) := by show (w.heap.push _)[w.heap.size]? = _; simp
  exact ⟨cell_heap h, cell_heap h, cell_heap h, cell_heap h, cell_heap h, cell_heap h⟩
theorem ScZ.keep {w w' : World} {B z : Nat} {S : Sc} {fv tv iv : Value} (h : ScZ w z S fv tv iv) (hb : Below B w w') (hz : z < B) : ScZ w' z S fv tv iv :=
  ⟨(hb.cell (p := ⟨z, 0, .none⟩) hz).trans h.c0, (hb.cell (p := ⟨z, 1, .none⟩) hz).trans h.c1, (hb.cell (p := ⟨z, 2, .none⟩) hz).trans h.c2, (hb.cell (p := ⟨z, 3, .none⟩) hz).trans h.c3, (hb.cell (p := ⟨z, 4, .none⟩) hz).trans h.c4, (hb.cell (p := ⟨z, 5, .none⟩) hz).trans h.c5⟩
theorem ScZ.lt {w : World} {z : Nat} {S : Sc} {fv tv iv : Value} (h : ScZ w z S fv tv iv) : z < w.heap.size := lt_of_cell h.c0
/-- The first index from i on, of n more, that is bad. -/
def fb (bad : Nat → Bool) : Nat → Nat → Option Nat
  | 0, _ => none
  | n + 1, i => if bad i = true then some i else fb bad n (i + 1)
theorem fb_skip {bad : Nat → Bool} : ∀ (i n : Nat), (∀ j, j < i → bad j = false) → fb bad (i + n) 0 = fb bad n i := by
  suffices H : ∀ (i n k : Nat), (∀ j, j < i → bad (k + j) = false) → fb bad (i + n) k = fb bad n (k + i) from fun i n h => by
    have := H i n 0 (fun j hj => by rw [Nat.zero_add]; exact h j hj)
    rwa [Nat.zero_add] at this
  intro i
  induction i with
  | zero => intro n k _; rw [Nat.zero_add, Nat.add_zero]
  | succ i ih =>
    intro n k h
    rw [show i + 1 + n = (i + n) + 1 by omega, fb, if_neg (by rw [show bad k = false from h 0 (by omega)]; simp), ih n (k + 1) (fun j hj => by rw [show k + 1 + j = k + (j + 1) by omega]; exact h (j + 1) (by omega)), show k + 1 + i = k + (i + 1) by omega]
theorem fb_hit {bad : Nat → Bool} {i n : Nat} (h : ∀ j, j < i → bad j = false) (hi : i < n) (hb : bad i = true) : fb bad n 0 = some i := by
  rw [show n = i + ((n - i - 1) + 1) by omega, fb_skip i _ h, fb, if_pos hb]
theorem fb_none {bad : Nat → Bool} {n : Nat} (h : ∀ j, j < n → bad j = false) : fb bad n 0 = none := by
  rw [show n = n + 0 by omega, fb_skip n 0 h, fb]
def badL {α : Type} (lim : Nat) (p : α → Bool) (l : List α) (i : Nat) : Bool := decide (lim ≤ i) || (match l[i]? with | some x => !p x | none => false)
theorem badL_at {α : Type} {lim : Nat} {p : α → Bool} {l : List α} {i : Nat} {x : α} (h : l[i]? = some x) : badL lim p l i = (decide (lim ≤ i) || !p x) := by
  unfold badL
  rw [h]
def okFl (f : Fl) : Bool := okF f.ty f.mj f.mn f.data.length
def wrongF (S : Sc) : Option Nat :=
  if (fitN S.fr && fitN S.bu) = false then some 0 else
  match fb (badL 64 okFl S.files) S.files.length 0 with
  | some i => some (1 + i)
  | none => match fb (badL 4096 fitN S.ticks) S.ticks.length 0 with
    | some i => some (1 + S.files.length + i)
    | none => match fb (badL 4096 (fun f : Ip => fitN f.tm) S.ins) S.ins.length 0 with
      | some i => some (1 + S.files.length + S.ticks.length + i)
      | none => none
/-- A script that is few. -/
structure Few (S : Sc) : Prop where
  nf : S.files.length ≤ 5000
  ni : S.ins.length ≤ 5000
  nt : S.ticks.length ≤ 1100000
  sz : fewN S ≤ 1100000
def WpP (S : Sc) (w : World) (e : Ending) (w' : World) : Prop := e = .returned (.tuple #[.int .i64 ((wrongF S).getD 0 : Nat), .bool (wrongF S).isSome]) ∧ Below w.heap.size w w'
def WrQ (S : Sc) (w : World) (e : Ending) (w' : World) : Prop := e = .returned (.int .i64 (match wrongF S with | some k => (k : Int) | none => -1)) ∧ Below w.heap.size w w'
end Go.Proofs.YtjbealefopajcaaDoor
