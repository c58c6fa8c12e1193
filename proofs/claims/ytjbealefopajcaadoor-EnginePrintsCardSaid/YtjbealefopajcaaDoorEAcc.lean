import Derived.Test.YtjbealefopajcaaDoorRows
import Derived.Test.YtjbealefopajcaaDoorEPure
import Derived.WalkKit
import Derived.WalkSpells
import Derived.RowKit3
import Derived.Deep.Cut
import Derived.LoopTactic
import Derived.Below
import Derived.Laws.NewBlocks
namespace Go.Proofs.YtjbealefopajcaaDoor
open Go.RowKit
set_option linter.unusedVariables false
set_option linter.unusedSimpArgs false
theorem bseq {W a b : World} (h : Below W.heap.size W a) (k : Below a.heap.size a b) : Below W.heap.size W b := h.trans (k.mono h.size)
theorem below_past (w : World) (b : Obj) : Below w.heap.size w (w.alloc b) := (Below.refl _ _).alloc (Nat.le_refl _) _
theorem run_store_func (P : Program) (w : World) (a : Addr) (f : Fn) (c d : Array Value) (m : Mode) (hc : (w.cell? a).isSome = true) (hf : w.frozen? a = false) :
    (store a (.func f c d) m).run P w = .ok () (w.setCell a (.func f c d)) := by
  obtain ⟨u, hu⟩ := Option.isSome_iff_exists.1 hc
  rw [run_store P w a (.func f c d) m rfl, hu]
  simp [hf]
theorem run_store_nilFunc (P : Program) (w : World) (a : Addr) (m : Mode) (hc : (w.cell? a).isSome = true) (hf : w.frozen? a = false) :
    (store a .nilFunc m).run P w = .ok () (w.setCell a .nilFunc) := by
  obtain ⟨u, hu⟩ := Option.isSome_iff_exists.1 hc
  rw [run_store P w a .nilFunc m rfl, hu]
  simp [hf]
attribute [local go_sem] run_store_func run_store_nilFunc
theorem bel4 {w wr : World} (h : Below w.heap.size w wr) (a b c d : Value) : Below w.heap.size w ((((wr.setCell ⟨w.heap.size, 0, .none⟩ a).setCell ⟨w.heap.size, 1, .none⟩ b).setCell ⟨w.heap.size, 2, .none⟩ c).setCell ⟨w.heap.size, 3, .none⟩ d) :=
  (((h.setCell (Nat.le_refl _) _).setCell (Nat.le_refl _) _).setCell (Nat.le_refl _) _).setCell (Nat.le_refl _) _
end Go.Proofs.YtjbealefopajcaaDoor
