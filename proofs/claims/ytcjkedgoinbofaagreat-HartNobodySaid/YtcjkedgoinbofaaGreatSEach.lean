import Derived.Test.YtcjkedgoinbofaaGreatSTour
import Derived.Deep.DeepCutAuto
namespace Go.Proofs.YtcjkedgoinbofaaGreat
open Go.RowKit
set_option linter.unusedVariables false
set_option linter.unusedSimpArgs false
/-- Six cells that may be written. -/
structure C6 (W : World) (P : Nat) (x0 x1 x2 x3 x4 x5 : Value) : Prop where
  c0 : W.cell? ⟨P, 0, .none⟩ = some x0
  c1 : W.cell? ⟨P, 1, .none⟩ = some x1
  c2 : W.cell? ⟨P, 2, .none⟩ = some x2
  c3 : W.cell? ⟨P, 3, .none⟩ = some x3
  c4 : W.cell? ⟨P, 4, .none⟩ = some x4
  c5 : W.cell? ⟨P, 5, .none⟩ = some x5
  f0 : W.frozen? ⟨P, 0, .none⟩ = false
  f1 : W.frozen? ⟨P, 1, .none⟩ = false
  f2 : W.frozen? ⟨P, 2, .none⟩ = false
  f3 : W.frozen? ⟨P, 3, .none⟩ = false
  f4 : W.frozen? ⟨P, 4, .none⟩ = false
  f5 : W.frozen? ⟨P, 5, .none⟩ = false
theorem C6.below {W W' : World} {P : Nat} {x0 x1 x2 x3 x4 x5 : Value} (h : C6 W P x0 x1 x2 x3 x4 x5) (b : Below W.heap.size W W') : C6 W' P x0 x1 x2 x3 x4 x5 := by
  have hP : P < W.heap.size := lt_of_cell h.c0
  exact ⟨(b.cell hP).trans h.c0, (b.cell hP).trans h.c1, (b.cell hP).trans h.c2, (b.cell hP).trans h.c3, (b.cell hP).trans h.c4, (b.cell hP).trans h.c5, (b.frozen hP).trans h.f0, (b.frozen hP).trans h.f1, (b.frozen hP).trans h.f2, (b.frozen hP).trans h.f3, (b.frozen hP).trans h.f4, (b.frozen hP).trans h.f5⟩
theorem C6.new (w : World) (x0 x1 x2 x3 x4 x5 : Value) (t : TypeId) : C6 (w.alloc (.cells #[x0, x1, x2, x3, x4, x5] t)) w.heap.size x0 x1 x2 x3 x4 x5 :=
  ⟨by simp, by simp, by simp, by simp, by simp, by simp, World.frozen?_alloc_new _ _ _ _, World.frozen?_alloc_new _ _ _ _, World.frozen?_alloc_new _ _ _ _, World.frozen?_alloc_new _ _ _ _, World.frozen?_alloc_new _ _ _ _, World.frozen?_alloc_new _ _ _ _⟩
theorem C6.set {W : World} {P : Nat} {x0 x1 x2 x3 x4 x5 : Value} (h : C6 W P x0 x1 x2 x3 x4 x5) (y0 y1 y2 y3 y4 y5 : Value) : C6 ((((((W.setCell ⟨P, 0, .none⟩ y0).setCell ⟨P, 1, .none⟩ y1).setCell ⟨P, 2, .none⟩ y2).setCell ⟨P, 3, .none⟩ y3).setCell ⟨P, 4, .none⟩ y4).setCell ⟨P, 5, .none⟩ y5) P y0 y1 y2 y3 y4 y5 :=
  ⟨(World.cell?_setCell_other _ _ _ _ (by simp)).trans ((World.cell?_setCell_other _ _ _ _ (by simp)).trans ((World.cell?_setCell_other _ _ _ _ (by simp)).trans ((World.cell?_setCell_other _ _ _ _ (by simp)).trans ((World.cell?_setCell_other _ _ _ _ (by simp)).trans (World.cell?_setCell_same' _ _ _ (by rw [h.c0]; rfl)))))), (World.cell?_setCell_other _ _ _ _ (by simp)).trans ((World.cell?_setCell_other _ _ _ _ (by simp)).trans ((World.cell?_setCell_other _ _ _ _ (by simp)).trans ((World.cell?_setCell_other _ _ _ _ (by simp)).trans (World.cell?_setCell_same' _ _ _ (by rw [World.cell?_setCell_other _ _ _ _ (by simp), h.c1]; rfl))))), (World.cell?_setCell_other _ _ _ _ (by simp)).trans ((World.cell?_setCell_other _ _ _ _ (by simp)).trans ((World.cell?_setCell_other _ _ _ _ (by simp)).trans (World.cell?_setCell_same' _ _ _ (by rw [World.cell?_setCell_other _ _ _ _ (by simp), World.cell?_setCell_other _ _ _ _ (by simp), h.c2]; rfl)))), (World.cell?_setCell_other _ _ _ _ (by simp)).trans ((World.cell?_setCell_other _ _ _ _ (by simp)).trans (World.cell?_setCell_same' _ _ _ (by rw [World.cell?_setCell_other _ _ _ _ (by simp), World.cell?_setCell_other _ _ _ _ (by simp), World.cell?_setCell_other _ _ _ _ (by simp), h.c3]; rfl))), (World.cell?_setCell_other _ _ _ _ (by simp)).trans (World.cell?_setCell_same' _ _ _ (by rw [World.cell?_setCell_other _ _ _ _ (by simp), World.cell?_setCell_other _ _ _ _ (by simp), World.cell?_setCell_other _ _ _ _ (by simp), World.cell?_setCell_other _ _ _ _ (by simp), h.c4]; rfl)), World.cell?_setCell_same' _ _ _ (by rw [World.cell?_setCell_other _ _ _ _ (by simp), World.cell?_setCell_other _ _ _ _ (by simp), World.cell?_setCell_other _ _ _ _ (by simp), World.cell?_setCell_other _ _ _ _ (by simp), World.cell?_setCell_other _ _ _ _ (by simp), h.c5]; rfl),
    by rw [World.frozen?_setCell, World.frozen?_setCell, World.frozen?_setCell, World.frozen?_setCell, World.frozen?_setCell, World.frozen?_setCell]; exact h.f0, by rw [World.frozen?_setCell, World.frozen?_setCell, World.frozen?_setCell, World.frozen?_setCell, World.frozen?_setCell, World.frozen?_setCell]; exact h.f1, by rw [World.frozen?_setCell, World.frozen?_setCell, World.frozen?_setCell, World.frozen?_setCell, World.frozen?_setCell, World.frozen?_setCell]; exact h.f2, by rw [World.frozen?_setCell, World.frozen?_setCell, World.frozen?_setCell, World.frozen?_setCell, World.frozen?_setCell, World.frozen?_setCell]; exact h.f3, by rw [World.frozen?_setCell, World.frozen?_setCell, World.frozen?_setCell, World.frozen?_setCell, World.frozen?_setCell, World.frozen?_setCell]; exact h.f4, by rw [World.frozen?_setCell, World.frozen?_setCell, World.frozen?_setCell, World.frozen?_setCell, World.frozen?_setCell, World.frozen?_setCell]; exact h.f5⟩
theorem below6 {B : Nat} {w W : World} (h : Below B w W) {P : Nat} (hP : B ≤ P) (y0 y1 y2 y3 y4 y5 : Value) : Below B w ((((((W.setCell ⟨P, 0, .none⟩ y0).setCell ⟨P, 1, .none⟩ y1).setCell ⟨P, 2, .none⟩ y2).setCell ⟨P, 3, .none⟩ y3).setCell ⟨P, 4, .none⟩ y4).setCell ⟨P, 5, .none⟩ y5) :=
  (((((h.setCell (p := ⟨P, 0, .none⟩) hP _).setCell (p := ⟨P, 1, .none⟩) hP _).setCell (p := ⟨P, 2, .none⟩) hP _).setCell (p := ⟨P, 3, .none⟩) hP _).setCell (p := ⟨P, 4, .none⟩) hP _).setCell (p := ⟨P, 5, .none⟩) hP _
section
variable {w : World} {v : Value}
end
end Go.Proofs.YtcjkedgoinbofaaGreat
