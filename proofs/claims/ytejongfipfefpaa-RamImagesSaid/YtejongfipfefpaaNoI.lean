import Derived.Test.YtejongfipfefpaaNo
import Derived.RangeFuncNested
import Derived.RangeFuncBound
import Derived.RangeFuncCalls
import Derived.RangeFuncLeaves
import Derived.RangeFuncFrom
import Derived.Shelf.Abstract
import Derived.Shelf.RegionOpen
import Derived.OwnWalkIn
import Derived.TacticsInMore
import Derived.LoopNIn
import Derived.LoopIn
namespace Go.Proofs.Ytejongfipfefpaa
open Go.RowKit Go.Shelf
attribute [local go_sem] Oper.semAt_some
set_option linter.unusedVariables false
set_option linter.unusedSimpArgs false
theorem no_seq {w : World} {v : Value} (h : Unm w v) (n Bn : Nat) (n₀ : Nat) (hBl : Bn < w.heap.size) (hB : w.cell? ⟨Bn, 0, .none⟩ = some v) : SeqStopsK (α := Empty) Fence.wide n Try.prog 45 #[.pointer (some ⟨Bn, 0, .none⟩)] (fun x => x.elim) (Below n₀) (fun xs => xs = []) (fun _ => False) 0 w := by
  intro l J Jx W hW hJ hJx hY h0
  refine (callsIn_wide.2 (no_iter (h.below hW) (.func (.yield l) #[] #[]) Bn ((hW.cell hBl).trans hB))).mono ?_
  rintro e W' ⟨he, rfl⟩
  exact ⟨he, .inl ⟨[], rfl, h0⟩⟩
/-- An image's three cells. -/
def C3 (W : World) (a : Nat) (x y z : Value) : Prop := W.cell? ⟨a, 0, .none⟩ = some x ∧ W.cell? ⟨a, 1, .none⟩ = some y ∧ W.cell? ⟨a, 2, .none⟩ = some z ∧ W.frozen? ⟨a, 0, .none⟩ = false ∧ W.frozen? ⟨a, 1, .none⟩ = false ∧ W.frozen? ⟨a, 2, .none⟩ = false
theorem C3.kept {A B : World} {row : Option Nat} {a : Nat} {x y z : Value} (h : C3 A a x y z) (hg : A.grownBy B row) (hr : ∀ r, row = some r → ∃ o : Obj, A.heap[r]? = some o ∧ o.isCells = false) : C3 B a x y z :=
  ⟨cell_kept h.1 hg hr, cell_kept h.2.1 hg hr, cell_kept h.2.2.1 hg hr, (frozen_kept h.1 hg hr).trans h.2.2.2.1, (frozen_kept h.2.1 hg hr).trans h.2.2.2.2.1, (frozen_kept h.2.2.1 hg hr).trans h.2.2.2.2.2⟩
theorem C3.new (w : World) (x y z : Value) (t : TypeId) : C3 (w.alloc (.cells #[x, y, z] t)) w.heap.size x y z :=
  ⟨by simp, by simp, by simp, World.frozen?_alloc_new _ _ _ _, World.frozen?_alloc_new _ _ _ _, World.frozen?_alloc_new _ _ _ _⟩
theorem C3.alloc {w : World} {a : Nat} {x y z : Value} (h : C3 w a x y z) (o : Obj) : C3 (w.alloc o) a x y z := h.kept (World.grownBy_alloc w o none) (fun r e => by cases e)
set_option maxHeartbeats 1000000 in
theorem no_image {w : World} {q : Option Addr} (h : Unm w (.pointer q)) : Calls Try.prog 11 #[.pointer q] w fun e w' => e = .returned (.agg #[.int .i64 0, .slice .none 0 0, .slice .none 0 0]) ∧ Below w.heap.size w w' := by
  have c1 := no_frames (h.below (below_past w (.cells #[.int .i64 0, .slice .none 0 0, .slice .none 0 0] 25)))
  refine (callsIn_wide (n := 3)).1 ?_
  refine callsIn_of_wp_marks Try.func11 rfl trivial ?_ rfl
  simp only [Try.ntmps11, List.size_toArray, List.length_cons, List.length_nil, Nat.reduceAdd, Nat.reduceSub, Array.replicate_succ, Array.replicate_zero, List.push_toArray, List.append_toArray, List.nil_append, List.cons_append]
  gi_wp2_with (first | (refine ⟨trivial, ?_⟩; gi_at_call 28; refine (callsIn_wide.2 c1).mono ?_; rintro e w0 ⟨rfl, rfl⟩) | (refine ⟨trivial, ?_⟩; gi_at_call 29; refine (callsIn_wide.2 (freeList_any q)).mono ?_; rintro e w1 ⟨rfl, rfl⟩))
  have k0 : C3 ((w.alloc (.cells #[.int .i64 0, .slice .none 0 0, .slice .none 0 0] 25)).alloc (.cells #[.int .i64 0, .slice .none 0 0, .slice .none 0 0] 25)) (w.heap.size + 1) (.int .i64 0) (.slice .none 0 0) (.slice .none 0 0) := by
    have := C3.new (w.alloc (.cells #[.int .i64 0, .slice .none 0 0, .slice .none 0 0] 25)) (.int .i64 0) (.slice .none 0 0) (.slice .none 0 0) 25
    rwa [World.size_alloc] at this
  have k1 := ((C3.new w (.int .i64 0) (.slice .none 0 0) (.slice .none 0 0) 25).alloc (.cells #[.int .i64 0, .slice .none 0 0, .slice .none 0 0] 25)).alloc (.cells #[.pointer q] 31)
  have k2 := k0.alloc (.cells #[.pointer q] 31)
  have hB0 : Below w.heap.size w (((w.alloc (.cells #[.int .i64 0, .slice .none 0 0, .slice .none 0 0] 25)).alloc (.cells #[.int .i64 0, .slice .none 0 0, .slice .none 0 0] 25)).alloc (.cells #[.pointer q] 31)) := ((below_past _ _).alloc (by simp) _).alloc (by simp only [World.size_alloc]; omega) _
  have hU := h.below hB0
  have hc : (((w.alloc (.cells #[.int .i64 0, .slice .none 0 0, .slice .none 0 0] 25)).alloc (.cells #[.int .i64 0, .slice .none 0 0, .slice .none 0 0] 25)).alloc (.cells #[.pointer q] 31)).cell? ⟨w.heap.size + 1 + 1, 0, .none⟩ = some (.pointer q) := by
    rw [World.cell?_alloc_at _ _ _ _ (by simp only [World.size_alloc])]
    rfl
  have hz : (((w.alloc (.cells #[.int .i64 0, .slice .none 0 0, .slice .none 0 0] 25)).alloc (.cells #[.int .i64 0, .slice .none 0 0, .slice .none 0 0] 25)).alloc (.cells #[.pointer q] 31)).heap.size = w.heap.size + 1 + 1 + 1 := by simp only [World.size_alloc]
  clear k0
  generalize (((w.alloc (.cells #[.int .i64 0, .slice .none 0 0, .slice .none 0 0] 25)).alloc (.cells #[.int .i64 0, .slice .none 0 0, .slice .none 0 0] 25)).alloc (.cells #[.pointer q] 31)) = W0 at *
  refine wpIn_rangeFunc_ownF (α := Empty) rfl (by omega) (gf := 45) (lb := #[.pointer (some ⟨w.heap.size + 1 + 1, 0, .none⟩)]) rfl trivial (enters_of Try.func45 (by kernel_rfl) rfl)
    (no_seq hU 2 (w.heap.size + 1 + 1) w.heap.size (by omega) hc) belowK_t (belowK_b (by omega)) (Below.refl _ _) (fun x => x.elim)
    (fun _ W => (C3 W (w.heap.size + 1) (.int .i64 0) (.slice .none 0 0) (.slice .none 0 0) ∧ C3 W w.heap.size (.int .i64 0) (.slice .none 0 0) (.slice .none 0 0)) ∧ Below w.heap.size w W) (fun _ _ _ => False)
    (OwnFrom.and (Own.from (fun s A B row hs hg hr => ⟨hs.1.kept hg hr, hs.2.kept hg hr⟩) _) (ownFrom_below (Nat.le_refl _) (by omega))) (fun _ _ _ _ _ hs _ _ => hs) ⟨⟨k2, k1⟩, hB0⟩ (fun x => x.elim) ?assign ?body ?done ?stop
  case assign => intro l x; exact x.elim
  case body => intro l pre x; exact x.elim
  case done =>
    rintro D xs W hD hxs ⟨⟨⟨a0, a1, a2, _, _, _⟩, ⟨b0, b1, b2, d0, d1, d2⟩⟩, hB⟩ hK
    gi_wp2
    refine wpIn_loop_rounds 1 ?_
    rw [roundsIn_succ]
    gi_wp2
    have hD2 : w.heap.size + 1 + 1 + 1 ≤ D := by omega
    have hK9 : (((W.setCell ⟨w.heap.size, 0, .none⟩ (.int .i64 0)).setCell ⟨w.heap.size, 1, .none⟩ (.slice .none 0 0)).setCell ⟨w.heap.size, 2, .none⟩ (.slice .none 0 0)).heap[D]? = some (.deferred (some [])) := by
      rw [Below.heap_setCell _ _ _ _ (by show D ≠ w.heap.size; omega), Below.heap_setCell _ _ _ _ (by show D ≠ w.heap.size; omega), Below.heap_setCell _ _ _ _ (by show D ≠ w.heap.size; omega)]
      exact hK
    have e0 : (((W.setCell ⟨w.heap.size, 0, .none⟩ (.int .i64 0)).setCell ⟨w.heap.size, 1, .none⟩ (.slice .none 0 0)).setCell ⟨w.heap.size, 2, .none⟩ (.slice .none 0 0)).cell? ⟨w.heap.size, 0, .none⟩ = some (.int .i64 0) := by
      rw [World.cell?_setCell_other _ _ _ _ (by simp), World.cell?_setCell_other _ _ _ _ (by simp)]
      exact World.cell?_setCell_same' _ _ _ (by rw [b0]; rfl)
    have e1 : (((W.setCell ⟨w.heap.size, 0, .none⟩ (.int .i64 0)).setCell ⟨w.heap.size, 1, .none⟩ (.slice .none 0 0)).setCell ⟨w.heap.size, 2, .none⟩ (.slice .none 0 0)).cell? ⟨w.heap.size, 1, .none⟩ = some (.slice .none 0 0) := by
      rw [World.cell?_setCell_other _ _ _ _ (by simp)]
      exact World.cell?_setCell_same' _ _ _ (by rw [World.cell?_setCell_other _ _ _ _ (by simp), b1]; rfl)
    have e2 : (((W.setCell ⟨w.heap.size, 0, .none⟩ (.int .i64 0)).setCell ⟨w.heap.size, 1, .none⟩ (.slice .none 0 0)).setCell ⟨w.heap.size, 2, .none⟩ (.slice .none 0 0)).cell? ⟨w.heap.size, 2, .none⟩ = some (.slice .none 0 0) :=
      World.cell?_setCell_same' _ _ _ (by rw [World.cell?_setCell_other _ _ _ _ (by simp), World.cell?_setCell_other _ _ _ _ (by simp), b2]; rfl)
    have hB9 : Below w.heap.size w (((W.setCell ⟨w.heap.size, 0, .none⟩ (.int .i64 0)).setCell ⟨w.heap.size, 1, .none⟩ (.slice .none 0 0)).setCell ⟨w.heap.size, 2, .none⟩ (.slice .none 0 0)) := ((hB.setCell (p := ⟨w.heap.size, 0, .none⟩) (Nat.le_refl _) _).setCell (p := ⟨w.heap.size, 1, .none⟩) (Nat.le_refl _) _).setCell (p := ⟨w.heap.size, 2, .none⟩) (Nat.le_refl _) _
    generalize (((W.setCell ⟨w.heap.size, 0, .none⟩ (.int .i64 0)).setCell ⟨w.heap.size, 1, .none⟩ (.slice .none 0 0)).setCell ⟨w.heap.size, 2, .none⟩ (.slice .none 0 0)) = W9 at *
    refine ⟨by simp, .inl ⟨_, _, rfl, run_takeDeferred hK9, ?_⟩⟩
    have f0 := cell_kept e0 (grownBy_putObj' W9 D (.deferred none)) (fun r e => by cases e; exact ⟨_, hK9, rfl⟩)
    have f1 := cell_kept e1 (grownBy_putObj' W9 D (.deferred none)) (fun r e => by cases e; exact ⟨_, hK9, rfl⟩)
    have f2 := cell_kept e2 (grownBy_putObj' W9 D (.deferred none)) (fun r e => by cases e; exact ⟨_, hK9, rfl⟩)
    have hBz := hB9.trans (belowK_b (w := w) (Nat.le_refl _) W9 D _ (.deferred none) (by omega) hK9 rfl rfl)
    have hlt : w.heap.size < (W9.putObj D (.deferred none)).heap.size := lt_of_cell f0
    generalize W9.putObj D (.deferred none) = WZ at *
    exact ⟨.agg #[.int .i64 0, .slice .none 0 0, .slice .none 0 0], by simp [results, Try.results11, go_sem, f0, f1, f2, hlt], rfl, hBz⟩
  case stop =>
    rintro D c pre W _ h
    exact h.elim
end Go.Proofs.Ytejongfipfefpaa
