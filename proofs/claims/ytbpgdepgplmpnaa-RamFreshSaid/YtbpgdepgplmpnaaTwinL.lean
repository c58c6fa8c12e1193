import Derived.Test.YtbpgdepgplmpnaaTwinM
import Derived.Deep.RegionLaw
import Derived.Deep.Cut
namespace Go.Proofs.Ytbpgdepgplmpnaa
open Go.RowKit
set_option linter.unusedVariables false
set_option linter.unusedSimpArgs false
def TwinP (w : World) (N : Int) (nf nh : Nat) (F P : Nat → Int) (ln : Nat → Nat) (R : Nat → Nat → Int) (e : Ending) (w' : World) : Prop := ∃ qf cf qh ch, e = .returned (.agg #[.int .i64 N, .slice qf nf cf, .slice qh nh ch]) ∧ See w' .u64 qf nf F ∧ SeeH w' qh nh P ln R ∧ Below w.heap.size w w'
theorem TSt.start {w W0 V : World} {A base nf cf nh ch c6 : Nat} {N : Int} {qf qh q6 : Option Addr} {F P : Nat → Int} {ln : Nat → Nat} {R : Nat → Nat → Int} {x y z : Value} (hz : W0.heap.size = w.heap.size + 1 + 1) (hA : C3 W0 w.heap.size (.int .i64 N) (.slice qf nf cf) (.slice qh nh ch)) (hB : C3 W0 (w.heap.size + 1) (.int .i64 0) (.slice .none 0 0) (.slice .none 0 0)) (hBe : Below w.heap.size w W0)
    (hV : Below W0.heap.size W0 V) (hAz : W0.heap.size ≤ A) (hC : C3 V A x y z) (hO : V.ownsRow base 22 1 (.slice q6 nf c6) nf ((List.range nf).map fun i => .int .u64 (F i))) (hne : Value.ownBlock (.slice q6 nf c6) ≠ some A) (hbs : w.heap.size + 1 < base) :
    ∃ a qf' cf', Value.pointer (some ⟨A, 0, .none⟩) = .pointer (some ⟨a, 0, .none⟩) ∧ w.heap.size + 1 + 1 ≤ a ∧ a < (((V.setCell ⟨A, 0, .none⟩ (.int .i64 N)).setCell ⟨A, 1, .none⟩ (.slice q6 nf c6)).setCell ⟨A, 2, .none⟩ (.slice .none 0 0)).heap.size ∧ TSt w (((V.setCell ⟨A, 0, .none⟩ (.int .i64 N)).setCell ⟨A, 1, .none⟩ (.slice q6 nf c6)).setCell ⟨A, 2, .none⟩ (.slice .none 0 0)) (((V.setCell ⟨A, 0, .none⟩ (.int .i64 N)).setCell ⟨A, 1, .none⟩ (.slice q6 nf c6)).setCell ⟨A, 2, .none⟩ (.slice .none 0 0)).heap.size a N nf cf' 0 qf' F P ln R [] .none 0 ∧ C3 (((V.setCell ⟨A, 0, .none⟩ (.int .i64 N)).setCell ⟨A, 1, .none⟩ (.slice q6 nf c6)).setCell ⟨A, 2, .none⟩ (.slice .none 0 0)) w.heap.size (.int .i64 N) (.slice qf nf cf) (.slice qh nh ch) := by
  obtain ⟨a0, a1, a2, z0, z1, z2⟩ := hC
  have hAl : A < V.heap.size := lt_of_cell a0
  have e0 : (((V.setCell ⟨A, 0, .none⟩ (.int .i64 N)).setCell ⟨A, 1, .none⟩ (.slice q6 nf c6)).setCell ⟨A, 2, .none⟩ (.slice .none 0 0)).cell? ⟨A, 0, .none⟩ = some (.int .i64 N) := by
    rw [World.cell?_setCell_other _ _ _ _ (by simp), World.cell?_setCell_other _ _ _ _ (by simp)]
    exact World.cell?_setCell_same' _ _ _ (by rw [a0]; rfl)
  have e1 : (((V.setCell ⟨A, 0, .none⟩ (.int .i64 N)).setCell ⟨A, 1, .none⟩ (.slice q6 nf c6)).setCell ⟨A, 2, .none⟩ (.slice .none 0 0)).cell? ⟨A, 1, .none⟩ = some (.slice q6 nf c6) := by
    rw [World.cell?_setCell_other _ _ _ _ (by simp)]
    exact World.cell?_setCell_same' _ _ _ (by rw [World.cell?_setCell_other _ _ _ _ (by simp), a1]; rfl)
  have e2 : (((V.setCell ⟨A, 0, .none⟩ (.int .i64 N)).setCell ⟨A, 1, .none⟩ (.slice q6 nf c6)).setCell ⟨A, 2, .none⟩ (.slice .none 0 0)).cell? ⟨A, 2, .none⟩ = some (.slice .none 0 0) :=
    World.cell?_setCell_same' _ _ _ (by rw [World.cell?_setCell_other _ _ _ _ (by simp), World.cell?_setCell_other _ _ _ _ (by simp), a2]; rfl)
  have f : ∀ j, (((V.setCell ⟨A, 0, .none⟩ (.int .i64 N)).setCell ⟨A, 1, .none⟩ (.slice q6 nf c6)).setCell ⟨A, 2, .none⟩ (.slice .none 0 0)).frozen? ⟨A, j, .none⟩ = V.frozen? ⟨A, j, .none⟩ := fun j => by rw [World.frozen?_setCell, World.frozen?_setCell, World.frozen?_setCell]
  have hB9 : Below W0.heap.size W0 (((V.setCell ⟨A, 0, .none⟩ (.int .i64 N)).setCell ⟨A, 1, .none⟩ (.slice q6 nf c6)).setCell ⟨A, 2, .none⟩ (.slice .none 0 0)) := ((hV.setCell (p := ⟨A, 0, .none⟩) hAz _).setCell (p := ⟨A, 1, .none⟩) hAz _).setCell (p := ⟨A, 2, .none⟩) hAz _
  have hs9 : (((V.setCell ⟨A, 0, .none⟩ (.int .i64 N)).setCell ⟨A, 1, .none⟩ (.slice q6 nf c6)).setCell ⟨A, 2, .none⟩ (.slice .none 0 0)).heap.size = V.heap.size := by simp only [World.size_setCell]
  have hk9 : ∀ k, k ≠ A → (((V.setCell ⟨A, 0, .none⟩ (.int .i64 N)).setCell ⟨A, 1, .none⟩ (.slice q6 nf c6)).setCell ⟨A, 2, .none⟩ (.slice .none 0 0)).heap[k]? = V.heap[k]? := fun k hk => by
    rw [Below.heap_setCell _ _ _ _ (by show k ≠ A; omega), Below.heap_setCell _ _ _ _ (by show k ≠ A; omega), Below.heap_setCell _ _ _ _ (by show k ≠ A; omega)]
  generalize (((V.setCell ⟨A, 0, .none⟩ (.int .i64 N)).setCell ⟨A, 1, .none⟩ (.slice q6 nf c6)).setCell ⟨A, 2, .none⟩ (.slice .none 0 0)) = V9 at *
  refine ⟨A, q6, c6, rfl, by omega, by omega, ⟨rfl, fun j hj => by omega, ⟨e0, e1, e2, (f 0).trans z0, (f 1).trans z1, (f 2).trans z2⟩, hB.below hB9, ?_, World.ownsRow_nil _ _ _ _, hBe.trans (hB9.mono hBe.size), Nat.le_refl _⟩, hA.below hB9⟩
  by_cases hn : nf = 0
  · exact .inl hn
  · obtain ⟨g, rfl, hgb, hg⟩ := row_shape hO (by omega)
    have hgA : g ≠ A := fun e => hne (by rw [e]; rfl)
    refine .inr ⟨g, 0, rfl, by omega, ⟨hgA, by omega⟩, fun k hk => ?_⟩
    rw [Nat.zero_add]
    refine (World.cell?_of_block (a := ⟨g, k, .none⟩) (hk9 g hgA)).trans ((hO.cellAt k (by omega)).trans ?_)
    simp [List.getElem?_range hk]
theorem TSt.startN {w W0 V : World} {base nf cf nh ch c6 : Nat} {N : Int} {qf qh q6 : Option Addr} {F P : Nat → Int} {ln : Nat → Nat} {R : Nat → Nat → Int} (hz : W0.heap.size = w.heap.size + 1 + 1) (hA : C3 W0 w.heap.size (.int .i64 N) (.slice qf nf cf) (.slice qh nh ch)) (hB : C3 W0 (w.heap.size + 1) (.int .i64 0) (.slice .none 0 0) (.slice .none 0 0)) (hBe : Below w.heap.size w W0)
    (hV : Below W0.heap.size W0 V) (hO : V.ownsRow base 22 1 (.slice q6 nf c6) nf ((List.range nf).map fun i => .int .u64 (F i))) (hbs : w.heap.size + 1 < base) :
    ∃ a qf' cf', Value.pointer (some ⟨V.heap.size, 0, .none⟩) = .pointer (some ⟨a, 0, .none⟩) ∧ w.heap.size + 1 + 1 ≤ a ∧ a < (V.alloc (.cells #[.int .i64 N, .slice q6 nf c6, .slice .none 0 0] 67)).heap.size ∧ TSt w (V.alloc (.cells #[.int .i64 N, .slice q6 nf c6, .slice .none 0 0] 67)) (V.alloc (.cells #[.int .i64 N, .slice q6 nf c6, .slice .none 0 0] 67)).heap.size a N nf cf' 0 qf' F P ln R [] .none 0 ∧ C3 (V.alloc (.cells #[.int .i64 N, .slice q6 nf c6, .slice .none 0 0] 67)) w.heap.size (.int .i64 N) (.slice qf nf cf) (.slice qh nh ch) := by
  have hs := hV.size
  have hB9 : Below W0.heap.size W0 (V.alloc (.cells #[.int .i64 N, .slice q6 nf c6, .slice .none 0 0] 67)) := hV.alloc hs _
  have hC := C3.new V (.int .i64 N) (.slice q6 nf c6) (.slice .none 0 0) 67
  have hO9 := hO.alloc (.cells #[.int .i64 N, .slice q6 nf c6, .slice .none 0 0] 67)
  have hs9 : (V.alloc (.cells #[.int .i64 N, .slice q6 nf c6, .slice .none 0 0] 67)).heap.size = V.heap.size + 1 := World.size_alloc _ _
  have hlt : ∀ g, Value.ownBlock (.slice q6 nf c6) = some g → g < V.heap.size := fun g hg => (hO.lt g hg).2
  generalize (V.alloc (.cells #[.int .i64 N, .slice q6 nf c6, .slice .none 0 0] 67)) = V9 at *
  refine ⟨V.heap.size, q6, c6, rfl, by omega, by omega, ⟨rfl, fun j hj => by omega, hC, hB.below hB9, ?_, World.ownsRow_nil _ _ _ _, hBe.trans (hB9.mono hBe.size), Nat.le_refl _⟩, hA.below hB9⟩
  by_cases hn : nf = 0
  · exact .inl hn
  · obtain ⟨g, rfl, hgb, hg⟩ := row_shape hO9 (by omega)
    have hgA := hlt g rfl
    refine .inr ⟨g, 0, rfl, by omega, ⟨by omega, by omega⟩, fun k hk => ?_⟩
    rw [Nat.zero_add]
    refine (hO9.cellAt k (by omega)).trans ?_
    simp [List.getElem?_range hk]
theorem ownsRow_base {W : World} {X Y e s n : Nat} {v : Value} {xs : List Value} (h : W.ownsRow Y e s v n xs) (hXY : X ≤ Y) : W.ownsRow X e s v n xs :=
  ⟨h.1, h.2.imp id (fun ⟨g, cap, cur, hv, hb, r⟩ => ⟨g, cap, cur, hv, Nat.le_trans hXY hb, r⟩)⟩
theorem C3.step {W w5 : World} {X a b i c2 : Nat} {q2 : Option Addr} {x y z u : Value} {ob : Obj} {fl : List Value} (h : C3 W b x y z) (hr : W.ownsRow X 76 2 (.slice q2 i c2) i fl) (hbX : b < X) (hXW : X ≤ W.heap.size) (hba : b ≠ a) (hgr : (W.alloc ob).grownBy w5 (Value.ownBlock (.slice q2 i c2))) : C3 (w5.setCell ⟨a, 2, .none⟩ u) b x y z := by
  have e : (w5.setCell ⟨a, 2, .none⟩ u).heap[b]? = W.heap[b]? := by
    rw [Below.heap_setCell _ _ _ _ (by show b ≠ a; exact hba), hgr.block b (by simp only [World.size_alloc]; omega) (fun e => by have := (hr.lt b e.symm).1; omega)]
    exact Below.heap_alloc W _ b (by omega)
  obtain ⟨a0, a1, a2, z0, z1, z2⟩ := h
  exact ⟨(World.cell?_of_block e).trans a0, (World.cell?_of_block e).trans a1, (World.cell?_of_block e).trans a2, (World.frozen?_of_block e).trans z0, (World.frozen?_of_block e).trans z1, (World.frozen?_of_block e).trans z2⟩
end Go.Proofs.Ytbpgdepgplmpnaa
