import Derived.Test.YtloldhcljdmofaaDoorAr
namespace Go.Proofs.YtloldhcljdmofaaDoor
open Go.RowKit
set_option linter.unusedVariables false
set_option linter.unusedSimpArgs false
/-- A variable of two cells. -/
def Cl2 (W : World) (p : Nat) (a b : Value) : Prop := W.cell? ⟨p, 0, .none⟩ = some a ∧ W.cell? ⟨p, 1, .none⟩ = some b ∧ ∀ i, W.frozen? ⟨p, i, .none⟩ = false
theorem Cl2.below {W W' : World} {p : Nat} {a b : Value} (h : Cl2 W p a b) (k : Below W.heap.size W W') : Cl2 W' p a b :=
  ⟨(k.cell (lt_of_cell h.1)).trans h.1, (k.cell (lt_of_cell h.2.1)).trans h.2.1, fun i => (k.frozen (p := ⟨p, i, .none⟩) (show p < W.heap.size from lt_of_cell (x := ⟨p, 0, .none⟩) h.1)).trans (h.2.2 i)⟩
theorem Cl2.blk {W W' : World} {p : Nat} {a b : Value} (h : Cl2 W p a b) (k : W'.heap[p]? = W.heap[p]?) : Cl2 W' p a b :=
  ⟨(World.cell?_of_block k).trans h.1, (World.cell?_of_block k).trans h.2.1, fun i => (World.frozen?_of_block (a := ⟨p, i, .none⟩) k).trans (h.2.2 i)⟩
theorem cl2_new (W : World) (a b : Value) (t : Nat) : Cl2 (W.alloc (.cells #[a, b] t)) W.heap.size a b :=
  ⟨World.cell?_alloc_at _ _ _ _ rfl, World.cell?_alloc_at _ _ _ _ rfl, fun i => World.frozen?_alloc_new _ _ _ _⟩
theorem Cl2.lt {W : World} {p : Nat} {a b : Value} (h : Cl2 W p a b) : p < W.heap.size := lt_of_cell (x := ⟨p, 0, .none⟩) h.1
theorem byt_move {W W' : World} {p : Option Addr} {n c : Nat} {xs : List Int} (h : Byt W p n c xs) (hk : ∀ b o, p = some ⟨b, o, .none⟩ → n ≠ 0 → W'.heap[b]? = W.heap[b]?) : Byt W' p n c xs := by
  obtain ⟨h1, h2, h3, h4⟩ := h
  refine ⟨h1, h2, h3, ?_⟩
  rcases h4 with h4 | ⟨b, o, rfl, h5, h6⟩
  · exact .inl h4
  · by_cases hn : n = 0
    · exact .inl hn
    · have e := hk b o rfl hn
      refine .inr ⟨b, o, rfl, ?_, fun i x hx => (World.cell?_of_block e).trans (h6 i x hx)⟩
      have : W.heap[b]? = some W.heap[b] := Array.getElem?_eq_getElem h5
      rw [← e] at this
      exact (Array.getElem?_eq_some_iff.1 this).1
theorem bytesB_any {p1 p2 : Option Addr} {n c1 c2 : Nat} {xs : List Int} {w : World} (hn : n < 140737488355000) (h1 : Byt w p1 n c1 xs) (h2 : Byt w p2 n c2 xs) :
    Calls Tryd.prog 12 #[.slice p1 n c1, .slice p2 n c2] w fun e w' => e = .returned (.bool true) ∧ Below w.heap.size w w' :=
  (bytes_any p1 p2 n c1 c2 xs w hn h1 h2).mono fun e w' ⟨h1, k, h2⟩ => ⟨h1, by rw [h2]; exact ⟨rfl, rfl, rfl, Nat.le_refl _, fun _ _ => rfl⟩⟩
theorem Cp.move {w w' w0 : World} {X m : Nat} {sv : Value} {E : List (Sg × Value)} {S : Nat → Sr} {D D0 : Nat → List Int} (h : Cp w X sv E S D m) (h0 : Cp w0 X sv E S D0 m) (hk : ∀ g, X ≤ g → g < w0.heap.size → w'.heap[g]? = w.heap[g]?) : Cp w' X sv E S D m := by
  refine ⟨row_of_block h.own fun g hg => hk g (h0.own.lt g hg).1 (h0.own.lt g hg).2, ⟨fun i x hx => ?_, h.ln.2⟩, h.gs, h.va, h.fl, h.mem, h.sz, h.ln_, h.by_⟩
  obtain ⟨g, c, e1, e2, e3⟩ := h.ln.1 i x hx
  obtain ⟨g', c', e1', e2', e3'⟩ := h0.ln.1 i x hx
  have hi := (h.get hx).1
  rw [e1, h.ln_ i hi, h0.ln_ i hi] at e1'
  injection e1' with e4
  injection e4 with e4
  injection e4 with e4
  subst e4
  refine ⟨g, c, e1, e2, row_of_block e3 fun k hk2 => ?_⟩
  injection hk2 with hk2
  subst hk2
  exact hk g (own_block e3 g rfl) (own_lt e3')
/-- The rows of the copy lie in the room that was made for it. -/
theorem Cp.room {w : World} {X m : Nat} {sv : Value} {E : List (Sg × Value)} {S : Nat → Sr} {D : Nat → List Int} (h : Cp w X sv E S D m) {i : Nat} {x : Sg × Value} {g c : Nat} (hx : E[i]? = some x) (hv : x.2 = .slice (some ⟨g, 0, .none⟩) (D i).length c) : X ≤ g ∧ g < w.heap.size := by
  obtain ⟨g', c', e1, e2, e3⟩ := h.ln.1 i x hx
  rw [hv] at e1
  injection e1 with e1
  injection e1 with e1
  injection e1 with e1
  subst e1
  exact ⟨own_block e3 g rfl, own_lt e3⟩
theorem Cp.oth {w W W' : World} {X m : Nat} {sv : Value} {E : List (Sg × Value)} {S : Nat → Sr} {D : Nat → List Int} (h : Cp w X sv E S D m) (ho : Oth W W' E D) {k : Nat} (hk : k < W.heap.size) (hn : k < X ∨ w.heap.size ≤ k) : W'.heap[k]? = W.heap[k]? :=
  ho k hk fun i x g c hx hv e => by have := h.room hx hv; omega
theorem err_set {V : World} {b : Nat} {v : Value} {a r : Int} {k0 x y : Value} (h : ErrR V v a r) (h0 : V.cell? ⟨b, 0, .none⟩ = some k0) (hk : ∀ s, k0 ≠ .string s) : ErrR ((V.setCell ⟨b, 0, .none⟩ x).setCell ⟨b, 1, .none⟩ y) v a r := by
  rcases h with ⟨h1, B, z, hB, hv, c0, c1, c2⟩ | h
  · have hne : B ≠ b := fun e => by rw [e, h0] at c0; injection c0 with c0; exact hk _ c0
    have so : ∀ o, ((V.setCell ⟨b, 0, .none⟩ x).setCell ⟨b, 1, .none⟩ y).cell? ⟨B, o, .none⟩ = V.cell? ⟨B, o, .none⟩ := fun o => by
      rw [World.cell?_setCell_other _ _ _ _ (by simp [Ne.symm hne]), World.cell?_setCell_other _ _ _ _ (by simp [Ne.symm hne])]
    exact .inl ⟨h1, B, z, by rw [World.size_setCell, World.size_setCell]; exact hB, hv, (so 0).trans c0, (so 1).trans c1, (so 2).trans c2⟩
  · exact .inr h
theorem ref_set {V : World} {b : Nat} {v : Value} {a r : Int} {k0 x y : Value} (h : RefR V v a r) (h0 : V.cell? ⟨b, 0, .none⟩ = some k0) (hk : ∀ s, k0 ≠ .string s) : RefR ((V.setCell ⟨b, 0, .none⟩ x).setCell ⟨b, 1, .none⟩ y) v a r := by
  rcases h with ⟨h1, B, hB, hv, c0, c1⟩ | h
  · have hne : B ≠ b := fun e => by rw [e, h0] at c0; injection c0 with c0; exact hk _ c0
    have so : ∀ o, ((V.setCell ⟨b, 0, .none⟩ x).setCell ⟨b, 1, .none⟩ y).cell? ⟨B, o, .none⟩ = V.cell? ⟨B, o, .none⟩ := fun o => by
      rw [World.cell?_setCell_other _ _ _ _ (by simp [Ne.symm hne]), World.cell?_setCell_other _ _ _ _ (by simp [Ne.symm hne])]
    exact .inl ⟨h1, B, by rw [World.size_setCell, World.size_setCell]; exact hB, hv, (so 0).trans c0, (so 1).trans c1⟩
  · exact .inr h
theorem cl2_set {V : World} {b : Nat} {k0 k1 x y : Value} (h : Cl2 V b k0 k1) : Cl2 ((V.setCell ⟨b, 0, .none⟩ x).setCell ⟨b, 1, .none⟩ y) b x y :=
  ⟨(World.cell?_setCell_other _ _ _ _ (by simp)).trans (World.cell?_setCell_same' _ _ _ (by rw [h.1]; rfl)), World.cell?_setCell_same' _ _ _ (by rw [World.cell?_setCell_other _ _ _ _ (by simp), h.2.1]; rfl), fun i => by rw [World.frozen?_setCell, World.frozen?_setCell]; exact h.2.2 i⟩
theorem set2_blk {V : World} {b k : Nat} {x y : Value} (h : k ≠ b) : ((V.setCell ⟨b, 0, .none⟩ x).setCell ⟨b, 1, .none⟩ y).heap[k]? = V.heap[k]? :=
  (heap_setCell_other _ ⟨b, 1, .none⟩ k _ h).trans (heap_setCell_other _ ⟨b, 0, .none⟩ k _ h)
theorem cp_new {w W1 W2 : World} {q : Option Addr} {m c : Nat} {S : Nat → Sr} {D : Nat → List Int} {sv : Value} {E : List (Sg × Value)} (h : Arg w q m c S D) (hz : sumN S m ≤ 400000) (own : W2.ownsRow W1.heap.size 54 4 sv E.length (flatE E)) (ln : LnP W1.heap.size W2 E D) (gs : E.map (·.1) = sgsG S m) : Cp W2 W1.heap.size sv E S D m :=
  ⟨own, ln, gs, h.va, h.fl, h.mem, fun i hi => Nat.le_trans (sum_one m (Nat.le_refl _) i hi) hz, fun i hi => (h.dat i hi).1, h.by_⟩
end Go.Proofs.YtloldhcljdmofaaDoor
