import Derived.Test.YtdkidhipiglbkaaPrB
import Derived.RangeFuncBox
namespace Go.Proofs.Ytdkidhipiglbkaa
open Go.RowKit
set_option linter.unusedVariables false
set_option linter.unusedSimpArgs false
/-- A segment as it lies there. -/
structure Sg where
  va : Int
  fl : Int
  mem : Int
  p : Option Addr
  n : Nat
  c : Nat
  xs : List Int
def Sg.cells (s : Sg) : List Value := [.int .u64 s.va, .int .u32 s.fl, .slice s.p s.n s.c, .int .u64 s.mem]
def Sg.key (s : Sg) : Int × Int × Int × List Int := (s.va, s.fl, s.mem, s.xs)
def segc (L : List Sg) : List Value := L.flatMap Sg.cells
theorem segc_app (L : List Sg) (s : Sg) : segc (L ++ [s]) = segc L ++ s.cells := by simp [segc]
theorem sg_one (s : Sg) : ∀ u ∈ s.cells, u.oneCell' = true := by
  intro u hu
  simp only [Sg.cells, List.mem_cons, List.not_mem_nil, or_false] at hu
  rcases hu with rfl | rfl | rfl | rfl <;> rfl
/-- A row of segments of the call's own, with their bytes. -/
def Segs (w : World) (base : Nat) (p : Option Addr) (n c : Nat) (L : List Sg) : Prop :=
  w.ownsRow base 37 4 (.slice p n c) n (segc L) ∧ L.length = n ∧ ∀ s ∈ L, w.ownsRow base 5 1 (.slice s.p s.n s.c) s.n (by8 s.xs)
theorem own_keep {B : Nat} {w w' : World} {base e sz n : Nat} {v : Value} {xs : List Value} (h : w.ownsRow base e sz v n xs) (hb : Below B w w') (hB : w.heap.size ≤ B) : w'.ownsRow base e sz v n xs := by
  rcases h with ⟨h1, h2 | ⟨g, cap, cur, rfl, h3, h4, h5⟩⟩
  · exact ⟨h1, .inl h2⟩
  · have hg : g < w.heap.size := (Array.getElem?_eq_some_iff.1 h4).1
    exact ⟨h1, .inr ⟨g, cap, cur, rfl, h3, (hb.block g (by omega)).trans h4, h5⟩⟩
theorem own_mono' {w : World} {b b' : Nat} {p : Option Addr} {n c : Nat} {L : List Sg} (h : Segs w b p n c L) (hb : b' ≤ b) : Segs w b' p n c L := ⟨own_mono h.1 hb, h.2.1, fun s hs => own_mono (h.2.2 s hs) hb⟩
theorem segs_keep {B : Nat} {w w' : World} {base : Nat} {p : Option Addr} {n c : Nat} {L : List Sg} (h : Segs w base p n c L) (hb : Below B w w') (hB : w.heap.size ≤ B) : Segs w' base p n c L :=
  ⟨own_keep h.1 hb hB, h.2.1, fun s hs => own_keep (h.2.2 s hs) hb hB⟩
/-- The image as it lies in its box. -/
structure Im where
  p1 : Option Addr
  n1 : Nat
  c1 : Nat
  p2 : Option Addr
  n2 : Nat
  c2 : Nat
  da : Int
  ba : Int
  bs : Int
  en : Int
  p3 : Option Addr
  n3 : Nat
  c3 : Nat
def S7 (b : Nat) (I : Im) (w : World) : Prop := w.cell? ⟨b, 0, .none⟩ = some (.slice I.p1 I.n1 I.c1) ∧ w.cell? ⟨b, 1, .none⟩ = some (.slice I.p2 I.n2 I.c2) ∧ w.cell? ⟨b, 2, .none⟩ = some (.int .u64 I.da) ∧ w.cell? ⟨b, 3, .none⟩ = some (.int .u64 I.ba) ∧ w.cell? ⟨b, 4, .none⟩ = some (.int .u64 I.bs) ∧ w.cell? ⟨b, 5, .none⟩ = some (.int .u64 I.en) ∧ w.cell? ⟨b, 6, .none⟩ = some (.slice I.p3 I.n3 I.c3)
theorem s7_keep {b B : Nat} {I : Im} {w w' : World} (h : S7 b I w) (hb : Below B w w') (h0 : b < B) : S7 b I w' := by
  obtain ⟨k0, k1, k2, k3, k4, k5, k6⟩ := h
  exact ⟨(hb.cell h0).trans k0, (hb.cell h0).trans k1, (hb.cell h0).trans k2, (hb.cell h0).trans k3, (hb.cell h0).trans k4, (hb.cell h0).trans k5, (hb.cell h0).trans k6⟩
/-- Program in its midst: the image's box, the result's cell, the variable e with its segments. -/
structure Ps (w W : World) (B : Nat) (I : Im) (p : Option Addr) (n c : Nat) (L : List Sg) : Prop where
  box : S7 B I W
  r0 : W.cell? ⟨B + 1, 0, .none⟩ = some (.int .u64 0)
  r1 : W.cell? ⟨B + 1, 1, .none⟩ = some (.slice none 0 0)
  e0 : W.cell? ⟨B + 1 + 1, 0, .none⟩ = some (.int .u64 I.en)
  e1 : W.cell? ⟨B + 1 + 1, 1, .none⟩ = some (.slice p n c)
  f1 : ∀ i, W.frozen? ⟨B + 1, i, .none⟩ = false
  f2 : ∀ i, W.frozen? ⟨B + 1 + 1, i, .none⟩ = false
  segs : Segs W (B + 3) p n c L
  bel : Below B w W
  sz : B + 3 ≤ W.heap.size
section
variable {w W W' : World} {B : Nat} {I : Im} {p : Option Addr} {n c : Nat} {L : List Sg}
theorem Ps.keep (h : Ps w W B I p n c L) (hb : Below W.heap.size W W') : Ps w W' B I p n c L := by
  have := h.sz
  have hs := hb.size
  exact ⟨s7_keep h.box hb (by omega), (hb.cell (by show B + 1 < _; omega)).trans h.r0, (hb.cell (by show B + 1 < _; omega)).trans h.r1, (hb.cell (by show B + 1 + 1 < _; omega)).trans h.e0, (hb.cell (by show B + 1 + 1 < _; omega)).trans h.e1,
    fun i => (hb.frozen (by show B + 1 < _; omega)).trans (h.f1 i), fun i => (hb.frozen (by show B + 1 + 1 < _; omega)).trans (h.f2 i), segs_keep h.segs hb (Nat.le_refl _), h.bel.trans (hb.mono (by omega)), by omega⟩
theorem Ps.alloc (h : Ps w W B I p n c L) (o : Obj) : Ps w (W.alloc o) B I p n c L := h.keep ((Below.refl _ _).alloc (Nat.le_refl _) o)
theorem Ps.drew (h : Ps w W B I p n c L) : Ps w W.drew B I p n c L := h.keep (Below.refl _ _).drew
theorem cells4_new (w : World) (va fl mem : Int) (q : Option Addr) (k d : Nat) (t : TypeId) (xs : List Int) : ∀ j u, (Sg.cells ⟨va, fl, mem, q, k, d, xs⟩)[j]? = some u → (w.alloc (.cells #[.int .u64 va, .int .u32 fl, .slice q k d, .int .u64 mem] t)).cell? ((⟨w.heap.size, 0, .none⟩ : Addr).add j) = some u := by
  intro j u hj
  rw [addr_add, World.cell?_alloc_at _ _ _ _ rfl, Nat.zero_add]
  simpa [Sg.cells] using hj
theorem Ps.bytes (h : Ps w W B I p n c L) {xs : List Int} {q : Option Addr} {d : Nat} (ho : W'.ownsRow W.heap.size 5 1 (.slice q xs.length d) xs.length (by8 xs)) (hb : Below W.heap.size W W') (o : Obj) :
    Ps w (W'.alloc o) B I p n c L ∧ (W'.alloc o).ownsRow (B + 3) 5 1 (.slice q xs.length d) xs.length (by8 xs) := ⟨(h.keep hb).alloc o, own_mono (ho.alloc o) h.sz⟩
theorem own_grown {V V' : World} {base e e' sz sz' k k' : Nat} {v v' : Value} {xs xs' : List Value} (h : V.ownsRow base e sz v k xs) (h' : V.ownsRow base e' sz' v' k' xs') (hg : V.grownBy V' v'.ownBlock) (he : e ≠ e') : V'.ownsRow base e sz v k xs := by
  rcases h with ⟨h1, h2 | ⟨g, cap, cur, rfl, h3, h4, h5⟩⟩
  · exact ⟨h1, .inl h2⟩
  · have hl : g < V.heap.size := (Array.getElem?_eq_some_iff.1 h4).1
    refine ⟨h1, .inr ⟨g, cap, cur, rfl, h3, (hg.block g hl ?_).trans h4, h5⟩⟩
    intro hc
    rcases h'.2 with ⟨rfl, _⟩ | ⟨g', cap', cur', rfl, _, h6, _⟩
    · cases hc
    · simp only [Value.ownBlock, Option.some.injEq] at hc
      subst hc
      rw [h4] at h6
      simp only [Option.some.injEq, Obj.cells.injEq] at h6
      exact he h6.2.1
/-- Behind the append and the store. -/
theorem Ps.add {V V7 : World} {s : Sg} {p7 : Option Addr} {c7 : Nat} (h : Ps w V B I p n c L) (hs : V.ownsRow (B + 3) 5 1 (.slice s.p s.n s.c) s.n (by8 s.xs)) (ho : V7.ownsRow (B + 3) 37 4 (.slice p7 (n + 1) c7) (n + 1) (segc L ++ s.cells))
    (hg : V.grownBy V7 (Value.ownBlock (.slice p n c))) : Ps w (V7.setCell ⟨B + 1 + 1, 1, .none⟩ (.slice p7 (n + 1) c7)) B I p7 (n + 1) c7 (L ++ [s]) := by
  have b1 : Below (B + 3) V V7 := (Below.refl _ _).grown hg h.sz (own_block h.segs.1)
  have z1 := b1.size
  have z0 := h.sz
  have e1 : V7.cell? ⟨B + 1 + 1, 1, .none⟩ = some (.slice p n c) := (b1.cell (by show B + 1 + 1 < _; omega)).trans h.e1
  have hb2 : Below (B + 1 + 1) V7 (V7.setCell ⟨B + 1 + 1, 1, .none⟩ (.slice p7 (n + 1) c7)) := ⟨rfl, rfl, rfl, by simp, fun k hk => Below.heap_setCell _ _ _ k (by show k ≠ B + 1 + 1; omega)⟩
  have hrow : ∀ {e sz k : Nat} {v : Value} {xs : List Value}, V7.ownsRow (B + 3) e sz v k xs → (V7.setCell ⟨B + 1 + 1, 1, .none⟩ (.slice p7 (n + 1) c7)).ownsRow (B + 3) e sz v k xs := by
    intro e sz k v xs hk
    rcases hk with ⟨h1, h2 | ⟨g, cap, cur, rfl, h3, h4, h5⟩⟩
    · exact ⟨h1, .inl h2⟩
    · exact ⟨h1, .inr ⟨g, cap, cur, rfl, h3, (Below.heap_setCell _ _ _ g (by show g ≠ B + 1 + 1; omega)).trans h4, h5⟩⟩
  have hbb := b1.mono (show B + 1 + 1 ≤ B + 3 by omega)
  refine ⟨s7_keep h.box (hbb.trans hb2) (by omega), ((hbb.trans hb2).cell (by show B + 1 < _; omega)).trans h.r0, ((hbb.trans hb2).cell (by show B + 1 < _; omega)).trans h.r1, ?_, ?_, fun i => ((hbb.trans hb2).frozen (by show B + 1 < _; omega)).trans (h.f1 i), fun i => ?_, ?_, h.bel.trans ((hbb.trans hb2).mono (by omega)), ?_⟩
  · exact (World.cell?_setCell_other (w := V7) (a := ⟨B + 1 + 1, 1, .none⟩) (b := ⟨B + 1 + 1, 0, .none⟩) (v := .slice p7 (n + 1) c7) (h := fun e => by simp at e) ..).trans ((b1.cell (by show B + 1 + 1 < _; omega)).trans h.e0)
  · exact World.cell?_setCell_same (w := V7) (a := ⟨B + 1 + 1, 1, .none⟩) (v := .slice p7 (n + 1) c7) (h := e1) ..
  · rw [World.frozen?_setCell]
    exact (b1.frozen (by show B + 1 + 1 < _; omega)).trans (h.f2 i)
  · refine ⟨?_, by simp [h.segs.2.1], fun t ht => ?_⟩
    · rw [segc_app]
      exact hrow ho
    · rcases List.mem_append.1 ht with ht | ht
      · exact hrow (own_grown (h.segs.2.2 t ht) h.segs.1 hg (by decide))
      · simp only [List.mem_singleton] at ht
        subst ht
        exact hrow (own_grown hs h.segs.1 hg (by decide))
  · simp only [World.size_setCell]
    omega
theorem byt_keep' {w' : World} {xs : List Int} (h : Byt w p n c xs) (hb : Below B w w') (hB : w.heap.size ≤ B) : Byt w' p n c xs := by
  obtain ⟨h1, h2, h3, h4⟩ := h
  refine ⟨h1, h2, h3, ?_⟩
  rcases h4 with h4 | ⟨b, o, rfl, h5, h6⟩
  · exact .inl h4
  · exact .inr ⟨b, o, rfl, Nat.lt_of_lt_of_le h5 hb.size, fun i x hx => (hb.cell (by show b < B; omega)).trans (h6 i x hx)⟩
end
end Go.Proofs.Ytdkidhipiglbkaa
