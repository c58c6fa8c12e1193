import Derived.Test.YtejongfipfefpaaRfC
import Derived.Test.YtejongfipfefpaaImgs
namespace Go.Proofs.Ytejongfipfefpaa
open Go.RowKit
set_option linter.unusedVariables false
set_option linter.unusedSimpArgs false
/-- The document's memory, as Image reads it. -/
structure Qv (W : World) (q hb n : Nat) (lv : Value) (B : Nat → Int) (L : List Nat) : Prop where
  c0 : W.cell? ⟨q, 0, .none⟩ = some (.slice (some ⟨hb, 0, .none⟩) n n)
  c1 : W.cell? ⟨q, 1, .none⟩ = some lv
  lr : Lr W lv L
  hn : ∀ i, i < n → i ∈ L → W.cell? ⟨hb, i, .none⟩ = some (.slice .none 0 0)
  hh : ∀ i, i < n → i ∉ L → ∃ fb, W.cell? ⟨hb, i, .none⟩ = some (.slice (some ⟨fb, 0, .none⟩) 4096 4096) ∧ ∀ t, t < 4096 → W.cell? ⟨fb, t, .none⟩ = some (.int .u8 (B (i * 4096 + t)))
  le : L.length ≤ 4096
  lt : ∀ i ∈ L, i < 4096
  n1 : 1 ≤ n
  n2 : n ≤ 4096
theorem Qv.below {W V : World} {q hb n : Nat} {lv : Value} {B : Nat → Int} {L : List Nat} (h : Qv W q hb n lv B L) (b : Below W.heap.size W V) : Qv V q hb n lv B L := by
  have k : ∀ {x : Addr} {v : Value}, W.cell? x = some v → V.cell? x = some v := fun {x v} hc => (b.cell (lt_of_cell hc)).trans hc
  refine ⟨k h.c0, k h.c1, h.lr.below b, fun i hi hm => k (h.hn i hi hm), fun i hi hm => ?_, h.le, h.lt, h.n1, h.n2⟩
  obtain ⟨fb, h1, h2⟩ := h.hh i hi hm
  exact ⟨fb, k h1, fun t ht => k (h2 t ht)⟩
/-- While the document's Image gathers the held frames. -/
structure HQ (w W : World) (X N : Nat) (B : Nat → Int) (L : List Nat) (qf : Option Addr) (cf i : Nat) (hs : List (Nat × Nat)) (q2 : Option Addr) (c2 : Nat) : Prop where
  fs : hs.map (·.1) = heldTo L i
  c : C3 W (w.heap.size + 1) (.int .i64 N) (.slice qf L.length cf) (.slice q2 hs.length c2)
  r : C3 W w.heap.size (.int .i64 0) (.slice .none 0 0) (.slice .none 0 0)
  fr : W.ownsRow X 26 1 (.slice qf L.length cf) L.length (L.map adv)
  hr : W.ownsRow X 29 2 (.slice q2 hs.length c2) hs.length (flatH hs)
  da : ∀ x ∈ hs, X ≤ x.2 ∧ (∀ t, t < 4096 → W.cell? ⟨x.2, t, .none⟩ = some (.int .u8 (B (x.1 * 4096 + t)))) ∧ Value.ownBlock (.slice q2 hs.length c2) ≠ some x.2
  fq : ∀ k, Value.ownBlock (.slice q2 hs.length c2) = some k → Value.ownBlock (.slice qf L.length cf) ≠ some k
  be : Below w.heap.size w W
  xs : X ≤ W.heap.size
section
variable {w W : World} {X N cf i c2 : Nat} {B : Nat → Int} {L : List Nat} {qf q2 : Option Addr} {hs : List (Nat × Nat)}
theorem HQ.below {W' : World} (h : HQ w W X N B L qf cf i hs q2 c2) (k : Below W.heap.size W W') : HQ w W' X N B L qf cf i hs q2 c2 :=
  ⟨h.fs, h.c.below k, h.r.below k, owns_below h.fr k, owns_below h.hr k, fun x hx => ⟨(h.da x hx).1, fun t ht => (k.cell (lt_of_cell ((h.da x hx).2.1 t ht))).trans ((h.da x hx).2.1 t ht), (h.da x hx).2.2⟩, h.fq, h.be.trans (k.mono h.be.size), Nat.le_trans h.xs k.size⟩
theorem HQ.skip (h : HQ w W X N B L qf cf i hs q2 c2) (hi : i ∈ L) : HQ w W X N B L qf cf (i + 1) hs q2 c2 :=
  ⟨by rw [heldTo_in L i hi]; exact h.fs, h.c, h.r, h.fr, h.hr, h.da, h.fq, h.be, h.xs⟩
theorem HQ.step (h : HQ w W X N B L qf cf i hs q2 c2) (hX : w.heap.size + 1 + 1 ≤ X) (hi : i ∉ L) {g : Nat} (g1 : X ≤ g) (g2 : ∀ t, t < 4096 → W.cell? ⟨g, t, .none⟩ = some (.int .u8 (B (i * 4096 + t)))) (g3 : Value.ownBlock (.slice q2 hs.length c2) ≠ some g) {o : Obj} {w5 : World} {gr cap : Nat}
    (hown : w5.ownsRow X 29 2 (.slice (some ⟨gr, 0, .none⟩) (hs.length + 1) cap) (hs.length + 1) (flatH hs ++ [adv i, .slice (some ⟨g, 0, .none⟩) 4096 4096])) (hg : (W.alloc o).grownBy w5 (Value.ownBlock (.slice q2 hs.length c2)))
    (hat : Value.ownBlock (.slice (some ⟨gr, 0, .none⟩) (hs.length + 1) cap) = Value.ownBlock (.slice q2 hs.length c2) ∨ Value.ownBlock (.slice (some ⟨gr, 0, .none⟩) (hs.length + 1) cap) = some (W.alloc o).heap.size) :
    w5.cell? ⟨w.heap.size + 1, 2, .none⟩ = some (.slice q2 hs.length c2) ∧ w5.frozen? ⟨w.heap.size + 1, 2, .none⟩ = false ∧ HQ w (w5.setCell ⟨w.heap.size + 1, 2, .none⟩ (.slice (some ⟨gr, 0, .none⟩) (hs.length + 1) cap)) X N B L qf cf (i + 1) (hs ++ [(i, g)]) (some ⟨gr, 0, .none⟩) cap := by
  have xs := h.xs
  obtain ⟨a0, a1, a2, z0, z1, z2⟩ := h.c
  obtain ⟨b0, b1, b2, y0, y1, y2⟩ := h.r
  have bl : ∀ x, x < W.heap.size → Value.ownBlock (.slice q2 hs.length c2) ≠ some x → w5.heap[x]? = W.heap[x]? := fun x hx hne => (hg.block x (by simp only [World.size_alloc]; omega) (fun e => hne e.symm)).trans (Below.heap_alloc _ _ _ hx)
  have lo : ∀ x, x < X → x < W.heap.size → w5.heap[x]? = W.heap[x]? := fun x h1 h2 => bl x h2 (fun e => by have := (h.hr.lt _ e).1; omega)
  have cl : ∀ x o, x < X → w5.cell? ⟨x, o, .none⟩ = W.cell? ⟨x, o, .none⟩ := fun x o hx => World.cell?_of_block (lo x hx (by omega))
  have fl : ∀ x o, x < X → w5.frozen? ⟨x, o, .none⟩ = W.frozen? ⟨x, o, .none⟩ := fun x o hx => World.frozen?_of_block (lo x hx (by omega))
  have so : ∀ x o, (x ≠ w.heap.size + 1 ∨ o ≠ 2) → (w5.setCell ⟨w.heap.size + 1, 2, .none⟩ (.slice (some ⟨gr, 0, .none⟩) (hs.length + 1) cap)).cell? ⟨x, o, .none⟩ = w5.cell? ⟨x, o, .none⟩ := fun x o hx => World.cell?_setCell_other _ _ _ _ (by simp only [ne_eq, Addr.mk.injEq, and_true, not_and]; intro e1 e2; rcases hx with hx | hx <;> omega)
  have hlen : (hs ++ [(i, g)]).length = hs.length + 1 := by simp
  have k2 := (cl (w.heap.size + 1) 2 (by omega)).trans a2
  have hgr : X ≤ gr := (hown.lt gr rfl).1
  have rowne : ∀ x, x < W.heap.size → Value.ownBlock (.slice q2 hs.length c2) ≠ some x → gr ≠ x := fun x h1 h2 e => by
    rcases hat with h3 | h3
    · exact h2 (by rw [← h3, e]; rfl)
    · simp only [Value.ownBlock, World.size_alloc, Option.some.injEq] at h3
      omega
  refine ⟨k2, (fl _ _ (by omega)).trans z2, ?_⟩
  refine ⟨by rw [List.map_append, h.fs, heldTo_out L i hi]; rfl, ?_, ?_, ?_, ?_, ?_, ?_, ?_, ?_⟩
  · rw [hlen]
    exact ⟨(so _ _ (.inr (by decide))).trans ((cl _ _ (by omega)).trans a0), (so _ _ (.inr (by decide))).trans ((cl _ _ (by omega)).trans a1), World.cell?_setCell_same' _ _ _ (by rw [k2]; rfl), (World.frozen?_setCell ..).trans ((fl _ _ (by omega)).trans z0), (World.frozen?_setCell ..).trans ((fl _ _ (by omega)).trans z1), (World.frozen?_setCell ..).trans ((fl _ _ (by omega)).trans z2)⟩
  · exact ⟨(so _ _ (.inl (by omega))).trans ((cl _ _ (by omega)).trans b0), (so _ _ (.inl (by omega))).trans ((cl _ _ (by omega)).trans b1), (so _ _ (.inl (by omega))).trans ((cl _ _ (by omega)).trans b2), (World.frozen?_setCell ..).trans ((fl _ _ (by omega)).trans y0), (World.frozen?_setCell ..).trans ((fl _ _ (by omega)).trans y1), (World.frozen?_setCell ..).trans ((fl _ _ (by omega)).trans y2)⟩
  · refine ownsRow_setCell_below ?_ (a := ⟨w.heap.size + 1, 2, .none⟩) (by show w.heap.size + 1 < X; omega) _
    refine (h.fr.alloc o).kept hg ?_
    cases e : Value.ownBlock (.slice qf L.length cf) with
    | none => exact .inl rfl
    | some k => exact .inr fun e' => h.fq k e'.symm e
  · rw [hlen, flatH_append]
    exact ownsRow_setCell_below hown (a := ⟨w.heap.size + 1, 2, .none⟩) (by show w.heap.size + 1 < X; omega) _
  · intro x hx
    rw [hlen]
    rcases List.mem_append.1 hx with hx | hx
    · obtain ⟨d1, d2, d3⟩ := h.da x hx
      have lx : x.2 < W.heap.size := lt_of_cell (d2 0 (by omega))
      refine ⟨d1, fun t ht => (so _ _ (.inl (by omega))).trans ((World.cell?_of_block (bl x.2 lx d3)).trans (d2 t ht)), fun e => ?_⟩
      simp only [Value.ownBlock, Option.some.injEq] at e
      exact rowne _ lx d3 e
    · obtain rfl : x = (i, g) := by simpa using hx
      have lx : g < W.heap.size := lt_of_cell (g2 0 (by omega))
      refine ⟨g1, fun t ht => (so _ _ (.inl (by omega))).trans ((World.cell?_of_block (bl g lx g3)).trans (g2 t ht)), fun e => ?_⟩
      simp only [Value.ownBlock, Option.some.injEq] at e
      exact rowne _ lx g3 e
  · intro k e
    rw [hlen] at e
    rcases hat with h3 | h3
    · exact h.fq k (h3 ▸ e)
    · intro e2
      have := (h.fr.lt k e2).2
      rw [h3] at e
      simp only [World.size_alloc, Option.some.injEq] at e
      omega
  · refine ((h.be.alloc h.be.size o).grown hg (by simp only [World.size_alloc]; have := h.be.size; omega) (fun r e => by have := (h.hr.lt _ e).1; omega)).setCell (p := ⟨w.heap.size + 1, 2, .none⟩) (by show w.heap.size ≤ w.heap.size + 1; omega) _
  · have := hg.size
    simp only [World.size_alloc] at this
    rw [World.size_setCell]
    omega
end
end Go.Proofs.Ytejongfipfefpaa
