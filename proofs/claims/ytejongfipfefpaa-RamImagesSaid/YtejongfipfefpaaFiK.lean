import Derived.Test.YtejongfipfefpaaFiM
namespace Go.Proofs.Ytejongfipfefpaa
open Go.RowKit
set_option linter.unusedVariables false
set_option linter.unusedSimpArgs false
/-- What a round of the threading keeps: all that lay there but the memory's three blocks. -/
def KpF (u p b m : Nat) (A B : World) : Prop := A.heap.size ≤ B.heap.size ∧ ∀ x, x < u → x ≠ p → x ≠ b → x ≠ m → B.heap[x]? = A.heap[x]?
theorem KpF.trans {u p b m : Nat} {A B C : World} (h : KpF u p b m A B) (k : KpF u p b m B C) : KpF u p b m A C := ⟨Nat.le_trans h.1 k.1, fun x a c d e => (k.2 x a c d e).trans (h.2 x a c d e)⟩
theorem KpF.put {u p b m l : Nat} (A : World) (o' : Obj) (hl : u ≤ l) : KpF u p b m A (A.putObj l o') :=
  ⟨(grownBy_putObj' A l o').size, fun x hx _ _ _ => World.putObj_heap_other (by omega)⟩
/-- The memory while its free frames are threaded. -/
structure IT (W : World) (u p b m x5 n k : Nat) (PA : Nat → Int) (D : Nat → Nat → Int) (pre : List (Nat × Fin n)) (A : World) : Prop where
  mem : Mem A p b m n (sts (hbm PA D k) (pre.map fun x => x.2.val)).1 (sts (hbm PA D k) (pre.map fun x => x.2.val)).2 (among PA k) k
  box : A.cell? ⟨x5, 0, .none⟩ = some (.pointer (some ⟨p, 0, .none⟩))
  be : Below W.heap.size W A
  sz : u ≤ A.heap.size
theorem IT.own (W : World) {u p b m x5 n k : Nat} (PA : Nat → Int) (D : Nat → Nat → Int) (h1 : p < u) (h2 : b < u) (h3 : m < u) (h4 : x5 < u) (h5 : W.heap.size ≤ u) : OwnFrom u (IT W u p b m x5 n k PA D) := by
  intro s A B row h g hr
  have ne : ∀ x, x < u → some x ≠ row := fun x hx e => by
    have := (hr x e.symm).1
    omega
  have sz := h.sz
  have bl : ∀ x, x < u → B.heap[x]? = A.heap[x]? := fun x hx => g.block x (by omega) (ne x hx)
  exact ⟨h.mem.keep (bl p h1) (bl b h2) (bl m h3), (World.cell?_of_block (bl x5 h4)).trans h.box, h.be.grown g (by omega) (fun r e => by have := (hr r e).1; omega), Nat.le_trans sz g.size⟩
theorem IT.step {W : World} {u p b m x5 n k : Nat} {PA : Nat → Int} {D : Nat → Nat → Int} {pre : List (Nat × Fin n)} {A A' : World} (h : IT W u p b m x5 n k PA D pre A) (x : Nat × Fin n)
    (hm : Mem A' p b m n (thr (sts (hbm PA D k) (pre.map fun x => x.2.val)).1 x.2.val (sts (hbm PA D k) (pre.map fun x => x.2.val)).2) (2147483648 + (x.2.val : Int) * 4096) (among PA k) k) (f : Fra p b m A A')
    (h1 : p < u) (h2 : b < u) (h3 : m < u) (g1 : W.heap.size ≤ p) (g2 : W.heap.size ≤ b) (g3 : W.heap.size ≤ m) : KeepsFrom u A A' ∧ KpF u p b m A A' ∧ IT W u p b m x5 n k PA D (pre ++ [x]) A' := by
  have hx : x5 ≠ p ∧ x5 ≠ b ∧ x5 ≠ m := by
    obtain ⟨Dm, hown, _⟩ := h.mem.hm
    have hb := h.box
    refine ⟨fun e => ?_, fun e => ?_, fun e => map_ne hown hb e⟩
    · rw [e, h.mem.c0] at hb
      cases hb
    · rw [e, h.mem.cb 0 (by have := h.mem.n1; omega)] at hb
      cases hb
  have sz := h.sz
  refine ⟨⟨f.size, fun j o hj hjo _ => (f.block j (Array.getElem?_eq_some_iff.1 hjo).1 (by omega) (by omega) (by omega)).trans hjo⟩, ⟨f.size, fun y hy a b c => f.block y (by omega) a b c⟩, ?_⟩
  refine ⟨?_, (f.cell (x := ⟨x5, 0, .none⟩) (lt_of_cell h.box) hx.1 hx.2.1 hx.2.2).trans h.box, h.be.trans (f.toBelow h.be.size g1 g2 g3), Nat.le_trans sz f.size⟩
  rw [List.map_append, List.map_cons, List.map_nil, sts_snoc]
  exact hm
/-- What FromImage hands back of an image of which nothing is wrong. -/
def FrP (W : World) (F : Nat → Int) (nf : Nat) (PA : Nat → Int) (D : Nat → Nat → Int) (nh n : Nat) (e : Ending) (w' : World) : Prop :=
  ∃ p b m B, W.heap.size ≤ p ∧ W.heap.size ≤ b ∧ W.heap.size ≤ m ∧ e = .returned (.tuple #[.pointer (some ⟨p, 0, .none⟩), .nilIface]) ∧ Ram w' p b m n B (Lf F nf) ∧ (∀ i, i < nh → ∀ j, j < 4096 → B (fi (PA i) * 4096 + j) = D i j) ∧ Below W.heap.size W w'
/-- A drawn order leaves the memory as it is. -/
theorem setCells_drew (w : World) (b : Nat) : ∀ (vs : List Value) (o : Nat), w.drew.setCells b o vs = (w.setCells b o vs).drew := by
  intro vs
  induction vs generalizing w with
  | nil => intro o; rfl
  | cons v vs ih => intro o; exact ih (w.setCell ⟨b, o, .none⟩ v) (o + 1)
theorem hi_drew {W w4 : World} {p b m x5 n : Nat} {qf : Option Addr} {nf cf : Nat} {PA : Nat → Int} {D : Nat → Nat → Int} {k o : Nat} {vs : List Value} (h : Hi W (w4.setCells b o vs) p b m x5 n qf nf cf PA D k) : Hi W (w4.drew.setCells b o vs) p b m x5 n qf nf cf PA D k := by
  rw [setCells_drew]
  exact h.below ((Below.refl _ _).drew)
/-- The element of the list at a place. -/
def gg (F : Nat → Int) (n : Nat) (h : 1 ≤ n) (i : Nat) : Nat × Fin n := (i, ⟨fi (F i) % n, Nat.mod_lt _ h⟩)
def enc2 {n : Nat} (x : Nat × Fin n) : Array Value := #[.int .i64 (x.1 : Int), .int .u64 (2147483648 + (x.2.val : Int) * 4096)]
theorem enc_gg {F : Nat → Int} {nf : Nat} {PA : Nat → Int} {L : Nat → Nat} {nh n : Nat} (h : Fine F nf PA L nh n) (h1 : 1 ≤ n) : ∀ i, i < nf → enc2 (gg F n h1 i) = #[.int .i64 (i : Int), .int .u64 (F i)] := by
  intro i hi
  obtain ⟨a, b⟩ := fi_of (h.free hi).1
  simp only [enc2, gg]
  rw [Nat.mod_eq_of_lt a, ← b]
theorem dn_gg {F : Nat → Int} {nf : Nat} {PA : Nat → Int} {L : Nat → Nat} {nh n : Nat} (h : Fine F nf PA L nh n) (h1 : 1 ≤ n) : (dn (gg F n h1) nf nf).map (fun x => x.2.val) = (Lf F nf).reverse := by
  rw [← Lf_rev]
  unfold dn
  rw [List.map_map]
  apply List.map_congr_left
  intro j hj
  have : nf - 1 - j < nf := by have := List.mem_range.1 hj; omega
  exact Nat.mod_eq_of_lt (fi_of (h.free this).1).1
theorem good_keep {W U A B : World} {p b m Bn nf cf : Nat} {qf : Option Addr} {F : Nat → Int} (hf : Fs W qf nf F) (g1 : W.heap.size ≤ p) (g2 : W.heap.size ≤ b) (g3 : W.heap.size ≤ m) (hB : Bn < U.heap.size) (n1 : Bn ≠ p) (n2 : Bn ≠ b) (n3 : Bn ≠ m) (hz : W.heap.size ≤ U.heap.size) (k : KpF U.heap.size p b m A B) (h : GoodB Bn qf nf cf F A) : GoodB Bn qf nf cf F B := by
  refine ⟨(World.cell?_of_block (k.2 Bn hB n1 n2 n3)).trans h.1, ?_⟩
  rcases hf with h0 | ⟨b0, o0, e0, l0, _⟩
  · exact .inl h0
  · rcases h.2 with h0 | ⟨b1, o1, e1, l1, c1⟩
    · exact .inl h0
    · rw [e0] at e1
      simp only [Option.some.injEq, Addr.mk.injEq, and_true] at e1
      obtain ⟨rfl, rfl⟩ := e1
      exact .inr ⟨b0, o0, e0, Nat.lt_of_lt_of_le l1 k.1, fun i hi => (World.cell?_of_block (k.2 b0 (by omega) (by omega) (by omega) (by omega))).trans (c1 i hi)⟩
theorem IT.out {W : World} {u p b m x5 n k : Nat} {F : Nat → Int} {nf : Nat} {PA : Nat → Int} {L : Nat → Nat} {D : Nat → Nat → Int} {A : World} (hF : Fine F nf PA L k n) (h1 : 1 ≤ n) (h : IT W u p b m x5 n k PA D (dn (gg F n h1) nf nf) A) (g1 : W.heap.size ≤ p) (g2 : W.heap.size ≤ b) (g3 : W.heap.size ≤ m) :
    FrP W F nf PA D k n (.returned (.tuple #[.pointer (some ⟨p, 0, .none⟩), .nilIface])) A := by
  have hm := h.mem
  rw [dn_gg hF h1] at hm
  obtain ⟨r1, r2⟩ := hF.ram D hm
  exact ⟨p, b, m, _, g1, g2, g3, rfl, r1, r2, h.be⟩
end Go.Proofs.Ytejongfipfefpaa
