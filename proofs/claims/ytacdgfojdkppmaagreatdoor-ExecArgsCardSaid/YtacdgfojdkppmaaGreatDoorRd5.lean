import Derived.Test.YtacdgfojdkppmaaGreatDoorRd4
namespace Go.Proofs.YtacdgfojdkppmaaGreatDoor
open Go.RowKit
set_option linter.unusedVariables false
set_option linter.unusedSimpArgs false
theorem num_shift (B : Nat → Int) (a o : Nat) : ∀ k, num (fun i => B (a + i)) o k = num B (a + o) k
 | 0 => rfl
 | k + 1 => by simp only [num, num_shift B a o k, Nat.add_assoc]
theorem Row.sub {w : World} {b o n : Nat} {B : Nat → Int} (h : Row w b o n B) (a k : Nat) (hk : a + k ≤ n) : Row w b (o + a) k (fun i => B (a + i)) := fun i hi => by
 have := h (a + i) (by omega)
 rwa [← Nat.add_assoc] at this
/-- A field of a segment's header. -/
theorem inS_any {w : World} {b o n : Nat} {B : Nat → Int} (h : Row w b o n B) (hB : ∀ i, 0 ≤ B i ∧ B i < 256) (a : Nat) (ha : a + 56 ≤ n) (of_ by_ : Nat) (fx : Int) (h1 : of_ + by_ ≤ 56) (h2 : 0 < by_) (h3 : by_ ≤ 8) :
  Calls Tryz.prog 137 #[.agg #[.int .i64 of_, .int .i64 by_, .int .u64 fx], .slice (some ⟨b, o + a, .none⟩) 56 56] w fun e w' => e = .returned (.int .u64 (num B (a + of_) by_)) ∧ Below w.heap.size w w' := by
 have := in_any b (o + a) 56 56 of_ by_ fx (fun i => B (a + i)) w h1 (Nat.le_refl _) (by omega) h2 h3 (fun i => hB _) (h.sub a 56 ha)
 rwa [num_shift] at this
/-- A segment as its header tells of it. -/
def sgOf (B : Nat → Int) (a : Nat) : Sg := ⟨num B (a + 16) 8, num B (a + 4) 4, num B (a + 40) 8, (num B (a + 8) 8).toNat, (num B (a + 32) 8).toNat⟩
theorem pow8 : (256 : Int) ^ 8 = 18446744073709551616 := by decide
theorem pow4 : (256 : Int) ^ 4 = 4294967296 := by decide
theorem sgOf_b (B : Nat → Int) (hB : ∀ i, 0 ≤ B i ∧ B i < 256) (a : Nat) : (0 ≤ num B (a + 16) 8 ∧ num B (a + 16) 8 < 18446744073709551616) ∧ (0 ≤ num B (a + 4) 4 ∧ num B (a + 4) 4 < 4294967296) ∧ (0 ≤ num B (a + 40) 8 ∧ num B (a + 40) 8 < 18446744073709551616) ∧ (0 ≤ num B (a + 8) 8 ∧ num B (a + 8) 8 < 18446744073709551616) ∧ (0 ≤ num B (a + 32) 8 ∧ num B (a + 32) 8 < 18446744073709551616) := by
 have h1 := num_bd B hB (a + 16) 8
 have h2 := num_bd B hB (a + 4) 4
 have h3 := num_bd B hB (a + 40) 8
 have h4 := num_bd B hB (a + 8) 8
 have h5 := num_bd B hB (a + 32) 8
 rw [pow8] at h1 h3 h4 h5
 rw [pow4] at h2
 exact ⟨h1, h2, h3, h4, h5⟩
/-- One header more: what is wrong with it, and the segments then. -/
def stp (n : Nat) (B : Nat → Int) (S : List Sg) (a : Nat) : Int × List Sg :=
 if num B a 4 ≠ 1 then (0, S) else if S.length = 8 then (143, S) else if ok1 (sgOf B a).va (sgOf B a).fl (sgOf B a).sz (sgOf B a).mem = false then (144, S)
 else if 0 < (sgOf B a).sz ∧ n < (sgOf B a).wh + (sgOf B a).sz then (140, S) else if ris S (sgOf B a).va = false then (145, S) else (0, S ++ [sgOf B a])
theorem ok1_gd {s : Sg} (h : ok1 s.va s.fl s.sz s.mem = true) (hv : 0 ≤ s.va) (hz : s.sz < 2000000) : Gd s := by
 unfold ok1 mf at h
 simp only [Bool.and_eq_true, decide_eq_true_eq, Bool.or_eq_true, beq_iff_eq] at h
 obtain ⟨⟨⟨⟨h1, h2⟩, h3⟩, h4⟩, h5⟩ := h
 exact ⟨hv, by omega, by omega, h5, hz⟩
/-- The reader, while it reads: all that it made lies from rb on. -/
structure Rdr (W0 w : World) (rb rs b o n c : Nat) (B : Nat → Int) (E : List (Sg × Value)) (sv : Value) : Prop where
 fil : Fil w rb b o n c B
 c1 : w.cell? ⟨rb, 1, .none⟩ = some sv
 z1 : w.frozen? ⟨rb, 1, .none⟩ = false
 sg : Segs w (rb + 1) sv E B
 be : Below W0.heap.size W0 w
 x0 : W0.heap.size ≤ rb
 hx : rb + 1 ≤ w.heap.size
 hb : b < W0.heap.size
 ln : E.length ≤ 8
 pr : w.heap[rs]? = some (.cells #[.int .u64 0, .slice .none 0 0] 64 (0, 0))
 pn : rb < rs
section
variable {W0 w w' : World} {rb rs b o n c : Nat} {B : Nat → Int} {E : List (Sg × Value)} {sv : Value}
theorem Rdr.below (h : Rdr W0 w rb rs b o n c B E sv) (k : Below w.heap.size w w') : Rdr W0 w' rb rs b o n c B E sv :=
 ⟨h.fil.below k, (k.cell (lt_of_cell h.c1)).trans h.c1, (k.frozen (lt_of_cell h.c1)).trans h.z1, h.sg.below k, h.be.trans (k.mono h.be.size), h.x0, Nat.le_trans h.hx k.size, h.hb, h.ln, (k.block rs (Array.getElem?_eq_some_iff.1 h.pr).1).trans h.pr, h.pn⟩
/-- One segment more. -/
theorem Rdr.push {q : Option Addr} {cs : Nat} (h : Rdr W0 w rb rs b o n c B E (.slice q E.length cs)) (h8 : E.length < 8) {g : Sg} {dv : Value} (hd : w.ownsRow (rb + 1) 5 1 dv g.sz (by8 (byt B g))) (hg : Gd g) {ob : Obj} {w5 : World} {gr cap : Nat}
  (hown : w5.ownsRow (rb + 1) 61 4 (.slice (some ⟨gr, 0, .none⟩) (E.length + 1) cap) (E.length + 1) (flatE E ++ [.int .u64 g.va, .int .u32 g.fl, dv, .int .u64 g.mem])) (hgr : (w.alloc ob).grownBy w5 (Value.ownBlock (.slice q E.length cs))) :
  w5.cell? ⟨rb, 1, .none⟩ = some (.slice q E.length cs) ∧ w5.frozen? ⟨rb, 1, .none⟩ = false ∧ Rdr W0 (w5.setCell ⟨rb, 1, .none⟩ (.slice (some ⟨gr, 0, .none⟩) (E.length + 1) cap)) rb rs b o n c B (E ++ [(g, dv)]) (.slice (some ⟨gr, 0, .none⟩) (E.length + 1) cap) := by
 have hx := h.hx
 have hbl := h.be.size
 have x0 := h.x0
 have hbb := h.hb
 have blk : ∀ x, x < w.heap.size → Value.ownBlock (.slice q E.length cs) ≠ some x → w5.heap[x]? = w.heap[x]? := fun x hx hne => (hgr.block x (by simp only [World.size_alloc]; omega) (fun e => hne e.symm)).trans (Below.heap_alloc _ _ _ hx)
 have lo : ∀ x, x < rb + 1 → w5.heap[x]? = w.heap[x]? := fun x h1 => blk x (by omega) (fun e => by have := (h.sg.own.lt _ e).1; omega)
 have cl : ∀ x o, x < rb + 1 → w5.cell? ⟨x, o, .none⟩ = w.cell? ⟨x, o, .none⟩ := fun x o hx => World.cell?_of_block (lo x hx)
 have fl : ∀ x o, x < rb + 1 → w5.frozen? ⟨x, o, .none⟩ = w.frozen? ⟨x, o, .none⟩ := fun x o hx => World.frozen?_of_block (lo x hx)
 have k1 := (cl rb 1 (by omega)).trans h.c1
 have f1 := (fl rb 1 (by omega)).trans h.z1
 have so : ∀ x o, (x ≠ rb ∨ o ≠ 1) → (w5.setCell ⟨rb, 1, .none⟩ (.slice (some ⟨gr, 0, .none⟩) (E.length + 1) cap)).cell? ⟨x, o, .none⟩ = w5.cell? ⟨x, o, .none⟩ := fun x o hx => World.cell?_setCell_other _ _ _ _ (by simp only [ne_eq, Addr.mk.injEq, and_true, not_and]; intro e1 e2; rcases hx with hx | hx <;> omega)
 have keepD : ∀ {v : Value} {k : Nat} {ys : List Value}, w.ownsRow (rb + 1) 5 1 v k ys → (w5.setCell ⟨rb, 1, .none⟩ (.slice (some ⟨gr, 0, .none⟩) (E.length + 1) cap)).ownsRow (rb + 1) 5 1 v k ys := fun {v k ys} hv => by
  refine ownsRow_setCell_below (a := ⟨rb, 1, .none⟩) ?_ (by show rb < rb + 1; omega) _
  refine (World.ownsRow.alloc hv ob).kept hgr ?_
  obtain ⟨q', c', rfl, _⟩ := own_form hv
  cases e : Value.ownBlock (.slice q' k c') with
  | none => exact .inl rfl
  | some y =>
   refine .inr fun e' => ?_
   obtain ⟨c1, e1⟩ := own_blk hv e
   obtain ⟨c2, e2⟩ := own_blk h.sg.own e'.symm
   rw [e1] at e2
   cases e2
 refine ⟨k1, f1, ⟨⟨(so _ _ (.inr (by decide))).trans ((cl _ _ (by omega)).trans h.fil.f0), fun i hi => (so _ _ (.inl (by omega))).trans ((cl _ _ (by omega)).trans (h.fil.row i hi)), h.fil.bd, h.fil.nc⟩, World.cell?_setCell_same' _ _ _ (by rw [k1]; rfl), (World.frozen?_setCell ..).trans f1, ⟨?_, ?_, ?_⟩, ?_, x0, ?_, hbb, by simp; omega, ?_, h.pn⟩⟩
 ·rw [flatE_app, List.length_append, List.length_singleton]
  exact ownsRow_setCell_below hown (a := ⟨rb, 1, .none⟩) (by show rb < rb + 1; omega) _
 ·intro x hx
  rcases List.mem_append.1 hx with hx | hx
  ·exact keepD (h.sg.dat x hx)
  ·rw [List.mem_singleton] at hx
   subst hx
   exact keepD hd
 ·intro x hx
  rcases List.mem_append.1 hx with hx | hx
  ·exact h.sg.gd x hx
  ·rw [List.mem_singleton] at hx
   subst hx
   exact hg
 ·exact ((h.be.alloc h.be.size ob).grown hgr (by simp only [World.size_alloc]; omega) (fun r e => by have := (h.sg.own.lt _ e).1; omega)).setCell (p := ⟨rb, 1, .none⟩) (by show W0.heap.size ≤ rb; omega) _
 ·have := hgr.size
  simp only [World.size_alloc] at this
  rw [World.size_setCell]
  omega
 ·have hl := (Array.getElem?_eq_some_iff.1 h.pr).1
  have pn := h.pn
  refine (Below.heap_setCell _ _ _ _ (by show rs ≠ rb; omega)).trans ((blk rs hl (fun e => ?_)).trans h.pr)
  obtain ⟨c2, e2⟩ := own_blk h.sg.own e
  rw [h.pr] at e2
  cases e2
end
/-- Four cells of a world. -/
structure C4 (w : World) (x : Nat) (a b c d : Value) : Prop where
 a : w.cell? ⟨x, 0, .none⟩ = some a
 b : w.cell? ⟨x, 1, .none⟩ = some b
 c : w.cell? ⟨x, 2, .none⟩ = some c
 d : w.cell? ⟨x, 3, .none⟩ = some d
 f : ∀ i, w.frozen? ⟨x, i, .none⟩ = false
theorem C4.below {w w' : World} {x : Nat} {a b c d : Value} (h : C4 w x a b c d) (k : Below w.heap.size w w') : C4 w' x a b c d :=
 ⟨(k.cell (lt_of_cell h.a)).trans h.a, (k.cell (lt_of_cell h.b)).trans h.b, (k.cell (lt_of_cell h.c)).trans h.c, (k.cell (lt_of_cell h.d)).trans h.d, fun i => (k.frozen (p := ⟨x, i, .none⟩) (show x < w.heap.size from lt_of_cell (x := ⟨x, 0, .none⟩) h.a)).trans (h.f i)⟩
theorem C4.new (w : World) (a b c d : Value) (t : TypeId) : C4 (w.alloc (.cells #[a, b, c, d] t)) w.heap.size a b c d :=
 ⟨by simp, by simp, by simp, by simp, fun i => World.frozen?_alloc_new _ _ _ _⟩
theorem C4.set {w : World} {x : Nat} {a b c d : Value} (h : C4 w x a b c d) (a' b' c' d' : Value) : C4 ((((w.setCell ⟨x, 0, .none⟩ a').setCell ⟨x, 1, .none⟩ b').setCell ⟨x, 2, .none⟩ c').setCell ⟨x, 3, .none⟩ d') x a' b' c' d' := by
 have h0 : (w.setCell ⟨x, 0, .none⟩ a').cell? ⟨x, 0, .none⟩ = some a' := World.cell?_setCell_same' _ _ _ (by rw [h.a]; rfl)
 have h1 : ((w.setCell ⟨x, 0, .none⟩ a').setCell ⟨x, 1, .none⟩ b').cell? ⟨x, 1, .none⟩ = some b' := World.cell?_setCell_same' _ _ _ (by rw [World.cell?_setCell_other _ _ _ _ (by simp), h.b]; rfl)
 have h2 : (((w.setCell ⟨x, 0, .none⟩ a').setCell ⟨x, 1, .none⟩ b').setCell ⟨x, 2, .none⟩ c').cell? ⟨x, 2, .none⟩ = some c' := World.cell?_setCell_same' _ _ _ (by rw [World.cell?_setCell_other _ _ _ _ (by simp), World.cell?_setCell_other _ _ _ _ (by simp), h.c]; rfl)
 refine ⟨?_, ?_, ?_, ?_, fun i => ?_⟩
 ·rw [World.cell?_setCell_other _ _ _ _ (by simp), World.cell?_setCell_other _ _ _ _ (by simp), World.cell?_setCell_other _ _ _ _ (by simp)]
  exact h0
 ·rw [World.cell?_setCell_other _ _ _ _ (by simp), World.cell?_setCell_other _ _ _ _ (by simp)]
  exact h1
 ·rw [World.cell?_setCell_other _ _ _ _ (by simp)]
  exact h2
 ·exact World.cell?_setCell_same' _ _ _ (by rw [World.cell?_setCell_other _ _ _ _ (by simp), World.cell?_setCell_other _ _ _ _ (by simp), World.cell?_setCell_other _ _ _ _ (by simp), h.d]; rfl)
 ·rw [World.frozen?_setCell, World.frozen?_setCell, World.frozen?_setCell, World.frozen?_setCell]
  exact h.f i
theorem info59 : ∃ i, Tryz.prog.info? 61 = some i ∧ i.zero = some (.agg #[.int .u64 0, .int .u32 0, .slice .none 0 0, .int .u64 0]) ∧ i.size = 4 ∧ i.bytes = 48 := by
 have h : (Tryz.prog.info? 61).map (fun i => (i.zero, i.size, i.bytes)) = some (some (.agg #[.int .u64 0, .int .u32 0, .slice .none 0 0, .int .u64 0]), 4, 48) := by kernel_rfl
 cases hq : Tryz.prog.info? 61 with
 | none => rw [hq] at h; cases h
 | some i =>
  rw [hq] at h
  simp only [Option.map_some, Option.some.injEq, Prod.mk.injEq] at h
  exact ⟨i, rfl, h.1, h.2.1, h.2.2⟩
theorem cell4_new (w : World) (x y z u : Value) (t : TypeId) : ∀ j v, [x, y, z, u][j]? = some v → (w.alloc (.cells #[x, y, z, u] t)).cell? ((⟨w.heap.size, 0, .none⟩ : Addr).add j) = some v := by
 intro j v hj
 rw [le_addr_add, World.cell?_alloc_at _ _ _ _ rfl, Nat.zero_add]
 simpa using hj
end Go.Proofs.YtacdgfojdkppmaaGreatDoor
