import Derived.Test.YtblmkkhiojbcjaaGreatFFreeW
import Derived.Test.YtblmkkhiojbcjaaGreatSMapL
import Derived.Test.YtblmkkhiojbcjaaGreatSTra
import Derived.Deep.DeepCutAuto
namespace Go.Proofs.YtblmkkhiojbcjaaGreat
open Go Go.RowKit Fz
attribute [local go_sem] Oper.semAt_some
set_option linter.unusedVariables false
set_option linter.unusedSimpArgs false
def atv (R : Nat → Int) (n i : Nat) : Int := if i < n then R i else 0
def pgV (a : Int) : Int := a % 3 * 1073741824 + a / 256 % 3 * 2097152 + a / 65536 % 4 * 4096
def pgA (b : Int) : Int := 2147483648 + b % 5000 * 4096
theorem pgV_b (a : Int) : 0 ≤ pgV a ∧ pgV a % 4096 = 0 ∧ pgV a < 274877906944 := by unfold pgV; omega
theorem pgA_b (b : Int) : 0 ≤ pgA b ∧ pgA b % 4096 = 0 ∧ pgA b < 72057594037927936 := by unfold pgA; omega
end Go.Proofs.YtblmkkhiojbcjaaGreat
namespace Go.Proofs.YtblmkkhiojbcjaaGreat
open Go Go.RowKit Fz
attribute [local go_sem] Oper.semAt_some
set_option linter.unusedVariables false
set_option linter.unusedSimpArgs false
attribute [local irreducible] eM evs
section
variable {N : Nat} {L : List Nat} {B : Nat → Int}
/-- A table that New gives. -/
theorem PT.init {i : Nat} (hi : 1 ≤ i ∧ i < N) (hL : i ∉ L) : PT N L (zer B i) (fun x => if x = 0 then some i else none) (fun _ _ => 0) := by
  refine ⟨⟨i, by simp⟩, fun x f hf => ?_, fun x y f hx hy => ?_, fun x e hx he hne => ?_, fun x hx => ?_, fun x g hx hg e he => ?_, fun y g hy hg k hk => ?_, fun _ _ => .inl rfl, fun _ _ _ => rfl⟩
  · by_cases e : x = 0
    · simp only [e, if_true, Option.some.injEq] at hf
      subst hf
      exact ⟨hi.1, hi.2, hL⟩
    · simp [e] at hf
  · by_cases e : x = 0 <;> by_cases e2 : y = 0 <;> simp_all
  · have := ch_pos x e
    simp [show ch x e ≠ 0 by omega] at hne
  · by_cases e : x = 0
    · omega
    · simp [e] at hx
  · by_cases e2 : x = 0
    · simp only [e2, if_true, Option.some.injEq] at hg
      subst hg
      have := ch_pos x e
      rw [evn_zer_same _ _ _ he]
      simp [show ch x e ≠ 0 by omega, ptr]
    · simp [e2] at hg
  · simp [show y ≠ 0 by omega] at hg
end
structure C3 (W : World) (P : Nat) (x0 x1 x2 : Value) : Prop where
  c0 : W.cell? ⟨P, 0, .none⟩ = some x0
  c1 : W.cell? ⟨P, 1, .none⟩ = some x1
  c2 : W.cell? ⟨P, 2, .none⟩ = some x2
  f0 : W.frozen? ⟨P, 0, .none⟩ = false
  f1 : W.frozen? ⟨P, 1, .none⟩ = false
  f2 : W.frozen? ⟨P, 2, .none⟩ = false
theorem C3.new (w : World) (x0 x1 x2 : Value) (t : TypeId) : C3 (w.alloc (.cells #[x0, x1, x2] t)) w.heap.size x0 x1 x2 :=
  ⟨by simp, by simp, by simp, World.frozen?_alloc_new _ _ _ _, World.frozen?_alloc_new _ _ _ _, World.frozen?_alloc_new _ _ _ _⟩
theorem C3.below {W W' : World} {P : Nat} {x0 x1 x2 : Value} (h : C3 W P x0 x1 x2) (b : Below W.heap.size W W') : C3 W' P x0 x1 x2 := by
  have hp : P < W.heap.size := lt_of_cell h.c0
  have e := b.block P hp
  have ec : ∀ o, W'.cell? ⟨P, o, .none⟩ = W.cell? ⟨P, o, .none⟩ := fun o => by simp only [World.cell?, e]
  have ef : ∀ o, W'.frozen? ⟨P, o, .none⟩ = W.frozen? ⟨P, o, .none⟩ := fun o => by simp only [World.frozen?, e]
  exact ⟨(ec 0).trans h.c0, (ec 1).trans h.c1, (ec 2).trans h.c2, (ef 0).trans h.f0, (ef 1).trans h.f1, (ef 2).trans h.f2⟩
theorem C3.drew {W : World} {P : Nat} {x0 x1 x2 : Value} (h : C3 W P x0 x1 x2) : C3 W.drew P x0 x1 x2 := h.below (Below.refl _ _).drew
theorem C3.set {W : World} {P : Nat} {x0 x1 x2 : Value} (h : C3 W P x0 x1 x2) (y0 y1 y2 : Value) : C3 (((W.setCell ⟨P, 0, .none⟩ y0).setCell ⟨P, 1, .none⟩ y1).setCell ⟨P, 2, .none⟩ y2) P y0 y1 y2 :=
  ⟨(World.cell?_setCell_other _ _ _ _ (by simp)).trans ((World.cell?_setCell_other _ _ _ _ (by simp)).trans (World.cell?_setCell_same' _ _ _ (by rw [h.c0]; rfl))), (World.cell?_setCell_other _ _ _ _ (by simp)).trans (World.cell?_setCell_same' _ _ _ (by rw [World.cell?_setCell_other _ _ _ _ (by simp), h.c1]; rfl)), World.cell?_setCell_same' _ _ _ (by rw [World.cell?_setCell_other _ _ _ _ (by simp), World.cell?_setCell_other _ _ _ _ (by simp), h.c2]; rfl),
    by rw [World.frozen?_setCell, World.frozen?_setCell, World.frozen?_setCell]; exact h.f0, by rw [World.frozen?_setCell, World.frozen?_setCell, World.frozen?_setCell]; exact h.f1, by rw [World.frozen?_setCell, World.frozen?_setCell, World.frozen?_setCell]; exact h.f2⟩
theorem belowC {B : Nat} {w W : World} (h : Below B w W) {P : Nat} (hP : B ≤ P) (y0 y1 y2 : Value) : Below B w (((W.setCell ⟨P, 0, .none⟩ y0).setCell ⟨P, 1, .none⟩ y1).setCell ⟨P, 2, .none⟩ y2) :=
  ((h.setCell (p := ⟨P, 0, .none⟩) hP _).setCell (p := ⟨P, 1, .none⟩) hP _).setCell (p := ⟨P, 2, .none⟩) hP _
/-- What the law holds: its memory, and a table in it. -/
def FL (w : World) (p b m : Nat) (W : World) : Prop := Below w.heap.size w W ∧ ∃ B L F lf, Ram W p b m 64 B L ∧ PT 64 L B F lf ∧ F 0 = some 63
theorem FL.below {w W W' : World} {p b m : Nat} (h : FL w p b m W) (k : Below W.heap.size W W') : FL w p b m W' := by
  obtain ⟨h0, B, L, F, lf, h1, h2, h3⟩ := h
  exact ⟨h0.trans (k.mono h0.size), B, L, F, lf, h1.below k, h2, h3⟩
theorem See.fl {w W : World} {p b m n : Nat} {q : Option Addr} {R : Nat → Int} (h : See w .u64 q n R) (k : FL w p b m W) : See W .u64 q n R := h.below k.1
theorem ad63 : ad 63 = 2147741696 := by unfold ad; rfl
theorem row_base {W : World} {X e k n : Nat} {v : Value} {xs : List Value} (h : W.ownsRow X e k v n xs) : W.ownsRow 0 e k v n xs := by
  refine ⟨h.1, ?_⟩
  rcases h.2 with h1 | ⟨g, cap, cur, h1, h2, h3⟩
  · exact .inl h1
  · exact .inr ⟨g, cap, cur, h1, Nat.zero_le _, h3⟩
theorem row_see {W : World} {X n g c : Nat} {l : List Int} (h : W.ownsRow X 23 1 (.slice (some ⟨g, 0, .none⟩) n c) n (wv l)) (hn : l.length = n) : See W .u64 (some ⟨g, 0, .none⟩) n (fun i => l.getD i 0) := by
  refine .inr ⟨g, 0, rfl, (h.lt g rfl).2, fun i hi => ?_⟩
  have e := h.cellAt i (by omega)
  have : (wv l)[i]? = some (.int .u64 (l.getD i 0)) := by
    unfold wv
    rw [List.getElem?_map, List.getD_eq_getElem?_getD, List.getElem?_eq_getElem (by omega)]
    rfl
  rw [this] at e
  simpa using e
theorem row_range (l : List Int) (n : Nat) (hn : l.length = n) : (List.range n).map (fun i => Value.int .u64 (l.getD i 0)) = wv l := by
  subst hn
  refine List.ext_getElem (by simp [wv]) fun i h1 h2 => ?_
  simp only [List.length_map, List.length_range] at h1
  simp [wv, List.getD_eq_getElem?_getD, List.getElem?_eq_getElem h1]
end Go.Proofs.YtblmkkhiojbcjaaGreat
