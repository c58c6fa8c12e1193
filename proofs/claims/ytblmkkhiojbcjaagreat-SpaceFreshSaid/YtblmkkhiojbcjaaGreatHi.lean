import Derived.Test.YtblmkkhiojbcjaaGreatHh
namespace Go.Proofs.YtblmkkhiojbcjaaGreat
open Go Go.RowKit Fz
set_option linter.unusedVariables false
set_option linter.unusedSimpArgs false
theorem free_two {W : World} {g1 g2 n c1 c2 cl : Nat} {X1 X2 : List Value} (h1 : W.ownsRow 0 5 1 (.slice (some ⟨g1, 0, .none⟩) n c1) n X1) (h2 : W.ownsRow 0 5 1 (.slice (some ⟨g2, 0, .none⟩) n c2) n X2) (hne : g1 ≠ g2) (hn : n ≤ 1000000) :
    Calls Tryz.prog 27 #[.slice (some ⟨W.heap.size, 0, .none⟩) 2 cl] (W.alloc (.cells #[.slice (some ⟨g1, 0, .none⟩) n c1, .slice (some ⟨g2, 0, .none⟩) n c2] 24)) fun e w' => e = .returned (.bool true) ∧ Tch g1 g2 g2 g2 W w' := by
  have l1 := (h1.lt g1 rfl).2
  have l2 := (h2.lt g2 rfl).2
  obtain ⟨W1, hW1⟩ : ∃ W1, W1 = W.alloc (.cells #[.slice (some ⟨g1, 0, .none⟩) n c1, .slice (some ⟨g2, 0, .none⟩) n c2] 24) := ⟨_, rfl⟩
  rw [← hW1]
  have r1 : W1.ownsRow 0 5 1 (.slice (some ⟨g1, 0, .none⟩) n c1) n X1 := by rw [hW1]; exact h1.alloc _
  have r2 : W1.ownsRow 0 5 1 (.slice (some ⟨g2, 0, .none⟩) n c2) n X2 := by rw [hW1]; exact h2.alloc _
  have k0 : W1.cell? ⟨W.heap.size, 0, .none⟩ = some (.slice (some ⟨g1, 0, .none⟩) n c1) := by rw [hW1]; simp
  have k1 : W1.cell? ⟨W.heap.size, 1, .none⟩ = some (.slice (some ⟨g2, 0, .none⟩) n c2) := by rw [hW1]; simp
  have z1 : W1.heap.size = W.heap.size + 1 := by rw [hW1]; simp
  have b1 : Below W.heap.size W W1 := by rw [hW1]; exact (Below.refl _ _).alloc (Nat.le_refl _) _
  refine (freeB_any 2 W.heap.size cl (fun _ => n) (fun i => if i = 0 then .slice (some ⟨g1, 0, .none⟩) n c1 else .slice (some ⟨g2, 0, .none⟩) n c2) (fun i => if i = 0 then X1 else X2) W1 (by omega) (fun _ _ => by omega) ⟨fun i hi => ?_, rfl, rfl, rfl, Nat.le_refl _, fun _ _ _ => rfl⟩ (fun i j hi hj hij g hg => ?_) (by omega) (fun i hi => ?_) (fun i hi => ?_)).mono fun e w' hh => ?_
  · by_cases e : i = 0
    · rw [if_pos e, if_pos e]; exact r1
    · rw [if_neg e, if_neg e]; exact r2
  · dsimp only at hg ⊢
    by_cases e : i = 0
    · rw [if_pos e] at hg
      rw [if_neg (by omega)]
      have e1 : g1 = g := Option.some.inj hg
      intro e2
      have e3 : g2 = g := Option.some.inj e2
      omega
    · rw [if_neg e] at hg
      rw [if_pos (by omega)]
      have e1 : g2 = g := Option.some.inj hg
      intro e2
      have e3 : g1 = g := Option.some.inj e2
      omega
  · by_cases e : i = 0
    · rw [if_pos e]; intro e2; have e3 : g1 = W.heap.size := Option.some.inj e2; omega
    · rw [if_neg e]; intro e2; have e3 : g2 = W.heap.size := Option.some.inj e2; omega
  · by_cases e : i = 0
    · rw [if_pos e, e]; exact k0
    · rw [if_neg e, show i = 1 by omega]; exact k1
  · obtain ⟨he, xs, hF⟩ := hh
    refine ⟨he, hF.os.trans b1.os, hF.tape.trans b1.tape, hF.output.trans b1.output, Nat.le_trans b1.size hF.size, fun k hk e1 e2 _ _ => (hF.block k (by omega) (fun i hi e => ?_)).trans (b1.block k hk)⟩
    by_cases e9 : i = 0
    · rw [if_pos e9] at e
      exact e1 (Option.some.inj e)
    · rw [if_neg e9] at e
      exact e2 (Option.some.inj e)
theorem freeW_two {W : World} {g1 g2 n c1 c2 cl : Nat} {X1 X2 : List Value} (h1 : W.ownsRow 0 23 1 (.slice (some ⟨g1, 0, .none⟩) n c1) n X1) (h2 : W.ownsRow 0 23 1 (.slice (some ⟨g2, 0, .none⟩) n c2) n X2) (hne : g1 ≠ g2) (hn : n ≤ 1000000) :
    Calls Tryz.prog 28 #[.slice (some ⟨W.heap.size, 0, .none⟩) 2 cl] (W.alloc (.cells #[.slice (some ⟨g1, 0, .none⟩) n c1, .slice (some ⟨g2, 0, .none⟩) n c2] 22)) fun e w' => e = .returned (.bool true) ∧ Tch g1 g2 g2 g2 W w' := by
  have l1 := (h1.lt g1 rfl).2
  have l2 := (h2.lt g2 rfl).2
  obtain ⟨W1, hW1⟩ : ∃ W1, W1 = W.alloc (.cells #[.slice (some ⟨g1, 0, .none⟩) n c1, .slice (some ⟨g2, 0, .none⟩) n c2] 22) := ⟨_, rfl⟩
  rw [← hW1]
  have r1 : W1.ownsRow 0 23 1 (.slice (some ⟨g1, 0, .none⟩) n c1) n X1 := by rw [hW1]; exact h1.alloc _
  have r2 : W1.ownsRow 0 23 1 (.slice (some ⟨g2, 0, .none⟩) n c2) n X2 := by rw [hW1]; exact h2.alloc _
  have k0 : W1.cell? ⟨W.heap.size, 0, .none⟩ = some (.slice (some ⟨g1, 0, .none⟩) n c1) := by rw [hW1]; simp
  have k1 : W1.cell? ⟨W.heap.size, 1, .none⟩ = some (.slice (some ⟨g2, 0, .none⟩) n c2) := by rw [hW1]; simp
  have z1 : W1.heap.size = W.heap.size + 1 := by rw [hW1]; simp
  have b1 : Below W.heap.size W W1 := by rw [hW1]; exact (Below.refl _ _).alloc (Nat.le_refl _) _
  refine (freeW_any 2 W.heap.size cl (fun _ => n) (fun i => if i = 0 then .slice (some ⟨g1, 0, .none⟩) n c1 else .slice (some ⟨g2, 0, .none⟩) n c2) (fun i => if i = 0 then X1 else X2) W1 (by omega) (fun _ _ => by omega) ⟨fun i hi => ?_, rfl, rfl, rfl, Nat.le_refl _, fun _ _ _ => rfl⟩ (fun i j hi hj hij g hg => ?_) (by omega) (fun i hi => ?_) (fun i hi => ?_)).mono fun e w' hh => ?_
  · by_cases e : i = 0
    · rw [if_pos e, if_pos e]; exact r1
    · rw [if_neg e, if_neg e]; exact r2
  · dsimp only at hg ⊢
    by_cases e : i = 0
    · rw [if_pos e] at hg
      rw [if_neg (by omega)]
      have e1 : g1 = g := Option.some.inj hg
      intro e2
      have e3 : g2 = g := Option.some.inj e2
      omega
    · rw [if_neg e] at hg
      rw [if_pos (by omega)]
      have e1 : g2 = g := Option.some.inj hg
      intro e2
      have e3 : g1 = g := Option.some.inj e2
      omega
  · by_cases e : i = 0
    · rw [if_pos e]; intro e2; have e3 : g1 = W.heap.size := Option.some.inj e2; omega
    · rw [if_neg e]; intro e2; have e3 : g2 = W.heap.size := Option.some.inj e2; omega
  · by_cases e : i = 0
    · rw [if_pos e, e]; exact k0
    · rw [if_neg e, show i = 1 by omega]; exact k1
  · obtain ⟨he, xs, hF⟩ := hh
    refine ⟨he, hF.os.trans b1.os, hF.tape.trans b1.tape, hF.output.trans b1.output, Nat.le_trans b1.size hF.size, fun k hk e1 e2 _ _ => (hF.block k (by omega) (fun i hi e => ?_)).trans (b1.block k hk)⟩
    by_cases e9 : i = 0
    · rw [if_pos e9] at e
      exact e1 (Option.some.inj e)
    · rw [if_neg e9] at e
      exact e2 (Option.some.inj e)
/-- The rows of the law. -/
structure Nine (h0 : Nat) (W : World) (n nn P : Nat) (RB : List Value) (ys : List Int) (l : List Pg) (g1 g2 g3 c3 g4 c4 g5 c5 g6 c6 g7 c7 g8 c8 g9 c9 : Nat) : Prop where
  x1 : W.ownsRow 0 5 1 (.slice (some ⟨g1, 0, .none⟩) n n) n RB
  x2 : W.ownsRow 0 5 1 (.slice (some ⟨g2, 0, .none⟩) n n) n RB
  x3 : W.ownsRow 0 5 1 (.slice (some ⟨g3, 0, .none⟩) n c3) n RB
  n1 : W.ownsRow 0 23 1 (.slice (some ⟨g4, 0, .none⟩) nn c4) nn (wv ys)
  p1 : W.ownsRow 0 99 3 (.slice (some ⟨g5, 0, .none⟩) P c5) P (pcs l)
  n2 : W.ownsRow 0 23 1 (.slice (some ⟨g6, 0, .none⟩) nn c6) nn (wv ys)
  p2 : W.ownsRow 0 99 3 (.slice (some ⟨g7, 0, .none⟩) P c7) P (pcs l)
  n3 : W.ownsRow 0 23 1 (.slice (some ⟨g8, 0, .none⟩) nn c8) nn (wv ys)
  p3 : W.ownsRow 0 99 3 (.slice (some ⟨g9, 0, .none⟩) P c9) P (pcs l)
  ord : h0 ≤ g1 ∧ g1 < g2 ∧ g2 < g3 ∧ g3 < g4 ∧ g3 < g5 ∧ g4 < g6 ∧ g4 < g7 ∧ g5 < g6 ∧ g5 < g7 ∧ g6 < g8 ∧ g7 < g8 ∧ g8 < g9 ∧ g4 ≠ g5 ∧ g6 ≠ g7
theorem Nine.below {h0 : Nat} {W W' : World} {n nn P : Nat} {RB : List Value} {ys : List Int} {l : List Pg} {g1 g2 g3 c3 g4 c4 g5 c5 g6 c6 g7 c7 g8 c8 g9 c9 : Nat} (h : Nine h0 W n nn P RB ys l g1 g2 g3 c3 g4 c4 g5 c5 g6 c6 g7 c7 g8 c8 g9 c9) (b : Below W.heap.size W W') : Nine h0 W' n nn P RB ys l g1 g2 g3 c3 g4 c4 g5 c5 g6 c6 g7 c7 g8 c8 g9 c9 :=
  ⟨ownF_bel h.x1 b, ownF_bel h.x2 b, ownF_bel h.x3 b, ownF_bel h.n1 b, ownF_bel h.p1 b, ownF_bel h.n2 b, ownF_bel h.p2 b, ownF_bel h.n3 b, ownF_bel h.p3 b, h.ord⟩
theorem acc214 {c : Nat → Int} {P n : Nat} (hc : ∀ i, i < P → c i = 214) (hn : n = P * 4096) : ∀ j, j < n → accU c 1 (0 + j) = true := fun j hj => by
  unfold accU
  rw [hc _ (by omega)]
  decide
theorem in_ownF {w : World} {s p b m N r P ft : Nat} {size : Int} {B : Nat → Int} {L : List Nat} {F : Nat → Option Nat} {lf : Nat → Nat → Int} {fr : Nat → Nat} {c : Nat → Int} {n : Nat} {RB : List Value} (h : SpT w s p b m N r P ft size B L F lf fr c) (hc : ∀ i, i < P → c i = 214) (hn : n = P * 4096 ∧ 1 ≤ n) (hR : RB = (List.range n).map fun j => .int .u8 (btU B fr (0 + j))) :
    Calls Tryz.prog 13 #[.pointer (some ⟨s, 0, .none⟩), .int .u64 0, .int .i64 n] w fun e w' => Below w.heap.size w w' ∧ ∃ g, e = .returned (.tuple #[.slice (some ⟨g, 0, .none⟩) n n, .bool true]) ∧ w'.ownsRow w.heap.size 5 1 (.slice (some ⟨g, 0, .none⟩) n n) n RB := by
  have k := in_own h.su 0 n hn.2 (by omega) (acc214 hc hn.1)
  unfold InO at k
  rw [hR]
  exact k
end Go.Proofs.YtblmkkhiojbcjaaGreat
