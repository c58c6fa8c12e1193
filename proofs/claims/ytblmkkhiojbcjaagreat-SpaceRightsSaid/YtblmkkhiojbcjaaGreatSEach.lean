import Derived.Test.YtblmkkhiojbcjaaGreatSTour
import Derived.Test.YtblmkkhiojbcjaaGreatSNod
import Derived.Deep.DeepCutAuto
namespace Go.Proofs.YtblmkkhiojbcjaaGreat
open Go.RowKit Go.Shelf
set_option linter.unusedVariables false
set_option linter.unusedSimpArgs false
/-- Six cells that may be written. -/
structure C6 (W : World) (P : Nat) (x0 x1 x2 x3 x4 x5 : Value) : Prop where
  c0 : W.cell? ⟨P, 0, .none⟩ = some x0
  c1 : W.cell? ⟨P, 1, .none⟩ = some x1
  c2 : W.cell? ⟨P, 2, .none⟩ = some x2
  c3 : W.cell? ⟨P, 3, .none⟩ = some x3
  c4 : W.cell? ⟨P, 4, .none⟩ = some x4
  c5 : W.cell? ⟨P, 5, .none⟩ = some x5
  f0 : W.frozen? ⟨P, 0, .none⟩ = false
  f1 : W.frozen? ⟨P, 1, .none⟩ = false
  f2 : W.frozen? ⟨P, 2, .none⟩ = false
  f3 : W.frozen? ⟨P, 3, .none⟩ = false
  f4 : W.frozen? ⟨P, 4, .none⟩ = false
  f5 : W.frozen? ⟨P, 5, .none⟩ = false
theorem C6.below {W W' : World} {P : Nat} {x0 x1 x2 x3 x4 x5 : Value} (h : C6 W P x0 x1 x2 x3 x4 x5) (b : Below W.heap.size W W') : C6 W' P x0 x1 x2 x3 x4 x5 := by
  have hP : P < W.heap.size := lt_of_cell h.c0
  exact ⟨(b.cell hP).trans h.c0, (b.cell hP).trans h.c1, (b.cell hP).trans h.c2, (b.cell hP).trans h.c3, (b.cell hP).trans h.c4, (b.cell hP).trans h.c5, (b.frozen hP).trans h.f0, (b.frozen hP).trans h.f1, (b.frozen hP).trans h.f2, (b.frozen hP).trans h.f3, (b.frozen hP).trans h.f4, (b.frozen hP).trans h.f5⟩
theorem C6.new (w : World) (x0 x1 x2 x3 x4 x5 : Value) (t : TypeId) : C6 (w.alloc (.cells #[x0, x1, x2, x3, x4, x5] t)) w.heap.size x0 x1 x2 x3 x4 x5 :=
  ⟨by simp, by simp, by simp, by simp, by simp, by simp, World.frozen?_alloc_new _ _ _ _, World.frozen?_alloc_new _ _ _ _, World.frozen?_alloc_new _ _ _ _, World.frozen?_alloc_new _ _ _ _, World.frozen?_alloc_new _ _ _ _, World.frozen?_alloc_new _ _ _ _⟩
theorem C6.set {W : World} {P : Nat} {x0 x1 x2 x3 x4 x5 : Value} (h : C6 W P x0 x1 x2 x3 x4 x5) (y0 y1 y2 y3 y4 y5 : Value) : C6 ((((((W.setCell ⟨P, 0, .none⟩ y0).setCell ⟨P, 1, .none⟩ y1).setCell ⟨P, 2, .none⟩ y2).setCell ⟨P, 3, .none⟩ y3).setCell ⟨P, 4, .none⟩ y4).setCell ⟨P, 5, .none⟩ y5) P y0 y1 y2 y3 y4 y5 :=
  ⟨(World.cell?_setCell_other _ _ _ _ (by simp)).trans ((World.cell?_setCell_other _ _ _ _ (by simp)).trans ((World.cell?_setCell_other _ _ _ _ (by simp)).trans ((World.cell?_setCell_other _ _ _ _ (by simp)).trans ((World.cell?_setCell_other _ _ _ _ (by simp)).trans (World.cell?_setCell_same' _ _ _ (by rw [h.c0]; rfl)))))), (World.cell?_setCell_other _ _ _ _ (by simp)).trans ((World.cell?_setCell_other _ _ _ _ (by simp)).trans ((World.cell?_setCell_other _ _ _ _ (by simp)).trans ((World.cell?_setCell_other _ _ _ _ (by simp)).trans (World.cell?_setCell_same' _ _ _ (by rw [World.cell?_setCell_other _ _ _ _ (by simp), h.c1]; rfl))))), (World.cell?_setCell_other _ _ _ _ (by simp)).trans ((World.cell?_setCell_other _ _ _ _ (by simp)).trans ((World.cell?_setCell_other _ _ _ _ (by simp)).trans (World.cell?_setCell_same' _ _ _ (by rw [World.cell?_setCell_other _ _ _ _ (by simp), World.cell?_setCell_other _ _ _ _ (by simp), h.c2]; rfl)))), (World.cell?_setCell_other _ _ _ _ (by simp)).trans ((World.cell?_setCell_other _ _ _ _ (by simp)).trans (World.cell?_setCell_same' _ _ _ (by rw [World.cell?_setCell_other _ _ _ _ (by simp), World.cell?_setCell_other _ _ _ _ (by simp), World.cell?_setCell_other _ _ _ _ (by simp), h.c3]; rfl))), (World.cell?_setCell_other _ _ _ _ (by simp)).trans (World.cell?_setCell_same' _ _ _ (by rw [World.cell?_setCell_other _ _ _ _ (by simp), World.cell?_setCell_other _ _ _ _ (by simp), World.cell?_setCell_other _ _ _ _ (by simp), World.cell?_setCell_other _ _ _ _ (by simp), h.c4]; rfl)), World.cell?_setCell_same' _ _ _ (by rw [World.cell?_setCell_other _ _ _ _ (by simp), World.cell?_setCell_other _ _ _ _ (by simp), World.cell?_setCell_other _ _ _ _ (by simp), World.cell?_setCell_other _ _ _ _ (by simp), World.cell?_setCell_other _ _ _ _ (by simp), h.c5]; rfl),
    by rw [World.frozen?_setCell, World.frozen?_setCell, World.frozen?_setCell, World.frozen?_setCell, World.frozen?_setCell, World.frozen?_setCell]; exact h.f0, by rw [World.frozen?_setCell, World.frozen?_setCell, World.frozen?_setCell, World.frozen?_setCell, World.frozen?_setCell, World.frozen?_setCell]; exact h.f1, by rw [World.frozen?_setCell, World.frozen?_setCell, World.frozen?_setCell, World.frozen?_setCell, World.frozen?_setCell, World.frozen?_setCell]; exact h.f2, by rw [World.frozen?_setCell, World.frozen?_setCell, World.frozen?_setCell, World.frozen?_setCell, World.frozen?_setCell, World.frozen?_setCell]; exact h.f3, by rw [World.frozen?_setCell, World.frozen?_setCell, World.frozen?_setCell, World.frozen?_setCell, World.frozen?_setCell, World.frozen?_setCell]; exact h.f4, by rw [World.frozen?_setCell, World.frozen?_setCell, World.frozen?_setCell, World.frozen?_setCell, World.frozen?_setCell, World.frozen?_setCell]; exact h.f5⟩
theorem below6 {B : Nat} {w W : World} (h : Below B w W) {P : Nat} (hP : B ≤ P) (y0 y1 y2 y3 y4 y5 : Value) : Below B w ((((((W.setCell ⟨P, 0, .none⟩ y0).setCell ⟨P, 1, .none⟩ y1).setCell ⟨P, 2, .none⟩ y2).setCell ⟨P, 3, .none⟩ y3).setCell ⟨P, 4, .none⟩ y4).setCell ⟨P, 5, .none⟩ y5) :=
  (((((h.setCell (p := ⟨P, 0, .none⟩) hP _).setCell (p := ⟨P, 1, .none⟩) hP _).setCell (p := ⟨P, 2, .none⟩) hP _).setCell (p := ⟨P, 3, .none⟩) hP _).setCell (p := ⟨P, 4, .none⟩) hP _).setCell (p := ⟨P, 5, .none⟩) hP _
section
variable {w : World} {v : Value}
set_option maxHeartbeats 4000000 in
theorem no_each {T : Nat} {root : Int} {m : Value} (h : Unm w v) (f : Value) (t : Tour w T v root 0 m) : Calls Tryz.prog 121 #[.pointer (some ⟨T, 0, .none⟩), f] w fun e w' => (∃ u, e = .returned u) ∧ ∃ w1, Below w.heap.size w w1 ∧ Below w1.heap.size (w1.setCell ⟨T, 2, .none⟩ (.int .u64 549755813888)) w' := by
  have hT : T < w.heap.size := lt_of_cell t.c0
  have c78 := fun W => span_any 3 (by omega) W
  rw [spn3] at c78
  have k0 := t.c0
  have k1 := t.c1
  have k2 := t.c2
  go_enter Tryz.func121, Tryz.ntmps121
  go_wp2
  refine wp_loop_rounds 2 ?_
  rw [rounds_succ]
  go_wp2
  go_quiet (first | (go_at_call 136; exact Calls.quiet_of_same (c78 _)))
  go_wp2
  have hbw : Below w.heap.size w (w.drewN nq) := blw_drewN _ _ _
  have hz : (w.drewN nq).heap.size = w.heap.size := rfl
  have hu : ∀ W, Below w.heap.size w W → Unm W v := fun W hb => h.below hb
  have t0 := t.below hbw
  clear k0 k1 k2
  generalize w.drewN nq = W0 at *
  have k0 := t0.c0
  have k1 := t0.c1
  have k2 := t0.c2
  have hbq : Below w.heap.size w W0.drew := hbw.drew
  have c81 : Calls Tryz.prog 144 #[v, .int .u64 root, .int .u64 0, .pointer (some ⟨T, 0, .none⟩)] W0.drew fun e W1 => e = .returned (.agg #[.int .u64 0, .int .u64 0, .int .u64 0, .int .i64 2, .int .u64 0, .int .i64 4]) ∧ Hid (Below w.heap.size w W1) := by
    refine (no_walkT (hu _ hbq) root 0 _ (by omega)).mono ?_
    rintro e W1 ⟨he, hb⟩
    exact ⟨he, hbq.trans (hb.mono hbq.size)⟩
  have hbA : Below w.heap.size w (W0.drew.alloc (.cells #[.int .u64 0, .int .u64 0, .int .u64 0, .int .i64 0, .int .u64 0, .int .i64 0] 131)) := hbq.alloc (B := w.heap.size) (by show _ ≤ W0.heap.size; omega) _
  have c81a : Calls Tryz.prog 144 #[v, .int .u64 root, .int .u64 0, .pointer (some ⟨T, 0, .none⟩)] (W0.drew.alloc (.cells #[.int .u64 0, .int .u64 0, .int .u64 0, .int .i64 0, .int .u64 0, .int .i64 0] 131)) fun e W1 => e = .returned (.agg #[.int .u64 0, .int .u64 0, .int .u64 0, .int .i64 2, .int .u64 0, .int .i64 4]) ∧ Hid (Below w.heap.size w W1) ∧ C6 W1 W0.heap.size (.int .u64 0) (.int .u64 0) (.int .u64 0) (.int .i64 0) (.int .u64 0) (.int .i64 0) := by
    refine (no_walkT (hu _ hbA) root 0 _ (by omega)).mono ?_
    rintro e W1 ⟨he, hb⟩
    exact ⟨he, hbA.trans (hb.mono hbA.size), (C6.new W0.drew _ _ _ _ _ _ 131).below hb⟩
  have k0a := (t.below hbA).c0
  have k1a := (t.below hbA).c1
  have k2a := (t.below hbA).c2
  have HZ : Hid (W0.heap.size = w.heap.size) := hz
  have hT0 : T < W0.heap.size := by omega
  have hT1 : ¬ T = W0.heap.size := by omega
  clear hbA hbq hz hbw t0
  go_cut [4] (fun s4 W => ∃ P, s4 = .pointer (some ⟨P, 0, .none⟩) ∧ w.heap.size ≤ P ∧ C6 W P (.int .u64 0) (.int .u64 0) (.int .u64 0) (.int .i64 2) (.int .u64 0) (.int .i64 4) ∧ Below w.heap.size w W)
  case first =>
    refine wp_region_noPanic ?_
    go_region_law (first | (go_simp; go_at_call 144; refine c81a.mono ?_; rintro e W1 ⟨rfl, hB1, C1⟩; obtain ⟨z0, z1, z2, z3, z4, z5, y0, y1, y2, y3, y4, y5⟩ := C1) | (go_simp; go_at_call 144; refine c81.mono ?_; rintro e W1 ⟨rfl, hB1⟩))
    all_goals (refine NoPanic.normal ?_)
    all_goals go_wp2
    all_goals go_meet
    all_goals first
      | exact ⟨_, rfl, hB1.out.size, C6.new W1 _ _ _ _ _ _ 131, hB1.out.alloc (B := w.heap.size) hB1.out.size _⟩
      | exact ⟨_, rfl, Nat.le_of_eq HZ.out.symm, C6.set ⟨z0, z1, z2, z3, z4, z5, y0, y1, y2, y3, y4, y5⟩ _ _ _ _ _ _, below6 hB1.out (Nat.le_of_eq HZ.out.symm) _ _ _ _ _ _⟩
  case rest =>
    obtain ⟨P, rfl, hP, C, hb⟩ := hcut
    clear c81 c81a k0a k1a k2a k0 k1 k2 hT0 hT1
    have tc := t.below hb
    have hcl : w.heap.size ≤ wc.heap.size := hb.size
    have c82 := branch_any T 0 2 (by omega) (by omega) tc.c2
    have HC : Hid (C6 wc P (.int .u64 0) (.int .u64 0) (.int .u64 0) (.int .i64 2) (.int .u64 0) (.int .i64 4)) := C
    obtain ⟨z0, z1, z2, z3, z4, z5, y0, y1, y2, y3, y4, y5⟩ := C
    go_upto_region 4 with (first | (go_at_call 145; refine c82.mono ?_; rintro e W2 ⟨rfl, hb2⟩))
    have hb3 : Below w.heap.size w (W2.alloc (.cells #[.int .u64 0, .int .i64 2] 126)) := (hb.trans (hb2.mono hcl)).alloc (B := w.heap.size) (Nat.le_trans hcl hb2.size) _
    have C3 := HC.out.below (hb2.trans ((below1 W2 (.cells #[.int .u64 0, .int .i64 2] 126)).mono hb2.size))
    clear z0 z1 z2 z3 z4 z5 y0 y1 y2 y3 y4 y5 c82 tc
    generalize W2.alloc (.cells #[.int .u64 0, .int .i64 2] 126) = W3 at *
    have HB3 : Hid (Below w.heap.size w W3) := hb3
    have HC3 : Hid (C6 W3 P (.int .u64 0) (.int .u64 0) (.int .u64 0) (.int .i64 2) (.int .u64 0) (.int .i64 4)) := C3
    obtain ⟨z0, z1, z2, z3, z4, z5, y0, y1, y2, y3, y4, y5⟩ := C3
    clear hb2 hb hb3
    go_upto_region 6 with fail
    go_quiet (fail)
    have hb4 : Below w.heap.size w (W3.drewN nq) := HB3.out.trans (blw_drewN _ _ _)
    have t4 := t.below hb4
    have c84 := pass_any t4 0 0 0 2 0 4 0 512 (by omega) (by omega) (by omega) (by omega) (fun W' hW => by
      refine (no_firstTaken (hu _ (hb4.trans (hW.mono hb4.size))) _ _ (by have := ix_b 0 2; omega)).mono ?_
      rintro e W ⟨he, rfl⟩
      exact ⟨he, Below.refl _ _⟩)
    rw [show (0 : Int) - 0 % spn (2 + 1) + 512 * spn 2 = 549755813888 from rfl] at c84
    simp only [pth] at c84
    have HB4 : Hid (Below w.heap.size w (W3.drewN nq)) := hb4
    have C4 := HC3.out.below (blw_drewN _ W3 nq)
    clear hb4 t4 z0 z1 z2 z3 z4 z5 y0 y1 y2 y3 y4 y5
    generalize W3.drewN nq = W4 at *
    obtain ⟨z0, z1, z2, z3, z4, z5, y0, y1, y2, y3, y4, y5⟩ := C4
    go_wp2_with (first | (go_at_call 147; refine c84.mono ?_; rintro e W5 ⟨⟨u, rfl⟩, W6, hb6, rfl⟩))
    have hb7 : Below w.heap.size w W6 := HB4.out.trans (hb6.mono HB4.out.size)
    have k2 := ((t.below hb7).set 549755813888).c2
    have HB7 : Hid (Below w.heap.size w W6) := hb7
    have hs : (W6.setCell ⟨T, 2, .none⟩ (.int .u64 549755813888)).heap.size = W6.heap.size := by simp
    have HS : Hid ((W6.setCell ⟨T, 2, .none⟩ (.int .u64 549755813888)).heap.size = W6.heap.size) := hs
    clear hb6 hb7 hs z0 z1 z2 z3 z4 z5 y0 y1 y2 y3 y4 y5
    generalize hW7 : W6.setCell ⟨T, 2, .none⟩ (.int .u64 549755813888) = W7 at *
    have HW7 : Hid (_ = W7) := hW7
    clear hW7
    rw [rounds_succ]
    go_wp2
    go_quiet (first | (go_at_call 136; exact Calls.quiet_of_same (c78 _)))
    go_wp2
    go_end0
    refine ⟨⟨_, rfl⟩, W6, HB7.out, ?_⟩
    rw [HW7.out]
    exact blw_drewN _ _ _
end
end Go.Proofs.YtblmkkhiojbcjaaGreat
