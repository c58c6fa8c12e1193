import Derived.Test.YtblmkkhiojbcjaaGreatSWalk
import Derived.Test.YtblmkkhiojbcjaaGreatSEach
import Derived.Handy
namespace Go.Proofs.YtblmkkhiojbcjaaGreat
open Go.RowKit
set_option linter.unusedVariables false
set_option linter.unusedSimpArgs false
theorem Ram.below {w w' : World} {p b m N : Nat} {B : Nat → Int} {L : List Nat} (h : Ram w p b m N B L) (k : Below w.heap.size w w') : Ram w' p b m N B L := ⟨h.mem.below k, h.nd, h.lt, h.thr⟩
theorem C6.set045 {W : World} {P : Nat} {x0 x1 x2 x3 x4 x5 : Value} (h : C6 W P x0 x1 x2 x3 x4 x5) (y u v : Value) : C6 (((W.setCell ⟨P, 0, .none⟩ y).setCell ⟨P, 4, .none⟩ u).setCell ⟨P, 5, .none⟩ v) P y x1 x2 x3 u v :=
  ⟨(World.cell?_setCell_other _ _ _ _ (by simp)).trans ((World.cell?_setCell_other _ _ _ _ (by simp)).trans (World.cell?_setCell_same' _ _ _ (by rw [h.c0]; rfl))), (World.cell?_setCell_other _ _ _ _ (by simp)).trans ((World.cell?_setCell_other _ _ _ _ (by simp)).trans ((World.cell?_setCell_other _ _ _ _ (by simp)).trans (h.c1))), (World.cell?_setCell_other _ _ _ _ (by simp)).trans ((World.cell?_setCell_other _ _ _ _ (by simp)).trans ((World.cell?_setCell_other _ _ _ _ (by simp)).trans (h.c2))), (World.cell?_setCell_other _ _ _ _ (by simp)).trans ((World.cell?_setCell_other _ _ _ _ (by simp)).trans ((World.cell?_setCell_other _ _ _ _ (by simp)).trans (h.c3))), (World.cell?_setCell_other _ _ _ _ (by simp)).trans (World.cell?_setCell_same' _ _ _ (by rw [World.cell?_setCell_other _ _ _ _ (by simp), h.c4]; rfl)), World.cell?_setCell_same' _ _ _ (by rw [World.cell?_setCell_other _ _ _ _ (by simp), World.cell?_setCell_other _ _ _ _ (by simp), h.c5]; rfl),
    by rw [World.frozen?_setCell, World.frozen?_setCell, World.frozen?_setCell]; exact h.f0, by rw [World.frozen?_setCell, World.frozen?_setCell, World.frozen?_setCell]; exact h.f1, by rw [World.frozen?_setCell, World.frozen?_setCell, World.frozen?_setCell]; exact h.f2, by rw [World.frozen?_setCell, World.frozen?_setCell, World.frozen?_setCell]; exact h.f3, by rw [World.frozen?_setCell, World.frozen?_setCell, World.frozen?_setCell]; exact h.f4, by rw [World.frozen?_setCell, World.frozen?_setCell, World.frozen?_setCell]; exact h.f5⟩
theorem C6.set145 {W : World} {P : Nat} {x0 x1 x2 x3 x4 x5 : Value} (h : C6 W P x0 x1 x2 x3 x4 x5) (y u v : Value) : C6 (((W.setCell ⟨P, 1, .none⟩ y).setCell ⟨P, 4, .none⟩ u).setCell ⟨P, 5, .none⟩ v) P x0 y x2 x3 u v :=
  ⟨(World.cell?_setCell_other _ _ _ _ (by simp)).trans ((World.cell?_setCell_other _ _ _ _ (by simp)).trans ((World.cell?_setCell_other _ _ _ _ (by simp)).trans (h.c0))), (World.cell?_setCell_other _ _ _ _ (by simp)).trans ((World.cell?_setCell_other _ _ _ _ (by simp)).trans (World.cell?_setCell_same' _ _ _ (by rw [h.c1]; rfl))), (World.cell?_setCell_other _ _ _ _ (by simp)).trans ((World.cell?_setCell_other _ _ _ _ (by simp)).trans ((World.cell?_setCell_other _ _ _ _ (by simp)).trans (h.c2))), (World.cell?_setCell_other _ _ _ _ (by simp)).trans ((World.cell?_setCell_other _ _ _ _ (by simp)).trans ((World.cell?_setCell_other _ _ _ _ (by simp)).trans (h.c3))), (World.cell?_setCell_other _ _ _ _ (by simp)).trans (World.cell?_setCell_same' _ _ _ (by rw [World.cell?_setCell_other _ _ _ _ (by simp), h.c4]; rfl)), World.cell?_setCell_same' _ _ _ (by rw [World.cell?_setCell_other _ _ _ _ (by simp), World.cell?_setCell_other _ _ _ _ (by simp), h.c5]; rfl),
    by rw [World.frozen?_setCell, World.frozen?_setCell, World.frozen?_setCell]; exact h.f0, by rw [World.frozen?_setCell, World.frozen?_setCell, World.frozen?_setCell]; exact h.f1, by rw [World.frozen?_setCell, World.frozen?_setCell, World.frozen?_setCell]; exact h.f2, by rw [World.frozen?_setCell, World.frozen?_setCell, World.frozen?_setCell]; exact h.f3, by rw [World.frozen?_setCell, World.frozen?_setCell, World.frozen?_setCell]; exact h.f4, by rw [World.frozen?_setCell, World.frozen?_setCell, World.frozen?_setCell]; exact h.f5⟩
theorem C6.set245 {W : World} {P : Nat} {x0 x1 x2 x3 x4 x5 : Value} (h : C6 W P x0 x1 x2 x3 x4 x5) (y u v : Value) : C6 (((W.setCell ⟨P, 2, .none⟩ y).setCell ⟨P, 4, .none⟩ u).setCell ⟨P, 5, .none⟩ v) P x0 x1 y x3 u v :=
  ⟨(World.cell?_setCell_other _ _ _ _ (by simp)).trans ((World.cell?_setCell_other _ _ _ _ (by simp)).trans ((World.cell?_setCell_other _ _ _ _ (by simp)).trans (h.c0))), (World.cell?_setCell_other _ _ _ _ (by simp)).trans ((World.cell?_setCell_other _ _ _ _ (by simp)).trans ((World.cell?_setCell_other _ _ _ _ (by simp)).trans (h.c1))), (World.cell?_setCell_other _ _ _ _ (by simp)).trans ((World.cell?_setCell_other _ _ _ _ (by simp)).trans (World.cell?_setCell_same' _ _ _ (by rw [h.c2]; rfl))), (World.cell?_setCell_other _ _ _ _ (by simp)).trans ((World.cell?_setCell_other _ _ _ _ (by simp)).trans ((World.cell?_setCell_other _ _ _ _ (by simp)).trans (h.c3))), (World.cell?_setCell_other _ _ _ _ (by simp)).trans (World.cell?_setCell_same' _ _ _ (by rw [World.cell?_setCell_other _ _ _ _ (by simp), h.c4]; rfl)), World.cell?_setCell_same' _ _ _ (by rw [World.cell?_setCell_other _ _ _ _ (by simp), World.cell?_setCell_other _ _ _ _ (by simp), h.c5]; rfl),
    by rw [World.frozen?_setCell, World.frozen?_setCell, World.frozen?_setCell]; exact h.f0, by rw [World.frozen?_setCell, World.frozen?_setCell, World.frozen?_setCell]; exact h.f1, by rw [World.frozen?_setCell, World.frozen?_setCell, World.frozen?_setCell]; exact h.f2, by rw [World.frozen?_setCell, World.frozen?_setCell, World.frozen?_setCell]; exact h.f3, by rw [World.frozen?_setCell, World.frozen?_setCell, World.frozen?_setCell]; exact h.f4, by rw [World.frozen?_setCell, World.frozen?_setCell, World.frozen?_setCell]; exact h.f5⟩
theorem C6.one3 {W : World} {P : Nat} {x0 x1 x2 x3 x4 x5 : Value} (h : C6 W P x0 x1 x2 x3 x4 x5) (y : Value) : C6 (W.setCell ⟨P, 3, .none⟩ y) P x0 x1 x2 y x4 x5 :=
  ⟨(World.cell?_setCell_other _ _ _ _ (by simp)).trans (h.c0), (World.cell?_setCell_other _ _ _ _ (by simp)).trans (h.c1), (World.cell?_setCell_other _ _ _ _ (by simp)).trans (h.c2), World.cell?_setCell_same' _ _ _ (by rw [h.c3]; rfl), (World.cell?_setCell_other _ _ _ _ (by simp)).trans (h.c4), (World.cell?_setCell_other _ _ _ _ (by simp)).trans (h.c5),
    by rw [World.frozen?_setCell]; exact h.f0, by rw [World.frozen?_setCell]; exact h.f1, by rw [World.frozen?_setCell]; exact h.f2, by rw [World.frozen?_setCell]; exact h.f3, by rw [World.frozen?_setCell]; exact h.f4, by rw [World.frozen?_setCell]; exact h.f5⟩
theorem C6.one5 {W : World} {P : Nat} {x0 x1 x2 x3 x4 x5 : Value} (h : C6 W P x0 x1 x2 x3 x4 x5) (y : Value) : C6 (W.setCell ⟨P, 5, .none⟩ y) P x0 x1 x2 x3 x4 y :=
  ⟨(World.cell?_setCell_other _ _ _ _ (by simp)).trans (h.c0), (World.cell?_setCell_other _ _ _ _ (by simp)).trans (h.c1), (World.cell?_setCell_other _ _ _ _ (by simp)).trans (h.c2), (World.cell?_setCell_other _ _ _ _ (by simp)).trans (h.c3), (World.cell?_setCell_other _ _ _ _ (by simp)).trans (h.c4), World.cell?_setCell_same' _ _ _ (by rw [h.c5]; rfl),
    by rw [World.frozen?_setCell]; exact h.f0, by rw [World.frozen?_setCell]; exact h.f1, by rw [World.frozen?_setCell]; exact h.f2, by rw [World.frozen?_setCell]; exact h.f3, by rw [World.frozen?_setCell]; exact h.f4, by rw [World.frozen?_setCell]; exact h.f5⟩
theorem C6.off {W : World} {P : Nat} {x0 x1 x2 x3 x4 x5 : Value} (h : C6 W P x0 x1 x2 x3 x4 x5) {a : Addr} (ha : a.block ≠ P) (y : Value) : C6 (W.setCell a y) P x0 x1 x2 x3 x4 x5 := by
  have e : (W.setCell a y).heap[P]? = W.heap[P]? := Below.heap_setCell _ _ _ _ (fun e => ha e.symm)
  exact ⟨(World.cell?_of_block (a := ⟨P, 0, .none⟩) e).trans h.c0, (World.cell?_of_block (a := ⟨P, 1, .none⟩) e).trans h.c1, (World.cell?_of_block (a := ⟨P, 2, .none⟩) e).trans h.c2, (World.cell?_of_block (a := ⟨P, 3, .none⟩) e).trans h.c3, (World.cell?_of_block (a := ⟨P, 4, .none⟩) e).trans h.c4, (World.cell?_of_block (a := ⟨P, 5, .none⟩) e).trans h.c5,
    (World.frozen?_of_block (a := ⟨P, 0, .none⟩) e).trans h.f0, (World.frozen?_of_block (a := ⟨P, 1, .none⟩) e).trans h.f1, (World.frozen?_of_block (a := ⟨P, 2, .none⟩) e).trans h.f2, (World.frozen?_of_block (a := ⟨P, 3, .none⟩) e).trans h.f3, (World.frozen?_of_block (a := ⟨P, 4, .none⟩) e).trans h.f4, (World.frozen?_of_block (a := ⟨P, 5, .none⟩) e).trans h.f5⟩
theorem C6.drew {W : World} {P : Nat} {x0 x1 x2 x3 x4 x5 : Value} (h : C6 W P x0 x1 x2 x3 x4 x5) : C6 W.drew P x0 x1 x2 x3 x4 x5 := h.below (Below.refl _ _).drew
theorem wk_stop0 {N : Nat} {L : List Nat} {B : Nat → Int} {va nd a0 a1 a2 e : Int} (h : ndB N L nd = true) : wk N L B va 0 nd a0 a1 a2 e = ⟨st nd va 0, a1, a2, 0, ent B nd va 0, kd (ent B nd va 0) 0⟩ := if_pos h
theorem wk_stop1 {N : Nat} {L : List Nat} {B : Nat → Int} {va nd a0 a1 a2 e : Int} (h : ndB N L nd = true) (hk : ¬ kd (ent B nd va 1) 1 = 3) : wk N L B va 1 nd a0 a1 a2 e = ⟨a0, st nd va 1, a2, 1, ent B nd va 1, kd (ent B nd va 1) 1⟩ := (if_pos h).trans (if_neg hk)
theorem wk_stop2 {N : Nat} {L : List Nat} {B : Nat → Int} {va nd a0 a1 a2 e : Int} (h : ndB N L nd = true) (hk : ¬ kd (ent B nd va 2) 2 = 3) : wk N L B va 2 nd a0 a1 a2 e = ⟨a0, a1, st nd va 2, 2, ent B nd va 2, kd (ent B nd va 2) 2⟩ := (if_pos h).trans (if_neg hk)
theorem wk_go1 {N : Nat} {L : List Nat} {B : Nat → Int} {va nd a0 a1 a2 e : Int} (h : ndB N L nd = true) (hk : kd (ent B nd va 1) 1 = 3) : wk N L B va 1 nd a0 a1 a2 e = wk N L B va 0 (adE (ent B nd va 1)) a0 (st nd va 1) a2 (ent B nd va 1) := (if_pos h).trans (if_pos hk)
theorem wk_go2 {N : Nat} {L : List Nat} {B : Nat → Int} {va nd a0 a1 a2 e : Int} (h : ndB N L nd = true) (hk : kd (ent B nd va 2) 2 = 3) : wk N L B va 2 nd a0 a1 a2 e = wk N L B va 1 (adE (ent B nd va 2)) a0 a1 (st nd va 2) (ent B nd va 2) := (if_pos h).trans (if_pos hk)
/-- Where a walk stands. -/
def WR (w : World) (N : Nat) (L : List Nat) (B : Nat → Int) (va : Int) (R : Pt) (v : Value) (W : World) : Prop := ∃ (l : Nat) (nd a0 a1 a2 e k : Int), l ≤ 2 ∧ v = .int .u64 nd ∧ 0 ≤ nd ∧ nd < 18446744073709551616 ∧ C6 W (w.heap.size + 1 + 1) (.int .u64 a0) (.int .u64 a1) (.int .u64 a2) (.int .i64 l) (.int .u64 e) (.int .i64 k) ∧ C6 W (w.heap.size + 1) (.int .u64 0) (.int .u64 0) (.int .u64 0) (.int .i64 0) (.int .u64 0) (.int .i64 0) ∧ Below w.heap.size w W ∧ wk N L B va l nd a0 a1 a2 e = R
section
variable {w : World} {p b m N : Nat} {B : Nat → Int} {L : List Nat}
set_option maxHeartbeats 4000000 in
theorem look_any (h : Ram w p b m N B L) (root va : Int) (hr : 0 ≤ root ∧ root < 18446744073709551616) (hv : 0 ≤ va ∧ va < 18446744073709551616) : Calls Tryz.prog 102 #[.pointer (some ⟨p, 0, .none⟩), .int .u64 root, .int .u64 va, .agg #[]] w fun e w' => e = .returned (look N L B root va).val ∧ Below w.heap.size w w' := by
  have HR : Hid (Ram w p b m N B L) := h
  have h0 : WR w N L B va (look N L B root va) (.int .u64 root) (((w.alloc (.cells #[] 138)).alloc (.cells #[.int .u64 0, .int .u64 0, .int .u64 0, .int .i64 0, .int .u64 0, .int .i64 0] 131)).alloc (.cells #[.int .u64 0, .int .u64 0, .int .u64 0, .int .i64 2, .int .u64 0, .int .i64 0] 131)) := by
    refine ⟨2, root, 0, 0, 0, 0, 0, by omega, rfl, hr.1, hr.2, ?_, ?_, below3 _ _ _ _, rfl⟩
    · have := C6.new ((w.alloc (.cells #[] 138)).alloc (.cells #[.int .u64 0, .int .u64 0, .int .u64 0, .int .i64 0, .int .u64 0, .int .i64 0] 131)) (.int .u64 0) (.int .u64 0) (.int .u64 0) (.int .i64 2) (.int .u64 0) (.int .i64 0) 131
      rw [World.size_alloc, World.size_alloc] at this
      exact this
    · have := C6.new (w.alloc (.cells #[] 138)) (.int .u64 0) (.int .u64 0) (.int .u64 0) (.int .i64 0) (.int .u64 0) (.int .i64 0) 131
      rw [World.size_alloc] at this
      exact this.below (below1 _ _)
  have H0 : Hid (WR w N L B va (look N L B root va) (.int .u64 root) _) := h0
  clear h h0
  go_enter Tryz.func102, Tryz.ntmps102
  go_wp2
  go_step3
  go_wp2
  go_step3
  go_wp2
  go_loopw [10] (fun v wr => WR w N L B va (look N L B root va) v wr) (fun v wr => match wr.cell? ⟨w.heap.size + 1 + 1, 3, .none⟩ with | some (.int _ l) => l.toNat | _ => 0)
  case atStart => exact H0.out
  case round =>
    obtain ⟨l, nd, a0, a1, a2, e, k, hl, rfl, hn0, hn1, C, CR, hb, hw⟩ := hrel
    have HC : Hid (C6 wr (w.heap.size + 1 + 1) (.int .u64 a0) (.int .u64 a1) (.int .u64 a2) (.int .i64 l) (.int .u64 e) (.int .i64 k)) := C
    have HCR0 : Hid (C6 wr (w.heap.size + 1) (.int .u64 0) (.int .u64 0) (.int .u64 0) (.int .i64 0) (.int .u64 0) (.int .i64 0)) := CR
    have HB : Hid (Below w.heap.size w wr) := hb
    have Hw : Hid (wk N L B va l nd a0 a1 a2 e = look N L B root va) := hw
    have c63 := fun W => index_any va l hv (by omega) W
    have hix := ix_b va l
    have w1 : IntKind.u64.wrap (ix va l * 8) = ix va l * 8 := by rw [IntKind.wrap_u64]; omega
    have R := HR.out.below hb
    obtain ⟨z0, z1, z2, z3, z4, z5, y0, y1, y2, y3, y4, y5⟩ := C
    clear CR H0
    cases hnd : ndB N L nd
    · have hfin : look N L B root va = ⟨a0, a1, a2, l, e, 4⟩ := by
        rw [← Hw.out]
        cases l <;> simp [wk, hnd]
      have HF : Hid (look N L B root va = ⟨a0, a1, a2, l, e, 4⟩) := hfin
      have c65 := fun W => mayBeNode_any nd ⟨hn0, hn1⟩ W
      have hat : 0 ≤ IntKind.u64.wrap (nd + ix va l * 8) ∧ IntKind.u64.wrap (nd + ix va l * 8) < 18446744073709551616 := by rw [IntKind.wrap_u64]; omega
      by_cases hal : nd % 4096 = 0 ∧ nd ≠ 2147483648
      · have w2 : IntKind.u64.wrap (nd + ix va l * 8) = nd + ix va l * 8 := by rw [IntKind.wrap_u64]; omega
        have c64 := load_nd_no R nd va l ⟨hn0, hn1⟩ hnd hal.1 hal.2
        clear R hfin hw hb hnd hat
        generalize ix va l = ii at *
        go_upto_region 6 with (first | (go_at_call 137; refine (c63 _).mono ?_; rintro r wr ⟨rfl, rfl⟩) | (go_at_call 118; refine c64.mono ?_; rintro r V1 ⟨rfl, hb1⟩))
        have C1 := HC.out.below hb1
        have HCR1 := HCR0.out.below hb1
        have hbw := HB.out.trans (hb1.mono HB.out.size)
        have HCL : Hid (C6 (V1.setCell ⟨w.heap.size + 1 + 1, 5, .none⟩ (.int .i64 4)) (w.heap.size + 1 + 1) (.int .u64 a0) (.int .u64 a1) (.int .u64 a2) (.int .i64 l) (.int .u64 e) (.int .i64 4)) := C1.one5 _
        have HCR : Hid (C6 (V1.setCell ⟨w.heap.size + 1 + 1, 5, .none⟩ (.int .i64 4)) (w.heap.size + 1) (.int .u64 0) (.int .u64 0) (.int .u64 0) (.int .i64 0) (.int .u64 0) (.int .i64 0)) := HCR1.off (a := ⟨w.heap.size + 1 + 1, 5, .none⟩) (by simp) _
        have HBV : Hid (Below w.heap.size w (V1.setCell ⟨w.heap.size + 1 + 1, 5, .none⟩ (.int .i64 4))) := hbw.setCell (p := ⟨w.heap.size + 1 + 1, 5, .none⟩) (by show w.heap.size ≤ w.heap.size + 1 + 1; omega) _
        clear z0 z1 z2 z3 z4 z5 y0 y1 y2 y3 y4 y5 hb1 HCR1 hbw
        obtain ⟨z0, z1, z2, z3, z4, z5, y0, y1, y2, y3, y4, y5⟩ := C1
        go_upto_region 12 with fail
        clear z0 z1 z2 z3 z4 z5 y0 y1 y2 y3 y4 y5
        generalize V1.setCell ⟨w.heap.size + 1 + 1, 5, .none⟩ (.int .i64 4) = V3 at *
        obtain ⟨z0, z1, z2, z3, z4, z5, y0, y1, y2, y3, y4, y5⟩ := id HCL.out
        obtain ⟨r0, r1, r2, r3, r4, r5, s0, s1, s2, s3, s4, s5⟩ := id HCR.out
        go_wp2
        have CF := HCR.out.set (.int .u64 a0) (.int .u64 a1) (.int .u64 a2) (.int .i64 l) (.int .u64 e) (.int .i64 4)
        have BF := below6 (P := w.heap.size + 1) HBV.out (by omega) (.int .u64 a0) (.int .u64 a1) (.int .u64 a2) (.int .i64 l) (.int .u64 e) (.int .i64 4)
        generalize ((((((V3.setCell ⟨w.heap.size + 1, 0, .none⟩ (.int .u64 a0)).setCell ⟨w.heap.size + 1, 1, .none⟩ (.int .u64 a1)).setCell ⟨w.heap.size + 1, 2, .none⟩ (.int .u64 a2)).setCell ⟨w.heap.size + 1, 3, .none⟩ (.int .i64 l)).setCell ⟨w.heap.size + 1, 4, .none⟩ (.int .u64 e)).setCell ⟨w.heap.size + 1, 5, .none⟩ (.int .i64 4)) = VF at *
        obtain ⟨f0, f1, f2, f3, f4, f5, _, _, _, _, _, _⟩ := CF
        rw [Exit.noGoto_ret]
        refine bodyPost_ret (v := .agg #[.int .u64 a0, .int .u64 a1, .int .u64 a2, .int .i64 l, .int .u64 e, .int .i64 4]) (by simp [results, Tryz.results102, go_sem, f0, f1, f2, f3, f4, f5]) rfl ⟨?_, BF⟩
        rw [HF.out]
        rfl
      · have mb : decide (nd % 4096 = 0 ∧ nd ≠ 2147483648) = false := by simpa using hal
        rw [mb] at c65
        have c64 := load_any R _ hat
        clear R hfin hw hb hnd hat mb hal
        generalize ix va l = ii at *
        go_upto_region 5 with (first | (go_at_call 137; refine (c63 _).mono ?_; rintro r wr ⟨rfl, rfl⟩) | (go_at_call 118; refine c64.mono ?_; rintro r V1 ⟨⟨x, ok, rfl, hx0, hx1⟩, hb1⟩))
        cases ok
        · go_upto_region 6 with fail
          have C1 := HC.out.below hb1
          have HCR1 := HCR0.out.below hb1
          have hbw := HB.out.trans (hb1.mono HB.out.size)
          have HCL : Hid (C6 (V1.setCell ⟨w.heap.size + 1 + 1, 5, .none⟩ (.int .i64 4)) (w.heap.size + 1 + 1) (.int .u64 a0) (.int .u64 a1) (.int .u64 a2) (.int .i64 l) (.int .u64 e) (.int .i64 4)) := C1.one5 _
          have HCR : Hid (C6 (V1.setCell ⟨w.heap.size + 1 + 1, 5, .none⟩ (.int .i64 4)) (w.heap.size + 1) (.int .u64 0) (.int .u64 0) (.int .u64 0) (.int .i64 0) (.int .u64 0) (.int .i64 0)) := HCR1.off (a := ⟨w.heap.size + 1 + 1, 5, .none⟩) (by simp) _
          have HBV : Hid (Below w.heap.size w (V1.setCell ⟨w.heap.size + 1 + 1, 5, .none⟩ (.int .i64 4))) := hbw.setCell (p := ⟨w.heap.size + 1 + 1, 5, .none⟩) (by show w.heap.size ≤ w.heap.size + 1 + 1; omega) _
          clear z0 z1 z2 z3 z4 z5 y0 y1 y2 y3 y4 y5 hb1 HCR1 hbw
          obtain ⟨z0, z1, z2, z3, z4, z5, y0, y1, y2, y3, y4, y5⟩ := C1
          go_upto_region 12 with fail
          clear z0 z1 z2 z3 z4 z5 y0 y1 y2 y3 y4 y5
          generalize V1.setCell ⟨w.heap.size + 1 + 1, 5, .none⟩ (.int .i64 4) = V3 at *
          obtain ⟨z0, z1, z2, z3, z4, z5, y0, y1, y2, y3, y4, y5⟩ := id HCL.out
          obtain ⟨r0, r1, r2, r3, r4, r5, s0, s1, s2, s3, s4, s5⟩ := id HCR.out
          go_wp2
          have CF := HCR.out.set (.int .u64 a0) (.int .u64 a1) (.int .u64 a2) (.int .i64 l) (.int .u64 e) (.int .i64 4)
          have BF := below6 (P := w.heap.size + 1) HBV.out (by omega) (.int .u64 a0) (.int .u64 a1) (.int .u64 a2) (.int .i64 l) (.int .u64 e) (.int .i64 4)
          generalize ((((((V3.setCell ⟨w.heap.size + 1, 0, .none⟩ (.int .u64 a0)).setCell ⟨w.heap.size + 1, 1, .none⟩ (.int .u64 a1)).setCell ⟨w.heap.size + 1, 2, .none⟩ (.int .u64 a2)).setCell ⟨w.heap.size + 1, 3, .none⟩ (.int .i64 l)).setCell ⟨w.heap.size + 1, 4, .none⟩ (.int .u64 e)).setCell ⟨w.heap.size + 1, 5, .none⟩ (.int .i64 4)) = VF at *
          obtain ⟨f0, f1, f2, f3, f4, f5, _, _, _, _, _, _⟩ := CF
          rw [Exit.noGoto_ret]
          refine bodyPost_ret (v := .agg #[.int .u64 a0, .int .u64 a1, .int .u64 a2, .int .i64 l, .int .u64 e, .int .i64 4]) (by simp [results, Tryz.results102, go_sem, f0, f1, f2, f3, f4, f5]) rfl ⟨?_, BF⟩
          rw [HF.out]
          rfl
        · go_upto_region 6 with (first | (go_at_call 119; refine (c65 _).mono ?_; rintro r V1 ⟨rfl, rfl⟩))
          have C1 := HC.out.below hb1
          have HCR1 := HCR0.out.below hb1
          have hbw := HB.out.trans (hb1.mono HB.out.size)
          have HCL : Hid (C6 (V1.setCell ⟨w.heap.size + 1 + 1, 5, .none⟩ (.int .i64 4)) (w.heap.size + 1 + 1) (.int .u64 a0) (.int .u64 a1) (.int .u64 a2) (.int .i64 l) (.int .u64 e) (.int .i64 4)) := C1.one5 _
          have HCR : Hid (C6 (V1.setCell ⟨w.heap.size + 1 + 1, 5, .none⟩ (.int .i64 4)) (w.heap.size + 1) (.int .u64 0) (.int .u64 0) (.int .u64 0) (.int .i64 0) (.int .u64 0) (.int .i64 0)) := HCR1.off (a := ⟨w.heap.size + 1 + 1, 5, .none⟩) (by simp) _
          have HBV : Hid (Below w.heap.size w (V1.setCell ⟨w.heap.size + 1 + 1, 5, .none⟩ (.int .i64 4))) := hbw.setCell (p := ⟨w.heap.size + 1 + 1, 5, .none⟩) (by show w.heap.size ≤ w.heap.size + 1 + 1; omega) _
          clear z0 z1 z2 z3 z4 z5 y0 y1 y2 y3 y4 y5 hb1 HCR1 hbw
          obtain ⟨z0, z1, z2, z3, z4, z5, y0, y1, y2, y3, y4, y5⟩ := C1
          go_upto_region 12 with fail
          clear z0 z1 z2 z3 z4 z5 y0 y1 y2 y3 y4 y5
          generalize V1.setCell ⟨w.heap.size + 1 + 1, 5, .none⟩ (.int .i64 4) = V3 at *
          obtain ⟨z0, z1, z2, z3, z4, z5, y0, y1, y2, y3, y4, y5⟩ := id HCL.out
          obtain ⟨r0, r1, r2, r3, r4, r5, s0, s1, s2, s3, s4, s5⟩ := id HCR.out
          go_wp2
          have CF := HCR.out.set (.int .u64 a0) (.int .u64 a1) (.int .u64 a2) (.int .i64 l) (.int .u64 e) (.int .i64 4)
          have BF := below6 (P := w.heap.size + 1) HBV.out (by omega) (.int .u64 a0) (.int .u64 a1) (.int .u64 a2) (.int .i64 l) (.int .u64 e) (.int .i64 4)
          generalize ((((((V3.setCell ⟨w.heap.size + 1, 0, .none⟩ (.int .u64 a0)).setCell ⟨w.heap.size + 1, 1, .none⟩ (.int .u64 a1)).setCell ⟨w.heap.size + 1, 2, .none⟩ (.int .u64 a2)).setCell ⟨w.heap.size + 1, 3, .none⟩ (.int .i64 l)).setCell ⟨w.heap.size + 1, 4, .none⟩ (.int .u64 e)).setCell ⟨w.heap.size + 1, 5, .none⟩ (.int .i64 4)) = VF at *
          obtain ⟨f0, f1, f2, f3, f4, f5, _, _, _, _, _, _⟩ := CF
          rw [Exit.noGoto_ret]
          refine bodyPost_ret (v := .agg #[.int .u64 a0, .int .u64 a1, .int .u64 a2, .int .i64 l, .int .u64 e, .int .i64 4]) (by simp [results, Tryz.results102, go_sem, f0, f1, f2, f3, f4, f5]) rfl ⟨?_, BF⟩
          rw [HF.out]
          rfl
    · obtain ⟨q1, q2, q3, q4⟩ := ndB_spec hnd
      have n2 := HR.out.mem.n2
      have w2 : IntKind.u64.wrap (nd + ix va l * 8) = nd + ix va l * 8 := by rw [IntKind.wrap_u64]; omega
      have c64 := load_nd R nd va l hnd
      have c65 := fun W => mayBeNode_any nd ⟨hn0, hn1⟩ W
      have mb : decide (nd % 4096 = 0 ∧ nd ≠ 2147483648) = true := by simp; omega
      rw [mb] at c65
      have he := ent_b HR.out.mem.bb nd va l
      have c66 := fun W => kind_any (ent B nd va l) l he (by omega) W
      have c46 := fun W => address_any (ent B nd va l) W he
      have Hnd : Hid (ndB N L nd = true) := hnd
      clear mb q1 q2 q3 q4 hw hb R hnd
      have ad := adE_b (ent B nd va l)
      generalize hx : ent B nd va l = x at *
      have Hx : Hid (ent B nd va l = x) := hx
      generalize hi : ix va l = ii at *
      have Hi : Hid (ix va l = ii) := hi
      generalize hkk : kd x l = kx at *
      have Hk : Hid (kd x l = kx) := hkk
      generalize hay : adE x = ax at *
      have Ha : Hid (adE x = ax) := hay
      clear hx hi hkk hay
      have hl3 : l = 0 ∨ l = 1 ∨ l = 2 := by omega
      rcases hl3 with rfl | rfl | rfl
      · go_upto_region 8 with (first | (go_at_call 137; refine (c63 _).mono ?_; rintro r wr ⟨rfl, rfl⟩) | (go_at_call 118; refine c64.mono ?_; rintro r V1 ⟨rfl, hb1⟩; have C1 := HC.out.below hb1; clear z0 z1 z2 z3 z4 z5 y0 y1 y2 y3 y4 y5 c64; obtain ⟨z0, z1, z2, z3, z4, z5, y0, y1, y2, y3, y4, y5⟩ := C1; have HB1 : Hid (Below wr.heap.size wr V1) := hb1; clear hb1) | (go_at_call 119; refine (c65 _).mono ?_; rintro r V1 ⟨rfl, rfl⟩) | (go_at_call 174; refine (meet_any _ _ _ _).mono ?_; rintro r w0 ⟨rfl, rfl⟩))
        have bV := below1 V1 (.cells #[] 138)
        have bW := HB1.out.trans (bV.mono HB1.out.size)
        have C2 : C6 (V1.alloc (.cells #[] 138)) (w.heap.size + 1 + 1) (.int .u64 a0) (.int .u64 a1) (.int .u64 a2) (.int .i64 0) (.int .u64 e) (.int .i64 k) := C6.below ⟨z0, z1, z2, z3, z4, z5, y0, y1, y2, y3, y4, y5⟩ bV
        have HCR2 : Hid (C6 (V1.alloc (.cells #[] 138)) (w.heap.size + 1) (.int .u64 0) (.int .u64 0) (.int .u64 0) (.int .i64 0) (.int .u64 0) (.int .i64 0)) := HCR0.out.below bW
        have HB2 : Hid (Below w.heap.size w (V1.alloc (.cells #[] 138))) := HB.out.trans (bW.mono HB.out.size)
        clear bV bW HB1 z0 z1 z2 z3 z4 z5 y0 y1 y2 y3 y4 y5
        generalize V1.alloc (.cells #[] 138) = V2 at *
        have HC2 : Hid (C6 V2 (w.heap.size + 1 + 1) (.int .u64 a0) (.int .u64 a1) (.int .u64 a2) (.int .i64 0) (.int .u64 e) (.int .i64 k)) := C2
        obtain ⟨z0, z1, z2, z3, z4, z5, y0, y1, y2, y3, y4, y5⟩ := C2
        have t1 : (V2.setCell ⟨w.heap.size + 1 + 1, 0, .none⟩ (.int .u64 (nd + ii * 8))).drew.cell? ⟨w.heap.size + 1 + 1, 3, .none⟩ = some (.int .i64 0) := (World.cell?_setCell_other _ _ _ _ (by simp)).trans z3
        have t2 : ((V2.setCell ⟨w.heap.size + 1 + 1, 0, .none⟩ (.int .u64 (nd + ii * 8))).setCell ⟨w.heap.size + 1 + 1, 4, .none⟩ (.int .u64 x)).drew.cell? ⟨w.heap.size + 1 + 1, 3, .none⟩ = some (.int .i64 0) := (World.cell?_setCell_other _ _ _ _ (by simp)).trans t1
        have t3 : (((V2.setCell ⟨w.heap.size + 1 + 1, 0, .none⟩ (.int .u64 (nd + ii * 8))).setCell ⟨w.heap.size + 1 + 1, 4, .none⟩ (.int .u64 x)).setCell ⟨w.heap.size + 1 + 1, 5, .none⟩ (.int .i64 kx)).drew.cell? ⟨w.heap.size + 1 + 1, 3, .none⟩ = some (.int .i64 0) := (World.cell?_setCell_other _ _ _ _ (by simp)).trans t2
        go_region_held3 (fun W => W.cell? ⟨w.heap.size + 1 + 1, 3, .none⟩ = some (.int .i64 0)) (first | assumption) (first | (go_at_call 138; refine (c66 _).mono ?_; rintro r V2 ⟨rfl, rfl⟩))
        have C3 : C6 (((V2.setCell ⟨w.heap.size + 1 + 1, 0, .none⟩ (.int .u64 (nd + ii * 8))).setCell ⟨w.heap.size + 1 + 1, 4, .none⟩ (.int .u64 x)).setCell ⟨w.heap.size + 1 + 1, 5, .none⟩ (.int .i64 kx)).drew (w.heap.size + 1 + 1) (.int .u64 (nd + ii * 8)) (.int .u64 a1) (.int .u64 a2) (.int .i64 0) (.int .u64 x) (.int .i64 kx) := (HC2.out.set045 _ _ _).drew
        have HCR : Hid (C6 (((V2.setCell ⟨w.heap.size + 1 + 1, 0, .none⟩ (.int .u64 (nd + ii * 8))).setCell ⟨w.heap.size + 1 + 1, 4, .none⟩ (.int .u64 x)).setCell ⟨w.heap.size + 1 + 1, 5, .none⟩ (.int .i64 kx)).drew (w.heap.size + 1) (.int .u64 0) (.int .u64 0) (.int .u64 0) (.int .i64 0) (.int .u64 0) (.int .i64 0)) := (((HCR2.out.off (a := ⟨w.heap.size + 1 + 1, 0, .none⟩) (by simp) _).off (a := ⟨w.heap.size + 1 + 1, 4, .none⟩) (by simp) _).off (a := ⟨w.heap.size + 1 + 1, 5, .none⟩) (by simp) _).drew
        have HBV : Hid (Below w.heap.size w (((V2.setCell ⟨w.heap.size + 1 + 1, 0, .none⟩ (.int .u64 (nd + ii * 8))).setCell ⟨w.heap.size + 1 + 1, 4, .none⟩ (.int .u64 x)).setCell ⟨w.heap.size + 1 + 1, 5, .none⟩ (.int .i64 kx)).drew) := (((HB2.out.setCell (p := ⟨w.heap.size + 1 + 1, 0, .none⟩) (by show w.heap.size ≤ w.heap.size + 1 + 1; omega) _).setCell (p := ⟨w.heap.size + 1 + 1, 4, .none⟩) (by show w.heap.size ≤ w.heap.size + 1 + 1; omega) _).setCell (p := ⟨w.heap.size + 1 + 1, 5, .none⟩) (by show w.heap.size ≤ w.heap.size + 1 + 1; omega) _).drew
        clear t1 t2 t3 z0 z1 z2 z3 z4 z5 y0 y1 y2 y3 y4 y5 HC2 HCR2 HB2
        generalize (((V2.setCell ⟨w.heap.size + 1 + 1, 0, .none⟩ (.int .u64 (nd + ii * 8))).setCell ⟨w.heap.size + 1 + 1, 4, .none⟩ (.int .u64 x)).setCell ⟨w.heap.size + 1 + 1, 5, .none⟩ (.int .i64 kx)).drew = V3 at *
        have HC3 : Hid (C6 V3 (w.heap.size + 1 + 1) (.int .u64 (nd + ii * 8)) (.int .u64 a1) (.int .u64 a2) (.int .i64 0) (.int .u64 x) (.int .i64 kx)) := C3
        obtain ⟨z0, z1, z2, z3, z4, z5, y0, y1, y2, y3, y4, y5⟩ := C3
        have hk3 : ¬ kx = 3 := by rw [← Hk.out]; exact kd0 x
        obtain ⟨r0, r1, r2, r3, r4, r5, s0, s1, s2, s3, s4, s5⟩ := id HCR.out
        go_wp2
        have CF := HCR.out.set (.int .u64 (nd + ii * 8)) (.int .u64 a1) (.int .u64 a2) (.int .i64 0) (.int .u64 x) (.int .i64 kx)
        have BF := below6 (P := w.heap.size + 1) HBV.out (by omega) (.int .u64 (nd + ii * 8)) (.int .u64 a1) (.int .u64 a2) (.int .i64 0) (.int .u64 x) (.int .i64 kx)
        generalize ((((((V3.setCell ⟨w.heap.size + 1, 0, .none⟩ (.int .u64 (nd + ii * 8))).setCell ⟨w.heap.size + 1, 1, .none⟩ (.int .u64 a1)).setCell ⟨w.heap.size + 1, 2, .none⟩ (.int .u64 a2)).setCell ⟨w.heap.size + 1, 3, .none⟩ (.int .i64 0)).setCell ⟨w.heap.size + 1, 4, .none⟩ (.int .u64 x)).setCell ⟨w.heap.size + 1, 5, .none⟩ (.int .i64 kx)) = VF at *
        obtain ⟨f0, f1, f2, f3, f4, f5, _, _, _, _, _, _⟩ := CF
        rw [Exit.noGoto_ret]
        refine bodyPost_ret (v := .agg #[.int .u64 (nd + ii * 8), .int .u64 a1, .int .u64 a2, .int .i64 0, .int .u64 x, .int .i64 kx]) (by simp [results, Tryz.results102, go_sem, f0, f1, f2, f3, f4, f5]) rfl ⟨?_, BF⟩
        have e1 : ent B nd va 0 = x := Hx.out
        have e2 : ix va 0 = ii := Hi.out
        have e3 : kd x 0 = kx := Hk.out
        rw [← Hw.out, wk_stop0 Hnd.out]
        simp only [Pt.val, e1, e3, st, e2]
      · go_upto_region 8 with (first | (go_at_call 137; refine (c63 _).mono ?_; rintro r wr ⟨rfl, rfl⟩) | (go_at_call 118; refine c64.mono ?_; rintro r V1 ⟨rfl, hb1⟩; have C1 := HC.out.below hb1; clear z0 z1 z2 z3 z4 z5 y0 y1 y2 y3 y4 y5 c64; obtain ⟨z0, z1, z2, z3, z4, z5, y0, y1, y2, y3, y4, y5⟩ := C1; have HB1 : Hid (Below wr.heap.size wr V1) := hb1; clear hb1) | (go_at_call 119; refine (c65 _).mono ?_; rintro r V1 ⟨rfl, rfl⟩) | (go_at_call 174; refine (meet_any _ _ _ _).mono ?_; rintro r w0 ⟨rfl, rfl⟩))
        have bV := below1 V1 (.cells #[] 138)
        have bW := HB1.out.trans (bV.mono HB1.out.size)
        have C2 : C6 (V1.alloc (.cells #[] 138)) (w.heap.size + 1 + 1) (.int .u64 a0) (.int .u64 a1) (.int .u64 a2) (.int .i64 1) (.int .u64 e) (.int .i64 k) := C6.below ⟨z0, z1, z2, z3, z4, z5, y0, y1, y2, y3, y4, y5⟩ bV
        have HCR2 : Hid (C6 (V1.alloc (.cells #[] 138)) (w.heap.size + 1) (.int .u64 0) (.int .u64 0) (.int .u64 0) (.int .i64 0) (.int .u64 0) (.int .i64 0)) := HCR0.out.below bW
        have HB2 : Hid (Below w.heap.size w (V1.alloc (.cells #[] 138))) := HB.out.trans (bW.mono HB.out.size)
        clear bV bW HB1 z0 z1 z2 z3 z4 z5 y0 y1 y2 y3 y4 y5
        generalize V1.alloc (.cells #[] 138) = V2 at *
        have HC2 : Hid (C6 V2 (w.heap.size + 1 + 1) (.int .u64 a0) (.int .u64 a1) (.int .u64 a2) (.int .i64 1) (.int .u64 e) (.int .i64 k)) := C2
        obtain ⟨z0, z1, z2, z3, z4, z5, y0, y1, y2, y3, y4, y5⟩ := C2
        have t1 : (V2.setCell ⟨w.heap.size + 1 + 1, 1, .none⟩ (.int .u64 (nd + ii * 8))).drew.cell? ⟨w.heap.size + 1 + 1, 3, .none⟩ = some (.int .i64 1) := (World.cell?_setCell_other _ _ _ _ (by simp)).trans z3
        have t2 : ((V2.setCell ⟨w.heap.size + 1 + 1, 1, .none⟩ (.int .u64 (nd + ii * 8))).setCell ⟨w.heap.size + 1 + 1, 4, .none⟩ (.int .u64 x)).drew.cell? ⟨w.heap.size + 1 + 1, 3, .none⟩ = some (.int .i64 1) := (World.cell?_setCell_other _ _ _ _ (by simp)).trans t1
        have t3 : (((V2.setCell ⟨w.heap.size + 1 + 1, 1, .none⟩ (.int .u64 (nd + ii * 8))).setCell ⟨w.heap.size + 1 + 1, 4, .none⟩ (.int .u64 x)).setCell ⟨w.heap.size + 1 + 1, 5, .none⟩ (.int .i64 kx)).drew.cell? ⟨w.heap.size + 1 + 1, 3, .none⟩ = some (.int .i64 1) := (World.cell?_setCell_other _ _ _ _ (by simp)).trans t2
        go_region_held3 (fun W => W.cell? ⟨w.heap.size + 1 + 1, 3, .none⟩ = some (.int .i64 1)) (first | assumption) (first | (go_at_call 138; refine (c66 _).mono ?_; rintro r V2 ⟨rfl, rfl⟩))
        have C3 : C6 (((V2.setCell ⟨w.heap.size + 1 + 1, 1, .none⟩ (.int .u64 (nd + ii * 8))).setCell ⟨w.heap.size + 1 + 1, 4, .none⟩ (.int .u64 x)).setCell ⟨w.heap.size + 1 + 1, 5, .none⟩ (.int .i64 kx)).drew (w.heap.size + 1 + 1) (.int .u64 a0) (.int .u64 (nd + ii * 8)) (.int .u64 a2) (.int .i64 1) (.int .u64 x) (.int .i64 kx) := (HC2.out.set145 _ _ _).drew
        have HCR : Hid (C6 (((V2.setCell ⟨w.heap.size + 1 + 1, 1, .none⟩ (.int .u64 (nd + ii * 8))).setCell ⟨w.heap.size + 1 + 1, 4, .none⟩ (.int .u64 x)).setCell ⟨w.heap.size + 1 + 1, 5, .none⟩ (.int .i64 kx)).drew (w.heap.size + 1) (.int .u64 0) (.int .u64 0) (.int .u64 0) (.int .i64 0) (.int .u64 0) (.int .i64 0)) := (((HCR2.out.off (a := ⟨w.heap.size + 1 + 1, 1, .none⟩) (by simp) _).off (a := ⟨w.heap.size + 1 + 1, 4, .none⟩) (by simp) _).off (a := ⟨w.heap.size + 1 + 1, 5, .none⟩) (by simp) _).drew
        have HBV : Hid (Below w.heap.size w (((V2.setCell ⟨w.heap.size + 1 + 1, 1, .none⟩ (.int .u64 (nd + ii * 8))).setCell ⟨w.heap.size + 1 + 1, 4, .none⟩ (.int .u64 x)).setCell ⟨w.heap.size + 1 + 1, 5, .none⟩ (.int .i64 kx)).drew) := (((HB2.out.setCell (p := ⟨w.heap.size + 1 + 1, 1, .none⟩) (by show w.heap.size ≤ w.heap.size + 1 + 1; omega) _).setCell (p := ⟨w.heap.size + 1 + 1, 4, .none⟩) (by show w.heap.size ≤ w.heap.size + 1 + 1; omega) _).setCell (p := ⟨w.heap.size + 1 + 1, 5, .none⟩) (by show w.heap.size ≤ w.heap.size + 1 + 1; omega) _).drew
        clear t1 t2 t3 z0 z1 z2 z3 z4 z5 y0 y1 y2 y3 y4 y5 HC2 HCR2 HB2
        generalize (((V2.setCell ⟨w.heap.size + 1 + 1, 1, .none⟩ (.int .u64 (nd + ii * 8))).setCell ⟨w.heap.size + 1 + 1, 4, .none⟩ (.int .u64 x)).setCell ⟨w.heap.size + 1 + 1, 5, .none⟩ (.int .i64 kx)).drew = V3 at *
        have HC3 : Hid (C6 V3 (w.heap.size + 1 + 1) (.int .u64 a0) (.int .u64 (nd + ii * 8)) (.int .u64 a2) (.int .i64 1) (.int .u64 x) (.int .i64 kx)) := C3
        obtain ⟨z0, z1, z2, z3, z4, z5, y0, y1, y2, y3, y4, y5⟩ := C3
        by_cases hk3 : kx = 3
        · subst hk3
          have e1 : ent B nd va 1 = x := Hx.out
          have e2 : ix va 1 = ii := Hi.out
          have e3 : kd x 1 = 3 := Hk.out
          have e4 : adE x = ax := Ha.out
          have hw2 := Hw.out
          rw [wk_go1 Hnd.out (by rw [e1, e3]), e1, e4, st, e2] at hw2
          have HE : Hid (wk N L B va 0 ax a0 (nd + ii * 8) a2 x = look N L B root va) := hw2
          have C9 := HC3.out.one3 (.int .i64 0)
          have HCR9 := HCR.out.off (a := ⟨w.heap.size + 1 + 1, 3, .none⟩) (by simp) (.int .i64 0)
          have HB9 := HBV.out.setCell (p := ⟨w.heap.size + 1 + 1, 3, .none⟩) (by show w.heap.size ≤ w.heap.size + 1 + 1; omega) (.int .i64 0)
          have H9 : Hid (WR w N L B va (look N L B root va) (.int .u64 ax) (V3.setCell ⟨w.heap.size + 1 + 1, 3, .none⟩ (.int .i64 0)) ∧ (V3.setCell ⟨w.heap.size + 1 + 1, 3, .none⟩ (.int .i64 0)).cell? ⟨w.heap.size + 1 + 1, 3, .none⟩ = some (.int .i64 0) ∧ wr.cell? ⟨w.heap.size + 1 + 1, 3, .none⟩ = some (.int .i64 1)) := ⟨⟨0, ax, a0, nd + ii * 8, a2, x, 3, by omega, rfl, ad.1, ad.2, C9, HCR9, HB9, hw2⟩, C9.c3, HC.out.c3⟩
          clear e1 e2 e3 e4 hw2 C9 HCR9 HB9
          go_wp2_with (first | (go_at_call 95; refine (c46 _).mono ?_; rintro r V3 ⟨rfl, rfl⟩) | fail)
          refine ⟨H9.out.1, ?_⟩
          rw [H9.out.2.1, H9.out.2.2]
          simp
        · skip
          obtain ⟨r0, r1, r2, r3, r4, r5, s0, s1, s2, s3, s4, s5⟩ := id HCR.out
          go_wp2
          have CF := HCR.out.set (.int .u64 a0) (.int .u64 (nd + ii * 8)) (.int .u64 a2) (.int .i64 1) (.int .u64 x) (.int .i64 kx)
          have BF := below6 (P := w.heap.size + 1) HBV.out (by omega) (.int .u64 a0) (.int .u64 (nd + ii * 8)) (.int .u64 a2) (.int .i64 1) (.int .u64 x) (.int .i64 kx)
          generalize ((((((V3.setCell ⟨w.heap.size + 1, 0, .none⟩ (.int .u64 a0)).setCell ⟨w.heap.size + 1, 1, .none⟩ (.int .u64 (nd + ii * 8))).setCell ⟨w.heap.size + 1, 2, .none⟩ (.int .u64 a2)).setCell ⟨w.heap.size + 1, 3, .none⟩ (.int .i64 1)).setCell ⟨w.heap.size + 1, 4, .none⟩ (.int .u64 x)).setCell ⟨w.heap.size + 1, 5, .none⟩ (.int .i64 kx)) = VF at *
          obtain ⟨f0, f1, f2, f3, f4, f5, _, _, _, _, _, _⟩ := CF
          rw [Exit.noGoto_ret]
          refine bodyPost_ret (v := .agg #[.int .u64 a0, .int .u64 (nd + ii * 8), .int .u64 a2, .int .i64 1, .int .u64 x, .int .i64 kx]) (by simp [results, Tryz.results102, go_sem, f0, f1, f2, f3, f4, f5]) rfl ⟨?_, BF⟩
          have e1 : ent B nd va 1 = x := Hx.out
          have e2 : ix va 1 = ii := Hi.out
          have e3 : kd x 1 = kx := Hk.out
          rw [← Hw.out, wk_stop1 Hnd.out (by rw [e1, e3]; exact hk3)]
          simp only [Pt.val, e1, e3, st, e2]
      · go_upto_region 8 with (first | (go_at_call 137; refine (c63 _).mono ?_; rintro r wr ⟨rfl, rfl⟩) | (go_at_call 118; refine c64.mono ?_; rintro r V1 ⟨rfl, hb1⟩; have C1 := HC.out.below hb1; clear z0 z1 z2 z3 z4 z5 y0 y1 y2 y3 y4 y5 c64; obtain ⟨z0, z1, z2, z3, z4, z5, y0, y1, y2, y3, y4, y5⟩ := C1; have HB1 : Hid (Below wr.heap.size wr V1) := hb1; clear hb1) | (go_at_call 119; refine (c65 _).mono ?_; rintro r V1 ⟨rfl, rfl⟩) | (go_at_call 174; refine (meet_any _ _ _ _).mono ?_; rintro r w0 ⟨rfl, rfl⟩))
        have bV := below1 V1 (.cells #[] 138)
        have bW := HB1.out.trans (bV.mono HB1.out.size)
        have C2 : C6 (V1.alloc (.cells #[] 138)) (w.heap.size + 1 + 1) (.int .u64 a0) (.int .u64 a1) (.int .u64 a2) (.int .i64 2) (.int .u64 e) (.int .i64 k) := C6.below ⟨z0, z1, z2, z3, z4, z5, y0, y1, y2, y3, y4, y5⟩ bV
        have HCR2 : Hid (C6 (V1.alloc (.cells #[] 138)) (w.heap.size + 1) (.int .u64 0) (.int .u64 0) (.int .u64 0) (.int .i64 0) (.int .u64 0) (.int .i64 0)) := HCR0.out.below bW
        have HB2 : Hid (Below w.heap.size w (V1.alloc (.cells #[] 138))) := HB.out.trans (bW.mono HB.out.size)
        clear bV bW HB1 z0 z1 z2 z3 z4 z5 y0 y1 y2 y3 y4 y5
        generalize V1.alloc (.cells #[] 138) = V2 at *
        have HC2 : Hid (C6 V2 (w.heap.size + 1 + 1) (.int .u64 a0) (.int .u64 a1) (.int .u64 a2) (.int .i64 2) (.int .u64 e) (.int .i64 k)) := C2
        obtain ⟨z0, z1, z2, z3, z4, z5, y0, y1, y2, y3, y4, y5⟩ := C2
        have t1 : (V2.setCell ⟨w.heap.size + 1 + 1, 2, .none⟩ (.int .u64 (nd + ii * 8))).drew.cell? ⟨w.heap.size + 1 + 1, 3, .none⟩ = some (.int .i64 2) := (World.cell?_setCell_other _ _ _ _ (by simp)).trans z3
        have t2 : ((V2.setCell ⟨w.heap.size + 1 + 1, 2, .none⟩ (.int .u64 (nd + ii * 8))).setCell ⟨w.heap.size + 1 + 1, 4, .none⟩ (.int .u64 x)).drew.cell? ⟨w.heap.size + 1 + 1, 3, .none⟩ = some (.int .i64 2) := (World.cell?_setCell_other _ _ _ _ (by simp)).trans t1
        have t3 : (((V2.setCell ⟨w.heap.size + 1 + 1, 2, .none⟩ (.int .u64 (nd + ii * 8))).setCell ⟨w.heap.size + 1 + 1, 4, .none⟩ (.int .u64 x)).setCell ⟨w.heap.size + 1 + 1, 5, .none⟩ (.int .i64 kx)).drew.cell? ⟨w.heap.size + 1 + 1, 3, .none⟩ = some (.int .i64 2) := (World.cell?_setCell_other _ _ _ _ (by simp)).trans t2
        go_region_held3 (fun W => W.cell? ⟨w.heap.size + 1 + 1, 3, .none⟩ = some (.int .i64 2)) (first | assumption) (first | (go_at_call 138; refine (c66 _).mono ?_; rintro r V2 ⟨rfl, rfl⟩))
        have C3 : C6 (((V2.setCell ⟨w.heap.size + 1 + 1, 2, .none⟩ (.int .u64 (nd + ii * 8))).setCell ⟨w.heap.size + 1 + 1, 4, .none⟩ (.int .u64 x)).setCell ⟨w.heap.size + 1 + 1, 5, .none⟩ (.int .i64 kx)).drew (w.heap.size + 1 + 1) (.int .u64 a0) (.int .u64 a1) (.int .u64 (nd + ii * 8)) (.int .i64 2) (.int .u64 x) (.int .i64 kx) := (HC2.out.set245 _ _ _).drew
        have HCR : Hid (C6 (((V2.setCell ⟨w.heap.size + 1 + 1, 2, .none⟩ (.int .u64 (nd + ii * 8))).setCell ⟨w.heap.size + 1 + 1, 4, .none⟩ (.int .u64 x)).setCell ⟨w.heap.size + 1 + 1, 5, .none⟩ (.int .i64 kx)).drew (w.heap.size + 1) (.int .u64 0) (.int .u64 0) (.int .u64 0) (.int .i64 0) (.int .u64 0) (.int .i64 0)) := (((HCR2.out.off (a := ⟨w.heap.size + 1 + 1, 2, .none⟩) (by simp) _).off (a := ⟨w.heap.size + 1 + 1, 4, .none⟩) (by simp) _).off (a := ⟨w.heap.size + 1 + 1, 5, .none⟩) (by simp) _).drew
        have HBV : Hid (Below w.heap.size w (((V2.setCell ⟨w.heap.size + 1 + 1, 2, .none⟩ (.int .u64 (nd + ii * 8))).setCell ⟨w.heap.size + 1 + 1, 4, .none⟩ (.int .u64 x)).setCell ⟨w.heap.size + 1 + 1, 5, .none⟩ (.int .i64 kx)).drew) := (((HB2.out.setCell (p := ⟨w.heap.size + 1 + 1, 2, .none⟩) (by show w.heap.size ≤ w.heap.size + 1 + 1; omega) _).setCell (p := ⟨w.heap.size + 1 + 1, 4, .none⟩) (by show w.heap.size ≤ w.heap.size + 1 + 1; omega) _).setCell (p := ⟨w.heap.size + 1 + 1, 5, .none⟩) (by show w.heap.size ≤ w.heap.size + 1 + 1; omega) _).drew
        clear t1 t2 t3 z0 z1 z2 z3 z4 z5 y0 y1 y2 y3 y4 y5 HC2 HCR2 HB2
        generalize (((V2.setCell ⟨w.heap.size + 1 + 1, 2, .none⟩ (.int .u64 (nd + ii * 8))).setCell ⟨w.heap.size + 1 + 1, 4, .none⟩ (.int .u64 x)).setCell ⟨w.heap.size + 1 + 1, 5, .none⟩ (.int .i64 kx)).drew = V3 at *
        have HC3 : Hid (C6 V3 (w.heap.size + 1 + 1) (.int .u64 a0) (.int .u64 a1) (.int .u64 (nd + ii * 8)) (.int .i64 2) (.int .u64 x) (.int .i64 kx)) := C3
        obtain ⟨z0, z1, z2, z3, z4, z5, y0, y1, y2, y3, y4, y5⟩ := C3
        by_cases hk3 : kx = 3
        · subst hk3
          have e1 : ent B nd va 2 = x := Hx.out
          have e2 : ix va 2 = ii := Hi.out
          have e3 : kd x 2 = 3 := Hk.out
          have e4 : adE x = ax := Ha.out
          have hw2 := Hw.out
          rw [wk_go2 Hnd.out (by rw [e1, e3]), e1, e4, st, e2] at hw2
          have HE : Hid (wk N L B va 1 ax a0 a1 (nd + ii * 8) x = look N L B root va) := hw2
          have C9 := HC3.out.one3 (.int .i64 1)
          have HCR9 := HCR.out.off (a := ⟨w.heap.size + 1 + 1, 3, .none⟩) (by simp) (.int .i64 1)
          have HB9 := HBV.out.setCell (p := ⟨w.heap.size + 1 + 1, 3, .none⟩) (by show w.heap.size ≤ w.heap.size + 1 + 1; omega) (.int .i64 1)
          have H9 : Hid (WR w N L B va (look N L B root va) (.int .u64 ax) (V3.setCell ⟨w.heap.size + 1 + 1, 3, .none⟩ (.int .i64 1)) ∧ (V3.setCell ⟨w.heap.size + 1 + 1, 3, .none⟩ (.int .i64 1)).cell? ⟨w.heap.size + 1 + 1, 3, .none⟩ = some (.int .i64 1) ∧ wr.cell? ⟨w.heap.size + 1 + 1, 3, .none⟩ = some (.int .i64 2)) := ⟨⟨1, ax, a0, a1, nd + ii * 8, x, 3, by omega, rfl, ad.1, ad.2, C9, HCR9, HB9, hw2⟩, C9.c3, HC.out.c3⟩
          clear e1 e2 e3 e4 hw2 C9 HCR9 HB9
          go_wp2_with (first | (go_at_call 95; refine (c46 _).mono ?_; rintro r V3 ⟨rfl, rfl⟩) | fail)
          refine ⟨H9.out.1, ?_⟩
          rw [H9.out.2.1, H9.out.2.2]
          simp
        · skip
          obtain ⟨r0, r1, r2, r3, r4, r5, s0, s1, s2, s3, s4, s5⟩ := id HCR.out
          go_wp2
          have CF := HCR.out.set (.int .u64 a0) (.int .u64 a1) (.int .u64 (nd + ii * 8)) (.int .i64 2) (.int .u64 x) (.int .i64 kx)
          have BF := below6 (P := w.heap.size + 1) HBV.out (by omega) (.int .u64 a0) (.int .u64 a1) (.int .u64 (nd + ii * 8)) (.int .i64 2) (.int .u64 x) (.int .i64 kx)
          generalize ((((((V3.setCell ⟨w.heap.size + 1, 0, .none⟩ (.int .u64 a0)).setCell ⟨w.heap.size + 1, 1, .none⟩ (.int .u64 a1)).setCell ⟨w.heap.size + 1, 2, .none⟩ (.int .u64 (nd + ii * 8))).setCell ⟨w.heap.size + 1, 3, .none⟩ (.int .i64 2)).setCell ⟨w.heap.size + 1, 4, .none⟩ (.int .u64 x)).setCell ⟨w.heap.size + 1, 5, .none⟩ (.int .i64 kx)) = VF at *
          obtain ⟨f0, f1, f2, f3, f4, f5, _, _, _, _, _, _⟩ := CF
          rw [Exit.noGoto_ret]
          refine bodyPost_ret (v := .agg #[.int .u64 a0, .int .u64 a1, .int .u64 (nd + ii * 8), .int .i64 2, .int .u64 x, .int .i64 kx]) (by simp [results, Tryz.results102, go_sem, f0, f1, f2, f3, f4, f5]) rfl ⟨?_, BF⟩
          have e1 : ent B nd va 2 = x := Hx.out
          have e2 : ix va 2 = ii := Hi.out
          have e3 : kd x 2 = kx := Hk.out
          rw [← Hw.out, wk_stop2 Hnd.out (by rw [e1, e3]; exact hk3)]
          simp only [Pt.val, e1, e3, st, e2]
end
end Go.Proofs.YtblmkkhiojbcjaaGreat
namespace Go.Proofs.YtblmkkhiojbcjaaGreat
open Go.RowKit
set_option linter.unusedVariables false
set_option linter.unusedSimpArgs false
/-- The right address with the lowest 39 bits of va. -/
def ext (va : Int) : Int := if va % 549755813888 < 274877906944 then va % 549755813888 else va % 549755813888 + 18446743523953737728
theorem ext_any (va : Int) (hv : 0 ≤ va ∧ va < 18446744073709551616) (w : World) : Calls Tryz.prog 99 #[.int .u64 va] w fun r w' => r = .returned (.int .u64 (ext va)) ∧ w' = w := by
  have h : IntKind.u64.wrap (wrap64 (IntKind.u64.wrap (va * 33554432)) / 33554432) = ext va := by
    rw [IntKind.wrap_u64, IntKind.wrap_u64]
    unfold wrap64 ext
    split <;> omega
  rw [← h]
  clear h
  go_enter Tryz.func99, Tryz.ntmps99
  go_wp2
  go_ret
  exact ⟨rfl, rfl⟩
theorem right_any (va : Int) (hv : 0 ≤ va ∧ va < 18446744073709551616) (w : World) : Calls Tryz.prog 103 #[.int .u64 va] w fun r w' => r = .returned (.bool (va == ext va)) ∧ w' = w := by
  have c := fun W => ext_any va hv W
  go_enter Tryz.func103, Tryz.ntmps103
  go_wp2_with (go_at_call 99; refine (c _).mono ?_; rintro r w0 ⟨rfl, rfl⟩)
  go_ret
  exact ⟨rfl, rfl⟩
theorem userPage_any (va : Int) (hv : 0 ≤ va ∧ va < 18446744073709551616) (w : World) : Calls Tryz.prog 112 #[.int .u64 va] w fun r w' => r = .returned (.bool (decide (va % 4096 = 0 ∧ va < 274877906944))) ∧ w' = w := by
  by_cases k0 : va % 4096 = 0
  · by_cases k1 : va < 274877906944
    · have e : decide (va % 4096 = 0 ∧ va < 274877906944) = true := by simp [k0, k1]
      rw [e]
      go_enter Tryz.func112, Tryz.ntmps112
      go_wp2
      go_ret
      exact ⟨by simp [k0, k1], rfl⟩
    · have e : decide (va % 4096 = 0 ∧ va < 274877906944) = false := by simp [k1]
      rw [e]
      go_enter Tryz.func112, Tryz.ntmps112
      go_wp2
      go_ret
      exact ⟨by simp [k0, k1], rfl⟩
  · have e : decide (va % 4096 = 0 ∧ va < 274877906944) = false := by simp [k0]
    rw [e]
    go_enter Tryz.func112, Tryz.ntmps112
    go_wp2
    go_ret
    exact ⟨rfl, rfl⟩
/-- Does Entry find a leaf? -/
def finds (x : Pt) (va : Int) : Bool := x.k == 2 && va == ext va
theorem wk_b {N : Nat} {L : List Nat} {B : Nat → Int} {va : Int} (hB : ∀ i, 0 ≤ B i ∧ B i < 256) : ∀ (l : Nat) (nd a0 a1 a2 e : Int), (0 ≤ e ∧ e < 18446744073709551616) → 0 ≤ (wk N L B va l nd a0 a1 a2 e).e ∧ (wk N L B va l nd a0 a1 a2 e).e < 18446744073709551616 ∧ ((wk N L B va l nd a0 a1 a2 e).l = 0 ∨ (wk N L B va l nd a0 a1 a2 e).l = 1 ∨ (wk N L B va l nd a0 a1 a2 e).l = 2 ∨ 2 < l)
  | 0, nd, a0, a1, a2, e, he => by
    unfold wk
    split
    · have := ent_b hB nd va 0
      exact ⟨this.1, this.2, .inl rfl⟩
    · exact ⟨he.1, he.2, .inl rfl⟩
  | l + 1, nd, a0, a1, a2, e, he => by
    unfold wk
    have hx := ent_b hB nd va (l + 1 : Nat)
    split
    · split
      · have := wk_b (N := N) (L := L) (va := va) hB l (adE (ent B nd va (l + 1 : Nat))) a0 (if l = 0 then st nd va 1 else a1) (if l = 1 then st nd va 2 else a2) (ent B nd va (l + 1 : Nat)) hx
        exact ⟨this.1, this.2.1, by rcases this.2.2 with h | h | h | h <;> first | exact .inl h | exact .inr (.inl h) | exact .inr (.inr (.inl h)) | exact .inr (.inr (.inr (by omega)))⟩
      · exact ⟨hx.1, hx.2, by by_cases h0 : l = 0
                              · subst h0; exact .inr (.inl rfl)
                              · by_cases h1 : l = 1
                                · subst h1; exact .inr (.inr (.inl rfl))
                                · exact .inr (.inr (.inr (by omega)))⟩
    · exact ⟨he.1, he.2, by by_cases h0 : l = 0
                            · subst h0; exact .inr (.inl rfl)
                            · by_cases h1 : l = 1
                              · subst h1; exact .inr (.inr (.inl rfl))
                              · exact .inr (.inr (.inr (by omega)))⟩
theorem look_b {N : Nat} {L : List Nat} {B : Nat → Int} (hB : ∀ i, 0 ≤ B i ∧ B i < 256) (root va : Int) : 0 ≤ (look N L B root va).e ∧ (look N L B root va).e < 18446744073709551616 ∧ ((look N L B root va).l = 0 ∨ (look N L B root va).l = 1 ∨ (look N L B root va).l = 2) := by
  have := wk_b (N := N) (L := L) (va := va) hB 2 root 0 0 0 0 (by omega)
  exact ⟨this.1, this.2.1, by rcases this.2.2 with h | h | h | h <;> first | exact .inl h | exact .inr (.inl h) | exact .inr (.inr h) | omega⟩
section
variable {w : World} {p b m N : Nat} {B : Nat → Int} {L : List Nat}
/-- P4.2 -/
theorem entry_any (h : Ram w p b m N B L) (root va : Int) (hr : 0 ≤ root ∧ root < 18446744073709551616) (hv : 0 ≤ va ∧ va < 18446744073709551616) : Calls Tryz.prog 67 #[.pointer (some ⟨p, 0, .none⟩), .int .u64 root, .int .u64 va] w fun r w' => r = .returned (.tuple #[.int .u64 (if finds (look N L B root va) va then (look N L B root va).e else 0), .int .i64 (if finds (look N L B root va) va then (look N L B root va).l else 0), .bool (finds (look N L B root va) va)]) ∧ Below w.heap.size w w' := by
  have c := look_any h root va hr hv
  have c49 := fun W => right_any va hv W
  clear h
  generalize look N L B root va = x at *
  obtain ⟨a0, a1, a2, l, e, k⟩ := x
  simp only [Pt.val, finds] at c ⊢
  by_cases hk : k = 2
  · subst hk
    have hrt : (va == ext va) = false ∨ (va == ext va) = true := by cases (va == ext va) <;> simp
    rcases hrt with hrt | hrt
    · simp only [hrt] at c49
      simp only [hrt, beq_self_eq_true, Bool.and_false, Bool.false_eq_true, if_false]
      go_enter Tryz.func67, Tryz.ntmps67
      go_wp2_with (first | (go_at_call 102; refine c.mono ?_; rintro r w0 ⟨rfl, hb⟩) | (go_at_call 103; refine (c49 _).mono ?_; rintro r w1 ⟨rfl, rfl⟩))
      go_ret3
      exact ⟨rfl, hb.trans ((below1 _ _).mono hb.size)⟩
    · simp only [hrt] at c49
      simp only [hrt, beq_self_eq_true, Bool.and_true, if_true]
      go_enter Tryz.func67, Tryz.ntmps67
      go_wp2_with (first | (go_at_call 102; refine c.mono ?_; rintro r w0 ⟨rfl, hb⟩) | (go_at_call 103; refine (c49 _).mono ?_; rintro r w1 ⟨rfl, rfl⟩))
      go_quiet (fail)
      go_wp2
      go_ret3
      exact ⟨rfl, (hb.trans ((below1 _ _).mono hb.size)).trans (blw_drewN _ _ _)⟩
  · have hk2 : (k == 2) = false := by simpa using hk
    simp only [hk2, Bool.false_and, Bool.false_eq_true, if_false]
    go_enter Tryz.func67, Tryz.ntmps67
    go_wp2_with (first | (go_at_call 102; refine c.mono ?_; rintro r w0 ⟨rfl, hb⟩))
    go_ret3
    exact ⟨rfl, hb.trans ((below1 _ _).mono hb.size)⟩
/-- P4.5 -/
theorem isMade_any (h : Ram w p b m N B L) : Calls Tryz.prog 111 #[.pointer (some ⟨p, 0, .none⟩)] w fun r w' => r = .returned (.bool true) ∧ w' = w := by
  have c := frames_any h.mem
  have n1 := h.mem.n1
  have hN : (0 : Int) < N := by omega
  clear h
  go_enter Tryz.func111, Tryz.ntmps111
  go_wp2_with (go_at_call 64; refine c.mono ?_; rintro r w0 ⟨rfl, rfl⟩)
  go_ret
  exact ⟨by simp; omega, rfl⟩
theorem new_some (i : Nat) {l : List Nat} (h : Ram w p b m N B (i :: l)) : Calls Tryz.prog 109 #[.pointer (some ⟨p, 0, .none⟩)] w fun r w' => r = .returned (.tuple #[.int .u64 (2147483648 + i * 4096), .int .i64 0]) ∧ Ram w' p b m N (zer B i) l ∧ Fra p b m w w' := by
  have c := isMade_any h
  have c1 := alloc_some i h
  clear h
  go_enter Tryz.func109, Tryz.ntmps109
  go_wp2_with (first | (go_at_call 111; refine c.mono ?_; rintro r w0 ⟨rfl, rfl⟩) | (go_at_call 39; refine c1.mono ?_; rintro r w1 ⟨rfl, hR, hF⟩))
  go_ret2
  exact ⟨rfl, hR, hF⟩
theorem isNode_any (h : Ram w p b m N B L) (nd : Int) (hn : 0 ≤ nd ∧ nd < 18446744073709551616) : Calls Tryz.prog 93 #[.pointer (some ⟨p, 0, .none⟩), .int .u64 nd] w fun r w' => r = .returned (.bool (ndB N L nd)) ∧ Below w.heap.size w w' := by
  have c65 := fun W => mayBeNode_any nd hn W
  cases hnd : ndB N L nd
  · by_cases hal : nd % 4096 = 0 ∧ nd ≠ 2147483648
    · have c64 := load_free h nd 0 hn hal.1 (by omega) (ndB_not hnd hal.1 hal.2)
      rw [show nd + ((0 : Nat) : Int) * 8 = nd by omega] at c64
      clear h hnd hal
      go_enter Tryz.func93, Tryz.ntmps93
      go_wp2_with (first | (go_at_call 118; refine c64.mono ?_; rintro r w0 ⟨rfl, hb⟩))
      go_ret
      exact ⟨rfl, hb⟩
    · have mb : decide (nd % 4096 = 0 ∧ nd ≠ 2147483648) = false := by simpa using hal
      simp only [mb] at c65
      have c64 := load_any h nd hn
      clear h hnd hal mb
      go_enter Tryz.func93, Tryz.ntmps93
      go_wp2_with (first | (go_at_call 118; refine c64.mono ?_; rintro r w0 ⟨⟨x, ok, rfl, h0, h1⟩, hb⟩; cases ok) | (go_at_call 119; refine (c65 _).mono ?_; rintro r w1 ⟨rfl, rfl⟩))
      all_goals go_ret
      all_goals exact ⟨rfl, hb⟩
  · obtain ⟨q1, q2, q3, q4⟩ := ndB_spec hnd
    have mb : decide (nd % 4096 = 0 ∧ nd ≠ 2147483648) = true := by simp; omega
    simp only [mb] at c65
    have c64 := load_held h (fi nd) 0 q3 q4 (by omega)
    rw [show 2147483648 + (fi nd : Int) * 4096 + ((0 : Nat) : Int) * 8 = nd by omega] at c64
    generalize num B (fi nd * 4096 + 0 * 8) 8 = x at *
    clear h hnd mb q1 q2 q3 q4
    go_enter Tryz.func93, Tryz.ntmps93
    go_wp2_with (first | (go_at_call 118; refine c64.mono ?_; rintro r w0 ⟨rfl, hb⟩) | (go_at_call 119; refine (c65 _).mono ?_; rintro r w1 ⟨rfl, rfl⟩))
    go_ret
    exact ⟨rfl, hb⟩
end
end Go.Proofs.YtblmkkhiojbcjaaGreat
namespace Go.Proofs.YtblmkkhiojbcjaaGreat
open Go.RowKit
set_option linter.unusedVariables false
set_option linter.unusedSimpArgs false
/-- The entry with these bits that leads to the page at pa. -/
def toP (pa c : Int) : Int := bits .or .u64 (bits .or .u64 (pa / 4096 * 1024) c) 1
theorem toPage_any (pa c : Int) (hp : 0 ≤ pa ∧ pa < 18446744073709551616) (w : World) : Calls Tryz.prog 115 #[.int .u64 pa, .int .u64 c] w fun r w' => r = .returned (.int .u64 (toP pa c)) ∧ w' = w := by
  unfold toP
  go_enter Tryz.func115, Tryz.ntmps115
  go_wp2
  go_ret
  exact ⟨rfl, rfl⟩
theorem mayPerm_any (c : Int) (w : World) : Calls Tryz.prog 113 #[.int .u64 c] w fun r w' => r = .returned (.bool (!ho c 18446744073709551361 && ho c 10 && (!hs c 4 || hs c 2))) ∧ w' = w := by
  have c68 := fun W => readIf_any c W
  generalize (!hs c 4 || hs c 2) = x at *
  have h1 : ho c 18446744073709551361 = false ∨ ho c 18446744073709551361 = true := by cases ho c 18446744073709551361 <;> simp
  have h2 : ho c 10 = false ∨ ho c 10 = true := by cases ho c 10 <;> simp
  rcases h1 with h1 | h1 <;> rcases h2 with h2 | h2
  all_goals
    simp only [h1, h2]
    go_enter Tryz.func113, Tryz.ntmps113
    go_wp2_with (first | (go_at_call 139; refine (hasOne_any _ _ _).mono ?_; rintro r w0 ⟨rfl, rfl⟩) | (go_at_call 140; refine (c68 _).mono ?_; rintro r w0 ⟨rfl, rfl⟩))
    go_ret
    exact ⟨by simp, rfl⟩
theorem or_b (a c : Int) : 0 ≤ bits .or .u64 a c ∧ bits .or .u64 a c < 18446744073709551616 := by
  have e : bits .or .u64 a c = IntKind.u64.wrap (((BitVec.ofInt 64 a ||| BitVec.ofInt 64 c).toNat : Nat) : Int) := rfl
  rw [e, IntKind.wrap_u64]
  omega
theorem toP_b (pa c : Int) : 0 ≤ toP pa c ∧ toP pa c < 18446744073709551616 := or_b _ _
section
variable {w w' : World} {p b m N : Nat} {B : Nat → Int} {L : List Nat}
theorem Ram.laid (h : Ram w p b m N B L) {o : Nat} {vs : List Int} (hm : Mem w' p b m N (over B o vs) (adr L) (hdL N L) (N - L.length)) (hf : ∀ j ∈ L, o + vs.length ≤ j * 4096 ∨ j * 4096 + 4096 ≤ o) : Ram w' p b m N (over B o vs) L :=
  ⟨hm, h.nd, h.lt, h.thr.congr (fun j hj k hk => by
    have := hf j hj
    unfold over
    rw [if_neg (by omega)])⟩
/-- A number is laid into an entry of a node. -/
theorem store_nd (h : Ram w p b m N B L) (nd va l v : Int) (hn : ndB N L nd = true) (hv : 0 ≤ v ∧ v < 18446744073709551616) : Calls Tryz.prog 116 #[.pointer (some ⟨p, 0, .none⟩), .int .u64 (nd + ix va l * 8), .int .i64 8, .int .u64 v] w fun e w' => e = .returned (.bool true) ∧ Ram w' p b m N (over B (fi nd * 4096 + (ix va l).toNat * 8) (le v 8)) L ∧ Fra p b m w w' := by
  obtain ⟨h1, h2, h3, h4⟩ := ndB_spec hn
  have hb := ix_b va l
  have c := store_ok h.mem (fi nd * 4096 + (ix va l).toNat * 8) 8 (by omega) (by omega) (fun f k1 k2 => by
    obtain rfl : f = fi nd := by omega
    rw [hdL_in h3]
    simp [h4]) v hv
  rw [show (2147483648 + ((fi nd * 4096 + (ix va l).toNat * 8 : Nat) : Int)) = nd + ix va l * 8 by omega] at c
  refine c.mono ?_
  rintro e w2 ⟨he, hm, hF⟩
  refine ⟨he, h.laid hm (fun j hj => ?_), hF⟩
  have hne : j ≠ fi nd := fun e => h4 (e ▸ hj)
  rw [le_len]
  omega
/-- An entry that is not empty stays. -/
theorem meetL_keep (q : Option Addr) (leaf l at_ e : Int) (he : 0 ≤ e ∧ e < 18446744073709551616) (hl : l = 0 ∨ l = 1 ∨ l = 2) (hk : kd e l ≠ 0) (w : World) : Calls Tryz.prog 176 #[.agg #[.pointer q, .int .u64 leaf], .int .i64 l, .int .u64 at_, .int .u64 e] w fun r w' => r = .returned (.tuple #[.int .u64 e, .bool true]) ∧ Below w.heap.size w w' := by
  have c66 := fun W => kind_any e l he hl W
  generalize kd e l = k at *
  have hk2 : (k != 0) = true := by simpa using hk
  go_enter Tryz.func176, Tryz.ntmps176
  go_wp2_with (first | (go_at_call 138; refine (c66 _).mono ?_; rintro r w0 ⟨rfl, rfl⟩))
  go_ret2
  exact ⟨rfl, below1 _ _⟩
/-- A leaf is laid down. -/
theorem meetL_leaf (h : Ram w p b m N B L) (nd va leaf e : Int) (hn : ndB N L nd = true) (hv : 0 ≤ leaf ∧ leaf < 18446744073709551616) (he : 0 ≤ e ∧ e < 18446744073709551616) (hk : kd e 0 = 0) : Calls Tryz.prog 176 #[.agg #[.pointer (some ⟨p, 0, .none⟩), .int .u64 leaf], .int .i64 0, .int .u64 (nd + ix va 0 * 8), .int .u64 e] w fun r w' => r = .returned (.tuple #[.int .u64 leaf, .bool true]) ∧ Ram w' p b m N (over B (fi nd * 4096 + (ix va 0).toNat * 8) (le leaf 8)) L ∧ Fra p b m w w' := by
  have c66 := fun W => kind_any e 0 he (by omega) W
  have b0 := below1 w (.cells #[.pointer (some ⟨p, 0, .none⟩), .int .u64 leaf] 150)
  have c47 := store_nd (h.below b0) nd va 0 leaf hn hv
  have HF : Hid (Fra p b m w _) := Fra.below b0
  rw [hk] at c66
  clear h b0 hk
  generalize nd + ix va 0 * 8 = at_ at *
  go_enter Tryz.func176, Tryz.ntmps176
  go_wp2_with (first | (go_at_call 138; refine (c66 _).mono ?_; rintro r w0 ⟨rfl, rfl⟩) | (go_at_call 116; refine c47.mono ?_; rintro r w1 ⟨rfl, hR, hF⟩))
  go_ret2
  exact ⟨rfl, hR, HF.out.trans hF⟩
/-- A node is taken, and the entry leads to it. -/
theorem meetL_node {i : Nat} {l' : List Nat} (h : Ram w p b m N B (i :: l')) (nd va leaf l e : Int) (hl : l = 1 ∨ l = 2) (hn : ndB N l' nd = true) (he : 0 ≤ e ∧ e < 18446744073709551616) (hk : kd e l = 0) : Calls Tryz.prog 176 #[.agg #[.pointer (some ⟨p, 0, .none⟩), .int .u64 leaf], .int .i64 l, .int .u64 (nd + ix va l * 8), .int .u64 e] w fun r w' => r = .returned (.tuple #[.int .u64 (toP (2147483648 + i * 4096) 0), .bool true]) ∧ Ram w' p b m N (over (zer B i) (fi nd * 4096 + (ix va l).toNat * 8) (le (toP (2147483648 + i * 4096) 0) 8)) l' ∧ Fra p b m w w' := by
  have c66 := fun W => kind_any e l he (by omega) W
  have b0 := below1 w (.cells #[.pointer (some ⟨p, 0, .none⟩), .int .u64 leaf] 150)
  have c22 := alloc_some i (h.below b0)
  have hi := h.lt i (by simp)
  have n2 := h.mem.n2
  have c44 := fun W => toPage_any (2147483648 + i * 4096) 0 (by omega) W
  have HF : Hid (Fra p b m w _) := Fra.below b0
  have HP := toP_b (2147483648 + (i : Int) * 4096) 0
  have c47 : Hid (∀ W, Ram W p b m N (zer B i) l' → Calls Tryz.prog 116 #[.pointer (some ⟨p, 0, .none⟩), .int .u64 (nd + ix va l * 8), .int .i64 8, .int .u64 (toP (2147483648 + i * 4096) 0)] W fun e w' => e = .returned (.bool true) ∧ Ram w' p b m N (over (zer B i) (fi nd * 4096 + (ix va l).toNat * 8) (le (toP (2147483648 + i * 4096) 0) 8)) l' ∧ Fra p b m W w') := fun W hW => store_nd hW nd va l _ hn HP
  have hlt : (0 : Int) < l := by omega
  rw [hk] at c66
  have P0 := (below1 w (.cells #[.pointer (some ⟨p, 0, .none⟩), .int .u64 leaf] 150))
  have hpw : p < w.heap.size := h.mem.plt
  have hbw : b < w.heap.size := h.mem.blt
  have hmw : m < w.heap.size := h.mem.mlt
  have HZ : Hid (∀ W, Fra p b m (w.alloc (.cells #[.pointer (some ⟨p, 0, .none⟩), .int .u64 leaf] 150)) W → W.cell? ⟨w.heap.size, 0, .none⟩ = some (.pointer (some ⟨p, 0, .none⟩))) := fun W hF => (hF.cell (x := ⟨w.heap.size, 0, .none⟩) (by simp) (by show w.heap.size ≠ p; omega) (by show w.heap.size ≠ b; omega) (by show w.heap.size ≠ m; omega)).trans (by simp)
  clear h b0 hk P0 hpw hbw hmw hi
  generalize nd + ix va l * 8 = at_ at *
  generalize toP (2147483648 + i * 4096) 0 = tp at *
  go_enter Tryz.func176, Tryz.ntmps176
  go_wp2_with (first | (go_at_call 138; refine (c66 _).mono ?_; rintro r w0 ⟨rfl, rfl⟩) | (go_at_call 39; refine c22.mono ?_; rintro r V1 ⟨rfl, hR1, hF1⟩; have z1 := HZ.out V1 hF1; have c47' := c47.out V1 hR1; have HF1 : Hid (Fra p b m (w.alloc (.cells #[.pointer (some ⟨p, 0, .none⟩), .int .u64 leaf] 150)) V1) := hF1; clear hR1 hF1 c22) | (go_at_call 115; refine (c44 _).mono ?_; rintro r V1 ⟨rfl, rfl⟩) | (go_at_call 116; refine c47'.mono ?_; rintro r V2 ⟨rfl, hR, hF⟩))
  go_ret2
  exact ⟨rfl, hR, (HF.out.trans HF1.out).trans hF⟩
end
end Go.Proofs.YtblmkkhiojbcjaaGreat
