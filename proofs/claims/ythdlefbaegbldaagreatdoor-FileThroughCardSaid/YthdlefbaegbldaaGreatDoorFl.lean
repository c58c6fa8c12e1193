import Derived.Test.YthdlefbaegbldaaGreatDoorFk
namespace Go.Proofs.YthdlefbaegbldaaGreatDoor
open Go.RowKit
set_option linter.unusedVariables false
set_option linter.unusedSimpArgs false
set_option maxRecDepth 100000
attribute [local go_sem] run_store_func run_store_nilFunc eqGuard_func eqF_some eqF_nil eqG_some eqG_nil
def bad5 : Value := .agg #[.int .i64 3, .slice none 0 0, .int .i64 0, .int .i64 0, .slice none 0 0]
def bad6 : Value := .agg #[.int .i64 3, .int .i64 0, .slice none 0 0, .int .i64 0, .int .i64 0, .slice none 0 0]

theorem readBy_neg (w : World) (f : Nat) (c d : Array Value) (n : Int) (hn : n < 0) : Calls Tryz.prog 32 #[.func (.func f) c d, .int .i64 n] w fun e w' => e = .returned bad5 ∧ Below w.heap.size w w' := by
  obtain ⟨W, hW⟩ : ∃ W, W = w.alloc (.cells #[.int .i64 0, .slice none 0 0, .int .i64 0, .int .i64 0, .slice none 0 0] 45) := ⟨_, rfl⟩
  have HB : Hid (Below w.heap.size w W ∧ W.heap.size = w.heap.size + 1 ∧ Zg W w.heap.size) := by
    rw [hW]
    exact ⟨(Below.refl _ _).alloc (Nat.le_refl _) _, by simp, Zg.new w⟩
  have HW : Hid (w.alloc (.cells #[.int .i64 0, .slice none 0 0, .int .i64 0, .int .i64 0, .slice none 0 0] 45) = W) := hW.symm
  clear hW
  have z0 := HB.out.2.2.c0
  have y0 := HB.out.2.2.f 0
  have z1 := HB.out.2.2.c1
  have y1 := HB.out.2.2.f 1
  have z2 := HB.out.2.2.c2
  have y2 := HB.out.2.2.f 2
  have z3 := HB.out.2.2.c3
  have y3 := HB.out.2.2.f 3
  have z4 := HB.out.2.2.c4
  have y4 := HB.out.2.2.f 4
  go_enter Tryz.func32, Tryz.ntmps32
  go_upto_region 1 with fail
  rw [HW.out]
  clear HW
  go_wp2
  refine ret_cells (V := W) (z := w.heap.size) [.int .i64 3, .slice none 0 0, .int .i64 0, .int .i64 0, .slice none 0 0] rfl rfl HB.out.2.2.there (fun W h => run_loadVar_mid (P := Tryz.prog) W _ 0 45 _ _ h Tryz.underlying45 rfl (by kernel_rfl)) rfl ?_
  intro X hX
  exact ⟨rfl, HB.out.1.trans (hX.toBelow (Nat.le_refl _) HB.out.1.size)⟩

theorem readBy_nil (w : World) (n : Int) : Calls Tryz.prog 32 #[.nilFunc, .int .i64 n] w fun e w' => e = .returned bad5 ∧ Below w.heap.size w w' := by
  obtain ⟨W, hW⟩ : ∃ W, W = w.alloc (.cells #[.int .i64 0, .slice none 0 0, .int .i64 0, .int .i64 0, .slice none 0 0] 45) := ⟨_, rfl⟩
  have HB : Hid (Below w.heap.size w W ∧ W.heap.size = w.heap.size + 1 ∧ Zg W w.heap.size) := by
    rw [hW]
    exact ⟨(Below.refl _ _).alloc (Nat.le_refl _) _, by simp, Zg.new w⟩
  have HW : Hid (w.alloc (.cells #[.int .i64 0, .slice none 0 0, .int .i64 0, .int .i64 0, .slice none 0 0] 45) = W) := hW.symm
  clear hW
  have z0 := HB.out.2.2.c0
  have y0 := HB.out.2.2.f 0
  have z1 := HB.out.2.2.c1
  have y1 := HB.out.2.2.f 1
  have z2 := HB.out.2.2.c2
  have y2 := HB.out.2.2.f 2
  have z3 := HB.out.2.2.c3
  have y3 := HB.out.2.2.f 3
  have z4 := HB.out.2.2.c4
  have y4 := HB.out.2.2.f 4
  go_enter Tryz.func32, Tryz.ntmps32
  go_upto_region 1 with fail
  rw [HW.out]
  clear HW
  go_wp2
  refine ret_cells (V := W) (z := w.heap.size) [.int .i64 3, .slice none 0 0, .int .i64 0, .int .i64 0, .slice none 0 0] rfl rfl HB.out.2.2.there (fun W h => run_loadVar_mid (P := Tryz.prog) W _ 0 45 _ _ h Tryz.underlying45 rfl (by kernel_rfl)) rfl ?_
  intro X hX
  exact ⟨rfl, HB.out.1.trans (hX.toBelow (Nat.le_refl _) HB.out.1.size)⟩

set_option maxHeartbeats 1000000 in
theorem readBy_read {w : World} {b : Nat} {xs : List Int} {r : Int} {rd wt : Bool} (h : Pip w b xs r rd wt) (n k l pp : Int) (hn : 0 ≤ n) :
    Calls Tryz.prog 32 #[.func (.func 76) #[.agg #[.pointer (some ⟨b, 0, .none⟩), .int .i64 k, .int .i64 pp, .int .i64 l, .int .i64 pp]] #[], .int .i64 n] w (ReadP w b xs r rd wt n k l pp) := by
  obtain ⟨W, hW⟩ : ∃ W, W = w.alloc (.cells #[.int .i64 0, .slice none 0 0, .int .i64 0, .int .i64 0, .slice none 0 0] 45) := ⟨_, rfl⟩
  have HB : Hid (Below w.heap.size w W ∧ W.heap.size = w.heap.size + 1 ∧ Zg W w.heap.size) := by
    rw [hW]
    exact ⟨(Below.refl _ _).alloc (Nat.le_refl _) _, by simp, Zg.new w⟩
  have HW : Hid (w.alloc (.cells #[.int .i64 0, .slice none 0 0, .int .i64 0, .int .i64 0, .slice none 0 0] 45) = W) := hW.symm
  clear hW
  have hlt := h.lt
  have hc := readE_any (h.below HB.out.1) n k l pp
  have i0 : ¬ n < 0 := by omega
  clear h
  go_enter Tryz.func32, Tryz.ntmps32
  go_upto_region 1 with fail
  rw [HW.out]
  clear HW
  go_wp2_with fail
  refine hc.mono ?_
  rintro _ X ⟨v, rfl, hG, hP, hX⟩
  obtain ⟨a0, gp, gm, gc, a2, a3, wp, wn, wc, rfl⟩ := hG.five
  have HG : Hid (Got X W.heap.size xs wt n k l pp (.agg #[.int .i64 a0, .slice gp gm gc, .int .i64 a2, .int .i64 a3, .slice wp wn wc]) ∧ Pip X b (xs.drop (takeN xs n)) ((r + takeN xs n) % 4294967296) rd wt ∧ Trn b W X) := ⟨hG, hP, hX⟩
  have H2 : Hid (Zg X w.heap.size) := HB.out.2.2.keep (HG.out.2.2.block _ (by have := HB.out.2.1; omega) (by have := hlt; omega))
  clear hG hP hX hc
  have z0 := H2.out.c0
  have y0 := H2.out.f 0
  have z1 := H2.out.c1
  have y1 := H2.out.f 1
  have z2 := H2.out.c2
  have y2 := H2.out.f 2
  have z3 := H2.out.c3
  have y3 := H2.out.f 3
  have z4 := H2.out.c4
  have y4 := H2.out.f 4
  go_wp2
  refine ret_cells (V := X) (z := w.heap.size) [.int .i64 a0, .slice gp gm gc, .int .i64 a2, .int .i64 a3, .slice wp wn wc] rfl rfl H2.out.there (fun W h => run_loadVar_mid (P := Tryz.prog) W _ 0 45 _ _ h Tryz.underlying45 rfl (by kernel_rfl)) rfl ?_
  intro Y hY
  exact ⟨_, rfl, (HG.out.1.trn hY (by have := HB.out.2.1; omega)).mono (by have := HB.out.2.1; omega), HG.out.2.1.keep hY (by have := hlt; omega), ((Trn.ofBelow HB.out.1).trans HG.out.2.2).past hY (Nat.le_refl _)⟩

set_option maxHeartbeats 1000000 in
theorem readBy_peek {w : World} {b : Nat} {xs : List Int} {r : Int} {rd wt : Bool} (h : Pip w b xs r rd wt) (n k l pp : Int) (hn : 0 ≤ n) :
    Calls Tryz.prog 32 #[.func (.func 77) #[.agg #[.pointer (some ⟨b, 0, .none⟩), .int .i64 k, .int .i64 pp, .int .i64 l, .int .i64 pp]] #[], .int .i64 n] w (PeekP w xs wt n k l pp) := by
  obtain ⟨W, hW⟩ : ∃ W, W = w.alloc (.cells #[.int .i64 0, .slice none 0 0, .int .i64 0, .int .i64 0, .slice none 0 0] 45) := ⟨_, rfl⟩
  have HB : Hid (Below w.heap.size w W ∧ W.heap.size = w.heap.size + 1 ∧ Zg W w.heap.size) := by
    rw [hW]
    exact ⟨(Below.refl _ _).alloc (Nat.le_refl _) _, by simp, Zg.new w⟩
  have HW : Hid (w.alloc (.cells #[.int .i64 0, .slice none 0 0, .int .i64 0, .int .i64 0, .slice none 0 0] 45) = W) := hW.symm
  clear hW
  have hlt := h.lt
  have hc := peekE_any (h.below HB.out.1) n k l pp
  have i0 : ¬ n < 0 := by omega
  clear h
  go_enter Tryz.func32, Tryz.ntmps32
  go_upto_region 1 with fail
  rw [HW.out]
  clear HW
  go_wp2_with fail
  refine hc.mono ?_
  rintro _ X ⟨v, rfl, hG, hX⟩
  obtain ⟨a0, gp, gm, gc, a2, a3, wp, wn, wc, rfl⟩ := hG.five
  have HG : Hid (Got X W.heap.size xs wt n k l pp (.agg #[.int .i64 a0, .slice gp gm gc, .int .i64 a2, .int .i64 a3, .slice wp wn wc]) ∧ Below W.heap.size W X) := ⟨hG, hX⟩
  have H2 : Hid (Zg X w.heap.size) := HB.out.2.2.keep (HG.out.2.block _ (by have := HB.out.2.1; omega))
  clear hG hX hc
  have z0 := H2.out.c0
  have y0 := H2.out.f 0
  have z1 := H2.out.c1
  have y1 := H2.out.f 1
  have z2 := H2.out.c2
  have y2 := H2.out.f 2
  have z3 := H2.out.c3
  have y3 := H2.out.f 3
  have z4 := H2.out.c4
  have y4 := H2.out.f 4
  go_wp2
  refine ret_cells (V := X) (z := w.heap.size) [.int .i64 a0, .slice gp gm gc, .int .i64 a2, .int .i64 a3, .slice wp wn wc] rfl rfl H2.out.there (fun W h => run_loadVar_mid (P := Tryz.prog) W _ 0 45 _ _ h Tryz.underlying45 rfl (by kernel_rfl)) rfl ?_
  intro Y hY
  have bb : Below w.heap.size w X := HB.out.1.trans (HG.out.2.mono HB.out.1.size)
  exact ⟨_, rfl, (HG.out.1.trn hY (by have := HB.out.2.1; omega)).mono (by have := HB.out.2.1; omega), bb.trans (hY.toBelow (Nat.le_refl _) bb.size)⟩

theorem fieldR0 (W : World) (f0 f1 : Nat) (x0 x1 : Array Value) : (Instr.field 110 (.agg #[.func (.func f0) x0 #[], .func (.func f1) x1 #[], .nilFunc]) 0).run Tryz.prog W = .ok (.func (.func f0) x0 #[]) W := by kernel_rfl
theorem fieldR1 (W : World) (f0 f1 : Nat) (x0 x1 : Array Value) : (Instr.field 110 (.agg #[.func (.func f0) x0 #[], .func (.func f1) x1 #[], .nilFunc]) 1).run Tryz.prog W = .ok (.func (.func f1) x1 #[]) W := by kernel_rfl
theorem fieldW2 (W : World) (f0 : Nat) (x0 : Array Value) : (Instr.field 110 (.agg #[.nilFunc, .nilFunc, .func (.func f0) x0 #[]]) 2).run Tryz.prog W = .ok (.func (.func f0) x0 #[]) W := by kernel_rfl
theorem fieldN (W : World) : (Instr.field 110 (.agg #[.nilFunc, .nilFunc, .nilFunc]) 0).run Tryz.prog W = .ok .nilFunc W ∧ (Instr.field 110 (.agg #[.nilFunc, .nilFunc, .nilFunc]) 1).run Tryz.prog W = .ok .nilFunc W ∧ (Instr.field 110 (.agg #[.nilFunc, .nilFunc, .nilFunc]) 2).run Tryz.prog W = .ok .nilFunc W := ⟨by kernel_rfl, by kernel_rfl, by kernel_rfl⟩
attribute [local go_sem] fieldR0 fieldR1 fieldW2
end Go.Proofs.YthdlefbaegbldaaGreatDoor
