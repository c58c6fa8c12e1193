import Derived.Test.YthdlefbaegbldaaGreatDoorNa
namespace Go.Proofs.YthdlefbaegbldaaGreatDoor
open Go.RowKit Go.Shelf
set_option linter.unusedVariables false
set_option linter.unusedSimpArgs false
set_option maxRecDepth 100000
theorem fieldN0 (W : World) : (Instr.field 110 (.agg #[.nilFunc, .nilFunc, .nilFunc]) 0).run Tryz.prog W = .ok .nilFunc W := by kernel_rfl
theorem fieldN1 (W : World) : (Instr.field 110 (.agg #[.nilFunc, .nilFunc, .nilFunc]) 1).run Tryz.prog W = .ok .nilFunc W := by kernel_rfl
theorem fieldN2 (W : World) : (Instr.field 110 (.agg #[.nilFunc, .nilFunc, .nilFunc]) 2).run Tryz.prog W = .ok .nilFunc W := by kernel_rfl
attribute [local go_sem] run_store_func run_store_nilFunc eqGuard_func eqF_some eqF_nil eqG_some eqG_nil eqC neC guardC fieldN0 fieldN1 fieldN2

theorem read_noF {w : World} {q : Option Addr} (u : UnF w (.pointer q)) (k n : Int) : Calls Tryz.prog 12 #[.pointer q, .int .i64 k, .int .i64 n] w fun e w' => e = .returned bad5 ∧ Below w.heap.size w w' := by
  obtain ⟨W, hW⟩ : ∃ W, W = w.alloc (.cells #[.int .i64 0, .slice none 0 0, .int .i64 0, .int .i64 0, .slice none 0 0] 45) := ⟨_, rfl⟩
  have HB : Hid (Below w.heap.size w W ∧ W.heap.size = w.heap.size + 1 ∧ Zg W w.heap.size) := by
    rw [hW]
    exact ⟨(Below.refl _ _).alloc (Nat.le_refl _) _, by simp, Zg.new w⟩
  have HW : Hid (w.alloc (.cells #[.int .i64 0, .slice none 0 0, .int .i64 0, .int .i64 0, .slice none 0 0] 45) = W) := hW.symm
  clear hW
  have cw := ways_no (u.below HB.out.1) k
  clear u
  go_enter Tryz.func12, Tryz.ntmps12
  go_upto_region 1 with fail
  rw [HW.out]
  clear HW
  go_wp2_with fail
  refine cw.mono ?_
  rintro _ V ⟨rfl, hV⟩
  have HV : Hid (Below W.heap.size W V) := hV
  clear hV cw
  go_wp2_with fail
  refine (readBy_nil V n).mono ?_
  rintro _ X ⟨rfl, hX⟩
  have HX : Hid (Below V.heap.size V X) := hX
  have H2 : Hid (Zg X w.heap.size) := (HB.out.2.2.keep (HV.out.block _ (by have := HB.out.2.1; omega))).keep (hX.block _ (by have := HB.out.2.1; have := HV.out.size; omega))
  clear hX
  simp only [bad5]
  have z0 := H2.out.c0
  have y0 := H2.out.f 0
  have z1 := H2.out.c1
  have y1 := H2.out.f 1
  have z2 := H2.out.c2
  have y2 := H2.out.f 2
  have z3 := H2.out.c3
  have y3 := H2.out.f 3
  have z4 := H2.out.c4
  have y4 := H2.out.f 4
  go_wp2
  refine ret_cells (V := X) (z := w.heap.size) [.int .i64 3, .slice none 0 0, .int .i64 0, .int .i64 0, .slice none 0 0] rfl rfl H2.out.there (fun W h => run_loadVar_mid (P := Tryz.prog) W _ 0 45 _ _ h Tryz.underlying45 rfl (by kernel_rfl)) rfl ?_
  intro Y hY
  have bb : Below w.heap.size w X := (HB.out.1.trans (HV.out.mono HB.out.1.size)).trans (HX.out.mono (by have := HB.out.2.1; have := HV.out.size; omega))
  exact ⟨rfl, bb.trans (hY.toBelow (Nat.le_refl _) bb.size)⟩

theorem peek_noF {w : World} {q : Option Addr} (u : UnF w (.pointer q)) (k n : Int) : Calls Tryz.prog 11 #[.pointer q, .int .i64 k, .int .i64 n] w fun e w' => e = .returned bad5 ∧ Below w.heap.size w w' := by
  obtain ⟨W, hW⟩ : ∃ W, W = w.alloc (.cells #[.int .i64 0, .slice none 0 0, .int .i64 0, .int .i64 0, .slice none 0 0] 45) := ⟨_, rfl⟩
  have HB : Hid (Below w.heap.size w W ∧ W.heap.size = w.heap.size + 1 ∧ Zg W w.heap.size) := by
    rw [hW]
    exact ⟨(Below.refl _ _).alloc (Nat.le_refl _) _, by simp, Zg.new w⟩
  have HW : Hid (w.alloc (.cells #[.int .i64 0, .slice none 0 0, .int .i64 0, .int .i64 0, .slice none 0 0] 45) = W) := hW.symm
  clear hW
  have cw := ways_no (u.below HB.out.1) k
  clear u
  go_enter Tryz.func11, Tryz.ntmps11
  go_upto_region 1 with fail
  rw [HW.out]
  clear HW
  go_wp2_with fail
  refine cw.mono ?_
  rintro _ V ⟨rfl, hV⟩
  have HV : Hid (Below W.heap.size W V) := hV
  clear hV cw
  go_wp2_with fail
  refine (readBy_nil V n).mono ?_
  rintro _ X ⟨rfl, hX⟩
  have HX : Hid (Below V.heap.size V X) := hX
  have H2 : Hid (Zg X w.heap.size) := (HB.out.2.2.keep (HV.out.block _ (by have := HB.out.2.1; omega))).keep (hX.block _ (by have := HB.out.2.1; have := HV.out.size; omega))
  clear hX
  simp only [bad5]
  have z0 := H2.out.c0
  have y0 := H2.out.f 0
  have z1 := H2.out.c1
  have y1 := H2.out.f 1
  have z2 := H2.out.c2
  have y2 := H2.out.f 2
  have z3 := H2.out.c3
  have y3 := H2.out.f 3
  have z4 := H2.out.c4
  have y4 := H2.out.f 4
  go_wp2
  refine ret_cells (V := X) (z := w.heap.size) [.int .i64 3, .slice none 0 0, .int .i64 0, .int .i64 0, .slice none 0 0] rfl rfl H2.out.there (fun W h => run_loadVar_mid (P := Tryz.prog) W _ 0 45 _ _ h Tryz.underlying45 rfl (by kernel_rfl)) rfl ?_
  intro Y hY
  have bb : Below w.heap.size w X := (HB.out.1.trans (HV.out.mono HB.out.1.size)).trans (HX.out.mono (by have := HB.out.2.1; have := HV.out.size; omega))
  exact ⟨rfl, bb.trans (hY.toBelow (Nat.le_refl _) bb.size)⟩

theorem write_noF {w : World} {q : Option Addr} (u : UnF w (.pointer q)) (k : Int) (p : Option Addr) (n c : Nat) : Calls Tryz.prog 8 #[.pointer q, .int .i64 k, .slice p n c] w fun e w' => e = .returned bad6 ∧ Below w.heap.size w w' := by
  obtain ⟨W, hW⟩ : ∃ W, W = w.alloc (.cells #[.int .i64 0, .int .i64 0, .slice none 0 0, .int .i64 0, .int .i64 0, .slice none 0 0] 40) := ⟨_, rfl⟩
  have HB : Hid (Below w.heap.size w W ∧ W.heap.size = w.heap.size + 1 ∧ Zs W w.heap.size) := by
    rw [hW]
    exact ⟨(Below.refl _ _).alloc (Nat.le_refl _) _, by simp, Zs.new w⟩
  have HW : Hid (w.alloc (.cells #[.int .i64 0, .int .i64 0, .slice none 0 0, .int .i64 0, .int .i64 0, .slice none 0 0] 40) = W) := hW.symm
  clear hW
  have cw := ways_no (u.below HB.out.1) k
  clear u
  go_enter Tryz.func8, Tryz.ntmps8
  go_upto_region 1 with fail
  rw [HW.out]
  clear HW
  go_wp2_with fail
  refine cw.mono ?_
  rintro _ V ⟨rfl, hV⟩
  have HV : Hid (Below W.heap.size W V) := hV
  have H2 : Hid (Zs V w.heap.size) := HB.out.2.2.keep (hV.block _ (by have := HB.out.2.1; omega))
  clear hV cw
  have z0 := H2.out.c0
  have y0 := H2.out.f 0
  have z1 := H2.out.c1
  have y1 := H2.out.f 1
  have z2 := H2.out.c2
  have y2 := H2.out.f 2
  have z3 := H2.out.c3
  have y3 := H2.out.f 3
  have z4 := H2.out.c4
  have y4 := H2.out.f 4
  have z5 := H2.out.c5
  have y5 := H2.out.f 5
  go_wp2
  refine ret_cells (V := V) (z := w.heap.size) [.int .i64 3, .int .i64 0, .slice none 0 0, .int .i64 0, .int .i64 0, .slice none 0 0] rfl rfl H2.out.there (fun W h => run_loadVar_mid (P := Tryz.prog) W _ 0 40 _ _ h Tryz.underlying40 rfl (by kernel_rfl)) rfl ?_
  intro Y hY
  have bb : Below w.heap.size w V := HB.out.1.trans (HV.out.mono HB.out.1.size)
  exact ⟨rfl, bb.trans (hY.toBelow (Nat.le_refl _) bb.size)⟩
theorem got_bad (w : World) : Calls Tryz.prog 13 #[bad5, bad5] w fun e w' => e = .returned (.bool true) ∧ Below w.heap.size w w' :=
  got_any (ba := 0) (bb := 0) 3 none none 0 0 0 [] (by omega) ⟨rfl, Nat.le_refl _, by decide, .inl rfl⟩ ⟨rfl, Nat.le_refl _, by decide, .inl rfl⟩ 0 0 none none 0 0 0 0 (y := false) (l := 0) (pl := 0) (.inl ⟨rfl, rfl⟩) (.inl ⟨rfl, rfl⟩)
set_option maxHeartbeats 400000 in
theorem sent_bad (w : World) : Calls Tryz.prog 21 #[bad6, bad6] w fun e w' => e = .returned (.bool true) ∧ Below w.heap.size w w' := by
  have nb : ∀ W : World, Byt W none 0 0 [] := fun W => ⟨rfl, Nat.le_refl _, by decide, .inl rfl⟩
  have cb := fun W => bytes_any none none 0 0 0 [] W (by omega) (nb W) (nb W)
  have cc := fun W => chans_nn W
  obtain ⟨W, hW⟩ : ∃ W, W = (w.alloc (.cells #[.int .i64 3, .int .i64 0, .slice none 0 0, .int .i64 0, .int .i64 0, .slice none 0 0] 40)).alloc (.cells #[.int .i64 3, .int .i64 0, .slice none 0 0, .int .i64 0, .int .i64 0, .slice none 0 0] 40) := ⟨_, rfl⟩
  have HW : Hid ((w.alloc (.cells #[.int .i64 3, .int .i64 0, .slice none 0 0, .int .i64 0, .int .i64 0, .slice none 0 0] 40)).alloc (.cells #[.int .i64 3, .int .i64 0, .slice none 0 0, .int .i64 0, .int .i64 0, .slice none 0 0] 40) = W) := hW.symm
  have HB : Hid (Below w.heap.size w W) := by rw [hW]; exact ((Below.refl _ _).alloc (Nat.le_refl _) _).alloc (by simp) _
  have x0 : W.cell? ⟨w.heap.size, 0, .none⟩ = some (.int .i64 3) := by rw [hW, World.cell?_alloc_past _ _ _ (by simp), World.cell?_alloc_at _ _ _ _ rfl]; rfl
  have y0 : W.cell? ⟨w.heap.size + 1, 0, .none⟩ = some (.int .i64 3) := by rw [hW, World.cell?_alloc_at _ _ _ _ (by simp)]; rfl
  have x1 : W.cell? ⟨w.heap.size, 1, .none⟩ = some (.int .i64 0) := by rw [hW, World.cell?_alloc_past _ _ _ (by simp), World.cell?_alloc_at _ _ _ _ rfl]; rfl
  have y1 : W.cell? ⟨w.heap.size + 1, 1, .none⟩ = some (.int .i64 0) := by rw [hW, World.cell?_alloc_at _ _ _ _ (by simp)]; rfl
  have x2 : W.cell? ⟨w.heap.size, 2, .none⟩ = some (.slice none 0 0) := by rw [hW, World.cell?_alloc_past _ _ _ (by simp), World.cell?_alloc_at _ _ _ _ rfl]; rfl
  have y2 : W.cell? ⟨w.heap.size + 1, 2, .none⟩ = some (.slice none 0 0) := by rw [hW, World.cell?_alloc_at _ _ _ _ (by simp)]; rfl
  have x3 : W.cell? ⟨w.heap.size, 3, .none⟩ = some (.int .i64 0) := by rw [hW, World.cell?_alloc_past _ _ _ (by simp), World.cell?_alloc_at _ _ _ _ rfl]; rfl
  have y3 : W.cell? ⟨w.heap.size + 1, 3, .none⟩ = some (.int .i64 0) := by rw [hW, World.cell?_alloc_at _ _ _ _ (by simp)]; rfl
  have x4 : W.cell? ⟨w.heap.size, 4, .none⟩ = some (.int .i64 0) := by rw [hW, World.cell?_alloc_past _ _ _ (by simp), World.cell?_alloc_at _ _ _ _ rfl]; rfl
  have y4 : W.cell? ⟨w.heap.size + 1, 4, .none⟩ = some (.int .i64 0) := by rw [hW, World.cell?_alloc_at _ _ _ _ (by simp)]; rfl
  have x5 : W.cell? ⟨w.heap.size, 5, .none⟩ = some (.slice none 0 0) := by rw [hW, World.cell?_alloc_past _ _ _ (by simp), World.cell?_alloc_at _ _ _ _ rfl]; rfl
  have y5 : W.cell? ⟨w.heap.size + 1, 5, .none⟩ = some (.slice none 0 0) := by rw [hW, World.cell?_alloc_at _ _ _ _ (by simp)]; rfl
  clear hW nb
  simp only [bad6]
  go_enter Tryz.func21, Tryz.ntmps21
  go_upto_region 1 with fail
  rw [HW.out]
  clear HW
  go_wp2_with fail
  refine (cb W).mono ?_
  rintro _ V ⟨rfl, j, rfl⟩
  go_wp2_with fail
  refine (cc _).mono ?_
  rintro _ V ⟨rfl, j2, rfl⟩
  clear cb cc
  go_wp2
  go_ret
  exact ⟨rfl, HB.out.os, HB.out.tape, HB.out.output, HB.out.size, HB.out.block⟩
end Go.Proofs.YthdlefbaegbldaaGreatDoor
