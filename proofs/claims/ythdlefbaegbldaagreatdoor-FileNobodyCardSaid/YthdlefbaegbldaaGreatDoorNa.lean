import Derived.Test.YthdlefbaegbldaaGreatDoorTl
namespace Go.Proofs.YthdlefbaegbldaaGreatDoor
open Go.RowKit Go.Shelf
set_option linter.unusedVariables false
set_option linter.unusedSimpArgs false
set_option maxRecDepth 100000
attribute [local go_sem] run_store_func run_store_nilFunc eqGuard_func eqF_some eqF_nil eqG_some eqG_nil eqC neC guardC
/-- A table that no call made. -/
def UnF (w : World) (v : Value) : Prop := v = .pointer none ∨ ∃ s, v = .pointer (some ⟨s, 0, .none⟩) ∧ s < w.heap.size ∧ w.cell? ⟨s, 0, .none⟩ = some (.pointer none)
theorem UnF.below {w w' : World} {v : Value} (h : UnF w v) (hb : Below w.heap.size w w') : UnF w' v := by
  rcases h with h | ⟨s, h1, h2, h3⟩
  · exact .inl h
  · exact .inr ⟨s, h1, Nat.lt_of_lt_of_le h2 hb.size, (hb.cell (p := ⟨s, 0, .none⟩) h2).trans h3⟩
theorem isMade_no {w : World} {v : Value} (u : UnF w v) : Calls Tryz.prog 26 #[v] w fun e w' => e = .returned (.bool false) ∧ w' = w := by
  rcases u with rfl | ⟨s, rfl, _, c0⟩
  · go_enter Tryz.func26, Tryz.ntmps26
    go_wp2
    go_ret
    exact ⟨rfl, rfl⟩
  · go_enter Tryz.func26, Tryz.ntmps26
    go_wp2
    go_ret
    exact ⟨rfl, rfl⟩
theorem UnF.ptr {w : World} {v : Value} (u : UnF w v) : ∃ q, v = .pointer q := by
  rcases u with rfl | ⟨s, rfl, _⟩
  · exact ⟨_, rfl⟩
  · exact ⟨_, rfl⟩

theorem get_no {w : World} {q : Option Addr} (u : UnF w (.pointer q)) (k : Int) : Calls Tryz.prog 30 #[.pointer q, .int .i64 k] w fun e w' => e = .returned (.tuple #[.pointer .none, .int .i64 3]) ∧ w' = w := by
  have c0 := isMade_no u
  clear u
  go_enter Tryz.func30, Tryz.ntmps30
  go_wp2_with fail
  refine c0.mono ?_
  rintro _ X ⟨rfl, hX⟩
  obtain rfl : w = X := hX.symm
  go_wp2
  go_ret2
  exact ⟨rfl, rfl⟩

theorem left_no {w : World} {q : Option Addr} (u : UnF w (.pointer q)) : Calls Tryz.prog 19 #[.pointer q] w fun e w' => e = .returned (.tuple #[.int .i64 0, .int .i64 0]) ∧ w' = w := by
  have c0 := isMade_no u
  clear u
  go_enter Tryz.func19, Tryz.ntmps19
  go_wp2_with fail
  refine c0.mono ?_
  rintro _ X ⟨rfl, hX⟩
  obtain rfl : w = X := hX.symm
  go_wp2
  go_ret2
  exact ⟨rfl, rfl⟩

theorem open_no {w : World} {q : Option Addr} (u : UnF w (.pointer q)) (n : Int) (a b : Bool) : Calls Tryz.prog 17 #[.pointer q, .int .i64 n, .bool a, .bool b] w fun e w' => e = .returned (.tuple #[.int .i64 0, .int .i64 3]) ∧ w' = w := by
  have c0 := isMade_no u
  clear u
  go_enter Tryz.func17, Tryz.ntmps17
  go_wp2_with fail
  refine c0.mono ?_
  rintro _ X ⟨rfl, hX⟩
  obtain rfl : w = X := hX.symm
  go_wp2
  go_ret2
  exact ⟨rfl, rfl⟩

theorem pipe_no {w : World} {q : Option Addr} (u : UnF w (.pointer q)) : Calls Tryz.prog 6 #[.pointer q] w fun e w' => e = .returned (.tuple #[.int .i64 0, .int .i64 0, .int .i64 3]) ∧ w' = w := by
  have c0 := isMade_no u
  have c1 := left_no u
  clear u
  go_enter Tryz.func6, Tryz.ntmps6
  go_wp2_with fail
  refine c1.mono ?_
  rintro _ X ⟨rfl, hX⟩
  obtain rfl : w = X := hX.symm
  go_wp2_with fail
  refine c0.mono ?_
  rintro _ X ⟨rfl, hX⟩
  obtain rfl : w = X := hX.symm
  go_wp2
  go_ret3
  exact ⟨rfl, rfl⟩

theorem drop_no {w : World} {q : Option Addr} (u : UnF w (.pointer q)) (k : Int) : Calls Tryz.prog 15 #[.pointer q, .int .i64 k] w fun e w' => e = .returned (.tuple #[.slice none 0 0, .int .i64 3]) ∧ w' = w := by
  have c0 := isMade_no u
  have c1 := get_no u k
  clear u
  go_enter Tryz.func15, Tryz.ntmps15
  go_wp2_with fail
  refine c1.mono ?_
  rintro _ X ⟨rfl, hX⟩
  obtain rfl : w = X := hX.symm
  go_wp2
  go_ret2
  exact ⟨rfl, rfl⟩

theorem hold_no {w : World} {q : Option Addr} (u : UnF w (.pointer q)) (k : Int) : Calls Tryz.prog 20 #[.pointer q, .int .i64 k] w fun e w' => e = .returned (.int .i64 3) ∧ w' = w := by
  have c0 := isMade_no u
  have c1 := get_no u k
  clear u
  go_enter Tryz.func20, Tryz.ntmps20
  go_wp2_with fail
  refine c1.mono ?_
  rintro _ X ⟨rfl, hX⟩
  obtain rfl : w = X := hX.symm
  go_wp2
  go_ret
  exact ⟨rfl, rfl⟩

theorem stat_no {w : World} {q : Option Addr} (u : UnF w (.pointer q)) (k : Int) : Calls Tryz.prog 18 #[.pointer q, .int .i64 k] w fun e w' => e = .returned (.tuple #[.agg #[.int .i32 0, .int .u32 0, .int .i16 0, .int .i16 0, .int .u64 0], .int .i64 3]) ∧ Below w.heap.size w w' := by
  obtain ⟨W, hW⟩ : ∃ W, W = w.alloc (.cells #[.int .i32 0, .int .u32 0, .int .i16 0, .int .i16 0, .int .u64 0] 73) := ⟨_, rfl⟩
  have HW : Hid (w.alloc (.cells #[.int .i32 0, .int .u32 0, .int .i16 0, .int .i16 0, .int .u64 0] 73) = W) := hW.symm
  have HB : Hid (Below w.heap.size w W) := by rw [hW]; exact (Below.refl _ _).alloc (Nat.le_refl _) _
  have y0 : W.cell? ⟨w.heap.size, 0, .none⟩ = some (.int .i32 0) := by rw [hW, World.cell?_alloc_at _ _ _ _ rfl]; rfl
  have f0 : W.frozen? ⟨w.heap.size, 0, .none⟩ = false := by rw [hW]; exact froz_new _ _ _ _
  have y1 : W.cell? ⟨w.heap.size, 1, .none⟩ = some (.int .u32 0) := by rw [hW, World.cell?_alloc_at _ _ _ _ rfl]; rfl
  have f1 : W.frozen? ⟨w.heap.size, 1, .none⟩ = false := by rw [hW]; exact froz_new _ _ _ _
  have y2 : W.cell? ⟨w.heap.size, 2, .none⟩ = some (.int .i16 0) := by rw [hW, World.cell?_alloc_at _ _ _ _ rfl]; rfl
  have f2 : W.frozen? ⟨w.heap.size, 2, .none⟩ = false := by rw [hW]; exact froz_new _ _ _ _
  have y3 : W.cell? ⟨w.heap.size, 3, .none⟩ = some (.int .i16 0) := by rw [hW, World.cell?_alloc_at _ _ _ _ rfl]; rfl
  have f3 : W.frozen? ⟨w.heap.size, 3, .none⟩ = false := by rw [hW]; exact froz_new _ _ _ _
  have y4 : W.cell? ⟨w.heap.size, 4, .none⟩ = some (.int .u64 0) := by rw [hW, World.cell?_alloc_at _ _ _ _ rfl]; rfl
  have f4 : W.frozen? ⟨w.heap.size, 4, .none⟩ = false := by rw [hW]; exact froz_new _ _ _ _
  have HT : Hid (W.there w.heap.size 0 5) := fun j hj => by
    rw [Nat.zero_add]
    refine ⟨?_, by rw [hW]; exact froz_new _ _ _ _⟩
    match j, hj with
    | 0, _ => rw [y0]; rfl
    | 1, _ => rw [y1]; rfl
    | 2, _ => rw [y2]; rfl
    | 3, _ => rw [y3]; rfl
    | 4, _ => rw [y4]; rfl
  have c1 := get_no (u.below HB.out) k
  clear u hW
  go_enter Tryz.func18, Tryz.ntmps18
  go_upto_region 1 with fail
  rw [HW.out]
  clear HW
  go_wp2_with fail
  refine c1.mono ?_
  rintro _ X ⟨rfl, hX⟩
  obtain rfl : W = X := hX.symm
  go_wp2
  refine bodyPost_ret (results_cell_tmp (p := 4) (a := 5) (ty := 73) rfl _ _ ⟨w.heap.size, 0, .none⟩ _ rfl (run_loadVar_mid (P := Tryz.prog) _ w.heap.size 0 73 _ _ (World.rangeAt_setCells_same (w := W) w.heap.size 0 [.int .i32 0, .int .u32 0, .int .i16 0, .int .i16 0, .int .u64 0] HT.out) Tryz.underlying73 rfl (by kernel_rfl))) rfl ⟨rfl, HB.out.trans ((Trn.setCells w.heap.size 0 [.int .i32 0, .int .u32 0, .int .i16 0, .int .i16 0, .int .u64 0] W).toBelow (Nat.le_refl _) HB.out.size)⟩

theorem pipes_no {w : World} {q : Option Addr} (u : UnF w (.pointer q)) (k : Int) : Calls Tryz.prog 16 #[.pointer q, .int .i64 k] w fun e w' => e = .returned (.tuple #[.agg #[.int .i64 0, .slice none 0 0, .int .u32 0, .int .u32 0, .bool false, .bool false], .bool false]) ∧ Below w.heap.size w w' := by
  obtain ⟨W, hW⟩ : ∃ W, W = w.alloc (.cells #[.int .i64 0, .slice none 0 0, .int .u32 0, .int .u32 0, .bool false, .bool false] 55) := ⟨_, rfl⟩
  have HW : Hid (w.alloc (.cells #[.int .i64 0, .slice none 0 0, .int .u32 0, .int .u32 0, .bool false, .bool false] 55) = W) := hW.symm
  have HB : Hid (Below w.heap.size w W) := by rw [hW]; exact (Below.refl _ _).alloc (Nat.le_refl _) _
  have y0 : W.cell? ⟨w.heap.size, 0, .none⟩ = some (.int .i64 0) := by rw [hW, World.cell?_alloc_at _ _ _ _ rfl]; rfl
  have f0 : W.frozen? ⟨w.heap.size, 0, .none⟩ = false := by rw [hW]; exact froz_new _ _ _ _
  have y1 : W.cell? ⟨w.heap.size, 1, .none⟩ = some (.slice none 0 0) := by rw [hW, World.cell?_alloc_at _ _ _ _ rfl]; rfl
  have f1 : W.frozen? ⟨w.heap.size, 1, .none⟩ = false := by rw [hW]; exact froz_new _ _ _ _
  have y2 : W.cell? ⟨w.heap.size, 2, .none⟩ = some (.int .u32 0) := by rw [hW, World.cell?_alloc_at _ _ _ _ rfl]; rfl
  have f2 : W.frozen? ⟨w.heap.size, 2, .none⟩ = false := by rw [hW]; exact froz_new _ _ _ _
  have y3 : W.cell? ⟨w.heap.size, 3, .none⟩ = some (.int .u32 0) := by rw [hW, World.cell?_alloc_at _ _ _ _ rfl]; rfl
  have f3 : W.frozen? ⟨w.heap.size, 3, .none⟩ = false := by rw [hW]; exact froz_new _ _ _ _
  have y4 : W.cell? ⟨w.heap.size, 4, .none⟩ = some (.bool false) := by rw [hW, World.cell?_alloc_at _ _ _ _ rfl]; rfl
  have f4 : W.frozen? ⟨w.heap.size, 4, .none⟩ = false := by rw [hW]; exact froz_new _ _ _ _
  have y5 : W.cell? ⟨w.heap.size, 5, .none⟩ = some (.bool false) := by rw [hW, World.cell?_alloc_at _ _ _ _ rfl]; rfl
  have f5 : W.frozen? ⟨w.heap.size, 5, .none⟩ = false := by rw [hW]; exact froz_new _ _ _ _
  have HT : Hid (W.there w.heap.size 0 6) := fun j hj => by
    rw [Nat.zero_add]
    refine ⟨?_, by rw [hW]; exact froz_new _ _ _ _⟩
    match j, hj with
    | 0, _ => rw [y0]; rfl
    | 1, _ => rw [y1]; rfl
    | 2, _ => rw [y2]; rfl
    | 3, _ => rw [y3]; rfl
    | 4, _ => rw [y4]; rfl
    | 5, _ => rw [y5]; rfl
  have c1 := isMade_no (u.below HB.out)
  clear u hW
  go_enter Tryz.func16, Tryz.ntmps16
  go_upto_region 1 with fail
  rw [HW.out]
  clear HW
  go_wp2_with fail
  refine c1.mono ?_
  rintro _ X ⟨rfl, hX⟩
  obtain rfl : W = X := hX.symm
  go_wp2
  refine bodyPost_ret (results_cell_tmp (p := 4) (a := 5) (ty := 55) rfl _ _ ⟨w.heap.size, 0, .none⟩ _ rfl (run_loadVar_mid (P := Tryz.prog) _ w.heap.size 0 55 _ _ (World.rangeAt_setCells_same (w := W) w.heap.size 0 [.int .i64 0, .slice none 0 0, .int .u32 0, .int .u32 0, .bool false, .bool false] HT.out) Tryz.underlying55 rfl (by kernel_rfl))) rfl ⟨rfl, HB.out.trans ((Trn.setCells w.heap.size 0 [.int .i64 0, .slice none 0 0, .int .u32 0, .int .u32 0, .bool false, .bool false] W).toBelow (Nat.le_refl _) HB.out.size)⟩

theorem look_no {w : World} {q : Option Addr} (u : UnF w (.pointer q)) (k : Int) : Calls Tryz.prog 7 #[.pointer q, .int .i64 k] w fun e w' => e = .returned (.agg #[.int .i64 0, .int .i64 0, .int .i64 0, .bool false, .bool false, .int .i64 0, .int .i64 0, .int .i64 0]) ∧ Below w.heap.size w w' := by
  obtain ⟨W, hW⟩ : ∃ W, W = w.alloc (.cells #[.int .i64 0, .int .i64 0, .int .i64 0, .bool false, .bool false, .int .i64 0, .int .i64 0, .int .i64 0] 33) := ⟨_, rfl⟩
  have HW : Hid (w.alloc (.cells #[.int .i64 0, .int .i64 0, .int .i64 0, .bool false, .bool false, .int .i64 0, .int .i64 0, .int .i64 0] 33) = W) := hW.symm
  have HB : Hid (Below w.heap.size w W) := by rw [hW]; exact (Below.refl _ _).alloc (Nat.le_refl _) _
  have y0 : W.cell? ⟨w.heap.size, 0, .none⟩ = some (.int .i64 0) := by rw [hW, World.cell?_alloc_at _ _ _ _ rfl]; rfl
  have f0 : W.frozen? ⟨w.heap.size, 0, .none⟩ = false := by rw [hW]; exact froz_new _ _ _ _
  have y1 : W.cell? ⟨w.heap.size, 1, .none⟩ = some (.int .i64 0) := by rw [hW, World.cell?_alloc_at _ _ _ _ rfl]; rfl
  have f1 : W.frozen? ⟨w.heap.size, 1, .none⟩ = false := by rw [hW]; exact froz_new _ _ _ _
  have y2 : W.cell? ⟨w.heap.size, 2, .none⟩ = some (.int .i64 0) := by rw [hW, World.cell?_alloc_at _ _ _ _ rfl]; rfl
  have f2 : W.frozen? ⟨w.heap.size, 2, .none⟩ = false := by rw [hW]; exact froz_new _ _ _ _
  have y3 : W.cell? ⟨w.heap.size, 3, .none⟩ = some (.bool false) := by rw [hW, World.cell?_alloc_at _ _ _ _ rfl]; rfl
  have f3 : W.frozen? ⟨w.heap.size, 3, .none⟩ = false := by rw [hW]; exact froz_new _ _ _ _
  have y4 : W.cell? ⟨w.heap.size, 4, .none⟩ = some (.bool false) := by rw [hW, World.cell?_alloc_at _ _ _ _ rfl]; rfl
  have f4 : W.frozen? ⟨w.heap.size, 4, .none⟩ = false := by rw [hW]; exact froz_new _ _ _ _
  have y5 : W.cell? ⟨w.heap.size, 5, .none⟩ = some (.int .i64 0) := by rw [hW, World.cell?_alloc_at _ _ _ _ rfl]; rfl
  have f5 : W.frozen? ⟨w.heap.size, 5, .none⟩ = false := by rw [hW]; exact froz_new _ _ _ _
  have y6 : W.cell? ⟨w.heap.size, 6, .none⟩ = some (.int .i64 0) := by rw [hW, World.cell?_alloc_at _ _ _ _ rfl]; rfl
  have f6 : W.frozen? ⟨w.heap.size, 6, .none⟩ = false := by rw [hW]; exact froz_new _ _ _ _
  have y7 : W.cell? ⟨w.heap.size, 7, .none⟩ = some (.int .i64 0) := by rw [hW, World.cell?_alloc_at _ _ _ _ rfl]; rfl
  have f7 : W.frozen? ⟨w.heap.size, 7, .none⟩ = false := by rw [hW]; exact froz_new _ _ _ _
  have HT : Hid (W.there w.heap.size 0 8) := fun j hj => by
    rw [Nat.zero_add]
    refine ⟨?_, by rw [hW]; exact froz_new _ _ _ _⟩
    match j, hj with
    | 0, _ => rw [y0]; rfl
    | 1, _ => rw [y1]; rfl
    | 2, _ => rw [y2]; rfl
    | 3, _ => rw [y3]; rfl
    | 4, _ => rw [y4]; rfl
    | 5, _ => rw [y5]; rfl
    | 6, _ => rw [y6]; rfl
    | 7, _ => rw [y7]; rfl
  have c1 := get_no (u.below HB.out) k
  clear u hW
  go_enter Tryz.func7, Tryz.ntmps7
  go_upto_region 1 with fail
  rw [HW.out]
  clear HW
  go_wp2_with fail
  refine c1.mono ?_
  rintro _ X ⟨rfl, hX⟩
  obtain rfl : W = X := hX.symm
  go_wp2
  refine ret_cells (V := W) (z := w.heap.size) [.int .i64 0, .int .i64 0, .int .i64 0, .bool false, .bool false, .int .i64 0, .int .i64 0, .int .i64 0] rfl rfl HT.out (fun W h => run_loadVar_mid (P := Tryz.prog) W _ 0 33 _ _ h Tryz.underlying33 rfl (by kernel_rfl)) rfl ?_
  intro X hX
  exact ⟨rfl, HB.out.trans (hX.toBelow (Nat.le_refl _) HB.out.size)⟩

theorem ways_no {w : World} {q : Option Addr} (u : UnF w (.pointer q)) (k : Int) : Calls Tryz.prog 31 #[.pointer q, .int .i64 k] w fun e w' => e = .returned (.agg #[.nilFunc, .nilFunc, .nilFunc]) ∧ Below w.heap.size w w' := by
  obtain ⟨W, hW⟩ : ∃ W, W = w.alloc (.cells #[.nilFunc, .nilFunc, .nilFunc] 110) := ⟨_, rfl⟩
  have HW : Hid (w.alloc (.cells #[.nilFunc, .nilFunc, .nilFunc] 110) = W) := hW.symm
  have HB : Hid (Below w.heap.size w W) := by rw [hW]; exact (Below.refl _ _).alloc (Nat.le_refl _) _
  have y0 : W.cell? ⟨w.heap.size, 0, .none⟩ = some (.nilFunc) := by rw [hW, World.cell?_alloc_at _ _ _ _ rfl]; rfl
  have f0 : W.frozen? ⟨w.heap.size, 0, .none⟩ = false := by rw [hW]; exact froz_new _ _ _ _
  have y1 : W.cell? ⟨w.heap.size, 1, .none⟩ = some (.nilFunc) := by rw [hW, World.cell?_alloc_at _ _ _ _ rfl]; rfl
  have f1 : W.frozen? ⟨w.heap.size, 1, .none⟩ = false := by rw [hW]; exact froz_new _ _ _ _
  have y2 : W.cell? ⟨w.heap.size, 2, .none⟩ = some (.nilFunc) := by rw [hW, World.cell?_alloc_at _ _ _ _ rfl]; rfl
  have f2 : W.frozen? ⟨w.heap.size, 2, .none⟩ = false := by rw [hW]; exact froz_new _ _ _ _
  have HT : Hid (W.there w.heap.size 0 3) := fun j hj => by
    rw [Nat.zero_add]
    refine ⟨?_, by rw [hW]; exact froz_new _ _ _ _⟩
    match j, hj with
    | 0, _ => rw [y0]; rfl
    | 1, _ => rw [y1]; rfl
    | 2, _ => rw [y2]; rfl
  have c1 := get_no (u.below HB.out) k
  clear u hW
  go_enter Tryz.func31, Tryz.ntmps31
  go_upto_region 1 with fail
  rw [HW.out]
  clear HW
  go_wp2_with fail
  refine c1.mono ?_
  rintro _ X ⟨rfl, hX⟩
  obtain rfl : W = X := hX.symm
  go_wp2
  refine ret_cells (V := W) (z := w.heap.size) [.nilFunc, .nilFunc, .nilFunc] rfl rfl HT.out (fun W h => run_loadVar_mid (P := Tryz.prog) W _ 0 110 _ _ h Tryz.underlying110 rfl (by kernel_rfl)) rfl ?_
  intro X hX
  exact ⟨rfl, HB.out.trans (hX.toBelow (Nat.le_refl _) HB.out.size)⟩
end Go.Proofs.YthdlefbaegbldaaGreatDoor
