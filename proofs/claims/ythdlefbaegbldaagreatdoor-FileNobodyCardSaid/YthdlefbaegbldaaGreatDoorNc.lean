import Derived.Test.YthdlefbaegbldaaGreatDoorNb
namespace Go.Proofs.YthdlefbaegbldaaGreatDoor
open Go.RowKit Go.Shelf
set_option linter.unusedVariables false
set_option linter.unusedSimpArgs false
set_option maxRecDepth 100000
theorem isMadeC_nil (w : World) : Calls Tryz.prog 92 #[.pointer none] w fun e w' => e = .returned (.bool false) ∧ w' = w := by
  go_enter Tryz.func92, Tryz.ntmps92
  go_wp2
  go_ret
  exact ⟨rfl, rfl⟩
theorem stateC_nil (w : World) : Calls Tryz.prog 74 #[.pointer none] w fun e w' => e = .returned (.agg #[.slice none 0 0, .slice none 0 0]) ∧ Below w.heap.size w w' := by
  obtain ⟨W, hW⟩ : ∃ W, W = w.alloc (.cells #[.slice none 0 0, .slice none 0 0] 163) := ⟨_, rfl⟩
  have HW : Hid (w.alloc (.cells #[.slice none 0 0, .slice none 0 0] 163) = W) := hW.symm
  have HB : Hid (Below w.heap.size w W) := by rw [hW]; exact (Below.refl _ _).alloc (Nat.le_refl _) _
  have y0 : W.cell? ⟨w.heap.size, 0, .none⟩ = some (.slice none 0 0) := by rw [hW, World.cell?_alloc_at _ _ _ _ rfl]; rfl
  have y1 : W.cell? ⟨w.heap.size, 1, .none⟩ = some (.slice none 0 0) := by rw [hW, World.cell?_alloc_at _ _ _ _ rfl]; rfl
  have f0 : W.frozen? ⟨w.heap.size, 0, .none⟩ = false := by rw [hW]; exact froz_new _ _ _ _
  have f1 : W.frozen? ⟨w.heap.size, 1, .none⟩ = false := by rw [hW]; exact froz_new _ _ _ _
  have HT : Hid (W.there w.heap.size 0 2) := fun j hj => by
    rw [Nat.zero_add]
    refine ⟨?_, by rw [hW]; exact froz_new _ _ _ _⟩
    match j, hj with
    | 0, _ => rw [y0]; rfl
    | 1, _ => rw [y1]; rfl
  clear hW
  go_enter Tryz.func74, Tryz.ntmps74
  go_upto_region 1 with fail
  rw [HW.out]
  clear HW
  go_wp2_with fail
  refine (isMadeC_nil W).mono ?_
  rintro _ X ⟨rfl, hX⟩
  obtain rfl : W = X := hX.symm
  go_wp2
  refine ret_cells (V := W) (z := w.heap.size) [.slice none 0 0, .slice none 0 0] rfl rfl HT.out (fun V h => run_loadVar_mid (P := Tryz.prog) V _ 0 163 _ _ h Tryz.underlying163 rfl (by kernel_rfl)) rfl ?_
  intro X hX
  exact ⟨rfl, HB.out.trans (hX.toBelow (Nat.le_refl _) HB.out.size)⟩
theorem typeC_nil (w : World) (x : Int) : Calls Tryz.prog 75 #[.pointer none, .int .u8 x] w fun e w' => e = .returned (.tuple #[.slice none 0 0, .bool false]) ∧ w' = w := by
  go_enter Tryz.func75, Tryz.ntmps75
  go_wp2_with fail
  refine (isMadeC_nil w).mono ?_
  rintro _ X ⟨rfl, hX⟩
  obtain rfl : w = X := hX.symm
  go_wp2
  go_ret2
  exact ⟨rfl, rfl⟩
theorem isConsole_nil (w : World) : Calls Tryz.prog 53 #[.pointer none] w fun e w' => e = .returned (.bool false) ∧ Below w.heap.size w w' := by
  go_enter Tryz.func53, Tryz.ntmps53
  go_wp2_with fail
  refine (stateC_nil w).mono ?_
  rintro _ W ⟨rfl, hW⟩
  have HV : Hid (Below w.heap.size w (W.alloc (.cells #[.slice none 0 0, .slice none 0 0] 163))) := hW.alloc hW.size _
  have x0 : (W.alloc (.cells #[.slice none 0 0, .slice none 0 0] 163)).cell? ⟨W.heap.size, 0, .none⟩ = some (.slice none 0 0) := by rw [World.cell?_alloc_at _ _ _ _ rfl]; rfl
  have x1 : (W.alloc (.cells #[.slice none 0 0, .slice none 0 0] 163)).cell? ⟨W.heap.size, 1, .none⟩ = some (.slice none 0 0) := by rw [World.cell?_alloc_at _ _ _ _ rfl]; rfl
  clear hW
  go_upto_region 2 with fail
  generalize W.alloc (.cells #[.slice none 0 0, .slice none 0 0] 163) = V at *
  generalize W.heap.size = z at *
  go_wp2_with fail
  refine (typeC_nil V 32).mono ?_
  rintro _ X ⟨rfl, hX⟩
  obtain rfl : V = X := hX.symm
  go_wp2_with fail
  refine (typeC_nil V 8).mono ?_
  rintro _ X ⟨rfl, hX⟩
  obtain rfl : V = X := hX.symm
  go_wp2
  go_ret
  exact ⟨rfl, HV.out⟩
/-- A tree that no call made. -/
def UnT (w : World) (v : Value) : Prop := v = .pointer none ∨ ∃ s, v = .pointer (some ⟨s, 0, .none⟩) ∧ s < w.heap.size ∧ w.cell? ⟨s, 0, .none⟩ = some (.pointer none)
theorem getT_no {w : World} {q : Option Addr} (u : UnT w (.pointer q)) (k : Int) : Calls Tryz.prog 59 #[.pointer q, .int .i64 k] w fun e w' => e = .returned (.tuple #[.pointer none, .int .i64 3]) ∧ w' = w := by
  rcases u with h | ⟨s, h, _, c0⟩
  · injection h with h
    subst h
    go_enter Tryz.func59, Tryz.ntmps59
    go_wp2
    go_ret2
    exact ⟨rfl, rfl⟩
  · injection h with h
    subst h
    go_enter Tryz.func59, Tryz.ntmps59
    go_wp2
    go_ret2
    exact ⟨rfl, rfl⟩
theorem UnT.below {w w' : World} {v : Value} (h : UnT w v) (hb : Below w.heap.size w w') : UnT w' v := by
  rcases h with h | ⟨s, h1, h2, h3⟩
  · exact .inl h
  · exact .inr ⟨s, h1, Nat.lt_of_lt_of_le h2 hb.size, (hb.cell (p := ⟨s, 0, .none⟩) h2).trans h3⟩

theorem statT_no {w : World} {q : Option Addr} (u : UnT w (.pointer q)) (k : Int) : Calls Tryz.prog 38 #[.pointer q, .int .i64 k] w fun e w' => e = .returned (.agg #[.int .i32 0, .int .u32 0, .int .i16 0, .int .i16 0, .int .u64 0]) ∧ Below w.heap.size w w' := by
  obtain ⟨W, hW⟩ : ∃ W, W = w.alloc (.cells #[.int .i32 0, .int .u32 0, .int .i16 0, .int .i16 0, .int .u64 0] 73) := ⟨_, rfl⟩
  have HW : Hid (w.alloc (.cells #[.int .i32 0, .int .u32 0, .int .i16 0, .int .i16 0, .int .u64 0] 73) = W) := hW.symm
  have HB : Hid (Below w.heap.size w W) := by rw [hW]; exact (Below.refl _ _).alloc (Nat.le_refl _) _
  have y0 : W.cell? ⟨w.heap.size, 0, .none⟩ = some (.int .i32 0) := by rw [hW, World.cell?_alloc_at _ _ _ _ rfl]; rfl
  have f0 : W.frozen? ⟨w.heap.size, 0, .none⟩ = false := by rw [hW]; exact froz_new _ _ _ _
  have y1 : W.cell? ⟨w.heap.size, 1, .none⟩ = some (.int .u32 0) := by rw [hW, World.cell?_alloc_at _ _ _ _ rfl]; rfl
  have f1 : W.frozen? ⟨w.heap.size, 1, .none⟩ = false := by rw [hW]; exact froz_new _ _ _ _
  have y2 : W.cell? ⟨w.heap.size, 2, .none⟩ = some (.int .i16 0) := by rw [hW, World.cell?_alloc_at _ _ _ _ rfl]; rfl
  have f2 : W.frozen? ⟨w.heap.size, 2, .none⟩ = false := by rw [hW]; exact froz_new _ _ _ _
  have y3 : W.cell? ⟨w.heap.size, 3, .none⟩ = some (.int .i16 0) := by rw [hW, World.cell?_alloc_at _ _ _ _ rfl]; rfl
  have f3 : W.frozen? ⟨w.heap.size, 3, .none⟩ = false := by rw [hW]; exact froz_new _ _ _ _
  have y4 : W.cell? ⟨w.heap.size, 4, .none⟩ = some (.int .u64 0) := by rw [hW, World.cell?_alloc_at _ _ _ _ rfl]; rfl
  have f4 : W.frozen? ⟨w.heap.size, 4, .none⟩ = false := by rw [hW]; exact froz_new _ _ _ _
  have HT : Hid (W.there w.heap.size 0 5) := fun j hj => by
    rw [Nat.zero_add]
    refine ⟨?_, by rw [hW]; exact froz_new _ _ _ _⟩
    match j, hj with
    | 0, _ => rw [y0]; rfl
    | 1, _ => rw [y1]; rfl
    | 2, _ => rw [y2]; rfl
    | 3, _ => rw [y3]; rfl
    | 4, _ => rw [y4]; rfl
  have c1 := getT_no (u.below HB.out) k
  clear u hW
  go_enter Tryz.func38, Tryz.ntmps38
  go_upto_region 1 with fail
  rw [HW.out]
  clear HW
  go_wp2_with fail
  refine c1.mono ?_
  rintro _ X ⟨rfl, hX⟩
  obtain rfl : W = X := hX.symm
  go_wp2
  refine ret_cells (V := W) (z := w.heap.size) [.int .i32 0, .int .u32 0, .int .i16 0, .int .i16 0, .int .u64 0] rfl rfl HT.out (fun W h => run_loadVar_mid (P := Tryz.prog) W _ 0 73 _ _ h Tryz.underlying73 rfl (by kernel_rfl)) rfl ?_
  intro X hX
  exact ⟨rfl, HB.out.trans (hX.toBelow (Nat.le_refl _) HB.out.size)⟩

theorem ne_st0 (w : World) : (binOp .neq 73 (.agg #[.int .i32 0, .int .u32 0, .int .i16 0, .int .i16 0, .int .u64 0]) (.agg #[.int .i32 0, .int .u32 0, .int .i16 0, .int .i16 0, .int .u64 0])).run Tryz.prog w = .ok (.bool false) w := by kernel_rfl
theorem isTree_no {w : World} {q : Option Addr} (u : UnT w (.pointer q)) : Calls Tryz.prog 52 #[.pointer q] w fun e w' => e = .returned (.bool false) ∧ Below w.heap.size w w' := by
  have cs := statT_no u 1
  have hne := ne_st0
  clear u
  go_enter Tryz.func52, Tryz.ntmps52
  go_wp2_with fail
  refine cs.mono ?_
  rintro _ X ⟨rfl, hX⟩
  have HX : Hid (Below w.heap.size w X) := hX
  clear hX cs
  go_wp2
  go_ret
  exact ⟨rfl, HX.out⟩
theorem newF_unT {w : World} {q c : Option Addr} (u : UnT w (.pointer q)) : Calls Tryz.prog 24 #[.pointer q, .pointer c] w fun e w' => e = .returned (.pointer none) ∧ Below w.heap.size w w' := by
  have cs := isTree_no u
  clear u
  go_enter Tryz.func24, Tryz.ntmps24
  go_wp2_with fail
  refine cs.mono ?_
  rintro _ X ⟨rfl, hX⟩
  have HX : Hid (Below w.heap.size w X) := hX
  clear hX cs
  go_wp2
  go_ret
  exact ⟨rfl, HX.out⟩
theorem newF_nilC {w : World} {tb p : Nat} {fr : List Nat} (h : Ind w tb 71 1 0 0 1 0 32 fr) (hc : w.cell? ⟨tb, 0, .none⟩ = some (.pointer (some ⟨p, 0, .none⟩))) : Calls Tryz.prog 24 #[.pointer (some ⟨tb, 0, .none⟩), .pointer none] w fun e w' => e = .returned (.pointer none) ∧ Below w.heap.size w w' := by
  have cs := isTree_any h hc
  clear h hc
  go_enter Tryz.func24, Tryz.ntmps24
  go_wp2_with fail
  refine cs.mono ?_
  rintro _ X ⟨rfl, hX⟩
  have HX : Hid (Below w.heap.size w X) := hX
  clear hX cs
  go_wp2_with fail
  refine (isConsole_nil X).mono ?_
  rintro _ Y ⟨rfl, hY⟩
  have HY : Hid (Below w.heap.size w Y) := HX.out.trans (hY.mono HX.out.size)
  clear hY
  go_wp2
  go_ret
  exact ⟨rfl, HY.out⟩
end Go.Proofs.YthdlefbaegbldaaGreatDoor
