import Derived.Test.YthdlefbaegbldaaGreatDoorTj
namespace Go.Proofs.YthdlefbaegbldaaGreatDoor
open Go.RowKit Go.Shelf
set_option linter.unusedVariables false
set_option linter.unusedSimpArgs false
set_option maxRecDepth 100000
set_option maxHeartbeats 400000 in
theorem isConsole_any {w : World} {b : Nat} (h : Con w b [] []) (hd : Dd w) : Calls Tryz.prog 53 #[.pointer (some ⟨b, 0, .none⟩)] w fun e w' => e = .returned (.bool true) ∧ Con w' b [] [] ∧ Trn b w w' := by
  have cs := state_any h
  have hlt := h.lt
  have HC : Hid (Con w b [] [] ∧ Dd w ∧ b ≠ 0) := ⟨h, hd, hd.ne h⟩
  clear h hd
  go_enter Tryz.func53, Tryz.ntmps53
  go_wp2_with fail
  refine cs.mono ?_
  rintro _ W ⟨p, c, q, d, X, rfl, _, _, _, _, hW⟩
  simp only [List.length_nil]
  have hb : Below w.heap.size w (W.alloc (.cells #[.slice p 0 c, .slice q 0 d] 163)) := hW.alloc hW.size _
  have HV : Hid (Con (W.alloc (.cells #[.slice p 0 c, .slice q 0 d] 163)) b [] [] ∧ Dd (W.alloc (.cells #[.slice p 0 c, .slice q 0 d] 163)) ∧ Below w.heap.size w (W.alloc (.cells #[.slice p 0 c, .slice q 0 d] 163))) := ⟨HC.out.1.below hb, HC.out.2.1.below hb, hb⟩
  have x0 : (W.alloc (.cells #[.slice p 0 c, .slice q 0 d] 163)).cell? ⟨W.heap.size, 0, .none⟩ = some (.slice p 0 c) := by rw [World.cell?_alloc_at _ _ _ _ rfl]; rfl
  have x1 : (W.alloc (.cells #[.slice p 0 c, .slice q 0 d] 163)).cell? ⟨W.heap.size, 1, .none⟩ = some (.slice q 0 d) := by rw [World.cell?_alloc_at _ _ _ _ rfl]; rfl
  clear cs hb hW
  go_upto_region 2 with fail
  generalize W.alloc (.cells #[.slice p 0 c, .slice q 0 d] 163) = V at *
  generalize W.heap.size = z at *
  have ct := type_any HV.out.1 HV.out.2.1 32 (by omega)
  go_wp2_with fail
  refine ct.mono ?_
  rintro _ U ⟨p1, c1, rfl, _, hCU, hU⟩
  have eE : tyE [] [] 32 = [32] := by decide
  have eL : tyL [] [] 32 = [32] := by decide
  have eR : tyR [] [] 32 = [] := by decide
  rw [eL, eR] at hCU
  rw [eE]
  have HU : Hid (Con U b [] [32] ∧ Dd U ∧ Trn b w U) := ⟨hCU, HV.out.2.1.keep (Chg.ofTrn hU) (fun e => HC.out.2.2 e.symm), (Trn.ofBelow HV.out.2.2).trans hU⟩
  clear ct hCU hU eE eL eR x0 x1
  have ct2 := type_any HU.out.1 HU.out.2.1 8 (by omega)
  go_wp2_with fail
  refine ct2.mono ?_
  rintro _ Y ⟨p2, c2, rfl, _, hCY, hY⟩
  have eL : tyL [] [32] 8 = [] := by decide
  have eR : tyR [] [32] 8 = [] := by decide
  rw [eL, eR] at hCY
  have HY : Hid (Con Y b [] [] ∧ Trn b w Y) := ⟨hCY, HU.out.2.2.trans hY⟩
  clear ct2 hCY hY eL eR
  simp only [List.length_cons, List.length_nil]
  go_wp2
  go_ret
  exact ⟨rfl, HY.out.1, HY.out.2⟩

theorem mkF (W : World) : (Instr.makeSlice 59 (.int .i64 100) (.int .i64 100)).run Tryz.prog W = .ok (.slice (some ⟨W.heap.size, 0, .none⟩) 100 100) (W.alloc (.cells (List.replicate 100 (Value.pointer none)).toArray 104)) := by kernel_rfl
theorem tabF_new (W : World) : Tab (W.alloc (.cells (List.replicate 100 (Value.pointer none)).toArray 104)) W.heap.size 100 (fun _ => none) :=
  ⟨fun i hi => by
    rw [World.cell?_alloc_at _ _ _ _ rfl]
    simp only [List.getElem?_toArray]
    rw [List.getElem?_replicate, if_pos hi]
    rfl, fun i hi => froz_new _ _ _ _⟩
set_option maxHeartbeats 400000 in
theorem newTabF (w : World) : Calls Tryz.prog 54 #[.int .i64 100] w fun e w' => ∃ g, w.heap.size ≤ g ∧ e = .returned (.agg #[.slice (some ⟨g, 0, .none⟩) 100 100]) ∧ Tab w' g 100 (fun _ => none) ∧ Below w.heap.size w w' := by
  have hm := mkF
  have HT := fun W => tabF_new W
  obtain ⟨CC, hC⟩ : ∃ CC, CC = (List.replicate 100 (Value.pointer none)).toArray := ⟨_, rfl⟩
  rw [← hC] at hm
  have HTT : Hid (∀ W : World, Tab (W.alloc (.cells CC 104)) W.heap.size 100 (fun _ => none)) := by show ∀ W : World, _; rw [hC]; exact HT
  clear hC HT
  obtain ⟨W, hW⟩ : ∃ W, W = w.alloc (.cells #[.slice none 0 0] 61) := ⟨_, rfl⟩
  have HW : Hid (w.alloc (.cells #[.slice none 0 0] 61) = W) := hW.symm
  have HB : Hid (Below w.heap.size w W ∧ W.heap.size = w.heap.size + 1) := by rw [hW]; exact ⟨(Below.refl _ _).alloc (Nat.le_refl _) _, by simp⟩
  have y0 : W.cell? ⟨w.heap.size, 0, .none⟩ = some (.slice none 0 0) := by rw [hW, World.cell?_alloc_at _ _ _ _ rfl]; rfl
  have f0 : W.frozen? ⟨w.heap.size, 0, .none⟩ = false := by rw [hW]; exact froz_new _ _ _ _
  clear hW
  go_enter Tryz.func54, Tryz.ntmps54
  go_upto_region 1 with fail
  rw [HW.out]
  clear HW
  have hlt : w.heap.size < W.heap.size := by have := HB.out.2; omega
  have z0 : (W.alloc (.cells CC 104)).cell? ⟨w.heap.size, 0, .none⟩ = some (.slice none 0 0) := by rw [World.cell?_alloc_past _ _ _ hlt]; exact y0
  have g0 : (W.alloc (.cells CC 104)).frozen? ⟨w.heap.size, 0, .none⟩ = false := by rw [World.frozen?_alloc_past _ _ _ hlt]; exact f0
  have HA : Hid (Tab (W.alloc (.cells CC 104)) W.heap.size 100 (fun _ => none) ∧ Below w.heap.size w (W.alloc (.cells CC 104))) := ⟨HTT.out W, HB.out.1.alloc HB.out.1.size _⟩
  have hm1 := hm W
  clear hm y0 f0
  generalize W.alloc (.cells CC 104) = V at *
  go_wp2
  refine ret_cells (V := V) (z := w.heap.size) [.slice (some ⟨W.heap.size, 0, .none⟩) 100 100] rfl rfl (fun j hj => by
    obtain rfl : j = 0 := by simpa using hj
    exact ⟨by rw [z0]; rfl, g0⟩) (fun W h => run_loadVar_mid (P := Tryz.prog) W _ 0 61 _ _ h Tryz.underlying61 rfl (by kernel_rfl)) rfl ?_
  intro X hX
  exact ⟨W.heap.size, HB.out.1.size, rfl, HA.out.1.keep (hX.block _ (HA.out.1.lt (by omega)) (by omega)), HA.out.2.trans (hX.toBelow (Nat.le_refl _) HA.out.2.size)⟩

theorem mkP (W : World) : (Instr.makeSlice 62 (.int .i64 32) (.int .i64 32)).run Tryz.prog W = .ok (.slice (some ⟨W.heap.size, 0, .none⟩) 32 32) (W.alloc (.cells (List.replicate 32 (Value.pointer none)).toArray 101)) := by kernel_rfl
theorem tabP_new (W : World) : Tab (W.alloc (.cells (List.replicate 32 (Value.pointer none)).toArray 101)) W.heap.size 32 (fun _ => none) :=
  ⟨fun i hi => by
    rw [World.cell?_alloc_at _ _ _ _ rfl]
    simp only [List.getElem?_toArray]
    rw [List.getElem?_replicate, if_pos hi]
    rfl, fun i hi => froz_new _ _ _ _⟩
set_option maxHeartbeats 400000 in
theorem newTabP (w : World) : Calls Tryz.prog 55 #[.int .i64 32] w fun e w' => ∃ g, w.heap.size ≤ g ∧ e = .returned (.agg #[.slice (some ⟨g, 0, .none⟩) 32 32]) ∧ Tab w' g 32 (fun _ => none) ∧ Below w.heap.size w w' := by
  have hm := mkP
  have HT := fun W => tabP_new W
  obtain ⟨CC, hC⟩ : ∃ CC, CC = (List.replicate 32 (Value.pointer none)).toArray := ⟨_, rfl⟩
  rw [← hC] at hm
  have HTT : Hid (∀ W : World, Tab (W.alloc (.cells CC 101)) W.heap.size 32 (fun _ => none)) := by show ∀ W : World, _; rw [hC]; exact HT
  clear hC HT
  obtain ⟨W, hW⟩ : ∃ W, W = w.alloc (.cells #[.slice none 0 0] 64) := ⟨_, rfl⟩
  have HW : Hid (w.alloc (.cells #[.slice none 0 0] 64) = W) := hW.symm
  have HB : Hid (Below w.heap.size w W ∧ W.heap.size = w.heap.size + 1) := by rw [hW]; exact ⟨(Below.refl _ _).alloc (Nat.le_refl _) _, by simp⟩
  have y0 : W.cell? ⟨w.heap.size, 0, .none⟩ = some (.slice none 0 0) := by rw [hW, World.cell?_alloc_at _ _ _ _ rfl]; rfl
  have f0 : W.frozen? ⟨w.heap.size, 0, .none⟩ = false := by rw [hW]; exact froz_new _ _ _ _
  clear hW
  go_enter Tryz.func55, Tryz.ntmps55
  go_upto_region 1 with fail
  rw [HW.out]
  clear HW
  have hlt : w.heap.size < W.heap.size := by have := HB.out.2; omega
  have z0 : (W.alloc (.cells CC 101)).cell? ⟨w.heap.size, 0, .none⟩ = some (.slice none 0 0) := by rw [World.cell?_alloc_past _ _ _ hlt]; exact y0
  have g0 : (W.alloc (.cells CC 101)).frozen? ⟨w.heap.size, 0, .none⟩ = false := by rw [World.frozen?_alloc_past _ _ _ hlt]; exact f0
  have HA : Hid (Tab (W.alloc (.cells CC 101)) W.heap.size 32 (fun _ => none) ∧ Below w.heap.size w (W.alloc (.cells CC 101))) := ⟨HTT.out W, HB.out.1.alloc HB.out.1.size _⟩
  have hm1 := hm W
  clear hm y0 f0
  generalize W.alloc (.cells CC 101) = V at *
  go_wp2
  refine ret_cells (V := V) (z := w.heap.size) [.slice (some ⟨W.heap.size, 0, .none⟩) 32 32] rfl rfl (fun j hj => by
    obtain rfl : j = 0 := by simpa using hj
    exact ⟨by rw [z0]; rfl, g0⟩) (fun W h => run_loadVar_mid (P := Tryz.prog) W _ 0 64 _ _ h Tryz.underlying64 rfl (by kernel_rfl)) rfl ?_
  intro X hX
  exact ⟨W.heap.size, HB.out.1.size, rfl, HA.out.1.keep (hX.block _ (HA.out.1.lt (by omega)) (by omega)), HA.out.2.trans (hX.toBelow (Nat.le_refl _) HA.out.2.size)⟩
end Go.Proofs.YthdlefbaegbldaaGreatDoor
