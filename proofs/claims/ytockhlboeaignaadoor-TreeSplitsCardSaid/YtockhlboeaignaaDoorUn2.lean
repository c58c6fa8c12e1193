import Derived.Test.YtockhlboeaignaaDoorUn1
namespace Go.Proofs.YtockhlboeaignaaDoor
open Go.RowKit
set_option linter.unusedVariables false
set_option linter.unusedSimpArgs false
set_option maxRecDepth 10000
theorem bytesOf_u8 (l : Bs) : Lib.bytesOf (l.map fun b => ((b.toNat : Nat) : Int)) = l := by
  unfold Lib.bytesOf
  rw [List.map_map]
  conv => rhs; rw [← List.map_id l]
  apply List.map_congr_left
  intro b _
  simp
theorem idx39_any {w : World} {g o n c : Nat} {l : Bs} (h : Bts w g o l) (hl : l.length = n) : Calls Tryd.prog 32 #[.slice (some ⟨g, o, .none⟩) n c, .int .u8 0] w fun e w' => e = .returned (.int .i64 (ix l 0)) ∧ w' = w := by
  have hx : (l.map fun b => ((b.toNat : Nat) : Int)).length = n := by rw [List.length_map]; exact hl
  have hr := Lib.run_indexByteSlice (P := Tryd.prog) (w := w) g o n c (l.map fun b => ((b.toNat : Nat) : Int)) hx (fun i hi => by
    have hi' : i < l.length := by omega
    rw [h i l[i] (List.getElem?_eq_getElem hi')]
    simp [u8v, List.getD_eq_getElem?_getD, List.getElem?_eq_getElem hi']) 0
  rw [bytesOf_u8] at hr
  have HR : Hid ((Extern.BytealgIndexByte.indexByte #[.slice (some ⟨g, o, .none⟩) n c, .int .u8 0]).run Tryd.prog w = .ok (.int .i64 (ix l 0)) w) := hr
  clear hr hx
  go_enter Tryd.func32, Tryd.ntmps32
  go_wp2
  rw [run_callFunc_extern Tryd.func39 (by kernel_rfl) (by kernel_rfl) (by kernel_rfl) (e := Extern.BytealgIndexByte.indexByte) (by kernel_rfl), HR.out]
  simp only [Result.andThen]
  rw [Oper.upon_value]
  go_wp2
  go_ret
  exact ⟨rfl, rfl⟩
theorem index29_any {w : World} {g o n c s : Nat} {l : Bs} (h : Bts w g o l) (hl : l.length = n) (hn : n < 1000000) (hs : w.cell? ⟨s, 0, .none⟩ = some (.int .u8 0)) : Calls Tryd.prog 29 #[.slice (some ⟨g, o, .none⟩) n c, .slice (some ⟨s, 0, .none⟩) 1 1] w fun e w' => e = .returned (.int .i64 (ix l 0)) ∧ w' = w := by
  have c1 := idx39_any (c := c) h hl
  clear h hl
  go_enter Tryd.func29, Tryd.ntmps29
  go_wp2_with (go_at_call 32; refine c1.mono ?_; rintro _ _ ⟨rfl, rfl⟩)
  go_ret
  exact ⟨rfl, rfl⟩
/-- The bytes ahead of the first 0. -/
def upz (l : Bs) : Bs := if ix l 0 = -1 then l else l.take (ix l 0).toNat
theorem cut_cases (l : Bs) : (ix l 0 = -1 ∧ upz l = l) ∨ ∃ k : Nat, ix l 0 = k ∧ k < l.length ∧ upz l = l.take k := by
  rcases ix_cases l 0 with e | ⟨k, e, hk⟩
  · exact .inl ⟨e, if_pos e⟩
  · exact .inr ⟨k, e, hk, by rw [upz, if_neg (by omega), e]; rfl⟩
def CutP (g o c m : Nat) (w : World) (e : Ending) (w' : World) : Prop := (∃ u b, e = .returned (.tuple #[.slice (some ⟨g, o, .none⟩) m c, u, .bool b])) ∧ Below w.heap.size w w'
set_option maxHeartbeats 1000000 in
/-- bytes.Cut at a byte 0: what lies ahead of it. -/
theorem cut24_any {w : World} {g o n c s : Nat} {l : Bs} (h : Bts w g o l) (hl : l.length = n) (hn : n < 1000000) (hnc : n ≤ c ∧ c < 1000000) (hs : w.cell? ⟨s, 0, .none⟩ = some (.int .u8 0)) :
    Calls Tryd.prog 24 #[.slice (some ⟨g, o, .none⟩) n c, .slice (some ⟨s, 0, .none⟩) 1 1] w (CutP g o c (upz l).length w) := by
  have c1 := index29_any (c := c) h hl hn hs
  rcases cut_cases l with ⟨e, eu⟩ | ⟨k, e, hk, eu⟩
  · rw [e] at c1
    rw [show (upz l).length = n by rw [eu]; exact hl]
    clear h hl
    go_enter Tryd.func24, Tryd.ntmps24
    go_wp2_with (go_at_call 29; refine c1.mono ?_; rintro _ X ⟨rfl, hX⟩; obtain rfl : w = X := hX.symm)
    go_ret3
    exact ⟨⟨_, _, rfl⟩, Below.refl _ _⟩
  · rw [e] at c1
    rw [show (upz l).length = k by rw [eu, List.length_take]; exact Nat.min_eq_left (by omega)]
    have k1 : (0 : Int) ≤ k := by omega
    have k2 : (k : Int) ≤ c := by omega
    have k3 : (k : Int) + 1 ≤ n := by omega
    have k4 : (n : Int) ≤ c := by omega
    clear h hl
    go_enter Tryd.func24, Tryd.ntmps24
    go_upto_region 3 with (go_at_call 29; refine c1.mono ?_; rintro _ X ⟨rfl, hX⟩; obtain rfl : w = X := hX.symm)
    go_region
    go_wp2
    all_goals go_ret3
    all_goals exact ⟨⟨_, _, rfl⟩, (Below.refl _ _).drew⟩
theorem bts_lib {w : World} {g o : Nat} {l : Bs} (h : Bts w g o l) : Lib.Bytes w g o ⟨l.toArray⟩ := fun i hi => by
  have hi' : i < l.length := by simpa [ByteArray.size] using hi
  exact h i l[i] (List.getElem?_eq_getElem hi')
/-- string(b[:k]). -/
theorem conv_any {w : World} {g o k c : Nat} {l : Bs} (h : Bts w g o l) (hk : k ≤ l.length) : (convert 24 9 (.slice (some ⟨g, o, .none⟩) k c)).run Tryd.prog w = .ok (.string ⟨(l.take k).toArray⟩) w := by
  have := Lib.run_convert_window (P := Tryd.prog) w 24 5 9 Tryd.underlying24 Tryd.underlying5 Tryd.underlying9 g o ⟨l.toArray⟩ (bts_lib h) 0 k c (by simp [ByteArray.size]; exact hk)
  rw [Nat.add_zero, Nat.zero_add, ext_take] at this
  exact this
theorem bts_ent {w : World} {b : Nat} {z : Int} {l : Bs} (h : w.rangeAt b 0 (ent z l)) : Bts w b 1 l := fun i x hx => by
  have := h (i + 1) (u8v x) (by simp [ent, u8s, hx])
  rwa [Nat.zero_add, Nat.add_comm] at this
theorem upz_le (l : Bs) : (upz l).length ≤ l.length := by
  rcases cut_cases l with ⟨_, e⟩ | ⟨k, _, hk, e⟩
  · rw [e]; exact Nat.le_refl _
  · rw [e, List.length_take]; omega
theorem upz_take (l : Bs) : l.take (upz l).length = upz l := by
  rcases cut_cases l with ⟨_, e⟩ | ⟨k, _, hk, e⟩
  · rw [e, List.take_length]
  · rw [e, List.length_take, Nat.min_eq_left (by omega)]
set_option maxHeartbeats 1000000 in
theorem plain_any (z : Int) (l : Bs) (w : World) (hl : l.length = 14) : Calls Tryd.prog 19 #[.agg (ent z l).toArray] w fun e w' => e = .returned (.agg #[.int .i64 z, .string ⟨(upz l).toArray⟩]) ∧ Below w.heap.size w w' := by
  have HL : Hid (l.length = 14) := hl
  clear hl
  go_enter Tryd.func19, Tryd.ntmps19
  go_upto_region 1 with fail
  have hb : Below w.heap.size w ((w.alloc (.cells (ent z l).toArray 46)).alloc (.cells #[.int .i64 0, .string ⟨#[]⟩] 23)) := (below_past w _).alloc (by simp) _
  have hr : ((w.alloc (.cells (ent z l).toArray 46)).alloc (.cells #[.int .i64 0, .string ⟨#[]⟩] 23)).rangeAt w.heap.size 0 (ent z l) := fun j v hv => by
    rw [Nat.zero_add, World.cell?_alloc_past _ _ _ (by simp)]
    have := range_new w (ent z l) 46 j v hv
    rwa [Nat.zero_add] at this
  have d0 : ((w.alloc (.cells (ent z l).toArray 46)).alloc (.cells #[.int .i64 0, .string ⟨#[]⟩] 23)).cell? ⟨w.heap.size + 1, 0, .none⟩ = some (.int .i64 0) := by
    rw [World.cell?_alloc_at _ _ _ _ (by simp)]; rfl
  have d1 : ((w.alloc (.cells (ent z l).toArray 46)).alloc (.cells #[.int .i64 0, .string ⟨#[]⟩] 23)).cell? ⟨w.heap.size + 1, 1, .none⟩ = some (.string ⟨#[]⟩) := by
    rw [World.cell?_alloc_at _ _ _ _ (by simp)]; rfl
  have f0 : ((w.alloc (.cells (ent z l).toArray 46)).alloc (.cells #[.int .i64 0, .string ⟨#[]⟩] 23)).frozen? ⟨w.heap.size + 1, 0, .none⟩ = false := by
    rw [World.frozen?_alloc_at _ _ _ _ (by simp)]
  have f1 : ((w.alloc (.cells (ent z l).toArray 46)).alloc (.cells #[.int .i64 0, .string ⟨#[]⟩] 23)).frozen? ⟨w.heap.size + 1, 1, .none⟩ = false := by
    rw [World.frozen?_alloc_at _ _ _ _ (by simp)]
  have hz : ((w.alloc (.cells (ent z l).toArray 46)).alloc (.cells #[.int .i64 0, .string ⟨#[]⟩] 23)).heap.size = w.heap.size + 1 + 1 := by simp
  have hV1 : w.heap.size + 1 < ((w.alloc (.cells (ent z l).toArray 46)).alloc (.cells #[.int .i64 0, .string ⟨#[]⟩] 23)).heap.size := by omega
  have hS : (((w.alloc (.cells (ent z l).toArray 46)).alloc (.cells #[.int .i64 0, .string ⟨#[]⟩] 23)).alloc (.cells #[.int .u8 0] 5)).cell? ⟨((w.alloc (.cells (ent z l).toArray 46)).alloc (.cells #[.int .i64 0, .string ⟨#[]⟩] 23)).heap.size, 0, .none⟩ = some (.int .u8 0) := by
    rw [World.cell?_alloc_at _ _ _ _ rfl]; rfl
  have hbs := below_past ((w.alloc (.cells (ent z l).toArray 46)).alloc (.cells #[.int .i64 0, .string ⟨#[]⟩] 23)) (.cells #[.int .u8 0] 5)
  have c24 := cut24_any (g := w.heap.size) (o := 1) (n := 14) (c := 14) ((bts_ent hr).below hbs (by omega)) HL.out (by omega) ⟨by omega, by omega⟩ hS
  have HV : Hid (Below w.heap.size w ((w.alloc (.cells (ent z l).toArray 46)).alloc (.cells #[.int .i64 0, .string ⟨#[]⟩] 23)) ∧ ((w.alloc (.cells (ent z l).toArray 46)).alloc (.cells #[.int .i64 0, .string ⟨#[]⟩] 23)).rangeAt w.heap.size 0 (ent z l)) := ⟨hb, hr⟩
  clear hb hr hz
  generalize ((w.alloc (.cells (ent z l).toArray 46)).alloc (.cells #[.int .i64 0, .string ⟨#[]⟩] 23)) = V at *
  clear hS
  go_wp2_with fail
  go_at_call 24
  refine c24.mono ?_
  rintro e X ⟨⟨u, b, rfl⟩, hX⟩
  have hVX := hbs.trans (hX.mono hbs.size)
  have a0 := (hVX.cell (p := ⟨w.heap.size, 0, .none⟩) (by show w.heap.size < _; omega)).trans (HV.out.2 0 (.int .i64 z) rfl)
  have a1 := (hVX.cell (p := ⟨w.heap.size + 1, 0, .none⟩) hV1).trans d0
  have a2 := (hVX.cell (p := ⟨w.heap.size + 1, 1, .none⟩) hV1).trans d1
  have g0 := (hVX.frozen (p := ⟨w.heap.size + 1, 0, .none⟩) hV1).trans f0
  have g1 := (hVX.frozen (p := ⟨w.heap.size + 1, 1, .none⟩) hV1).trans f1
  have hcv := conv_any (k := (upz l).length) (c := 14) ((bts_ent HV.out.2).below hVX (by omega)) (upz_le l)
  rw [upz_take] at hcv
  have HX : Hid (Below w.heap.size w X) := HV.out.1.trans (hVX.mono (by omega))
  clear c24 hbs hX hVX d0 d1 f0 f1 HV
  go_wp2
  have hr9 : ((X.setCell ⟨w.heap.size + 1, 0, .none⟩ (.int .i64 z)).setCell ⟨w.heap.size + 1, 1, .none⟩ (.string ⟨(upz l).toArray⟩)).rangeAt (w.heap.size + 1) 0 [.int .i64 z, .string ⟨(upz l).toArray⟩] := by
    intro j v hj
    rw [Nat.zero_add]
    match j, hj with
    | 0, hj => injection hj with hj; subst hj; rw [World.cell?_setCell_other _ _ _ _ (by simp)]; exact World.cell?_setCell_same _ _ _ a1
    | 1, hj => injection hj with hj; subst hj; exact World.cell?_setCell_same _ _ _ ((World.cell?_setCell_other _ _ _ _ (by simp)).trans a2)
  have hb9 : Below w.heap.size w ((X.setCell ⟨w.heap.size + 1, 0, .none⟩ (.int .i64 z)).setCell ⟨w.heap.size + 1, 1, .none⟩ (.string ⟨(upz l).toArray⟩)) := (HX.out.setCell (p := ⟨w.heap.size + 1, 0, .none⟩) (by show w.heap.size ≤ w.heap.size + 1; omega) _).setCell (p := ⟨w.heap.size + 1, 1, .none⟩) (by show w.heap.size ≤ w.heap.size + 1; omega) _
  generalize ((X.setCell ⟨w.heap.size + 1, 0, .none⟩ (.int .i64 z)).setCell ⟨w.heap.size + 1, 1, .none⟩ (.string ⟨(upz l).toArray⟩)) = Z at *
  exact bodyPost_ret (results_cell_any (p := 2) (ty := 23) rfl _ _ ⟨w.heap.size + 1, 0, .none⟩ _ rfl (run_loadVar_mid (P := Tryd.prog) _ (w.heap.size + 1) 0 23 _ _ hr9 Tryd.underlying23 rfl (by kernel_rfl))) rfl ⟨rfl, hb9⟩
end Go.Proofs.YtockhlboeaignaaDoor
