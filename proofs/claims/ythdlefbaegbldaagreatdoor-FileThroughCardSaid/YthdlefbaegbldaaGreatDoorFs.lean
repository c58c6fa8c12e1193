import Derived.Test.YthdlefbaegbldaaGreatDoorFq
namespace Go.Proofs.YthdlefbaegbldaaGreatDoor
open Go.RowKit
set_option linter.unusedVariables false
set_option linter.unusedSimpArgs false
set_option maxRecDepth 100000

set_option maxHeartbeats 2000000 in
theorem shutRT_any {w : World} {s t c fb pb : Nat} {P : Nat → Option Nat} {b q : Nat} {num refs ino off : Int} {frd fwr : Bool} {xs : List Int} {r : Int} (h : Fls w s t c fb pb) (hP : Tab w pb 32 P) (j : Nat) (hj : j < 32) (hQ : P j = some q) (hL : Lk w b num 2 refs frd fwr ino off (j : Int)) (hp : Pip w q xs r true true) (hsq : s ≠ q) (hbq : b ≠ q) (hpq : pb ≠ q) :
    Calls Tryz.prog 35 #[.pointer (some ⟨s, 0, .none⟩), .pointer (some ⟨b, 0, .none⟩)] w (fun e w' => (∃ g, w.heap.size ≤ g ∧ e = .returned (.slice (some ⟨g, 0, .none⟩) 1 1) ∧ w'.cell? ⟨g, 0, .none⟩ = some (.int .i64 5) ∧ w'.cell? ⟨g, 1, .none⟩ = some (.int .i64 j)) ∧ Pip w' q xs r false true ∧ Trn q w w') := by
  have ce := endOfR_any h hP hL
  rw [tg_some hj hQ, enR] at ce
  have HH : Hid (Fls w s t c fb pb ∧ Tab w pb 32 P ∧ Lk w b num 2 refs frd fwr ino off (j : Int) ∧ Pip w q xs r true true) := ⟨h, hP, hL, hp⟩
  have hbl := hL.lt
  have hsl := h.lt
  have hpl : pb < w.heap.size := hP.lt (by omega)
  have hql := hp.lt
  clear h hP hL hp hQ
  go_enter Tryz.func35, Tryz.ntmps35
  go_wp2_with fail
  refine ce.mono ?_
  rintro _ V ⟨rfl, hV⟩
  have HU : Hid (En (V.alloc (.cells #[.pointer (some ⟨q, 0, .none⟩), .int .i64 4, .int .i64 (j : Int), .int .i64 5, .int .i64 (j : Int)] 146)) V.heap.size (some ⟨q, 0, .none⟩) 4 5 (j : Int) ∧ Below w.heap.size w (V.alloc (.cells #[.pointer (some ⟨q, 0, .none⟩), .int .i64 4, .int .i64 (j : Int), .int .i64 5, .int .i64 (j : Int)] 146)) ∧ w.heap.size ≤ V.heap.size ∧ V.heap.size < (V.alloc (.cells #[.pointer (some ⟨q, 0, .none⟩), .int .i64 4, .int .i64 (j : Int), .int .i64 5, .int .i64 (j : Int)] 146)).heap.size) := ⟨En.new V _ 4 5 j, hV.alloc hV.size _, hV.size, by simp⟩
  clear ce hV
  go_upto_region 2 with fail
  generalize V.alloc (.cells #[.pointer (some ⟨q, 0, .none⟩), .int .i64 4, .int .i64 (j : Int), .int .i64 5, .int .i64 (j : Int)] 146) = U at *
  generalize V.heap.size = z at *
  have H1 : Hid (Fls U s t c fb pb ∧ Tab U pb 32 P ∧ Lk U b num 2 refs frd fwr ino off (j : Int) ∧ Pip U q xs r true true) := ⟨HH.out.1.below HU.out.2.1, HH.out.2.1.below (by omega) HU.out.2.1, HH.out.2.2.1.below HU.out.2.1, HH.out.2.2.2.below HU.out.2.1⟩
  have j0 : (U.drew.cell? ⟨z, 0, .none⟩ = some (.pointer (some ⟨q, 0, .none⟩)) ∧ U.drew.cell? ⟨b, 1, .none⟩ = some (.int .i64 2)) := ⟨HU.out.1.c0, H1.out.2.2.1.c1⟩
  refine wp_region_held_drew (S := fun U => (U.cell? ⟨z, 0, .none⟩ = some (.pointer (some ⟨q, 0, .none⟩)) ∧ U.cell? ⟨b, 1, .none⟩ = some (.int .i64 2))) (by kernel_rfl) j0 (fun hHeld => ?_)
  refine wpAnyH_take (i := 0) (v := (.pointer (some ⟨z, 0, .none⟩))) rfl (by kernel_rfl) (by kernel_rfl) (by kernel_rfl) (fun _ _ _ h => h) (Or.inl ⟨by rfl, fun ww hSw => by (try dsimp only at hSw); go_simp⟩) (by assumption) ?_
  simp only [Act.put, List.setIfInBounds_toArray, List.set_cons_zero, List.set_cons_succ, List.getElem_toArray, List.getElem_cons_succ, List.getElem_cons_zero]
  refine wpAnyH_take (i := 1) (v := (.pointer (some ⟨q, 0, .none⟩))) rfl (by kernel_rfl) (by kernel_rfl) (by kernel_rfl) (fun _ _ _ h => h) (Or.inl ⟨by rfl, fun ww hSw => by (try dsimp only at hSw); go_simp⟩) (by assumption) ?_
  simp only [Act.put, List.setIfInBounds_toArray, List.set_cons_zero, List.set_cons_succ, List.getElem_toArray, List.getElem_cons_succ, List.getElem_cons_zero]
  refine wpAnyH_take (i := 2) (v := (.pointer (some ⟨b, 0, .none⟩))) rfl (by kernel_rfl) (by kernel_rfl) (by kernel_rfl) (fun _ _ _ h => h) (Or.inl ⟨by rfl, fun ww hSw => by (try dsimp only at hSw); go_simp⟩) (by assumption) ?_
  simp only [Act.put, List.setIfInBounds_toArray, List.set_cons_zero, List.set_cons_succ, List.getElem_toArray, List.getElem_cons_succ, List.getElem_cons_zero]
  refine wpAnyH_take (i := 3) (v := (.pointer (some ⟨b, 0, .none⟩))) rfl (by kernel_rfl) (by kernel_rfl) (by kernel_rfl) (fun _ _ _ h => h) (Or.inl ⟨by rfl, fun ww hSw => by (try dsimp only at hSw); go_simp⟩) (by assumption) ?_
  simp only [Act.put, List.setIfInBounds_toArray, List.set_cons_zero, List.set_cons_succ, List.getElem_toArray, List.getElem_cons_succ, List.getElem_cons_zero]
  refine wpAnyH_take (i := 4) (v := (.pointer (some ⟨b, 1, .none⟩))) rfl (by kernel_rfl) (by kernel_rfl) (by kernel_rfl) (fun _ _ _ h => h) (Or.inl ⟨by rfl, fun ww hSw => by (try dsimp only at hSw); go_simp⟩) (by assumption) ?_
  simp only [Act.put, List.setIfInBounds_toArray, List.set_cons_zero, List.set_cons_succ, List.getElem_toArray, List.getElem_cons_succ, List.getElem_cons_zero]
  refine wpAnyH_take (i := 5) (v := (.int .i64 2)) rfl (by kernel_rfl) (by kernel_rfl) (by kernel_rfl) (fun _ _ _ h => h) (Or.inl ⟨by rfl, fun ww hSw => by (try dsimp only at hSw); go_simp⟩) (by assumption) ?_
  simp only [Act.put, List.setIfInBounds_toArray, List.set_cons_zero, List.set_cons_succ, List.getElem_toArray, List.getElem_cons_succ, List.getElem_cons_zero]
  refine wpAnyH_take (i := 6) (v := (.bool true)) rfl (by kernel_rfl) (by kernel_rfl) (by kernel_rfl) (fun _ _ _ h => h) (Or.inl ⟨by rfl, fun ww hSw => by (try dsimp only at hSw); go_simp⟩) (by assumption) ?_
  simp only [Act.put, List.setIfInBounds_toArray, List.set_cons_zero, List.set_cons_succ, List.getElem_toArray, List.getElem_cons_succ, List.getElem_cons_zero]
  refine wpAnyH_ready (rs := [7]) (by kernel_rfl) (by simp) ?_
  refine AllReadyH.cons rfl (fun K hK => ?_) AllReadyH.nil
  go_simp
  refine (shut_pip (w := U.drew) (H1.out.2.2.2.drewN 1) true).mono ?_
  rintro _ X ⟨⟨u, rfl⟩, hpX, hX⟩
  have hX : Trn q U X := ⟨hX.os, hX.tape, hX.output, hX.size, hX.block⟩
  have e1 : (if true = true then false else true) = false := rfl
  have e2 : (if true = true then true else false) = true := rfl
  rw [e1, e2] at hpX
  have hzq : z ≠ q := by have := HU.out.2.2.1; omega
  have HX : Hid (Pip X q xs r false true ∧ Trn q w X ∧ En X z (some ⟨q, 0, .none⟩) 4 5 (j : Int) ∧ Fls X s t c fb pb ∧ Tab X pb 32 P ∧ Lk X b num 2 refs frd fwr ino off (j : Int) ∧ w.heap.size ≤ z ∧ z < X.heap.size) := by
    have hsz := HU.out.2.1.size
    exact ⟨hpX, (Trn.ofBelow HU.out.2.1).trans hX, HU.out.1.keep (hX.block _ HU.out.2.2.2 hzq), H1.out.1.keep (hX.block _ (by omega) hsq), H1.out.2.1.keep (hX.block _ (by omega) hpq), H1.out.2.2.1.keep (hX.block _ (by omega) hbq), HU.out.2.2.1, Nat.lt_of_lt_of_le HU.out.2.2.2 hX.size⟩
  have kX : (X.cell? ⟨z, 0, .none⟩ = some (.pointer (some ⟨q, 0, .none⟩)) ∧ X.cell? ⟨b, 1, .none⟩ = some (.int .i64 2)) := ⟨HX.out.2.2.1.c0, HX.out.2.2.2.2.2.1.c1⟩
  clear hpX hX e1 e2 H1 HU j0
  refine hK.out _ _ kX (fun hHeld => ?_)
  clear hK K
  try simp only [Act.put, List.setIfInBounds_toArray, List.set_cons_zero, List.set_cons_succ, List.getElem_toArray, List.getElem_cons_succ, List.getElem_cons_zero]
  refine wpAnyH_done (by kernel_rfl) ?_ _
  have c0 := HX.out.2.2.1.c0
  go_wp2_with fail
  refine (state_pip HX.out.1).mono ?_
  rintro _ Y ⟨p, cc, rfl, hO, hY, h0⟩
  have HY : Hid (Below X.heap.size X Y) := hY
  clear hO hY h0 kX c0
  have HZ : Hid (Below X.heap.size X (Y.alloc (.cells #[.slice p xs.length cc, .int .u32 r, .int .u32 ((r + (xs.length : Int)) % 4294967296), .bool false, .bool true] 53)) ∧ (Y.alloc (.cells #[.slice p xs.length cc, .int .u32 r, .int .u32 ((r + (xs.length : Int)) % 4294967296), .bool false, .bool true] 53)).cell? ⟨Y.heap.size, 3, .none⟩ = some (.bool false) ∧ (Y.alloc (.cells #[.slice p xs.length cc, .int .u32 r, .int .u32 ((r + (xs.length : Int)) % 4294967296), .bool false, .bool true] 53)).cell? ⟨Y.heap.size, 4, .none⟩ = some (.bool true)) :=
    ⟨HY.out.alloc HY.out.size _, by rw [World.cell?_alloc_at _ _ _ _ rfl]; rfl, by rw [World.cell?_alloc_at _ _ _ _ rfl]; rfl⟩
  simp only [stt]
  go_upto_region 4 with fail
  generalize Y.alloc (.cells #[.slice p xs.length cc, .int .u32 r, .int .u32 ((r + (xs.length : Int)) % 4294967296), .bool false, .bool true] 53) = A at *
  generalize Y.heap.size = y at *
  have m3 := HZ.out.2.1
  have m4 := HZ.out.2.2
  have HA : Hid (Pip A q xs r false true ∧ Trn q w A ∧ En A z (some ⟨q, 0, .none⟩) 4 5 (j : Int) ∧ Fls A s t c fb pb ∧ Tab A pb 32 P ∧ Lk A b num 2 refs frd fwr ino off (j : Int) ∧ w.heap.size ≤ A.heap.size) := ⟨HX.out.1.below HZ.out.1, HX.out.2.1.trans (Trn.ofBelow HZ.out.1), HX.out.2.2.1.below HZ.out.1, HX.out.2.2.2.1.below HZ.out.1, HX.out.2.2.2.2.1.below (by omega) HZ.out.1, HX.out.2.2.2.2.2.1.below HZ.out.1, Nat.le_trans HX.out.2.1.size HZ.out.1.size⟩
  have a3 := HA.out.2.2.1.c3
  have a4 := HA.out.2.2.1.c4
  clear HX HY HZ
  go_wp2
  go_ret
  refine ⟨⟨A.heap.size, HA.out.2.2.2.2.2.2, rfl, ?_, ?_⟩, HA.out.1.below ((Below.refl _ _).alloc (Nat.le_refl _) _), HA.out.2.1.trans (Trn.ofBelow ((Below.refl _ _).alloc (Nat.le_refl _) _))⟩
  · rw [World.cell?_alloc_at _ _ _ _ rfl]; rfl
  · rw [World.cell?_alloc_at _ _ _ _ rfl]; rfl

set_option maxHeartbeats 2000000 in
theorem shutRF_any {w : World} {s t c fb pb : Nat} {P : Nat → Option Nat} {b q : Nat} {num refs ino off : Int} {frd fwr : Bool} {xs : List Int} {r : Int} (h : Fls w s t c fb pb) (hP : Tab w pb 32 P) (j : Nat) (hj : j < 32) (hQ : P j = some q) (hL : Lk w b num 2 refs frd fwr ino off (j : Int)) (hp : Pip w q xs r true false) (hsq : s ≠ q) (hbq : b ≠ q) (hpq : pb ≠ q) (hsp : s ≠ pb) (hbp : b ≠ pb) :
    Calls Tryz.prog 35 #[.pointer (some ⟨s, 0, .none⟩), .pointer (some ⟨b, 0, .none⟩)] w (fun e w' => e = .returned (.slice none 0 0) ∧ Tab w' pb 32 (setF P j none) ∧ ChS (fun i => i = q ∨ i = pb) w w') := by
  have ce := endOfR_any h hP hL
  rw [tg_some hj hQ, enR] at ce
  have HH : Hid (Fls w s t c fb pb ∧ Tab w pb 32 P ∧ Lk w b num 2 refs frd fwr ino off (j : Int) ∧ Pip w q xs r true false) := ⟨h, hP, hL, hp⟩
  have hbl := hL.lt
  have hsl := h.lt
  have hpl : pb < w.heap.size := hP.lt (by omega)
  have hql := hp.lt
  clear h hP hL hp hQ
  go_enter Tryz.func35, Tryz.ntmps35
  go_wp2_with fail
  refine ce.mono ?_
  rintro _ V ⟨rfl, hV⟩
  have HU : Hid (En (V.alloc (.cells #[.pointer (some ⟨q, 0, .none⟩), .int .i64 4, .int .i64 (j : Int), .int .i64 5, .int .i64 (j : Int)] 146)) V.heap.size (some ⟨q, 0, .none⟩) 4 5 (j : Int) ∧ Below w.heap.size w (V.alloc (.cells #[.pointer (some ⟨q, 0, .none⟩), .int .i64 4, .int .i64 (j : Int), .int .i64 5, .int .i64 (j : Int)] 146)) ∧ w.heap.size ≤ V.heap.size ∧ V.heap.size < (V.alloc (.cells #[.pointer (some ⟨q, 0, .none⟩), .int .i64 4, .int .i64 (j : Int), .int .i64 5, .int .i64 (j : Int)] 146)).heap.size) := ⟨En.new V _ 4 5 j, hV.alloc hV.size _, hV.size, by simp⟩
  clear ce hV
  go_upto_region 2 with fail
  generalize V.alloc (.cells #[.pointer (some ⟨q, 0, .none⟩), .int .i64 4, .int .i64 (j : Int), .int .i64 5, .int .i64 (j : Int)] 146) = U at *
  generalize V.heap.size = z at *
  have H1 : Hid (Fls U s t c fb pb ∧ Tab U pb 32 P ∧ Lk U b num 2 refs frd fwr ino off (j : Int) ∧ Pip U q xs r true false) := ⟨HH.out.1.below HU.out.2.1, HH.out.2.1.below (by omega) HU.out.2.1, HH.out.2.2.1.below HU.out.2.1, HH.out.2.2.2.below HU.out.2.1⟩
  have j0 : (U.drew.cell? ⟨z, 0, .none⟩ = some (.pointer (some ⟨q, 0, .none⟩)) ∧ U.drew.cell? ⟨b, 1, .none⟩ = some (.int .i64 2)) := ⟨HU.out.1.c0, H1.out.2.2.1.c1⟩
  refine wp_region_held_drew (S := fun U => (U.cell? ⟨z, 0, .none⟩ = some (.pointer (some ⟨q, 0, .none⟩)) ∧ U.cell? ⟨b, 1, .none⟩ = some (.int .i64 2))) (by kernel_rfl) j0 (fun hHeld => ?_)
  refine wpAnyH_take (i := 0) (v := (.pointer (some ⟨z, 0, .none⟩))) rfl (by kernel_rfl) (by kernel_rfl) (by kernel_rfl) (fun _ _ _ h => h) (Or.inl ⟨by rfl, fun ww hSw => by (try dsimp only at hSw); go_simp⟩) (by assumption) ?_
  simp only [Act.put, List.setIfInBounds_toArray, List.set_cons_zero, List.set_cons_succ, List.getElem_toArray, List.getElem_cons_succ, List.getElem_cons_zero]
  refine wpAnyH_take (i := 1) (v := (.pointer (some ⟨q, 0, .none⟩))) rfl (by kernel_rfl) (by kernel_rfl) (by kernel_rfl) (fun _ _ _ h => h) (Or.inl ⟨by rfl, fun ww hSw => by (try dsimp only at hSw); go_simp⟩) (by assumption) ?_
  simp only [Act.put, List.setIfInBounds_toArray, List.set_cons_zero, List.set_cons_succ, List.getElem_toArray, List.getElem_cons_succ, List.getElem_cons_zero]
  refine wpAnyH_take (i := 2) (v := (.pointer (some ⟨b, 0, .none⟩))) rfl (by kernel_rfl) (by kernel_rfl) (by kernel_rfl) (fun _ _ _ h => h) (Or.inl ⟨by rfl, fun ww hSw => by (try dsimp only at hSw); go_simp⟩) (by assumption) ?_
  simp only [Act.put, List.setIfInBounds_toArray, List.set_cons_zero, List.set_cons_succ, List.getElem_toArray, List.getElem_cons_succ, List.getElem_cons_zero]
  refine wpAnyH_take (i := 3) (v := (.pointer (some ⟨b, 0, .none⟩))) rfl (by kernel_rfl) (by kernel_rfl) (by kernel_rfl) (fun _ _ _ h => h) (Or.inl ⟨by rfl, fun ww hSw => by (try dsimp only at hSw); go_simp⟩) (by assumption) ?_
  simp only [Act.put, List.setIfInBounds_toArray, List.set_cons_zero, List.set_cons_succ, List.getElem_toArray, List.getElem_cons_succ, List.getElem_cons_zero]
  refine wpAnyH_take (i := 4) (v := (.pointer (some ⟨b, 1, .none⟩))) rfl (by kernel_rfl) (by kernel_rfl) (by kernel_rfl) (fun _ _ _ h => h) (Or.inl ⟨by rfl, fun ww hSw => by (try dsimp only at hSw); go_simp⟩) (by assumption) ?_
  simp only [Act.put, List.setIfInBounds_toArray, List.set_cons_zero, List.set_cons_succ, List.getElem_toArray, List.getElem_cons_succ, List.getElem_cons_zero]
  refine wpAnyH_take (i := 5) (v := (.int .i64 2)) rfl (by kernel_rfl) (by kernel_rfl) (by kernel_rfl) (fun _ _ _ h => h) (Or.inl ⟨by rfl, fun ww hSw => by (try dsimp only at hSw); go_simp⟩) (by assumption) ?_
  simp only [Act.put, List.setIfInBounds_toArray, List.set_cons_zero, List.set_cons_succ, List.getElem_toArray, List.getElem_cons_succ, List.getElem_cons_zero]
  refine wpAnyH_take (i := 6) (v := (.bool true)) rfl (by kernel_rfl) (by kernel_rfl) (by kernel_rfl) (fun _ _ _ h => h) (Or.inl ⟨by rfl, fun ww hSw => by (try dsimp only at hSw); go_simp⟩) (by assumption) ?_
  simp only [Act.put, List.setIfInBounds_toArray, List.set_cons_zero, List.set_cons_succ, List.getElem_toArray, List.getElem_cons_succ, List.getElem_cons_zero]
  refine wpAnyH_ready (rs := [7]) (by kernel_rfl) (by simp) ?_
  refine AllReadyH.cons rfl (fun K hK => ?_) AllReadyH.nil
  go_simp
  refine (shut_pip (w := U.drew) (H1.out.2.2.2.drewN 1) true).mono ?_
  rintro _ X ⟨⟨u, rfl⟩, hpX, hX⟩
  have hX : Trn q U X := ⟨hX.os, hX.tape, hX.output, hX.size, hX.block⟩
  have e1 : (if true = true then false else true) = false := rfl
  have e2 : (if true = true then false else false) = false := rfl
  rw [e1, e2] at hpX
  have hzq : z ≠ q := by have := HU.out.2.2.1; omega
  have HX : Hid (Pip X q xs r false false ∧ Trn q w X ∧ En X z (some ⟨q, 0, .none⟩) 4 5 (j : Int) ∧ Fls X s t c fb pb ∧ Tab X pb 32 P ∧ Lk X b num 2 refs frd fwr ino off (j : Int) ∧ w.heap.size ≤ z ∧ z < X.heap.size) := by
    have hsz := HU.out.2.1.size
    exact ⟨hpX, (Trn.ofBelow HU.out.2.1).trans hX, HU.out.1.keep (hX.block _ HU.out.2.2.2 hzq), H1.out.1.keep (hX.block _ (by omega) hsq), H1.out.2.1.keep (hX.block _ (by omega) hpq), H1.out.2.2.1.keep (hX.block _ (by omega) hbq), HU.out.2.2.1, Nat.lt_of_lt_of_le HU.out.2.2.2 hX.size⟩
  have kX : (X.cell? ⟨z, 0, .none⟩ = some (.pointer (some ⟨q, 0, .none⟩)) ∧ X.cell? ⟨b, 1, .none⟩ = some (.int .i64 2)) := ⟨HX.out.2.2.1.c0, HX.out.2.2.2.2.2.1.c1⟩
  clear hpX hX e1 e2 H1 HU j0
  refine hK.out _ _ kX (fun hHeld => ?_)
  clear hK K
  try simp only [Act.put, List.setIfInBounds_toArray, List.set_cons_zero, List.set_cons_succ, List.getElem_toArray, List.getElem_cons_succ, List.getElem_cons_zero]
  refine wpAnyH_done (by kernel_rfl) ?_ _
  have c0 := HX.out.2.2.1.c0
  go_wp2_with fail
  refine (state_pip HX.out.1).mono ?_
  rintro _ Y ⟨p, cc, rfl, hO, hY, h0⟩
  have HY : Hid (Below X.heap.size X Y) := hY
  clear hO hY h0 kX c0
  have HZ : Hid (Below X.heap.size X (Y.alloc (.cells #[.slice p xs.length cc, .int .u32 r, .int .u32 ((r + (xs.length : Int)) % 4294967296), .bool false, .bool false] 53)) ∧ (Y.alloc (.cells #[.slice p xs.length cc, .int .u32 r, .int .u32 ((r + (xs.length : Int)) % 4294967296), .bool false, .bool false] 53)).cell? ⟨Y.heap.size, 3, .none⟩ = some (.bool false) ∧ (Y.alloc (.cells #[.slice p xs.length cc, .int .u32 r, .int .u32 ((r + (xs.length : Int)) % 4294967296), .bool false, .bool false] 53)).cell? ⟨Y.heap.size, 4, .none⟩ = some (.bool false)) :=
    ⟨HY.out.alloc HY.out.size _, by rw [World.cell?_alloc_at _ _ _ _ rfl]; rfl, by rw [World.cell?_alloc_at _ _ _ _ rfl]; rfl⟩
  simp only [stt]
  go_upto_region 4 with fail
  generalize Y.alloc (.cells #[.slice p xs.length cc, .int .u32 r, .int .u32 ((r + (xs.length : Int)) % 4294967296), .bool false, .bool false] 53) = A at *
  generalize Y.heap.size = y at *
  have m3 := HZ.out.2.1
  have m4 := HZ.out.2.2
  have HA : Hid (Pip A q xs r false false ∧ Trn q w A ∧ En A z (some ⟨q, 0, .none⟩) 4 5 (j : Int) ∧ Fls A s t c fb pb ∧ Tab A pb 32 P ∧ Lk A b num 2 refs frd fwr ino off (j : Int) ∧ w.heap.size ≤ A.heap.size) := ⟨HX.out.1.below HZ.out.1, HX.out.2.1.trans (Trn.ofBelow HZ.out.1), HX.out.2.2.1.below HZ.out.1, HX.out.2.2.2.1.below HZ.out.1, HX.out.2.2.2.2.1.below (by omega) HZ.out.1, HX.out.2.2.2.2.2.1.below HZ.out.1, Nat.le_trans HX.out.2.1.size HZ.out.1.size⟩
  have a3 := HA.out.2.2.1.c3
  have a4 := HA.out.2.2.1.c4
  clear HX HY HZ
  go_upto_region 6 with fail
  have j6 : (A.drew.cell? ⟨s, 3, .none⟩ = some (.slice (some ⟨pb, 0, .none⟩) 32 32) ∧ A.drew.cell? ⟨b, 7, .none⟩ = some (.int .i64 j)) := ⟨HA.out.2.2.2.1.c3, HA.out.2.2.2.2.2.1.c7⟩
  clear m3 m4 a3 a4
  refine wp_region_held_drew (S := fun U => (U.cell? ⟨s, 3, .none⟩ = some (.slice (some ⟨pb, 0, .none⟩) 32 32) ∧ U.cell? ⟨b, 7, .none⟩ = some (.int .i64 j))) (by kernel_rfl) j6 (fun hHeld => ?_)
  refine wpAnyH_take (i := 0) (v := (.pointer (some ⟨s, 0, .none⟩))) rfl (by kernel_rfl) (by kernel_rfl) (by kernel_rfl) (fun _ _ _ h => h) (Or.inl ⟨by rfl, fun ww hSw => by (try dsimp only at hSw); go_simp⟩) (by assumption) ?_
  simp only [Act.put, List.setIfInBounds_toArray, List.set_cons_zero, List.set_cons_succ, List.getElem_toArray, List.getElem_cons_succ, List.getElem_cons_zero]
  refine wpAnyH_take (i := 1) (v := (.pointer (some ⟨s, 0, .none⟩))) rfl (by kernel_rfl) (by kernel_rfl) (by kernel_rfl) (fun _ _ _ h => h) (Or.inl ⟨by rfl, fun ww hSw => by (try dsimp only at hSw); go_simp⟩) (by assumption) ?_
  simp only [Act.put, List.setIfInBounds_toArray, List.set_cons_zero, List.set_cons_succ, List.getElem_toArray, List.getElem_cons_succ, List.getElem_cons_zero]
  refine wpAnyH_take (i := 2) (v := (.pointer (some ⟨s, 3, .none⟩))) rfl (by kernel_rfl) (by kernel_rfl) (by kernel_rfl) (fun _ _ _ h => h) (Or.inl ⟨by rfl, fun ww hSw => by (try dsimp only at hSw); go_simp⟩) (by assumption) ?_
  simp only [Act.put, List.setIfInBounds_toArray, List.set_cons_zero, List.set_cons_succ, List.getElem_toArray, List.getElem_cons_succ, List.getElem_cons_zero]
  refine wpAnyH_take (i := 3) (v := (.agg #[.slice (some ⟨pb, 0, .none⟩) 32 32])) rfl (by kernel_rfl) (by kernel_rfl) (by kernel_rfl) (fun _ _ _ h => h) (Or.inl ⟨by rfl, fun ww hSw => by (try dsimp only at hSw); go_simp⟩) (by assumption) ?_
  simp only [Act.put, List.setIfInBounds_toArray, List.set_cons_zero, List.set_cons_succ, List.getElem_toArray, List.getElem_cons_succ, List.getElem_cons_zero]
  refine wpAnyH_take (i := 4) (v := (.pointer (some ⟨b, 0, .none⟩))) rfl (by kernel_rfl) (by kernel_rfl) (by kernel_rfl) (fun _ _ _ h => h) (Or.inl ⟨by rfl, fun ww hSw => by (try dsimp only at hSw); go_simp⟩) (by assumption) ?_
  simp only [Act.put, List.setIfInBounds_toArray, List.set_cons_zero, List.set_cons_succ, List.getElem_toArray, List.getElem_cons_succ, List.getElem_cons_zero]
  refine wpAnyH_take (i := 5) (v := (.pointer (some ⟨b, 0, .none⟩))) rfl (by kernel_rfl) (by kernel_rfl) (by kernel_rfl) (fun _ _ _ h => h) (Or.inl ⟨by rfl, fun ww hSw => by (try dsimp only at hSw); go_simp⟩) (by assumption) ?_
  simp only [Act.put, List.setIfInBounds_toArray, List.set_cons_zero, List.set_cons_succ, List.getElem_toArray, List.getElem_cons_succ, List.getElem_cons_zero]
  refine wpAnyH_take (i := 6) (v := (.pointer (some ⟨b, 7, .none⟩))) rfl (by kernel_rfl) (by kernel_rfl) (by kernel_rfl) (fun _ _ _ h => h) (Or.inl ⟨by rfl, fun ww hSw => by (try dsimp only at hSw); go_simp⟩) (by assumption) ?_
  simp only [Act.put, List.setIfInBounds_toArray, List.set_cons_zero, List.set_cons_succ, List.getElem_toArray, List.getElem_cons_succ, List.getElem_cons_zero]
  refine wpAnyH_take (i := 7) (v := (.int .i64 (j : Int))) rfl (by kernel_rfl) (by kernel_rfl) (by kernel_rfl) (fun _ _ _ h => h) (Or.inl ⟨by rfl, fun ww hSw => by (try dsimp only at hSw); go_simp⟩) (by assumption) ?_
  simp only [Act.put, List.setIfInBounds_toArray, List.set_cons_zero, List.set_cons_succ, List.getElem_toArray, List.getElem_cons_succ, List.getElem_cons_zero]
  refine wpAnyH_ready (rs := [8]) (by kernel_rfl) (by simp) ?_
  refine AllReadyH.cons rfl (fun K hK => ?_) AllReadyH.nil
  go_simp
  have hTA : Tab A.drew pb 32 P := ⟨HA.out.2.2.2.2.1.c, HA.out.2.2.2.2.1.f⟩
  refine (tfreeP_any hTA (by omega) (by omega) j hj).mono ?_
  rintro _ D ⟨⟨u2, rfl⟩, hTD, hD⟩
  have hD : Trn pb A D := ⟨hD.os, hD.tape, hD.output, hD.size, hD.block⟩
  have HD : Hid (Tab D pb 32 (setF P j none) ∧ ChS (fun i => i = q ∨ i = pb) w D) := ⟨hTD, (ChS.ofTrn HA.out.2.1 (.inl (.inl rfl))).trans (ChS.ofTrn hD (.inl (.inr rfl)))⟩
  have kD : (D.cell? ⟨s, 3, .none⟩ = some (.slice (some ⟨pb, 0, .none⟩) 32 32) ∧ D.cell? ⟨b, 7, .none⟩ = some (.int .i64 j)) := by
    have hsz := HA.out.2.2.2.2.2.2
    have hsp : s ≠ pb := hsp
    have hbp : b ≠ pb := hbp
    exact ⟨(World.cell?_of_block (hD.block s (by omega) hsp)).trans HA.out.2.2.2.1.c3, (World.cell?_of_block (hD.block b (by omega) hbp)).trans HA.out.2.2.2.2.2.1.c7⟩
  clear hTD hD hTA j6
  refine hK.out _ _ kD (fun hHeld => ?_)
  clear hK K
  try simp only [Act.put, List.setIfInBounds_toArray, List.set_cons_zero, List.set_cons_succ, List.getElem_toArray, List.getElem_cons_succ, List.getElem_cons_zero]
  refine wpAnyH_done (by kernel_rfl) ?_ _
  go_wp2
  go_ret
  exact ⟨rfl, HD.out.1, HD.out.2⟩

set_option maxHeartbeats 2000000 in
theorem shutWT_any {w : World} {s t c fb pb : Nat} {P : Nat → Option Nat} {b q : Nat} {num refs ino off : Int} {frd fwr : Bool} {xs : List Int} {r : Int} (h : Fls w s t c fb pb) (hP : Tab w pb 32 P) (j : Nat) (hj : j < 32) (hQ : P j = some q) (hL : Lk w b num 3 refs frd fwr ino off (j : Int)) (hp : Pip w q xs r true true) (hsq : s ≠ q) (hbq : b ≠ q) (hpq : pb ≠ q) :
    Calls Tryz.prog 35 #[.pointer (some ⟨s, 0, .none⟩), .pointer (some ⟨b, 0, .none⟩)] w (fun e w' => (∃ g, w.heap.size ≤ g ∧ e = .returned (.slice (some ⟨g, 0, .none⟩) 1 1) ∧ w'.cell? ⟨g, 0, .none⟩ = some (.int .i64 4) ∧ w'.cell? ⟨g, 1, .none⟩ = some (.int .i64 j)) ∧ Pip w' q xs r true false ∧ Trn q w w') := by
  have ce := endOfW_any h hP hL
  rw [tg_some hj hQ, enW] at ce
  have HH : Hid (Fls w s t c fb pb ∧ Tab w pb 32 P ∧ Lk w b num 3 refs frd fwr ino off (j : Int) ∧ Pip w q xs r true true) := ⟨h, hP, hL, hp⟩
  have hbl := hL.lt
  have hsl := h.lt
  have hpl : pb < w.heap.size := hP.lt (by omega)
  have hql := hp.lt
  clear h hP hL hp hQ
  go_enter Tryz.func35, Tryz.ntmps35
  go_wp2_with fail
  refine ce.mono ?_
  rintro _ V ⟨rfl, hV⟩
  have HU : Hid (En (V.alloc (.cells #[.pointer (some ⟨q, 0, .none⟩), .int .i64 5, .int .i64 (j : Int), .int .i64 4, .int .i64 (j : Int)] 146)) V.heap.size (some ⟨q, 0, .none⟩) 5 4 (j : Int) ∧ Below w.heap.size w (V.alloc (.cells #[.pointer (some ⟨q, 0, .none⟩), .int .i64 5, .int .i64 (j : Int), .int .i64 4, .int .i64 (j : Int)] 146)) ∧ w.heap.size ≤ V.heap.size ∧ V.heap.size < (V.alloc (.cells #[.pointer (some ⟨q, 0, .none⟩), .int .i64 5, .int .i64 (j : Int), .int .i64 4, .int .i64 (j : Int)] 146)).heap.size) := ⟨En.new V _ 5 4 j, hV.alloc hV.size _, hV.size, by simp⟩
  clear ce hV
  go_upto_region 2 with fail
  generalize V.alloc (.cells #[.pointer (some ⟨q, 0, .none⟩), .int .i64 5, .int .i64 (j : Int), .int .i64 4, .int .i64 (j : Int)] 146) = U at *
  generalize V.heap.size = z at *
  have H1 : Hid (Fls U s t c fb pb ∧ Tab U pb 32 P ∧ Lk U b num 3 refs frd fwr ino off (j : Int) ∧ Pip U q xs r true true) := ⟨HH.out.1.below HU.out.2.1, HH.out.2.1.below (by omega) HU.out.2.1, HH.out.2.2.1.below HU.out.2.1, HH.out.2.2.2.below HU.out.2.1⟩
  have j0 : (U.drew.cell? ⟨z, 0, .none⟩ = some (.pointer (some ⟨q, 0, .none⟩)) ∧ U.drew.cell? ⟨b, 1, .none⟩ = some (.int .i64 3)) := ⟨HU.out.1.c0, H1.out.2.2.1.c1⟩
  refine wp_region_held_drew (S := fun U => (U.cell? ⟨z, 0, .none⟩ = some (.pointer (some ⟨q, 0, .none⟩)) ∧ U.cell? ⟨b, 1, .none⟩ = some (.int .i64 3))) (by kernel_rfl) j0 (fun hHeld => ?_)
  refine wpAnyH_take (i := 0) (v := (.pointer (some ⟨z, 0, .none⟩))) rfl (by kernel_rfl) (by kernel_rfl) (by kernel_rfl) (fun _ _ _ h => h) (Or.inl ⟨by rfl, fun ww hSw => by (try dsimp only at hSw); go_simp⟩) (by assumption) ?_
  simp only [Act.put, List.setIfInBounds_toArray, List.set_cons_zero, List.set_cons_succ, List.getElem_toArray, List.getElem_cons_succ, List.getElem_cons_zero]
  refine wpAnyH_take (i := 1) (v := (.pointer (some ⟨q, 0, .none⟩))) rfl (by kernel_rfl) (by kernel_rfl) (by kernel_rfl) (fun _ _ _ h => h) (Or.inl ⟨by rfl, fun ww hSw => by (try dsimp only at hSw); go_simp⟩) (by assumption) ?_
  simp only [Act.put, List.setIfInBounds_toArray, List.set_cons_zero, List.set_cons_succ, List.getElem_toArray, List.getElem_cons_succ, List.getElem_cons_zero]
  refine wpAnyH_take (i := 2) (v := (.pointer (some ⟨b, 0, .none⟩))) rfl (by kernel_rfl) (by kernel_rfl) (by kernel_rfl) (fun _ _ _ h => h) (Or.inl ⟨by rfl, fun ww hSw => by (try dsimp only at hSw); go_simp⟩) (by assumption) ?_
  simp only [Act.put, List.setIfInBounds_toArray, List.set_cons_zero, List.set_cons_succ, List.getElem_toArray, List.getElem_cons_succ, List.getElem_cons_zero]
  refine wpAnyH_take (i := 3) (v := (.pointer (some ⟨b, 0, .none⟩))) rfl (by kernel_rfl) (by kernel_rfl) (by kernel_rfl) (fun _ _ _ h => h) (Or.inl ⟨by rfl, fun ww hSw => by (try dsimp only at hSw); go_simp⟩) (by assumption) ?_
  simp only [Act.put, List.setIfInBounds_toArray, List.set_cons_zero, List.set_cons_succ, List.getElem_toArray, List.getElem_cons_succ, List.getElem_cons_zero]
  refine wpAnyH_take (i := 4) (v := (.pointer (some ⟨b, 1, .none⟩))) rfl (by kernel_rfl) (by kernel_rfl) (by kernel_rfl) (fun _ _ _ h => h) (Or.inl ⟨by rfl, fun ww hSw => by (try dsimp only at hSw); go_simp⟩) (by assumption) ?_
  simp only [Act.put, List.setIfInBounds_toArray, List.set_cons_zero, List.set_cons_succ, List.getElem_toArray, List.getElem_cons_succ, List.getElem_cons_zero]
  refine wpAnyH_take (i := 5) (v := (.int .i64 3)) rfl (by kernel_rfl) (by kernel_rfl) (by kernel_rfl) (fun _ _ _ h => h) (Or.inl ⟨by rfl, fun ww hSw => by (try dsimp only at hSw); go_simp⟩) (by assumption) ?_
  simp only [Act.put, List.setIfInBounds_toArray, List.set_cons_zero, List.set_cons_succ, List.getElem_toArray, List.getElem_cons_succ, List.getElem_cons_zero]
  refine wpAnyH_take (i := 6) (v := (.bool false)) rfl (by kernel_rfl) (by kernel_rfl) (by kernel_rfl) (fun _ _ _ h => h) (Or.inl ⟨by rfl, fun ww hSw => by (try dsimp only at hSw); go_simp⟩) (by assumption) ?_
  simp only [Act.put, List.setIfInBounds_toArray, List.set_cons_zero, List.set_cons_succ, List.getElem_toArray, List.getElem_cons_succ, List.getElem_cons_zero]
  refine wpAnyH_ready (rs := [7]) (by kernel_rfl) (by simp) ?_
  refine AllReadyH.cons rfl (fun K hK => ?_) AllReadyH.nil
  go_simp
  refine (shut_pip (w := U.drew) (H1.out.2.2.2.drewN 1) false).mono ?_
  rintro _ X ⟨⟨u, rfl⟩, hpX, hX⟩
  have hX : Trn q U X := ⟨hX.os, hX.tape, hX.output, hX.size, hX.block⟩
  have e1 : (if false = true then false else true) = true := rfl
  have e2 : (if false = true then true else false) = false := rfl
  rw [e1, e2] at hpX
  have hzq : z ≠ q := by have := HU.out.2.2.1; omega
  have HX : Hid (Pip X q xs r true false ∧ Trn q w X ∧ En X z (some ⟨q, 0, .none⟩) 5 4 (j : Int) ∧ Fls X s t c fb pb ∧ Tab X pb 32 P ∧ Lk X b num 3 refs frd fwr ino off (j : Int) ∧ w.heap.size ≤ z ∧ z < X.heap.size) := by
    have hsz := HU.out.2.1.size
    exact ⟨hpX, (Trn.ofBelow HU.out.2.1).trans hX, HU.out.1.keep (hX.block _ HU.out.2.2.2 hzq), H1.out.1.keep (hX.block _ (by omega) hsq), H1.out.2.1.keep (hX.block _ (by omega) hpq), H1.out.2.2.1.keep (hX.block _ (by omega) hbq), HU.out.2.2.1, Nat.lt_of_lt_of_le HU.out.2.2.2 hX.size⟩
  have kX : (X.cell? ⟨z, 0, .none⟩ = some (.pointer (some ⟨q, 0, .none⟩)) ∧ X.cell? ⟨b, 1, .none⟩ = some (.int .i64 3)) := ⟨HX.out.2.2.1.c0, HX.out.2.2.2.2.2.1.c1⟩
  clear hpX hX e1 e2 H1 HU j0
  refine hK.out _ _ kX (fun hHeld => ?_)
  clear hK K
  try simp only [Act.put, List.setIfInBounds_toArray, List.set_cons_zero, List.set_cons_succ, List.getElem_toArray, List.getElem_cons_succ, List.getElem_cons_zero]
  refine wpAnyH_done (by kernel_rfl) ?_ _
  have c0 := HX.out.2.2.1.c0
  go_wp2_with fail
  refine (state_pip HX.out.1).mono ?_
  rintro _ Y ⟨p, cc, rfl, hO, hY, h0⟩
  have HY : Hid (Below X.heap.size X Y) := hY
  clear hO hY h0 kX c0
  have HZ : Hid (Below X.heap.size X (Y.alloc (.cells #[.slice p xs.length cc, .int .u32 r, .int .u32 ((r + (xs.length : Int)) % 4294967296), .bool true, .bool false] 53)) ∧ (Y.alloc (.cells #[.slice p xs.length cc, .int .u32 r, .int .u32 ((r + (xs.length : Int)) % 4294967296), .bool true, .bool false] 53)).cell? ⟨Y.heap.size, 3, .none⟩ = some (.bool true) ∧ (Y.alloc (.cells #[.slice p xs.length cc, .int .u32 r, .int .u32 ((r + (xs.length : Int)) % 4294967296), .bool true, .bool false] 53)).cell? ⟨Y.heap.size, 4, .none⟩ = some (.bool false)) :=
    ⟨HY.out.alloc HY.out.size _, by rw [World.cell?_alloc_at _ _ _ _ rfl]; rfl, by rw [World.cell?_alloc_at _ _ _ _ rfl]; rfl⟩
  simp only [stt]
  go_upto_region 4 with fail
  generalize Y.alloc (.cells #[.slice p xs.length cc, .int .u32 r, .int .u32 ((r + (xs.length : Int)) % 4294967296), .bool true, .bool false] 53) = A at *
  generalize Y.heap.size = y at *
  have m3 := HZ.out.2.1
  have m4 := HZ.out.2.2
  have HA : Hid (Pip A q xs r true false ∧ Trn q w A ∧ En A z (some ⟨q, 0, .none⟩) 5 4 (j : Int) ∧ Fls A s t c fb pb ∧ Tab A pb 32 P ∧ Lk A b num 3 refs frd fwr ino off (j : Int) ∧ w.heap.size ≤ A.heap.size) := ⟨HX.out.1.below HZ.out.1, HX.out.2.1.trans (Trn.ofBelow HZ.out.1), HX.out.2.2.1.below HZ.out.1, HX.out.2.2.2.1.below HZ.out.1, HX.out.2.2.2.2.1.below (by omega) HZ.out.1, HX.out.2.2.2.2.2.1.below HZ.out.1, Nat.le_trans HX.out.2.1.size HZ.out.1.size⟩
  have a3 := HA.out.2.2.1.c3
  have a4 := HA.out.2.2.1.c4
  clear HX HY HZ
  go_wp2
  go_ret
  refine ⟨⟨A.heap.size, HA.out.2.2.2.2.2.2, rfl, ?_, ?_⟩, HA.out.1.below ((Below.refl _ _).alloc (Nat.le_refl _) _), HA.out.2.1.trans (Trn.ofBelow ((Below.refl _ _).alloc (Nat.le_refl _) _))⟩
  · rw [World.cell?_alloc_at _ _ _ _ rfl]; rfl
  · rw [World.cell?_alloc_at _ _ _ _ rfl]; rfl
end Go.Proofs.YthdlefbaegbldaaGreatDoor
