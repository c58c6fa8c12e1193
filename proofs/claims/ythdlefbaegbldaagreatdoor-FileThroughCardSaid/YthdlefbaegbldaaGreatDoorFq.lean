import Derived.Test.YthdlefbaegbldaaGreatDoorFp
namespace Go.Proofs.YthdlefbaegbldaaGreatDoor
open Go.RowKit
set_option linter.unusedVariables false
set_option linter.unusedSimpArgs false
set_option maxRecDepth 100000
/-- A new pipe and its two ends. -/
def PipeP (w : World) (fb pb : Nat) (F P : Nat → Option Nat) (k1 k2 j : Nat) (e : Ending) (w' : World) : Prop :=
  ∃ z1 z2 q, e = .returned (.tuple #[.int .i64 k1, .int .i64 k2, .int .i64 0]) ∧ w.heap.size ≤ z1 ∧ w.heap.size ≤ z2 ∧ w.heap.size ≤ q ∧ z1 ≠ z2 ∧ z1 ≠ q ∧ z2 ≠ q ∧
    Tab w' fb 100 (setF (setF F k1 (some z1)) k2 (some z2)) ∧ Tab w' pb 32 (setF P j (some q)) ∧ Lk w' z1 k1 2 1 true false 0 0 j ∧ Lk w' z2 k2 3 1 false true 0 0 j ∧ Pip w' q [] 0 true true ∧ ChS (fun i => i = fb ∨ i = pb) w w'
set_option maxHeartbeats 2000000 in
theorem pipeF_any {w : World} {s t c fb pb : Nat} {F P : Nat → Option Nat} (h : Fls w s t c fb pb) (hT : Tab w fb 100 F) (hP : Tab w pb 32 P) (k1 k2 j : Nat) (hk : k1 < k2) (hk2 : k2 < 100) (hj : j < 32) (hF : ∀ i, i < k2 → i ≠ k1 → F i ≠ none) (hN1 : F k1 = none) (hN2 : F k2 = none) (hQ : ∀ i, i < j → P i ≠ none) (hNQ : P j = none)
    (hl1 : 2 ≤ lft F 100) (hl2 : 1 ≤ lft P 32) (hsf : s ≠ fb) (hsp : s ≠ pb) (hfp : fb ≠ pb) :
    Calls Tryz.prog 6 #[.pointer (some ⟨s, 0, .none⟩)] w (PipeP w fb pb F P k1 k2 j) := by
  have a0 := leftF_any h hT hP
  have HH : Hid (Fls w s t c fb pb ∧ Tab w fb 100 F ∧ Tab w pb 32 P) := ⟨h, hT, hP⟩
  have HF : Hid ((∀ i, i < k2 → i ≠ k1 → F i ≠ none) ∧ F k1 = none ∧ F k2 = none ∧ (∀ i, i < j → P i ≠ none) ∧ P j = none) := ⟨hF, hN1, hN2, hQ, hNQ⟩
  have i1 : ¬ ((lft F 100 : Nat) : Int) < 2 := by omega
  have i2 : (((lft P 32 : Nat) : Int) == 0) = false := by simp; omega
  generalize lft F 100 = lf at *
  generalize lft P 32 = lp at *
  clear h hT hP hF hN1 hN2 hQ hNQ hl1 hl2
  go_enter Tryz.func6, Tryz.ntmps6
  go_wp2_with fail
  refine a0.mono ?_
  rintro _ W ⟨rfl, hW⟩
  have HW : Hid (Below w.heap.size w W ∧ Fls W s t c fb pb ∧ Tab W fb 100 F ∧ Tab W pb 32 P) := ⟨hW, HH.out.1.below hW, HH.out.2.1.below (by omega) hW, HH.out.2.2.below (by omega) hW⟩
  clear hW a0
  have a1 := isMadeF_any HW.out.2.1
  go_wp2_with fail
  refine a1.mono ?_
  rintro _ W1 ⟨rfl, hw1⟩
  obtain rfl : W = W1 := hw1.symm
  clear a1
  go_upto_region 8 with fail
  have j0 : (W.drew.cell? ⟨s, 3, .none⟩ = some (.slice (some ⟨pb, 0, .none⟩) 32 32)) := HW.out.2.1.c3
  refine wp_region_held_drew (S := fun U => (U.cell? ⟨s, 3, .none⟩ = some (.slice (some ⟨pb, 0, .none⟩) 32 32))) (by kernel_rfl) j0 (fun hHeld => ?_)
  refine wpAnyH_take (i := 0) (v := (.pointer (some ⟨s, 0, .none⟩))) rfl (by kernel_rfl) (by kernel_rfl) (by kernel_rfl) (fun _ _ _ h => h) (Or.inl ⟨by rfl, fun ww hSw => by (try dsimp only at hSw); go_simp⟩) (by assumption) ?_
  simp only [Act.put, List.setIfInBounds_toArray, List.set_cons_zero, List.set_cons_succ, List.getElem_toArray, List.getElem_cons_succ, List.getElem_cons_zero]
  refine wpAnyH_take (i := 1) (v := (.pointer (some ⟨s, 0, .none⟩))) rfl (by kernel_rfl) (by kernel_rfl) (by kernel_rfl) (fun _ _ _ h => h) (Or.inl ⟨by rfl, fun ww hSw => by (try dsimp only at hSw); go_simp⟩) (by assumption) ?_
  simp only [Act.put, List.setIfInBounds_toArray, List.set_cons_zero, List.set_cons_succ, List.getElem_toArray, List.getElem_cons_succ, List.getElem_cons_zero]
  refine wpAnyH_take (i := 2) (v := (.pointer (some ⟨s, 3, .none⟩))) rfl (by kernel_rfl) (by kernel_rfl) (by kernel_rfl) (fun _ _ _ h => h) (Or.inl ⟨by rfl, fun ww hSw => by (try dsimp only at hSw); go_simp⟩) (by assumption) ?_
  simp only [Act.put, List.setIfInBounds_toArray, List.set_cons_zero, List.set_cons_succ, List.getElem_toArray, List.getElem_cons_succ, List.getElem_cons_zero]
  refine wpAnyH_take (i := 3) (v := (.agg #[.slice (some ⟨pb, 0, .none⟩) 32 32])) rfl (by kernel_rfl) (by kernel_rfl) (by kernel_rfl) (fun _ _ _ h => h) (Or.inl ⟨by rfl, fun ww hSw => by (try dsimp only at hSw); go_simp⟩) (by assumption) ?_
  simp only [Act.put, List.setIfInBounds_toArray, List.set_cons_zero, List.set_cons_succ, List.getElem_toArray, List.getElem_cons_succ, List.getElem_cons_zero]
  refine wpAnyH_ready (rs := [4]) (by kernel_rfl) (by simp) ?_
  refine AllReadyH.cons rfl (fun K hK => ?_) AllReadyH.nil
  go_simp
  refine (new_anyP W.drew).mono ?_
  rintro _ V ⟨rfl, hpV, hV⟩
  have hV : Below W.heap.size W V := ⟨hV.os, hV.tape, hV.output, hV.size, hV.block⟩
  have bV : Below w.heap.size w V := HW.out.1.trans (hV.mono HW.out.1.size)
  have HV : Hid (Pip V W.heap.size [] 0 true true ∧ Below w.heap.size w V ∧ Fls V s t c fb pb ∧ Tab V fb 100 F ∧ Tab V pb 32 P ∧ w.heap.size ≤ W.heap.size ∧ W.heap.size < V.heap.size) := ⟨hpV, bV, HH.out.1.below bV, HH.out.2.1.below (by omega) bV, HH.out.2.2.below (by omega) bV, HW.out.1.size, hpV.lt⟩
  have kV : (V.cell? ⟨s, 3, .none⟩ = some (.slice (some ⟨pb, 0, .none⟩) 32 32)) := HV.out.2.2.1.c3
  clear hV hpV bV
  refine hK.out _ _ kV (fun hHeld => ?_)
  clear hK K
  try simp only [Act.put, List.setIfInBounds_toArray, List.set_cons_zero, List.set_cons_succ, List.getElem_toArray, List.getElem_cons_succ, List.getElem_cons_zero]
  refine wpAnyH_ready (rs := [5]) (by kernel_rfl) (by simp) ?_
  refine AllReadyH.cons rfl (fun K hK => ?_) AllReadyH.nil
  go_simp
  generalize W.heap.size = q at *
  have ca := taddP_any HV.out.2.2.2.2.1 (by omega) (by omega) j hj HF.out.2.2.2.1 HF.out.2.2.2.2 q (HV.out.2.2.2.2.1.lt (by omega))
  refine ca.mono ?_
  rintro _ U ⟨rfl, hTU, hU⟩
  have hpl : pb < w.heap.size := HH.out.2.2.lt (by omega)
  have hfl : fb < w.heap.size := HH.out.2.1.lt (by omega)
  have hsl : s < w.heap.size := HH.out.1.lt
  have HU : Hid (Pip U q [] 0 true true ∧ Fls U s t c fb pb ∧ Tab U fb 100 F ∧ Tab U pb 32 (setF P j (some q)) ∧ w.heap.size ≤ q ∧ q < U.heap.size ∧ ChS (fun i => i = fb ∨ i = pb) w U) :=
    ⟨HV.out.1.keep hU (by have := HV.out.2.2.2.2.2.1; omega), HV.out.2.2.1.keep (hU.block _ (by have := HV.out.2.1.size; omega) hsp), HV.out.2.2.2.1.keep (hU.block _ (by have := HV.out.2.1.size; omega) hfp), hTU, HV.out.2.2.2.2.2.1, Nat.lt_of_lt_of_le HV.out.2.2.2.2.2.2 hU.size, (ChS.ofBelow HV.out.2.1).trans (ChS.ofTrn hU (.inl (.inr rfl)))⟩
  have kU : (U.cell? ⟨s, 3, .none⟩ = some (.slice (some ⟨pb, 0, .none⟩) 32 32)) := HU.out.2.1.c3
  clear hTU hU ca
  refine hK.out _ _ kU (fun hHeld => ?_)
  clear hK K
  try simp only [Act.put, List.setIfInBounds_toArray, List.set_cons_zero, List.set_cons_succ, List.getElem_toArray, List.getElem_cons_succ, List.getElem_cons_zero]
  refine wpAnyH_take (i := 6) (v := (.int .i64 (j : Int))) rfl (by kernel_rfl) (by kernel_rfl) (by kernel_rfl) (fun _ _ _ h => h) (Or.inl ⟨by rfl, fun ww hSw => by (try dsimp only at hSw); go_simp⟩) (by assumption) ?_
  simp only [Act.put, List.setIfInBounds_toArray, List.set_cons_zero, List.set_cons_succ, List.getElem_toArray, List.getElem_cons_succ, List.getElem_cons_zero]
  refine wpAnyH_done (by kernel_rfl) ?_ _
  have cb := addF_any HU.out.2.1 HU.out.2.2.1 k1 (by omega) (fun i hi => HF.out.1 i (by omega) (by omega)) HF.out.2.1 0 2 0 true false 0 0 (j : Int) hsf
  go_wp2_with fail
  refine cb.mono ?_
  rintro _ X ⟨rfl, hTX, hLX, hX, hzX⟩
  have HX : Hid (Pip X q [] 0 true true ∧ Fls X s t c fb pb ∧ Tab X fb 100 (setF F k1 (some U.heap.size)) ∧ Tab X pb 32 (setF P j (some q)) ∧ Lk X U.heap.size k1 2 1 true false 0 0 j ∧ ChS (fun i => i = fb ∨ i = pb) w X ∧ U.heap.size < X.heap.size ∧ q < U.heap.size ∧ w.heap.size ≤ U.heap.size) := by
    have hsU := HU.out.2.2.2.2.2.2.size
    have hqU := HU.out.2.2.2.2.2.1
    have hwq := HU.out.2.2.2.2.1
    exact ⟨HU.out.1.keep hX (by omega), HU.out.2.1.keep (hX.block _ (by omega) hsf), hTX, HU.out.2.2.2.1.keep (hX.block _ (by omega) (by omega)), hLX, HU.out.2.2.2.2.2.2.trans (ChS.ofTrn hX (.inl (.inl rfl))), hzX, hqU, hsU⟩
  clear hTX hLX hX hzX cb
  generalize U.heap.size = z1 at *
  have cd := addF_any HX.out.2.1 HX.out.2.2.1 k2 (by omega) (fun i hi => by
    unfold setF
    split
    · intro hh; cases hh
    · exact HF.out.1 i hi (by assumption)) (by unfold setF; rw [if_neg (by omega)]; exact HF.out.2.2.1) 0 3 0 false true 0 0 (j : Int) hsf
  go_wp2_with fail
  refine cd.mono ?_
  rintro _ Y ⟨rfl, hTY, hLY, hY, hzY⟩
  have HY : Hid (PipeP w fb pb F P k1 k2 j (.returned (.tuple #[.int .i64 k1, .int .i64 k2, .int .i64 0])) Y) := by
    have a1 := HX.out.2.2.2.2.2.2.1
    have a2 := HX.out.2.2.2.2.2.2.2.1
    have a3 := HX.out.2.2.2.2.2.2.2.2
    have a4 := HX.out.2.2.2.2.2.1.size
    have a5 : fb < w.heap.size := HH.out.2.1.lt (by omega)
    have a6 : pb < w.heap.size := HH.out.2.2.lt (by omega)
    have a7 := HU.out.2.2.2.2.1
    refine ⟨z1, X.heap.size, q, rfl, a3, a4, HU.out.2.2.2.2.1, by omega, by omega, by omega, hTY, HX.out.2.2.2.1.keep (hY.block _ (by omega) (by omega)), HX.out.2.2.2.2.1.keep (hY.block _ (by omega) (by omega)), hLY, HX.out.1.keep hY (by omega), HX.out.2.2.2.2.2.1.trans (ChS.ofTrn hY (.inl (.inl rfl)))⟩
  clear hTY hLY hY hzY cd
  go_wp2
  go_ret3
  exact HY.out
end Go.Proofs.YthdlefbaegbldaaGreatDoor
