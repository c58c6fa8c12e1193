import Derived.Test.YthdlefbaegbldaaGreatDoorCw
namespace Go.Proofs.YthdlefbaegbldaaGreatDoor
open Go.RowKit
set_option linter.unusedVariables false
set_option linter.unusedSimpArgs false
set_option maxRecDepth 100000
/-- The state that is told: two rows of its own. -/
def Sta (w : World) (rs ls : List Int) (e : Ending) (w' : World) : Prop :=
  ∃ p c q d X, e = .returned (.agg #[.slice p rs.length c, .slice q ls.length d]) ∧ w'.ownsRow w.heap.size 5 1 (.slice p rs.length c) rs.length (by8 rs) ∧ w'.ownsRow X 5 1 (.slice q ls.length d) ls.length (by8 ls) ∧ w.heap.size ≤ X ∧ (∀ g, (Value.slice p rs.length c).ownBlock = some g → g < X) ∧ Below w.heap.size w w'
set_option maxHeartbeats 2000000 in
theorem state_any {w : World} {b : Nat} {rs ls : List Int} (h : Con w b rs ls) :
    Calls Tryz.prog 74 #[.pointer (some ⟨b, 0, .none⟩)] w (Sta w rs ls) := by
  have hlt := h.lt
  have hle := h.le
  have HP : Hid (Con w b rs ls) := h
  obtain ⟨R, hR⟩ : ∃ R, R = rs.length := ⟨_, rfl⟩
  obtain ⟨H, hH⟩ : ∃ H, H = rs.length + ls.length := ⟨_, rfl⟩
  have HS : Hid (R = rs.length ∧ H = rs.length + ls.length ∧ H - R = ls.length ∧ R ≤ H) := ⟨hR, hH, by omega, by omega⟩
  have hRH : R ≤ H := by omega
  have h8 : H ≤ 128 := by omega
  have rt := row_to b R R rfl (by omega)
  have rl := row_lh b R H R H rfl rfl hRH h8
  clear h hle hR hH
  have ZZ : Hid (∀ V : World, V = w.alloc (.cells #[.slice .none 0 0, .slice .none 0 0] 163) → Con V b rs ls ∧ Below w.heap.size w V ∧ V.heap.size = w.heap.size + 1 ∧ V.there w.heap.size 0 2) := by
    intro V hV
    have hb : Below w.heap.size w V := by rw [hV]; exact (Below.refl _ _).alloc (Nat.le_refl _) _
    refine ⟨HP.out.below hb, hb, by rw [hV]; simp, fun j hj => ?_⟩
    rw [hV]
    constructor
    · rw [World.cell?_alloc_at _ _ _ _ rfl]
      simp; omega
    · exact froz_new _ _ _ _
  have cS : Hid (∀ V, Con V b rs ls → (V.cell? ⟨b, 128, .none⟩ = some (.int .i64 R) ∧ V.cell? ⟨b, 129, .none⟩ = some (.int .i64 H))) := fun V hV => by
    have h1 := hV.cells.1
    have h2 := hV.cells.2.1
    rw [← HS.out.1] at h1
    rw [← HS.out.2.1] at h2
    exact ⟨h1, h2⟩
  go_enter Tryz.func74, Tryz.ntmps74
  go_wp2_with fail
  generalize hV : w.alloc (.cells #[.slice .none 0 0, .slice .none 0 0] 163) = V
  have hV2 := ZZ.out V hV.symm
  have H1 : Hid (Con V b rs ls ∧ Below w.heap.size w V ∧ V.heap.size = w.heap.size + 1 ∧ V.there w.heap.size 0 2) := hV2
  clear hV hV2 ZZ
  have c25 := isMade_any H1.out.1
  refine c25.mono ?_
  rintro e w1 ⟨rfl, hw1⟩
  obtain rfl : V = w1 := hw1.symm
  clear c25
  have kS : (V.drew.cell? ⟨b, 128, .none⟩ = some (.int .i64 R) ∧ V.drew.cell? ⟨b, 129, .none⟩ = some (.int .i64 H)) := cS.out _ (H1.out.1.drewN 1)
  go_upto_region 3 with fail
  refine wp_region_held_drew (S := fun U => (U.cell? ⟨b, 128, .none⟩ = some (.int .i64 R) ∧ U.cell? ⟨b, 129, .none⟩ = some (.int .i64 H))) (by kernel_rfl) kS (fun hHeld => ?_)
  refine wpAnyH_take (i := 0) (v := (.pointer (some ⟨b, 0, .none⟩))) rfl (by kernel_rfl) (by kernel_rfl) (by kernel_rfl) (fun _ _ _ h => h) (Or.inl ⟨by rfl, fun ww hSw => by (try dsimp only at hSw); go_simp⟩) (by assumption) ?_
  simp only [Act.put, List.setIfInBounds_toArray, List.set_cons_zero, List.set_cons_succ, List.getElem_toArray, List.getElem_cons_succ, List.getElem_cons_zero]
  refine wpAnyH_take (i := 1) (v := (.pointer (some ⟨b, 0, .none⟩))) rfl (by kernel_rfl) (by kernel_rfl) (by kernel_rfl) (fun _ _ _ h => h) (Or.inl ⟨by rfl, fun ww hSw => by (try dsimp only at hSw); go_simp⟩) (by assumption) ?_
  simp only [Act.put, List.setIfInBounds_toArray, List.set_cons_zero, List.set_cons_succ, List.getElem_toArray, List.getElem_cons_succ, List.getElem_cons_zero]
  refine wpAnyH_take (i := 2) (v := (.pointer (some ⟨b, 0, .none⟩))) rfl (by kernel_rfl) (by kernel_rfl) (by kernel_rfl) (fun _ _ _ h => h) (Or.inl ⟨by rfl, fun ww hSw => by (try dsimp only at hSw); go_simp⟩) (by assumption) ?_
  simp only [Act.put, List.setIfInBounds_toArray, List.set_cons_zero, List.set_cons_succ, List.getElem_toArray, List.getElem_cons_succ, List.getElem_cons_zero]
  refine wpAnyH_take (i := 3) (v := (.pointer (some ⟨b, 0, .none⟩))) rfl (by kernel_rfl) (by kernel_rfl) (by kernel_rfl) (fun _ _ _ h => h) (Or.inl ⟨by rfl, fun ww hSw => by (try dsimp only at hSw); go_simp⟩) (by assumption) ?_
  simp only [Act.put, List.setIfInBounds_toArray, List.set_cons_zero, List.set_cons_succ, List.getElem_toArray, List.getElem_cons_succ, List.getElem_cons_zero]
  refine wpAnyH_take (i := 4) (v := (.pointer (some ⟨b, 0, .none⟩))) rfl (by kernel_rfl) (by kernel_rfl) (by kernel_rfl) (fun _ _ _ h => h) (Or.inl ⟨by rfl, fun ww hSw => by (try dsimp only at hSw); go_simp⟩) (by assumption) ?_
  simp only [Act.put, List.setIfInBounds_toArray, List.set_cons_zero, List.set_cons_succ, List.getElem_toArray, List.getElem_cons_succ, List.getElem_cons_zero]
  refine wpAnyH_take (i := 5) (v := (.pointer (some ⟨b, 128, .none⟩))) rfl (by kernel_rfl) (by kernel_rfl) (by kernel_rfl) (fun _ _ _ h => h) (Or.inl ⟨by rfl, fun ww hSw => by (try dsimp only at hSw); go_simp⟩) (by assumption) ?_
  simp only [Act.put, List.setIfInBounds_toArray, List.set_cons_zero, List.set_cons_succ, List.getElem_toArray, List.getElem_cons_succ, List.getElem_cons_zero]
  refine wpAnyH_take (i := 6) (v := (.int .i64 R)) rfl (by kernel_rfl) (by kernel_rfl) (by kernel_rfl) (fun _ _ _ h => h) (Or.inl ⟨by rfl, fun ww hSw => by (try dsimp only at hSw); go_simp⟩) (by assumption) ?_
  simp only [Act.put, List.setIfInBounds_toArray, List.set_cons_zero, List.set_cons_succ, List.getElem_toArray, List.getElem_cons_succ, List.getElem_cons_zero]
  refine wpAnyH_take (i := 7) (v := (.slice (some ⟨b, 0, .none⟩) R 128)) rfl (by kernel_rfl) (by kernel_rfl) (by kernel_rfl) (fun _ _ _ h => h) (Or.inl ⟨by rfl, fun ww hSw => by (try dsimp only at hSw); go_simp⟩) (by assumption) ?_
  simp only [Act.put, List.setIfInBounds_toArray, List.set_cons_zero, List.set_cons_succ, List.getElem_toArray, List.getElem_cons_succ, List.getElem_cons_zero]
  refine wpAnyH_take (i := 9) (v := (.pointer (some ⟨b, 0, .none⟩))) rfl (by kernel_rfl) (by kernel_rfl) (by kernel_rfl) (fun _ _ _ h => h) (Or.inl ⟨by rfl, fun ww hSw => by (try dsimp only at hSw); go_simp⟩) (by assumption) ?_
  simp only [Act.put, List.setIfInBounds_toArray, List.set_cons_zero, List.set_cons_succ, List.getElem_toArray, List.getElem_cons_succ, List.getElem_cons_zero]
  refine wpAnyH_take (i := 10) (v := (.pointer (some ⟨b, 0, .none⟩))) rfl (by kernel_rfl) (by kernel_rfl) (by kernel_rfl) (fun _ _ _ h => h) (Or.inl ⟨by rfl, fun ww hSw => by (try dsimp only at hSw); go_simp⟩) (by assumption) ?_
  simp only [Act.put, List.setIfInBounds_toArray, List.set_cons_zero, List.set_cons_succ, List.getElem_toArray, List.getElem_cons_succ, List.getElem_cons_zero]
  refine wpAnyH_take (i := 11) (v := (.pointer (some ⟨b, 0, .none⟩))) rfl (by kernel_rfl) (by kernel_rfl) (by kernel_rfl) (fun _ _ _ h => h) (Or.inl ⟨by rfl, fun ww hSw => by (try dsimp only at hSw); go_simp⟩) (by assumption) ?_
  simp only [Act.put, List.setIfInBounds_toArray, List.set_cons_zero, List.set_cons_succ, List.getElem_toArray, List.getElem_cons_succ, List.getElem_cons_zero]
  refine wpAnyH_take (i := 12) (v := (.pointer (some ⟨b, 0, .none⟩))) rfl (by kernel_rfl) (by kernel_rfl) (by kernel_rfl) (fun _ _ _ h => h) (Or.inl ⟨by rfl, fun ww hSw => by (try dsimp only at hSw); go_simp⟩) (by assumption) ?_
  simp only [Act.put, List.setIfInBounds_toArray, List.set_cons_zero, List.set_cons_succ, List.getElem_toArray, List.getElem_cons_succ, List.getElem_cons_zero]
  refine wpAnyH_take (i := 13) (v := (.pointer (some ⟨b, 0, .none⟩))) rfl (by kernel_rfl) (by kernel_rfl) (by kernel_rfl) (fun _ _ _ h => h) (Or.inl ⟨by rfl, fun ww hSw => by (try dsimp only at hSw); go_simp⟩) (by assumption) ?_
  simp only [Act.put, List.setIfInBounds_toArray, List.set_cons_zero, List.set_cons_succ, List.getElem_toArray, List.getElem_cons_succ, List.getElem_cons_zero]
  refine wpAnyH_take (i := 14) (v := (.pointer (some ⟨b, 128, .none⟩))) rfl (by kernel_rfl) (by kernel_rfl) (by kernel_rfl) (fun _ _ _ h => h) (Or.inl ⟨by rfl, fun ww hSw => by (try dsimp only at hSw); go_simp⟩) (by assumption) ?_
  simp only [Act.put, List.setIfInBounds_toArray, List.set_cons_zero, List.set_cons_succ, List.getElem_toArray, List.getElem_cons_succ, List.getElem_cons_zero]
  refine wpAnyH_take (i := 15) (v := (.int .i64 R)) rfl (by kernel_rfl) (by kernel_rfl) (by kernel_rfl) (fun _ _ _ h => h) (Or.inl ⟨by rfl, fun ww hSw => by (try dsimp only at hSw); go_simp⟩) (by assumption) ?_
  simp only [Act.put, List.setIfInBounds_toArray, List.set_cons_zero, List.set_cons_succ, List.getElem_toArray, List.getElem_cons_succ, List.getElem_cons_zero]
  refine wpAnyH_take (i := 16) (v := (.pointer (some ⟨b, 0, .none⟩))) rfl (by kernel_rfl) (by kernel_rfl) (by kernel_rfl) (fun _ _ _ h => h) (Or.inl ⟨by rfl, fun ww hSw => by (try dsimp only at hSw); go_simp⟩) (by assumption) ?_
  simp only [Act.put, List.setIfInBounds_toArray, List.set_cons_zero, List.set_cons_succ, List.getElem_toArray, List.getElem_cons_succ, List.getElem_cons_zero]
  refine wpAnyH_take (i := 17) (v := (.pointer (some ⟨b, 0, .none⟩))) rfl (by kernel_rfl) (by kernel_rfl) (by kernel_rfl) (fun _ _ _ h => h) (Or.inl ⟨by rfl, fun ww hSw => by (try dsimp only at hSw); go_simp⟩) (by assumption) ?_
  simp only [Act.put, List.setIfInBounds_toArray, List.set_cons_zero, List.set_cons_succ, List.getElem_toArray, List.getElem_cons_succ, List.getElem_cons_zero]
  refine wpAnyH_take (i := 18) (v := (.pointer (some ⟨b, 129, .none⟩))) rfl (by kernel_rfl) (by kernel_rfl) (by kernel_rfl) (fun _ _ _ h => h) (Or.inl ⟨by rfl, fun ww hSw => by (try dsimp only at hSw); go_simp⟩) (by assumption) ?_
  simp only [Act.put, List.setIfInBounds_toArray, List.set_cons_zero, List.set_cons_succ, List.getElem_toArray, List.getElem_cons_succ, List.getElem_cons_zero]
  refine wpAnyH_take (i := 19) (v := (.int .i64 H)) rfl (by kernel_rfl) (by kernel_rfl) (by kernel_rfl) (fun _ _ _ h => h) (Or.inl ⟨by rfl, fun ww hSw => by (try dsimp only at hSw); go_simp⟩) (by assumption) ?_
  simp only [Act.put, List.setIfInBounds_toArray, List.set_cons_zero, List.set_cons_succ, List.getElem_toArray, List.getElem_cons_succ, List.getElem_cons_zero]
  refine wpAnyH_take (i := 20) (v := (.slice (some ⟨b, rat R, .none⟩) (H - R) (128 - R))) rfl (by kernel_rfl) (by kernel_rfl) (by kernel_rfl) (fun _ _ _ h => h) (Or.inl ⟨by rfl, fun ww hSw => by (try dsimp only at hSw); go_simp⟩) (by assumption) ?_
  simp only [Act.put, List.setIfInBounds_toArray, List.set_cons_zero, List.set_cons_succ, List.getElem_toArray, List.getElem_cons_succ, List.getElem_cons_zero]
  refine wpAnyH_ready (rs := [8]) (by kernel_rfl) (by simp) ?_
  refine AllReadyH.cons rfl (fun K hK => ?_) AllReadyH.nil
  go_simp
  have BY : Byt V.drew (some ⟨b, 0, .none⟩) R 128 rs := by
    have := (H1.out.1.drewN 1).byt 0 R 128 (by have := HS.out; omega) (by omega) (by omega)
    rw [List.drop_zero, List.take_append_of_le_length (by have := HS.out; omega), List.take_of_length_le (by have := HS.out; omega)] at this
    exact this
  refine (copyOf_any BY (by omega)).mono ?_
  rintro e V1 ⟨p, c, rfl, hO, hb1⟩
  rw [← HS.out.1] at hO ⊢
  have H2 : Hid (Con V1 b rs ls ∧ Below w.heap.size w V1 ∧ w.heap.size < V1.heap.size ∧ V1.there w.heap.size 0 2 ∧ V1.ownsRow (w.heap.size + 1) 5 1 (.slice p R c) R (by8 rs)) := by
    have e1 : V.drew.heap.size = w.heap.size + 1 := H1.out.2.2.1
    have bD : Below w.heap.size w V.drew := ⟨H1.out.2.1.os, H1.out.2.1.tape, H1.out.2.1.output, H1.out.2.1.size, H1.out.2.1.block⟩
    refine ⟨(H1.out.1.drewN 1).below hb1, bD.trans (hb1.mono (by omega)), by have := hb1.size; omega, fun j hj => ?_, ?_⟩
    · have := H1.out.2.2.2 j hj
      exact ⟨by rw [hb1.cell (p := ⟨w.heap.size, 0 + j, .none⟩) (by show w.heap.size < _; omega)]; exact this.1, by rw [hb1.frozen (p := ⟨w.heap.size, 0 + j, .none⟩) (by show w.heap.size < _; omega)]; exact this.2⟩
    · rw [e1] at hO
      exact hO
  have kS1 : (V1.cell? ⟨b, 128, .none⟩ = some (.int .i64 R) ∧ V1.cell? ⟨b, 129, .none⟩ = some (.int .i64 H)) := cS.out _ H2.out.1
  clear hO hb1 BY kS
  refine hK.out _ _ kS1 (fun hHeld => ?_)
  clear hK K
  try simp only [Act.put, List.setIfInBounds_toArray, List.set_cons_zero, List.set_cons_succ, List.getElem_toArray, List.getElem_cons_succ, List.getElem_cons_zero]
  refine wpAnyH_ready (rs := [21]) (by kernel_rfl) (by simp) ?_
  refine AllReadyH.cons rfl (fun K hK => ?_) AllReadyH.nil
  go_simp
  have BY : Byt V1 (some ⟨b, rat R, .none⟩) (H - R) (128 - R) ls := by
    have := H2.out.1.bytR R H hRH (by have := HS.out; omega)
    rw [HS.out.1, List.drop_left, ← HS.out.1, List.take_of_length_le (by have := HS.out; omega)] at this
    exact this
  refine (copyOf_any BY (by omega)).mono ?_
  rintro e V2 ⟨q, d, rfl, hO, hb2⟩
  rw [← HS.out.2.2.1] at hO ⊢
  have H3 : Hid (Con V2 b rs ls ∧ Below w.heap.size w V2 ∧ w.heap.size < V1.heap.size ∧ V1.heap.size ≤ V2.heap.size ∧ V2.there w.heap.size 0 2 ∧ V2.ownsRow (w.heap.size + 1) 5 1 (.slice p R c) R (by8 rs) ∧ V2.ownsRow V1.heap.size 5 1 (.slice q (H - R) d) (H - R) (by8 ls) ∧ (∀ g, (Value.slice p R c).ownBlock = some g → g < V1.heap.size)) := by
    have e1 := H2.out.2.2.1
    refine ⟨H2.out.1.below hb2, H2.out.2.1.trans (hb2.mono (by omega)), e1, hb2.size, fun j hj => ?_, (Chg.ofBelow (S := fun _ => False) hb2).own H2.out.2.2.2.2 (fun _ _ h => h), hO, own_ltC H2.out.2.2.2.2⟩
    have := H2.out.2.2.2.1 j hj
    exact ⟨by rw [hb2.cell (p := ⟨w.heap.size, 0 + j, .none⟩) (by show w.heap.size < _; omega)]; exact this.1, by rw [hb2.frozen (p := ⟨w.heap.size, 0 + j, .none⟩) (by show w.heap.size < _; omega)]; exact this.2⟩
  have kS2 : (V2.cell? ⟨b, 128, .none⟩ = some (.int .i64 R) ∧ V2.cell? ⟨b, 129, .none⟩ = some (.int .i64 H)) := cS.out _ H3.out.1
  clear hO hb2 BY kS1 H2
  generalize V1.heap.size = X at *
  refine hK.out _ _ kS2 (fun hHeld => ?_)
  clear hK K
  try simp only [Act.put, List.setIfInBounds_toArray, List.set_cons_zero, List.set_cons_succ, List.getElem_toArray, List.getElem_cons_succ, List.getElem_cons_zero]
  refine wpAnyH_take (i := 22) (v := (.agg #[.slice p R c, .slice q (H - R) d])) rfl (by kernel_rfl) (by kernel_rfl) (by kernel_rfl) (fun _ _ _ h => h) (Or.inl ⟨by rfl, fun ww hSw => by (try dsimp only at hSw); go_simp⟩) (by assumption) ?_
  simp only [Act.put, List.setIfInBounds_toArray, List.set_cons_zero, List.set_cons_succ, List.getElem_toArray, List.getElem_cons_succ, List.getElem_cons_zero]
  refine wpAnyH_ready (rs := [23]) (by kernel_rfl) (by simp) ?_
  refine AllReadyH.cons rfl (fun K hK => ?_) AllReadyH.nil
  refine step_store_mid rfl 163 (.tmp 2) (.tmp 29) rfl w.heap.size 0 #[.slice p R c, .slice q (H - R) d] (by simp [Act.eval]) (by simp [Act.eval]) H3.out.2.2.2.2.1 (by kernel_rfl) (by simp [Value.oneCell']) ?_
  have t3 : Trn w.heap.size V2 (V2.setCells w.heap.size 0 [.slice p R c, .slice q (H - R) d]) := Trn.setCells _ _ _ _
  have hr3 : (V2.setCells w.heap.size 0 [.slice p R c, .slice q (H - R) d]).rangeAt w.heap.size 0 [.slice p R c, .slice q (H - R) d] := World.rangeAt_setCells_same _ _ _ _ H3.out.2.2.2.2.1
  generalize hV3 : V2.setCells w.heap.size 0 [.slice p R c, .slice q (H - R) d] = V3 at t3 hr3
  have H4 : Hid (Con V3 b rs ls ∧ Below w.heap.size w V3 ∧ V3.ownsRow w.heap.size 5 1 (.slice p R c) R (by8 rs) ∧ V3.ownsRow X 5 1 (.slice q (H - R) d) (H - R) (by8 ls) ∧ w.heap.size ≤ X ∧ (∀ g, (Value.slice p R c).ownBlock = some g → g < X)) := by
    have h3 := H3.out
    refine ⟨h3.1.keep (Chg.ofTrn t3) (by show b ≠ _; omega), h3.2.1.trans (t3.toBelow (Nat.le_refl _) (by omega)), own_mono (t3.own h3.2.2.2.2.2.1 (fun g hg e => ?_)) (by omega), t3.own h3.2.2.2.2.2.2.1 (fun g hg e => ?_), by omega, h3.2.2.2.2.2.2.2⟩
    · have := own_block h3.2.2.2.2.2.1 g hg
      omega
    · have := own_block h3.2.2.2.2.2.2.1 g hg
      omega
  have HR : Hid (V3.rangeAt w.heap.size 0 [.slice p R c, .slice q (H - R) d]) := hr3
  have kS3 : (V3.cell? ⟨b, 128, .none⟩ = some (.int .i64 R) ∧ V3.cell? ⟨b, 129, .none⟩ = some (.int .i64 H)) := cS.out _ H4.out.1
  clear t3 hr3
  try clear hV3
  refine hK.out _ _ kS3 (fun hHeld => ?_)
  clear hK K
  try simp only [Act.put, List.setIfInBounds_toArray, List.set_cons_zero, List.set_cons_succ, List.getElem_toArray, List.getElem_cons_succ, List.getElem_cons_zero]
  refine wpAnyH_done (by kernel_rfl) ?_ _
  go_wp2
  refine bodyPost_ret (results_cell_any (p := 2) (ty := 163) rfl _ _ ⟨w.heap.size, 0, .none⟩ _ rfl (run_loadVar_mid (P := Tryz.prog) _ w.heap.size 0 163 _ _ HR.out Tryz.underlying163 rfl (by kernel_rfl))) rfl ?_
  have h4 := H4.out
  have hs := HS.out
  obtain ⟨rfl, h2, h3, _⟩ := hs
  rw [h3] at h4
  exact ⟨p, c, q, d, X, by rw [h3], h4.2.2.1, h4.2.2.2.1, h4.2.2.2.2.1, h4.2.2.2.2.2, h4.2.1⟩
/-- A console's cells when it is made. -/
def cz (md : Bool) : Array Value := (List.replicate 128 (Value.int .u8 0) ++ ([.int .i64 0, .int .i64 0, .bool md] : List Value)).toArray
theorem cz_low (md : Bool) (i : Nat) (h : i < 128) : (cz md)[i]? = some (.int .u8 0) := by
  unfold cz
  rw [List.getElem?_toArray, List.getElem?_append_left (by rw [List.length_replicate]; exact h), List.getElem?_replicate, if_pos h]
theorem cz_hi (md : Bool) (j : Nat) (i : Nat) (hi : i = 128 + j) : (cz md)[i]? = ([.int .i64 0, .int .i64 0, .bool md] : List Value)[j]? := by
  subst hi
  unfold cz
  rw [List.getElem?_toArray, List.getElem?_append_right (by rw [List.length_replicate]; omega), List.length_replicate, Nat.add_sub_cancel_left]
theorem built_new : Tryz.prog.built 137 [(3, .bool true)] = some (cz true) := by kernel_rfl
theorem built_zero : Tryz.prog.built 137 [] = some (cz false) := by kernel_rfl
theorem con_new (w : World) : Con (w.alloc (.cells (cz true) 137)) w.heap.size [] [] := by
  have hc : ∀ i v, (cz true)[i]? = some v → (w.alloc (.cells (cz true) 137)).cell? ⟨w.heap.size, i, .none⟩ = some v := fun i v h => by
    rw [World.cell?_alloc_at _ _ _ _ rfl]
    exact h
  exact ⟨fun _ => 0, ⟨fun i hi => hc i _ (cz_low _ i hi), fun i => froz_new _ _ _ _, hc _ _ (cz_hi _ 0 128 rfl), hc _ _ (cz_hi _ 1 129 rfl), hc _ _ (cz_hi _ 2 130 rfl), fun _ => by decide, by simp⟩, fun j x h => by simp at h⟩
set_option maxHeartbeats 1000000 in
theorem new_any (w : World) : Calls Tryz.prog 25 #[] w fun e w' => e = .returned (.pointer (some ⟨w.heap.size, 0, .none⟩)) ∧ Con w' w.heap.size [] [] ∧ Below w.heap.size w w' := by
  go_enter Tryz.func25, Tryz.ntmps25
  go_upto_region 1 with fail
  refine wp_region_lit ?_
  refine wpl_built rfl 137 _ rfl (some 1) rfl (cz true) (by simp only [List.map_toArray, List.map_cons, List.map_nil, Act.eval]; exact built_new) ?_
  simp only [Act.put, List.setIfInBounds_toArray, List.set_cons_succ, List.set_cons_zero]
  refine Great.wpList_boxTo rfl 137 (.tmp 1) rfl (some 2) rfl w.heap.size rfl (cz true) rfl ?_
  simp only [Act.put, List.setIfInBounds_toArray, List.set_cons_succ, List.set_cons_zero]
  have HC : Hid (Con (w.alloc (.cells (cz true) 137)) w.heap.size [] [] ∧ Below w.heap.size w (w.alloc (.cells (cz true) 137))) := ⟨con_new w, Trn.new w _⟩
  generalize w.alloc (.cells (cz true) 137) = W1 at *
  generalize cz true = Z at *
  go_wp2
  go_ret
  exact ⟨rfl, HC.out.1, HC.out.2⟩
end Go.Proofs.YthdlefbaegbldaaGreatDoor
