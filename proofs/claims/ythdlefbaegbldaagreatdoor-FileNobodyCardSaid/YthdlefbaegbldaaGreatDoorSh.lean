import Derived.Test.YthdlefbaegbldaaGreatDoorPu
import Derived.Deep.RegionHeld
namespace Go.Proofs.YthdlefbaegbldaaGreatDoor
open Go.RowKit
set_option linter.unusedVariables false
set_option linter.unusedSimpArgs false
set_option maxRecDepth 100000
section
variable {w : World} {b : Nat} {xs : List Int} {r : Int} {rd wt : Bool}
theorem Pip.setRd (h : Pip w b xs r rd wt) (x : Bool) : Pip (w.setCell ⟨b, 514, .none⟩ (.bool x)) b xs r x wt := by
  obtain ⟨h1, B, h2, h3⟩ := h
  exact ⟨h1, B, h2.setRd x, h3⟩
theorem Pip.setWt (h : Pip w b xs r rd wt) (x : Bool) : Pip (w.setCell ⟨b, 515, .none⟩ (.bool x)) b xs r rd x := by
  obtain ⟨h1, B, h2, h3⟩ := h
  exact ⟨h1, B, h2.setWt x, h3⟩
theorem Pip.cells (h : Pip w b xs r rd wt) : (w.cell? ⟨b, 512, .none⟩ = some (.int .u32 r) ∧ w.cell? ⟨b, 513, .none⟩ = some (.int .u32 ((r + xs.length) % 4294967296)) ∧ w.cell? ⟨b, 514, .none⟩ = some (.bool rd) ∧ w.cell? ⟨b, 515, .none⟩ = some (.bool wt)) ∧ ∀ i, w.frozen? ⟨b, i, .none⟩ = false := by
  obtain ⟨h1, B, h2, h3⟩ := h
  exact ⟨⟨h2.c1, h2.c2, h2.c3, h2.c4⟩, h2.fb⟩
end
set_option maxHeartbeats 1000000 in
theorem shut_pip {w : World} {b : Nat} {xs : List Int} {r : Int} {rd wt : Bool} (h : Pip w b xs r rd wt) (x : Bool) :
    Calls Tryz.prog 62 #[.pointer (some ⟨b, 0, .none⟩), .bool x] w fun e w' => (∃ v, e = .returned v) ∧ Pip w' b xs r (if x then false else rd) (if x then wt else false) ∧ Trn b w w' := by
  have c25 := pip_made h
  have HP : Hid (Pip w b xs r rd wt) := h
  obtain ⟨⟨_, _, c3, c4⟩, hf⟩ := h.cells
  have f3 := hf 514
  have f4 := hf 515
  clear hf h
  cases x with
  | true =>
    go_enter Tryz.func62, Tryz.ntmps62
    go_wp2_with fail
    refine c25.mono ?_
    rintro e w1 ⟨rfl, hw1⟩
    obtain rfl : w = w1 := hw1.symm
    go_wp2
    go_end0
    exact ⟨⟨_, rfl⟩, HP.out.setRd false, Trn.setCell _ _ _ _⟩
  | false =>
    go_enter Tryz.func62, Tryz.ntmps62
    go_wp2_with fail
    refine c25.mono ?_
    rintro e w1 ⟨rfl, hw1⟩
    obtain rfl : w = w1 := hw1.symm
    go_wp2
    go_end0
    exact ⟨⟨_, rfl⟩, HP.out.setWt false, Trn.setCell _ _ _ _⟩
/-- The state that is told. -/
def stt (p : Option Addr) (L c : Nat) (r : Int) (rd wt : Bool) : Value := .agg #[.slice p L c, .int .u32 r, .int .u32 ((r + L) % 4294967296), .bool rd, .bool wt]
set_option maxHeartbeats 2000000 in
theorem state_pip {w : World} {b : Nat} {xs : List Int} {r : Int} {rd wt : Bool} (h : Pip w b xs r rd wt) :
    Calls Tryz.prog 37 #[.pointer (some ⟨b, 0, .none⟩)] w fun e w' => ∃ p c, e = .returned (stt p xs.length c r rd wt) ∧ w'.ownsRow w.heap.size 5 1 (.slice p xs.length c) xs.length (by8 xs) ∧ Below w.heap.size w w' ∧ (xs.length = 0 → p = none ∧ c = 0) := by
  have hlt := h.lt
  have HP : Hid (Pip w b xs r rd wt) := h
  obtain ⟨s, hs⟩ : ∃ s, s = (r + (xs.length : Int)) % 4294967296 := ⟨_, rfl⟩
  have HS : Hid (s = (r + (xs.length : Int)) % 4294967296) := hs
  clear h hs
  have ZZ : Hid (∀ V : World, V = w.alloc (.cells #[.slice .none 0 0, .int .u32 0, .int .u32 0, .bool false, .bool false] 53) → Pip V b xs r rd wt ∧ Below w.heap.size w V ∧ V.heap.size = w.heap.size + 1 ∧ V.there w.heap.size 0 5) := by
    intro V hV
    have hb : Below w.heap.size w V := by rw [hV]; exact (Below.refl _ _).alloc (Nat.le_refl _) _
    refine ⟨HP.out.below hb, hb, by rw [hV]; simp, fun j hj => ?_⟩
    rw [hV]
    constructor
    · rw [World.cell?_alloc_at _ _ _ _ rfl]
      simp; omega
    · exact froz_new _ _ _ _
  go_enter Tryz.func37, Tryz.ntmps37
  go_wp2_with fail
  generalize hV : w.alloc (.cells #[.slice .none 0 0, .int .u32 0, .int .u32 0, .bool false, .bool false] 53) = V
  have hV2 := ZZ.out V hV.symm
  have H1 : Hid (Pip V b xs r rd wt ∧ Below w.heap.size w V ∧ V.heap.size = w.heap.size + 1 ∧ V.there w.heap.size 0 5) := hV2
  clear hV hV2 ZZ
  have c25 := pip_made H1.out.1
  refine c25.mono ?_
  rintro e w1 ⟨rfl, hw1⟩
  obtain rfl : V = w1 := hw1.symm
  clear c25
  have kS : (V.drew.cell? ⟨b, 512, .none⟩ = some (.int .u32 r) ∧ V.drew.cell? ⟨b, 513, .none⟩ = some (.int .u32 s) ∧ V.drew.cell? ⟨b, 514, .none⟩ = some (.bool rd) ∧ V.drew.cell? ⟨b, 515, .none⟩ = some (.bool wt)) := by
    have := H1.out.1.cells.1
    rw [← HS.out] at this
    exact this
  go_upto_region 3 with fail
  refine wp_region_held_drew (S := fun U => (U.cell? ⟨b, 512, .none⟩ = some (.int .u32 r) ∧ U.cell? ⟨b, 513, .none⟩ = some (.int .u32 s) ∧ U.cell? ⟨b, 514, .none⟩ = some (.bool rd) ∧ U.cell? ⟨b, 515, .none⟩ = some (.bool wt))) (by kernel_rfl) kS (fun hHeld => ?_)
  refine wpAnyH_take (i := 0) (v := (.pointer (some ⟨b, 0, .none⟩))) rfl (by kernel_rfl) (by kernel_rfl) (by kernel_rfl) (fun _ _ _ h => h) (Or.inl ⟨by rfl, fun ww hSw => by (try dsimp only at hSw); go_simp⟩) (by assumption) ?_
  simp only [Act.put, List.setIfInBounds_toArray, List.set_cons_zero, List.set_cons_succ, List.getElem_toArray, List.getElem_cons_succ, List.getElem_cons_zero]
  refine wpAnyH_take (i := 1) (v := (.pointer (some ⟨b, 0, .none⟩))) rfl (by kernel_rfl) (by kernel_rfl) (by kernel_rfl) (fun _ _ _ h => h) (Or.inl ⟨by rfl, fun ww hSw => by (try dsimp only at hSw); go_simp⟩) (by assumption) ?_
  simp only [Act.put, List.setIfInBounds_toArray, List.set_cons_zero, List.set_cons_succ, List.getElem_toArray, List.getElem_cons_succ, List.getElem_cons_zero]
  refine wpAnyH_take (i := 4) (v := (.pointer (some ⟨b, 0, .none⟩))) rfl (by kernel_rfl) (by kernel_rfl) (by kernel_rfl) (fun _ _ _ h => h) (Or.inl ⟨by rfl, fun ww hSw => by (try dsimp only at hSw); go_simp⟩) (by assumption) ?_
  simp only [Act.put, List.setIfInBounds_toArray, List.set_cons_zero, List.set_cons_succ, List.getElem_toArray, List.getElem_cons_succ, List.getElem_cons_zero]
  refine wpAnyH_take (i := 5) (v := (.pointer (some ⟨b, 0, .none⟩))) rfl (by kernel_rfl) (by kernel_rfl) (by kernel_rfl) (fun _ _ _ h => h) (Or.inl ⟨by rfl, fun ww hSw => by (try dsimp only at hSw); go_simp⟩) (by assumption) ?_
  simp only [Act.put, List.setIfInBounds_toArray, List.set_cons_zero, List.set_cons_succ, List.getElem_toArray, List.getElem_cons_succ, List.getElem_cons_zero]
  refine wpAnyH_take (i := 6) (v := (.pointer (some ⟨b, 512, .none⟩))) rfl (by kernel_rfl) (by kernel_rfl) (by kernel_rfl) (fun _ _ _ h => h) (Or.inl ⟨by rfl, fun ww hSw => by (try dsimp only at hSw); go_simp⟩) (by assumption) ?_
  simp only [Act.put, List.setIfInBounds_toArray, List.set_cons_zero, List.set_cons_succ, List.getElem_toArray, List.getElem_cons_succ, List.getElem_cons_zero]
  refine wpAnyH_take (i := 7) (v := (.int .u32 r)) rfl (by kernel_rfl) (by kernel_rfl) (by kernel_rfl) (fun _ _ _ h => h) (Or.inl ⟨by rfl, fun ww hSw => by (try dsimp only at hSw); go_simp⟩) (by assumption) ?_
  simp only [Act.put, List.setIfInBounds_toArray, List.set_cons_zero, List.set_cons_succ, List.getElem_toArray, List.getElem_cons_succ, List.getElem_cons_zero]
  refine wpAnyH_take (i := 8) (v := (.pointer (some ⟨b, 0, .none⟩))) rfl (by kernel_rfl) (by kernel_rfl) (by kernel_rfl) (fun _ _ _ h => h) (Or.inl ⟨by rfl, fun ww hSw => by (try dsimp only at hSw); go_simp⟩) (by assumption) ?_
  simp only [Act.put, List.setIfInBounds_toArray, List.set_cons_zero, List.set_cons_succ, List.getElem_toArray, List.getElem_cons_succ, List.getElem_cons_zero]
  refine wpAnyH_take (i := 9) (v := (.pointer (some ⟨b, 0, .none⟩))) rfl (by kernel_rfl) (by kernel_rfl) (by kernel_rfl) (fun _ _ _ h => h) (Or.inl ⟨by rfl, fun ww hSw => by (try dsimp only at hSw); go_simp⟩) (by assumption) ?_
  simp only [Act.put, List.setIfInBounds_toArray, List.set_cons_zero, List.set_cons_succ, List.getElem_toArray, List.getElem_cons_succ, List.getElem_cons_zero]
  refine wpAnyH_take (i := 10) (v := (.pointer (some ⟨b, 513, .none⟩))) rfl (by kernel_rfl) (by kernel_rfl) (by kernel_rfl) (fun _ _ _ h => h) (Or.inl ⟨by rfl, fun ww hSw => by (try dsimp only at hSw); go_simp⟩) (by assumption) ?_
  simp only [Act.put, List.setIfInBounds_toArray, List.set_cons_zero, List.set_cons_succ, List.getElem_toArray, List.getElem_cons_succ, List.getElem_cons_zero]
  refine wpAnyH_take (i := 11) (v := (.int .u32 s)) rfl (by kernel_rfl) (by kernel_rfl) (by kernel_rfl) (fun _ _ _ h => h) (Or.inl ⟨by rfl, fun ww hSw => by (try dsimp only at hSw); go_simp⟩) (by assumption) ?_
  simp only [Act.put, List.setIfInBounds_toArray, List.set_cons_zero, List.set_cons_succ, List.getElem_toArray, List.getElem_cons_succ, List.getElem_cons_zero]
  refine wpAnyH_take (i := 12) (v := (.pointer (some ⟨b, 0, .none⟩))) rfl (by kernel_rfl) (by kernel_rfl) (by kernel_rfl) (fun _ _ _ h => h) (Or.inl ⟨by rfl, fun ww hSw => by (try dsimp only at hSw); go_simp⟩) (by assumption) ?_
  simp only [Act.put, List.setIfInBounds_toArray, List.set_cons_zero, List.set_cons_succ, List.getElem_toArray, List.getElem_cons_succ, List.getElem_cons_zero]
  refine wpAnyH_take (i := 13) (v := (.pointer (some ⟨b, 0, .none⟩))) rfl (by kernel_rfl) (by kernel_rfl) (by kernel_rfl) (fun _ _ _ h => h) (Or.inl ⟨by rfl, fun ww hSw => by (try dsimp only at hSw); go_simp⟩) (by assumption) ?_
  simp only [Act.put, List.setIfInBounds_toArray, List.set_cons_zero, List.set_cons_succ, List.getElem_toArray, List.getElem_cons_succ, List.getElem_cons_zero]
  refine wpAnyH_take (i := 14) (v := (.pointer (some ⟨b, 514, .none⟩))) rfl (by kernel_rfl) (by kernel_rfl) (by kernel_rfl) (fun _ _ _ h => h) (Or.inl ⟨by rfl, fun ww hSw => by (try dsimp only at hSw); go_simp⟩) (by assumption) ?_
  simp only [Act.put, List.setIfInBounds_toArray, List.set_cons_zero, List.set_cons_succ, List.getElem_toArray, List.getElem_cons_succ, List.getElem_cons_zero]
  refine wpAnyH_take (i := 15) (v := (.bool rd)) rfl (by kernel_rfl) (by kernel_rfl) (by kernel_rfl) (fun _ _ _ h => h) (Or.inl ⟨by rfl, fun ww hSw => by (try dsimp only at hSw); go_simp⟩) (by assumption) ?_
  simp only [Act.put, List.setIfInBounds_toArray, List.set_cons_zero, List.set_cons_succ, List.getElem_toArray, List.getElem_cons_succ, List.getElem_cons_zero]
  refine wpAnyH_take (i := 16) (v := (.pointer (some ⟨b, 0, .none⟩))) rfl (by kernel_rfl) (by kernel_rfl) (by kernel_rfl) (fun _ _ _ h => h) (Or.inl ⟨by rfl, fun ww hSw => by (try dsimp only at hSw); go_simp⟩) (by assumption) ?_
  simp only [Act.put, List.setIfInBounds_toArray, List.set_cons_zero, List.set_cons_succ, List.getElem_toArray, List.getElem_cons_succ, List.getElem_cons_zero]
  refine wpAnyH_take (i := 17) (v := (.pointer (some ⟨b, 0, .none⟩))) rfl (by kernel_rfl) (by kernel_rfl) (by kernel_rfl) (fun _ _ _ h => h) (Or.inl ⟨by rfl, fun ww hSw => by (try dsimp only at hSw); go_simp⟩) (by assumption) ?_
  simp only [Act.put, List.setIfInBounds_toArray, List.set_cons_zero, List.set_cons_succ, List.getElem_toArray, List.getElem_cons_succ, List.getElem_cons_zero]
  refine wpAnyH_take (i := 18) (v := (.pointer (some ⟨b, 515, .none⟩))) rfl (by kernel_rfl) (by kernel_rfl) (by kernel_rfl) (fun _ _ _ h => h) (Or.inl ⟨by rfl, fun ww hSw => by (try dsimp only at hSw); go_simp⟩) (by assumption) ?_
  simp only [Act.put, List.setIfInBounds_toArray, List.set_cons_zero, List.set_cons_succ, List.getElem_toArray, List.getElem_cons_succ, List.getElem_cons_zero]
  refine wpAnyH_take (i := 19) (v := (.bool wt)) rfl (by kernel_rfl) (by kernel_rfl) (by kernel_rfl) (fun _ _ _ h => h) (Or.inl ⟨by rfl, fun ww hSw => by (try dsimp only at hSw); go_simp⟩) (by assumption) ?_
  simp only [Act.put, List.setIfInBounds_toArray, List.set_cons_zero, List.set_cons_succ, List.getElem_toArray, List.getElem_cons_succ, List.getElem_cons_zero]
  refine wpAnyH_ready (rs := [2]) (by kernel_rfl) (by simp) ?_
  refine AllReadyH.cons rfl (fun K hK => ?_) AllReadyH.nil
  go_simp
  have c26 := pip_held (w := V.drew) (H1.out.1.drewN 1)
  refine c26.mono ?_
  rintro e V1 ⟨rfl, k1, hk1⟩
  have H2 : Hid (Pip V1 b xs r rd wt ∧ Below w.heap.size w V1 ∧ V1.heap.size = w.heap.size + 1 ∧ V1.there w.heap.size 0 5) := by
    subst hk1
    exact ⟨(H1.out.1.drewN 1).drewN k1, ⟨H1.out.2.1.os, H1.out.2.1.tape, H1.out.2.1.output, H1.out.2.1.size, H1.out.2.1.block⟩, H1.out.2.2.1, H1.out.2.2.2⟩
  have kS1 : (V1.cell? ⟨b, 512, .none⟩ = some (.int .u32 r) ∧ V1.cell? ⟨b, 513, .none⟩ = some (.int .u32 s) ∧ V1.cell? ⟨b, 514, .none⟩ = some (.bool rd) ∧ V1.cell? ⟨b, 515, .none⟩ = some (.bool wt)) := by
    have := H2.out.1.cells.1
    rw [← HS.out] at this
    exact this
  clear hk1 c26 kS
  refine hK.out _ _ kS1 (fun hHeld => ?_)
  clear hK K
  try simp only [Act.put, List.setIfInBounds_toArray, List.set_cons_zero, List.set_cons_succ, List.getElem_toArray, List.getElem_cons_succ, List.getElem_cons_zero]
  refine wpAnyH_ready (rs := [3]) (by kernel_rfl) (by simp) ?_
  refine AllReadyH.cons rfl (fun K hK => ?_) AllReadyH.nil
  go_simp
  have c28 := first_pip H2.out.1 (xs.length : Int) xs.length (by simp)
  refine c28.mono ?_
  rintro e V2 ⟨p, c, rfl, hO, hb2, h0⟩
  have H3 : Hid (Pip V2 b xs r rd wt ∧ Below w.heap.size w V2 ∧ w.heap.size < V2.heap.size ∧ V2.there w.heap.size 0 5 ∧ V2.ownsRow (w.heap.size + 1) 5 1 (.slice p xs.length c) xs.length (by8 xs) ∧ (xs.length = 0 → p = none ∧ c = 0)) := by
    have e1 := H2.out.2.2.1
    refine ⟨H2.out.1.below hb2, H2.out.2.1.trans (hb2.mono (by omega)), by have := hb2.size; omega, fun j hj => ?_, ?_, h0⟩
    · have := H2.out.2.2.2 j hj
      exact ⟨by rw [hb2.cell (p := ⟨w.heap.size, 0 + j, .none⟩) (by show w.heap.size < _; omega)]; exact this.1, by rw [hb2.frozen (p := ⟨w.heap.size, 0 + j, .none⟩) (by show w.heap.size < _; omega)]; exact this.2⟩
    · rw [List.take_length, e1] at hO
      exact hO
  have kS2 : (V2.cell? ⟨b, 512, .none⟩ = some (.int .u32 r) ∧ V2.cell? ⟨b, 513, .none⟩ = some (.int .u32 s) ∧ V2.cell? ⟨b, 514, .none⟩ = some (.bool rd) ∧ V2.cell? ⟨b, 515, .none⟩ = some (.bool wt)) := by
    have := H3.out.1.cells.1
    rw [← HS.out] at this
    exact this
  clear c28 hO hb2 h0
  refine hK.out _ _ kS2 (fun hHeld => ?_)
  clear hK K
  try simp only [Act.put, List.setIfInBounds_toArray, List.set_cons_zero, List.set_cons_succ, List.getElem_toArray, List.getElem_cons_succ, List.getElem_cons_zero]
  refine wpAnyH_take (i := 20) (v := (.agg #[.slice p xs.length c, .int .u32 r, .int .u32 s, .bool rd, .bool wt])) rfl (by kernel_rfl) (by kernel_rfl) (by kernel_rfl) (fun _ _ _ h => h) (Or.inl ⟨by rfl, fun ww hSw => by (try dsimp only at hSw); go_simp⟩) (by assumption) ?_
  simp only [Act.put, List.setIfInBounds_toArray, List.set_cons_zero, List.set_cons_succ, List.getElem_toArray, List.getElem_cons_succ, List.getElem_cons_zero]
  refine wpAnyH_ready (rs := [21]) (by kernel_rfl) (by simp) ?_
  refine AllReadyH.cons rfl (fun K hK => ?_) AllReadyH.nil
  refine step_store_mid rfl 53 (.tmp 2) (.tmp 27) rfl w.heap.size 0 #[.slice p xs.length c, .int .u32 r, .int .u32 s, .bool rd, .bool wt] (by simp [Act.eval]) (by simp [Act.eval]) H3.out.2.2.2.1 (by kernel_rfl) (by simp [Value.oneCell']) ?_
  have t3 : Trn w.heap.size V2 (V2.setCells w.heap.size 0 [.slice p xs.length c, .int .u32 r, .int .u32 s, .bool rd, .bool wt]) := Trn.setCells _ _ _ _
  have hr3 : (V2.setCells w.heap.size 0 [.slice p xs.length c, .int .u32 r, .int .u32 s, .bool rd, .bool wt]).rangeAt w.heap.size 0 [.slice p xs.length c, .int .u32 r, .int .u32 s, .bool rd, .bool wt] := World.rangeAt_setCells_same _ _ _ _ H3.out.2.2.2.1
  generalize hV3 : V2.setCells w.heap.size 0 [.slice p xs.length c, .int .u32 r, .int .u32 s, .bool rd, .bool wt] = V3 at t3 hr3
  have H4 : Hid (Pip V3 b xs r rd wt ∧ Below w.heap.size w V3 ∧ V3.ownsRow w.heap.size 5 1 (.slice p xs.length c) xs.length (by8 xs) ∧ (xs.length = 0 → p = none ∧ c = 0)) := by
    refine ⟨H3.out.1.keep t3 (by omega), H3.out.2.1.trans (t3.toBelow (Nat.le_refl _) (by have := H3.out.2.2.1; omega)), own_mono (t3.own H3.out.2.2.2.2.1 (fun g hg e => ?_)) (by omega), H3.out.2.2.2.2.2⟩
    have := own_block H3.out.2.2.2.2.1 g hg
    omega
  have HR : Hid (V3.rangeAt w.heap.size 0 [.slice p xs.length c, .int .u32 r, .int .u32 s, .bool rd, .bool wt]) := hr3
  have kS3 : (V3.cell? ⟨b, 512, .none⟩ = some (.int .u32 r) ∧ V3.cell? ⟨b, 513, .none⟩ = some (.int .u32 s) ∧ V3.cell? ⟨b, 514, .none⟩ = some (.bool rd) ∧ V3.cell? ⟨b, 515, .none⟩ = some (.bool wt)) := by
    have := H4.out.1.cells.1
    rw [← HS.out] at this
    exact this
  clear t3 hr3
  try clear hV3
  refine hK.out _ _ kS3 (fun hHeld => ?_)
  clear hK K
  try simp only [Act.put, List.setIfInBounds_toArray, List.set_cons_zero, List.set_cons_succ, List.getElem_toArray, List.getElem_cons_succ, List.getElem_cons_zero]
  refine wpAnyH_done (by kernel_rfl) ?_ _
  go_wp2
  exact bodyPost_ret (results_cell_any (p := 2) (ty := 53) rfl _ _ ⟨w.heap.size, 0, .none⟩ _ rfl (run_loadVar_mid (P := Tryz.prog) _ w.heap.size 0 53 _ _ HR.out Tryz.underlying53 rfl (by kernel_rfl))) rfl ⟨p, c, by rw [HS.out]; rfl, H4.out.2.2.1, H4.out.2.1, H4.out.2.2.2⟩
end Go.Proofs.YthdlefbaegbldaaGreatDoor
