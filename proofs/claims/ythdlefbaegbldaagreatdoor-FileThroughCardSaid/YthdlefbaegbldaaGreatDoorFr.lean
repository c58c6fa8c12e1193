import Derived.Test.YthdlefbaegbldaaGreatDoorPu
import Derived.Deep.RegionHeld
import Derived.Test.YthdlefbaegbldaaGreatDoorEPure
import Derived.Great.Ranges
namespace Go.Proofs.YthdlefbaegbldaaGreatDoor
open Go.RowKit
set_option linter.unusedVariables false
set_option linter.unusedSimpArgs false
set_option maxRecDepth 100000
section
variable {w : World} {b : Nat} {xs : List Int} {r : Int} {rd wt : Bool}
theorem Pip.setRd (h : Pip w b xs r rd wt) (x : Bool) : Pip (w.setCell ⟨b, 514, .none⟩ (.bool x)) b xs r x wt := by
  obtain ⟨h1, B, h2, h3⟩ := h
  exact ⟨h1, B, h2.setRd x, h3⟩
theorem Pip.setWt (h : Pip w b xs r rd wt) (x : Bool) : Pip (w.setCell ⟨b, 515, .none⟩ (.bool x)) b xs r rd x := by
  obtain ⟨h1, B, h2, h3⟩ := h
  exact ⟨h1, B, h2.setWt x, h3⟩
theorem Pip.cells (h : Pip w b xs r rd wt) : (w.cell? ⟨b, 512, .none⟩ = some (.int .u32 r) ∧ w.cell? ⟨b, 513, .none⟩ = some (.int .u32 ((r + xs.length) % 4294967296)) ∧ w.cell? ⟨b, 514, .none⟩ = some (.bool rd) ∧ w.cell? ⟨b, 515, .none⟩ = some (.bool wt)) ∧ ∀ i, w.frozen? ⟨b, i, .none⟩ = false := by
  obtain ⟨h1, B, h2, h3⟩ := h
  exact ⟨⟨h2.c1, h2.c2, h2.c3, h2.c4⟩, h2.fb⟩
end
set_option maxHeartbeats 1000000 in
theorem shut_pip {w : World} {b : Nat} {xs : List Int} {r : Int} {rd wt : Bool} (h : Pip w b xs r rd wt) (x : Bool) :
    Calls Tryz.prog 62 #[.pointer (some ⟨b, 0, .none⟩), .bool x] w fun e w' => (∃ v, e = .returned v) ∧ Pip w' b xs r (if x then false else rd) (if x then wt else false) ∧ Trn b w w' := by
  have c25 := pip_made h
  have HP : Hid (Pip w b xs r rd wt) := h
  obtain ⟨⟨_, _, c3, c4⟩, hf⟩ := h.cells
  have f3 := hf 514
  have f4 := hf 515
  clear hf h
  cases x with
  | true =>
    go_enter Tryz.func62, Tryz.ntmps62
    go_wp2_with fail
    refine c25.mono ?_
    rintro e w1 ⟨rfl, hw1⟩
    obtain rfl : w = w1 := hw1.symm
    go_wp2
    go_end0
    exact ⟨⟨_, rfl⟩, HP.out.setRd false, Trn.setCell _ _ _ _⟩
  | false =>
    go_enter Tryz.func62, Tryz.ntmps62
    go_wp2_with fail
    refine c25.mono ?_
    rintro e w1 ⟨rfl, hw1⟩
    obtain rfl : w = w1 := hw1.symm
    go_wp2
    go_end0
    exact ⟨⟨_, rfl⟩, HP.out.setWt false, Trn.setCell _ _ _ _⟩
/-- The state that is told. -/
def stt (p : Option Addr) (L c : Nat) (r : Int) (rd wt : Bool) : Value := .agg #[.slice p L c, .int .u32 r, .int .u32 ((r + L) % 4294967296), .bool rd, .bool wt]
set_option maxHeartbeats 2000000 in
theorem state_pip {w : World} {b : Nat} {xs : List Int} {r : Int} {rd wt : Bool} (h : Pip w b xs r rd wt) :
    Calls Tryz.prog 37 #[.pointer (some ⟨b, 0, .none⟩)] w fun e w' => ∃ p c, e = .returned (stt p xs.length c r rd wt) ∧ w'.ownsRow w.heap.size 5 1 (.slice p xs.length c) xs.length (by8 xs) ∧ Below w.heap.size w w' ∧ (xs.length = 0 → p = none ∧ c = 0) := by
  have hlt := h.lt
  have HP : Hid (Pip w b xs r rd wt) := h
  obtain ⟨s, hs⟩ : ∃ s, s = (r + (xs.length : Int)) % 4294967296 := ⟨_, rfl⟩
  have HS : Hid (s = (r + (xs.length : Int)) % 4294967296) := hs
  clear h hs
  have ZZ : Hid (∀ V : World, V = w.alloc (.cells #[.slice .none 0 0, .int .u32 0, .int .u32 0, .bool false, .bool false] 53) → Pip V b xs r rd wt ∧ Below w.heap.size w V ∧ V.heap.size = w.heap.size + 1 ∧ V.there w.heap.size 0 5) := by
    intro V hV
    have hb : Below w.heap.size w V := by rw [hV]; exact (Below.refl _ _).alloc (Nat.le_refl _) _
    refine ⟨HP.out.below hb, hb, by rw [hV]; simp, fun j hj => ?_⟩
    rw [hV]
    constructor
    · rw [World.cell?_alloc_at _ _ _ _ rfl]
      simp; omega
    · exact froz_new _ _ _ _
  go_enter Tryz.func37, Tryz.ntmps37
  go_wp2_with fail
  generalize hV : w.alloc (.cells #[.slice .none 0 0, .int .u32 0, .int .u32 0, .bool false, .bool false] 53) = V
  have hV2 := ZZ.out V hV.symm
  have H1 : Hid (Pip V b xs r rd wt ∧ Below w.heap.size w V ∧ V.heap.size = w.heap.size + 1 ∧ V.there w.heap.size 0 5) := hV2
  clear hV hV2 ZZ
  have c25 := pip_made H1.out.1
  refine c25.mono ?_
  rintro e w1 ⟨rfl, hw1⟩
  obtain rfl : V = w1 := hw1.symm
  clear c25
  have kS : (V.drew.cell? ⟨b, 512, .none⟩ = some (.int .u32 r) ∧ V.drew.cell? ⟨b, 513, .none⟩ = some (.int .u32 s) ∧ V.drew.cell? ⟨b, 514, .none⟩ = some (.bool rd) ∧ V.drew.cell? ⟨b, 515, .none⟩ = some (.bool wt)) := by
    have := H1.out.1.cells.1
    rw [← HS.out] at this
    exact this
  go_upto_region 3 with fail
  refine wp_region_held_drew (S := fun U => (U.cell? ⟨b, 512, .none⟩ = some (.int .u32 r) ∧ U.cell? ⟨b, 513, .none⟩ = some (.int .u32 s) ∧ U.cell? ⟨b, 514, .none⟩ = some (.bool rd) ∧ U.cell? ⟨b, 515, .none⟩ = some (.bool wt))) (by kernel_rfl) kS (fun hHeld => ?_)
  refine wpAnyH_take (i := 0) (v := (.pointer (some ⟨b, 0, .none⟩))) rfl (by kernel_rfl) (by kernel_rfl) (by kernel_rfl) (fun _ _ _ h => h) (Or.inl ⟨by rfl, fun ww hSw => by (try dsimp only at hSw); go_simp⟩) (by assumption) ?_
  simp only [Act.put, List.setIfInBounds_toArray, List.set_cons_zero, List.set_cons_succ, List.getElem_toArray, List.getElem_cons_succ, List.getElem_cons_zero]
  refine wpAnyH_take (i := 1) (v := (.pointer (some ⟨b, 0, .none⟩))) rfl (by kernel_rfl) (by kernel_rfl) (by kernel_rfl) (fun _ _ _ h => h) (Or.inl ⟨by rfl, fun ww hSw => by (try dsimp only at hSw); go_simp⟩) (by assumption) ?_
  simp only [Act.put, List.setIfInBounds_toArray, List.set_cons_zero, List.set_cons_succ, List.getElem_toArray, List.getElem_cons_succ, List.getElem_cons_zero]
  refine wpAnyH_take (i := 4) (v := (.pointer (some ⟨b, 0, .none⟩))) rfl (by kernel_rfl) (by kernel_rfl) (by kernel_rfl) (fun _ _ _ h => h) (Or.inl ⟨by rfl, fun ww hSw => by (try dsimp only at hSw); go_simp⟩) (by assumption) ?_
  simp only [Act.put, List.setIfInBounds_toArray, List.set_cons_zero, List.set_cons_succ, List.getElem_toArray, List.getElem_cons_succ, List.getElem_cons_zero]
  refine wpAnyH_take (i := 5) (v := (.pointer (some ⟨b, 0, .none⟩))) rfl (by kernel_rfl) (by kernel_rfl) (by kernel_rfl) (fun _ _ _ h => h) (Or.inl ⟨by rfl, fun ww hSw => by (try dsimp only at hSw); go_simp⟩) (by assumption) ?_
  simp only [Act.put, List.setIfInBounds_toArray, List.set_cons_zero, List.set_cons_succ, List.getElem_toArray, List.getElem_cons_succ, List.getElem_cons_zero]
  refine wpAnyH_take (i := 6) (v := (.pointer (some ⟨b, 512, .none⟩))) rfl (by kernel_rfl) (by kernel_rfl) (by kernel_rfl) (fun _ _ _ h => h) (Or.inl ⟨by rfl, fun ww hSw => by (try dsimp only at hSw); go_simp⟩) (by assumption) ?_
  simp only [Act.put, List.setIfInBounds_toArray, List.set_cons_zero, List.set_cons_succ, List.getElem_toArray, List.getElem_cons_succ, List.getElem_cons_zero]
  refine wpAnyH_take (i := 7) (v := (.int .u32 r)) rfl (by kernel_rfl) (by kernel_rfl) (by kernel_rfl) (fun _ _ _ h => h) (Or.inl ⟨by rfl, fun ww hSw => by (try dsimp only at hSw); go_simp⟩) (by assumption) ?_
  simp only [Act.put, List.setIfInBounds_toArray, List.set_cons_zero, List.set_cons_succ, List.getElem_toArray, List.getElem_cons_succ, List.getElem_cons_zero]
  refine wpAnyH_take (i := 8) (v := (.pointer (some ⟨b, 0, .none⟩))) rfl (by kernel_rfl) (by kernel_rfl) (by kernel_rfl) (fun _ _ _ h => h) (Or.inl ⟨by rfl, fun ww hSw => by (try dsimp only at hSw); go_simp⟩) (by assumption) ?_
  simp only [Act.put, List.setIfInBounds_toArray, List.set_cons_zero, List.set_cons_succ, List.getElem_toArray, List.getElem_cons_succ, List.getElem_cons_zero]
  refine wpAnyH_take (i := 9) (v := (.pointer (some ⟨b, 0, .none⟩))) rfl (by kernel_rfl) (by kernel_rfl) (by kernel_rfl) (fun _ _ _ h => h) (Or.inl ⟨by rfl, fun ww hSw => by (try dsimp only at hSw); go_simp⟩) (by assumption) ?_
  simp only [Act.put, List.setIfInBounds_toArray, List.set_cons_zero, List.set_cons_succ, List.getElem_toArray, List.getElem_cons_succ, List.getElem_cons_zero]
  refine wpAnyH_take (i := 10) (v := (.pointer (some ⟨b, 513, .none⟩))) rfl (by kernel_rfl) (by kernel_rfl) (by kernel_rfl) (fun _ _ _ h => h) (Or.inl ⟨by rfl, fun ww hSw => by (try dsimp only at hSw); go_simp⟩) (by assumption) ?_
  simp only [Act.put, List.setIfInBounds_toArray, List.set_cons_zero, List.set_cons_succ, List.getElem_toArray, List.getElem_cons_succ, List.getElem_cons_zero]
  refine wpAnyH_take (i := 11) (v := (.int .u32 s)) rfl (by kernel_rfl) (by kernel_rfl) (by kernel_rfl) (fun _ _ _ h => h) (Or.inl ⟨by rfl, fun ww hSw => by (try dsimp only at hSw); go_simp⟩) (by assumption) ?_
  simp only [Act.put, List.setIfInBounds_toArray, List.set_cons_zero, List.set_cons_succ, List.getElem_toArray, List.getElem_cons_succ, List.getElem_cons_zero]
  refine wpAnyH_take (i := 12) (v := (.pointer (some ⟨b, 0, .none⟩))) rfl (by kernel_rfl) (by kernel_rfl) (by kernel_rfl) (fun _ _ _ h => h) (Or.inl ⟨by rfl, fun ww hSw => by (try dsimp only at hSw); go_simp⟩) (by assumption) ?_
  simp only [Act.put, List.setIfInBounds_toArray, List.set_cons_zero, List.set_cons_succ, List.getElem_toArray, List.getElem_cons_succ, List.getElem_cons_zero]
  refine wpAnyH_take (i := 13) (v := (.pointer (some ⟨b, 0, .none⟩))) rfl (by kernel_rfl) (by kernel_rfl) (by kernel_rfl) (fun _ _ _ h => h) (Or.inl ⟨by rfl, fun ww hSw => by (try dsimp only at hSw); go_simp⟩) (by assumption) ?_
  simp only [Act.put, List.setIfInBounds_toArray, List.set_cons_zero, List.set_cons_succ, List.getElem_toArray, List.getElem_cons_succ, List.getElem_cons_zero]
  refine wpAnyH_take (i := 14) (v := (.pointer (some ⟨b, 514, .none⟩))) rfl (by kernel_rfl) (by kernel_rfl) (by kernel_rfl) (fun _ _ _ h => h) (Or.inl ⟨by rfl, fun ww hSw => by (try dsimp only at hSw); go_simp⟩) (by assumption) ?_
  simp only [Act.put, List.setIfInBounds_toArray, List.set_cons_zero, List.set_cons_succ, List.getElem_toArray, List.getElem_cons_succ, List.getElem_cons_zero]
  refine wpAnyH_take (i := 15) (v := (.bool rd)) rfl (by kernel_rfl) (by kernel_rfl) (by kernel_rfl) (fun _ _ _ h => h) (Or.inl ⟨by rfl, fun ww hSw => by (try dsimp only at hSw); go_simp⟩) (by assumption) ?_
  simp only [Act.put, List.setIfInBounds_toArray, List.set_cons_zero, List.set_cons_succ, List.getElem_toArray, List.getElem_cons_succ, List.getElem_cons_zero]
  refine wpAnyH_take (i := 16) (v := (.pointer (some ⟨b, 0, .none⟩))) rfl (by kernel_rfl) (by kernel_rfl) (by kernel_rfl) (fun _ _ _ h => h) (Or.inl ⟨by rfl, fun ww hSw => by (try dsimp only at hSw); go_simp⟩) (by assumption) ?_
  simp only [Act.put, List.setIfInBounds_toArray, List.set_cons_zero, List.set_cons_succ, List.getElem_toArray, List.getElem_cons_succ, List.getElem_cons_zero]
  refine wpAnyH_take (i := 17) (v := (.pointer (some ⟨b, 0, .none⟩))) rfl (by kernel_rfl) (by kernel_rfl) (by kernel_rfl) (fun _ _ _ h => h) (Or.inl ⟨by rfl, fun ww hSw => by (try dsimp only at hSw); go_simp⟩) (by assumption) ?_
  simp only [Act.put, List.setIfInBounds_toArray, List.set_cons_zero, List.set_cons_succ, List.getElem_toArray, List.getElem_cons_succ, List.getElem_cons_zero]
  refine wpAnyH_take (i := 18) (v := (.pointer (some ⟨b, 515, .none⟩))) rfl (by kernel_rfl) (by kernel_rfl) (by kernel_rfl) (fun _ _ _ h => h) (Or.inl ⟨by rfl, fun ww hSw => by (try dsimp only at hSw); go_simp⟩) (by assumption) ?_
  simp only [Act.put, List.setIfInBounds_toArray, List.set_cons_zero, List.set_cons_succ, List.getElem_toArray, List.getElem_cons_succ, List.getElem_cons_zero]
  refine wpAnyH_take (i := 19) (v := (.bool wt)) rfl (by kernel_rfl) (by kernel_rfl) (by kernel_rfl) (fun _ _ _ h => h) (Or.inl ⟨by rfl, fun ww hSw => by (try dsimp only at hSw); go_simp⟩) (by assumption) ?_
  simp only [Act.put, List.setIfInBounds_toArray, List.set_cons_zero, List.set_cons_succ, List.getElem_toArray, List.getElem_cons_succ, List.getElem_cons_zero]
  refine wpAnyH_ready (rs := [2]) (by kernel_rfl) (by simp) ?_
  refine AllReadyH.cons rfl (fun K hK => ?_) AllReadyH.nil
  go_simp
  have c26 := pip_held (w := V.drew) (H1.out.1.drewN 1)
  refine c26.mono ?_
  rintro e V1 ⟨rfl, k1, hk1⟩
  have H2 : Hid (Pip V1 b xs r rd wt ∧ Below w.heap.size w V1 ∧ V1.heap.size = w.heap.size + 1 ∧ V1.there w.heap.size 0 5) := by
    subst hk1
    exact ⟨(H1.out.1.drewN 1).drewN k1, ⟨H1.out.2.1.os, H1.out.2.1.tape, H1.out.2.1.output, H1.out.2.1.size, H1.out.2.1.block⟩, H1.out.2.2.1, H1.out.2.2.2⟩
  have kS1 : (V1.cell? ⟨b, 512, .none⟩ = some (.int .u32 r) ∧ V1.cell? ⟨b, 513, .none⟩ = some (.int .u32 s) ∧ V1.cell? ⟨b, 514, .none⟩ = some (.bool rd) ∧ V1.cell? ⟨b, 515, .none⟩ = some (.bool wt)) := by
    have := H2.out.1.cells.1
    rw [← HS.out] at this
    exact this
  clear hk1 c26 kS
  refine hK.out _ _ kS1 (fun hHeld => ?_)
  clear hK K
  try simp only [Act.put, List.setIfInBounds_toArray, List.set_cons_zero, List.set_cons_succ, List.getElem_toArray, List.getElem_cons_succ, List.getElem_cons_zero]
  refine wpAnyH_ready (rs := [3]) (by kernel_rfl) (by simp) ?_
  refine AllReadyH.cons rfl (fun K hK => ?_) AllReadyH.nil
  go_simp
  have c28 := first_pip H2.out.1 (xs.length : Int) xs.length (by simp)
  refine c28.mono ?_
  rintro e V2 ⟨p, c, rfl, hO, hb2, h0⟩
  have H3 : Hid (Pip V2 b xs r rd wt ∧ Below w.heap.size w V2 ∧ w.heap.size < V2.heap.size ∧ V2.there w.heap.size 0 5 ∧ V2.ownsRow (w.heap.size + 1) 5 1 (.slice p xs.length c) xs.length (by8 xs) ∧ (xs.length = 0 → p = none ∧ c = 0)) := by
    have e1 := H2.out.2.2.1
    refine ⟨H2.out.1.below hb2, H2.out.2.1.trans (hb2.mono (by omega)), by have := hb2.size; omega, fun j hj => ?_, ?_, h0⟩
    · have := H2.out.2.2.2 j hj
      exact ⟨by rw [hb2.cell (p := ⟨w.heap.size, 0 + j, .none⟩) (by show w.heap.size < _; omega)]; exact this.1, by rw [hb2.frozen (p := ⟨w.heap.size, 0 + j, .none⟩) (by show w.heap.size < _; omega)]; exact this.2⟩
    · rw [List.take_length, e1] at hO
      exact hO
  have kS2 : (V2.cell? ⟨b, 512, .none⟩ = some (.int .u32 r) ∧ V2.cell? ⟨b, 513, .none⟩ = some (.int .u32 s) ∧ V2.cell? ⟨b, 514, .none⟩ = some (.bool rd) ∧ V2.cell? ⟨b, 515, .none⟩ = some (.bool wt)) := by
    have := H3.out.1.cells.1
    rw [← HS.out] at this
    exact this
  clear c28 hO hb2 h0
  refine hK.out _ _ kS2 (fun hHeld => ?_)
  clear hK K
  try simp only [Act.put, List.setIfInBounds_toArray, List.set_cons_zero, List.set_cons_succ, List.getElem_toArray, List.getElem_cons_succ, List.getElem_cons_zero]
  refine wpAnyH_take (i := 20) (v := (.agg #[.slice p xs.length c, .int .u32 r, .int .u32 s, .bool rd, .bool wt])) rfl (by kernel_rfl) (by kernel_rfl) (by kernel_rfl) (fun _ _ _ h => h) (Or.inl ⟨by rfl, fun ww hSw => by (try dsimp only at hSw); go_simp⟩) (by assumption) ?_
  simp only [Act.put, List.setIfInBounds_toArray, List.set_cons_zero, List.set_cons_succ, List.getElem_toArray, List.getElem_cons_succ, List.getElem_cons_zero]
  refine wpAnyH_ready (rs := [21]) (by kernel_rfl) (by simp) ?_
  refine AllReadyH.cons rfl (fun K hK => ?_) AllReadyH.nil
  refine step_store_mid rfl 53 (.tmp 2) (.tmp 27) rfl w.heap.size 0 #[.slice p xs.length c, .int .u32 r, .int .u32 s, .bool rd, .bool wt] (by simp [Act.eval]) (by simp [Act.eval]) H3.out.2.2.2.1 (by kernel_rfl) (by simp [Value.oneCell']) ?_
  have t3 : Trn w.heap.size V2 (V2.setCells w.heap.size 0 [.slice p xs.length c, .int .u32 r, .int .u32 s, .bool rd, .bool wt]) := Trn.setCells _ _ _ _
  have hr3 : (V2.setCells w.heap.size 0 [.slice p xs.length c, .int .u32 r, .int .u32 s, .bool rd, .bool wt]).rangeAt w.heap.size 0 [.slice p xs.length c, .int .u32 r, .int .u32 s, .bool rd, .bool wt] := World.rangeAt_setCells_same _ _ _ _ H3.out.2.2.2.1
  generalize hV3 : V2.setCells w.heap.size 0 [.slice p xs.length c, .int .u32 r, .int .u32 s, .bool rd, .bool wt] = V3 at t3 hr3
  have H4 : Hid (Pip V3 b xs r rd wt ∧ Below w.heap.size w V3 ∧ V3.ownsRow w.heap.size 5 1 (.slice p xs.length c) xs.length (by8 xs) ∧ (xs.length = 0 → p = none ∧ c = 0)) := by
    refine ⟨H3.out.1.keep t3 (by omega), H3.out.2.1.trans (t3.toBelow (Nat.le_refl _) (by have := H3.out.2.2.1; omega)), own_mono (t3.own H3.out.2.2.2.2.1 (fun g hg e => ?_)) (by omega), H3.out.2.2.2.2.2⟩
    have := own_block H3.out.2.2.2.2.1 g hg
    omega
  have HR : Hid (V3.rangeAt w.heap.size 0 [.slice p xs.length c, .int .u32 r, .int .u32 s, .bool rd, .bool wt]) := hr3
  have kS3 : (V3.cell? ⟨b, 512, .none⟩ = some (.int .u32 r) ∧ V3.cell? ⟨b, 513, .none⟩ = some (.int .u32 s) ∧ V3.cell? ⟨b, 514, .none⟩ = some (.bool rd) ∧ V3.cell? ⟨b, 515, .none⟩ = some (.bool wt)) := by
    have := H4.out.1.cells.1
    rw [← HS.out] at this
    exact this
  clear t3 hr3
  try clear hV3
  refine hK.out _ _ kS3 (fun hHeld => ?_)
  clear hK K
  try simp only [Act.put, List.setIfInBounds_toArray, List.set_cons_zero, List.set_cons_succ, List.getElem_toArray, List.getElem_cons_succ, List.getElem_cons_zero]
  refine wpAnyH_done (by kernel_rfl) ?_ _
  go_wp2
  exact bodyPost_ret (results_cell_any (p := 2) (ty := 53) rfl _ _ ⟨w.heap.size, 0, .none⟩ _ rfl (run_loadVar_mid (P := Tryz.prog) _ w.heap.size 0 53 _ _ HR.out Tryz.underlying53 rfl (by kernel_rfl))) rfl ⟨p, c, by rw [HS.out]; rfl, H4.out.2.2.1, H4.out.2.1, H4.out.2.2.2⟩
end Go.Proofs.YthdlefbaegbldaaGreatDoor
namespace Go.Proofs.YthdlefbaegbldaaGreatDoor
open Go.RowKit
set_option linter.unusedVariables false
set_option linter.unusedSimpArgs false
set_option maxRecDepth 100000
/-- A pipe's cells when it is made. -/
def pz (r s : Int) (rd wt md : Bool) : Array Value := (List.replicate 512 (Value.int .u8 0) ++ ([.int .u32 r, .int .u32 s, .bool rd, .bool wt, .bool md] : List Value)).toArray
theorem pz_low (r s : Int) (rd wt md : Bool) (i : Nat) (h : i < 512) : (pz r s rd wt md)[i]? = some (.int .u8 0) := by
  unfold pz
  rw [List.getElem?_toArray, List.getElem?_append_left (by rw [List.length_replicate]; exact h), List.getElem?_replicate, if_pos h]
theorem pz_hi (r s : Int) (rd wt md : Bool) (j : Nat) (i : Nat) (hi : i = 512 + j) : (pz r s rd wt md)[i]? = ([.int .u32 r, .int .u32 s, .bool rd, .bool wt, .bool md] : List Value)[j]? := by
  subst hi
  unfold pz
  rw [List.getElem?_toArray, List.getElem?_append_right (by rw [List.length_replicate]; omega), List.length_replicate, Nat.add_sub_cancel_left]
theorem built_newP : Tryz.prog.built 100 [(3, .bool true), (4, .bool true), (5, .bool true)] = some (pz 0 0 true true true) := by kernel_rfl
theorem built_from (r s : Int) (rd wt : Bool) : Tryz.prog.built 100 [(1, .int .u32 r), (2, .int .u32 s), (3, .bool rd), (4, .bool wt), (5, .bool true)] = some (pz r s rd wt true) := by kernel_rfl
theorem built_zeroP : Tryz.prog.built 100 [] = some (pz 0 0 false false false) := by kernel_rfl
theorem rng_new (w : World) (r s : Int) (rd wt : Bool) (hr : 0 ≤ r ∧ r < 4294967296) (hs : 0 ≤ s ∧ s < 4294967296) : Rng (w.alloc (.cells (pz r s rd wt true) 100)) w.heap.size (fun _ => 0) r s rd wt := by
  have hc : ∀ i v, (pz r s rd wt true)[i]? = some v → (w.alloc (.cells (pz r s rd wt true) 100)).cell? ⟨w.heap.size, i, .none⟩ = some v := fun i v h => by
    rw [World.cell?_alloc_at _ _ _ _ rfl]
    exact h
  exact ⟨fun i hi => hc i _ (pz_low _ _ _ _ _ i hi), fun i => froz_new _ _ _ _, hc _ _ (pz_hi _ _ _ _ _ 0 512 rfl), hc _ _ (pz_hi _ _ _ _ _ 1 513 rfl), hc _ _ (pz_hi _ _ _ _ _ 2 514 rfl), hc _ _ (pz_hi _ _ _ _ _ 3 515 rfl), hc _ _ (pz_hi _ _ _ _ _ 4 516 rfl), fun _ => by decide, hr, hs⟩
theorem pip_new (w : World) (r : Int) (rd wt : Bool) (hr : 0 ≤ r ∧ r < 4294967296) : Pip (w.alloc (.cells (pz r r rd wt true) 100)) w.heap.size [] r rd wt := by
  refine ⟨by simp, fun _ => 0, ?_, fun j x h => by simp at h⟩
  have e : (r + (([] : List Int).length : Int)) % 4294967296 = r := by simp; omega
  rw [e]
  exact rng_new w r r rd wt hr hr
set_option maxHeartbeats 1000000 in
theorem new_anyP (w : World) : Calls Tryz.prog 28 #[] w fun e w' => e = .returned (.pointer (some ⟨w.heap.size, 0, .none⟩)) ∧ Pip w' w.heap.size [] 0 true true ∧ Below w.heap.size w w' := by
  go_enter Tryz.func28, Tryz.ntmps28
  go_upto_region 1 with fail
  refine wp_region_lit ?_
  refine wpl_built rfl 100 _ rfl (some 1) rfl (pz 0 0 true true true) (by simp only [List.map_toArray, List.map_cons, List.map_nil, Act.eval]; exact built_newP) ?_
  simp only [Act.put, List.setIfInBounds_toArray, List.set_cons_succ, List.set_cons_zero]
  refine Great.wpList_boxTo rfl 100 (.tmp 1) rfl (some 2) rfl w.heap.size rfl (pz 0 0 true true true) rfl ?_
  simp only [Act.put, List.setIfInBounds_toArray, List.set_cons_succ, List.set_cons_zero]
  have HP : Hid (Pip (w.alloc (.cells (pz 0 0 true true true) 100)) w.heap.size [] 0 true true ∧ Below w.heap.size w (w.alloc (.cells (pz 0 0 true true true) 100))) := ⟨pip_new w 0 true true (by decide), (Below.refl _ _).alloc (Nat.le_refl _) _⟩
  generalize w.alloc (.cells (pz 0 0 true true true) 100) = W at *
  generalize pz 0 0 true true true = Z at *
  go_wp2
  go_ret
  exact ⟨rfl, HP.out.1, HP.out.2⟩
/-- Is it the state of a pipe? -/
def okS (n : Nat) (R S : Int) : Prop := n ≤ 512 ∧ (S - R) % 4294967296 = n
instance (n : Nat) (R S : Int) : Decidable (okS n R S) := by unfold okS; infer_instance
set_option maxHeartbeats 1000000 in
theorem canBe_any (w : World) (p : Option Addr) (n c : Nat) (R S : Int) (rd wt : Bool) (hn : n ≤ 9223372036854775807) :
    Calls Tryz.prog 113 #[.agg #[.slice p n c, .int .u32 R, .int .u32 S, .bool rd, .bool wt]] w fun e w' => e = .returned (.bool (decide (okS n R S))) ∧ Below w.heap.size w w' := by
  have ew : IntKind.u32.wrap (S - R) = (S - R) % 4294967296 := by simp [IntKind.wrap, IntKind.bits, IntKind.signed]
  by_cases h1 : n ≤ 512
  · have ew2 : IntKind.u32.wrap n = n := by simp [IntKind.wrap, IntKind.bits, IntKind.signed]; omega
    have i1 : (n : Int) ≤ 512 := by omega
    obtain ⟨x, hx⟩ : ∃ x, x = (S - R) % 4294967296 := ⟨_, rfl⟩
    have HD : Hid (decide (okS n R S) = (x == (n : Int))) := by
      show decide (okS n R S) = _
      rw [hx]
      by_cases h2 : (S - R) % 4294967296 = n
      · rw [decide_eq_true ⟨h1, h2⟩]; simp [h2]
      · rw [decide_eq_false (fun h => h2 h.2)]; simp [h2]
    rw [← hx] at ew
    clear hx
    go_enter Tryz.func113, Tryz.ntmps113
    go_wp2
    go_ret
    refine ⟨by rw [HD.out]; rfl, (Below.refl _ _).alloc (Nat.le_refl _) _⟩
  · have i1 : ¬ (n : Int) ≤ 512 := by omega
    have HD : Hid (decide (okS n R S) = false) := decide_eq_false (fun h => h1 h.1)
    go_enter Tryz.func113, Tryz.ntmps113
    go_wp2
    go_ret
    exact ⟨by rw [HD.out]; rfl, (Below.refl _ _).alloc (Nat.le_refl _) _⟩
end Go.Proofs.YthdlefbaegbldaaGreatDoor
namespace Go.Proofs.YthdlefbaegbldaaGreatDoor
open Go.RowKit
set_option linter.unusedVariables false
set_option linter.unusedSimpArgs false
set_option maxRecDepth 100000
/-- The state as a value. -/
def sv (p : Option Addr) (n c : Nat) (R S : Int) (rd wt : Bool) : Value := .agg #[.slice p n c, .int .u32 R, .int .u32 S, .bool rd, .bool wt]
/-- The law's own box of a state. -/
structure Sb (w : World) (b : Nat) (p : Option Addr) (n c : Nat) (R S : Int) (rd wt : Bool) : Prop where
  c0 : w.cell? ⟨b, 0, .none⟩ = some (.slice p n c)
  c1 : w.cell? ⟨b, 1, .none⟩ = some (.int .u32 R)
  c2 : w.cell? ⟨b, 2, .none⟩ = some (.int .u32 S)
  c3 : w.cell? ⟨b, 3, .none⟩ = some (.bool rd)
  c4 : w.cell? ⟨b, 4, .none⟩ = some (.bool wt)
theorem sb_new (w : World) (p : Option Addr) (n c : Nat) (R S : Int) (rd wt : Bool) : Sb (w.alloc (.cells #[.slice p n c, .int .u32 R, .int .u32 S, .bool rd, .bool wt] 53)) w.heap.size p n c R S rd wt := by
  constructor <;> rw [World.cell?_alloc_at _ _ _ _ rfl] <;> rfl
theorem Sb.keep {w v : World} {b g : Nat} {p : Option Addr} {n c : Nat} {R S : Int} {rd wt : Bool} (h : Sb w b p n c R S rd wt) (t : Trn g w v) (hb : b ≠ g) : Sb v b p n c R S rd wt :=
  ⟨(t.cell (p := ⟨b, 0, .none⟩) (lt_cell h.c0) hb).trans h.c0, (t.cell (p := ⟨b, 1, .none⟩) (lt_cell h.c1) hb).trans h.c1, (t.cell (p := ⟨b, 2, .none⟩) (lt_cell h.c2) hb).trans h.c2, (t.cell (p := ⟨b, 3, .none⟩) (lt_cell h.c3) hb).trans h.c3, (t.cell (p := ⟨b, 4, .none⟩) (lt_cell h.c4) hb).trans h.c4⟩
theorem Sb.below {w v : World} {b : Nat} {p : Option Addr} {n c : Nat} {R S : Int} {rd wt : Bool} (h : Sb w b p n c R S rd wt) (t : Below w.heap.size w v) : Sb v b p n c R S rd wt :=
  h.keep (g := w.heap.size) (Trn.ofBelow t) (by have := lt_cell h.c0; show b ≠ _; exact Nat.ne_of_lt this)
theorem Sb.rangeAt {w : World} {b : Nat} {p : Option Addr} {n c : Nat} {R S : Int} {rd wt : Bool} (h : Sb w b p n c R S rd wt) : w.rangeAt b 0 [.slice p n c, .int .u32 R, .int .u32 S, .bool rd, .bool wt] := by
  intro j v hv
  match j, hv with
  | 0, hv => cases hv; exact h.c0
  | 1, hv => cases hv; exact h.c1
  | 2, hv => cases hv; exact h.c2
  | 3, hv => cases hv; exact h.c3
  | 4, hv => cases hv; exact h.c4
/-- What a refused state comes to. -/
def Bad4 (w w' : World) (e : Ending) : Prop := ∃ g, e = .returned (.tuple #[.pointer .none, .iface 150 (.pointer (some ⟨g, 0, .none⟩))]) ∧ w'.cell? ⟨g, 0, .none⟩ = some (.string ⟨#[112, 105, 112, 101]⟩) ∧ w'.cell? ⟨g, 1, .none⟩ = some (.int .i64 0) ∧ w'.cell? ⟨g, 2, .none⟩ = some (.iface 29 (.int .i64 4))
set_option maxHeartbeats 2000000 in
theorem from_any {w : World} {p : Option Addr} {n c : Nat} {xs : List Int} (R S : Int) (rd wt : Bool) (hB : Byt w p n c xs) (hy : ∀ y ∈ xs, 0 ≤ y ∧ y < 256) (hR : 0 ≤ R ∧ R < 4294967296) (hS : 0 ≤ S ∧ S < 4294967296) :
    Calls Tryz.prog 99 #[.agg #[.slice p n c, .int .u32 R, .int .u32 S, .bool rd, .bool wt]] w fun e w' => Below w.heap.size w w' ∧
      ((¬ okS n R S ∧ Bad4 w w' e) ∨ (okS n R S ∧ ∃ b, w.heap.size ≤ b ∧ e = .returned (.tuple #[.pointer (some ⟨b, 0, .none⟩), .nilIface]) ∧ Pip w' b xs R rd wt)) := by
  have hl := hB.1
  have hnc := hB.2.1
  have hcm : c ≤ 9223372036854775807 := hB.2.2.1
  have HB : Hid (Byt w p n c xs) := hB
  have HY : Hid (∀ y ∈ xs, 0 ≤ y ∧ y < 256) := hy
  have HN : Hid (∀ k, w.heap.size ≤ k → 0 < n → NB p k) := fun k hk h0 => NB.of hk hB h0
  clear hB hy
  go_enter Tryz.func99, Tryz.ntmps99
  go_upto_region 1 with fail
  have hs1 := sb_new w p n c R S rd wt
  have hb1 : Below w.heap.size w (w.alloc (.cells #[.slice p n c, .int .u32 R, .int .u32 S, .bool rd, .bool wt] 53)) := (Below.refl _ _).alloc (Nat.le_refl _) _
  have hz1 : (w.alloc (.cells #[.slice p n c, .int .u32 R, .int .u32 S, .bool rd, .bool wt] 53)).heap.size = w.heap.size + 1 := by simp
  generalize w.alloc (.cells #[.slice p n c, .int .u32 R, .int .u32 S, .bool rd, .bool wt] 53) = W1 at *
  have H1 : Hid (Sb W1 w.heap.size p n c R S rd wt ∧ Below w.heap.size w W1 ∧ W1.heap.size = w.heap.size + 1) := ⟨hs1, hb1, hz1⟩
  clear hs1 hb1 hz1
  refine wp_region_lit ?_
  refine wpList_load_mid rfl 53 (.tmp 1) rfl w.heap.size 0 (by rfl) _ _ H1.out.1.rangeAt Tryz.underlying53 rfl (by kernel_rfl) ?_
  simp only [Act.put, List.setIfInBounds_toArray, List.set_cons_succ, List.set_cons_zero]
  go_wp2_with fail
  have c29 := canBe_any W1 p n c R S rd wt (by omega)
  refine c29.mono ?_
  rintro e W2 ⟨rfl, hb2⟩
  have H2 : Hid (Sb W2 w.heap.size p n c R S rd wt ∧ Below w.heap.size w W2 ∧ w.heap.size < W2.heap.size) := ⟨H1.out.1.below hb2, H1.out.2.1.trans (hb2.mono (by have := H1.out.2.2; omega)), by have := H1.out.2.2; have := hb2.size; omega⟩
  clear c29 hb2 H1
  by_cases hok : okS n R S
  · have d1 : decide (okS n R S) = true := decide_eq_true hok
    rw [d1]
    have q0 := H2.out.1.c0
    have q1 := H2.out.1.c1
    have q3 := H2.out.1.c3
    have q4 := H2.out.1.c4
    have HO : Hid (okS n R S) := hok
    clear hok d1
    go_upto_region 3 with fail
    refine wp_region_lit ?_
    refine wpList_read rfl (.pointer (some ⟨w.heap.size, 1, .none⟩)) (by go_simp) ?_
    simp only [Act.put, List.setIfInBounds_toArray, List.set_cons_succ, List.set_cons_zero]
    refine wpList_read rfl (.int .u32 R) (by go_simp) ?_
    simp only [Act.put, List.setIfInBounds_toArray, List.set_cons_succ, List.set_cons_zero]
    refine wpList_read rfl (.pointer (some ⟨w.heap.size, 1, .none⟩)) (by go_simp) ?_
    simp only [Act.put, List.setIfInBounds_toArray, List.set_cons_succ, List.set_cons_zero]
    refine wpList_read rfl (.int .u32 R) (by go_simp) ?_
    simp only [Act.put, List.setIfInBounds_toArray, List.set_cons_succ, List.set_cons_zero]
    refine wpList_read rfl (.pointer (some ⟨w.heap.size, 3, .none⟩)) (by go_simp) ?_
    simp only [Act.put, List.setIfInBounds_toArray, List.set_cons_succ, List.set_cons_zero]
    refine wpList_read rfl (.bool rd) (by go_simp) ?_
    simp only [Act.put, List.setIfInBounds_toArray, List.set_cons_succ, List.set_cons_zero]
    refine wpList_read rfl (.pointer (some ⟨w.heap.size, 4, .none⟩)) (by go_simp) ?_
    simp only [Act.put, List.setIfInBounds_toArray, List.set_cons_succ, List.set_cons_zero]
    refine wpList_read rfl (.bool wt) (by go_simp) ?_
    simp only [Act.put, List.setIfInBounds_toArray, List.set_cons_succ, List.set_cons_zero]
    refine wpl_built rfl 100 _ rfl (some 20) rfl (pz R R rd wt true) (by simp only [List.map_toArray, List.map_cons, List.map_nil, Act.eval]; exact built_from _ _ _ _) ?_
    simp only [Act.put, List.setIfInBounds_toArray, List.set_cons_succ, List.set_cons_zero]
    refine Great.wpList_boxTo rfl 100 (.tmp 20) rfl (some 21) rfl W2.heap.size rfl (pz R R rd wt true) rfl ?_
    simp only [Act.put, List.setIfInBounds_toArray, List.set_cons_succ, List.set_cons_zero]
    have hp3 := pip_new W2 R rd wt hR
    have hb3 : Below W2.heap.size W2 (W2.alloc (.cells (pz R R rd wt true) 100)) := (Below.refl _ _).alloc (Nat.le_refl _) _
    generalize W2.alloc (.cells (pz R R rd wt true) 100) = W3 at *
    generalize pz R R rd wt true = Z at *
    have H3 : Hid (Pip W3 W2.heap.size [] R rd wt ∧ Sb W3 w.heap.size p n c R S rd wt ∧ Below w.heap.size w W3 ∧ w.heap.size < W3.heap.size) := ⟨hp3, H2.out.1.below hb3, H2.out.2.1.trans (hb3.mono (Nat.le_of_lt H2.out.2.2)), Nat.lt_of_lt_of_le H2.out.2.2 hb3.size⟩
    have hbk : w.heap.size ≤ W2.heap.size := Nat.le_of_lt H2.out.2.2
    have HN2 : Hid (0 < n → NB p W2.heap.size) := HN.out _ hbk
    generalize W2.heap.size = b at *
    have z0 := H3.out.2.1.c0
    clear hp3 hb3 q0 q1 q3 q4 H2
    have B3 : Hid (Byt W3 p n c xs) := by
      have := H3.out.2.2.1
      exact (Trn.ofBelow (b := w.heap.size) this).byt HB.out (fun h => (HN.out _ (Nat.le_refl _) h).at)
    have c27 := lay_pip H3.out.1 B3.out HN2.out HY.out (by have := HO.out.1; simpa using this)
    go_wp2_with fail
    refine c27.mono ?_
    rintro e W4 ⟨⟨v, rfl⟩, hp4, ht4⟩
    have H4 : Hid (Pip W4 b xs R rd wt ∧ Below w.heap.size w W4) := ⟨by simpa using hp4, H3.out.2.2.1.trans (ht4.toBelow hbk (Nat.le_of_lt H3.out.2.2.2))⟩
    clear c27 hp4 ht4
    go_wp2
    go_ret2
    exact ⟨H4.out.2, .inr ⟨HO.out, b, hbk, rfl, H4.out.1⟩⟩
  · have d1 : decide (okS n R S) = false := decide_eq_false hok
    rw [d1]
    have HO : Hid (¬ okS n R S) := hok
    clear hok d1
    go_wp2
    go_ret2
    refine ⟨?_, .inl ⟨HO.out, _, rfl, ?_, ?_, ?_⟩⟩
    · exact H2.out.2.1.alloc (Nat.le_of_lt H2.out.2.2) _
    all_goals (rw [World.cell?_alloc_at _ _ _ _ rfl]; rfl)
end Go.Proofs.YthdlefbaegbldaaGreatDoor
