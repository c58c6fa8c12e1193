import Derived.Test.YtblpdnchphhcaabDoorRj
namespace Go.Proofs.YtblpdnchphhcaabDoor
open Go.RowKit
set_option linter.unusedVariables false
set_option linter.unusedSimpArgs false
/-- The document's console. -/
structure Dcn (w : World) (d : Nat) (vD vL : Value) (rs ls : List Int) : Prop where
  c0 : w.cell? ⟨d, 0, .none⟩ = some vD
  c1 : w.cell? ⟨d, 1, .none⟩ = some vL
  c2 : w.cell? ⟨d, 2, .none⟩ = some (.bool true)
  fz : ∀ i, w.frozen? ⟨d, i, .none⟩ = false
  rD : w.ownsRow 0 5 1 vD rs.length (by8 rs)
  rL : w.ownsRow 0 5 1 vL ls.length (by8 ls)
  aD : ∀ k, vD.ownBlock = some k → k ≠ d ∧ vL.ownBlock ≠ some k
  aL : ∀ k, vL.ownBlock = some k → k ≠ d
  le : rs.length + ls.length ≤ 128
  by_ : ∀ x ∈ rs ++ ls, 0 ≤ x ∧ x < 256
section
variable {w v : World} {d : Nat} {vD vL : Value} {rs ls : List Int} {S : Nat → Prop}
theorem Dcn.lt (h : Dcn w d vD vL rs ls) : d < w.heap.size := lt_cell h.c2
theorem Dcn.keep (h : Dcn w d vD vL rs ls) (t : Chg S w v) (hd : ¬ S d) (h1 : ∀ k, vD.ownBlock = some k → ¬ S k) (h2 : ∀ k, vL.ownBlock = some k → ¬ S k) : Dcn v d vD vL rs ls :=
  ⟨(t.cell (p := ⟨d, 0, .none⟩) h.lt hd).trans h.c0, (t.cell (p := ⟨d, 1, .none⟩) h.lt hd).trans h.c1, (t.cell (p := ⟨d, 2, .none⟩) h.lt hd).trans h.c2, fun i => (t.frozen (p := ⟨d, i, .none⟩) h.lt hd).trans (h.fz i), t.own h.rD h1, t.own h.rL h2, h.aD, h.aL, h.le, h.by_⟩
theorem Dcn.below (h : Dcn w d vD vL rs ls) (t : Below w.heap.size w v) : Dcn v d vD vL rs ls := h.keep (S := fun _ => False) (Chg.ofBelow t) (fun h => h) (fun _ _ h => h) (fun _ _ h => h)
theorem Dcn.drewN (h : Dcn w d vD vL rs ls) (k : Nat) : Dcn (w.drewN k) d vD vL rs ls := ⟨h.c0, h.c1, h.c2, h.fz, h.rD, h.rL, h.aD, h.aL, h.le, h.by_⟩
theorem Dcn.froz (h : Dcn w d vD vL rs ls) (o : Nat) (u : Value) : ∀ i, (w.setCell ⟨d, o, .none⟩ u).frozen? ⟨d, i, .none⟩ = false := fun i => (World.frozen?_setCells d [u] o w ⟨d, i, .none⟩).trans (h.fz i)
theorem Dcn.setL (h : Dcn w d vD vL rs ls) (v' : Value) (ls' : List Int) (hO : w.ownsRow 0 5 1 v' ls'.length (by8 ls')) (h1 : ∀ k, v'.ownBlock = some k → k ≠ d ∧ vD.ownBlock ≠ some k) (hl : rs.length + ls'.length ≤ 128) (hb : ∀ x ∈ ls', 0 ≤ x ∧ x < 256) : Dcn (w.setCell ⟨d, 1, .none⟩ v') d vD v' rs ls' :=
  ⟨cell_off h.c0 _ _ (by decide), cell_one h.c1 _, cell_off h.c2 _ _ (by decide), h.froz _ _, own_setd h.rD (fun k hk => (h.aD k hk).1) _, own_setd hO (fun k hk => (h1 k hk).1) _, fun k hk => ⟨(h.aD k hk).1, fun e => (h1 k e).2 hk⟩, fun k hk => (h1 k hk).1, hl, fun x hx => by
    rcases List.mem_append.1 hx with hx | hx
    · exact h.by_ x (List.mem_append.2 (.inl hx))
    · exact hb x hx⟩
theorem Dcn.setD (h : Dcn w d vD vL rs ls) (v' : Value) (rs' : List Int) (hO : w.ownsRow 0 5 1 v' rs'.length (by8 rs')) (h1 : ∀ k, v'.ownBlock = some k → k ≠ d ∧ vL.ownBlock ≠ some k) (hl : rs'.length + ls.length ≤ 128) (hb : ∀ x ∈ rs', 0 ≤ x ∧ x < 256) : Dcn (w.setCell ⟨d, 0, .none⟩ v') d v' vL rs' ls :=
  ⟨cell_one h.c0 _, cell_off h.c1 _ _ (by decide), cell_off h.c2 _ _ (by decide), h.froz _ _, own_setd hO (fun k hk => (h1 k hk).1) _, own_setd h.rL h.aL _, h1, h.aL, hl, fun x hx => by
    rcases List.mem_append.1 hx with hx | hx
    · exact hb x hx
    · exact h.by_ x (List.mem_append.2 (.inr hx))⟩
end
/-- The document's console, and its blocks. -/
def Doc (w : World) (d : Nat) (D : Nat → Prop) (rs ls : List Int) : Prop := ∃ vD vL, Dcn w d vD vL rs ls ∧ D d ∧ (∀ k, vD.ownBlock = some k → D k) ∧ (∀ k, vL.ownBlock = some k → D k)
theorem Doc.keep {w v : World} {d : Nat} {D S : Nat → Prop} {rs ls : List Int} (h : Doc w d D rs ls) (t : Chg S w v) (hs : ∀ k, k < w.heap.size → D k → ¬ S k) : Doc v d D rs ls := by
  obtain ⟨vD, vL, h1, h2, h3, h4⟩ := h
  exact ⟨vD, vL, h1.keep t (hs d h1.lt h2) (fun k hk => hs k (own_ltC h1.rD k hk) (h3 k hk)) (fun k hk => hs k (own_ltC h1.rL k hk) (h4 k hk)), h2, h3, h4⟩
theorem Doc.below {w v : World} {d : Nat} {D : Nat → Prop} {rs ls : List Int} (h : Doc w d D rs ls) (t : Below w.heap.size w v) : Doc v d D rs ls := h.keep (S := fun _ => False) (Chg.ofBelow t) (fun _ _ _ h => h)
theorem Doc.drewN {w : World} {d : Nat} {D : Nat → Prop} {rs ls : List Int} (h : Doc w d D rs ls) (k : Nat) : Doc (w.drewN k) d D rs ls := by
  obtain ⟨vD, vL, h1, h2⟩ := h
  exact ⟨vD, vL, h1.drewN k, h2⟩
theorem rnone_any {w : World} {d : Nat} {vD vL : Value} {rs ls : List Int} (h : Dcn w d vD vL rs ls) : Calls Tryd.prog 34 #[.pointer (some ⟨d, 0, .none⟩)] w fun e w' => e = .returned (.bool false) ∧ w' = w := by
  have c2 := h.c2
  clear h
  go_enter Tryd.func34, Tryd.ntmps34
  go_wp2
  go_ret
  exact ⟨rfl, rfl⟩
theorem rready_any {w : World} {d : Nat} {vD vL : Value} {rs ls : List Int} (h : Dcn w d vD vL rs ls) : Calls Tryd.prog 17 #[.pointer (some ⟨d, 0, .none⟩)] w fun e w' => e = .returned (.bool (decide (0 < rs.length))) ∧ w' = w := by
  have c := rnone_any h
  have c0 := h.c0
  obtain ⟨p, cc, rfl⟩ := one_slice h.rD
  clear h
  generalize rs.length = R at *
  go_enter Tryd.func17, Tryd.ntmps17
  go_wp2_with fail
  refine c.mono ?_
  rintro e w1 ⟨rfl, hw⟩
  obtain rfl : w = w1 := hw.symm
  go_wp2
  go_ret
  exact ⟨by simp, rfl⟩
set_option maxHeartbeats 2000000 in
theorem rstate_any {w : World} {d : Nat} {D : Nat → Prop} {rs ls : List Int} (h : Doc w d D rs ls) : Calls Tryd.prog 20 #[.pointer (some ⟨d, 0, .none⟩)] w (Sta w rs ls) := by
  obtain ⟨vD, vL, h, _⟩ := h
  obtain ⟨pD, cD, rfl⟩ := one_slice h.rD
  obtain ⟨pL, cL, rfl⟩ := one_slice h.rL
  have HP : Hid (Dcn w d (.slice pD rs.length cD) (.slice pL ls.length cL) rs ls) := h
  have hle := h.le
  clear h
  obtain ⟨R, hR⟩ : ∃ R, R = rs.length := ⟨_, rfl⟩
  obtain ⟨L, hL⟩ : ∃ L, L = ls.length := ⟨_, rfl⟩
  rw [← hR, ← hL] at HP hle
  have HS : Hid (R = rs.length ∧ L = ls.length) := ⟨hR, hL⟩
  clear hR hL
  have ZZ : Hid (∀ V : World, V = w.alloc (.cells #[.slice .none 0 0, .slice .none 0 0] 24) → Dcn V d (.slice pD R cD) (.slice pL L cL) rs ls ∧ Below w.heap.size w V ∧ V.heap.size = w.heap.size + 1 ∧ V.there w.heap.size 0 2) := by
    intro V hV
    have hb : Below w.heap.size w V := by rw [hV]; exact (Below.refl _ _).alloc (Nat.le_refl _) _
    refine ⟨HP.out.below hb, hb, by rw [hV]; simp, fun j hj => ?_⟩
    rw [hV]
    constructor
    · rw [World.cell?_alloc_at _ _ _ _ rfl]
      simp; omega
    · exact froz_new _ _ _ _
  have cS : Hid (∀ V, Dcn V d (.slice pD R cD) (.slice pL L cL) rs ls → (V.cell? ⟨d, 0, .none⟩ = some (.slice pD R cD) ∧ V.cell? ⟨d, 1, .none⟩ = some (.slice pL L cL))) := fun V hV => ⟨hV.c0, hV.c1⟩
  go_enter Tryd.func20, Tryd.ntmps20
  go_wp2_with fail
  generalize hV : w.alloc (.cells #[.slice .none 0 0, .slice .none 0 0] 24) = V
  have hV2 := ZZ.out V hV.symm
  have H1 : Hid (Dcn V d (.slice pD R cD) (.slice pL L cL) rs ls ∧ Below w.heap.size w V ∧ V.heap.size = w.heap.size + 1 ∧ V.there w.heap.size 0 2) := hV2
  clear hV hV2 ZZ
  have c25 := rnone_any H1.out.1
  refine c25.mono ?_
  rintro e w1 ⟨rfl, hw1⟩
  obtain rfl : V = w1 := hw1.symm
  clear c25
  have kS : (V.drew.cell? ⟨d, 0, .none⟩ = some (.slice pD R cD) ∧ V.drew.cell? ⟨d, 1, .none⟩ = some (.slice pL L cL)) := cS.out _ (H1.out.1.drewN 1)
  go_upto_region 3 with fail
  refine wp_region_held_drew (S := fun U => (U.cell? ⟨d, 0, .none⟩ = some (.slice pD R cD) ∧ U.cell? ⟨d, 1, .none⟩ = some (.slice pL L cL))) (by kernel_rfl) kS (fun hHeld => ?_)
  refine wpAnyH_take (i := 0) (v := (.pointer (some ⟨d, 0, .none⟩))) rfl (by kernel_rfl) (by kernel_rfl) (by kernel_rfl) (fun _ _ _ h => h) (Or.inl ⟨by rfl, fun ww hSw => by (try dsimp only at hSw); go_simp⟩) (by assumption) ?_
  simp only [Act.put, List.setIfInBounds_toArray, List.set_cons_zero, List.set_cons_succ, List.getElem_toArray, List.getElem_cons_succ, List.getElem_cons_zero]
  refine wpAnyH_take (i := 1) (v := (.pointer (some ⟨d, 0, .none⟩))) rfl (by kernel_rfl) (by kernel_rfl) (by kernel_rfl) (fun _ _ _ h => h) (Or.inl ⟨by rfl, fun ww hSw => by (try dsimp only at hSw); go_simp⟩) (by assumption) ?_
  simp only [Act.put, List.setIfInBounds_toArray, List.set_cons_zero, List.set_cons_succ, List.getElem_toArray, List.getElem_cons_succ, List.getElem_cons_zero]
  refine wpAnyH_take (i := 2) (v := (.pointer (some ⟨d, 0, .none⟩))) rfl (by kernel_rfl) (by kernel_rfl) (by kernel_rfl) (fun _ _ _ h => h) (Or.inl ⟨by rfl, fun ww hSw => by (try dsimp only at hSw); go_simp⟩) (by assumption) ?_
  simp only [Act.put, List.setIfInBounds_toArray, List.set_cons_zero, List.set_cons_succ, List.getElem_toArray, List.getElem_cons_succ, List.getElem_cons_zero]
  refine wpAnyH_take (i := 3) (v := (.slice pD R cD)) rfl (by kernel_rfl) (by kernel_rfl) (by kernel_rfl) (fun _ _ _ h => h) (Or.inl ⟨by rfl, fun ww hSw => by (try dsimp only at hSw); go_simp⟩) (by assumption) ?_
  simp only [Act.put, List.setIfInBounds_toArray, List.set_cons_zero, List.set_cons_succ, List.getElem_toArray, List.getElem_cons_succ, List.getElem_cons_zero]
  refine wpAnyH_take (i := 5) (v := (.pointer (some ⟨d, 0, .none⟩))) rfl (by kernel_rfl) (by kernel_rfl) (by kernel_rfl) (fun _ _ _ h => h) (Or.inl ⟨by rfl, fun ww hSw => by (try dsimp only at hSw); go_simp⟩) (by assumption) ?_
  simp only [Act.put, List.setIfInBounds_toArray, List.set_cons_zero, List.set_cons_succ, List.getElem_toArray, List.getElem_cons_succ, List.getElem_cons_zero]
  refine wpAnyH_take (i := 6) (v := (.pointer (some ⟨d, 0, .none⟩))) rfl (by kernel_rfl) (by kernel_rfl) (by kernel_rfl) (fun _ _ _ h => h) (Or.inl ⟨by rfl, fun ww hSw => by (try dsimp only at hSw); go_simp⟩) (by assumption) ?_
  simp only [Act.put, List.setIfInBounds_toArray, List.set_cons_zero, List.set_cons_succ, List.getElem_toArray, List.getElem_cons_succ, List.getElem_cons_zero]
  refine wpAnyH_take (i := 7) (v := (.pointer (some ⟨d, 1, .none⟩))) rfl (by kernel_rfl) (by kernel_rfl) (by kernel_rfl) (fun _ _ _ h => h) (Or.inl ⟨by rfl, fun ww hSw => by (try dsimp only at hSw); go_simp⟩) (by assumption) ?_
  simp only [Act.put, List.setIfInBounds_toArray, List.set_cons_zero, List.set_cons_succ, List.getElem_toArray, List.getElem_cons_succ, List.getElem_cons_zero]
  refine wpAnyH_take (i := 8) (v := (.slice pL L cL)) rfl (by kernel_rfl) (by kernel_rfl) (by kernel_rfl) (fun _ _ _ h => h) (Or.inl ⟨by rfl, fun ww hSw => by (try dsimp only at hSw); go_simp⟩) (by assumption) ?_
  simp only [Act.put, List.setIfInBounds_toArray, List.set_cons_zero, List.set_cons_succ, List.getElem_toArray, List.getElem_cons_succ, List.getElem_cons_zero]
  refine wpAnyH_ready (rs := [4]) (by kernel_rfl) (by simp) ?_
  refine AllReadyH.cons rfl (fun K hK => ?_) AllReadyH.nil
  go_simp
  have BY : Byt V.drew pD R cD rs := by
    have := (H1.out.1.drewN 1).rD
    rw [← HS.out.1] at this
    exact byt_own this
  have BN : Byt V.drew none 0 0 [] := ⟨rfl, Nat.le_refl _, by decide, .inl rfl⟩
  refine (joined_any BY BN (by omega)).mono ?_
  rw [List.append_nil]
  rintro e V1 ⟨p, c, rfl, hO, hb1⟩
  rw [← HS.out.1] at hO ⊢
  have H2 : Hid (Dcn V1 d (.slice pD R cD) (.slice pL L cL) rs ls ∧ Below w.heap.size w V1 ∧ w.heap.size < V1.heap.size ∧ V1.there w.heap.size 0 2 ∧ V1.ownsRow (w.heap.size + 1) 5 1 (.slice p R c) R (by8 rs)) := by
    have e1 : V.drew.heap.size = w.heap.size + 1 := H1.out.2.2.1
    have bD : Below w.heap.size w V.drew := ⟨H1.out.2.1.os, H1.out.2.1.tape, H1.out.2.1.output, H1.out.2.1.size, H1.out.2.1.block⟩
    refine ⟨(H1.out.1.drewN 1).below hb1, bD.trans (hb1.mono (by omega)), by have := hb1.size; omega, fun j hj => ?_, ?_⟩
    · have := H1.out.2.2.2 j hj
      exact ⟨by rw [hb1.cell (p := ⟨w.heap.size, 0 + j, .none⟩) (by show w.heap.size < _; omega)]; exact this.1, by rw [hb1.frozen (p := ⟨w.heap.size, 0 + j, .none⟩) (by show w.heap.size < _; omega)]; exact this.2⟩
    · rw [e1] at hO
      exact hO
  have kS1 : (V1.cell? ⟨d, 0, .none⟩ = some (.slice pD R cD) ∧ V1.cell? ⟨d, 1, .none⟩ = some (.slice pL L cL)) := cS.out _ H2.out.1
  clear hO hb1 BY BN kS
  refine hK.out _ _ kS1 (fun hHeld => ?_)
  clear hK K
  try simp only [Act.put, List.setIfInBounds_toArray, List.set_cons_zero, List.set_cons_succ, List.getElem_toArray, List.getElem_cons_succ, List.getElem_cons_zero]
  refine wpAnyH_ready (rs := [9]) (by kernel_rfl) (by simp) ?_
  refine AllReadyH.cons rfl (fun K hK => ?_) AllReadyH.nil
  go_simp
  have BY : Byt V1 pL L cL ls := by
    have := H2.out.1.rL
    rw [← HS.out.2] at this
    exact byt_own this
  have BN : Byt V1 none 0 0 [] := ⟨rfl, Nat.le_refl _, by decide, .inl rfl⟩
  refine (joined_any BY BN (by omega)).mono ?_
  rw [List.append_nil]
  rintro e V2 ⟨q, f, rfl, hO, hb2⟩
  rw [← HS.out.2] at hO ⊢
  have H3 : Hid (Below w.heap.size w V2 ∧ w.heap.size < V1.heap.size ∧ V1.heap.size ≤ V2.heap.size ∧ V2.there w.heap.size 0 2 ∧ V2.ownsRow (w.heap.size + 1) 5 1 (.slice p R c) R (by8 rs) ∧ V2.ownsRow V1.heap.size 5 1 (.slice q L f) L (by8 ls) ∧ (∀ g, (Value.slice p R c).ownBlock = some g → g < V1.heap.size)) := by
    have e1 := H2.out.2.2.1
    refine ⟨H2.out.2.1.trans (hb2.mono (by omega)), e1, hb2.size, fun j hj => ?_, (Chg.ofBelow (S := fun _ => False) hb2).own H2.out.2.2.2.2 (fun _ _ h => h), hO, own_ltC H2.out.2.2.2.2⟩
    have := H2.out.2.2.2.1 j hj
    exact ⟨by rw [hb2.cell (p := ⟨w.heap.size, 0 + j, .none⟩) (by show w.heap.size < _; omega)]; exact this.1, by rw [hb2.frozen (p := ⟨w.heap.size, 0 + j, .none⟩) (by show w.heap.size < _; omega)]; exact this.2⟩
  have kS2 : (V2.cell? ⟨d, 0, .none⟩ = some (.slice pD R cD) ∧ V2.cell? ⟨d, 1, .none⟩ = some (.slice pL L cL)) := cS.out _ (H2.out.1.below hb2)
  clear hO hb2 BY BN kS1 H2
  generalize V1.heap.size = X at *
  refine hK.out _ _ kS2 (fun hHeld => ?_)
  clear hK K
  try simp only [Act.put, List.setIfInBounds_toArray, List.set_cons_zero, List.set_cons_succ, List.getElem_toArray, List.getElem_cons_succ, List.getElem_cons_zero]
  refine wpAnyH_take (i := 10) (v := (.agg #[.slice p R c, .slice q L f])) rfl (by kernel_rfl) (by kernel_rfl) (by kernel_rfl) (fun _ _ _ h => h) (Or.inl ⟨by rfl, fun ww hSw => by (try dsimp only at hSw); go_simp⟩) (by assumption) ?_
  simp only [Act.put, List.setIfInBounds_toArray, List.set_cons_zero, List.set_cons_succ, List.getElem_toArray, List.getElem_cons_succ, List.getElem_cons_zero]
  refine wpAnyH_ready (rs := [11]) (by kernel_rfl) (by simp) ?_
  refine AllReadyH.cons rfl (fun K hK => ?_) AllReadyH.nil
  refine step_store_mid rfl 24 (.tmp 2) (.tmp 16) rfl w.heap.size 0 #[.slice p R c, .slice q L f] (by simp [Act.eval]) (by simp [Act.eval]) H3.out.2.2.2.1 (by kernel_rfl) (by simp [Value.oneCell']) ?_
  have t3 : Trn w.heap.size V2 (V2.setCells w.heap.size 0 [.slice p R c, .slice q L f]) := Trn.setCells _ _ _ _
  have hr3 : (V2.setCells w.heap.size 0 [.slice p R c, .slice q L f]).rangeAt w.heap.size 0 [.slice p R c, .slice q L f] := World.rangeAt_setCells_same _ _ _ _ H3.out.2.2.2.1
  have hlt := HP.out.lt
  have kS3 : ((V2.setCells w.heap.size 0 [.slice p R c, .slice q L f]).cell? ⟨d, 0, .none⟩ = some (.slice pD R cD) ∧ (V2.setCells w.heap.size 0 [.slice p R c, .slice q L f]).cell? ⟨d, 1, .none⟩ = some (.slice pL L cL)) := ⟨(t3.cell (p := ⟨d, 0, .none⟩) (by have := H3.out; show d < _; omega) (by show d ≠ _; omega)).trans kS2.1, (t3.cell (p := ⟨d, 1, .none⟩) (by have := H3.out; show d < _; omega) (by show d ≠ _; omega)).trans kS2.2⟩
  generalize hV3 : V2.setCells w.heap.size 0 [.slice p R c, .slice q L f] = V3 at t3 hr3 kS3
  have H4 : Hid (Below w.heap.size w V3 ∧ V3.ownsRow w.heap.size 5 1 (.slice p R c) R (by8 rs) ∧ V3.ownsRow X 5 1 (.slice q L f) L (by8 ls) ∧ w.heap.size ≤ X ∧ (∀ g, (Value.slice p R c).ownBlock = some g → g < X)) := by
    have h3 := H3.out
    refine ⟨h3.1.trans (t3.toBelow (Nat.le_refl _) (by omega)), own_mono (t3.own h3.2.2.2.2.1 (fun g hg e => ?_)) (by omega), t3.own h3.2.2.2.2.2.1 (fun g hg e => ?_), by omega, h3.2.2.2.2.2.2⟩
    · have := own_block h3.2.2.2.2.1 g hg
      omega
    · have := own_block h3.2.2.2.2.2.1 g hg
      omega
  have HR : Hid (V3.rangeAt w.heap.size 0 [.slice p R c, .slice q L f]) := hr3
  clear t3 hr3
  try clear hV3
  refine hK.out _ _ kS3 (fun hHeld => ?_)
  clear hK K
  try simp only [Act.put, List.setIfInBounds_toArray, List.set_cons_zero, List.set_cons_succ, List.getElem_toArray, List.getElem_cons_succ, List.getElem_cons_zero]
  refine wpAnyH_done (by kernel_rfl) ?_ _
  go_wp2
  refine bodyPost_ret (results_cell_any (p := 2) (ty := 24) rfl _ _ ⟨w.heap.size, 0, .none⟩ _ rfl (run_loadVar_mid (P := Tryd.prog) _ w.heap.size 0 24 _ _ HR.out Tryd.underlying24 rfl (by kernel_rfl))) rfl ?_
  have h4 := H4.out
  have hs := HS.out
  obtain ⟨rfl, rfl⟩ := hs
  exact ⟨p, c, q, f, X, rfl, h4.2.1, h4.2.2.1, h4.2.2.2.1, h4.2.2.2.2, h4.1⟩
end Go.Proofs.YtblpdnchphhcaabDoor
