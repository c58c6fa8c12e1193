import Derived.Test.YtloldhcljdmofaaDoorSamP
namespace Go.Proofs.YtloldhcljdmofaaDoor
open Go.RowKit
set_option linter.unusedVariables false
set_option linter.unusedSimpArgs false
set_option maxHeartbeats 4000000 in
set_option maxRecDepth 100000 in
theorem keptF_any {w : World} {X : Nat} {q1 q2 : Option Addr} {cs1 cs2 : Nat} {S : Nat → Sr} {D : Nat → List Int} {E1 : List (Sg × Value)} {B : Nat → Int} (h1 : Prs w X (.slice q1 E1.length cs1) E1 B) (hN : LnP X w E1 D) (h2 : Arg w q2 E1.length cs2 S D) (he : ∀ i x, E1[i]? = some x → (S i).va = x.1.va ∧ (S i).fl = x.1.fl ∧ (S i).mem = x.1.mem ∧ (S i).n = x.1.sz ∧ D i = byt B x.1) (hl : E1.length ≤ 1000) (en : Int) :
    Calls Tryd.prog 13 #[.agg #[.int .u64 en, .slice q1 E1.length cs1], .agg #[.int .u64 en, .slice q2 E1.length cs2]] w fun e w' => e = .returned (.bool true) ∧ Below w.heap.size w w' := by
  have H1 : Hid (Prs w X (.slice q1 E1.length cs1) E1 B) := h1
  have H2 : Hid (Arg w q2 E1.length cs2 S D) := h2
  have HN : Hid (LnP X w E1 D) := hN
  have HB : Hid (Below w.heap.size w ((w.alloc (.cells #[.int .u64 en, .slice q1 E1.length cs1] 25)).alloc (.cells #[.int .u64 en, .slice q2 E1.length cs2] 25))) := ((Below.refl _ _).alloc (Nat.le_refl _) _).alloc (by simp only [World.size_alloc]; omega) _
  have c18 := sameP_any (h1.below HB.out) (h2.below HB.out) he hl en
  clear h1 h2 hN he
  have k0 : ((w.alloc (.cells #[.int .u64 en, .slice q1 E1.length cs1] 25)).alloc (.cells #[.int .u64 en, .slice q2 E1.length cs2] 25)).cell? ⟨w.heap.size, 0, .none⟩ = some (.int .u64 en) := by
    rw [World.cell?_alloc_lt _ _ _ (by simp only [World.size_alloc]; show w.heap.size < w.heap.size + 1; omega)]
    simp
  have k1 : ((w.alloc (.cells #[.int .u64 en, .slice q1 E1.length cs1] 25)).alloc (.cells #[.int .u64 en, .slice q2 E1.length cs2] 25)).cell? ⟨w.heap.size, 1, .none⟩ = some (.slice q1 E1.length cs1) := by
    rw [World.cell?_alloc_lt _ _ _ (by simp only [World.size_alloc]; show w.heap.size < w.heap.size + 1; omega)]
    simp
  have k2 : ((w.alloc (.cells #[.int .u64 en, .slice q1 E1.length cs1] 25)).alloc (.cells #[.int .u64 en, .slice q2 E1.length cs2] 25)).cell? ⟨w.heap.size + 1, 0, .none⟩ = some (.int .u64 en) := World.cell?_alloc_at _ _ _ _ (by simp only [World.size_alloc])
  have k3 : ((w.alloc (.cells #[.int .u64 en, .slice q1 E1.length cs1] 25)).alloc (.cells #[.int .u64 en, .slice q2 E1.length cs2] 25)).cell? ⟨w.heap.size + 1, 1, .none⟩ = some (.slice q2 E1.length cs2) := World.cell?_alloc_at _ _ _ _ (by simp only [World.size_alloc])
  have HQ : Hid (((w.alloc (.cells #[.int .u64 en, .slice q1 E1.length cs1] 25)).alloc (.cells #[.int .u64 en, .slice q2 E1.length cs2] 25)).cell? ⟨w.heap.size, 1, .none⟩ = some (.slice q1 E1.length cs1) ∧ ((w.alloc (.cells #[.int .u64 en, .slice q1 E1.length cs1] 25)).alloc (.cells #[.int .u64 en, .slice q2 E1.length cs2] 25)).cell? ⟨w.heap.size + 1, 1, .none⟩ = some (.slice q2 E1.length cs2)) := ⟨k1, k3⟩
  go_enter Tryd.func13, Tryd.ntmps13
  go_upto_region 1 with fail
  generalize ((w.alloc (.cells #[.int .u64 en, .slice q1 E1.length cs1] 25)).alloc (.cells #[.int .u64 en, .slice q2 E1.length cs2] 25)) = W2 at *
  go_wp2_with (go_at_call 18; refine c18.mono ?_; rintro _ W3 ⟨rfl, hW3⟩)
  have HQ3 : Hid (W3.cell? ⟨w.heap.size, 1, .none⟩ = some (.slice q1 E1.length cs1) ∧ W3.cell? ⟨w.heap.size + 1, 1, .none⟩ = some (.slice q2 E1.length cs2)) := ⟨(hW3.cell (lt_of_cell HQ.out.1)).trans HQ.out.1, (hW3.cell (lt_of_cell HQ.out.2)).trans HQ.out.2⟩
  have HB3 : Hid (Below w.heap.size w W3) := HB.out.trans (hW3.mono HB.out.size)
  clear k0 k1 k2 k3 HQ HB hW3 c18
  go_loopw [5] (fun a wr => ∃ i : Nat, i ≤ E1.length ∧ a = .int .i64 i ∧ Hid (Below W3.heap.size W3 wr)) (fun a _ => (E1.length - intOf a).toNat)
  case atStart => exact ⟨0, by omega, rfl, Below.refl _ _⟩
  case round =>
    obtain ⟨i, hi, rfl, HR⟩ := hrel
    have b1 := (HR.out.cell (lt_of_cell HQ3.out.1)).trans HQ3.out.1
    have b2 := (HR.out.cell (lt_of_cell HQ3.out.2)).trans HQ3.out.2
    by_cases hlt : i < E1.length
    · have g0 : (i : Int) < E1.length := by omega
      obtain ⟨x, hx⟩ : ∃ x, E1[i]? = some x := ⟨E1[i], List.getElem?_eq_getElem hlt⟩
      have kW : Below w.heap.size w wr.drew := HB3.out.trans (HR.out.drew.mono HB3.out.size)
      have S1 := H1.out.below kW
      have S2 := H2.out.below kW
      have SN := HN.out.below kW
      obtain ⟨_, _, f2, _⟩ := flatE_get E1 _ x hx
      obtain ⟨g, rfl, a2⟩ := own_cell S1.own f2 (by omega) (by omega)
      obtain ⟨h, oh, rfl, _, _, a2', _⟩ := S2.seg hlt
      obtain ⟨d, cd, e1, e2, e3⟩ := SN.1 i x hx
      have D2 := S2.dat i hlt
      have hdn : (D i).length = (S i).n := D2.1
      rw [e1, hdn] at a2
      have c32 := kept_any D2 (H2.out.nb i hlt) e3
      generalize (S i).q = pi at *
      generalize (S i).n = ni at *
      generalize (S i).c = ci at *
      clear f2 S1 S2 SN e1 e2 e3 D2 hdn hx kW
      have kS : (wr.drew.cell? ⟨w.heap.size, 1, .none⟩ = some (.slice (some ⟨g, 0, .none⟩) E1.length cs1) ∧ wr.drew.cell? ⟨w.heap.size + 1, 1, .none⟩ = some (.slice (some ⟨h, oh, .none⟩) E1.length cs2)) ∧ wr.drew.cell? ⟨g, i * 4 + 2, .none⟩ = some (.slice (some ⟨d, 0, .none⟩) ni cd) ∧ wr.drew.cell? ⟨h, oh + i * 4 + 2, .none⟩ = some (.slice pi ni ci) := ⟨⟨b1, b2⟩, a2, a2'⟩
      clear a2 a2' b1
      go_upto_region 6 with fail
      clear b2
      refine wp_region_held_drew (S := fun U2 => (U2.cell? ⟨w.heap.size, 1, .none⟩ = some (.slice (some ⟨g, 0, .none⟩) E1.length cs1) ∧ U2.cell? ⟨w.heap.size + 1, 1, .none⟩ = some (.slice (some ⟨h, oh, .none⟩) E1.length cs2)) ∧ U2.cell? ⟨g, i * 4 + 2, .none⟩ = some (.slice (some ⟨d, 0, .none⟩) ni cd) ∧ U2.cell? ⟨h, oh + i * 4 + 2, .none⟩ = some (.slice pi ni ci)) (by kernel_rfl) kS (fun hHeld => ?_)
      refine wpAnyH_take (i := 0) (v := (.pointer (some ⟨w.heap.size, 1, .none⟩))) rfl (by kernel_rfl) (by kernel_rfl) (by kernel_rfl) (fun _ _ _ h => h) (Or.inl ⟨by rfl, fun ww hSw => by (try dsimp only at hSw); go_simp⟩) (by assumption) ?_
      simp only [Act.put, List.setIfInBounds_toArray, List.set_cons_zero, List.set_cons_succ, List.getElem_toArray, List.getElem_cons_succ, List.getElem_cons_zero]
      refine wpAnyH_take (i := 1) (v := (.slice (some ⟨g, 0, .none⟩) E1.length cs1)) rfl (by kernel_rfl) (by kernel_rfl) (by kernel_rfl) (fun _ _ _ h => h) (Or.inl ⟨by rfl, fun ww hSw => by (try dsimp only at hSw); go_simp⟩) (by assumption) ?_
      simp only [Act.put, List.setIfInBounds_toArray, List.set_cons_zero, List.set_cons_succ, List.getElem_toArray, List.getElem_cons_succ, List.getElem_cons_zero]
      refine wpAnyH_take (i := 2) (v := (.int .i64 i)) rfl (by kernel_rfl) (by kernel_rfl) (by kernel_rfl) (fun _ _ _ h => h) (Or.inl ⟨by rfl, fun ww hSw => by (try dsimp only at hSw); go_simp⟩) (by assumption) ?_
      simp only [Act.put, List.setIfInBounds_toArray, List.set_cons_zero, List.set_cons_succ, List.getElem_toArray, List.getElem_cons_succ, List.getElem_cons_zero]
      refine wpAnyH_take (i := 3) (v := (.pointer (some ⟨g, i * 4, .none⟩))) rfl (by kernel_rfl) (by kernel_rfl) (by kernel_rfl) (fun _ _ _ h => h) (Or.inl ⟨by rfl, fun ww hSw => by (try dsimp only at hSw); go_simp⟩) (by assumption) ?_
      simp only [Act.put, List.setIfInBounds_toArray, List.set_cons_zero, List.set_cons_succ, List.getElem_toArray, List.getElem_cons_succ, List.getElem_cons_zero]
      refine wpAnyH_take (i := 4) (v := (.pointer (some ⟨g, i * 4 + 2, .none⟩))) rfl (by kernel_rfl) (by kernel_rfl) (by kernel_rfl) (fun _ _ _ h => h) (Or.inl ⟨by rfl, fun ww hSw => by (try dsimp only at hSw); go_simp⟩) (by assumption) ?_
      simp only [Act.put, List.setIfInBounds_toArray, List.set_cons_zero, List.set_cons_succ, List.getElem_toArray, List.getElem_cons_succ, List.getElem_cons_zero]
      refine wpAnyH_take (i := 5) (v := (.slice (some ⟨d, 0, .none⟩) ni cd)) rfl (by kernel_rfl) (by kernel_rfl) (by kernel_rfl) (fun _ _ _ h => h) (Or.inl ⟨by rfl, fun ww hSw => by (try dsimp only at hSw); go_simp⟩) (by assumption) ?_
      simp only [Act.put, List.setIfInBounds_toArray, List.set_cons_zero, List.set_cons_succ, List.getElem_toArray, List.getElem_cons_succ, List.getElem_cons_zero]
      refine wpAnyH_take (i := 6) (v := (.pointer (some ⟨w.heap.size + 1, 1, .none⟩))) rfl (by kernel_rfl) (by kernel_rfl) (by kernel_rfl) (fun _ _ _ h => h) (Or.inl ⟨by rfl, fun ww hSw => by (try dsimp only at hSw); go_simp⟩) (by assumption) ?_
      simp only [Act.put, List.setIfInBounds_toArray, List.set_cons_zero, List.set_cons_succ, List.getElem_toArray, List.getElem_cons_succ, List.getElem_cons_zero]
      refine wpAnyH_take (i := 7) (v := (.slice (some ⟨h, oh, .none⟩) E1.length cs2)) rfl (by kernel_rfl) (by kernel_rfl) (by kernel_rfl) (fun _ _ _ h => h) (Or.inl ⟨by rfl, fun ww hSw => by (try dsimp only at hSw); go_simp⟩) (by assumption) ?_
      simp only [Act.put, List.setIfInBounds_toArray, List.set_cons_zero, List.set_cons_succ, List.getElem_toArray, List.getElem_cons_succ, List.getElem_cons_zero]
      refine wpAnyH_take (i := 8) (v := (.int .i64 i)) rfl (by kernel_rfl) (by kernel_rfl) (by kernel_rfl) (fun _ _ _ h => h) (Or.inl ⟨by rfl, fun ww hSw => by (try dsimp only at hSw); go_simp⟩) (by assumption) ?_
      simp only [Act.put, List.setIfInBounds_toArray, List.set_cons_zero, List.set_cons_succ, List.getElem_toArray, List.getElem_cons_succ, List.getElem_cons_zero]
      refine wpAnyH_take (i := 9) (v := (.pointer (some ⟨h, oh + i * 4, .none⟩))) rfl (by kernel_rfl) (by kernel_rfl) (by kernel_rfl) (fun _ _ _ h => h) (Or.inl ⟨by rfl, fun ww hSw => by (try dsimp only at hSw); go_simp⟩) (by assumption) ?_
      simp only [Act.put, List.setIfInBounds_toArray, List.set_cons_zero, List.set_cons_succ, List.getElem_toArray, List.getElem_cons_succ, List.getElem_cons_zero]
      refine wpAnyH_take (i := 10) (v := (.pointer (some ⟨h, oh + i * 4 + 2, .none⟩))) rfl (by kernel_rfl) (by kernel_rfl) (by kernel_rfl) (fun _ _ _ h => h) (Or.inl ⟨by rfl, fun ww hSw => by (try dsimp only at hSw); go_simp⟩) (by assumption) ?_
      simp only [Act.put, List.setIfInBounds_toArray, List.set_cons_zero, List.set_cons_succ, List.getElem_toArray, List.getElem_cons_succ, List.getElem_cons_zero]
      refine wpAnyH_take (i := 11) (v := (.slice pi ni ci)) rfl (by kernel_rfl) (by kernel_rfl) (by kernel_rfl) (fun _ _ _ h => h) (Or.inl ⟨by rfl, fun ww hSw => by (try dsimp only at hSw); go_simp⟩) (by assumption) ?_
      simp only [Act.put, List.setIfInBounds_toArray, List.set_cons_zero, List.set_cons_succ, List.getElem_toArray, List.getElem_cons_succ, List.getElem_cons_zero]
      refine wpAnyH_ready (rs := [12]) (by kernel_rfl) (by simp) ?_
      refine AllReadyH.cons rfl (fun K hK => ?_) AllReadyH.nil
      go_simp
      go_at_call 32
      refine c32.mono ?_
      rintro e w1 ⟨rfl, kk, rfl⟩
      have kS4 : ((wr.drew.drewN kk).cell? ⟨w.heap.size, 1, .none⟩ = some (.slice (some ⟨g, 0, .none⟩) E1.length cs1) ∧ (wr.drew.drewN kk).cell? ⟨w.heap.size + 1, 1, .none⟩ = some (.slice (some ⟨h, oh, .none⟩) E1.length cs2)) ∧ (wr.drew.drewN kk).cell? ⟨g, i * 4 + 2, .none⟩ = some (.slice (some ⟨d, 0, .none⟩) ni cd) ∧ (wr.drew.drewN kk).cell? ⟨h, oh + i * 4 + 2, .none⟩ = some (.slice pi ni ci) := kS
      refine hK.out _ _ kS4 (fun hHeld => ?_)
      clear hK K
      try simp only [Act.put, List.setIfInBounds_toArray, List.set_cons_zero, List.set_cons_succ, List.getElem_toArray, List.getElem_cons_succ, List.getElem_cons_zero]
      refine wpAnyH_take (i := 13) (v := (.bool false)) rfl (by kernel_rfl) (by kernel_rfl) (by kernel_rfl) (fun _ _ _ h => h) (Or.inl ⟨by rfl, fun ww hSw => by (try dsimp only at hSw); go_simp⟩) (by assumption) ?_
      simp only [Act.put, List.setIfInBounds_toArray, List.set_cons_zero, List.set_cons_succ, List.getElem_toArray, List.getElem_cons_succ, List.getElem_cons_zero]
      refine wpAnyH_done (by kernel_rfl) ?_ _
      have bd : Below wr.heap.size wr (wr.drew.drewN kk) := ⟨rfl, rfl, rfl, Nat.le_refl _, fun _ _ => rfl⟩
      have HR2 : Hid (Below W3.heap.size W3 (wr.drew.drewN kk)) := HR.out.trans (bd.mono HR.out.size)
      clear hHeld kS kS4 c32 bd HR
      generalize wr.drew.drewN kk = wd at *
      go_wp2_with fail
      exact ⟨⟨i + 1, by omega, by simp, HR2⟩, by simp [intOf]; omega⟩
    · have hn : ¬ ((i : Int) < E1.length) := by omega
      go_wp2_with fail
      go_ret
      exact ⟨rfl, HB3.out.trans (HR.out.mono HB3.out.size)⟩
end Go.Proofs.YtloldhcljdmofaaDoor
