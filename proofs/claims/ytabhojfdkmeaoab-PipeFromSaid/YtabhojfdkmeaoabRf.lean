import Derived.Test.YtabhojfdkmeaoabDc
namespace Go.Proofs.Ytabhojfdkmeaoab
open Go.RowKit
set_option linter.unusedVariables false
set_option linter.unusedSimpArgs false
set_option maxHeartbeats 2000000 in
set_option maxRecDepth 100000 in
/-- The document's From. -/
theorem rfrom_any {w : World} {p : Option Addr} {n c : Nat} {xs : List Int} (R S : Int) (rd wt : Bool) (hB : Byt w p n c xs) (hR : 0 ≤ R ∧ R < 4294967296) (hS : 0 ≤ S ∧ S < 4294967296) :
    Calls Try.prog 6 #[.agg #[.slice p n c, .int .u32 R, .int .u32 S, .bool rd, .bool wt]] w fun en w' => Below w.heap.size w w' ∧ ((¬ okS n R S ∧ en = .returned (.tuple #[.pointer .none, .bool false])) ∨ (okS n R S ∧ ∃ d, w.heap.size ≤ d ∧ d < w'.heap.size ∧ en = .returned (.tuple #[.pointer (some ⟨d, 0, .none⟩), .bool true]) ∧ ∃ e, Dr w' d e R S rd wt ∧ w'.ownsRow w.heap.size 5 1 e n (by8 xs) ∧ ∀ g, e.ownBlock = some g → g ≠ d)) := by
  have hl := hB.1
  have hnc := hB.2.1
  have hcm : c ≤ 9223372036854775807 := hB.2.2.1
  have HB : Hid (Byt w p n c xs) := hB
  clear hB
  go_enter Try.func6, Try.ntmps6
  go_upto_region 1 with fail
  have hs1 := sb_new w p n c R S rd wt
  have hb1 := Trn.new w (.cells #[.slice p n c, .int .u32 R, .int .u32 S, .bool rd, .bool wt] 25)
  have hz1 : (w.alloc (.cells #[.slice p n c, .int .u32 R, .int .u32 S, .bool rd, .bool wt] 25)).heap.size = w.heap.size + 1 := by simp
  generalize w.alloc (.cells #[.slice p n c, .int .u32 R, .int .u32 S, .bool rd, .bool wt] 25) = W1 at *
  have H1 : Hid (Sb W1 w.heap.size p n c R S rd wt ∧ Below w.heap.size w W1 ∧ W1.heap.size = w.heap.size + 1) := ⟨hs1, hb1, hz1⟩
  clear hs1 hb1 hz1
  have a0 := H1.out.1.c0
  have a1 := H1.out.1.c1
  have a2 := H1.out.1.c2
  have ew : IntKind.u32.wrap (S - R) = (S - R) % 4294967296 := by simp [IntKind.wrap, IntKind.bits, IntKind.signed]
  by_cases hok : okS n R S
  · have i1 : ¬ (512 : Int) < n := by have := hok.1; omega
    have ew2 : IntKind.u32.wrap n = n := by have := hok.1; simp [IntKind.wrap, IntKind.bits, IntKind.signed]; omega
    have e3 : (S - R) % 4294967296 = n := hok.2
    rw [e3] at ew
    have HO : Hid (okS n R S) := hok
    clear hok e3
    go_upto_region 3 with fail
    generalize hsg : w.heap.size = sg at *
    have kS : Sb W1.drew sg p n c R S rd wt := ⟨H1.out.1.c0, H1.out.1.c1, H1.out.1.c2, H1.out.1.c3, H1.out.1.c4⟩
    clear a0 a1 a2
    refine wp_region_held_drew (S := fun U => Sb U sg p n c R S rd wt) (by kernel_rfl) kS (fun hHeld => ?_)
    refine wpAnyH_take (i := 0) (v := (.pointer (some ⟨sg, 0, .none⟩))) rfl (by kernel_rfl) (by kernel_rfl) (by kernel_rfl) (fun _ _ _ h => h) (Or.inl ⟨by rfl, fun ww hSw => by (try dsimp only at hSw); have h0 := hSw.c0; have h1 := hSw.c1; have h2 := hSw.c2; have h3 := hSw.c3; have h4 := hSw.c4; go_simp⟩) (by assumption) ?_
    simp only [Act.put, List.setIfInBounds_toArray, List.set_cons_zero, List.set_cons_succ, List.getElem_toArray, List.getElem_cons_succ, List.getElem_cons_zero]
    refine wpAnyH_take (i := 1) (v := (.slice p n c)) rfl (by kernel_rfl) (by kernel_rfl) (by kernel_rfl) (fun _ _ _ h => h) (Or.inl ⟨by rfl, fun ww hSw => by (try dsimp only at hSw); have h0 := hSw.c0; have h1 := hSw.c1; have h2 := hSw.c2; have h3 := hSw.c3; have h4 := hSw.c4; go_simp⟩) (by assumption) ?_
    simp only [Act.put, List.setIfInBounds_toArray, List.set_cons_zero, List.set_cons_succ, List.getElem_toArray, List.getElem_cons_succ, List.getElem_cons_zero]
    refine wpAnyH_take (i := 3) (v := (.pointer (some ⟨sg, 1, .none⟩))) rfl (by kernel_rfl) (by kernel_rfl) (by kernel_rfl) (fun _ _ _ h => h) (Or.inl ⟨by rfl, fun ww hSw => by (try dsimp only at hSw); have h0 := hSw.c0; have h1 := hSw.c1; have h2 := hSw.c2; have h3 := hSw.c3; have h4 := hSw.c4; go_simp⟩) (by assumption) ?_
    simp only [Act.put, List.setIfInBounds_toArray, List.set_cons_zero, List.set_cons_succ, List.getElem_toArray, List.getElem_cons_succ, List.getElem_cons_zero]
    refine wpAnyH_take (i := 4) (v := (.int .u32 R)) rfl (by kernel_rfl) (by kernel_rfl) (by kernel_rfl) (fun _ _ _ h => h) (Or.inl ⟨by rfl, fun ww hSw => by (try dsimp only at hSw); have h0 := hSw.c0; have h1 := hSw.c1; have h2 := hSw.c2; have h3 := hSw.c3; have h4 := hSw.c4; go_simp⟩) (by assumption) ?_
    simp only [Act.put, List.setIfInBounds_toArray, List.set_cons_zero, List.set_cons_succ, List.getElem_toArray, List.getElem_cons_succ, List.getElem_cons_zero]
    refine wpAnyH_take (i := 5) (v := (.pointer (some ⟨sg, 2, .none⟩))) rfl (by kernel_rfl) (by kernel_rfl) (by kernel_rfl) (fun _ _ _ h => h) (Or.inl ⟨by rfl, fun ww hSw => by (try dsimp only at hSw); have h0 := hSw.c0; have h1 := hSw.c1; have h2 := hSw.c2; have h3 := hSw.c3; have h4 := hSw.c4; go_simp⟩) (by assumption) ?_
    simp only [Act.put, List.setIfInBounds_toArray, List.set_cons_zero, List.set_cons_succ, List.getElem_toArray, List.getElem_cons_succ, List.getElem_cons_zero]
    refine wpAnyH_take (i := 6) (v := (.int .u32 S)) rfl (by kernel_rfl) (by kernel_rfl) (by kernel_rfl) (fun _ _ _ h => h) (Or.inl ⟨by rfl, fun ww hSw => by (try dsimp only at hSw); have h0 := hSw.c0; have h1 := hSw.c1; have h2 := hSw.c2; have h3 := hSw.c3; have h4 := hSw.c4; go_simp⟩) (by assumption) ?_
    simp only [Act.put, List.setIfInBounds_toArray, List.set_cons_zero, List.set_cons_succ, List.getElem_toArray, List.getElem_cons_succ, List.getElem_cons_zero]
    refine wpAnyH_take (i := 7) (v := (.pointer (some ⟨sg, 3, .none⟩))) rfl (by kernel_rfl) (by kernel_rfl) (by kernel_rfl) (fun _ _ _ h => h) (Or.inl ⟨by rfl, fun ww hSw => by (try dsimp only at hSw); have h0 := hSw.c0; have h1 := hSw.c1; have h2 := hSw.c2; have h3 := hSw.c3; have h4 := hSw.c4; go_simp⟩) (by assumption) ?_
    simp only [Act.put, List.setIfInBounds_toArray, List.set_cons_zero, List.set_cons_succ, List.getElem_toArray, List.getElem_cons_succ, List.getElem_cons_zero]
    refine wpAnyH_take (i := 8) (v := (.bool rd)) rfl (by kernel_rfl) (by kernel_rfl) (by kernel_rfl) (fun _ _ _ h => h) (Or.inl ⟨by rfl, fun ww hSw => by (try dsimp only at hSw); have h0 := hSw.c0; have h1 := hSw.c1; have h2 := hSw.c2; have h3 := hSw.c3; have h4 := hSw.c4; go_simp⟩) (by assumption) ?_
    simp only [Act.put, List.setIfInBounds_toArray, List.set_cons_zero, List.set_cons_succ, List.getElem_toArray, List.getElem_cons_succ, List.getElem_cons_zero]
    refine wpAnyH_take (i := 9) (v := (.pointer (some ⟨sg, 4, .none⟩))) rfl (by kernel_rfl) (by kernel_rfl) (by kernel_rfl) (fun _ _ _ h => h) (Or.inl ⟨by rfl, fun ww hSw => by (try dsimp only at hSw); have h0 := hSw.c0; have h1 := hSw.c1; have h2 := hSw.c2; have h3 := hSw.c3; have h4 := hSw.c4; go_simp⟩) (by assumption) ?_
    simp only [Act.put, List.setIfInBounds_toArray, List.set_cons_zero, List.set_cons_succ, List.getElem_toArray, List.getElem_cons_succ, List.getElem_cons_zero]
    refine wpAnyH_take (i := 10) (v := (.bool wt)) rfl (by kernel_rfl) (by kernel_rfl) (by kernel_rfl) (fun _ _ _ h => h) (Or.inl ⟨by rfl, fun ww hSw => by (try dsimp only at hSw); have h0 := hSw.c0; have h1 := hSw.c1; have h2 := hSw.c2; have h3 := hSw.c3; have h4 := hSw.c4; go_simp⟩) (by assumption) ?_
    simp only [Act.put, List.setIfInBounds_toArray, List.set_cons_zero, List.set_cons_succ, List.getElem_toArray, List.getElem_cons_succ, List.getElem_cons_zero]
    refine wpAnyH_ready (rs := [2]) (by kernel_rfl) (by simp) ?_
    refine AllReadyH.cons rfl (fun K hK => ?_) AllReadyH.nil
    go_simp
    have Bw : Byt W1.drew p n c xs := byt_below HB.out (by rw [hsg]; exact H1.out.2.1.drew)
    refine (copied_any Bw (by have := HO.out.1; omega)).mono ?_
    rintro en V2 ⟨q, cq, rfl, hO2, hb2⟩
    rw [hl] at hO2 ⊢
    have hzd : W1.drew.heap.size = W1.heap.size := rfl
    rw [hzd] at hO2 hb2
    have hb2' : Below W1.heap.size W1 V2 := ⟨hb2.os, hb2.tape, hb2.output, hb2.size, hb2.block⟩
    have H2 : Hid (Sb V2 sg p n c R S rd wt ∧ Below sg w V2 ∧ V2.ownsRow W1.heap.size 5 1 (.slice q n cq) n (by8 xs) ∧ W1.heap.size ≤ V2.heap.size) := ⟨H1.out.1.below hb2', H1.out.2.1.trans (hb2'.mono (by have := H1.out.2.2; omega)), hO2, hb2'.size⟩
    clear hO2 hb2 hb2' hzd Bw
    refine hK.out _ _ H2.out.1 (fun hHeld => ?_)
    clear hK K
    try simp only [Act.put, List.setIfInBounds_toArray, List.set_cons_zero, List.set_cons_succ, List.getElem_toArray, List.getElem_cons_succ, List.getElem_cons_zero]
    refine wpAnyH_take (i := 11) (v := (.agg #[.slice q n cq, .int .u32 R, .int .u32 S, .bool rd, .bool wt])) rfl (by kernel_rfl) (by kernel_rfl) (by kernel_rfl) (fun _ _ _ h => h) (Or.inl ⟨by rfl, fun ww hSw => by (try dsimp only at hSw); have h0 := hSw.c0; have h1 := hSw.c1; have h2 := hSw.c2; have h3 := hSw.c3; have h4 := hSw.c4; go_simp⟩) (by assumption) ?_
    simp only [Act.put, List.setIfInBounds_toArray, List.set_cons_zero, List.set_cons_succ, List.getElem_toArray, List.getElem_cons_succ, List.getElem_cons_zero]
    refine wpAnyH_ready (rs := [12]) (by kernel_rfl) (by simp) ?_
    refine AllReadyH.cons rfl (fun K hK => ?_) AllReadyH.nil
    go_simp
    have hb3 := Trn.new V2 (.cells #[.slice q n cq, .int .u32 R, .int .u32 S, .bool rd, .bool wt] 62)
    have hfz := froz_new V2 #[.slice q n cq, .int .u32 R, .int .u32 S, .bool rd, .bool wt] 62
    have hDr : Dr (V2.alloc (.cells #[.slice q n cq, .int .u32 R, .int .u32 S, .bool rd, .bool wt] 62)) V2.heap.size (.slice q n cq) R S rd wt := by
      refine ⟨?_, ?_, ?_, ?_, ?_, hfz⟩
      all_goals (rw [World.cell?_alloc_at _ _ _ _ rfl]; rfl)
    have hz3 : (V2.alloc (.cells #[.slice q n cq, .int .u32 R, .int .u32 S, .bool rd, .bool wt] 62)).heap.size = V2.heap.size + 1 := by simp
    generalize V2.alloc (.cells #[.slice q n cq, .int .u32 R, .int .u32 S, .bool rd, .bool wt] 62) = V3 at *
    have kS3 : Sb V3 sg p n c R S rd wt := H2.out.1.below hb3
    have HE : Hid (Below sg w V3 ∧ (okS n R S ∧ ∃ d, sg ≤ d ∧ d < V3.heap.size ∧ (Ending.returned (.tuple #[.pointer (some ⟨V2.heap.size, 0, .none⟩), .bool true])) = .returned (.tuple #[.pointer (some ⟨d, 0, .none⟩), .bool true]) ∧ ∃ e, Dr V3 d e R S rd wt ∧ V3.ownsRow sg 5 1 e n (by8 xs) ∧ ∀ g, e.ownBlock = some g → g ≠ d)) := by
      have hW := H1.out.2.2
      have h4 := H2.out.2.2.2
      refine ⟨H2.out.2.1.trans (hb3.mono (by omega)), HO.out, V2.heap.size, by omega, by omega, rfl, .slice q n cq, hDr, own_mono ((Chg.ofBelow (S := fun _ => False) hb3).own H2.out.2.2.1 (fun _ _ h => h)) (by omega), fun g hg => ?_⟩
      have := own_ltC H2.out.2.2.1 g hg
      omega
    clear hb3 hfz hDr hz3
    refine hK.out _ _ kS3 (fun hHeld => ?_)
    clear hK K
    try simp only [Act.put, List.setIfInBounds_toArray, List.set_cons_zero, List.set_cons_succ, List.getElem_toArray, List.getElem_cons_succ, List.getElem_cons_zero]
    refine wpAnyH_take (i := 13) (v := (.pointer (some ⟨V2.heap.size, 0, .none⟩))) rfl (by kernel_rfl) (by kernel_rfl) (by kernel_rfl) (fun _ _ _ h => h) (Or.inl ⟨by rfl, fun ww hSw => by (try dsimp only at hSw); have h0 := hSw.c0; have h1 := hSw.c1; have h2 := hSw.c2; have h3 := hSw.c3; have h4 := hSw.c4; go_simp⟩) (by assumption) ?_
    simp only [Act.put, List.setIfInBounds_toArray, List.set_cons_zero, List.set_cons_succ, List.getElem_toArray, List.getElem_cons_succ, List.getElem_cons_zero]
    refine wpAnyH_take (i := 14) (v := (.bool true)) rfl (by kernel_rfl) (by kernel_rfl) (by kernel_rfl) (fun _ _ _ h => h) (Or.inl ⟨by rfl, fun ww hSw => by (try dsimp only at hSw); have h0 := hSw.c0; have h1 := hSw.c1; have h2 := hSw.c2; have h3 := hSw.c3; have h4 := hSw.c4; go_simp⟩) (by assumption) ?_
    simp only [Act.put, List.setIfInBounds_toArray, List.set_cons_zero, List.set_cons_succ, List.getElem_toArray, List.getElem_cons_succ, List.getElem_cons_zero]
    refine wpAnyH_done (by kernel_rfl) ?_ _
    clear hHeld kS kS3
    go_wp2
    go_ret2
    exact ⟨HE.out.1, .inr HE.out.2⟩
  · have HO : Hid (¬ okS n R S) := hok
    by_cases h5 : n ≤ 512
    · have i1 : ¬ (512 : Int) < n := by omega
      have ew2 : IntKind.u32.wrap n = n := by simp [IntKind.wrap, IntKind.bits, IntKind.signed]; omega
      have e3 : ¬ (S - R) % 4294967296 = n := fun h => hok ⟨h5, h⟩
      clear hok
      go_wp2
      go_ret2
      exact ⟨H1.out.2.1, .inl ⟨HO.out, rfl⟩⟩
    · have i1 : (512 : Int) < n := by omega
      clear hok
      go_wp2
      go_ret2
      exact ⟨H1.out.2.1, .inl ⟨HO.out, rfl⟩⟩
end Go.Proofs.Ytabhojfdkmeaoab
