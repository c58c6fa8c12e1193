import Derived.Test.YtabhojfdkmeaoabSf
namespace Go.Proofs.Ytabhojfdkmeaoab
open Go.RowKit
set_option linter.unusedVariables false
set_option linter.unusedSimpArgs false
theorem Chg.tt {S1 S2 S : Nat → Prop} {w v u : World} (h : Chg S1 w v) (k : Chg S2 v u) (h1 : ∀ k, k < w.heap.size → S1 k → S k) (h2 : ∀ k, k < w.heap.size → S2 k → S k) : Chg S w u := (h.mono h1).trans k h2
set_option maxHeartbeats 8000000 in
set_option maxRecDepth 100000 in
theorem sput_any {w : World} {X sh cnt : Nat} {F : Nat → Prop} (h : Shel w X sh cnt F) (hc : cnt ≤ 6000000000000) {lp : Option Addr} {ln lc : Nat} {ls : List Int} (hl : w.ownsRow X 5 1 (.slice lp ln lc) ln (by8 ls)) (hln : ls.length = ln) (h5 : ln ≤ 512) (hlf : ∀ g, (Value.slice lp ln lc).ownBlock = some g → ¬ F g) :
    Calls Try.prog 28 #[.pointer (some ⟨sh, 0, .none⟩), .slice lp ln lc] w fun en w' => en = .returned (.bool true) ∧ ∃ F', Shel w' X sh (cnt + 1) F' ∧ (∀ g, F' g → F g ∨ (Value.slice lp ln lc).ownBlock = some g ∨ w.heap.size ≤ g) ∧ Chg (fun k => k = sh ∨ F k ∨ (Value.slice lp ln lc).ownBlock = some k) w w' := by
  obtain ⟨kv, uv, kx, kr, ur, hS, hF⟩ := h
  have HF : Hid (∀ g, F g ↔ fpS (cnt / 2) (cnt / 2) kv uv kr ur g) := hF
  have HL : Hid (w.ownsRow X 5 1 (.slice lp ln lc) ln (by8 ls) ∧ ls.length = ln ∧ ∀ g, (Value.slice lp ln lc).ownBlock = some g → ¬ F g) := ⟨hl, hln, hlf⟩
  have H0 : Hid (Shf w X sh cnt (cnt / 2) (cnt / 2) kv uv kx kr ur) := hS
  have c3 := hS.c3
  have f3 := hS.fz 3
  have hX := hS.hX
  clear hS hF hl hln hlf
  have ei : IntKind.i64.wrap ((cnt : Int) + 1) = (cnt : Int) + 1 := by simp only [IntKind.wrap, IntKind.bits, IntKind.signed]; simp; omega
  have H1 : Hid (Shf (w.setCell ⟨sh, 3, .none⟩ (.int .i64 ((cnt : Int) + 1))) X sh (cnt + 1) (cnt / 2) (cnt / 2) kv uv kx kr ur) := H0.out.setc (cnt + 1)
  have T1 : Hid (Chg (· = sh) w (w.setCell ⟨sh, 3, .none⟩ (.int .i64 ((cnt : Int) + 1)))) := chg_set _ _ _ _
  have HZ1 : Hid ((w.setCell ⟨sh, 3, .none⟩ (.int .i64 ((cnt : Int) + 1))).heap.size = w.heap.size) := size_set _ _ _
  have HL1 : Hid ((w.setCell ⟨sh, 3, .none⟩ (.int .i64 ((cnt : Int) + 1))).ownsRow X 5 1 (.slice lp ln lc) ln (by8 ls)) := ownsRow_setCell_below HL.out.1 hX _
  have d3 : (w.setCell ⟨sh, 3, .none⟩ (.int .i64 ((cnt : Int) + 1))).cell? ⟨sh, 3, .none⟩ = some (.int .i64 ((cnt : Int) + 1)) := H1.out.c3
  go_enter Try.func28, Try.ntmps28
  go_upto_region 2 with fail
  generalize w.setCell ⟨sh, 3, .none⟩ (.int .i64 ((cnt : Int) + 1)) = W1 at *
  clear c3 f3 ei H0
  by_cases hev : (cnt + 1) % 2 = 0
  · have em : ((cnt : Int) + 1).tmod 2 = 0 := by rw [Int.tmod_eq_emod_of_nonneg (by omega)]; omega
    have hM2 : (cnt + 1) / 2 = cnt / 2 + 1 := by omega
    generalize hMM : cnt / 2 = M at *
    obtain ⟨kp, kc, rfl⟩ := one_slice H1.out.okr
    obtain ⟨up, uc, rfl⟩ := one_slice H1.out.our
    have c1 := H1.out.c1
    have f1 := H1.out.fz 1
    obtain ⟨i9, z9, hi9, hz9, hs9, hb9, hzs9⟩ := info22
    have HJ : Hid (Try.prog.info? 22 = some i9 ∧ i9.zero = some z9 ∧ i9.size = 1 ∧ i9.bytes = 24 ∧ z9.cells.size = 1) := ⟨hi9, hz9, hs9, hb9, hzs9⟩
    clear hi9 hz9 hs9 hb9 hzs9
    have hMb : M ≤ 3000000000000 := by omega
    go_wp2_with (first | (at_builtin; refine wpList_append_at rfl (.tmp 22) (.tmp 24) 45 rfl X 22 i9 z9 1 24 Try.underlying45 HJ.out.1 HJ.out.2.1 HJ.out.2.2.1 HJ.out.2.2.2.1 HJ.out.2.2.2.2 (by decide) (.slice kp M kc) M ((List.range M).map kv) rfl (H1.out.okr.alloc _) ⟨W1.heap.size, 0, .none⟩ 1 1 [.slice lp ln lc] rfl rfl (cell1_new _ _ _) (by simp [Value.oneCell']) ?c1 ?c2 ?c3 ?_) | go_in)
    case c1 => unfold maxLen; omega
    case c2 => omega
    case c3 => simp only [World.size_alloc]; have := H1.out.wX; omega
    intro kr' U2 hO2 hg2 hb2
    have t2 : Chg (fun k => (Value.slice kp M kc).ownBlock = some k) W1 U2 := (Chg.ofBelow (Trn.new W1 (.cells #[.slice lp ln lc] 22))).trans (Chg.ofGrown hg2) (fun k _ h => h)
    have hb2' : ∀ g, kr'.ownBlock = some g → (Value.slice kp M kc).ownBlock = some g ∨ W1.heap.size ≤ g := fun g hg => by
      rcases hb2 with h | h
      · exact .inl (h.symm.trans hg)
      · rw [hg] at h
        exact .inr (by have := Option.some.inj h; omega)
    have hln := HL.out.2.1
    have hlr : W1.ownsRow X 5 1 (.slice lp ln lc) ls.length (by8 ls) := by rw [hln]; exact HL1.out
    have hpk := H1.out.pushk hlr (by omega) (fun i hi g hg e => HL.out.2.2 g hg ((HF.out g).2 (.inr (.inr (.inl ⟨i, hi, e⟩))))) t2 hO2 hb2'
    have hlr3 : (U2.setCell ⟨sh, 1, .none⟩ kr').ownsRow X 5 1 (.slice lp ln lc) ln (by8 ls) := ownsRow_setCell_below (t2.own HL1.out (fun g hg => apart_522 HL1.out H1.out.okr g hg)) hX _
    have hns : ¬ (Value.slice kp M kc).ownBlock = some sh := fun e => by have := own_block H1.out.okr sh e; omega
    have hsh : sh < W1.heap.size := lt_cell c1
    have q1 : U2.cell? ⟨sh, 1, .none⟩ = some (.slice kp M kc) := (t2.cell (p := ⟨sh, 1, .none⟩) hsh hns).trans c1
    have q2 : U2.frozen? ⟨sh, 1, .none⟩ = false := (t2.frozen (p := ⟨sh, 1, .none⟩) hsh hns).trans f1
    have H3 : Hid (Shf (U2.setCell ⟨sh, 1, .none⟩ kr') X sh (cnt + 1) (M + 1) M (upd kv M (.slice lp ln lc)) uv (upd kx M ls) kr' (.slice up M uc) ∧ (U2.setCell ⟨sh, 1, .none⟩ kr').ownsRow X 5 1 (.slice lp ln lc) ln (by8 ls) ∧ (∀ g, kr'.ownBlock = some g → (Value.slice kp M kc).ownBlock = some g ∨ w.heap.size ≤ g) ∧ Chg (fun k => k = sh ∨ (Value.slice kp M kc).ownBlock = some k) w (U2.setCell ⟨sh, 1, .none⟩ kr')) :=
      ⟨hpk, hlr3, fun g hg => by rw [← HZ1.out]; exact hb2' g hg, (T1.out.tt t2 (fun k _ h => .inl h) (fun k _ h => .inr h)).trans (chg_set sh 1 _ _) (fun k _ h => .inl h)⟩
    clear hpk hlr hlr3 hO2 hg2 hb2 hb2' t2 hns
    obtain ⟨kp2, kc2, rfl⟩ := one_slice H3.out.1.okr
    go_upto_region 4 with fail
    generalize U2.setCell ⟨sh, 1, .none⟩ (.slice kp2 (M + 1) kc2) = W3 at *
    clear q1 q2 c1 f1 d3 H1 HL1 T1
    have hz3 := H3.out.2.2.2.size
    have kS : True := trivial
    refine wp_region_held_drew (S := fun U => True) (by kernel_rfl) kS (fun hHeld => ?_)
    refine wpAnyH_take (i := 0) (v := (.pointer (some ⟨sh, 0, .none⟩))) rfl (by kernel_rfl) (by kernel_rfl) (by kernel_rfl) (fun _ _ _ h => h) (Or.inl ⟨by rfl, fun ww hSw => by (try dsimp only at hSw); go_simp⟩) (by assumption) ?_
    simp only [Act.put, List.setIfInBounds_toArray, List.set_cons_zero, List.set_cons_succ, List.getElem_toArray, List.getElem_cons_succ, List.getElem_cons_zero]
    refine wpAnyH_take (i := 1) (v := (.pointer (some ⟨sh, 0, .none⟩))) rfl (by kernel_rfl) (by kernel_rfl) (by kernel_rfl) (fun _ _ _ h => h) (Or.inl ⟨by rfl, fun ww hSw => by (try dsimp only at hSw); go_simp⟩) (by assumption) ?_
    simp only [Act.put, List.setIfInBounds_toArray, List.set_cons_zero, List.set_cons_succ, List.getElem_toArray, List.getElem_cons_succ, List.getElem_cons_zero]
    refine wpAnyH_take (i := 2) (v := (.pointer (some ⟨sh, 0, .none⟩))) rfl (by kernel_rfl) (by kernel_rfl) (by kernel_rfl) (fun _ _ _ h => h) (Or.inl ⟨by rfl, fun ww hSw => by (try dsimp only at hSw); go_simp⟩) (by assumption) ?_
    simp only [Act.put, List.setIfInBounds_toArray, List.set_cons_zero, List.set_cons_succ, List.getElem_toArray, List.getElem_cons_succ, List.getElem_cons_zero]
    refine wpAnyH_take (i := 3) (v := (.pointer (some ⟨sh, 2, .none⟩))) rfl (by kernel_rfl) (by kernel_rfl) (by kernel_rfl) (fun _ _ _ h => h) (Or.inl ⟨by rfl, fun ww hSw => by (try dsimp only at hSw); go_simp⟩) (by assumption) ?_
    simp only [Act.put, List.setIfInBounds_toArray, List.set_cons_zero, List.set_cons_succ, List.getElem_toArray, List.getElem_cons_succ, List.getElem_cons_zero]
    refine wpAnyH_take (i := 5) (v := (.slice lp ln lc)) rfl (by kernel_rfl) (by kernel_rfl) (by kernel_rfl) (fun _ _ _ h => h) (Or.inl ⟨by rfl, fun ww hSw => by (try dsimp only at hSw); go_simp⟩) (by assumption) ?_
    simp only [Act.put, List.setIfInBounds_toArray, List.set_cons_zero, List.set_cons_succ, List.getElem_toArray, List.getElem_cons_succ, List.getElem_cons_zero]
    refine wpAnyH_ready (rs := [4, 6]) (by kernel_rfl) (by simp) ?_
    refine AllReadyH.cons rfl (fun K hK => ?_) (AllReadyH.cons rfl (fun K hK => ?_) AllReadyH.nil)
    ·
      have u2 := H3.out.1.c2
      go_simp
      refine hK.out _ _ trivial (fun hHeld => ?_)
      clear hK K
      try simp only [Act.put, List.setIfInBounds_toArray, List.set_cons_zero, List.set_cons_succ, List.getElem_toArray, List.getElem_cons_succ, List.getElem_cons_zero]
      clear u2
      refine wpAnyH_ready (rs := [6]) (by kernel_rfl) (by simp) ?_
      refine AllReadyH.cons rfl (fun K hK => ?_) AllReadyH.nil
      go_simp
      have Bl : Byt W3.drew lp ln lc ls := byt_own H3.out.2.1
      refine (copyBytes_any Bl (by omega)).mono ?_
      rintro en V4 ⟨cp, cc, rfl, hO4, hb4⟩
      have hzd : W3.drew.heap.size = W3.heap.size := rfl
      rw [HL.out.2.1, hzd] at hO4
      rw [hzd] at hb4
      rw [HL.out.2.1]
      have hb4' : Below W3.heap.size W3 V4 := ⟨hb4.os, hb4.tape, hb4.output, hb4.size, hb4.block⟩
      have H4 : Hid (Shf V4 X sh (cnt + 1) (M + 1) M (upd kv M (.slice lp ln lc)) uv (upd kx M ls) (.slice kp2 (M + 1) kc2) (.slice up M uc) ∧ V4.ownsRow X 5 1 (.slice cp ln cc) ln (by8 ls) ∧ Chg (fun _ => False) W3 V4) := ⟨H3.out.1.below hb4', own_mono hO4 H3.out.1.wX, Chg.ofBelow hb4'⟩
      have HB4 : Hid (∀ g, (Value.slice cp ln cc).ownBlock = some g → W3.heap.size ≤ g) := own_block hO4
      clear hO4 hb4 hb4' hzd Bl
      refine hK.out _ _ trivial (fun hHeld => ?_)
      clear hK K
      try simp only [Act.put, List.setIfInBounds_toArray, List.set_cons_zero, List.set_cons_succ, List.getElem_toArray, List.getElem_cons_succ, List.getElem_cons_zero]
      obtain ⟨V5, hV5⟩ : ∃ V5, V5 = V4.alloc (.cells #[.slice cp ln cc] 22) := ⟨_, rfl⟩
      have hb5 : Below V4.heap.size V4 V5 := by rw [hV5]; exact Trn.new _ _
      have HV : Hid (Shf V5 X sh (cnt + 1) (M + 1) M (upd kv M (.slice lp ln lc)) uv (upd kx M ls) (.slice kp2 (M + 1) kc2) (.slice up M uc) ∧ V5.ownsRow X 5 1 (.slice cp ln cc) ln (by8 ls) ∧ (∀ j u, [Value.slice cp ln cc][j]? = some u → V5.cell? ((⟨V4.heap.size, 0, .none⟩ : Addr).add j) = some u) ∧ V5.heap.size = V4.heap.size + 1 ∧ Chg (fun _ => False) W3 V5) := by
        refine ⟨H4.out.1.below hb5, (Chg.ofBelow (S := fun _ => False) hb5).own H4.out.2.1 (fun _ _ h => h), ?_, by rw [hV5]; simp, H4.out.2.2.trans (Chg.ofBelow hb5) (fun _ _ h => h)⟩
        rw [hV5]
        exact cell1_new _ _ _
      refine wpAnyH_ready (rs := [7]) (by kernel_rfl) (by simp) ?_
      refine AllReadyH.cons rfl (fun K hK => ?_) AllReadyH.nil
      go_simp
      rw [← hV5]
      clear hV5 hb5 H4
      refine hK.out _ _ trivial (fun hHeld => ?_)
      clear hK K
      try simp only [Act.put, List.setIfInBounds_toArray, List.set_cons_zero, List.set_cons_succ, List.getElem_toArray, List.getElem_cons_succ, List.getElem_cons_zero]
      refine wpAnyH_ready (rs := [8]) (by kernel_rfl) (by simp) ?_
      refine AllReadyH.cons rfl (fun K hK => ?_) AllReadyH.nil
      refine step_append_at rfl (.tmp 32) (.tmp 35) 45 rfl X 22 i9 z9 1 24 Try.underlying45 HJ.out.1 HJ.out.2.1 HJ.out.2.2.1 HJ.out.2.2.2.1 HJ.out.2.2.2.2 (by decide) (.slice up M uc) M ((List.range M).map uv) (by simp [Act.eval]) HV.out.1.our ⟨V4.heap.size, 0, .none⟩ 1 1 [.slice cp ln cc] (by simp [Act.eval]) rfl HV.out.2.2.1 (by simp [Value.oneCell']) (by unfold maxLen; omega) (by omega) HV.out.1.wX ?_
      intro ur' U6 hO6 hg6 hb6
      obtain ⟨ap6, ac6, rfl⟩ := one_slice hO6
      have t6 : Chg (fun k => (Value.slice up M uc).ownBlock = some k) V5 U6 := Chg.ofGrown hg6
      have hz5 := HV.out.2.2.2.1
      have hb6' : ∀ g, (Value.slice ap6 (M + 1) ac6).ownBlock = some g → (Value.slice up M uc).ownBlock = some g ∨ V5.heap.size ≤ g := fun g hg => by
        rcases hb6 with h | h
        · exact .inl (h.symm.trans hg)
        · rw [hg] at h
          exact .inr (by have := Option.some.inj h; omega)
      have hxM : upd kx M ls M = ls := upd_at _ _ _
      have hcr : V5.ownsRow X 5 1 (.slice cp ln cc) (upd kx M ls M).length (by8 (upd kx M ls M)) := by rw [hxM, HL.out.2.1]; exact HV.out.2.1
      have hpu := HV.out.1.pushu (by omega) hcr t6 hO6 hb6'
      have hns : ¬ (Value.slice up M uc).ownBlock = some sh := fun e => by have := own_block HV.out.1.our sh e; omega
      have hsh5 : sh < V5.heap.size := lt_cell HV.out.1.c2
      have q1 : U6.cell? ⟨sh, 2, .none⟩ = some (.slice up M uc) := (t6.cell (p := ⟨sh, 2, .none⟩) hsh5 hns).trans HV.out.1.c2
      have q2 : U6.frozen? ⟨sh, 2, .none⟩ = false := (t6.frozen (p := ⟨sh, 2, .none⟩) hsh5 hns).trans (HV.out.1.fz 2)
      have HE : Hid (∃ F', Shel (U6.setCell ⟨sh, 2, .none⟩ (.slice ap6 (M + 1) ac6)) X sh (cnt + 1) F' ∧ (∀ g, F' g → F g ∨ (Value.slice lp ln lc).ownBlock = some g ∨ w.heap.size ≤ g) ∧ Chg (fun k => k = sh ∨ F k ∨ (Value.slice lp ln lc).ownBlock = some k) w (U6.setCell ⟨sh, 2, .none⟩ (.slice ap6 (M + 1) ac6))) := by
        refine ⟨fpS (M + 1) (M + 1) (upd kv M (.slice lp ln lc)) (upd uv M (.slice cp ln cc)) (.slice kp2 (M + 1) kc2) (.slice ap6 (M + 1) ac6), ⟨_, _, _, _, _, by rw [hM2]; exact hpu, fun g => by rw [hM2]⟩, fun g hg => ?_, ?_⟩
        · rcases hg with hg | hg | ⟨i, hi, hg⟩ | ⟨i, hi, hg⟩
          · rcases H3.out.2.2.1 g hg with h | h
            · exact .inl ((HF.out g).2 (.inl h))
            · exact .inr (.inr h)
          · rcases hb6' g hg with h | h
            · exact .inl ((HF.out g).2 (.inr (.inl h)))
            · exact .inr (.inr (by have := HV.out.2.2.2.2.size; omega))
          · by_cases e : i = M
            · subst e
              rw [upd_at] at hg
              exact .inr (.inl hg)
            · rw [upd_lt _ _ _ i (by omega)] at hg
              exact .inl ((HF.out g).2 (.inr (.inr (.inl ⟨i, by omega, hg⟩))))
          · by_cases e : i = M
            · subst e
              rw [upd_at] at hg
              exact .inr (.inr (by have := HB4.out g hg; omega))
            · rw [upd_lt _ _ _ i (by omega)] at hg
              exact .inl ((HF.out g).2 (.inr (.inr (.inr ⟨i, by omega, hg⟩))))
        · refine ((H3.out.2.2.2.tt HV.out.2.2.2.2 (fun k _ h => ?_) (fun k _ h => h.elim)).trans t6 (fun k _ h => .inr (.inl ((HF.out k).2 (.inr (.inl h)))))).trans (chg_set sh 2 _ _) (fun k _ h => .inl h)
          rcases h with h | h
          · exact .inl h
          · exact .inr (.inl ((HF.out k).2 (.inl h)))
      clear hO6 hg6 hb6 t6 hb6' hcr hpu hns hxM hz5
      refine hK.out _ _ trivial (fun hHeld => ?_)
      clear hK K
      try simp only [Act.put, List.setIfInBounds_toArray, List.set_cons_zero, List.set_cons_succ, List.getElem_toArray, List.getElem_cons_succ, List.getElem_cons_zero]
      refine wpAnyH_take (i := 9) (v := (.pointer (some ⟨sh, 0, .none⟩))) rfl (by kernel_rfl) (by kernel_rfl) (by kernel_rfl) (fun _ _ _ h => h) (Or.inl ⟨by rfl, fun ww hSw => by (try dsimp only at hSw); go_simp⟩) (by assumption) ?_
      simp only [Act.put, List.setIfInBounds_toArray, List.set_cons_zero, List.set_cons_succ, List.getElem_toArray, List.getElem_cons_succ, List.getElem_cons_zero]
      refine wpAnyH_take (i := 10) (v := (.pointer (some ⟨sh, 2, .none⟩))) rfl (by kernel_rfl) (by kernel_rfl) (by kernel_rfl) (fun _ _ _ h => h) (Or.inl ⟨by rfl, fun ww hSw => by (try dsimp only at hSw); go_simp⟩) (by assumption) ?_
      simp only [Act.put, List.setIfInBounds_toArray, List.set_cons_zero, List.set_cons_succ, List.getElem_toArray, List.getElem_cons_succ, List.getElem_cons_zero]
      refine wpAnyH_ready (rs := [11]) (by kernel_rfl) (by simp) ?_
      refine AllReadyH.cons rfl (fun K hK => ?_) AllReadyH.nil
      go_simp
      refine hK.out _ _ trivial (fun hHeld => ?_)
      clear hK K
      try simp only [Act.put, List.setIfInBounds_toArray, List.set_cons_zero, List.set_cons_succ, List.getElem_toArray, List.getElem_cons_succ, List.getElem_cons_zero]
      refine wpAnyH_done (by kernel_rfl) ?_ _
      generalize U6.setCell ⟨sh, 2, .none⟩ (.slice ap6 (M + 1) ac6) = U7 at *
      clear q1 q2 hsh5 HV H3 HB4
      go_wp2
      go_ret
      exact ⟨rfl, HE.out⟩
    ·
      go_simp
      have Bl : Byt W3.drew lp ln lc ls := byt_own H3.out.2.1
      refine (copyBytes_any Bl (by omega)).mono ?_
      rintro en V4 ⟨cp, cc, rfl, hO4, hb4⟩
      have hzd : W3.drew.heap.size = W3.heap.size := rfl
      rw [HL.out.2.1, hzd] at hO4
      rw [hzd] at hb4
      rw [HL.out.2.1]
      have hb4' : Below W3.heap.size W3 V4 := ⟨hb4.os, hb4.tape, hb4.output, hb4.size, hb4.block⟩
      have H4 : Hid (Shf V4 X sh (cnt + 1) (M + 1) M (upd kv M (.slice lp ln lc)) uv (upd kx M ls) (.slice kp2 (M + 1) kc2) (.slice up M uc) ∧ V4.ownsRow X 5 1 (.slice cp ln cc) ln (by8 ls) ∧ Chg (fun _ => False) W3 V4) := ⟨H3.out.1.below hb4', own_mono hO4 H3.out.1.wX, Chg.ofBelow hb4'⟩
      have HB4 : Hid (∀ g, (Value.slice cp ln cc).ownBlock = some g → W3.heap.size ≤ g) := own_block hO4
      clear hO4 hb4 hb4' hzd Bl
      refine hK.out _ _ trivial (fun hHeld => ?_)
      clear hK K
      try simp only [Act.put, List.setIfInBounds_toArray, List.set_cons_zero, List.set_cons_succ, List.getElem_toArray, List.getElem_cons_succ, List.getElem_cons_zero]
      obtain ⟨V5, hV5⟩ : ∃ V5, V5 = V4.alloc (.cells #[.slice cp ln cc] 22) := ⟨_, rfl⟩
      have hb5 : Below V4.heap.size V4 V5 := by rw [hV5]; exact Trn.new _ _
      have HV : Hid (Shf V5 X sh (cnt + 1) (M + 1) M (upd kv M (.slice lp ln lc)) uv (upd kx M ls) (.slice kp2 (M + 1) kc2) (.slice up M uc) ∧ V5.ownsRow X 5 1 (.slice cp ln cc) ln (by8 ls) ∧ (∀ j u, [Value.slice cp ln cc][j]? = some u → V5.cell? ((⟨V4.heap.size, 0, .none⟩ : Addr).add j) = some u) ∧ V5.heap.size = V4.heap.size + 1 ∧ Chg (fun _ => False) W3 V5) := by
        refine ⟨H4.out.1.below hb5, (Chg.ofBelow (S := fun _ => False) hb5).own H4.out.2.1 (fun _ _ h => h), ?_, by rw [hV5]; simp, H4.out.2.2.trans (Chg.ofBelow hb5) (fun _ _ h => h)⟩
        rw [hV5]
        exact cell1_new _ _ _
      refine wpAnyH_ready (rs := [4, 7]) (by kernel_rfl) (by simp) ?_
      refine AllReadyH.cons rfl (fun K hK => ?_) (AllReadyH.cons rfl (fun K hK => ?_) AllReadyH.nil)
      ·
        have u2 := H4.out.1.c2
        go_simp
        refine hK.out _ _ trivial (fun hHeld => ?_)
        clear hK K
        try simp only [Act.put, List.setIfInBounds_toArray, List.set_cons_zero, List.set_cons_succ, List.getElem_toArray, List.getElem_cons_succ, List.getElem_cons_zero]
        clear u2
        refine wpAnyH_ready (rs := [7]) (by kernel_rfl) (by simp) ?_
        refine AllReadyH.cons rfl (fun K hK => ?_) AllReadyH.nil
        go_simp
        rw [← hV5]
        clear hV5 hb5 H4
        refine hK.out _ _ trivial (fun hHeld => ?_)
        clear hK K
        try simp only [Act.put, List.setIfInBounds_toArray, List.set_cons_zero, List.set_cons_succ, List.getElem_toArray, List.getElem_cons_succ, List.getElem_cons_zero]
        refine wpAnyH_ready (rs := [8]) (by kernel_rfl) (by simp) ?_
        refine AllReadyH.cons rfl (fun K hK => ?_) AllReadyH.nil
        refine step_append_at rfl (.tmp 32) (.tmp 35) 45 rfl X 22 i9 z9 1 24 Try.underlying45 HJ.out.1 HJ.out.2.1 HJ.out.2.2.1 HJ.out.2.2.2.1 HJ.out.2.2.2.2 (by decide) (.slice up M uc) M ((List.range M).map uv) (by simp [Act.eval]) HV.out.1.our ⟨V4.heap.size, 0, .none⟩ 1 1 [.slice cp ln cc] (by simp [Act.eval]) rfl HV.out.2.2.1 (by simp [Value.oneCell']) (by unfold maxLen; omega) (by omega) HV.out.1.wX ?_
        intro ur' U6 hO6 hg6 hb6
        obtain ⟨ap6, ac6, rfl⟩ := one_slice hO6
        have t6 : Chg (fun k => (Value.slice up M uc).ownBlock = some k) V5 U6 := Chg.ofGrown hg6
        have hz5 := HV.out.2.2.2.1
        have hb6' : ∀ g, (Value.slice ap6 (M + 1) ac6).ownBlock = some g → (Value.slice up M uc).ownBlock = some g ∨ V5.heap.size ≤ g := fun g hg => by
          rcases hb6 with h | h
          · exact .inl (h.symm.trans hg)
          · rw [hg] at h
            exact .inr (by have := Option.some.inj h; omega)
        have hxM : upd kx M ls M = ls := upd_at _ _ _
        have hcr : V5.ownsRow X 5 1 (.slice cp ln cc) (upd kx M ls M).length (by8 (upd kx M ls M)) := by rw [hxM, HL.out.2.1]; exact HV.out.2.1
        have hpu := HV.out.1.pushu (by omega) hcr t6 hO6 hb6'
        have hns : ¬ (Value.slice up M uc).ownBlock = some sh := fun e => by have := own_block HV.out.1.our sh e; omega
        have hsh5 : sh < V5.heap.size := lt_cell HV.out.1.c2
        have q1 : U6.cell? ⟨sh, 2, .none⟩ = some (.slice up M uc) := (t6.cell (p := ⟨sh, 2, .none⟩) hsh5 hns).trans HV.out.1.c2
        have q2 : U6.frozen? ⟨sh, 2, .none⟩ = false := (t6.frozen (p := ⟨sh, 2, .none⟩) hsh5 hns).trans (HV.out.1.fz 2)
        have HE : Hid (∃ F', Shel (U6.setCell ⟨sh, 2, .none⟩ (.slice ap6 (M + 1) ac6)) X sh (cnt + 1) F' ∧ (∀ g, F' g → F g ∨ (Value.slice lp ln lc).ownBlock = some g ∨ w.heap.size ≤ g) ∧ Chg (fun k => k = sh ∨ F k ∨ (Value.slice lp ln lc).ownBlock = some k) w (U6.setCell ⟨sh, 2, .none⟩ (.slice ap6 (M + 1) ac6))) := by
          refine ⟨fpS (M + 1) (M + 1) (upd kv M (.slice lp ln lc)) (upd uv M (.slice cp ln cc)) (.slice kp2 (M + 1) kc2) (.slice ap6 (M + 1) ac6), ⟨_, _, _, _, _, by rw [hM2]; exact hpu, fun g => by rw [hM2]⟩, fun g hg => ?_, ?_⟩
          · rcases hg with hg | hg | ⟨i, hi, hg⟩ | ⟨i, hi, hg⟩
            · rcases H3.out.2.2.1 g hg with h | h
              · exact .inl ((HF.out g).2 (.inl h))
              · exact .inr (.inr h)
            · rcases hb6' g hg with h | h
              · exact .inl ((HF.out g).2 (.inr (.inl h)))
              · exact .inr (.inr (by have := HV.out.2.2.2.2.size; omega))
            · by_cases e : i = M
              · subst e
                rw [upd_at] at hg
                exact .inr (.inl hg)
              · rw [upd_lt _ _ _ i (by omega)] at hg
                exact .inl ((HF.out g).2 (.inr (.inr (.inl ⟨i, by omega, hg⟩))))
            · by_cases e : i = M
              · subst e
                rw [upd_at] at hg
                exact .inr (.inr (by have := HB4.out g hg; omega))
              · rw [upd_lt _ _ _ i (by omega)] at hg
                exact .inl ((HF.out g).2 (.inr (.inr (.inr ⟨i, by omega, hg⟩))))
          · refine ((H3.out.2.2.2.tt HV.out.2.2.2.2 (fun k _ h => ?_) (fun k _ h => h.elim)).trans t6 (fun k _ h => .inr (.inl ((HF.out k).2 (.inr (.inl h)))))).trans (chg_set sh 2 _ _) (fun k _ h => .inl h)
            rcases h with h | h
            · exact .inl h
            · exact .inr (.inl ((HF.out k).2 (.inl h)))
        clear hO6 hg6 hb6 t6 hb6' hcr hpu hns hxM hz5
        refine hK.out _ _ trivial (fun hHeld => ?_)
        clear hK K
        try simp only [Act.put, List.setIfInBounds_toArray, List.set_cons_zero, List.set_cons_succ, List.getElem_toArray, List.getElem_cons_succ, List.getElem_cons_zero]
        refine wpAnyH_take (i := 9) (v := (.pointer (some ⟨sh, 0, .none⟩))) rfl (by kernel_rfl) (by kernel_rfl) (by kernel_rfl) (fun _ _ _ h => h) (Or.inl ⟨by rfl, fun ww hSw => by (try dsimp only at hSw); go_simp⟩) (by assumption) ?_
        simp only [Act.put, List.setIfInBounds_toArray, List.set_cons_zero, List.set_cons_succ, List.getElem_toArray, List.getElem_cons_succ, List.getElem_cons_zero]
        refine wpAnyH_take (i := 10) (v := (.pointer (some ⟨sh, 2, .none⟩))) rfl (by kernel_rfl) (by kernel_rfl) (by kernel_rfl) (fun _ _ _ h => h) (Or.inl ⟨by rfl, fun ww hSw => by (try dsimp only at hSw); go_simp⟩) (by assumption) ?_
        simp only [Act.put, List.setIfInBounds_toArray, List.set_cons_zero, List.set_cons_succ, List.getElem_toArray, List.getElem_cons_succ, List.getElem_cons_zero]
        refine wpAnyH_ready (rs := [11]) (by kernel_rfl) (by simp) ?_
        refine AllReadyH.cons rfl (fun K hK => ?_) AllReadyH.nil
        go_simp
        refine hK.out _ _ trivial (fun hHeld => ?_)
        clear hK K
        try simp only [Act.put, List.setIfInBounds_toArray, List.set_cons_zero, List.set_cons_succ, List.getElem_toArray, List.getElem_cons_succ, List.getElem_cons_zero]
        refine wpAnyH_done (by kernel_rfl) ?_ _
        generalize U6.setCell ⟨sh, 2, .none⟩ (.slice ap6 (M + 1) ac6) = U7 at *
        clear q1 q2 hsh5 HV H3 HB4
        go_wp2
        go_ret
        exact ⟨rfl, HE.out⟩
      ·
        go_simp
        rw [← hV5]
        clear hV5 hb5 H4
        refine hK.out _ _ trivial (fun hHeld => ?_)
        clear hK K
        try simp only [Act.put, List.setIfInBounds_toArray, List.set_cons_zero, List.set_cons_succ, List.getElem_toArray, List.getElem_cons_succ, List.getElem_cons_zero]
        refine wpAnyH_ready (rs := [4]) (by kernel_rfl) (by simp) ?_
        refine AllReadyH.cons rfl (fun K hK => ?_) AllReadyH.nil
        have u2 := HV.out.1.c2
        go_simp
        refine hK.out _ _ trivial (fun hHeld => ?_)
        clear hK K
        try simp only [Act.put, List.setIfInBounds_toArray, List.set_cons_zero, List.set_cons_succ, List.getElem_toArray, List.getElem_cons_succ, List.getElem_cons_zero]
        clear u2
        refine wpAnyH_ready (rs := [8]) (by kernel_rfl) (by simp) ?_
        refine AllReadyH.cons rfl (fun K hK => ?_) AllReadyH.nil
        refine step_append_at rfl (.tmp 32) (.tmp 35) 45 rfl X 22 i9 z9 1 24 Try.underlying45 HJ.out.1 HJ.out.2.1 HJ.out.2.2.1 HJ.out.2.2.2.1 HJ.out.2.2.2.2 (by decide) (.slice up M uc) M ((List.range M).map uv) (by simp [Act.eval]) HV.out.1.our ⟨V4.heap.size, 0, .none⟩ 1 1 [.slice cp ln cc] (by simp [Act.eval]) rfl HV.out.2.2.1 (by simp [Value.oneCell']) (by unfold maxLen; omega) (by omega) HV.out.1.wX ?_
        intro ur' U6 hO6 hg6 hb6
        obtain ⟨ap6, ac6, rfl⟩ := one_slice hO6
        have t6 : Chg (fun k => (Value.slice up M uc).ownBlock = some k) V5 U6 := Chg.ofGrown hg6
        have hz5 := HV.out.2.2.2.1
        have hb6' : ∀ g, (Value.slice ap6 (M + 1) ac6).ownBlock = some g → (Value.slice up M uc).ownBlock = some g ∨ V5.heap.size ≤ g := fun g hg => by
          rcases hb6 with h | h
          · exact .inl (h.symm.trans hg)
          · rw [hg] at h
            exact .inr (by have := Option.some.inj h; omega)
        have hxM : upd kx M ls M = ls := upd_at _ _ _
        have hcr : V5.ownsRow X 5 1 (.slice cp ln cc) (upd kx M ls M).length (by8 (upd kx M ls M)) := by rw [hxM, HL.out.2.1]; exact HV.out.2.1
        have hpu := HV.out.1.pushu (by omega) hcr t6 hO6 hb6'
        have hns : ¬ (Value.slice up M uc).ownBlock = some sh := fun e => by have := own_block HV.out.1.our sh e; omega
        have hsh5 : sh < V5.heap.size := lt_cell HV.out.1.c2
        have q1 : U6.cell? ⟨sh, 2, .none⟩ = some (.slice up M uc) := (t6.cell (p := ⟨sh, 2, .none⟩) hsh5 hns).trans HV.out.1.c2
        have q2 : U6.frozen? ⟨sh, 2, .none⟩ = false := (t6.frozen (p := ⟨sh, 2, .none⟩) hsh5 hns).trans (HV.out.1.fz 2)
        have HE : Hid (∃ F', Shel (U6.setCell ⟨sh, 2, .none⟩ (.slice ap6 (M + 1) ac6)) X sh (cnt + 1) F' ∧ (∀ g, F' g → F g ∨ (Value.slice lp ln lc).ownBlock = some g ∨ w.heap.size ≤ g) ∧ Chg (fun k => k = sh ∨ F k ∨ (Value.slice lp ln lc).ownBlock = some k) w (U6.setCell ⟨sh, 2, .none⟩ (.slice ap6 (M + 1) ac6))) := by
          refine ⟨fpS (M + 1) (M + 1) (upd kv M (.slice lp ln lc)) (upd uv M (.slice cp ln cc)) (.slice kp2 (M + 1) kc2) (.slice ap6 (M + 1) ac6), ⟨_, _, _, _, _, by rw [hM2]; exact hpu, fun g => by rw [hM2]⟩, fun g hg => ?_, ?_⟩
          · rcases hg with hg | hg | ⟨i, hi, hg⟩ | ⟨i, hi, hg⟩
            · rcases H3.out.2.2.1 g hg with h | h
              · exact .inl ((HF.out g).2 (.inl h))
              · exact .inr (.inr h)
            · rcases hb6' g hg with h | h
              · exact .inl ((HF.out g).2 (.inr (.inl h)))
              · exact .inr (.inr (by have := HV.out.2.2.2.2.size; omega))
            · by_cases e : i = M
              · subst e
                rw [upd_at] at hg
                exact .inr (.inl hg)
              · rw [upd_lt _ _ _ i (by omega)] at hg
                exact .inl ((HF.out g).2 (.inr (.inr (.inl ⟨i, by omega, hg⟩))))
            · by_cases e : i = M
              · subst e
                rw [upd_at] at hg
                exact .inr (.inr (by have := HB4.out g hg; omega))
              · rw [upd_lt _ _ _ i (by omega)] at hg
                exact .inl ((HF.out g).2 (.inr (.inr (.inr ⟨i, by omega, hg⟩))))
          · refine ((H3.out.2.2.2.tt HV.out.2.2.2.2 (fun k _ h => ?_) (fun k _ h => h.elim)).trans t6 (fun k _ h => .inr (.inl ((HF.out k).2 (.inr (.inl h)))))).trans (chg_set sh 2 _ _) (fun k _ h => .inl h)
            rcases h with h | h
            · exact .inl h
            · exact .inr (.inl ((HF.out k).2 (.inl h)))
        clear hO6 hg6 hb6 t6 hb6' hcr hpu hns hxM hz5
        refine hK.out _ _ trivial (fun hHeld => ?_)
        clear hK K
        try simp only [Act.put, List.setIfInBounds_toArray, List.set_cons_zero, List.set_cons_succ, List.getElem_toArray, List.getElem_cons_succ, List.getElem_cons_zero]
        refine wpAnyH_take (i := 9) (v := (.pointer (some ⟨sh, 0, .none⟩))) rfl (by kernel_rfl) (by kernel_rfl) (by kernel_rfl) (fun _ _ _ h => h) (Or.inl ⟨by rfl, fun ww hSw => by (try dsimp only at hSw); go_simp⟩) (by assumption) ?_
        simp only [Act.put, List.setIfInBounds_toArray, List.set_cons_zero, List.set_cons_succ, List.getElem_toArray, List.getElem_cons_succ, List.getElem_cons_zero]
        refine wpAnyH_take (i := 10) (v := (.pointer (some ⟨sh, 2, .none⟩))) rfl (by kernel_rfl) (by kernel_rfl) (by kernel_rfl) (fun _ _ _ h => h) (Or.inl ⟨by rfl, fun ww hSw => by (try dsimp only at hSw); go_simp⟩) (by assumption) ?_
        simp only [Act.put, List.setIfInBounds_toArray, List.set_cons_zero, List.set_cons_succ, List.getElem_toArray, List.getElem_cons_succ, List.getElem_cons_zero]
        refine wpAnyH_ready (rs := [11]) (by kernel_rfl) (by simp) ?_
        refine AllReadyH.cons rfl (fun K hK => ?_) AllReadyH.nil
        go_simp
        refine hK.out _ _ trivial (fun hHeld => ?_)
        clear hK K
        try simp only [Act.put, List.setIfInBounds_toArray, List.set_cons_zero, List.set_cons_succ, List.getElem_toArray, List.getElem_cons_succ, List.getElem_cons_zero]
        refine wpAnyH_done (by kernel_rfl) ?_ _
        generalize U6.setCell ⟨sh, 2, .none⟩ (.slice ap6 (M + 1) ac6) = U7 at *
        clear q1 q2 hsh5 HV H3 HB4
        go_wp2
        go_ret
        exact ⟨rfl, HE.out⟩
  · have em : ((cnt : Int) + 1).tmod 2 = 1 := by rw [Int.tmod_eq_emod_of_nonneg (by omega)]; omega
    have hM2 : (cnt + 1) / 2 = cnt / 2 := by omega
    go_wp2_with fail
    have hbn := Trn.new W1 (.cells #[.slice lp ln lc] 22)
    have hcn : ∀ i, i < 1 → (W1.alloc (.cells #[.slice lp ln lc] 22)).cell? ⟨W1.heap.size, i, .none⟩ = some (.slice lp ln lc) := fun i hi => by
      obtain rfl : i = 0 := by omega
      rw [World.cell?_alloc_at _ _ _ _ rfl]; rfl
    have hzn : (W1.alloc (.cells #[.slice lp ln lc] 22)).heap.size = W1.heap.size + 1 := by simp
    generalize W1.alloc (.cells #[.slice lp ln lc] 22) = W2 at *
    have hl2 : W2.ownsRow X 5 1 (.slice lp ln lc) ln (by8 ls) := (Chg.ofBelow (S := fun _ => False) hbn).own HL1.out (fun _ _ h => h)
    have hFs : Fs 5 1 (fun _ => ln) (fun _ => .slice lp ln lc) W2 W2 (fun _ => by8 ls) := ⟨fun i hi => own_mono hl2 (Nat.zero_le _), rfl, rfl, rfl, Nat.le_refl _, fun _ _ _ => rfl⟩
    have c36 := freeB_any 1 W1.heap.size 1 (fun _ => ln) (fun _ => .slice lp ln lc) (fun _ => by8 ls) W2 (by omega) (fun i hi => by show ln ≤ 1000000; omega) hFs (fun i j hi hj hij => by omega) (by omega) (fun i hi e => by have := own_ltC HL1.out _ e; omega) hcn
    refine c36.mono ?_
    rintro en W3 ⟨rfl, xs3, hF3⟩
    have t3 : Chg (fun k => (Value.slice lp ln lc).ownBlock = some k) W2 W3 := ⟨hF3.os, hF3.tape, hF3.output, hF3.size, fun k hk hn => hF3.block k hk (fun i hi e => hn e.symm)⟩
    have HE : Hid (∃ F', Shel W3 X sh (cnt + 1) F' ∧ (∀ g, F' g → F g ∨ (Value.slice lp ln lc).ownBlock = some g ∨ w.heap.size ≤ g) ∧ Chg (fun k => k = sh ∨ F k ∨ (Value.slice lp ln lc).ownBlock = some k) w W3) := by
      have hsh := (H1.out.below hbn).keep t3 (fun e => by have := own_block HL1.out sh e; omega) (fun g hg e => HL.out.2.2 g e ((HF.out g).2 hg))
      refine ⟨fpS (cnt / 2) (cnt / 2) kv uv kr ur, ⟨kv, uv, kx, kr, ur, by rw [hM2]; exact hsh, fun g => by rw [hM2]⟩, fun g hg => .inl ((HF.out g).2 hg), ?_⟩
      exact (T1.out.tt (Chg.ofBelow (S := fun _ => False) hbn) (fun k _ h => .inl h) (fun k _ h => h.elim)).trans t3 (fun k _ h => .inr (.inr h))
    clear c36 hF3 t3 hFs hl2 hcn hbn hzn
    go_wp2
    go_ret
    exact ⟨rfl, HE.out⟩
end Go.Proofs.Ytabhojfdkmeaoab
