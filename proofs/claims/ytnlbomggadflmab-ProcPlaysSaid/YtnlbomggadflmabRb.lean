import Derived.Test.YtnlbomggadflmabRa
import Derived.Test.YtnlbomggadflmabRf
namespace Go.Proofs.Ytnlbomggadflmab
open Go.RowKit
set_option linter.unusedVariables false
set_option linter.unusedSimpArgs false
set_option maxRecDepth 100000
section
variable {w : World} {b : Nat} {P : Nat → Pr} {nx : Int}
set_option maxHeartbeats 2000000 in
theorem rlook_any (h : Tb w b P nx) (hn : 1 ≤ nx) (s : Int) : Calls Try.prog 33 #[.pointer (some ⟨b, 0, .none⟩), .int .i64 s] w fun e w' => e = .returned (.agg (lkP P s).l.toArray) ∧ Below w.heap.size w w' := by
  have hb := h.lt
  have hB : Below w.heap.size w (w.alloc (.cells #[.int .i64 0, .int .i64 0, .int .i64 0, .int .i64 0, .int .i64 0, .bool false, .int .i32 0] 33)) := below1 _ _
  have hT : Tb (w.alloc (.cells #[.int .i64 0, .int .i64 0, .int .i64 0, .int .i64 0, .int .i64 0, .bool false, .int .i32 0] 33)) b P nx := h.bel (below1 _ _)
  have hR : (w.alloc (.cells #[.int .i64 0, .int .i64 0, .int .i64 0, .int .i64 0, .int .i64 0, .bool false, .int .i32 0] 33)).rangeAt w.heap.size 0 zP.l := fun j v hj => by
    rw [World.cell?_alloc_at _ _ _ _ (by rfl)]; simpa [zP, Pr.l] using hj
  have hH : (w.alloc (.cells #[.int .i64 0, .int .i64 0, .int .i64 0, .int .i64 0, .int .i64 0, .bool false, .int .i32 0] 33)).there w.heap.size 0 7 := fun j hj => by
    refine ⟨?_, World.frozen?_alloc_new _ _ _ _⟩
    rw [World.cell?_alloc_at _ _ _ _ (by rfl)]
    simp [hj]
  have k1 := none_any hT hn
  have k2 := there_any hT s
  clear h
  by_cases hp : isP P s
  · have e1 : lkP P s = P s.toNat := by rw [lkP, if_pos hp]
    rw [e1]
    rw [decide_eq_true hp] at k2
    obtain ⟨n, rfl, g, h3⟩ := isP_nat hp
    rw [Int.toNat_natCast]
    have gn : (n : Int) < 64 := by omega
    obtain ⟨c0, c1, c2, c3, c4, c5, c6⟩ := hT.cells n g
    have q0 := hR 0 _ rfl
    have q1 := hR 1 _ rfl
    have q2 := hR 2 _ rfl
    have q3 := hR 3 _ rfl
    have q4 := hR 4 _ rfl
    have q5 := hR 5 _ rfl
    have q6 := hR 6 _ rfl
    have f0 := (hH 0 (by omega)).2
    have f1 := (hH 1 (by omega)).2
    have f2 := (hH 2 (by omega)).2
    have f3 := (hH 3 (by omega)).2
    have f4 := (hH 4 (by omega)).2
    have f5 := (hH 5 (by omega)).2
    have f6 := (hH 6 (by omega)).2
    simp only [Nat.zero_add] at q0 q1 q2 q3 q4 q5 q6 f0 f1 f2 f3 f4 f5 f6
    have HT : Hid (Below w.heap.size w (w.alloc (.cells #[.int .i64 0, .int .i64 0, .int .i64 0, .int .i64 0, .int .i64 0, .bool false, .int .i32 0] 33)) ∧ (w.alloc (.cells #[.int .i64 0, .int .i64 0, .int .i64 0, .int .i64 0, .int .i64 0, .bool false, .int .i32 0] 33)).there w.heap.size 0 7) := ⟨hB, hH⟩
    clear hB hT hR hH e1 hp h3
    go_enter Try.func33, Try.ntmps33
    go_upto_region 1 with fail
    generalize (w.alloc (.cells #[.int .i64 0, .int .i64 0, .int .i64 0, .int .i64 0, .int .i64 0, .bool false, .int .i32 0] 33)) = w1 at *
    go_wp2_with fail
    refine k1.mono ?_
    rintro e w9 ⟨rfl, hw⟩
    obtain rfl : w1 = w9 := hw.symm
    clear k1
    go_wp2_with fail
    refine k2.mono ?_
    rintro e w9 ⟨rfl, hw⟩
    obtain rfl : w1 = w9 := hw.symm
    clear k2
    go_wp2
    refine bodyPost_ret (v := .agg (P n).l.toArray) (results_cell_any rfl _ _ ⟨w.heap.size, 0, .none⟩ _ rfl (look_end w1 w.heap.size (P n) HT.out.2)) rfl ⟨rfl, below_setCells HT.out.1 w.heap.size (Nat.le_refl _) 0 (P n).l⟩
  · have e1 : lkP P s = zP := by rw [lkP, if_neg hp]
    rw [e1]
    rw [decide_eq_false hp] at k2
    have q0 := hR 0 _ rfl
    have q1 := hR 1 _ rfl
    have q2 := hR 2 _ rfl
    have q3 := hR 3 _ rfl
    have q4 := hR 4 _ rfl
    have q5 := hR 5 _ rfl
    have q6 := hR 6 _ rfl
    have f0 := (hH 0 (by omega)).2
    have f1 := (hH 1 (by omega)).2
    have f2 := (hH 2 (by omega)).2
    have f3 := (hH 3 (by omega)).2
    have f4 := (hH 4 (by omega)).2
    have f5 := (hH 5 (by omega)).2
    have f6 := (hH 6 (by omega)).2
    simp only [Nat.zero_add] at q0 q1 q2 q3 q4 q5 q6 f0 f1 f2 f3 f4 f5 f6
    have HT : Hid (Below w.heap.size w (w.alloc (.cells #[.int .i64 0, .int .i64 0, .int .i64 0, .int .i64 0, .int .i64 0, .bool false, .int .i32 0] 33)) ∧ (w.alloc (.cells #[.int .i64 0, .int .i64 0, .int .i64 0, .int .i64 0, .int .i64 0, .bool false, .int .i32 0] 33)).there w.heap.size 0 7) := ⟨hB, hH⟩
    clear hB hT hR hH e1 hp
    go_enter Try.func33, Try.ntmps33
    go_upto_region 1 with fail
    generalize (w.alloc (.cells #[.int .i64 0, .int .i64 0, .int .i64 0, .int .i64 0, .int .i64 0, .bool false, .int .i32 0] 33)) = w1 at *
    go_wp2_with fail
    refine k1.mono ?_
    rintro e w9 ⟨rfl, hw⟩
    obtain rfl : w1 = w9 := hw.symm
    clear k1
    go_wp2_with fail
    refine k2.mono ?_
    rintro e w9 ⟨rfl, hw⟩
    obtain rfl : w1 = w9 := hw.symm
    clear k2
    go_wp2
    refine bodyPost_ret (v := .agg zP.l.toArray) (results_cell_any rfl _ _ ⟨w.heap.size, 0, .none⟩ _ rfl (look_end w1 w.heap.size zP HT.out.2)) rfl ⟨rfl, below_setCells HT.out.1 w.heap.size (Nat.le_refl _) 0 zP.l⟩
section
attribute [local irreducible] sl tl zT
set_option maxHeartbeats 2000000 in
theorem rstate_any (h : Tb w b P nx) (hn : 1 ≤ nx) : Calls Try.prog 8 #[.pointer (some ⟨b, 0, .none⟩)] w fun e w' => e = .returned (.agg (tl P nx).toArray) ∧ Below w.heap.size w w' := by
  have hb := h.lt
  have HB : Hid (Below w.heap.size w (w.alloc (.cells (zT 0) 36))) := below1 _ _
  have HT : Hid (Tb (w.alloc (.cells (zT 0) 36)) b P nx) := h.bel (below1 _ _)
  have HN : Hid (Tb (w.alloc (.cells (zT 0) 36)) w.heap.size zS 0) := by rw [zT]; exact tb_new w zS 0 _
  clear h
  go_enter Try.func8, Try.ntmps8
  go_upto_region 0 with fail
  refine wp_region_lit ?_
  refine Great.wpList_allocTo rfl _ rfl _ _ (alloc_state _ _ rfl w) ?_
  simp only [Act.put, List.setIfInBounds_toArray, List.set_cons_zero, List.set_cons_succ]
  have k1 := none_any HT.out hn
  have hne : w.heap.size ≠ b := by omega
  generalize hx : w.heap.size = x at *
  have HXX : Hid (w.heap.size = x) := hx
  clear hx
  generalize w.alloc (.cells (zT 0) 36) = w1 at *
  go_wp2_with fail
  refine k1.mono ?_
  rintro e w2 ⟨rfl, hw⟩
  obtain rfl : w1 = w2 := hw.symm
  clear k1
  go_upto_region 3 with fail
  refine wp_region_held_drew (S := (fun W => Tb W b P nx ∧ W.there x 0 449 ∧ Below x w W)) (by kernel_rfl) ⟨HT.out.keep rfl, (HN.out.keep (w' := w1.drew) rfl).th, ⟨HB.out.os, HB.out.tape, HB.out.output, HB.out.size, HB.out.block⟩⟩ (fun hHeld => ?_)
  refine wpAnyH_take (i := 0) (v := (.pointer (some ⟨b, 0, .none⟩))) rfl (by kernel_rfl) (by kernel_rfl) (by kernel_rfl) (fun _ _ _ h => h) (Or.inl ⟨by rfl, fun ww hSw => by (try dsimp only at hSw); go_simp⟩) (by assumption) ?_
  simp only [Act.put, List.setIfInBounds_toArray, List.set_cons_zero, List.set_cons_succ, List.getElem_toArray, List.getElem_cons_succ, List.getElem_cons_zero]
  refine wpAnyH_take (i := 1) (v := (.pointer (some ⟨b, 0, .none⟩))) rfl (by kernel_rfl) (by kernel_rfl) (by kernel_rfl) (fun _ _ _ h => h) (Or.inl ⟨by rfl, fun ww hSw => by (try dsimp only at hSw); go_simp⟩) (by assumption) ?_
  simp only [Act.put, List.setIfInBounds_toArray, List.set_cons_zero, List.set_cons_succ, List.getElem_toArray, List.getElem_cons_succ, List.getElem_cons_zero]
  refine wpAnyH_take (i := 2) (v := (.pointer (some ⟨b, 0, .none⟩))) rfl (by kernel_rfl) (by kernel_rfl) (by kernel_rfl) (fun _ _ _ h => h) (Or.inl ⟨by rfl, fun ww hSw => by (try dsimp only at hSw); go_simp⟩) (by assumption) ?_
  simp only [Act.put, List.setIfInBounds_toArray, List.set_cons_zero, List.set_cons_succ, List.getElem_toArray, List.getElem_cons_succ, List.getElem_cons_zero]
  refine wpAnyH_take (i := 3) (v := (.agg (sl P).toArray)) rfl (by kernel_rfl) (by kernel_rfl) (by kernel_rfl) (fun _ _ _ h => h) (yieldsIf_load_mid (by rfl) 34 (.tmp 8) rfl b 0 rfl (sl P) _ (fun W hW => sl_range hW.1) Try.underlying34 rfl (by rw [sl_len]; exact info_sl)) (by assumption) ?_
  simp only [Act.put, List.setIfInBounds_toArray, List.set_cons_zero, List.set_cons_succ, List.getElem_toArray, List.getElem_cons_succ, List.getElem_cons_zero]
  refine wpAnyH_take (i := 4) (v := (.pointer (some ⟨b, 0, .none⟩))) rfl (by kernel_rfl) (by kernel_rfl) (by kernel_rfl) (fun _ _ _ h => h) (Or.inl ⟨by rfl, fun ww hSw => by (try dsimp only at hSw); go_simp⟩) (by assumption) ?_
  simp only [Act.put, List.setIfInBounds_toArray, List.set_cons_zero, List.set_cons_succ, List.getElem_toArray, List.getElem_cons_succ, List.getElem_cons_zero]
  refine wpAnyH_take (i := 5) (v := (.pointer (some ⟨b, 0, .none⟩))) rfl (by kernel_rfl) (by kernel_rfl) (by kernel_rfl) (fun _ _ _ h => h) (Or.inl ⟨by rfl, fun ww hSw => by (try dsimp only at hSw); go_simp⟩) (by assumption) ?_
  simp only [Act.put, List.setIfInBounds_toArray, List.set_cons_zero, List.set_cons_succ, List.getElem_toArray, List.getElem_cons_succ, List.getElem_cons_zero]
  refine wpAnyH_take (i := 6) (v := (.pointer (some ⟨b, 448, .none⟩))) rfl (by kernel_rfl) (by kernel_rfl) (by kernel_rfl) (fun _ _ _ h => h) (Or.inl ⟨by rfl, fun ww hSw => by (try dsimp only at hSw); go_simp⟩) (by assumption) ?_
  simp only [Act.put, List.setIfInBounds_toArray, List.set_cons_zero, List.set_cons_succ, List.getElem_toArray, List.getElem_cons_succ, List.getElem_cons_zero]
  refine wpAnyH_take (i := 7) (v := (.int .i64 nx)) rfl (by kernel_rfl) (by kernel_rfl) (by kernel_rfl) (fun _ _ _ h => h) (Or.inl ⟨by rfl, fun ww hSw => by (try dsimp only at hSw); have c7 := hSw.1.cn; go_simp⟩) (by assumption) ?_
  simp only [Act.put, List.setIfInBounds_toArray, List.set_cons_zero, List.set_cons_succ, List.getElem_toArray, List.getElem_cons_succ, List.getElem_cons_zero]
  refine wpAnyH_take (i := 8) (v := (.agg (tl P nx).toArray)) rfl (by kernel_rfl) (by kernel_rfl) (by kernel_rfl) (fun _ _ _ h => h) (yieldsIf_build (by rfl) 36 #[(0, .tmp 9), (1, .tmp 13)] rfl _ (by rw [List.map_toArray]; exact built_state P nx)) (by assumption) ?_
  simp only [Act.put, List.setIfInBounds_toArray, List.set_cons_zero, List.set_cons_succ, List.getElem_toArray, List.getElem_cons_succ, List.getElem_cons_zero]
  refine wpAnyH_ready (rs := [9]) (by kernel_rfl) (by simp) ?_
  refine AllReadyH.cons rfl (fun K hK => ?_) AllReadyH.nil
  refine step_store_mid rfl 36 (.tmp 2) (.tmp 14) rfl x 0 (tl P nx).toArray rfl rfl ?_ (by rw [List.size_toArray, tl_len]; exact info_tab) (all_oneCell_toArray (tl_one P nx)) ?_
  · have := hHeld.2.1
    rw [List.size_toArray, tl_len]
    exact this
  rw [List.toList_toArray]
  have HF : Hid (Tb (w1.drew.setCells x 0 (tl P nx)) x P nx ∧ Below x w (w1.drew.setCells x 0 (tl P nx))) := ⟨⟨World.rangeAt_setCells_same _ x 0 _ (by rw [tl_len]; exact hHeld.2.1), World.there_setCells hHeld.2.1 _ _ _⟩, below_setCells hHeld.2.2 _ (Nat.le_refl _) _ _⟩
  have kS : Tb (w1.drew.setCells x 0 (tl P nx)) b P nx ∧ (w1.drew.setCells x 0 (tl P nx)).there x 0 449 ∧ Below x w (w1.drew.setCells x 0 (tl P nx)) := ⟨(Trn.setCells x 0 _ _).tb hHeld.1 (fun e => hne e.symm), HF.out.1.th, HF.out.2⟩
  refine hK.out _ _ kS (fun hHeld => ?_)
  clear hK K
  try simp only [Act.put, List.setIfInBounds_toArray, List.set_cons_zero, List.set_cons_succ, List.getElem_toArray, List.getElem_cons_succ, List.getElem_cons_zero]
  refine wpAnyH_done (by kernel_rfl) ?_ _
  clear kS hHeld
  generalize w1.drew.setCells x 0 (tl P nx) = w5 at *
  go_wp2
  refine bodyPost_ret (v := .agg (tl P nx).toArray) (results_cell_any rfl _ _ ⟨x, 0, .none⟩ _ rfl ?_) rfl ⟨rfl, by rw [HXX.out]; exact HF.out.2⟩
  exact run_loadVar_mid w5 x 0 36 (tl P nx) _ HF.out.1.rg Try.underlying36 rfl (by rw [tl_len]; exact info_tab)
end
set_option maxHeartbeats 2000000 in
theorem rpick_loop (h : Tb w b P nx) (hn : 1 ≤ nx) (l : Int) (l0 : Nat) (hl0 : l0 ≤ 63) (hl : (0 ≤ l ∧ l < 64 ∧ l = l0) ∨ ((l < 0 ∨ 64 ≤ l) ∧ l0 = 63)) : Calls Try.prog 17 #[.pointer (some ⟨b, 0, .none⟩), .int .i64 l] w fun e w' => e = .returned (.tuple #[.int .i64 (rnI (rnd (fun i => (P i).st == 1) (l0 + 1))), .bool (rnd (fun i => (P i).st == 1) (l0 + 1)).isSome]) ∧ w' = w := by
  have k1 := none_any h hn
  have HT : Hid (Tb w b P nx) := h
  clear h
  have HF : Hid (∀ (f : Nat), f = l0 + 1 → f = l0 + 1) := fun _ h => h
  rcases hl with ⟨h1, h2, rfl⟩ | ⟨h1, rfl⟩
  · have gl : (l0 : Int) < 64 := by omega
    go_enter Try.func17, Try.ntmps17
    go_wp2_with fail
    refine k1.mono ?_
    rintro e w1 ⟨rfl, hw⟩
    obtain rfl : w = w1 := hw.symm
    clear k1
    go_wp2
    go_loopw [6] (fun k wr => ∃ j : Nat, 1 ≤ j ∧ j ≤ 65 ∧ k = .int .i64 j ∧ Hid (wr = w ∧ ∀ i, i + 1 < j → ((P ((l0 + 1 + i) % 64)).st == 1) = false)) (fun k _ => (65 - intOf k).toNat)
    case atStart => exact ⟨1, by omega, by omega, rfl, rfl, fun i hi => by omega⟩
    case round =>
      obtain ⟨j, hj1, hj, rfl, HV⟩ := hrel
      obtain rfl : w = wr := HV.out.1.symm
      have HV2 : Hid (∀ i, i + 1 < j → ((P ((l0 + 1 + i) % 64)).st == 1) = false) := HV.out.2
      clear HV
      by_cases hlt : j ≤ 64
      · have g0 : (j : Int) ≤ 64 := by omega
        have hs : (l0 + j) % 64 < 64 := Nat.mod_lt _ (by omega)
        have c1 := (HT.out.cells ((l0 + j) % 64) hs).2.1
        have he : Hid ((l0 + j) % 64 = (l0 + 1 + (j - 1)) % 64) := by show (l0 + j) % 64 = (l0 + 1 + (j - 1)) % 64; congr 1; omega
        have gm : ((l0 : Int) + (j : Int)).tmod 64 = (((l0 + j) % 64 : Nat) : Int) := by
          rw [Int.tmod_eq_emod_of_nonneg (by omega)]; omega
        cases hq : ((P ((l0 + j) % 64)).st == 1) with
        | true =>
          have HR : Hid (rnd (fun i => (P i).st == 1) (l0 + 1) = some ((l0 + j) % 64)) := by
            rw [Hid, he.out]
            exact rnd_at (q := fun i => (P i).st == 1) (by omega) (fun i hi => HV2.out i (by omega)) (by rw [← he.out]; exact hq)
          go_wp2
          go_ret2
          refine ⟨?_, rfl⟩
          rw [HR.out]
          simp [rnI]
        | false =>
          have HS : Hid (∀ i, i + 1 < j + 1 → ((P ((l0 + 1 + i) % 64)).st == 1) = false) := fun i hi => by
            by_cases e : i + 1 = j
            · have : i = j - 1 := by omega
              rw [this, ← he.out]; exact hq
            · exact HV2.out i (by omega)
          go_wp2
          exact ⟨⟨j + 1, by omega, by omega, rfl, trivial, HS.out⟩, by simp only [intOf]; omega⟩
      · obtain rfl : j = 65 := by omega
        have HR : Hid (rnd (fun i => (P i).st == 1) (l0 + 1) = none) := rnd_none.2 (fun i hi => HV2.out i (by omega))
        go_wp2
        go_ret2
        refine ⟨?_, rfl⟩
        rw [HR.out]
        rfl
  · by_cases hl0 : l < 0
    · clear h1
      go_enter Try.func17, Try.ntmps17
      go_wp2_with fail
      refine k1.mono ?_
      rintro e w1 ⟨rfl, hw⟩
      obtain rfl : w = w1 := hw.symm
      clear k1
      go_wp2
      go_loopw [6] (fun k wr => ∃ j : Nat, 1 ≤ j ∧ j ≤ 65 ∧ k = .int .i64 j ∧ Hid (wr = w ∧ ∀ i, i + 1 < j → ((P ((63 + 1 + i) % 64)).st == 1) = false)) (fun k _ => (65 - intOf k).toNat)
      case atStart => exact ⟨1, by omega, by omega, rfl, rfl, fun i hi => by omega⟩
      case round =>
        obtain ⟨j, hj1, hj, rfl, HV⟩ := hrel
        obtain rfl : w = wr := HV.out.1.symm
        have HV2 : Hid (∀ i, i + 1 < j → ((P ((63 + 1 + i) % 64)).st == 1) = false) := HV.out.2
        clear HV
        by_cases hlt : j ≤ 64
        · have g0 : (j : Int) ≤ 64 := by omega
          have hs : (63 + j) % 64 < 64 := Nat.mod_lt _ (by omega)
          have c1 := (HT.out.cells ((63 + j) % 64) hs).2.1
          have he : Hid ((63 + j) % 64 = (63 + 1 + (j - 1)) % 64) := by show (63 + j) % 64 = (63 + 1 + (j - 1)) % 64; congr 1; omega
          have gm : ((63 : Int) + (j : Int)).tmod 64 = (((63 + j) % 64 : Nat) : Int) := by
            rw [Int.tmod_eq_emod_of_nonneg (by omega)]; omega
          cases hq : ((P ((63 + j) % 64)).st == 1) with
          | true =>
            have HR : Hid (rnd (fun i => (P i).st == 1) (63 + 1) = some ((63 + j) % 64)) := by
              rw [Hid, he.out]
              exact rnd_at (q := fun i => (P i).st == 1) (by omega) (fun i hi => HV2.out i (by omega)) (by rw [← he.out]; exact hq)
            go_wp2
            go_ret2
            refine ⟨?_, rfl⟩
            rw [HR.out]
            simp [rnI]
          | false =>
            have HS : Hid (∀ i, i + 1 < j + 1 → ((P ((63 + 1 + i) % 64)).st == 1) = false) := fun i hi => by
              by_cases e : i + 1 = j
              · have : i = j - 1 := by omega
                rw [this, ← he.out]; exact hq
              · exact HV2.out i (by omega)
            go_wp2
            exact ⟨⟨j + 1, by omega, by omega, rfl, trivial, HS.out⟩, by simp only [intOf]; omega⟩
        · obtain rfl : j = 65 := by omega
          have HR : Hid (rnd (fun i => (P i).st == 1) (63 + 1) = none) := rnd_none.2 (fun i hi => HV2.out i (by omega))
          go_wp2
          go_ret2
          refine ⟨?_, rfl⟩
          rw [HR.out]
          rfl
    · have h64 : 64 ≤ l := by omega
      clear h1
      go_enter Try.func17, Try.ntmps17
      go_wp2_with fail
      refine k1.mono ?_
      rintro e w1 ⟨rfl, hw⟩
      obtain rfl : w = w1 := hw.symm
      clear k1
      go_wp2
      go_loopw [6] (fun k wr => ∃ j : Nat, 1 ≤ j ∧ j ≤ 65 ∧ k = .int .i64 j ∧ Hid (wr = w ∧ ∀ i, i + 1 < j → ((P ((63 + 1 + i) % 64)).st == 1) = false)) (fun k _ => (65 - intOf k).toNat)
      case atStart => exact ⟨1, by omega, by omega, rfl, rfl, fun i hi => by omega⟩
      case round =>
        obtain ⟨j, hj1, hj, rfl, HV⟩ := hrel
        obtain rfl : w = wr := HV.out.1.symm
        have HV2 : Hid (∀ i, i + 1 < j → ((P ((63 + 1 + i) % 64)).st == 1) = false) := HV.out.2
        clear HV
        by_cases hlt : j ≤ 64
        · have g0 : (j : Int) ≤ 64 := by omega
          have hs : (63 + j) % 64 < 64 := Nat.mod_lt _ (by omega)
          have c1 := (HT.out.cells ((63 + j) % 64) hs).2.1
          have he : Hid ((63 + j) % 64 = (63 + 1 + (j - 1)) % 64) := by show (63 + j) % 64 = (63 + 1 + (j - 1)) % 64; congr 1; omega
          have gm : ((63 : Int) + (j : Int)).tmod 64 = (((63 + j) % 64 : Nat) : Int) := by
            rw [Int.tmod_eq_emod_of_nonneg (by omega)]; omega
          cases hq : ((P ((63 + j) % 64)).st == 1) with
          | true =>
            have HR : Hid (rnd (fun i => (P i).st == 1) (63 + 1) = some ((63 + j) % 64)) := by
              rw [Hid, he.out]
              exact rnd_at (q := fun i => (P i).st == 1) (by omega) (fun i hi => HV2.out i (by omega)) (by rw [← he.out]; exact hq)
            go_wp2
            go_ret2
            refine ⟨?_, rfl⟩
            rw [HR.out]
            simp [rnI]
          | false =>
            have HS : Hid (∀ i, i + 1 < j + 1 → ((P ((63 + 1 + i) % 64)).st == 1) = false) := fun i hi => by
              by_cases e : i + 1 = j
              · have : i = j - 1 := by omega
                rw [this, ← he.out]; exact hq
              · exact HV2.out i (by omega)
            go_wp2
            exact ⟨⟨j + 1, by omega, by omega, rfl, trivial, HS.out⟩, by simp only [intOf]; omega⟩
        · obtain rfl : j = 65 := by omega
          have HR : Hid (rnd (fun i => (P i).st == 1) (63 + 1) = none) := rnd_none.2 (fun i hi => HV2.out i (by omega))
          go_wp2
          go_ret2
          refine ⟨?_, rfl⟩
          rw [HR.out]
          rfl
theorem rnd_64 (q : Nat → Bool) : rnd q 64 = rnd q 0 := by
  have e : (fun k => (64 + k) % 64) = fun k => (0 + k) % 64 := by
    funext k
    omega
  rw [rnd, rnd, e]
theorem rpick_any (h : Tb w b P nx) (hn : 1 ≤ nx) (l : Int) : Calls Try.prog 17 #[.pointer (some ⟨b, 0, .none⟩), .int .i64 l] w fun e w' => e = .returned (.tuple #[.int .i64 (rnI (rnd (fun i => (P i).st == 1) (pkF l))), .bool (rnd (fun i => (P i).st == 1) (pkF l)).isSome]) ∧ w' = w := by
  by_cases hl : 0 ≤ l ∧ l < 64
  · have := rpick_loop h hn l l.toNat (by omega) (.inl ⟨hl.1, hl.2, by omega⟩)
    rw [show pkF l = l.toNat + 1 by rw [pkF, if_pos hl]]
    exact this
  · have := rpick_loop h hn l 63 (by omega) (.inr ⟨by omega, rfl⟩)
    rw [rnd_64] at this
    rw [show pkF l = 0 by rw [pkF, if_neg hl]]
    exact this
end
end Go.Proofs.Ytnlbomggadflmab
