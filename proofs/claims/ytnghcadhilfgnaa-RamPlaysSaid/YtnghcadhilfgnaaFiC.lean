import Derived.Test.YtnghcadhilfgnaaFiK
import Derived.ControlIn
import Derived.Deep.RegionLaw
import Derived.Deep.RegionHeld3
import Derived.Deep.Cut
namespace Go.Proofs.Ytnghcadhilfgnaa
open Go.RowKit Go.Shelf
attribute [local go_sem] Oper.semAt_some
set_option linter.unusedVariables false
set_option linter.unusedSimpArgs false
set_option maxHeartbeats 4000000 in
set_option maxRecDepth 100000 in
theorem from_ok (W : World) (nf cf nh ch n : Nat) (qf qh : Option Addr) (F PA : Nat → Int) (P : Nat → Option Addr) (L C : Nat → Nat) (D : Nat → Nat → Int) (hf : Fs W qf nf F) (hF : ∀ i, 0 ≤ F i ∧ F i < 18446744073709551616) (hcf : nf ≤ cf) (hcfm : cf ≤ 9223372036854775807) (hH : Hs W qh nh PA P L C) (hP : ∀ i, 0 ≤ PA i ∧ PA i < 18446744073709551616) (hc : nh ≤ ch) (hcm : ch ≤ 9223372036854775807) (hl : ∀ i, L i ≤ 9223372036854775807) (hD : Ds W nh P L D) (hDb : ∀ i j, 0 ≤ D i j ∧ D i j < 256) (h1 : 1 ≤ n) (h2 : n ≤ 4096) (hs : nf ≤ 281474976710656 ∧ nh ≤ 281474976710656) (hok : Fine F nf PA L nh n) :
    Calls Try.prog 59 #[.agg #[.int .i64 n, .slice qf nf cf, .slice qh nh ch]] W fun e w' => FrP W F nf PA D nh n e w' := by
  have c13 := fun w => mayHave_any (n : Int) w
  rw [show decide (1 ≤ (n : Int) ∧ (n : Int) ≤ 4096) = true by simp; omega] at c13
  have bA : Below W.heap.size W (W.alloc (.cells #[.int .i64 n, .slice qf nf cf, .slice qh nh ch] 40)) := (Below.refl _ _).alloc (Nat.le_refl _) _
  have c15 := wrong_any (W.alloc (.cells #[.int .i64 n, .slice qf nf cf, .slice qh nh ch] 40)) nf cf nh ch qf qh F PA P L C n (fs_keep hf bA (Nat.le_refl _)) hF hcf hcfm (hH.keep bA (Nat.le_refl _)) hP hc hcm hl (by omega) (by omega) hs
  have HA : Hid (Below W.heap.size W (W.alloc (.cells #[.int .i64 n, .slice qf nf cf, .slice qh nh ch] 40))) := bA
  have HH : Hid (Fs W qf nf F ∧ Hs W qh nh PA P L C ∧ Ds W nh P L D ∧ Fine F nf PA L nh n) := ⟨hf, hH, hD, hok⟩
  clear bA hf hH hD hok
  refine (callsIn_wide (n := 3)).1 ?_
  refine callsIn_of_wp_marks Try.func59 rfl trivial ?_ rfl
  simp only [Try.ntmps59, List.size_toArray, List.length_cons, List.length_nil, Nat.reduceAdd, Nat.reduceSub, Array.replicate_succ, Array.replicate_zero, List.push_toArray, List.append_toArray, List.nil_append, List.cons_append]
  refine wpIn_wide.2 ?_
  go_wp2_with (first | (go_at_call 39; refine (c13 _).mono ?_; rintro e w1 ⟨rfl, rfl⟩) | fail)
  refine c15.mono ?_
  rintro e W2 ⟨at_, rfl, hw, b2⟩
  obtain rfl := HH.out.2.2.2.zero hw
  clear c15 hw c13
  have i0 : (W.alloc (.cells #[.int .i64 n, .slice qf nf cf, .slice qh nh ch] 40)).cell? ⟨W.heap.size, 0, .none⟩ = some (.int .i64 n) := by simp
  have i1 : (W.alloc (.cells #[.int .i64 n, .slice qf nf cf, .slice qh nh ch] 40)).cell? ⟨W.heap.size, 1, .none⟩ = some (.slice qf nf cf) := by simp
  have i2 : (W.alloc (.cells #[.int .i64 n, .slice qf nf cf, .slice qh nh ch] 40)).cell? ⟨W.heap.size, 2, .none⟩ = some (.slice qh nh ch) := by simp
  have k0 := (b2.cell (lt_of_cell i0)).trans i0
  have k1 := (b2.cell (lt_of_cell i1)).trans i1
  have k2 := (b2.cell (lt_of_cell i2)).trans i2
  have HB2 : Hid (Below W.heap.size W W2) := HA.out.trans (b2.mono HA.out.size)
  have l2 : W.heap.size < W2.heap.size := lt_of_cell k0
  clear i0 i1 i2 b2 HA
  go_wp2_with fail
  refine (blank_any n h1 h2 W2).mono ?_
  rintro e W3 ⟨p, b, m, p1, p2, p3, rfl, hM, b3⟩
  have m0 := (b3.cell (lt_of_cell k0)).trans k0
  have m1 := (b3.cell (lt_of_cell k1)).trans k1
  have m2 := (b3.cell (lt_of_cell k2)).trans k2
  have HI0 : Hid (Hi W (W3.alloc (.cells #[.pointer (some ⟨p, 0, .none⟩)] 30)) p b m W3.heap.size n qf nf cf PA D 0 ∧ (W3.alloc (.cells #[.pointer (some ⟨p, 0, .none⟩)] 30)).cell? ⟨W.heap.size, 2, .none⟩ = some (.slice qh nh ch)) := by
    have b4 : Below W3.heap.size W3 (W3.alloc (.cells #[.pointer (some ⟨p, 0, .none⟩)] 30)) := (Below.refl _ _).alloc (Nat.le_refl _) _
    have l3 := b3.size
    refine ⟨⟨hM.below b4, by simp, World.frozen?_alloc_new _ _ _ _, (b4.cell (lt_of_cell m1)).trans m1, (b4.cell (lt_of_cell m0)).trans m0, HB2.out.trans ((b3.mono (by omega)).trans (b4.mono (by omega))), by omega, by omega, by omega, by omega⟩, (b4.cell (lt_of_cell m2)).trans m2⟩
  have i2 := HI0.out.2
  clear k0 k1 k2 m0 m1 m2 hM b3 HB2
  generalize hx5 : W3.heap.size = x5 at *
  go_wp2_with fail
  generalize W3.alloc (.cells #[.pointer (some ⟨p, 0, .none⟩)] 30) = W4 at *
  clear hx5
  go_loopw [27] (fun a wr => ∃ k : Nat, k ≤ nh ∧ a = .int .i64 k ∧ Hid (Hi W wr p b m x5 n qf nf cf PA D k)) (fun a _ => (nh - intOf a).toNat)
  case atStart => exact ⟨0, by omega, rfl, HI0.out.1⟩
  case round =>
    obtain ⟨k, hk, rfl, HI⟩ := hrel
    by_cases hlt : k < nh
    · have g0 : (k : Int) < nh := by omega
      obtain ⟨hfr, hL4, hnot, _⟩ := HH.out.2.2.2.held hlt
      have hfresh := HH.out.2.2.2.fresh hlt
      have hHk := HH.out.2.1.keep HI.out.be (Nat.le_refl _)
      obtain ⟨hb, ho, rfl, lb, hcell⟩ : ∃ b o, qh = some ⟨b, o, .none⟩ ∧ b < wr.heap.size ∧ ∀ i, i < nh → wr.cell? ⟨b, o + i * 2, .none⟩ = some (.int .u64 (PA i)) ∧ wr.cell? ⟨b, o + i * 2 + 1, .none⟩ = some (.slice (P i) (L i) (C i)) := by
        rcases hHk with h | h
        · omega
        · exact h
      obtain ⟨a0, a1⟩ := hcell k hlt
      obtain ⟨db, dof, hPk, ldb, hdat⟩ : ∃ b o, P k = some ⟨b, o, .none⟩ ∧ b < W.heap.size ∧ ∀ j, j < L k → W.cell? ⟨b, o + j, .none⟩ = some (.int .u8 (D k j)) := by
        rcases HH.out.2.2.1 k hlt with h | h
        · omega
        · exact h
      rw [hL4] at hdat a1
      rw [hPk] at a1
      clear hcell hHk hPk
      go_wp2_with fail
      have HV : Hid (Hi W (wr.alloc (.cells #[.int .u64 (PA k), .slice (some ⟨db, dof, .none⟩) 4096 (C k)] 70)).drew p b m x5 n qf nf cf PA D k ∧ (wr.alloc (.cells #[.int .u64 (PA k), .slice (some ⟨db, dof, .none⟩) 4096 (C k)] 70)).drew.cell? ⟨wr.heap.size, 0, .none⟩ = some (.int .u64 (PA k)) ∧ (wr.alloc (.cells #[.int .u64 (PA k), .slice (some ⟨db, dof, .none⟩) 4096 (C k)] 70)).drew.cell? ⟨wr.heap.size, 1, .none⟩ = some (.slice (some ⟨db, dof, .none⟩) 4096 (C k))) := by
        refine ⟨HI.out.below (((Below.refl _ _).alloc (Nat.le_refl _) _).drew), ?_, ?_⟩
        · show (wr.alloc _).cell? _ = _
          simp
        · show (wr.alloc _).cell? _ = _
          simp
      refine wp_region_noPanic ?_
      refine wp_region_held_drew (S := (fun ww => ww.cell? ⟨x5, 0, .none⟩ = some (.pointer (some ⟨p, 0, .none⟩)) ∧ ww.cell? ⟨p, 2, .none⟩ = some (.map (some m)) ∧ ww.cell? ⟨wr.heap.size, 0, .none⟩ = some (.int .u64 (PA k)))) (by kernel_rfl) ⟨HV.out.1.box, HV.out.1.mem.c2, HV.out.2.1⟩ (fun hHeld => ?_)
      have eV : (wr.alloc (.cells #[.int .u64 (PA k), .slice (some ⟨db, dof, .none⟩) 4096 (C k)] 70)).drew.heap.size = wr.heap.size + 1 := by show (wr.alloc _).heap.size = _; simp
      generalize (wr.alloc (.cells #[.int .u64 (PA k), .slice (some ⟨db, dof, .none⟩) 4096 (C k)] 70)).drew = V at *
      generalize hfb : wr.heap.size = fb at *
      refine wpAnyH_take (i := 0) (v := (.pointer (some ⟨p, 0, .none⟩))) rfl (by kernel_rfl) (by kernel_rfl) (by kernel_rfl) (fun _ _ _ h => h) (Or.inl ⟨by rfl, fun ww hSw => by (try dsimp only at hSw); obtain ⟨q0, q1, q2⟩ := hSw; go_simp⟩) (by assumption) ?_
      simp only [Act.put, List.setIfInBounds_toArray, List.set_cons_zero, List.set_cons_succ, List.getElem_toArray, List.getElem_cons_succ, List.getElem_cons_zero]
      refine wpAnyH_take (i := 1) (v := (.pointer (some ⟨p, 0, .none⟩))) rfl (by kernel_rfl) (by kernel_rfl) (by kernel_rfl) (fun _ _ _ h => h) (Or.inl ⟨by rfl, fun ww hSw => by (try dsimp only at hSw); go_simp⟩) (by assumption) ?_
      simp only [Act.put, List.setIfInBounds_toArray, List.set_cons_zero, List.set_cons_succ, List.getElem_toArray, List.getElem_cons_succ, List.getElem_cons_zero]
      refine wpAnyH_take (i := 2) (v := (.pointer (some ⟨p, 2, .none⟩))) rfl (by kernel_rfl) (by kernel_rfl) (by kernel_rfl) (fun _ _ _ h => h) (Or.inl ⟨by rfl, fun ww hSw => by (try dsimp only at hSw); go_simp⟩) (by assumption) ?_
      simp only [Act.put, List.setIfInBounds_toArray, List.set_cons_zero, List.set_cons_succ, List.getElem_toArray, List.getElem_cons_succ, List.getElem_cons_zero]
      refine wpAnyH_take (i := 3) (v := (.map (some m))) rfl (by kernel_rfl) (by kernel_rfl) (by kernel_rfl) (fun _ _ _ h => h) (Or.inl ⟨by rfl, fun ww hSw => by (try dsimp only at hSw); obtain ⟨q0, q1, q2⟩ := hSw; go_simp⟩) (by assumption) ?_
      simp only [Act.put, List.setIfInBounds_toArray, List.set_cons_zero, List.set_cons_succ, List.getElem_toArray, List.getElem_cons_succ, List.getElem_cons_zero]
      refine wpAnyH_take (i := 4) (v := (.pointer (some ⟨fb, 0, .none⟩))) rfl (by kernel_rfl) (by kernel_rfl) (by kernel_rfl) (fun _ _ _ h => h) (Or.inl ⟨by rfl, fun ww hSw => by (try dsimp only at hSw); go_simp⟩) (by assumption) ?_
      simp only [Act.put, List.setIfInBounds_toArray, List.set_cons_zero, List.set_cons_succ, List.getElem_toArray, List.getElem_cons_succ, List.getElem_cons_zero]
      refine wpAnyH_take (i := 5) (v := (.int .u64 (PA k))) rfl (by kernel_rfl) (by kernel_rfl) (by kernel_rfl) (fun _ _ _ h => h) (Or.inl ⟨by rfl, fun ww hSw => by (try dsimp only at hSw); obtain ⟨q0, q1, q2⟩ := hSw; go_simp⟩) (by assumption) ?_
      simp only [Act.put, List.setIfInBounds_toArray, List.set_cons_zero, List.set_cons_succ, List.getElem_toArray, List.getElem_cons_succ, List.getElem_cons_zero]
      refine wpAnyH_take (i := 6) (v := (.agg #[])) rfl (by kernel_rfl) (by kernel_rfl) (by kernel_rfl) (fun _ _ _ h => h) (Or.inl ⟨by rfl, fun ww hSw => by (try dsimp only at hSw); go_simp⟩) (by assumption) ?_
      simp only [Act.put, List.setIfInBounds_toArray, List.set_cons_zero, List.set_cons_succ, List.getElem_toArray, List.getElem_cons_succ, List.getElem_cons_zero]
      obtain ⟨Dm, hown, hhas, hsz⟩ := HV.out.1.mem.hm
      refine wpAnyH_ready (rs := [7]) (by kernel_rfl) (by simp) ?_
      refine AllReadyH.cons rfl (fun K hK => ?_) AllReadyH.nil
      refine step_mapUpdate_in rfl (.tmp 34) (.tmp 36) (.tmp 37) 58 rfl 26 77 law22 Try.underlying58 unitElem m _ Dm (by simp [Act.eval]) hown (by rw [hsz]; simp only [maxLen]; omega) (.int .u64 (PA k)) (.agg #[]) _ (by simp [Act.eval]) (by simp [Act.eval]) (Maps.keyOf_int_mk Try.underlying26 (WalkArith.wf_u64 (by have := hP k; omega))) _ [] unitElem_mk ?_
      intro w4 hown4 hturn
      obtain ⟨hstep, hm4, hblk⟩ := HV.out.1.step hfr hfresh (hP k) (hDb k) hown hhas hsz hown4 hturn
      have nm : ∀ {x : Addr} {v : Value}, V.cell? x = some v → w4.cell? x = some v := fun {x v} hc => (World.cell?_of_block (hblk x.block (lt_of_cell hc) (map_ne hown hc))).trans hc
      have n0 := nm HV.out.1.box
      have n2 := nm HV.out.1.mem.c2
      have n3 := nm HV.out.2.1
      have n4 := nm HV.out.2.2
      have nfb : fb ≠ b := fun e => by
        have h1 := HV.out.2.1
        rw [e, HV.out.1.mem.cb 0 (by omega)] at h1
        cases h1
      have ndb : db ≠ b := by have := HV.out.1.ge; omega
      have hd4 : ∀ j, j < 4096 → w4.cell? ⟨db, dof + j, .none⟩ = some (.int .u8 (D k j)) := fun j hj => nm ((HV.out.1.be.cell ldb).trans (hdat j hj))
      have HS : Hid (Hi W (w4.setCells b (fi (PA k) * 4096) ((row4 (D k)).map (.int .u8))) p b m x5 n qf nf cf PA D (k + 1)) := hstep
      have HM4 : Hid (Mem w4 p b m n (hbm PA D k) 0 (among PA (k + 1)) (k + 1)) := hm4
      clear hstep hm4 hblk nm hown4 hturn hown hhas hsz Dm HV HI hdat a0 a1
      refine hK.out _ _ ⟨n0, n2, n3⟩ (fun hHeld => ?_)
      clear hK K
      try simp only [Act.put, List.setIfInBounds_toArray, List.set_cons_zero, List.set_cons_succ, List.getElem_toArray, List.getElem_cons_succ, List.getElem_cons_zero]
      refine wpAnyH_done (by kernel_rfl) (NoPanic.normal ?_) _
      go_wp2_with fail
      refine wp_region_noPanic ?_
      refine wp_region_held_drew (S := (fun ww => ww.cell? ⟨x5, 0, .none⟩ = some (.pointer (some ⟨p, 0, .none⟩)) ∧ ww.cell? ⟨fb, 0, .none⟩ = some (.int .u64 (PA k)) ∧ ww.cell? ⟨fb, 1, .none⟩ = some (.slice (some ⟨db, dof, .none⟩) 4096 (C k)))) (by kernel_rfl) ⟨n0, n3, n4⟩ (fun hHeld => ?_)
      obtain ⟨f1, f2⟩ := fi_of hfr
      have c17 := frame_any (w := w4.drew) (HM4.out.keep rfl rfl rfl) (fi (PA k)) f1
      rw [← f2] at c17
      have hcp := fun ty => copy_frame (w := w4.drew) (HM4.out.keep rfl rfl rfl) (fi (PA k)) f1 db dof (C k) (D k) hd4 ndb ty
      have HS' : Hid (Hi W (w4.drew.setCells b (fi (PA k) * 4096) ((row4 (D k)).map (.int .u8))) p b m x5 n qf nf cf PA D (k + 1)) := hi_drew HS.out
      clear HS HM4 hd4 f2
      refine wpAnyH_take (i := 0) (v := (.pointer (some ⟨p, 0, .none⟩))) rfl (by kernel_rfl) (by kernel_rfl) (by kernel_rfl) (fun _ _ _ h => h) (Or.inl ⟨by rfl, fun ww hSw => by (try dsimp only at hSw); obtain ⟨q0, q1, q2⟩ := hSw; go_simp⟩) (by assumption) ?_
      simp only [Act.put, List.setIfInBounds_toArray, List.set_cons_zero, List.set_cons_succ, List.getElem_toArray, List.getElem_cons_succ, List.getElem_cons_zero]
      refine wpAnyH_take (i := 1) (v := (.pointer (some ⟨fb, 0, .none⟩))) rfl (by kernel_rfl) (by kernel_rfl) (by kernel_rfl) (fun _ _ _ h => h) (Or.inl ⟨by rfl, fun ww hSw => by (try dsimp only at hSw); go_simp⟩) (by assumption) ?_
      simp only [Act.put, List.setIfInBounds_toArray, List.set_cons_zero, List.set_cons_succ, List.getElem_toArray, List.getElem_cons_succ, List.getElem_cons_zero]
      refine wpAnyH_take (i := 2) (v := (.int .u64 (PA k))) rfl (by kernel_rfl) (by kernel_rfl) (by kernel_rfl) (fun _ _ _ h => h) (Or.inl ⟨by rfl, fun ww hSw => by (try dsimp only at hSw); obtain ⟨q0, q1, q2⟩ := hSw; go_simp⟩) (by assumption) ?_
      simp only [Act.put, List.setIfInBounds_toArray, List.set_cons_zero, List.set_cons_succ, List.getElem_toArray, List.getElem_cons_succ, List.getElem_cons_zero]
      refine wpAnyH_take (i := 4) (v := (.pointer (some ⟨fb, 1, .none⟩))) rfl (by kernel_rfl) (by kernel_rfl) (by kernel_rfl) (fun _ _ _ h => h) (Or.inl ⟨by rfl, fun ww hSw => by (try dsimp only at hSw); go_simp⟩) (by assumption) ?_
      simp only [Act.put, List.setIfInBounds_toArray, List.set_cons_zero, List.set_cons_succ, List.getElem_toArray, List.getElem_cons_succ, List.getElem_cons_zero]
      refine wpAnyH_take (i := 5) (v := (.slice (some ⟨db, dof, .none⟩) 4096 (C k))) rfl (by kernel_rfl) (by kernel_rfl) (by kernel_rfl) (fun _ _ _ h => h) (Or.inl ⟨by rfl, fun ww hSw => by (try dsimp only at hSw); obtain ⟨q0, q1, q2⟩ := hSw; go_simp⟩) (by assumption) ?_
      simp only [Act.put, List.setIfInBounds_toArray, List.set_cons_zero, List.set_cons_succ, List.getElem_toArray, List.getElem_cons_succ, List.getElem_cons_zero]
      refine wpAnyH_ready (rs := [3]) (by kernel_rfl) (by simp) ?_
      refine AllReadyH.cons rfl (fun K hK => ?_) AllReadyH.nil
      go_simp
      go_at_call 36
      refine c17.mono ?_
      rintro e w5 ⟨rfl, rfl⟩
      refine hK.out _ _ ⟨n0, n3, n4⟩ (fun hHeld => ?_)
      clear hK K
      try simp only [Act.put, List.setIfInBounds_toArray, List.set_cons_zero, List.set_cons_succ, List.getElem_toArray, List.getElem_cons_succ, List.getElem_cons_zero]
      refine wpAnyH_ready (rs := [6]) (by kernel_rfl) (by simp) ?_
      refine AllReadyH.cons rfl (fun K hK => ?_) AllReadyH.nil
      go_simp
      have t0 := HS'.out.box
      have t3 : (w4.drew.setCells b (fi (PA k) * 4096) ((row4 (D k)).map (.int .u8))).cell? ⟨fb, 0, .none⟩ = some (.int .u64 (PA k)) := (World.cell?_setCells_out b _ _ _ _ (fun e => absurd e nfb)).trans n3
      have t4 : (w4.drew.setCells b (fi (PA k) * 4096) ((row4 (D k)).map (.int .u8))).cell? ⟨fb, 1, .none⟩ = some (.slice (some ⟨db, dof, .none⟩) 4096 (C k)) := (World.cell?_setCells_out b _ _ _ _ (fun e => absurd e nfb)).trans n4
      refine hK.out _ _ ⟨t0, t3, t4⟩ (fun hHeld => ?_)
      clear hK K
      try simp only [Act.put, List.setIfInBounds_toArray, List.set_cons_zero, List.set_cons_succ, List.getElem_toArray, List.getElem_cons_succ, List.getElem_cons_zero]
      refine wpAnyH_done (by kernel_rfl) (NoPanic.normal ?_) _
      go_wp2
      exact ⟨⟨k + 1, by omega, by simp, HS'.out⟩, by simp [intOf]; omega⟩
    · obtain rfl : k = nh := by omega
      have im := HI.out.im
      go_wp2_with (first | (go_at_call 72; refine (backward_any qf nf cf _).mono ?_; rintro e w7 ⟨rfl, rfl⟩) | fail)
      have HU : Hid (Hi W (wr.alloc (.cells #[.slice qf nf cf] 37)) p b m x5 n qf nf cf PA D k) := HI.out.below ((Below.refl _ _).alloc (Nat.le_refl _) _)
      have hzU : (wr.alloc (.cells #[.slice qf nf cf] 37)).heap.size = wr.heap.size + 1 := by simp
      have hbU : (wr.alloc (.cells #[.slice qf nf cf] 37)).cell? ⟨wr.heap.size, 0, .none⟩ = some (.slice qf nf cf) := by simp
      have hMl := HI.out.mem
      have lp := hMl.plt
      have lbb := hMl.blt
      have lm := hMl.mlt
      have lx : x5 < wr.heap.size := lt_of_cell HI.out.box
      clear hMl im
      generalize hU : (wr.alloc (.cells #[.slice qf nf cf] 37)) = U at *
      generalize hBn : wr.heap.size = Bn at *
      clear hU
      obtain ⟨ge1, ge2, ge3, ge4⟩ := HU.out.ge
      have zW := HU.out.be.size
      refine (wpIn_wide (n := 3)).1 ?_
      refine wpIn_rangeFunc_ownG (α := Nat × Fin n) rfl (by omega) (gf := 78) (lb := #[.pointer (some ⟨Bn, 0, .none⟩)]) rfl trivial (enters_of Try.func78 (by kernel_rfl) rfl)
        (back_seq (gg F n h1) enc2 2 Bn qf nf cf F hcf hs.1 (enc_gg HH.out.2.2.2 h1) (KpF U.heap.size p b m) (fun A B kk hg => good_keep HH.out.1 ge1 ge2 ge3 (by omega) (by omega) (by omega) (by omega) zW kk hg) ⟨hbU, fs_keep HH.out.1 HU.out.be (Nat.le_refl _)⟩) KpF.trans (fun A l o o' hl' _ _ _ => KpF.put A o' hl') (Below.refl _ _) (fun _ => rfl)
        (IT W U.heap.size p b m x5 n k PA D) (fun _ _ _ => False) (IT.own W PA D (by omega) (by omega) (by omega) (by omega) zW) (fun _ _ _ _ _ hs _ _ => hs) ⟨HU.out.mem, HU.out.box, HU.out.be, Nat.le_refl _⟩
        (fun x => { tmps := #[.agg #[.int .i64 n, .slice qf nf cf, .slice qh k ch], .pointer (some ⟨W.heap.size, 0, .none⟩), .pointer none, .nilIface, .int .i64 0, .pointer (some ⟨x5, 0, .none⟩), undef, u7, undef, .int .u64 (2147483648 + (x.2.val : Int) * 4096), .pointer (some ⟨W.heap.size, 0, .none⟩), .int .i64 n, .bool true, .bool false, undef, .agg #[.int .i64 n, .slice qf nf cf, .slice qh k ch], .int .i64 0, .int .i64 0, .bool false, undef, undef, .pointer (some ⟨W.heap.size, 0, .none⟩), .int .i64 n, .pointer (some ⟨p, 0, .none⟩), .pointer (some ⟨W.heap.size, 2, .none⟩), .slice qh k ch, .int .i64 k, .int .i64 k, .bool false, u29, u30, u31, u32, u33, u34, u35, u36, u37, u38, u39, u40, u41, u42, u43, u44, u45, .pointer (some ⟨W.heap.size, 1, .none⟩), .slice qf nf cf, .func (.func 78) #[] #[.pointer (some ⟨Bn, 0, .none⟩)], .int .i64 (x.1 : Int), .int .u64 (2147483648 + (x.2.val : Int) * 4096), undef, undef, undef, undef], defers := [] }) ?assign ?body ?done ?stop
      case assign =>
        intro l x A K hK
        simp only [enc2]
        gi_wp2
        exact hK
      case body =>
        rintro l pre x A hI hlt
        have c19 := thread_any hI.mem x.2.val x.2.isLt
        have bx := hI.box
        have HIT : Hid (IT W U.heap.size p b m x5 n k PA D pre A) := hI
        have HX : Hid (∀ A', Mem A' p b m n (thr (sts (hbm PA D k) (pre.map fun x => x.2.val)).1 x.2.val (sts (hbm PA D k) (pre.map fun x => x.2.val)).2) (2147483648 + (x.2.val : Int) * 4096) (among PA k) k → Fra p b m A A' → KeepsFrom U.heap.size A A' ∧ KpF U.heap.size p b m A A' ∧ IT W U.heap.size p b m x5 n k PA D (pre ++ [x]) A') := fun A' a c => hI.step x a c (by omega) (by omega) (by omega) ge1 ge2 ge3
        clear hI
        generalize (x.2.val : Int) = xv at *
        generalize (2147483648 + xv * 4096) = xa at *
        gi_wp2_with (first | (refine ⟨trivial, fun h => (by cases h), ?_⟩; gi_at_call 43; refine (CallsIn.inRound l (callsIn_wide.2 c19)).mono ?_; rintro e A' ⟨⟨v, rfl⟩, hm', f'⟩) | (refine ⟨trivial, ?_⟩; gi_at_call 43; refine (CallsIn.inRound l (callsIn_wide.2 c19)).mono ?_; rintro e A' ⟨⟨v, rfl⟩, hm', f'⟩))
        exact HX.out _ hm' f'
      case stop =>
        rintro D' c pre A _ _ h
        exact h.elim
      case done =>
        rintro D' xs A hD' rfl hI hK
        have bx := hI.box
        have HIT : Hid (IT W U.heap.size p b m x5 n k PA D (dn (gg F n h1) nf nf) A) := hI
        clear hI
        go_wp2
        gi_wp2
        refine ⟨by simp, .inl ⟨_, _, rfl, run_takeDeferred hK, ?_⟩⟩
        have hO := IT.own W PA D (n := n) (k := k) (show p < U.heap.size by omega) (show b < U.heap.size by omega) (show m < U.heap.size by omega) (show x5 < U.heap.size by omega) zW
        have hI2 := hO.putObj (.deferred none) HIT.out hD' hK rfl
        exact ⟨.tuple #[.pointer (some ⟨p, 0, .none⟩), .nilIface], by simp [results, Try.results59, go_sem], hI2.out HH.out.2.2.2 h1 ge1 ge2 ge3⟩
end Go.Proofs.Ytnghcadhilfgnaa
