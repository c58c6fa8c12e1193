import Derived.Test.YtnlbomggadflmabSx
import Derived.Test.YtnlbomggadflmabLf
import Derived.Test.YtnlbomggadflmabLg
import Derived.Deep.DeepCutAuto
namespace Go.Proofs.Ytnlbomggadflmab
open Go.RowKit
set_option linter.unusedVariables false
set_option linter.unusedSimpArgs false
set_option maxRecDepth 100000
section
variable {w : World}
set_option maxHeartbeats 8000000 in
theorem plays_walk {q0 : Option Addr} {m0 c0 : Nat} {A : Nat → Int × Pr} (h0 : ArgS w q0 m0 c0 A) (nx0 : Int) {q : Option Addr} {m c : Nat} {O : Nat → Opr} (h : ArgO w q m c O) : Calls Try.prog 4 #[.agg #[.slice q0 m0 c0, .int .i64 nx0], .slice q m c] w fun e w' => e = .returned (.bool true) ∧ Below w.heap.size w w' := by
  have hml : m ≤ 9223372036854775807 := by have := h.lc; have h2 : c ≤ 9223372036854775807 := this.2; omega
  have HA : Hid (ArgO w q m c O) := h
  clear h
  obtain ⟨B, hBB⟩ : ∃ B, B = w.heap.size := ⟨_, rfl⟩
  have HBw : Hid (B = w.heap.size) := hBB
  have HB : Hid (Below w.heap.size w (w.alloc (.cells #[.slice q0 m0 c0, .int .i64 nx0] 44))) := below1 _ _
  have k1 := table_any h0 HB.out nx0
  clear h0 hBB
  go_enter Try.func4, Try.ntmps4
  go_wp2_with fail
  refine k1.mono ?_
  rintro e w1 ⟨⟨P0, rfl⟩, hb1⟩
  have H1 : Hid (Below w.heap.size w w1) := HB.out.trans (hb1.mono HB.out.size)
  clear k1 hb1 HB
  have k2 := lfrom_any (P := P0) (nx := nx0) w1
  obtain ⟨T0, hT0⟩ : ∃ T, T = (tl P0 nx0).toArray := ⟨_, rfl⟩
  rw [← hT0] at k2 ⊢
  clear hT0
  go_wp2_with fail
  refine k2.mono ?_
  rintro e w2 ⟨hb2, hm⟩
  have H2 : Hid (Below w.heap.size w w2) := H1.out.trans (hb2.mono H1.out.size)
  have hws : w.heap.size ≤ w1.heap.size := H1.out.size
  have hws2 : w1.heap.size ≤ w2.heap.size := hb2.size
  clear k2 hb2 H1
  rcases hm with ⟨hI, rfl⟩ | ⟨hI, p, t0, r, rfl, hp, cp0, cp1, cpf, hTt, hTr, ht, hr, ne1, ne2, ne3⟩
  · go_wp2
    go_ret
    exact ⟨rfl, H2.out⟩
  · have H3 : Hid (∃ t P nx, Pa B w2 p t r P nx ∧ Below B w w2 ∧ B ≤ w2.heap.size) := ⟨t0, P0, nx0, ⟨hTt, hTr, hI, cp0, cp1, cpf, ⟨ne1, fun e => ne2 e.symm, fun e => ne3 e.symm⟩, ⟨by rw [HBw.out]; omega, by rw [HBw.out]; omega, by rw [HBw.out]; omega⟩⟩, by rw [HBw.out]; exact H2.out, by rw [HBw.out]; omega⟩
    clear hI hp cp0 cp1 cpf hTt hTr ht hr ne1 ne2 ne3 H2 hws hws2
    go_wp2
    go_loopw [7] (fun i wr => ∃ n : Nat, n ≤ m ∧ i = .int .i64 n ∧ Hid (∃ t P nx, Pa B wr p t r P nx ∧ Below B w wr ∧ B ≤ wr.heap.size)) (fun i _ => (m - intOf i).toNat)
    case atStart => exact ⟨0, by omega, rfl, H3.out⟩
    case round =>
      obtain ⟨n, hn, rfl, HRR⟩ := hrel
      obtain ⟨t, P, nx, hR1, hR2, hR3⟩ := HRR.out
      have HR : Hid (Pa B wr p t r P nx ∧ Below B w wr ∧ B ≤ wr.heap.size) := ⟨hR1, hR2, hR3⟩
      clear HRR hR1 hR2 hR3
      go_upto_region 5 with fail
      go_cut [24] (fun s wc => s = .bool (decide (n < m ∧ n < 400)) ∧ wc = wr)
      case first =>
        by_cases h1 : n < m
        · have g1 : (n : Int) < m := by omega
          by_cases h2 : n < 400
          · have g2 : (n : Int) < 400 := by omega
            have HE : Hid (decide (n < m ∧ n < 400) = true) := decide_eq_true ⟨h1, h2⟩
            go_wp2
            go_meet
            case rel => exact ⟨by rw [HE.out], rfl⟩
          · have g2 : ¬ (n : Int) < 400 := by omega
            have HE : Hid (decide (n < m ∧ n < 400) = false) := decide_eq_false (fun h => h2 h.2)
            go_wp2
            go_meet
            case rel => exact ⟨by rw [HE.out], rfl⟩
        · have g1 : ¬ (n : Int) < m := by omega
          have HE : Hid (decide (n < m ∧ n < 400) = false) := decide_eq_false (fun h => h1 h.1)
          go_wp2
          go_meet
          case rel => exact ⟨by rw [HE.out], rfl⟩
      case rest =>
        obtain ⟨rfl, hwc⟩ := hcut
        obtain rfl : wr = wc := hwc.symm
        by_cases hlt : n < m ∧ n < 400
        · rw [decide_eq_true hlt]
          obtain ⟨hlt, _⟩ := hlt
          have g0 : (n : Int) < m := by omega
          obtain ⟨ab, ao, rfl, c0, c1, c2, c3, c4⟩ := HA.out.cells (HBw.out ▸ HR.out.2.1) n hlt
          have hab : ab < B := by
            rcases HA.out.at' with e | ⟨b', o', e, hb, _⟩
            · omega
            · injection e with e; injection e with e1 e2; rw [HBw.out, e1]; exact hb
          go_upto_region 7 with fail
          refine wp_region_held_drew (S := (fun W => W.cell? ⟨ab, ao + n * 5, .none⟩ = some (.int .i64 (O n).k) ∧ W.cell? ⟨ab, ao + n * 5 + 1, .none⟩ = some (.int .i64 (O n).s) ∧ W.cell? ⟨ab, ao + n * 5 + 2, .none⟩ = some (.int .i64 (O n).ck) ∧ W.cell? ⟨ab, ao + n * 5 + 3, .none⟩ = some (.int .i64 (O n).cn) ∧ W.cell? ⟨ab, ao + n * 5 + 4, .none⟩ = some (.int .i32 (O n).sta) ∧ W.cell? ⟨p, 1, .none⟩ = some (.pointer (some ⟨r, 0, .none⟩)))) (by kernel_rfl) ⟨c0, c1, c2, c3, c4, HR.out.1.c1⟩ (fun hHeld => ?_)
          refine wpAnyH_take (i := 0) (v := (.pointer (some ⟨p, 0, .none⟩))) rfl (by kernel_rfl) (by kernel_rfl) (by kernel_rfl) (fun _ _ _ h => h) (Or.inl ⟨by rfl, fun ww hSw => by (try dsimp only at hSw); obtain ⟨s0, s1, s2, s3, s4, s5⟩ := hSw; go_simp⟩) (by assumption) ?_
          simp only [Act.put, List.setIfInBounds_toArray, List.set_cons_zero, List.set_cons_succ, List.getElem_toArray, List.getElem_cons_succ, List.getElem_cons_zero]
          refine wpAnyH_take (i := 1) (v := (.slice (some ⟨ab, ao, .none⟩) m c)) rfl (by kernel_rfl) (by kernel_rfl) (by kernel_rfl) (fun _ _ _ h => h) (Or.inl ⟨by rfl, fun ww hSw => by (try dsimp only at hSw); obtain ⟨s0, s1, s2, s3, s4, s5⟩ := hSw; go_simp⟩) (by assumption) ?_
          simp only [Act.put, List.setIfInBounds_toArray, List.set_cons_zero, List.set_cons_succ, List.getElem_toArray, List.getElem_cons_succ, List.getElem_cons_zero]
          refine wpAnyH_take (i := 2) (v := (.int .i64 (n : Int))) rfl (by kernel_rfl) (by kernel_rfl) (by kernel_rfl) (fun _ _ _ h => h) (Or.inl ⟨by rfl, fun ww hSw => by (try dsimp only at hSw); obtain ⟨s0, s1, s2, s3, s4, s5⟩ := hSw; go_simp⟩) (by assumption) ?_
          simp only [Act.put, List.setIfInBounds_toArray, List.set_cons_zero, List.set_cons_succ, List.getElem_toArray, List.getElem_cons_succ, List.getElem_cons_zero]
          refine wpAnyH_take (i := 3) (v := (.pointer (some ⟨ab, ao + n * 5, .none⟩))) rfl (by kernel_rfl) (by kernel_rfl) (by kernel_rfl) (fun _ _ _ h => h) (Or.inl ⟨by rfl, fun ww hSw => by (try dsimp only at hSw); obtain ⟨s0, s1, s2, s3, s4, s5⟩ := hSw; go_simp⟩) (by assumption) ?_
          simp only [Act.put, List.setIfInBounds_toArray, List.set_cons_zero, List.set_cons_succ, List.getElem_toArray, List.getElem_cons_succ, List.getElem_cons_zero]
          refine wpAnyH_take (i := 4) (v := (.agg #[.int .i64 (O n).k, .int .i64 (O n).s, .int .i64 (O n).ck, .int .i64 (O n).cn, .int .i32 (O n).sta])) rfl (by kernel_rfl) (by kernel_rfl) (by kernel_rfl) (fun _ _ _ h => h) (Or.inl ⟨by rfl, fun ww hSw => by (try dsimp only at hSw); obtain ⟨s0, s1, s2, s3, s4, s5⟩ := hSw; go_simp⟩) (by assumption) ?_
          simp only [Act.put, List.setIfInBounds_toArray, List.set_cons_zero, List.set_cons_succ, List.getElem_toArray, List.getElem_cons_succ, List.getElem_cons_zero]
          refine wpAnyH_ready (rs := [5]) (by kernel_rfl) (by simp) ?_
          refine AllReadyH.cons rfl (fun K hK => ?_) AllReadyH.nil
          have HP0 : Pa B wr.drew p t r P nx := ⟨HR.out.1.tT.keep rfl, HR.out.1.tR.keep rfl, HR.out.1.i, HR.out.1.c0, HR.out.1.c1, HR.out.1.f0, HR.out.1.ne, HR.out.1.le⟩
          have hbs : B ≤ wr.drew.heap.size := HR.out.2.2
          have kk := step_any HP0 hbs (O n)
          rw [Opr.l] at kk
          go_simp
          refine kk.mono ?_
          rintro e w2 ⟨rfl, t2, P2, n2, hP2, hb2⟩
          have HN : Pa B w2 p t2 r P2 n2 ∧ Below B w w2 ∧ B ≤ w2.heap.size := ⟨hP2, HR.out.2.1.trans ⟨hb2.os, hb2.tape, hb2.output, hb2.size, hb2.block⟩, Nat.le_trans hbs hb2.size⟩
          have kS : (w2.cell? ⟨ab, ao + n * 5, .none⟩ = some (.int .i64 (O n).k) ∧ w2.cell? ⟨ab, ao + n * 5 + 1, .none⟩ = some (.int .i64 (O n).s) ∧ w2.cell? ⟨ab, ao + n * 5 + 2, .none⟩ = some (.int .i64 (O n).ck) ∧ w2.cell? ⟨ab, ao + n * 5 + 3, .none⟩ = some (.int .i64 (O n).cn) ∧ w2.cell? ⟨ab, ao + n * 5 + 4, .none⟩ = some (.int .i32 (O n).sta) ∧ w2.cell? ⟨p, 1, .none⟩ = some (.pointer (some ⟨r, 0, .none⟩))) := ⟨(hb2.cell (p := ⟨ab, ao + n * 5, .none⟩) hab).trans hHeld.1, (hb2.cell (p := ⟨ab, ao + n * 5 + 1, .none⟩) hab).trans hHeld.2.1, (hb2.cell (p := ⟨ab, ao + n * 5 + 2, .none⟩) hab).trans hHeld.2.2.1, (hb2.cell (p := ⟨ab, ao + n * 5 + 3, .none⟩) hab).trans hHeld.2.2.2.1, (hb2.cell (p := ⟨ab, ao + n * 5 + 4, .none⟩) hab).trans hHeld.2.2.2.2.1, HN.1.c1⟩
          have H2 : Hid (Pa B w2 p t2 r P2 n2 ∧ Below B w w2 ∧ B ≤ w2.heap.size) := HN
          clear kk HP0 HN hP2 hb2
          refine hK.out _ _ kS (fun hHeld => ?_)
          clear hK K
          try simp only [Act.put, List.setIfInBounds_toArray, List.set_cons_zero, List.set_cons_succ, List.getElem_toArray, List.getElem_cons_succ, List.getElem_cons_zero]
          refine wpAnyH_take (i := 6) (v := (.bool false)) rfl (by kernel_rfl) (by kernel_rfl) (by kernel_rfl) (fun _ _ _ h => h) (Or.inl ⟨by rfl, fun ww hSw => by (try dsimp only at hSw); go_simp⟩) (by assumption) ?_
          simp only [Act.put, List.setIfInBounds_toArray, List.set_cons_zero, List.set_cons_succ, List.getElem_toArray, List.getElem_cons_succ, List.getElem_cons_zero]
          refine wpAnyH_take (i := 7) (v := (.bool false)) rfl (by kernel_rfl) (by kernel_rfl) (by kernel_rfl) (fun _ _ _ h => h) (Or.inl ⟨by rfl, fun ww hSw => by (try dsimp only at hSw); go_simp⟩) (by assumption) ?_
          simp only [Act.put, List.setIfInBounds_toArray, List.set_cons_zero, List.set_cons_succ, List.getElem_toArray, List.getElem_cons_succ, List.getElem_cons_zero]
          refine wpAnyH_take (i := 8) (v := (.pointer (some ⟨p, 0, .none⟩))) rfl (by kernel_rfl) (by kernel_rfl) (by kernel_rfl) (fun _ _ _ h => h) (Or.inl ⟨by rfl, fun ww hSw => by (try dsimp only at hSw); obtain ⟨s0, s1, s2, s3, s4, s5⟩ := hSw; go_simp⟩) (by assumption) ?_
          simp only [Act.put, List.setIfInBounds_toArray, List.set_cons_zero, List.set_cons_succ, List.getElem_toArray, List.getElem_cons_succ, List.getElem_cons_zero]
          refine wpAnyH_take (i := 9) (v := (.pointer (some ⟨p, 0, .none⟩))) rfl (by kernel_rfl) (by kernel_rfl) (by kernel_rfl) (fun _ _ _ h => h) (Or.inl ⟨by rfl, fun ww hSw => by (try dsimp only at hSw); obtain ⟨s0, s1, s2, s3, s4, s5⟩ := hSw; go_simp⟩) (by assumption) ?_
          simp only [Act.put, List.setIfInBounds_toArray, List.set_cons_zero, List.set_cons_succ, List.getElem_toArray, List.getElem_cons_succ, List.getElem_cons_zero]
          refine wpAnyH_take (i := 10) (v := (.pointer (some ⟨p, 0, .none⟩))) rfl (by kernel_rfl) (by kernel_rfl) (by kernel_rfl) (fun _ _ _ h => h) (Or.inl ⟨by rfl, fun ww hSw => by (try dsimp only at hSw); obtain ⟨s0, s1, s2, s3, s4, s5⟩ := hSw; go_simp⟩) (by assumption) ?_
          simp only [Act.put, List.setIfInBounds_toArray, List.set_cons_zero, List.set_cons_succ, List.getElem_toArray, List.getElem_cons_succ, List.getElem_cons_zero]
          refine wpAnyH_take (i := 13) (v := (.pointer (some ⟨p, 0, .none⟩))) rfl (by kernel_rfl) (by kernel_rfl) (by kernel_rfl) (fun _ _ _ h => h) (Or.inl ⟨by rfl, fun ww hSw => by (try dsimp only at hSw); obtain ⟨s0, s1, s2, s3, s4, s5⟩ := hSw; go_simp⟩) (by assumption) ?_
          simp only [Act.put, List.setIfInBounds_toArray, List.set_cons_zero, List.set_cons_succ, List.getElem_toArray, List.getElem_cons_succ, List.getElem_cons_zero]
          refine wpAnyH_take (i := 14) (v := (.pointer (some ⟨p, 0, .none⟩))) rfl (by kernel_rfl) (by kernel_rfl) (by kernel_rfl) (fun _ _ _ h => h) (Or.inl ⟨by rfl, fun ww hSw => by (try dsimp only at hSw); obtain ⟨s0, s1, s2, s3, s4, s5⟩ := hSw; go_simp⟩) (by assumption) ?_
          simp only [Act.put, List.setIfInBounds_toArray, List.set_cons_zero, List.set_cons_succ, List.getElem_toArray, List.getElem_cons_succ, List.getElem_cons_zero]
          refine wpAnyH_take (i := 15) (v := (.pointer (some ⟨p, 1, .none⟩))) rfl (by kernel_rfl) (by kernel_rfl) (by kernel_rfl) (fun _ _ _ h => h) (Or.inl ⟨by rfl, fun ww hSw => by (try dsimp only at hSw); obtain ⟨s0, s1, s2, s3, s4, s5⟩ := hSw; go_simp⟩) (by assumption) ?_
          simp only [Act.put, List.setIfInBounds_toArray, List.set_cons_zero, List.set_cons_succ, List.getElem_toArray, List.getElem_cons_succ, List.getElem_cons_zero]
          refine wpAnyH_take (i := 16) (v := (.pointer (some ⟨r, 0, .none⟩))) rfl (by kernel_rfl) (by kernel_rfl) (by kernel_rfl) (fun _ _ _ h => h) (Or.inl ⟨by rfl, fun ww hSw => by (try dsimp only at hSw); obtain ⟨s0, s1, s2, s3, s4, s5⟩ := hSw; go_simp⟩) (by assumption) ?_
          simp only [Act.put, List.setIfInBounds_toArray, List.set_cons_zero, List.set_cons_succ, List.getElem_toArray, List.getElem_cons_succ, List.getElem_cons_zero]
          refine wpAnyH_ready (rs := [11]) (by kernel_rfl) (by simp) ?_
          refine AllReadyH.cons rfl (fun K hK => ?_) AllReadyH.nil
          have cp := H2.out.1.c0
          go_simp
          refine hK.out _ _ hHeld (fun hHeld => ?_)
          clear hK K
          try simp only [Act.put, List.setIfInBounds_toArray, List.set_cons_zero, List.set_cons_succ, List.getElem_toArray, List.getElem_cons_succ, List.getElem_cons_zero]
          refine wpAnyH_ready (rs := [12]) (by kernel_rfl) (by simp) ?_
          refine AllReadyH.cons rfl (fun K hK => ?_) AllReadyH.nil
          obtain ⟨T, hTT⟩ : ∃ T, T = (tl P2 n2).toArray := ⟨_, rfl⟩
          have HTT : Hid (T = (tl P2 n2).toArray) := hTT
          have kk := state_any H2.out.1.tT H2.out.1.i.n1
          rw [← hTT] at kk
          clear hTT cp
          go_simp
          refine kk.mono ?_
          rintro e w3 ⟨rfl, hb3⟩
          have HN : Pa B w3 p t2 r P2 n2 ∧ Below B w w3 ∧ B ≤ w3.heap.size := ⟨H2.out.1.bel hb3, H2.out.2.1.trans (hb3.mono H2.out.2.2), Nat.le_trans H2.out.2.2 hb3.size⟩
          have hb3' := hb3.mono H2.out.2.2
          have kS : (w3.cell? ⟨ab, ao + n * 5, .none⟩ = some (.int .i64 (O n).k) ∧ w3.cell? ⟨ab, ao + n * 5 + 1, .none⟩ = some (.int .i64 (O n).s) ∧ w3.cell? ⟨ab, ao + n * 5 + 2, .none⟩ = some (.int .i64 (O n).ck) ∧ w3.cell? ⟨ab, ao + n * 5 + 3, .none⟩ = some (.int .i64 (O n).cn) ∧ w3.cell? ⟨ab, ao + n * 5 + 4, .none⟩ = some (.int .i32 (O n).sta) ∧ w3.cell? ⟨p, 1, .none⟩ = some (.pointer (some ⟨r, 0, .none⟩))) := ⟨(hb3'.cell (p := ⟨ab, ao + n * 5, .none⟩) hab).trans hHeld.1, (hb3'.cell (p := ⟨ab, ao + n * 5 + 1, .none⟩) hab).trans hHeld.2.1, (hb3'.cell (p := ⟨ab, ao + n * 5 + 2, .none⟩) hab).trans hHeld.2.2.1, (hb3'.cell (p := ⟨ab, ao + n * 5 + 3, .none⟩) hab).trans hHeld.2.2.2.1, (hb3'.cell (p := ⟨ab, ao + n * 5 + 4, .none⟩) hab).trans hHeld.2.2.2.2.1, HN.1.c1⟩
          have H3 : Hid (Pa B w3 p t2 r P2 n2 ∧ Below B w w3 ∧ B ≤ w3.heap.size) := HN
          clear kk HN hb3 hb3' H2
          refine hK.out _ _ kS (fun hHeld => ?_)
          clear hK K
          try simp only [Act.put, List.setIfInBounds_toArray, List.set_cons_zero, List.set_cons_succ, List.getElem_toArray, List.getElem_cons_succ, List.getElem_cons_zero]
          refine wpAnyH_ready (rs := [17]) (by kernel_rfl) (by simp) ?_
          refine AllReadyH.cons rfl (fun K hK => ?_) AllReadyH.nil
          have kk := rstate_any H3.out.1.tR H3.out.1.i.n1
          rw [← HTT.out] at kk
          go_simp
          refine kk.mono ?_
          rintro e w4 ⟨rfl, hb4⟩
          have HN : Pa B w4 p t2 r P2 n2 ∧ Below B w w4 ∧ B ≤ w4.heap.size := ⟨H3.out.1.bel hb4, H3.out.2.1.trans (hb4.mono H3.out.2.2), Nat.le_trans H3.out.2.2 hb4.size⟩
          have hb4' := hb4.mono H3.out.2.2
          have kS : (w4.cell? ⟨ab, ao + n * 5, .none⟩ = some (.int .i64 (O n).k) ∧ w4.cell? ⟨ab, ao + n * 5 + 1, .none⟩ = some (.int .i64 (O n).s) ∧ w4.cell? ⟨ab, ao + n * 5 + 2, .none⟩ = some (.int .i64 (O n).ck) ∧ w4.cell? ⟨ab, ao + n * 5 + 3, .none⟩ = some (.int .i64 (O n).cn) ∧ w4.cell? ⟨ab, ao + n * 5 + 4, .none⟩ = some (.int .i32 (O n).sta) ∧ w4.cell? ⟨p, 1, .none⟩ = some (.pointer (some ⟨r, 0, .none⟩))) := ⟨(hb4'.cell (p := ⟨ab, ao + n * 5, .none⟩) hab).trans hHeld.1, (hb4'.cell (p := ⟨ab, ao + n * 5 + 1, .none⟩) hab).trans hHeld.2.1, (hb4'.cell (p := ⟨ab, ao + n * 5 + 2, .none⟩) hab).trans hHeld.2.2.1, (hb4'.cell (p := ⟨ab, ao + n * 5 + 3, .none⟩) hab).trans hHeld.2.2.2.1, (hb4'.cell (p := ⟨ab, ao + n * 5 + 4, .none⟩) hab).trans hHeld.2.2.2.2.1, HN.1.c1⟩
          have H4 : Hid (Pa B w4 p t2 r P2 n2 ∧ Below B w w4 ∧ B ≤ w4.heap.size) := HN
          clear kk HN hb4 hb4' H3
          refine hK.out _ _ kS (fun hHeld => ?_)
          clear hK K
          try simp only [Act.put, List.setIfInBounds_toArray, List.set_cons_zero, List.set_cons_succ, List.getElem_toArray, List.getElem_cons_succ, List.getElem_cons_zero]
          refine wpAnyH_take (i := 18) (v := (.bool false)) rfl (by kernel_rfl) (by kernel_rfl) (by kernel_rfl) (fun _ _ _ h => h) (yieldsIf_neqT (by rfl) _ (.tmp 39) (.tmp 44) rfl P2 n2 T HTT.out rfl rfl) (by assumption) ?_
          simp only [Act.put, List.setIfInBounds_toArray, List.set_cons_zero, List.set_cons_succ, List.getElem_toArray, List.getElem_cons_succ, List.getElem_cons_zero]
          refine wpAnyH_take (i := 19) (v := (.bool false)) rfl (by kernel_rfl) (by kernel_rfl) (by kernel_rfl) (fun _ _ _ h => h) (Or.inl ⟨by rfl, fun ww hSw => by (try dsimp only at hSw); go_simp⟩) (by assumption) ?_
          simp only [Act.put, List.setIfInBounds_toArray, List.set_cons_zero, List.set_cons_succ, List.getElem_toArray, List.getElem_cons_succ, List.getElem_cons_zero]
          refine wpAnyH_take (i := 20) (v := (.bool false)) rfl (by kernel_rfl) (by kernel_rfl) (by kernel_rfl) (fun _ _ _ h => h) (Or.inl ⟨by rfl, fun ww hSw => by (try dsimp only at hSw); go_simp⟩) (by assumption) ?_
          simp only [Act.put, List.setIfInBounds_toArray, List.set_cons_zero, List.set_cons_succ, List.getElem_toArray, List.getElem_cons_succ, List.getElem_cons_zero]
          refine wpAnyH_take (i := 21) (v := (.pointer (some ⟨p, 0, .none⟩))) rfl (by kernel_rfl) (by kernel_rfl) (by kernel_rfl) (fun _ _ _ h => h) (Or.inl ⟨by rfl, fun ww hSw => by (try dsimp only at hSw); obtain ⟨s0, s1, s2, s3, s4, s5⟩ := hSw; go_simp⟩) (by assumption) ?_
          simp only [Act.put, List.setIfInBounds_toArray, List.set_cons_zero, List.set_cons_succ, List.getElem_toArray, List.getElem_cons_succ, List.getElem_cons_zero]
          refine wpAnyH_take (i := 22) (v := (.slice (some ⟨ab, ao, .none⟩) m c)) rfl (by kernel_rfl) (by kernel_rfl) (by kernel_rfl) (fun _ _ _ h => h) (Or.inl ⟨by rfl, fun ww hSw => by (try dsimp only at hSw); obtain ⟨s0, s1, s2, s3, s4, s5⟩ := hSw; go_simp⟩) (by assumption) ?_
          simp only [Act.put, List.setIfInBounds_toArray, List.set_cons_zero, List.set_cons_succ, List.getElem_toArray, List.getElem_cons_succ, List.getElem_cons_zero]
          refine wpAnyH_take (i := 23) (v := (.int .i64 (n : Int))) rfl (by kernel_rfl) (by kernel_rfl) (by kernel_rfl) (fun _ _ _ h => h) (Or.inl ⟨by rfl, fun ww hSw => by (try dsimp only at hSw); obtain ⟨s0, s1, s2, s3, s4, s5⟩ := hSw; go_simp⟩) (by assumption) ?_
          simp only [Act.put, List.setIfInBounds_toArray, List.set_cons_zero, List.set_cons_succ, List.getElem_toArray, List.getElem_cons_succ, List.getElem_cons_zero]
          refine wpAnyH_take (i := 24) (v := (.pointer (some ⟨ab, ao + n * 5, .none⟩))) rfl (by kernel_rfl) (by kernel_rfl) (by kernel_rfl) (fun _ _ _ h => h) (Or.inl ⟨by rfl, fun ww hSw => by (try dsimp only at hSw); obtain ⟨s0, s1, s2, s3, s4, s5⟩ := hSw; go_simp⟩) (by assumption) ?_
          simp only [Act.put, List.setIfInBounds_toArray, List.set_cons_zero, List.set_cons_succ, List.getElem_toArray, List.getElem_cons_succ, List.getElem_cons_zero]
          refine wpAnyH_take (i := 25) (v := (.pointer (some ⟨ab, ao + n * 5 + 1, .none⟩))) rfl (by kernel_rfl) (by kernel_rfl) (by kernel_rfl) (fun _ _ _ h => h) (Or.inl ⟨by rfl, fun ww hSw => by (try dsimp only at hSw); obtain ⟨s0, s1, s2, s3, s4, s5⟩ := hSw; go_simp⟩) (by assumption) ?_
          simp only [Act.put, List.setIfInBounds_toArray, List.set_cons_zero, List.set_cons_succ, List.getElem_toArray, List.getElem_cons_succ, List.getElem_cons_zero]
          refine wpAnyH_take (i := 26) (v := (.int .i64 (O n).s)) rfl (by kernel_rfl) (by kernel_rfl) (by kernel_rfl) (fun _ _ _ h => h) (Or.inl ⟨by rfl, fun ww hSw => by (try dsimp only at hSw); obtain ⟨s0, s1, s2, s3, s4, s5⟩ := hSw; go_simp⟩) (by assumption) ?_
          simp only [Act.put, List.setIfInBounds_toArray, List.set_cons_zero, List.set_cons_succ, List.getElem_toArray, List.getElem_cons_succ, List.getElem_cons_zero]
          refine wpAnyH_take (i := 27) (v := (.agg #[.int .i64 10, .int .i64 (O n).s, .int .i64 0, .int .i64 0, .int .i32 0])) rfl (by kernel_rfl) (by kernel_rfl) (by kernel_rfl) (fun _ _ _ h => h) (Or.inl ⟨by rfl, fun ww hSw => by (try dsimp only at hSw); go_simp⟩) (by assumption) ?_
          simp only [Act.put, List.setIfInBounds_toArray, List.set_cons_zero, List.set_cons_succ, List.getElem_toArray, List.getElem_cons_succ, List.getElem_cons_zero]
          refine wpAnyH_ready (rs := [28]) (by kernel_rfl) (by simp) ?_
          refine AllReadyH.cons rfl (fun K hK => ?_) AllReadyH.nil
          have kk := step_any H4.out.1 H4.out.2.2 ⟨10, (O n).s, 0, 0, 0⟩
          rw [Opr.l] at kk
          dsimp only at kk
          go_simp
          refine kk.mono ?_
          rintro e w5 ⟨rfl, t3, P3, n3, hP3, hb5⟩
          have HN : Pa B w5 p t3 r P3 n3 ∧ Below B w w5 ∧ B ≤ w5.heap.size := ⟨hP3, H4.out.2.1.trans hb5, Nat.le_trans H4.out.2.2 hb5.size⟩
          have kS : (w5.cell? ⟨ab, ao + n * 5, .none⟩ = some (.int .i64 (O n).k) ∧ w5.cell? ⟨ab, ao + n * 5 + 1, .none⟩ = some (.int .i64 (O n).s) ∧ w5.cell? ⟨ab, ao + n * 5 + 2, .none⟩ = some (.int .i64 (O n).ck) ∧ w5.cell? ⟨ab, ao + n * 5 + 3, .none⟩ = some (.int .i64 (O n).cn) ∧ w5.cell? ⟨ab, ao + n * 5 + 4, .none⟩ = some (.int .i32 (O n).sta) ∧ w5.cell? ⟨p, 1, .none⟩ = some (.pointer (some ⟨r, 0, .none⟩))) := ⟨(hb5.cell (p := ⟨ab, ao + n * 5, .none⟩) hab).trans hHeld.1, (hb5.cell (p := ⟨ab, ao + n * 5 + 1, .none⟩) hab).trans hHeld.2.1, (hb5.cell (p := ⟨ab, ao + n * 5 + 2, .none⟩) hab).trans hHeld.2.2.1, (hb5.cell (p := ⟨ab, ao + n * 5 + 3, .none⟩) hab).trans hHeld.2.2.2.1, (hb5.cell (p := ⟨ab, ao + n * 5 + 4, .none⟩) hab).trans hHeld.2.2.2.2.1, HN.1.c1⟩
          have H5 : Hid (Pa B w5 p t3 r P3 n3 ∧ Below B w w5 ∧ B ≤ w5.heap.size) := HN
          clear kk HN hP3 hb5 H4
          refine hK.out _ _ kS (fun hHeld => ?_)
          clear hK K
          try simp only [Act.put, List.setIfInBounds_toArray, List.set_cons_zero, List.set_cons_succ, List.getElem_toArray, List.getElem_cons_succ, List.getElem_cons_zero]
          refine wpAnyH_take (i := 29) (v := (.bool false)) rfl (by kernel_rfl) (by kernel_rfl) (by kernel_rfl) (fun _ _ _ h => h) (Or.inl ⟨by rfl, fun ww hSw => by (try dsimp only at hSw); go_simp⟩) (by assumption) ?_
          simp only [Act.put, List.setIfInBounds_toArray, List.set_cons_zero, List.set_cons_succ, List.getElem_toArray, List.getElem_cons_succ, List.getElem_cons_zero]
          refine wpAnyH_take (i := 30) (v := (.bool false)) rfl (by kernel_rfl) (by kernel_rfl) (by kernel_rfl) (fun _ _ _ h => h) (Or.inl ⟨by rfl, fun ww hSw => by (try dsimp only at hSw); go_simp⟩) (by assumption) ?_
          simp only [Act.put, List.setIfInBounds_toArray, List.set_cons_zero, List.set_cons_succ, List.getElem_toArray, List.getElem_cons_succ, List.getElem_cons_zero]
          refine wpAnyH_done (by kernel_rfl) ?_ _
          clear hHeld kS
          go_wp2
          exact ⟨⟨n + 1, by omega, rfl, t3, P3, n3, H5.out⟩, by simp only [intOf]; omega⟩
        · rw [decide_eq_false hlt]
          go_wp2
          go_ret
          exact ⟨rfl, by rw [← HBw.out]; exact HR.out.2.1⟩
end
end Go.Proofs.Ytnlbomggadflmab
