import Derived.Test.YtnghcadhilfgnaaSA
namespace Go.Proofs.Ytnghcadhilfgnaa
open Go.RowKit
set_option linter.unusedVariables false
set_option linter.unusedSimpArgs false
theorem byt_nil (w : World) : Byt w .none 0 0 [] := ⟨rfl, Nat.le_refl _, Nat.zero_le _, .inl rfl⟩
theorem countR {Z : Nat} {x p b m q hb lb N : Nat} {fb : Nat → Nat} {B : Nat → Int} {L : List Nat} {w : World} (h : Pq Z w x p b m q hb fb lb N B L B L) : Calls Try.prog 6 #[.pointer (some ⟨p, 0, .none⟩)] w fun e w' => e = .returned (.int .i64 L.length) ∧ Below w.heap.size w w' := by
  have ll := length_le N L h.r.mem.n1 h.r.nd h.r.lt
  exact (count_any h.r.mem (Nat.sub_le _ _)).mono fun e V' ⟨a, k, c⟩ => ⟨by rw [a, show (N : Int) - ((N - L.length : Nat) : Int) = L.length by omega], by rw [c]; exact ⟨rfl, rfl, rfl, Nat.le_refl _, fun _ _ => rfl⟩⟩
set_option maxHeartbeats 8000000 in
set_option maxRecDepth 100000 in
theorem plays_any (frames : Int) (w : World) (sq : Option Addr) (sl sc : Nat) (K PA NN VV : Nat → Int) (SD : Nat → Option Addr) (LN CD : Nat → Nat) (XS : Nat → List Int) (hA : ArgO w sq sl sc K PA NN VV SD LN CD XS) : Calls Try.prog 3 #[.int .i64 frames, .slice sq sl sc] w fun e w' => e = .returned (.bool true) ∧ Below w.heap.size w w' := by
  have c4 := begin_any frames w
  have HA : Hid (ArgO w sq sl sc K PA NN VV SD LN CD XS) := hA
  have cap := hA.cap
  clear hA
  go_enter Try.func3, Try.ntmps3
  go_wp2_with (first | (go_at_call 4; refine c4.mono ?_; rintro e w1 ⟨x, N, rfl, hpl, hb1, hN⟩; have HP1 : Hid (Pl w.heap.size w1 x N ∧ Below w.heap.size w w1) := ⟨hpl, hb1⟩; clear hpl hb1 c4) | fail)
  go_loopw [6] (fun a wr => ∃ i : Nat, i ≤ sl ∧ i ≤ 400 ∧ a = .int .i64 i ∧ Hid (Pl w.heap.size wr x N ∧ Below w.heap.size w wr)) (fun a _ => (400 - intOf a).toNat)
  case atStart => exact ⟨0, by omega, by omega, rfl, HP1⟩
  case round =>
    obtain ⟨i, hi, hi4, rfl, HP⟩ := hrel
    by_cases hlt : i < sl ∧ i < 400
    · obtain ⟨hl1, hl2⟩ := hlt
      have g0 : (i : Int) < sl := by omega
      have g4 : (i : Int) < 400 := by omega
      obtain ⟨g, o, rfl, gl, hrow⟩ := HA.out.row.resolve_left (by omega)
      obtain ⟨r0, r1, r2, r3, r4⟩ := hrow i hl1
      have HR : Hid (∀ V, Below w.heap.size w V → V.cell? ⟨g, o + i * 5, .none⟩ = some (.int .i64 (K i)) ∧ V.cell? ⟨g, o + i * 5 + 1, .none⟩ = some (.int .u64 (PA i)) ∧ V.cell? ⟨g, o + i * 5 + 2, .none⟩ = some (.int .i64 (NN i)) ∧ V.cell? ⟨g, o + i * 5 + 3, .none⟩ = some (.int .u64 (VV i)) ∧ V.cell? ⟨g, o + i * 5 + 4, .none⟩ = some (.slice (SD i) (LN i) (CD i))) := fun V f => ⟨(f.cell gl).trans r0, (f.cell gl).trans r1, (f.cell gl).trans r2, (f.cell gl).trans r3, (f.cell gl).trans r4⟩
      have hbw : Below w.heap.size w wr.drew := HP.out.2.drew
      obtain ⟨p, b, m, q, hb, fb, lb, B, L, hP⟩ := HP.out.1
      have hsd : ∀ g' o', SD i = some ⟨g', o', .none⟩ → LN i ≠ 0 → g' < w.heap.size := fun g' o' e hne => by
        rcases (HA.out.dt i hl1).2.2.2 with h0 | ⟨b', o2, e', hb', _⟩
        · exact absurd h0 hne
        · rw [e] at e'
          simp only [Option.some.injEq, Addr.mk.injEq, and_true] at e'
          omega
      have c5 := step_any (hP.below ((Below.refl _ _).drew)) (K i) (PA i) (NN i) (VV i) (SD i) (LN i) (CD i) (XS i) (byt_keep0 (HA.out.dt i hl1) hbw (fun hz g' o' e => hsd g' o' e hz)) (HA.out.dl i hl1) (HA.out.db i hl1) (fun hz g' o' e => hsd g' o' e hz) (HA.out.pb i hl1) (HA.out.nb i hl1) (HA.out.vb i hl1)
      have j0 := HR.out wr.drew hbw
      clear hsd hP hrow r0 r1 r2 r3 r4 HP
      go_upto_region 7 with fail
      refine wp_region_held_drew (S := (fun V : World => V.cell? ⟨g, o + i * 5, .none⟩ = some (.int .i64 (K i)) ∧ V.cell? ⟨g, o + i * 5 + 1, .none⟩ = some (.int .u64 (PA i)) ∧ V.cell? ⟨g, o + i * 5 + 2, .none⟩ = some (.int .i64 (NN i)) ∧ V.cell? ⟨g, o + i * 5 + 3, .none⟩ = some (.int .u64 (VV i)) ∧ V.cell? ⟨g, o + i * 5 + 4, .none⟩ = some (.slice (SD i) (LN i) (CD i)))) (by kernel_rfl) j0 (fun hHeld => ?_)
      refine wpAnyH_take (i := 0) (v := (.pointer (some ⟨x, 0, .none⟩))) rfl (by kernel_rfl) (by kernel_rfl) (by kernel_rfl) (fun _ _ _ h => h) (Or.inl ⟨by rfl, fun ww hSw => by (try dsimp only at hSw); go_simp⟩) (by assumption) ?_
      simp only [Act.put, List.setIfInBounds_toArray, List.set_cons_zero, List.set_cons_succ, List.getElem_toArray, List.getElem_cons_succ, List.getElem_cons_zero]
      refine wpAnyH_take (i := 1) (v := (.slice (some ⟨g, o, .none⟩) sl sc)) rfl (by kernel_rfl) (by kernel_rfl) (by kernel_rfl) (fun _ _ _ h => h) (Or.inl ⟨by rfl, fun ww hSw => by (try dsimp only at hSw); go_simp⟩) (by assumption) ?_
      simp only [Act.put, List.setIfInBounds_toArray, List.set_cons_zero, List.set_cons_succ, List.getElem_toArray, List.getElem_cons_succ, List.getElem_cons_zero]
      refine wpAnyH_take (i := 2) (v := (.int .i64 i)) rfl (by kernel_rfl) (by kernel_rfl) (by kernel_rfl) (fun _ _ _ h => h) (Or.inl ⟨by rfl, fun ww hSw => by (try dsimp only at hSw); go_simp⟩) (by assumption) ?_
      simp only [Act.put, List.setIfInBounds_toArray, List.set_cons_zero, List.set_cons_succ, List.getElem_toArray, List.getElem_cons_succ, List.getElem_cons_zero]
      refine wpAnyH_take (i := 3) (v := (.pointer (some ⟨g, o + i * 5, .none⟩))) rfl (by kernel_rfl) (by kernel_rfl) (by kernel_rfl) (fun _ _ _ h => h) (Or.inl ⟨by rfl, fun ww hSw => by (try dsimp only at hSw); go_simp⟩) (by assumption) ?_
      simp only [Act.put, List.setIfInBounds_toArray, List.set_cons_zero, List.set_cons_succ, List.getElem_toArray, List.getElem_cons_succ, List.getElem_cons_zero]
      refine wpAnyH_take (i := 4) (v := (.agg #[.int .i64 (K i), .int .u64 (PA i), .int .i64 (NN i), .int .u64 (VV i), .slice (SD i) (LN i) (CD i)])) rfl (by kernel_rfl) (by kernel_rfl) (by kernel_rfl) (fun _ _ _ h => h) (Or.inl ⟨by rfl, fun ww hSw => by (try dsimp only at hSw); obtain ⟨q0, q1, q2, q3, q4⟩ := hSw; go_simp⟩) (by assumption) ?_
      simp only [Act.put, List.setIfInBounds_toArray, List.set_cons_zero, List.set_cons_succ, List.getElem_toArray, List.getElem_cons_succ, List.getElem_cons_zero]
      refine wpAnyH_ready (rs := [5]) (by kernel_rfl) (by simp) ?_
      refine AllReadyH.cons rfl (fun K hK => ?_) AllReadyH.nil
      go_simp
      go_at_call 5
      refine c5.mono ?_
      rintro e w2 ⟨rfl, hpl2, hB2⟩
      obtain ⟨p2, b2, m2, q2, hb2, fb2, lb2, B2, L2, hP2⟩ := hpl2
      have hbw2 : Below w.heap.size w w2 := hbw.trans hB2
      have y0 := hP2.x0
      have y1 := hP2.x1
      have S2 := HR.out w2 hbw2
      have c6 := countR hP2
      have HP2 : Hid (Pq w.heap.size w2 x p2 b2 m2 q2 hb2 fb2 lb2 N B2 L2 B2 L2) := hP2
      clear hP2 c5
      refine hK.out _ _ S2 (fun hHeld => ?_)
      clear hK K
      try simp only [Act.put, List.setIfInBounds_toArray, List.set_cons_zero, List.set_cons_succ, List.getElem_toArray, List.getElem_cons_succ, List.getElem_cons_zero]
      refine wpAnyH_take (i := 6) (v := (.bool false)) rfl (by kernel_rfl) (by kernel_rfl) (by kernel_rfl) (fun _ _ _ h => h) (Or.inl ⟨by rfl, fun ww hSw => by (try dsimp only at hSw); go_simp⟩) (by assumption) ?_
      simp only [Act.put, List.setIfInBounds_toArray, List.set_cons_zero, List.set_cons_succ, List.getElem_toArray, List.getElem_cons_succ, List.getElem_cons_zero]
      refine wpAnyH_take (i := 7) (v := (.bool false)) rfl (by kernel_rfl) (by kernel_rfl) (by kernel_rfl) (fun _ _ _ h => h) (Or.inl ⟨by rfl, fun ww hSw => by (try dsimp only at hSw); go_simp⟩) (by assumption) ?_
      simp only [Act.put, List.setIfInBounds_toArray, List.set_cons_zero, List.set_cons_succ, List.getElem_toArray, List.getElem_cons_succ, List.getElem_cons_zero]
      refine wpAnyH_take (i := 8) (v := (.pointer (some ⟨x, 0, .none⟩))) rfl (by kernel_rfl) (by kernel_rfl) (by kernel_rfl) (fun _ _ _ h => h) (Or.inl ⟨by rfl, fun ww hSw => by (try dsimp only at hSw); go_simp⟩) (by assumption) ?_
      simp only [Act.put, List.setIfInBounds_toArray, List.set_cons_zero, List.set_cons_succ, List.getElem_toArray, List.getElem_cons_succ, List.getElem_cons_zero]
      refine wpAnyH_take (i := 9) (v := (.pointer (some ⟨x, 0, .none⟩))) rfl (by kernel_rfl) (by kernel_rfl) (by kernel_rfl) (fun _ _ _ h => h) (Or.inl ⟨by rfl, fun ww hSw => by (try dsimp only at hSw); go_simp⟩) (by assumption) ?_
      simp only [Act.put, List.setIfInBounds_toArray, List.set_cons_zero, List.set_cons_succ, List.getElem_toArray, List.getElem_cons_succ, List.getElem_cons_zero]
      refine wpAnyH_take (i := 10) (v := (.pointer (some ⟨x, 0, .none⟩))) rfl (by kernel_rfl) (by kernel_rfl) (by kernel_rfl) (fun _ _ _ h => h) (Or.inl ⟨by rfl, fun ww hSw => by (try dsimp only at hSw); go_simp⟩) (by assumption) ?_
      simp only [Act.put, List.setIfInBounds_toArray, List.set_cons_zero, List.set_cons_succ, List.getElem_toArray, List.getElem_cons_succ, List.getElem_cons_zero]
      refine wpAnyH_take (i := 13) (v := (.pointer (some ⟨x, 0, .none⟩))) rfl (by kernel_rfl) (by kernel_rfl) (by kernel_rfl) (fun _ _ _ h => h) (Or.inl ⟨by rfl, fun ww hSw => by (try dsimp only at hSw); go_simp⟩) (by assumption) ?_
      simp only [Act.put, List.setIfInBounds_toArray, List.set_cons_zero, List.set_cons_succ, List.getElem_toArray, List.getElem_cons_succ, List.getElem_cons_zero]
      refine wpAnyH_take (i := 14) (v := (.pointer (some ⟨x, 0, .none⟩))) rfl (by kernel_rfl) (by kernel_rfl) (by kernel_rfl) (fun _ _ _ h => h) (Or.inl ⟨by rfl, fun ww hSw => by (try dsimp only at hSw); go_simp⟩) (by assumption) ?_
      simp only [Act.put, List.setIfInBounds_toArray, List.set_cons_zero, List.set_cons_succ, List.getElem_toArray, List.getElem_cons_succ, List.getElem_cons_zero]
      refine wpAnyH_take (i := 15) (v := (.pointer (some ⟨x, 1, .none⟩))) rfl (by kernel_rfl) (by kernel_rfl) (by kernel_rfl) (fun _ _ _ h => h) (Or.inl ⟨by rfl, fun ww hSw => by (try dsimp only at hSw); go_simp⟩) (by assumption) ?_
      simp only [Act.put, List.setIfInBounds_toArray, List.set_cons_zero, List.set_cons_succ, List.getElem_toArray, List.getElem_cons_succ, List.getElem_cons_zero]
      refine wpAnyH_ready (rs := [11, 16]) (by kernel_rfl) (by simp) ?_
      refine AllReadyH.cons rfl (fun K hK => ?_) (AllReadyH.cons rfl (fun K hK => ?_) AllReadyH.nil)
      · go_simp
        refine hK.out _ _ S2 (fun hHeld => ?_)
        clear hK K
        try simp only [Act.put, List.setIfInBounds_toArray, List.set_cons_zero, List.set_cons_succ, List.getElem_toArray, List.getElem_cons_succ, List.getElem_cons_zero]
        refine wpAnyH_ready (rs := [12, 16]) (by kernel_rfl) (by simp) ?_
        refine AllReadyH.cons rfl (fun K hK => ?_) (AllReadyH.cons rfl (fun K hK => ?_) AllReadyH.nil)
        · go_simp
          go_at_call 6
          refine c6.mono ?_
          rintro e w3 ⟨rfl, hb3⟩
          have hP3 := HP2.out.below hb3
          have z1 := hP3.x1
          have c7 := count_q hP3.qm
          have hbw3 : Below w.heap.size w w3 := hbw2.trans (hb3.mono hbw2.size)
          have S3 := HR.out w3 hbw3
          have HP3 : Hid (Pl w.heap.size w3 x N ∧ Below w.heap.size w w3) := ⟨hP3.pl, hbw3⟩
          clear hP3 c6
          refine hK.out _ _ S3 (fun hHeld => ?_)
          clear hK K
          try simp only [Act.put, List.setIfInBounds_toArray, List.set_cons_zero, List.set_cons_succ, List.getElem_toArray, List.getElem_cons_succ, List.getElem_cons_zero]
          refine wpAnyH_ready (rs := [16]) (by kernel_rfl) (by simp) ?_
          refine AllReadyH.cons rfl (fun K hK => ?_) AllReadyH.nil
          go_simp
          refine hK.out _ _ S3 (fun hHeld => ?_)
          clear hK K
          try simp only [Act.put, List.setIfInBounds_toArray, List.set_cons_zero, List.set_cons_succ, List.getElem_toArray, List.getElem_cons_succ, List.getElem_cons_zero]
          refine wpAnyH_ready (rs := [17]) (by kernel_rfl) (by simp) ?_
          refine AllReadyH.cons rfl (fun K hK => ?_) AllReadyH.nil
          go_simp
          go_at_call 7
          refine c7.mono ?_
          rintro e w4 ⟨rfl, rfl⟩
          refine hK.out _ _ S3 (fun hHeld => ?_)
          clear hK K
          try simp only [Act.put, List.setIfInBounds_toArray, List.set_cons_zero, List.set_cons_succ, List.getElem_toArray, List.getElem_cons_succ, List.getElem_cons_zero]
          refine wpAnyH_take (i := 18) (v := (.bool false)) rfl (by kernel_rfl) (by kernel_rfl) (by kernel_rfl) (fun _ _ _ h => h) (Or.inl ⟨by rfl, fun ww hSw => by (try dsimp only at hSw); go_simp⟩) (by assumption) ?_
          simp only [Act.put, List.setIfInBounds_toArray, List.set_cons_zero, List.set_cons_succ, List.getElem_toArray, List.getElem_cons_succ, List.getElem_cons_zero]
          refine wpAnyH_take (i := 19) (v := (.bool false)) rfl (by kernel_rfl) (by kernel_rfl) (by kernel_rfl) (fun _ _ _ h => h) (Or.inl ⟨by rfl, fun ww hSw => by (try dsimp only at hSw); go_simp⟩) (by assumption) ?_
          simp only [Act.put, List.setIfInBounds_toArray, List.set_cons_zero, List.set_cons_succ, List.getElem_toArray, List.getElem_cons_succ, List.getElem_cons_zero]
          refine wpAnyH_done (by kernel_rfl) ?_ _
          go_wp2
          exact ⟨⟨i + 1, by omega, by omega, by simp, HP3⟩, by simp [intOf]; omega⟩
        · go_simp
          refine hK.out _ _ S2 (fun hHeld => ?_)
          clear hK K
          try simp only [Act.put, List.setIfInBounds_toArray, List.set_cons_zero, List.set_cons_succ, List.getElem_toArray, List.getElem_cons_succ, List.getElem_cons_zero]
          refine wpAnyH_ready (rs := [12]) (by kernel_rfl) (by simp) ?_
          refine AllReadyH.cons rfl (fun K hK => ?_) AllReadyH.nil
          go_simp
          go_at_call 6
          refine c6.mono ?_
          rintro e w3 ⟨rfl, hb3⟩
          have hP3 := HP2.out.below hb3
          have z1 := hP3.x1
          have c7 := count_q hP3.qm
          have hbw3 : Below w.heap.size w w3 := hbw2.trans (hb3.mono hbw2.size)
          have S3 := HR.out w3 hbw3
          have HP3 : Hid (Pl w.heap.size w3 x N ∧ Below w.heap.size w w3) := ⟨hP3.pl, hbw3⟩
          clear hP3 c6
          refine hK.out _ _ S3 (fun hHeld => ?_)
          clear hK K
          try simp only [Act.put, List.setIfInBounds_toArray, List.set_cons_zero, List.set_cons_succ, List.getElem_toArray, List.getElem_cons_succ, List.getElem_cons_zero]
          refine wpAnyH_ready (rs := [17]) (by kernel_rfl) (by simp) ?_
          refine AllReadyH.cons rfl (fun K hK => ?_) AllReadyH.nil
          go_simp
          go_at_call 7
          refine c7.mono ?_
          rintro e w4 ⟨rfl, rfl⟩
          refine hK.out _ _ S3 (fun hHeld => ?_)
          clear hK K
          try simp only [Act.put, List.setIfInBounds_toArray, List.set_cons_zero, List.set_cons_succ, List.getElem_toArray, List.getElem_cons_succ, List.getElem_cons_zero]
          refine wpAnyH_take (i := 18) (v := (.bool false)) rfl (by kernel_rfl) (by kernel_rfl) (by kernel_rfl) (fun _ _ _ h => h) (Or.inl ⟨by rfl, fun ww hSw => by (try dsimp only at hSw); go_simp⟩) (by assumption) ?_
          simp only [Act.put, List.setIfInBounds_toArray, List.set_cons_zero, List.set_cons_succ, List.getElem_toArray, List.getElem_cons_succ, List.getElem_cons_zero]
          refine wpAnyH_take (i := 19) (v := (.bool false)) rfl (by kernel_rfl) (by kernel_rfl) (by kernel_rfl) (fun _ _ _ h => h) (Or.inl ⟨by rfl, fun ww hSw => by (try dsimp only at hSw); go_simp⟩) (by assumption) ?_
          simp only [Act.put, List.setIfInBounds_toArray, List.set_cons_zero, List.set_cons_succ, List.getElem_toArray, List.getElem_cons_succ, List.getElem_cons_zero]
          refine wpAnyH_done (by kernel_rfl) ?_ _
          go_wp2
          exact ⟨⟨i + 1, by omega, by omega, by simp, HP3⟩, by simp [intOf]; omega⟩
      · go_simp
        refine hK.out _ _ S2 (fun hHeld => ?_)
        clear hK K
        try simp only [Act.put, List.setIfInBounds_toArray, List.set_cons_zero, List.set_cons_succ, List.getElem_toArray, List.getElem_cons_succ, List.getElem_cons_zero]
        refine wpAnyH_ready (rs := [11]) (by kernel_rfl) (by simp) ?_
        refine AllReadyH.cons rfl (fun K hK => ?_) AllReadyH.nil
        go_simp
        refine hK.out _ _ S2 (fun hHeld => ?_)
        clear hK K
        try simp only [Act.put, List.setIfInBounds_toArray, List.set_cons_zero, List.set_cons_succ, List.getElem_toArray, List.getElem_cons_succ, List.getElem_cons_zero]
        refine wpAnyH_ready (rs := [12]) (by kernel_rfl) (by simp) ?_
        refine AllReadyH.cons rfl (fun K hK => ?_) AllReadyH.nil
        go_simp
        go_at_call 6
        refine c6.mono ?_
        rintro e w3 ⟨rfl, hb3⟩
        have hP3 := HP2.out.below hb3
        have z1 := hP3.x1
        have c7 := count_q hP3.qm
        have hbw3 : Below w.heap.size w w3 := hbw2.trans (hb3.mono hbw2.size)
        have S3 := HR.out w3 hbw3
        have HP3 : Hid (Pl w.heap.size w3 x N ∧ Below w.heap.size w w3) := ⟨hP3.pl, hbw3⟩
        clear hP3 c6
        refine hK.out _ _ S3 (fun hHeld => ?_)
        clear hK K
        try simp only [Act.put, List.setIfInBounds_toArray, List.set_cons_zero, List.set_cons_succ, List.getElem_toArray, List.getElem_cons_succ, List.getElem_cons_zero]
        refine wpAnyH_ready (rs := [17]) (by kernel_rfl) (by simp) ?_
        refine AllReadyH.cons rfl (fun K hK => ?_) AllReadyH.nil
        go_simp
        go_at_call 7
        refine c7.mono ?_
        rintro e w4 ⟨rfl, rfl⟩
        refine hK.out _ _ S3 (fun hHeld => ?_)
        clear hK K
        try simp only [Act.put, List.setIfInBounds_toArray, List.set_cons_zero, List.set_cons_succ, List.getElem_toArray, List.getElem_cons_succ, List.getElem_cons_zero]
        refine wpAnyH_take (i := 18) (v := (.bool false)) rfl (by kernel_rfl) (by kernel_rfl) (by kernel_rfl) (fun _ _ _ h => h) (Or.inl ⟨by rfl, fun ww hSw => by (try dsimp only at hSw); go_simp⟩) (by assumption) ?_
        simp only [Act.put, List.setIfInBounds_toArray, List.set_cons_zero, List.set_cons_succ, List.getElem_toArray, List.getElem_cons_succ, List.getElem_cons_zero]
        refine wpAnyH_take (i := 19) (v := (.bool false)) rfl (by kernel_rfl) (by kernel_rfl) (by kernel_rfl) (fun _ _ _ h => h) (Or.inl ⟨by rfl, fun ww hSw => by (try dsimp only at hSw); go_simp⟩) (by assumption) ?_
        simp only [Act.put, List.setIfInBounds_toArray, List.set_cons_zero, List.set_cons_succ, List.getElem_toArray, List.getElem_cons_succ, List.getElem_cons_zero]
        refine wpAnyH_done (by kernel_rfl) ?_ _
        go_wp2
        exact ⟨⟨i + 1, by omega, by omega, by simp, HP3⟩, by simp [intOf]; omega⟩
    · by_cases hl1 : i < sl
      · have g0 : (i : Int) < sl := by omega
        have g4 : ¬ (i : Int) < 400 := by omega
        clear HP1
        go_wp2
        go_loopw [7] (fun a wr => ∃ j : Nat, j ≤ N ∧ a = .int .i64 j ∧ Hid (Pl w.heap.size wr x N ∧ Below w.heap.size w wr)) (fun a _ => (N - intOf a).toNat)
        case atStart => exact ⟨0, by omega, rfl, HP⟩
        case round =>
          obtain ⟨j, hj, rfl, HPj⟩ := hrel
          clear HP
          obtain ⟨p, b, m, q, hb, fb, lb, B, L, hP⟩ := HPj.out.1
          have k1 := hP.x1
          have c8 := frames_q hP.qm
          by_cases hjl : j < N
          · have g0 : (j : Int) < N := by omega
            have gN : (N : Int) ≤ 40 := by omega
            have c5a := step_any hP 7 (2147483648 + 4096 * (j : Int)) 0 0 .none 0 0 [] (byt_nil _) (by omega) (fun u hu => (nomatch hu)) (fun hz => absurd rfl hz) (by omega) (by omega) (by omega)
            clear hP
            go_wp2_with (first | (go_at_call 8; refine c8.mono ?_; rintro e w2 ⟨rfl, rfl⟩) | fail)
            go_at_call 5
            refine c5a.mono ?_
            rintro e w3 ⟨rfl, hpl3, hB3⟩
            have hbw3 : Below w.heap.size w w3 := HPj.out.2.trans hB3
            obtain ⟨p3, b3, m3, q3, hb3, fb3, lb3, B3, L3, hP3⟩ := hpl3
            have c5b := step_any hP3 8 (2147483648 + 4096 * (j : Int)) 0 0 .none 0 0 [] (byt_nil _) (by omega) (fun u hu => (nomatch hu)) (fun hz => absurd rfl hz) (by omega) (by omega) (by omega)
            clear c5a hP3 c8
            go_wp2_with fail
            go_at_call 5
            refine c5b.mono ?_
            rintro e w4 ⟨rfl, hpl4, hB4⟩
            have HP4 : Hid (Pl w.heap.size w4 x N ∧ Below w.heap.size w w4) := ⟨hpl4, hbw3.trans hB4⟩
            clear c5b hpl4 hB4
            go_wp2
            exact ⟨⟨j + 1, by omega, by simp, HP4⟩, by simp [intOf]; omega⟩
          · have g0 : ¬ (j : Int) < N := by omega
            have k0 := hP.x0
            have hl := len_le hP.r.lt hP.r.nd hP.qm.n2
            go_upto_region 15 with (first | (go_at_call 8; refine c8.mono ?_; rintro e w2 ⟨rfl, rfl⟩) | fail)
            have HB : Hid (∀ V, Below w2.heap.size w2 V → ((V.cell? ⟨x, 0, .none⟩ = some (.pointer (some ⟨p, 0, .none⟩)) ∧ V.cell? ⟨x, 1, .none⟩ = some (.pointer (some ⟨q, 0, .none⟩))) ∧ Below w2.heap.size w2 V) ∧ Pq w.heap.size V x p b m q hb fb lb N B L B L) := fun V f => ⟨⟨⟨(f.cell hP.xlt).trans k0, (f.cell hP.xlt).trans k1⟩, f⟩, hP.below f⟩
            have j0 := (HB.out w2.drew ((Below.refl _ _).drew)).1
            have c9 := list_any (hP.below ((Below.refl _ _).drew)) (-1) (by omega)
            have HF : Hid (∀ V, Below w2.heap.size w2 V → Below w.heap.size w V) := fun V f => HPj.out.2.trans (f.mono HPj.out.2.size)
            clear hP
            go_region_held3 (fun V => ((V.cell? ⟨x, 0, .none⟩ = some (.pointer (some ⟨p, 0, .none⟩)) ∧ V.cell? ⟨x, 1, .none⟩ = some (.pointer (some ⟨q, 0, .none⟩))) ∧ Below w2.heap.size w2 V)) (first | assumption | exact j0) (first | (go_at_call 9; refine c9.mono ?_; rintro e V0 ⟨rfl, hb0⟩; have hS0 := (HB.out V0 (((Below.refl _ _).drew).trans hb0)).1; have c11 := img_R (HB.out V0 hS0.2).2) | (go_at_call 11; refine c11.mono ?_; rintro e V1 ⟨qf, cf, q2, c2, rfl, s1, s2, hb1, _, _⟩; have hS1 := (HB.out V1 (hS0.2.trans (hb1.mono hS0.2.size))).1; have c12 := img_Q (HB.out V1 hS1.2).2; have HS1 : Hid (See V1 .u64 qf L.length (Fo L) ∧ SeeH V1 q2 (heldTo L N).length (Fo (heldTo L N)) (fun _ => 4096) (Do B (heldTo L N))) := ⟨s1, s2⟩; clear s1 s2) | (go_at_call 12; refine c12.mono ?_; rintro e V2 ⟨qf', cf', q2', c2', rfl, s1, s2, hb2, _, _⟩; have hS2 := (HB.out V2 (hS1.2.trans (hb2.mono hS1.2.size))).1; have c10 := images_two (n := (N : Int)) (cfa := cf) (cha := c2) (cfb := cf') (chb := c2') ⟨by omega, by omega⟩ ⟨HS1.out.1.below hb2, HS1.out.2.below hb2⟩ ⟨s1, s2⟩; clear s1 s2) | (go_at_call 10; refine c10.mono ?_; rintro e V3 ⟨rfl, hb3⟩; have hS3 := (HB.out V3 (hS2.2.trans (hb3.mono hS2.2.size))).1))
            go_wp2
            go_ret
            exact ⟨rfl, HF.out V3 hS3.2⟩
      · have g0 : ¬ (i : Int) < sl := by omega
        clear HP1
        go_wp2
        go_loopw [7] (fun a wr => ∃ j : Nat, j ≤ N ∧ a = .int .i64 j ∧ Hid (Pl w.heap.size wr x N ∧ Below w.heap.size w wr)) (fun a _ => (N - intOf a).toNat)
        case atStart => exact ⟨0, by omega, rfl, HP⟩
        case round =>
          obtain ⟨j, hj, rfl, HPj⟩ := hrel
          clear HP
          obtain ⟨p, b, m, q, hb, fb, lb, B, L, hP⟩ := HPj.out.1
          have k1 := hP.x1
          have c8 := frames_q hP.qm
          by_cases hjl : j < N
          · have g0 : (j : Int) < N := by omega
            have gN : (N : Int) ≤ 40 := by omega
            have c5a := step_any hP 7 (2147483648 + 4096 * (j : Int)) 0 0 .none 0 0 [] (byt_nil _) (by omega) (fun u hu => (nomatch hu)) (fun hz => absurd rfl hz) (by omega) (by omega) (by omega)
            clear hP
            go_wp2_with (first | (go_at_call 8; refine c8.mono ?_; rintro e w2 ⟨rfl, rfl⟩) | fail)
            go_at_call 5
            refine c5a.mono ?_
            rintro e w3 ⟨rfl, hpl3, hB3⟩
            have hbw3 : Below w.heap.size w w3 := HPj.out.2.trans hB3
            obtain ⟨p3, b3, m3, q3, hb3, fb3, lb3, B3, L3, hP3⟩ := hpl3
            have c5b := step_any hP3 8 (2147483648 + 4096 * (j : Int)) 0 0 .none 0 0 [] (byt_nil _) (by omega) (fun u hu => (nomatch hu)) (fun hz => absurd rfl hz) (by omega) (by omega) (by omega)
            clear c5a hP3 c8
            go_wp2_with fail
            go_at_call 5
            refine c5b.mono ?_
            rintro e w4 ⟨rfl, hpl4, hB4⟩
            have HP4 : Hid (Pl w.heap.size w4 x N ∧ Below w.heap.size w w4) := ⟨hpl4, hbw3.trans hB4⟩
            clear c5b hpl4 hB4
            go_wp2
            exact ⟨⟨j + 1, by omega, by simp, HP4⟩, by simp [intOf]; omega⟩
          · have g0 : ¬ (j : Int) < N := by omega
            have k0 := hP.x0
            have hl := len_le hP.r.lt hP.r.nd hP.qm.n2
            go_upto_region 15 with (first | (go_at_call 8; refine c8.mono ?_; rintro e w2 ⟨rfl, rfl⟩) | fail)
            have HB : Hid (∀ V, Below w2.heap.size w2 V → ((V.cell? ⟨x, 0, .none⟩ = some (.pointer (some ⟨p, 0, .none⟩)) ∧ V.cell? ⟨x, 1, .none⟩ = some (.pointer (some ⟨q, 0, .none⟩))) ∧ Below w2.heap.size w2 V) ∧ Pq w.heap.size V x p b m q hb fb lb N B L B L) := fun V f => ⟨⟨⟨(f.cell hP.xlt).trans k0, (f.cell hP.xlt).trans k1⟩, f⟩, hP.below f⟩
            have j0 := (HB.out w2.drew ((Below.refl _ _).drew)).1
            have c9 := list_any (hP.below ((Below.refl _ _).drew)) (-1) (by omega)
            have HF : Hid (∀ V, Below w2.heap.size w2 V → Below w.heap.size w V) := fun V f => HPj.out.2.trans (f.mono HPj.out.2.size)
            clear hP
            go_region_held3 (fun V => ((V.cell? ⟨x, 0, .none⟩ = some (.pointer (some ⟨p, 0, .none⟩)) ∧ V.cell? ⟨x, 1, .none⟩ = some (.pointer (some ⟨q, 0, .none⟩))) ∧ Below w2.heap.size w2 V)) (first | assumption | exact j0) (first | (go_at_call 9; refine c9.mono ?_; rintro e V0 ⟨rfl, hb0⟩; have hS0 := (HB.out V0 (((Below.refl _ _).drew).trans hb0)).1; have c11 := img_R (HB.out V0 hS0.2).2) | (go_at_call 11; refine c11.mono ?_; rintro e V1 ⟨qf, cf, q2, c2, rfl, s1, s2, hb1, _, _⟩; have hS1 := (HB.out V1 (hS0.2.trans (hb1.mono hS0.2.size))).1; have c12 := img_Q (HB.out V1 hS1.2).2; have HS1 : Hid (See V1 .u64 qf L.length (Fo L) ∧ SeeH V1 q2 (heldTo L N).length (Fo (heldTo L N)) (fun _ => 4096) (Do B (heldTo L N))) := ⟨s1, s2⟩; clear s1 s2) | (go_at_call 12; refine c12.mono ?_; rintro e V2 ⟨qf', cf', q2', c2', rfl, s1, s2, hb2, _, _⟩; have hS2 := (HB.out V2 (hS1.2.trans (hb2.mono hS1.2.size))).1; have c10 := images_two (n := (N : Int)) (cfa := cf) (cha := c2) (cfb := cf') (chb := c2') ⟨by omega, by omega⟩ ⟨HS1.out.1.below hb2, HS1.out.2.below hb2⟩ ⟨s1, s2⟩; clear s1 s2) | (go_at_call 10; refine c10.mono ?_; rintro e V3 ⟨rfl, hb3⟩; have hS3 := (HB.out V3 (hS2.2.trans (hb3.mono hS2.2.size))).1))
            go_wp2
            go_ret
            exact ⟨rfl, HF.out V3 hS3.2⟩
end Go.Proofs.Ytnghcadhilfgnaa
