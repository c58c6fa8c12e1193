import Derived.Test.YtblpdnchphhcaabDoorRd
import Derived.Deep.DeepCutAuto
import Derived.Deep.CutBlock
namespace Go.Proofs.YtblpdnchphhcaabDoor
open Go.RowKit
set_option linter.unusedVariables false
set_option linter.unusedSimpArgs false
theorem okR_iff (x : Int) : okR x = false ↔ (x = 0 ∨ x = 8 ∨ x = 13 ∨ x = 21 ∨ x = 127) := by
  unfold okR fin dd
  repeat' split
  all_goals (simp; try omega)
theorem okL_iff (x : Int) : okL x = false ↔ (okR x = false ∨ x = 10 ∨ x = 4) := by
  rw [okR_iff]
  unfold okL dd
  repeat' split
  all_goals (simp; try omega)
set_option maxHeartbeats 1000000 in
theorem plain_any (w : World) (x : Int) : Calls Tryd.prog 23 #[.int .u8 x] w fun e w' => e = .returned (.bool (okR x)) ∧ w' = w := by
  by_cases h : okR x = false
  · rw [h]
    rcases (okR_iff x).1 h with rfl | rfl | rfl | rfl | rfl
    all_goals
      clear h
      go_enter Tryd.func23, Tryd.ntmps23
      go_wp2
      go_ret
      exact ⟨rfl, rfl⟩
  · have h1 : ¬ (x = 0 ∨ x = 8 ∨ x = 13 ∨ x = 21 ∨ x = 127) := fun e => h ((okR_iff x).2 e)
    have HT : okR x = true := by simpa using h
    rw [HT]
    have i1 : ¬ x = 0 := by omega
    have i2 : ¬ x = 8 := by omega
    have i3 : ¬ x = 13 := by omega
    have i4 : ¬ x = 21 := by omega
    have i5 : ¬ x = 127 := by omega
    have HB : Hid ((x != 0 && x != 8 && x != 13 && x != 21 && x != 127) = true) := by show _ = _; simp [i1, i2, i3, i4, i5]
    clear h h1 HT
    go_enter Tryd.func23, Tryd.ntmps23
    go_wp2
    go_ret
    refine ⟨?_, rfl⟩
    show Ending.returned (.bool (x != 0 && x != 8 && x != 13 && x != 21 && x != 127)) = _
    rw [HB.out]
set_option maxHeartbeats 8000000 in
set_option maxRecDepth 100000 in
theorem rfrom_any {w : World} {p q : Option Addr} {n c m d : Nat} {rs ls : List Int} (hR : Byt w p n c rs) (hL : Byt w q m d ls) (hr : ∀ x ∈ rs, 0 ≤ x ∧ x < 256) (hl : ∀ x ∈ ls, 0 ≤ x ∧ x < 256) (hs : n + m ≤ 9223372036854775807) :
    Calls Tryd.prog 7 #[.agg #[.slice p n c, .slice q m d]] w fun e w' => Below w.heap.size w w' ∧
      ((okC rs ls = false ∧ e = .returned (.tuple #[.pointer .none, .bool false])) ∨ (okC rs ls = true ∧ ∃ b, ∃ D : Nat → Prop, e = .returned (.tuple #[.pointer (some ⟨b, 0, .none⟩), .bool true]) ∧ Doc w' b D rs ls ∧ ∀ k, D k → w.heap.size ≤ k)) := by
  have e1 := hR.1
  have e2 := hL.1
  have HR : Hid (Byt w p n c rs) := hR
  have HL : Hid (Byt w q m d ls) := hL
  have Hr : Hid (∀ x ∈ rs, 0 ≤ x ∧ x < 256) := hr
  have Hl : Hid (∀ x ∈ ls, 0 ≤ x ∧ x < 256) := hl
  have E1 : Hid (rs.length = n) := e1
  have E2 : Hid (ls.length = m) := e2
  clear hR hL hr hl e1 e2
  go_enter Tryd.func7, Tryd.ntmps7
  go_upto_region 1 with fail
  have hs1 := sb_new w p n c q m d
  have hb1 := Trn.new w (.cells #[.slice p n c, .slice q m d] 24)
  have hz1 : (w.alloc (.cells #[.slice p n c, .slice q m d] 24)).heap.size = w.heap.size + 1 := by simp
  generalize w.alloc (.cells #[.slice p n c, .slice q m d] 24) = W at *
  have q0 := hs1.c0
  have q1 := hs1.c1
  have HW : Hid (Below w.heap.size w W ∧ Byt W p n c rs ∧ Byt W q m d ls ∧ Sb W w.heap.size p n c q m d ∧ W.heap.size = w.heap.size + 1) := ⟨hb1, byt_below HR.out hb1, byt_below HL.out hb1, hs1, hz1⟩
  clear hs1 hb1 hz1
  by_cases hbig : 128 < n + m
  · have g1 : (128 : Int) < (n : Int) + m := by omega
    have OK : Hid (okC rs ls = false) := by
      show _ = _
      unfold okC
      rw [E1.out, E2.out, decide_eq_false (by omega)]
      rfl
    clear hbig
    go_wp2
    go_ret2
    exact ⟨HW.out.1, .inl ⟨OK.out, rfl⟩⟩
  have g1 : ¬ (128 : Int) < (n : Int) + m := by omega
  by_cases hful : n + m = 128 ∧ 0 < m
  · have g2 : ((n : Int) + m == 128) = true := by simp; omega
    have g3 : (0 : Int) < m := by omega
    have OK : Hid (okC rs ls = false) := by
      show _ = _
      unfold okC
      rw [E1.out, E2.out, decide_eq_false (p := n + m ≠ 128) (by omega), decide_eq_false (p := m = 0) (by omega)]
      simp
    clear hbig hful
    go_wp2
    go_ret2
    exact ⟨HW.out.1, .inl ⟨OK.out, rfl⟩⟩
  have HO : Hid (okC rs ls = (rs.all okR && ls.all okL)) := by
    show _ = _
    unfold okC
    rw [E1.out, E2.out, decide_eq_true (p := n + m ≤ 128) (by omega)]
    by_cases h : n + m = 128
    · have : m = 0 := by omega
      simp [this]
    · simp [h]
  have hn : n ≤ 128 := by omega
  have hm : m ≤ 128 := by omega
  have HNM : Hid (n + m ≤ 128) := by show _ ≤ _; omega
  have gt : ((n : Int) + m == 128) = false ∨ ((n : Int) + m == 128) = true ∧ ¬ ((0 : Int) < m) := by
    by_cases h : n + m = 128
    · right
      exact ⟨by simp; omega, by omega⟩
    · left
      simp; omega
  clear hbig hful hs
  go_upto_region 2 with fail
  go_cut [25] (fun s25 wc => s25 = .bool false ∧ wc = W)
  case first =>
    rcases gt with g2 | ⟨g2, g3⟩
    all_goals
      go_wp2
      go_meet
      case rel => exact ⟨by first | rfl | (simp; omega), rfl⟩
  case rest =>
    obtain ⟨rfl, hwc⟩ := hcut
    obtain rfl : W = wc := hwc.symm
    clear gt g1
    go_wp2
    go_loopw [5] (fun v wr => ∃ i : Nat, i ≤ n ∧ v = .int .i64 i ∧ Hid ((rs.take i).all okR = true) ∧ wr = W) (fun v _ => (n - intOf v).toNat)
    case atStart => exact ⟨0, Nat.zero_le _, rfl, (by show _ = _; simp), rfl⟩
    case round =>
      obtain ⟨i, hi, rfl, HA, rfl⟩ := hrel
      by_cases hlt : i < n
      · have g4 : (i : Int) < n := by omega
        obtain ⟨gb, o, rfl, hcl⟩ : ∃ gb o, p = some ⟨gb, o, .none⟩ ∧ ∀ i x, rs[i]? = some x → wr.cell? ⟨gb, o + i, .none⟩ = some (.int .u8 x) := by
          rcases HW.out.2.1.2.2.2 with h | ⟨gb, o, h1, _, h3⟩
          · omega
          · exact ⟨gb, o, h1, h3⟩
        obtain ⟨x, hx⟩ : ∃ x, rs[i]? = some x := ⟨rs[i]'(by rw [E1.out]; omega), by simp⟩
        have a1 := hcl i x hx
        have c1 := plain_any wr x
        have HXI : Hid (rs[i]? = some x) := hx
        clear hcl hx
        by_cases h0 : okR x = true
        · rw [h0] at c1
          have OK : Hid ((rs.take (i + 1)).all okR = true) := all_take HA.out HXI.out h0
          clear h0
          go_wp2_with fail
          refine c1.mono ?_
          rintro e w1 ⟨rfl, hw1⟩
          obtain rfl : wr = w1 := hw1.symm
          go_wp2
          exact ⟨⟨i + 1, by omega, rfl, OK, (by first | rfl | trivial)⟩, by simp only [intOf]; omega⟩
        · have h0 : okR x = false := by simpa using h0
          rw [h0] at c1
          have OK : Hid (okC rs ls = false) := by
            show _ = _
            rw [HO.out, all_not HXI.out h0]
            rfl
          clear h0
          go_wp2_with fail
          refine c1.mono ?_
          rintro e w1 ⟨rfl, hw1⟩
          obtain rfl : wr = w1 := hw1.symm
          go_wp2
          go_ret2
          exact ⟨HW.out.1, .inl ⟨OK.out, rfl⟩⟩
      · obtain rfl : i = n := by omega
        have HRA : Hid (rs.all okR = true) := by
          have := HA.out
          rw [List.take_of_length_le (by rw [E1.out]; omega)] at this
          exact this
        clear HA hlt hi
        go_wp2
        go_loopw [6] (fun v wx => ∃ j : Nat, j ≤ m ∧ v = .int .i64 j ∧ Hid ((ls.take j).all okL = true) ∧ wx = wr) (fun v _ => (m - intOf v).toNat)
        case atStart => exact ⟨0, Nat.zero_le _, rfl, (by show _ = _; simp), rfl⟩
        case round =>
          obtain ⟨j, hj, rfl, HB, rfl⟩ := hrel
          by_cases hlt : j < m
          · have g5 : (j : Int) < m := by omega
            obtain ⟨gb, o, rfl, hcl⟩ : ∃ gb o, q = some ⟨gb, o, .none⟩ ∧ ∀ i x, ls[i]? = some x → wr.cell? ⟨gb, o + i, .none⟩ = some (.int .u8 x) := by
              rcases HW.out.2.2.1.2.2.2 with h | ⟨gb, o, h1, _, h3⟩
              · omega
              · exact ⟨gb, o, h1, h3⟩
            obtain ⟨x, hx⟩ : ∃ x, ls[j]? = some x := ⟨ls[j]'(by rw [E2.out]; omega), by simp⟩
            have a1 := hcl j x hx
            have c1 := plain_any wr x
            have HXI : Hid (ls[j]? = some x) := hx
            clear hcl hx
            by_cases h0 : okL x = true
            · have hp : okR x = true ∧ x ≠ 10 ∧ x ≠ 4 := by
                refine ⟨?_, fun e => ?_, fun e => ?_⟩
                · cases h : okR x
                  · rw [(okL_iff x).2 (.inl h)] at h0; cases h0
                  · rfl
                · rw [(okL_iff x).2 (.inr (.inl e))] at h0; cases h0
                · rw [(okL_iff x).2 (.inr (.inr e))] at h0; cases h0
              rw [hp.1] at c1
              have i1 : (x == 10) = false := by simpa using hp.2.1
              have i2 : (x == 4) = false := by simpa using hp.2.2
              have OK : Hid ((ls.take (j + 1)).all okL = true) := all_take HB.out HXI.out h0
              clear h0 hp
              go_wp2_with fail
              refine c1.mono ?_
              rintro e w1 ⟨rfl, hw1⟩
              obtain rfl : wr = w1 := hw1.symm
              go_wp2
              exact ⟨⟨j + 1, by omega, rfl, OK, (by first | rfl | trivial)⟩, by simp only [intOf]; omega⟩
            · have h0 : okL x = false := by simpa using h0
              have OK : Hid (okC rs ls = false) := by
                show _ = _
                rw [HO.out, all_not (f := okL) HXI.out h0, Bool.and_false]
              have hcs : okR x = false ∨ (okR x = true ∧ x = 10) ∨ (okR x = true ∧ x = 4) := by
                rcases (okL_iff x).1 h0 with h | h | h
                · exact .inl h
                · exact .inr (.inl ⟨by rw [h]; decide, h⟩)
                · exact .inr (.inr ⟨by rw [h]; decide, h⟩)
              clear h0
              rcases hcs with h | ⟨h, rfl⟩ | ⟨h, rfl⟩
              all_goals
                rw [h] at c1
                clear h
                go_wp2_with fail
                all_goals refine c1.mono ?_
                all_goals rintro e w1 ⟨rfl, hw1⟩
                all_goals obtain rfl : wr = w1 := hw1.symm
                all_goals go_wp2
                all_goals go_ret2
                all_goals exact ⟨HW.out.1, .inl ⟨OK.out, rfl⟩⟩
          · obtain rfl : j = m := by omega
            have OK : Hid (okC rs ls = true) := by
              show _ = _
              have := HB.out
              rw [List.take_of_length_le (by rw [E2.out]; omega)] at this
              rw [HO.out, HRA.out, this]
              rfl
            clear hlt hj
            go_upto_region 14 with fail
            clear q0 q1
            have kS : (wr.drew.cell? ⟨w.heap.size, 0, .none⟩ = some (.slice p i c) ∧ wr.drew.cell? ⟨w.heap.size, 1, .none⟩ = some (.slice q j d)) := ⟨HW.out.2.2.2.1.c0, HW.out.2.2.2.1.c1⟩
            generalize hsg : w.heap.size = sg at *
            refine wp_region_held_drew (S := fun U => (U.cell? ⟨sg, 0, .none⟩ = some (.slice p i c) ∧ U.cell? ⟨sg, 1, .none⟩ = some (.slice q j d))) (by kernel_rfl) kS (fun hHeld => ?_)
            refine wpAnyH_take (i := 0) (v := (.pointer (some ⟨sg, 0, .none⟩))) rfl (by kernel_rfl) (by kernel_rfl) (by kernel_rfl) (fun _ _ _ h => h) (Or.inl ⟨by rfl, fun ww hSw => by (try dsimp only at hSw); go_simp⟩) (by assumption) ?_
            simp only [Act.put, List.setIfInBounds_toArray, List.set_cons_zero, List.set_cons_succ, List.getElem_toArray, List.getElem_cons_succ, List.getElem_cons_zero]
            refine wpAnyH_take (i := 1) (v := (.slice p i c)) rfl (by kernel_rfl) (by kernel_rfl) (by kernel_rfl) (fun _ _ _ h => h) (Or.inl ⟨by rfl, fun ww hSw => by (try dsimp only at hSw); go_simp⟩) (by assumption) ?_
            simp only [Act.put, List.setIfInBounds_toArray, List.set_cons_zero, List.set_cons_succ, List.getElem_toArray, List.getElem_cons_succ, List.getElem_cons_zero]
            refine wpAnyH_take (i := 3) (v := (.pointer (some ⟨sg, 1, .none⟩))) rfl (by kernel_rfl) (by kernel_rfl) (by kernel_rfl) (fun _ _ _ h => h) (Or.inl ⟨by rfl, fun ww hSw => by (try dsimp only at hSw); go_simp⟩) (by assumption) ?_
            simp only [Act.put, List.setIfInBounds_toArray, List.set_cons_zero, List.set_cons_succ, List.getElem_toArray, List.getElem_cons_succ, List.getElem_cons_zero]
            refine wpAnyH_take (i := 4) (v := (.slice q j d)) rfl (by kernel_rfl) (by kernel_rfl) (by kernel_rfl) (fun _ _ _ h => h) (Or.inl ⟨by rfl, fun ww hSw => by (try dsimp only at hSw); go_simp⟩) (by assumption) ?_
            simp only [Act.put, List.setIfInBounds_toArray, List.set_cons_zero, List.set_cons_succ, List.getElem_toArray, List.getElem_cons_succ, List.getElem_cons_zero]
            refine wpAnyH_ready (rs := [2]) (by kernel_rfl) (by simp) ?_
            refine AllReadyH.cons rfl (fun K hK => ?_) AllReadyH.nil
            go_simp
            have BN : Byt wr.drew none 0 0 [] := ⟨rfl, Nat.le_refl _, by decide, .inl rfl⟩
            have BY : Byt wr.drew p i c rs := HW.out.2.1
            refine (joined_any BY BN (by omega)).mono ?_
            rw [List.append_nil]
            rintro e V1 ⟨p1, c1, rfl, hO, hb1⟩
            rw [E1.out] at hO ⊢
            have H2 : Hid (Below sg w V1 ∧ V1.ownsRow wr.heap.size 5 1 (.slice p1 i c1) i (by8 rs) ∧ wr.heap.size ≤ V1.heap.size ∧ Byt V1 q j d ls ∧ Sb V1 sg p i c q j d ∧ wr.heap.size = sg + 1) := by
              have h := HW.out
              have bD : Below wr.heap.size wr V1 := ⟨hb1.os, hb1.tape, hb1.output, hb1.size, hb1.block⟩
              exact ⟨h.1.trans (bD.mono (by omega)), hO, hb1.size, byt_below h.2.2.1 bD, h.2.2.2.1.below bD, h.2.2.2.2⟩
            have kS1 : (V1.cell? ⟨sg, 0, .none⟩ = some (.slice p i c) ∧ V1.cell? ⟨sg, 1, .none⟩ = some (.slice q j d)) := ⟨H2.out.2.2.2.2.1.c0, H2.out.2.2.2.2.1.c1⟩
            clear hO hb1 BY BN kS
            refine hK.out _ _ kS1 (fun hHeld => ?_)
            clear hK K
            try simp only [Act.put, List.setIfInBounds_toArray, List.set_cons_zero, List.set_cons_succ, List.getElem_toArray, List.getElem_cons_succ, List.getElem_cons_zero]
            refine wpAnyH_ready (rs := [5]) (by kernel_rfl) (by simp) ?_
            refine AllReadyH.cons rfl (fun K hK => ?_) AllReadyH.nil
            go_simp
            have BN : Byt V1 none 0 0 [] := ⟨rfl, Nat.le_refl _, by decide, .inl rfl⟩
            refine (joined_any H2.out.2.2.2.1 BN (by omega)).mono ?_
            rw [List.append_nil]
            rintro e V2 ⟨p2, c2, rfl, hO, hb2⟩
            rw [E2.out] at hO ⊢
            have H3 : Hid (Below sg w V2 ∧ V2.ownsRow wr.heap.size 5 1 (.slice p1 i c1) i (by8 rs) ∧ V2.ownsRow V1.heap.size 5 1 (.slice p2 j c2) j (by8 ls) ∧ wr.heap.size ≤ V1.heap.size ∧ V1.heap.size ≤ V2.heap.size ∧ (∀ g, (Value.slice p1 i c1).ownBlock = some g → g < V1.heap.size) ∧ Sb V2 sg p i c q j d ∧ wr.heap.size = sg + 1) := by
              have h := H2.out
              exact ⟨h.1.trans (hb2.mono (by omega)), (Chg.ofBelow (S := fun _ => False) hb2).own h.2.1 (fun _ _ h => h), hO, h.2.2.1, hb2.size, own_ltC h.2.1, h.2.2.2.2.1.below hb2, h.2.2.2.2.2⟩
            have kS2 : (V2.cell? ⟨sg, 0, .none⟩ = some (.slice p i c) ∧ V2.cell? ⟨sg, 1, .none⟩ = some (.slice q j d)) := ⟨H3.out.2.2.2.2.2.2.1.c0, H3.out.2.2.2.2.2.2.1.c1⟩
            clear hO hb2 BN kS1 H2
            refine hK.out _ _ kS2 (fun hHeld => ?_)
            clear hK K
            try simp only [Act.put, List.setIfInBounds_toArray, List.set_cons_zero, List.set_cons_succ, List.getElem_toArray, List.getElem_cons_succ, List.getElem_cons_zero]
            refine wpAnyH_take (i := 6) (v := (.agg #[.slice p1 i c1, .slice p2 j c2, .bool true])) rfl (by kernel_rfl) (by kernel_rfl) (by kernel_rfl) (fun _ _ _ h => h) (Or.inl ⟨by rfl, fun ww hSw => by (try dsimp only at hSw); go_simp⟩) (by assumption) ?_
            simp only [Act.put, List.setIfInBounds_toArray, List.set_cons_zero, List.set_cons_succ, List.getElem_toArray, List.getElem_cons_succ, List.getElem_cons_zero]
            refine wpAnyH_ready (rs := [7]) (by kernel_rfl) (by simp) ?_
            refine AllReadyH.cons rfl (fun K hK => ?_) AllReadyH.nil
            go_simp
            have hb3 := Trn.new V2 (.cells #[.slice p1 i c1, .slice p2 j c2, .bool true] 66)
            have HE : Hid (Below sg w (V2.alloc (.cells #[.slice p1 i c1, .slice p2 j c2, .bool true] 66)) ∧ ∃ D : Nat → Prop, Doc (V2.alloc (.cells #[.slice p1 i c1, .slice p2 j c2, .bool true] 66)) V2.heap.size D rs ls ∧ ∀ k, D k → sg ≤ k) := by
              have h := H3.out
              refine ⟨h.1.trans (hb3.mono (by omega)), fun k => sg ≤ k, ⟨.slice p1 i c1, .slice p2 j c2, ⟨?_, ?_, ?_, fun i => froz_new _ _ _ _, ?_, ?_, fun k hk => ?_, fun k hk => ?_, by rw [E1.out, E2.out]; exact HNM.out, fun x hx => ?_⟩, by show sg ≤ V2.heap.size; omega, fun k hk => ?_, fun k hk => ?_⟩, fun k hk => hk⟩
              · rw [World.cell?_alloc_at _ _ _ _ rfl]; rfl
              · rw [World.cell?_alloc_at _ _ _ _ rfl]; rfl
              · rw [World.cell?_alloc_at _ _ _ _ rfl]; rfl
              · rw [E1.out]
                exact own_mono ((Chg.ofBelow (S := fun _ => False) hb3).own h.2.1 (fun _ _ h => h)) (Nat.zero_le _)
              · rw [E2.out]
                exact own_mono ((Chg.ofBelow (S := fun _ => False) hb3).own h.2.2.1 (fun _ _ h => h)) (Nat.zero_le _)
              · have h1 := h.2.2.2.2.2.1 k hk
                refine ⟨by omega, fun e => ?_⟩
                have := own_block h.2.2.1 k e
                omega
              · have := own_ltC h.2.2.1 k hk
                omega
              · rcases List.mem_append.1 hx with hx | hx
                · exact Hr.out x hx
                · exact Hl.out x hx
              · have := own_block h.2.1 k hk
                show sg ≤ k
                omega
              · have := own_block h.2.2.1 k hk
                show sg ≤ k
                omega
            have kS3 : ((V2.alloc (.cells #[.slice p1 i c1, .slice p2 j c2, .bool true] 66)).cell? ⟨sg, 0, .none⟩ = some (.slice p i c) ∧ (V2.alloc (.cells #[.slice p1 i c1, .slice p2 j c2, .bool true] 66)).cell? ⟨sg, 1, .none⟩ = some (.slice q j d)) := by
              have := H3.out.2.2.2.2.2.2.1.below hb3
              exact ⟨this.c0, this.c1⟩
            clear hb3 kS2
            generalize V2.alloc (.cells #[.slice p1 i c1, .slice p2 j c2, .bool true] 66) = V3 at *
            refine hK.out _ _ kS3 (fun hHeld => ?_)
            clear hK K
            try simp only [Act.put, List.setIfInBounds_toArray, List.set_cons_zero, List.set_cons_succ, List.getElem_toArray, List.getElem_cons_succ, List.getElem_cons_zero]
            refine wpAnyH_take (i := 8) (v := (.pointer (some ⟨V2.heap.size, 0, .none⟩))) rfl (by kernel_rfl) (by kernel_rfl) (by kernel_rfl) (fun _ _ _ h => h) (Or.inl ⟨by rfl, fun ww hSw => by (try dsimp only at hSw); go_simp⟩) (by assumption) ?_
            simp only [Act.put, List.setIfInBounds_toArray, List.set_cons_zero, List.set_cons_succ, List.getElem_toArray, List.getElem_cons_succ, List.getElem_cons_zero]
            refine wpAnyH_take (i := 9) (v := (.bool true)) rfl (by kernel_rfl) (by kernel_rfl) (by kernel_rfl) (fun _ _ _ h => h) (Or.inl ⟨by rfl, fun ww hSw => by (try dsimp only at hSw); go_simp⟩) (by assumption) ?_
            simp only [Act.put, List.setIfInBounds_toArray, List.set_cons_zero, List.set_cons_succ, List.getElem_toArray, List.getElem_cons_succ, List.getElem_cons_zero]
            refine wpAnyH_done (by kernel_rfl) ?_ _
            clear hHeld kS3
            go_wp2
            go_ret2
            obtain ⟨h1, D, h2, h3⟩ := HE.out
            rw [hsg]
            exact ⟨h1, .inr ⟨OK.out, _, D, rfl, h2, h3⟩⟩
end Go.Proofs.YtblpdnchphhcaabDoor
