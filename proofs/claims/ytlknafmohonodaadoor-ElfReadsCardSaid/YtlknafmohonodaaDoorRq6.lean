import Derived.Test.YtlknafmohonodaaDoorRq3
namespace Go.Proofs.YtlknafmohonodaaDoor
open Go.RowKit
set_option linter.unusedVariables false
set_option linter.unusedSimpArgs false
set_option maxHeartbeats 4000000 in
set_option maxRecDepth 100000 in
theorem copyBytes_any {p : Option Addr} {n c : Nat} {xs : List Int} {w : World} (h : Byt w p n c xs) (hn : n < 2000000) : Calls Tryd.prog 10 #[.slice p n c] w (Gb xs w) := by
  obtain ⟨hl, k1, m1, h1⟩ := h
  have m1 : c ≤ 9223372036854775807 := m1
  have HX : Hid (xs.length = n) := hl
  obtain ⟨i3, z3, hi3, hz3, hs3, hb3, hzs3⟩ := byte_info
  have HI : Hid (Tryd.prog.info? 5 = some i3 ∧ i3.zero = some z3 ∧ i3.size = 1 ∧ i3.bytes = 1 ∧ z3.cells.size = 1) := ⟨hi3, hz3, hs3, hb3, hzs3⟩
  clear hi3 hz3 hs3 hb3 hzs3
  by_cases h0 : n = 0
  · subst h0
    obtain rfl : xs = [] := List.eq_nil_of_length_eq_zero hl
    clear h1 hl
    go_enter Tryd.func10, Tryd.ntmps10
    go_wp2
    go_loopw [3, 4] (fun v k wr => v = .slice none 0 0 ∧ k = .int .i64 0 ∧ wr = w) (fun _ _ _ => 0)
    case atStart => exact ⟨rfl, rfl, rfl⟩
    case round =>
      obtain ⟨rfl, rfl, rfl⟩ := hrel
      go_wp2
      go_ret
      exact gb_nil _
  · rcases h1 with h1 | ⟨b1, o1, rfl, hb, h1⟩
    · omega
    have H1 : Hid (∀ i x, xs[i]? = some x → w.cell? ⟨b1, o1 + i, .none⟩ = some (.int .u8 x)) := h1
    clear h1 hl h0
    go_enter Tryd.func10, Tryd.ntmps10
    go_wp2
    go_loopw [3, 4] (fun v k wr => ∃ i : Nat, i ≤ n ∧ k = .int .i64 i ∧ ∃ q cq, v = .slice q i cq ∧ Hid (wr.ownsRow w.heap.size 5 1 (.slice q i cq) i (by8 (xs.take i)) ∧ Below w.heap.size w wr)) (fun _ k _ => (n - intOf k).toNat)
    case atStart => exact ⟨0, by omega, rfl, none, 0, rfl, World.ownsRow_nil _ _ _ _, Below.refl _ _⟩
    case round =>
      obtain ⟨i, hi, rfl, q, cq, rfl, HO⟩ := hrel
      by_cases hlt : i < n
      · have g0 : (i : Int) < n := by omega
        have hx : ∃ x, xs[i]? = some x := ⟨xs[i]'(by rw [HX.out]; exact hlt), by simp⟩
        obtain ⟨x, hx⟩ := hx
        have a0 : wr.cell? ⟨b1, o1 + i, .none⟩ = some (.int .u8 x) := (HO.out.2.cell hb).trans (H1.out i x hx)
        have HT : Hid (xs.take i ++ [x] = xs.take (i + 1)) := take_next hx
        have z1 := HO.out.2.size
        clear hx
        go_wp2_with (first | (at_builtin; refine wpList_append_own _ rfl _ _ 22 rfl w.heap.size 5 i3 z3 1 1 Tryd.underlying22 HI.out.1 HI.out.2.1 HI.out.2.2.1 HI.out.2.2.2.1 HI.out.2.2.2.2 (by decide) (.slice q i cq) i (by8 (xs.take i)) rfl (HO.out.1.alloc _) ⟨wr.heap.size, 0, .none⟩ 1 1 (by8 [x]) rfl rfl (le_cell1_new _ _ _) (by8_one _) ?c4 ?c5 ?c6 ?_) | go_in)
        case c4 => simp only [maxLen]; omega
        case c5 => omega
        case c6 => simp only [World.size_alloc]; omega
        intro v' w2 own' grow fb
        clear fb
        obtain ⟨p', c', rfl⟩ := one_slice own'
        have HW : Hid (w2.ownsRow w.heap.size 5 1 (.slice p' (i + 1) c') (i + 1) (by8 (xs.take (i + 1))) ∧ Below w.heap.size w w2) := by
          refine ⟨?_, below_append HO.out.2 _ grow z1 (own_block HO.out.1)⟩
          rw [← HT.out, by8_app]
          exact own'
        clear own' grow
        go_wp2
        exact ⟨⟨i + 1, by omega, rfl, p', c', rfl, HW.out⟩, by simp only [intOf]; omega⟩
      · obtain rfl : i = n := by omega
        clear hi hlt
        go_wp2
        go_ret
        have h := HO.out
        have e := HX.out
        subst e
        rw [List.take_length] at h
        exact ⟨q, cq, rfl, h.1, h.2⟩
set_option maxHeartbeats 4000000 in
set_option maxRecDepth 100000 in
theorem same_any {w : World} {X1 X2 : Nat} {sv1 sv2 : Value} {E1 E2 : List (Sg × Value)} {B : Nat → Int} (h1 : Segs w X1 sv1 E1 B) (h2 : Segs w X2 sv2 E2 B) (he : E1.map (·.1) = E2.map (·.1)) (hl : E1.length ≤ 8) (en : Int) :
    Calls Tryd.prog 8 #[.agg #[.int .u64 en, sv1], .agg #[.int .u64 en, sv2]] w fun e w' => e = .returned (.bool true) ∧ Below w.heap.size w w' := by
  have hlen : E1.length = E2.length := by have := congrArg List.length he; simpa using this
  obtain ⟨q1, cs1, rfl, _⟩ := own_form h1.own
  obtain ⟨q2, cs2, rfl, _⟩ := own_form h2.own
  rw [← hlen]
  have H1 : Hid (Segs w X1 (.slice q1 E1.length cs1) E1 B) := h1
  have H2 : Hid (Segs w X2 (.slice q2 E2.length cs2) E2 B) := h2
  have HE : Hid (E1.map (·.1) = E2.map (·.1)) := he
  have HLn : Hid (E1.length = E2.length) := hlen
  clear h1 h2 he hlen
  have HB : Hid (Below w.heap.size w ((w.alloc (.cells #[.int .u64 en, .slice q1 E1.length cs1] 27)).alloc (.cells #[.int .u64 en, .slice q2 E1.length cs2] 27))) := ((Below.refl _ _).alloc (Nat.le_refl _) _).alloc (by simp only [World.size_alloc]; omega) _
  have HQ : Hid (((w.alloc (.cells #[.int .u64 en, .slice q1 E1.length cs1] 27)).alloc (.cells #[.int .u64 en, .slice q2 E1.length cs2] 27)).cell? ⟨w.heap.size, 1, .none⟩ = some (.slice q1 E1.length cs1) ∧ ((w.alloc (.cells #[.int .u64 en, .slice q1 E1.length cs1] 27)).alloc (.cells #[.int .u64 en, .slice q2 E1.length cs2] 27)).cell? ⟨w.heap.size + 1, 1, .none⟩ = some (.slice q2 E1.length cs2)) := by
    constructor
    · rw [World.cell?_alloc_lt _ _ _ (by simp only [World.size_alloc]; show w.heap.size < w.heap.size + 1; omega)]
      simp
    · exact World.cell?_alloc_at _ _ _ _ (by simp only [World.size_alloc])
  go_enter Tryd.func8, Tryd.ntmps8
  go_wp2_with fail
  generalize ((w.alloc (.cells #[.int .u64 en, .slice q1 E1.length cs1] 27)).alloc (.cells #[.int .u64 en, .slice q2 E1.length cs2] 27)) = W2 at *
  go_loopw [5] (fun a wr => ∃ i : Nat, i ≤ E1.length ∧ a = .int .i64 i ∧ Hid (Below W2.heap.size W2 wr)) (fun a _ => (E1.length - intOf a).toNat)
  case atStart => exact ⟨0, by omega, rfl, Below.refl _ _⟩
  case round =>
    obtain ⟨i, hi, rfl, HR⟩ := hrel
    obtain ⟨Wo, hWo⟩ : ∃ u, u = wr := ⟨_, rfl⟩
    subst hWo
    have b1 := (HR.out.cell (lt_of_cell HQ.out.1)).trans HQ.out.1
    have b2 := (HR.out.cell (lt_of_cell HQ.out.2)).trans HQ.out.2
    by_cases hlt : i < E1.length
    · have g0 : (i : Int) < E1.length := by omega
      obtain ⟨x, hx⟩ : ∃ x, E1[i]? = some x := ⟨E1[i], List.getElem?_eq_getElem hlt⟩
      obtain ⟨z, hz⟩ : ∃ z, E2[i]? = some z := ⟨E2[i]'(by have := HLn.out; omega), List.getElem?_eq_getElem _⟩
      have hxz : x.1 = z.1 := by
        have e := congrArg (fun l => l[i]?) HE.out
        simp only [List.getElem?_map, hx, hz, Option.map_some, Option.some.injEq] at e
        exact e
      have kW : Below w.heap.size w Wo := HB.out.trans (HR.out.mono HB.out.size)
      have S1 := H1.out.below kW
      have S2 := H2.out.below kW
      obtain ⟨f0, f1, f2, f3⟩ := flatE_get E1 _ x hx
      obtain ⟨g, rfl, a0⟩ := own_cell S1.own f0 (by omega) (by omega)
      obtain ⟨g1, e1, a1⟩ := own_cell S1.own f1 (by omega) (by omega)
      obtain ⟨g2, e2, a2⟩ := own_cell S1.own f2 (by omega) (by omega)
      obtain ⟨g3, e3, a3⟩ := own_cell S1.own f3 (by omega) (by omega)
      simp only [Option.some.injEq, Addr.mk.injEq, and_true] at e1 e2 e3
      subst e1 e2 e3
      obtain ⟨f0', f1', f2', f3'⟩ := flatE_get E2 _ z hz
      obtain ⟨h, rfl, a0'⟩ := own_cell S2.own f0' (by have := HLn.out; omega) (by have := HLn.out; omega)
      obtain ⟨h1, e1, a1'⟩ := own_cell S2.own f1' (by have := HLn.out; omega) (by have := HLn.out; omega)
      obtain ⟨h2, e2, a2'⟩ := own_cell S2.own f2' (by have := HLn.out; omega) (by have := HLn.out; omega)
      obtain ⟨h3, e3, a3'⟩ := own_cell S2.own f3' (by have := HLn.out; omega) (by have := HLn.out; omega)
      simp only [Option.some.injEq, Addr.mk.injEq, and_true] at e1 e2 e3
      subst e1 e2 e3
      have D1 := S1.dat x (List.mem_of_getElem? hx)
      have D2 := S2.dat z (List.mem_of_getElem? hz)
      have hgz := (S1.gd x (List.mem_of_getElem? hx)).z
      rw [← hxz] at a0' a1' a3' D2
      obtain ⟨p1, c1, hd1, _⟩ := own_form D1
      obtain ⟨p2, c2, hd2, _⟩ := own_form D2
      rw [hd1] at a2 D1
      rw [hd2] at a2' D2
      have HD : Hid (Wo.ownsRow X1 5 1 (.slice p1 x.1.sz c1) x.1.sz (by8 (byt B x.1)) ∧ Wo.ownsRow X2 5 1 (.slice p2 x.1.sz c2) x.1.sz (by8 (byt B x.1))) := ⟨D1, D2⟩
      have kA : Below Wo.heap.size Wo (Wo.alloc (.cells #[.int .u64 x.1.va, .int .u32 x.1.fl, .slice p1 x.1.sz c1, .int .u64 x.1.mem] 59)) := (Below.refl _ _).alloc (Nat.le_refl _) _
      have a0'' := (kA.cell (lt_of_cell a0')).trans a0'
      have a1'' := (kA.cell (lt_of_cell a1')).trans a1'
      have a2'' := (kA.cell (lt_of_cell a2')).trans a2'
      have a3'' := (kA.cell (lt_of_cell a3')).trans a3'
      have b2'' := (kA.cell (lt_of_cell b2)).trans b2
      have HKB : Hid (Below Wo.heap.size Wo ((Wo.alloc (.cells #[.int .u64 x.1.va, .int .u32 x.1.fl, .slice p1 x.1.sz c1, .int .u64 x.1.mem] 59)).alloc (.cells #[.int .u64 x.1.va, .int .u32 x.1.fl, .slice p2 x.1.sz c2, .int .u64 x.1.mem] 59))) := kA.alloc kA.size _
      have HY : Hid (((Wo.alloc (.cells #[.int .u64 x.1.va, .int .u32 x.1.fl, .slice p1 x.1.sz c1, .int .u64 x.1.mem] 59)).alloc (.cells #[.int .u64 x.1.va, .int .u32 x.1.fl, .slice p2 x.1.sz c2, .int .u64 x.1.mem] 59)).cell? ⟨Wo.heap.size, 2, .none⟩ = some (.slice p1 x.1.sz c1) ∧ ((Wo.alloc (.cells #[.int .u64 x.1.va, .int .u32 x.1.fl, .slice p1 x.1.sz c1, .int .u64 x.1.mem] 59)).alloc (.cells #[.int .u64 x.1.va, .int .u32 x.1.fl, .slice p2 x.1.sz c2, .int .u64 x.1.mem] 59)).cell? ⟨Wo.heap.size + 1, 2, .none⟩ = some (.slice p2 x.1.sz c2)) := by
        constructor
        · rw [World.cell?_alloc_lt _ _ _ (by simp only [World.size_alloc]; show Wo.heap.size < Wo.heap.size + 1; omega)]
          simp
        · exact World.cell?_alloc_at _ _ _ _ (by simp only [World.size_alloc])
      clear f0 f1 f2 f3 f0' f1' f2' f3' S1 S2 D1 D2 hd1 hd2 a0' a1' a2' a3' b2 kA hx hz hxz kW
      go_upto_block 2 with fail
      clear a0 a1 a2 a3 a0'' a1'' a2'' a3'' b1 b2''
      generalize ((Wo.alloc (.cells #[.int .u64 x.1.va, .int .u32 x.1.fl, .slice p1 x.1.sz c1, .int .u64 x.1.mem] 59)).alloc (.cells #[.int .u64 x.1.va, .int .u32 x.1.fl, .slice p2 x.1.sz c2, .int .u64 x.1.mem] 59)) = Wb at *
      go_wp2_with fail
      have HR2 : Hid (Below W2.heap.size W2 Wb) := HR.out.trans (HKB.out.mono HR.out.size)
      go_loopw [8] (fun a wk => ∃ k : Nat, k ≤ x.1.sz ∧ a = .int .i64 k ∧ Hid (Below Wb.heap.size Wb wk)) (fun a _ => (x.1.sz - intOf a).toNat)
      case atStart => exact ⟨0, by omega, rfl, Below.refl _ _⟩
      case round =>
          obtain ⟨k, hk, rfl, HK⟩ := hrel
          have u1 := (HK.out.cell (lt_of_cell HY.out.1)).trans HY.out.1
          by_cases hkl : k < x.1.sz
          · have gk : (k : Int) < x.1.sz := by omega
            have kb := HKB.out.trans (HK.out.mono HKB.out.size)
            have gb : (by8 (byt B x.1))[k]? = some (.int .u8 (B (x.1.wh + k))) := by8_get (byt_get B x.1 k hkl)
            obtain ⟨d1, rfl, v1⟩ := own_cell HD.out.1 gb (by omega) (by omega)
            obtain ⟨d2, rfl, v2⟩ := own_cell HD.out.2 gb (by omega) (by omega)
            have w1 := (kb.cell (lt_of_cell v1)).trans v1
            have w2 := (kb.cell (lt_of_cell v2)).trans v2
            have u2 := (HK.out.cell (lt_of_cell HY.out.2)).trans HY.out.2
            have kS : (wr.drew.cell? ⟨Wo.heap.size, 2, .none⟩ = some (.slice (some ⟨d1, 0, .none⟩) x.1.sz c1) ∧ wr.drew.cell? ⟨Wo.heap.size + 1, 2, .none⟩ = some (.slice (some ⟨d2, 0, .none⟩) x.1.sz c2)) ∧ wr.drew.cell? ⟨d1, k, .none⟩ = some (.int .u8 (B (x.1.wh + k))) ∧ wr.drew.cell? ⟨d2, k, .none⟩ = some (.int .u8 (B (x.1.wh + k))) := ⟨⟨u1, u2⟩, w1, w2⟩
            clear gb v1 v2 kb
            go_upto_region 13 with fail
            refine wp_region_held_drew (S := fun U2 => (U2.cell? ⟨Wo.heap.size, 2, .none⟩ = some (.slice (some ⟨d1, 0, .none⟩) x.1.sz c1) ∧ U2.cell? ⟨Wo.heap.size + 1, 2, .none⟩ = some (.slice (some ⟨d2, 0, .none⟩) x.1.sz c2)) ∧ U2.cell? ⟨d1, k, .none⟩ = some (.int .u8 (B (x.1.wh + k))) ∧ U2.cell? ⟨d2, k, .none⟩ = some (.int .u8 (B (x.1.wh + k)))) (by kernel_rfl) kS (fun hHeld => ?_)
            refine wpAnyH_take (i := 0) (v := (.pointer (some ⟨Wo.heap.size, 2, .none⟩))) rfl (by kernel_rfl) (by kernel_rfl) (by kernel_rfl) (fun _ _ _ h => h) (Or.inl ⟨by rfl, fun ww hSw => by (try dsimp only at hSw); go_simp⟩) (by assumption) ?_
            simp only [Act.put, List.setIfInBounds_toArray, List.set_cons_zero, List.set_cons_succ, List.getElem_toArray, List.getElem_cons_succ, List.getElem_cons_zero]
            refine wpAnyH_take (i := 1) (v := (.slice (some ⟨d1, 0, .none⟩) x.1.sz c1)) rfl (by kernel_rfl) (by kernel_rfl) (by kernel_rfl) (fun _ _ _ h => h) (Or.inl ⟨by rfl, fun ww hSw => by (try dsimp only at hSw); go_simp⟩) (by assumption) ?_
            simp only [Act.put, List.setIfInBounds_toArray, List.set_cons_zero, List.set_cons_succ, List.getElem_toArray, List.getElem_cons_succ, List.getElem_cons_zero]
            refine wpAnyH_take (i := 2) (v := (.int .i64 k)) rfl (by kernel_rfl) (by kernel_rfl) (by kernel_rfl) (fun _ _ _ h => h) (Or.inl ⟨by rfl, fun ww hSw => by (try dsimp only at hSw); go_simp⟩) (by assumption) ?_
            simp only [Act.put, List.setIfInBounds_toArray, List.set_cons_zero, List.set_cons_succ, List.getElem_toArray, List.getElem_cons_succ, List.getElem_cons_zero]
            refine wpAnyH_take (i := 3) (v := (.pointer (some ⟨d1, k, .none⟩))) rfl (by kernel_rfl) (by kernel_rfl) (by kernel_rfl) (fun _ _ _ h => h) (Or.inl ⟨by rfl, fun ww hSw => by (try dsimp only at hSw); go_simp⟩) (by assumption) ?_
            simp only [Act.put, List.setIfInBounds_toArray, List.set_cons_zero, List.set_cons_succ, List.getElem_toArray, List.getElem_cons_succ, List.getElem_cons_zero]
            refine wpAnyH_take (i := 4) (v := (.int .u8 (B (x.1.wh + k)))) rfl (by kernel_rfl) (by kernel_rfl) (by kernel_rfl) (fun _ _ _ h => h) (Or.inl ⟨by rfl, fun ww hSw => by (try dsimp only at hSw); go_simp⟩) (by assumption) ?_
            simp only [Act.put, List.setIfInBounds_toArray, List.set_cons_zero, List.set_cons_succ, List.getElem_toArray, List.getElem_cons_succ, List.getElem_cons_zero]
            refine wpAnyH_take (i := 5) (v := (.pointer (some ⟨Wo.heap.size + 1, 2, .none⟩))) rfl (by kernel_rfl) (by kernel_rfl) (by kernel_rfl) (fun _ _ _ h => h) (Or.inl ⟨by rfl, fun ww hSw => by (try dsimp only at hSw); go_simp⟩) (by assumption) ?_
            simp only [Act.put, List.setIfInBounds_toArray, List.set_cons_zero, List.set_cons_succ, List.getElem_toArray, List.getElem_cons_succ, List.getElem_cons_zero]
            refine wpAnyH_take (i := 6) (v := (.slice (some ⟨d2, 0, .none⟩) x.1.sz c2)) rfl (by kernel_rfl) (by kernel_rfl) (by kernel_rfl) (fun _ _ _ h => h) (Or.inl ⟨by rfl, fun ww hSw => by (try dsimp only at hSw); go_simp⟩) (by assumption) ?_
            simp only [Act.put, List.setIfInBounds_toArray, List.set_cons_zero, List.set_cons_succ, List.getElem_toArray, List.getElem_cons_succ, List.getElem_cons_zero]
            refine wpAnyH_take (i := 7) (v := (.int .i64 k)) rfl (by kernel_rfl) (by kernel_rfl) (by kernel_rfl) (fun _ _ _ h => h) (Or.inl ⟨by rfl, fun ww hSw => by (try dsimp only at hSw); go_simp⟩) (by assumption) ?_
            simp only [Act.put, List.setIfInBounds_toArray, List.set_cons_zero, List.set_cons_succ, List.getElem_toArray, List.getElem_cons_succ, List.getElem_cons_zero]
            refine wpAnyH_take (i := 8) (v := (.pointer (some ⟨d2, k, .none⟩))) rfl (by kernel_rfl) (by kernel_rfl) (by kernel_rfl) (fun _ _ _ h => h) (Or.inl ⟨by rfl, fun ww hSw => by (try dsimp only at hSw); go_simp⟩) (by assumption) ?_
            simp only [Act.put, List.setIfInBounds_toArray, List.set_cons_zero, List.set_cons_succ, List.getElem_toArray, List.getElem_cons_succ, List.getElem_cons_zero]
            refine wpAnyH_take (i := 9) (v := (.int .u8 (B (x.1.wh + k)))) rfl (by kernel_rfl) (by kernel_rfl) (by kernel_rfl) (fun _ _ _ h => h) (Or.inl ⟨by rfl, fun ww hSw => by (try dsimp only at hSw); go_simp⟩) (by assumption) ?_
            simp only [Act.put, List.setIfInBounds_toArray, List.set_cons_zero, List.set_cons_succ, List.getElem_toArray, List.getElem_cons_succ, List.getElem_cons_zero]
            refine wpAnyH_take (i := 10) (v := (.bool false)) rfl (by kernel_rfl) (by kernel_rfl) (by kernel_rfl) (fun _ _ _ h => h) (Or.inl ⟨by rfl, fun ww hSw => by (try dsimp only at hSw); go_simp⟩) (by assumption) ?_
            simp only [Act.put, List.setIfInBounds_toArray, List.set_cons_zero, List.set_cons_succ, List.getElem_toArray, List.getElem_cons_succ, List.getElem_cons_zero]
            refine wpAnyH_done (by kernel_rfl) ?_ _
            clear hHeld kS w1 w2 u2 u1
            go_wp2_with fail
            exact ⟨⟨k + 1, by omega, by simp, HK.out.drew⟩, by simp [intOf]; omega⟩
          · have hn8 : ¬ ((k : Int) < x.1.sz) := by omega
            go_wp2_with fail
            exact ⟨⟨i + 1, by omega, by simp, HR2.out.trans (HK.out.mono HR2.out.size)⟩, by simp [intOf]; omega⟩
    · have hn : ¬ ((i : Int) < E1.length) := by omega
      go_wp2_with fail
      go_ret
      exact ⟨rfl, HB.out.trans (HR.out.mono HB.out.size)⟩
end Go.Proofs.YtlknafmohonodaaDoor
