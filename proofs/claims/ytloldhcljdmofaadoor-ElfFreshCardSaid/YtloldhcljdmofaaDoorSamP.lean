import Derived.Test.YtloldhcljdmofaaDoorTn
namespace Go.Proofs.YtloldhcljdmofaaDoor
open Go.RowKit
set_option linter.unusedVariables false
set_option linter.unusedSimpArgs false
set_option maxHeartbeats 4000000 in
set_option maxRecDepth 100000 in
theorem sameP_any {w : World} {X1 : Nat} {sv1 : Value} {q2 : Option Addr} {cs2 : Nat} {S : Nat → Sr} {D : Nat → List Int} {E1 : List (Sg × Value)} {B : Nat → Int} (h1 : Prs w X1 sv1 E1 B) (h2 : Arg w q2 E1.length cs2 S D) (he : ∀ i x, E1[i]? = some x → (S i).va = x.1.va ∧ (S i).fl = x.1.fl ∧ (S i).mem = x.1.mem ∧ (S i).n = x.1.sz ∧ D i = byt B x.1) (hl : E1.length ≤ 1000) (en : Int) :
    Calls Tryd.prog 18 #[.agg #[.int .u64 en, sv1], .agg #[.int .u64 en, .slice q2 E1.length cs2]] w fun e w' => e = .returned (.bool true) ∧ Below w.heap.size w w' := by
  obtain ⟨q1, cs1, rfl, _⟩ := own_form h1.own
  have H1 : Hid (Prs w X1 (.slice q1 E1.length cs1) E1 B) := h1
  have H2 : Hid (Arg w q2 E1.length cs2 S D) := h2
  have HE : Hid (∀ i x, E1[i]? = some x → (S i).va = x.1.va ∧ (S i).fl = x.1.fl ∧ (S i).mem = x.1.mem ∧ (S i).n = x.1.sz ∧ D i = byt B x.1) := he
  clear h1 h2 he
  have HB : Hid (Below w.heap.size w ((w.alloc (.cells #[.int .u64 en, .slice q1 E1.length cs1] 25)).alloc (.cells #[.int .u64 en, .slice q2 E1.length cs2] 25))) := ((Below.refl _ _).alloc (Nat.le_refl _) _).alloc (by simp only [World.size_alloc]; omega) _
  have HQ : Hid (((w.alloc (.cells #[.int .u64 en, .slice q1 E1.length cs1] 25)).alloc (.cells #[.int .u64 en, .slice q2 E1.length cs2] 25)).cell? ⟨w.heap.size, 1, .none⟩ = some (.slice q1 E1.length cs1) ∧ ((w.alloc (.cells #[.int .u64 en, .slice q1 E1.length cs1] 25)).alloc (.cells #[.int .u64 en, .slice q2 E1.length cs2] 25)).cell? ⟨w.heap.size + 1, 1, .none⟩ = some (.slice q2 E1.length cs2)) := by
    constructor
    · rw [World.cell?_alloc_lt _ _ _ (by simp only [World.size_alloc]; show w.heap.size < w.heap.size + 1; omega)]
      simp
    · exact World.cell?_alloc_at _ _ _ _ (by simp only [World.size_alloc])
  go_enter Tryd.func18, Tryd.ntmps18
  go_wp2_with fail
  generalize ((w.alloc (.cells #[.int .u64 en, .slice q1 E1.length cs1] 25)).alloc (.cells #[.int .u64 en, .slice q2 E1.length cs2] 25)) = W2 at *
  go_loopw [5] (fun a wr => ∃ i : Nat, i ≤ E1.length ∧ a = .int .i64 i ∧ Hid (Below W2.heap.size W2 wr)) (fun a _ => (E1.length - intOf a).toNat)
  case atStart => exact ⟨0, by omega, rfl, Below.refl _ _⟩
  case round =>
    obtain ⟨i, hi, rfl, HR⟩ := hrel
    obtain ⟨Wo, hWo⟩ : ∃ u, u = wr := ⟨_, rfl⟩
    subst hWo
    have b1 := (HR.out.cell (lt_of_cell HQ.out.1)).trans HQ.out.1
    have b2 := (HR.out.cell (lt_of_cell HQ.out.2)).trans HQ.out.2
    by_cases hlt : i < E1.length
    · have g0 : (i : Int) < E1.length := by omega
      obtain ⟨x, hx⟩ : ∃ x, E1[i]? = some x := ⟨E1[i], List.getElem?_eq_getElem hlt⟩
      obtain ⟨y0, y1, y2, y3, y4⟩ := HE.out i x hx
      have kW : Below w.heap.size w Wo := HB.out.trans (HR.out.mono HB.out.size)
      have S1 := H1.out.below kW
      have S2 := H2.out.below kW
      obtain ⟨f0, f1, f2, f3⟩ := flatE_get E1 _ x hx
      obtain ⟨g, rfl, a0⟩ := own_cell S1.own f0 (by omega) (by omega)
      obtain ⟨g1, e1, a1⟩ := own_cell S1.own f1 (by omega) (by omega)
      obtain ⟨g2, e2, a2⟩ := own_cell S1.own f2 (by omega) (by omega)
      obtain ⟨g3, e3, a3⟩ := own_cell S1.own f3 (by omega) (by omega)
      simp only [Option.some.injEq, Addr.mk.injEq, and_true] at e1 e2 e3
      subst e1 e2 e3
      obtain ⟨h, oh, rfl, a0', a1', a2', a3'⟩ := S2.seg hlt
      have D1 := S1.dat x (List.mem_of_getElem? hx)
      have D2 := S2.dat i hlt
      have hgz := S1.sz x (List.mem_of_getElem? hx)
      rw [y0] at a0'
      rw [y1] at a1'
      rw [y2] at a3'
      rw [y3] at a2' D2
      rw [y4] at D2
      clear y0 y1 y2 y3 y4
      generalize (S i).q = p2 at *
      generalize (S i).c = c2 at *
      obtain ⟨p1, c1, hd1, _⟩ := own_form D1
      rw [hd1] at a2 D1
      have hc2 : x.1.sz ≤ c2 ∧ c2 ≤ 9223372036854775807 := ⟨D2.2.1, D2.2.2.1⟩
      have HD : Hid (Wo.ownsRow X1 5 1 (.slice p1 x.1.sz c1) x.1.sz (by8 (byt B x.1)) ∧ Byt Wo p2 x.1.sz c2 (byt B x.1)) := ⟨D1, D2⟩
      have kA : Below Wo.heap.size Wo (Wo.alloc (.cells #[.int .u64 x.1.va, .int .u32 x.1.fl, .slice p1 x.1.sz c1, .int .u64 x.1.mem] 54)) := (Below.refl _ _).alloc (Nat.le_refl _) _
      have a0'' := (kA.cell (lt_of_cell a0')).trans a0'
      have a1'' := (kA.cell (lt_of_cell a1')).trans a1'
      have a2'' := (kA.cell (lt_of_cell a2')).trans a2'
      have a3'' := (kA.cell (lt_of_cell a3')).trans a3'
      have b2'' := (kA.cell (lt_of_cell b2)).trans b2
      have HKB : Hid (Below Wo.heap.size Wo ((Wo.alloc (.cells #[.int .u64 x.1.va, .int .u32 x.1.fl, .slice p1 x.1.sz c1, .int .u64 x.1.mem] 54)).alloc (.cells #[.int .u64 x.1.va, .int .u32 x.1.fl, .slice p2 x.1.sz c2, .int .u64 x.1.mem] 54))) := kA.alloc kA.size _
      have HY : Hid (((Wo.alloc (.cells #[.int .u64 x.1.va, .int .u32 x.1.fl, .slice p1 x.1.sz c1, .int .u64 x.1.mem] 54)).alloc (.cells #[.int .u64 x.1.va, .int .u32 x.1.fl, .slice p2 x.1.sz c2, .int .u64 x.1.mem] 54)).cell? ⟨Wo.heap.size, 2, .none⟩ = some (.slice p1 x.1.sz c1) ∧ ((Wo.alloc (.cells #[.int .u64 x.1.va, .int .u32 x.1.fl, .slice p1 x.1.sz c1, .int .u64 x.1.mem] 54)).alloc (.cells #[.int .u64 x.1.va, .int .u32 x.1.fl, .slice p2 x.1.sz c2, .int .u64 x.1.mem] 54)).cell? ⟨Wo.heap.size + 1, 2, .none⟩ = some (.slice p2 x.1.sz c2)) := by
        constructor
        · rw [World.cell?_alloc_lt _ _ _ (by simp only [World.size_alloc]; show Wo.heap.size < Wo.heap.size + 1; omega)]
          simp
        · exact World.cell?_alloc_at _ _ _ _ (by simp only [World.size_alloc])
      clear f0 f1 f2 f3 S1 S2 D1 D2 hd1 a0' a1' a2' a3' b2 kA hx kW
      go_upto_block 2 with fail
      clear a0 a1 a2 a3 a0'' a1'' a2'' a3'' b1 b2''
      generalize ((Wo.alloc (.cells #[.int .u64 x.1.va, .int .u32 x.1.fl, .slice p1 x.1.sz c1, .int .u64 x.1.mem] 54)).alloc (.cells #[.int .u64 x.1.va, .int .u32 x.1.fl, .slice p2 x.1.sz c2, .int .u64 x.1.mem] 54)) = Wb at *
      go_wp2_with fail
      have HR2 : Hid (Below W2.heap.size W2 Wb) := HR.out.trans (HKB.out.mono HR.out.size)
      go_loopw [8] (fun a wk => ∃ k : Nat, k ≤ x.1.sz ∧ a = .int .i64 k ∧ Hid (Below Wb.heap.size Wb wk)) (fun a _ => (x.1.sz - intOf a).toNat)
      case atStart => exact ⟨0, by omega, rfl, Below.refl _ _⟩
      case round =>
          obtain ⟨k, hk, rfl, HK⟩ := hrel
          have u1 := (HK.out.cell (lt_of_cell HY.out.1)).trans HY.out.1
          by_cases hkl : k < x.1.sz
          · have gk : (k : Int) < x.1.sz := by omega
            have kb := HKB.out.trans (HK.out.mono HKB.out.size)
            have gb : (by8 (byt B x.1))[k]? = some (.int .u8 (B (x.1.wh + k))) := by8_get (byt_get B x.1 k hkl)
            obtain ⟨d1, rfl, v1⟩ := own_cell HD.out.1 gb (by omega) (by omega)
            obtain ⟨d2, od, rfl, v2⟩ : ∃ d2 od, p2 = some ⟨d2, od, .none⟩ ∧ Wo.cell? ⟨d2, od + k, .none⟩ = some (.int .u8 (B (x.1.wh + k))) := by
              rcases HD.out.2.2.2.2 with h0 | ⟨b, o, e, _, hh⟩
              · omega
              · exact ⟨b, o, e, hh k _ (byt_get B x.1 k hkl)⟩
            have w1 := (kb.cell (lt_of_cell v1)).trans v1
            have w2 := (kb.cell (lt_of_cell v2)).trans v2
            have u2 := (HK.out.cell (lt_of_cell HY.out.2)).trans HY.out.2
            have kS : (wr.drew.cell? ⟨Wo.heap.size, 2, .none⟩ = some (.slice (some ⟨d1, 0, .none⟩) x.1.sz c1) ∧ wr.drew.cell? ⟨Wo.heap.size + 1, 2, .none⟩ = some (.slice (some ⟨d2, od, .none⟩) x.1.sz c2)) ∧ wr.drew.cell? ⟨d1, k, .none⟩ = some (.int .u8 (B (x.1.wh + k))) ∧ wr.drew.cell? ⟨d2, od + k, .none⟩ = some (.int .u8 (B (x.1.wh + k))) := ⟨⟨u1, u2⟩, w1, w2⟩
            clear gb v1 v2 kb
            go_upto_region 13 with fail
            refine wp_region_held_drew (S := fun U2 => (U2.cell? ⟨Wo.heap.size, 2, .none⟩ = some (.slice (some ⟨d1, 0, .none⟩) x.1.sz c1) ∧ U2.cell? ⟨Wo.heap.size + 1, 2, .none⟩ = some (.slice (some ⟨d2, od, .none⟩) x.1.sz c2)) ∧ U2.cell? ⟨d1, k, .none⟩ = some (.int .u8 (B (x.1.wh + k))) ∧ U2.cell? ⟨d2, od + k, .none⟩ = some (.int .u8 (B (x.1.wh + k)))) (by kernel_rfl) kS (fun hHeld => ?_)
            refine wpAnyH_take (i := 0) (v := (.pointer (some ⟨Wo.heap.size, 2, .none⟩))) rfl (by kernel_rfl) (by kernel_rfl) (by kernel_rfl) (fun _ _ _ h => h) (Or.inl ⟨by rfl, fun ww hSw => by (try dsimp only at hSw); go_simp⟩) (by assumption) ?_
            simp only [Act.put, List.setIfInBounds_toArray, List.set_cons_zero, List.set_cons_succ, List.getElem_toArray, List.getElem_cons_succ, List.getElem_cons_zero]
            refine wpAnyH_take (i := 1) (v := (.slice (some ⟨d1, 0, .none⟩) x.1.sz c1)) rfl (by kernel_rfl) (by kernel_rfl) (by kernel_rfl) (fun _ _ _ h => h) (Or.inl ⟨by rfl, fun ww hSw => by (try dsimp only at hSw); go_simp⟩) (by assumption) ?_
            simp only [Act.put, List.setIfInBounds_toArray, List.set_cons_zero, List.set_cons_succ, List.getElem_toArray, List.getElem_cons_succ, List.getElem_cons_zero]
            refine wpAnyH_take (i := 2) (v := (.int .i64 k)) rfl (by kernel_rfl) (by kernel_rfl) (by kernel_rfl) (fun _ _ _ h => h) (Or.inl ⟨by rfl, fun ww hSw => by (try dsimp only at hSw); go_simp⟩) (by assumption) ?_
            simp only [Act.put, List.setIfInBounds_toArray, List.set_cons_zero, List.set_cons_succ, List.getElem_toArray, List.getElem_cons_succ, List.getElem_cons_zero]
            refine wpAnyH_take (i := 3) (v := (.pointer (some ⟨d1, k, .none⟩))) rfl (by kernel_rfl) (by kernel_rfl) (by kernel_rfl) (fun _ _ _ h => h) (Or.inl ⟨by rfl, fun ww hSw => by (try dsimp only at hSw); go_simp⟩) (by assumption) ?_
            simp only [Act.put, List.setIfInBounds_toArray, List.set_cons_zero, List.set_cons_succ, List.getElem_toArray, List.getElem_cons_succ, List.getElem_cons_zero]
            refine wpAnyH_take (i := 4) (v := (.int .u8 (B (x.1.wh + k)))) rfl (by kernel_rfl) (by kernel_rfl) (by kernel_rfl) (fun _ _ _ h => h) (Or.inl ⟨by rfl, fun ww hSw => by (try dsimp only at hSw); go_simp⟩) (by assumption) ?_
            simp only [Act.put, List.setIfInBounds_toArray, List.set_cons_zero, List.set_cons_succ, List.getElem_toArray, List.getElem_cons_succ, List.getElem_cons_zero]
            refine wpAnyH_take (i := 5) (v := (.pointer (some ⟨Wo.heap.size + 1, 2, .none⟩))) rfl (by kernel_rfl) (by kernel_rfl) (by kernel_rfl) (fun _ _ _ h => h) (Or.inl ⟨by rfl, fun ww hSw => by (try dsimp only at hSw); go_simp⟩) (by assumption) ?_
            simp only [Act.put, List.setIfInBounds_toArray, List.set_cons_zero, List.set_cons_succ, List.getElem_toArray, List.getElem_cons_succ, List.getElem_cons_zero]
            refine wpAnyH_take (i := 6) (v := (.slice (some ⟨d2, od, .none⟩) x.1.sz c2)) rfl (by kernel_rfl) (by kernel_rfl) (by kernel_rfl) (fun _ _ _ h => h) (Or.inl ⟨by rfl, fun ww hSw => by (try dsimp only at hSw); go_simp⟩) (by assumption) ?_
            simp only [Act.put, List.setIfInBounds_toArray, List.set_cons_zero, List.set_cons_succ, List.getElem_toArray, List.getElem_cons_succ, List.getElem_cons_zero]
            refine wpAnyH_take (i := 7) (v := (.int .i64 k)) rfl (by kernel_rfl) (by kernel_rfl) (by kernel_rfl) (fun _ _ _ h => h) (Or.inl ⟨by rfl, fun ww hSw => by (try dsimp only at hSw); go_simp⟩) (by assumption) ?_
            simp only [Act.put, List.setIfInBounds_toArray, List.set_cons_zero, List.set_cons_succ, List.getElem_toArray, List.getElem_cons_succ, List.getElem_cons_zero]
            refine wpAnyH_take (i := 8) (v := (.pointer (some ⟨d2, od + k, .none⟩))) rfl (by kernel_rfl) (by kernel_rfl) (by kernel_rfl) (fun _ _ _ h => h) (Or.inl ⟨by rfl, fun ww hSw => by (try dsimp only at hSw); go_simp⟩) (by assumption) ?_
            simp only [Act.put, List.setIfInBounds_toArray, List.set_cons_zero, List.set_cons_succ, List.getElem_toArray, List.getElem_cons_succ, List.getElem_cons_zero]
            refine wpAnyH_take (i := 9) (v := (.int .u8 (B (x.1.wh + k)))) rfl (by kernel_rfl) (by kernel_rfl) (by kernel_rfl) (fun _ _ _ h => h) (Or.inl ⟨by rfl, fun ww hSw => by (try dsimp only at hSw); go_simp⟩) (by assumption) ?_
            simp only [Act.put, List.setIfInBounds_toArray, List.set_cons_zero, List.set_cons_succ, List.getElem_toArray, List.getElem_cons_succ, List.getElem_cons_zero]
            refine wpAnyH_take (i := 10) (v := (.bool false)) rfl (by kernel_rfl) (by kernel_rfl) (by kernel_rfl) (fun _ _ _ h => h) (Or.inl ⟨by rfl, fun ww hSw => by (try dsimp only at hSw); go_simp⟩) (by assumption) ?_
            simp only [Act.put, List.setIfInBounds_toArray, List.set_cons_zero, List.set_cons_succ, List.getElem_toArray, List.getElem_cons_succ, List.getElem_cons_zero]
            refine wpAnyH_done (by kernel_rfl) ?_ _
            clear hHeld kS w1 w2 u2 u1
            go_wp2_with fail
            exact ⟨⟨k + 1, by omega, by simp, HK.out.drew⟩, by simp [intOf]; omega⟩
          · have hn8 : ¬ ((k : Int) < x.1.sz) := by omega
            go_wp2_with fail
            exact ⟨⟨i + 1, by omega, by simp, HR2.out.trans (HK.out.mono HR2.out.size)⟩, by simp [intOf]; omega⟩
    · have hn : ¬ ((i : Int) < E1.length) := by omega
      go_wp2_with fail
      go_ret
      exact ⟨rfl, HB.out.trans (HR.out.mono HB.out.size)⟩
end Go.Proofs.YtloldhcljdmofaaDoor
