import Derived.Test.YtnlbomggadflmaaFm
namespace Go.Proofs.Ytnlbomggadflmaa
open Go.RowKit
set_option linter.unusedVariables false
set_option linter.unusedSimpArgs false
set_option maxRecDepth 100000
theorem yieldsIf_eqlU {ops : Array Oper} {S : World → Prop} {op : Oper} {a : Act} (hw : Region.wanted op (yielded ops a.tmps) = true) (t2 : TypeId) (x y : Operand) (ho : op.op = .binOp .eql 31 x y t2) (P : Nat → Pr) (nx : Int) (hx : a.eval x = .agg (tl P nx).toArray) (hy : a.eval y = .agg (tl P nx).toArray) : YieldsIf Try.prog ops S op (.bool true) a :=
  .inl ⟨hw, fun w _ => by
    unfold execOp
    simp only [ho, hx, hy, Sem.run_bind, guard_table, eql_table, Result.andThen_ok, Sem.run_pure, show tEq P P nx nx = true by simp [tEq, sEq_iff]]⟩
section
attribute [local irreducible] sl tl
variable {w : World}
set_option maxHeartbeats 4000000 in
theorem froms_walk {q : Option Addr} {m c : Nat} {A : Nat → Int × Pr} (h : ArgS w q m c A) (nx : Int) : Calls Try.prog 3 #[.agg #[.slice q m c, .int .i64 nx]] w fun e w' => e = .returned (.bool true) ∧ Below w.heap.size w w' := by
  have HB : Hid (Below w.heap.size w (w.alloc (.cells #[.slice q m c, .int .i64 nx] 24))) := below1 _ _
  have k1 := table_any h HB.out nx
  clear h
  go_enter Try.func3, Try.ntmps3
  go_wp2_with fail
  refine k1.mono ?_
  rintro e w1 ⟨⟨P, rfl⟩, hb1⟩
  have H1 : Hid (Below w.heap.size w w1) := HB.out.trans (hb1.mono HB.out.size)
  clear k1 hb1 HB
  rename_i K1 hK1
  refine hK1 _ _ ?_
  clear hK1 K1
  refine wpList_laid (P := P) (nx := nx) 3 7 _ _ rfl rfl rfl rfl rfl rfl rfl rfl ?_
  intro w2 hT2 hb2
  simp only [Act.put, List.setIfInBounds_toArray, List.set_cons_zero, List.set_cons_succ]
  have H2 : Hid (Below w.heap.size w w2 ∧ Tb w2 w1.heap.size P nx) := ⟨H1.out.trans (hb2.mono H1.out.size), hT2⟩
  have hwy : w.heap.size ≤ w1.heap.size := H1.out.size
  generalize w1.heap.size = y at *
  clear hT2 hb2 H1
  obtain ⟨T, hTT⟩ : ∃ T, T = (tl P nx).toArray := ⟨_, rfl⟩
  have k2 := lfrom_any (P := P) (nx := nx) w2
  rw [← hTT] at k2 ⊢
  have HTT : Hid (T = (tl P nx).toArray) := hTT
  clear hTT
  go_upto_region 2 with fail
  refine wp_region_lit ?_
  refine wpList_load_mid rfl 31 (.tmp 3) rfl y 0 rfl (tl P nx) _ H2.out.2.rg Try.underlying31 rfl (by rw [tl_len]; exact info_tab) ?_
  rw [← HTT.out]
  simp only [Act.put, List.setIfInBounds_toArray, List.set_cons_zero, List.set_cons_succ]
  go_wp2_with fail
  refine k2.mono ?_
  rintro e w3 ⟨hb3, hm⟩
  have H3 : Hid (Below w.heap.size w w3 ∧ Tb w3 y P nx) := ⟨H2.out.1.trans (hb3.mono H2.out.1.size), H2.out.2.bel hb3⟩
  clear k2 hb3 H2
  rcases hm with ⟨hI, rfl⟩ | ⟨hI, p, t, r, rfl, hp, cp, _, _, hTt, _⟩
  · go_wp2
    go_ret
    exact ⟨rfl, H3.out.1⟩
  · have HI : Hid (Inv P nx) := hI
    have HS : Hid (Tb w3 t P nx ∧ Tb w3 y P nx ∧ Below w.heap.size w w3 ∧ w3.cell? ⟨p, 0, .none⟩ = some (.pointer (some ⟨t, 0, .none⟩))) := ⟨hTt, H3.out.2, H3.out.1, cp⟩
    clear hI hTt cp H3
    go_upto_region 5 with fail
    refine wp_region_held_drew (S := (fun W => Tb W t P nx ∧ Tb W y P nx ∧ Below w.heap.size w W ∧ W.cell? ⟨p, 0, .none⟩ = some (.pointer (some ⟨t, 0, .none⟩)))) (by kernel_rfl) ⟨HS.out.1.keep rfl, HS.out.2.1.keep rfl, below_drw HS.out.2.2.1, HS.out.2.2.2⟩ (fun hHeld => ?_)
    refine wpAnyH_take (i := 0) (v := (.pointer (some ⟨p, 0, .none⟩))) rfl (by kernel_rfl) (by kernel_rfl) (by kernel_rfl) (fun _ _ _ h => h) (Or.inl ⟨by rfl, fun ww hSw => by (try dsimp only at hSw); go_simp⟩) (by assumption) ?_
    simp only [Act.put, List.setIfInBounds_toArray, List.set_cons_zero, List.set_cons_succ, List.getElem_toArray, List.getElem_cons_succ, List.getElem_cons_zero]
    refine wpAnyH_take (i := 1) (v := (.pointer (some ⟨p, 0, .none⟩))) rfl (by kernel_rfl) (by kernel_rfl) (by kernel_rfl) (fun _ _ _ h => h) (Or.inl ⟨by rfl, fun ww hSw => by (try dsimp only at hSw); go_simp⟩) (by assumption) ?_
    simp only [Act.put, List.setIfInBounds_toArray, List.set_cons_zero, List.set_cons_succ, List.getElem_toArray, List.getElem_cons_succ, List.getElem_cons_zero]
    refine wpAnyH_take (i := 2) (v := (.pointer (some ⟨p, 0, .none⟩))) rfl (by kernel_rfl) (by kernel_rfl) (by kernel_rfl) (fun _ _ _ h => h) (Or.inl ⟨by rfl, fun ww hSw => by (try dsimp only at hSw); go_simp⟩) (by assumption) ?_
    simp only [Act.put, List.setIfInBounds_toArray, List.set_cons_zero, List.set_cons_succ, List.getElem_toArray, List.getElem_cons_succ, List.getElem_cons_zero]
    refine wpAnyH_take (i := 3) (v := (.pointer (some ⟨t, 0, .none⟩))) rfl (by kernel_rfl) (by kernel_rfl) (by kernel_rfl) (fun _ _ _ h => h) (Or.inl ⟨by rfl, fun ww hSw => by (try dsimp only at hSw); have c7 := hSw.2.2.2; go_simp⟩) (by assumption) ?_
    simp only [Act.put, List.setIfInBounds_toArray, List.set_cons_zero, List.set_cons_succ, List.getElem_toArray, List.getElem_cons_succ, List.getElem_cons_zero]
    refine wpAnyH_take (i := 5) (v := (.agg (tl P nx).toArray)) rfl (by kernel_rfl) (by kernel_rfl) (by kernel_rfl) (fun _ _ _ h => h) (yieldsIf_load_mid (by rfl) 31 (.tmp 3) rfl y 0 rfl (tl P nx) _ (fun W hW => hW.2.1.rg) Try.underlying31 rfl (by rw [tl_len]; exact info_tab)) (by assumption) ?_
    simp only [Act.put, List.setIfInBounds_toArray, List.set_cons_zero, List.set_cons_succ, List.getElem_toArray, List.getElem_cons_succ, List.getElem_cons_zero]
    refine wpAnyH_ready (rs := [4]) (by kernel_rfl) (by simp) ?_
    refine AllReadyH.cons rfl (fun K hK => ?_) AllReadyH.nil
    have ks := state_any hHeld.1 HI.out.n1
    rw [← HTT.out] at ks
    go_simp
    refine ks.mono ?_
    rintro e w8 ⟨rfl, hb8⟩
    have kS : Tb w8 t P nx ∧ Tb w8 y P nx ∧ Below w.heap.size w w8 ∧ w8.cell? ⟨p, 0, .none⟩ = some (.pointer (some ⟨t, 0, .none⟩)) := ⟨hHeld.1.bel hb8, hHeld.2.1.bel hb8, hHeld.2.2.1.trans (hb8.mono hHeld.2.2.1.size), (hb8.cell (p := ⟨p, 0, .none⟩) (lt_cell hHeld.2.2.2)).trans hHeld.2.2.2⟩
    clear ks hb8
    refine hK.out _ _ kS (fun hHeld => ?_)
    clear hK K
    try simp only [Act.put, List.setIfInBounds_toArray, List.set_cons_zero, List.set_cons_succ, List.getElem_toArray, List.getElem_cons_succ, List.getElem_cons_zero]
    refine wpAnyH_take (i := 6) (v := (.bool true)) rfl (by kernel_rfl) (by kernel_rfl) (by kernel_rfl) (fun _ _ _ h => h) (yieldsIf_eqlU (by rfl) _ (.tmp 20) (.tmp 21) rfl P nx (congrArg Value.agg HTT.out) rfl) (by assumption) ?_
    simp only [Act.put, List.setIfInBounds_toArray, List.set_cons_zero, List.set_cons_succ, List.getElem_toArray, List.getElem_cons_succ, List.getElem_cons_zero]
    refine wpAnyH_ready (rs := [7]) (by kernel_rfl) (by simp) ?_
    refine AllReadyH.cons rfl (fun K hK => ?_) AllReadyH.nil
    go_simp
    refine hK.out _ _ hHeld (fun hHeld => ?_)
    clear hK K
    try simp only [Act.put, List.setIfInBounds_toArray, List.set_cons_zero, List.set_cons_succ, List.getElem_toArray, List.getElem_cons_succ, List.getElem_cons_zero]
    refine wpAnyH_done (by kernel_rfl) ?_ _
    go_wp2
    go_ret
    exact ⟨rfl, hHeld.2.2.1⟩
end
end Go.Proofs.Ytnlbomggadflmaa
