import Derived.Test.YtnlbomggadflmabFt
namespace Go.Proofs.Ytnlbomggadflmab
open Go.RowKit
set_option linter.unusedVariables false
set_option linter.unusedSimpArgs false
set_option maxRecDepth 100000
/-- What the law's from gives: a pair, or nothing and true. -/
def FmP (P : Nat → Pr) (nx : Int) (w : World) (e : Ending) (w' : World) : Prop := Below w.heap.size w w' ∧ ((¬ Inv P nx ∧ e = .returned (.tuple #[.pointer none, .bool true])) ∨ (Inv P nx ∧ ∃ p t r, e = .returned (.tuple #[.pointer (some ⟨p, 0, .none⟩), .bool true]) ∧ w.heap.size ≤ p ∧ w'.cell? ⟨p, 0, .none⟩ = some (.pointer (some ⟨t, 0, .none⟩)) ∧ w'.cell? ⟨p, 1, .none⟩ = some (.pointer (some ⟨r, 0, .none⟩)) ∧ w'.frozen? ⟨p, 0, .none⟩ = false ∧ Tb w' t P nx ∧ Tb w' r P nx ∧ w.heap.size ≤ t ∧ w.heap.size ≤ r ∧ t ≠ r ∧ t ≠ p ∧ r ≠ p))
section
attribute [local irreducible] sl tl
variable {P : Nat → Pr} {nx : Int}
set_option maxHeartbeats 4000000 in
theorem lfrom_any (w : World) : Calls Try.prog 10 #[.agg (tl P nx).toArray] w (FmP P nx w) := by
  obtain ⟨T, hTT⟩ : ∃ T, T = (tl P nx).toArray := ⟨_, rfl⟩
  have k1 := from_any P nx
  have k2 := rfrom_any P nx
  rw [← hTT] at k1 k2 ⊢
  have HTT : Hid (T = (tl P nx).toArray) := hTT
  clear hTT
  go_enter Try.func10, Try.ntmps10
  go_upto_region 0 with fail
  refine wp_region_lit ?_
  refine wpList_boxed (P := P) (nx := nx) 1 0 _ rfl rfl rfl (congrArg Value.agg HTT.out) ?_
  intro w1 hT1 hb1
  simp only [Act.put, List.setIfInBounds_toArray, List.set_cons_zero, List.set_cons_succ]
  obtain ⟨x, hx⟩ : ∃ x, x = w.heap.size := ⟨_, rfl⟩
  rw [← hx] at hT1 hb1 ⊢
  have HX : Hid (x = w.heap.size) := hx
  have HH : Hid (Tb w1 x P nx ∧ Below x w w1) := ⟨hT1, hb1⟩
  clear hT1 hb1 hx
  have k1 := k1 w1
  go_upto_region 1 with fail
  refine wp_region_lit ?_
  refine wpList_load_mid rfl 36 (.tmp 1) rfl x 0 rfl (tl P nx) _ HH.out.1.rg Try.underlying36 rfl (by rw [tl_len]; exact info_tab) ?_
  rw [← HTT.out]
  simp only [Act.put, List.setIfInBounds_toArray, List.set_cons_zero, List.set_cons_succ]
  go_wp2_with fail
  refine k1.mono ?_
  rintro e w2 ⟨hb2, hm⟩
  have H2 : Hid (Tb w2 x P nx ∧ Below x w w2 ∧ x < w2.heap.size) := ⟨HH.out.1.bel hb2, HH.out.2.trans (hb2.mono (by have := HH.out.1.lt; omega)), (HH.out.1.bel hb2).lt⟩
  have hxw1 : x < w1.heap.size := HH.out.1.lt
  clear k1 hb2 HH
  have k2 := k2 w2
  cases hf : frm P nx with
  | some a =>
    rw [hf] at hm
    obtain ⟨v, rfl, hF⟩ := hm
    have HNI : Hid (¬ Inv P nx) := fun h => by rw [frm_inv.2 h] at hf; cases hf
    have HFB : Hid (frmB P nx = some a) := by rw [Hid, ← frm_same]; exact hf
    have HF : Hid (FaultIn w2 0 v (a : Int) 4) := hF
    clear hf hF
    go_upto_region 2 with fail
    refine wp_region_lit ?_
    refine wpList_load_mid rfl 36 (.tmp 1) rfl x 0 rfl (tl P nx) _ H2.out.1.rg Try.underlying36 rfl (by rw [tl_len]; exact info_tab) ?_
    rw [← HTT.out]
    simp only [Act.put, List.setIfInBounds_toArray, List.set_cons_zero, List.set_cons_succ]
    go_wp2_with fail
    refine k2.mono ?_
    rintro e w3 ⟨hb3, hm⟩
    rw [HFB.out] at hm
    have hm : e = .returned (.tuple #[.pointer none, .int .i64 (a : Int)]) := hm
    subst hm
    have H3 : Hid (Below x w w3 ∧ FaultIn w3 0 v (a : Int) 4 ∧ x ≤ w3.heap.size) := ⟨H2.out.2.1.trans (hb3.mono (by have := H2.out.2.2; omega)), faultIn_keep hb3 HF.out, by have := H2.out.2.2; have := hb3.size; omega⟩
    clear k2 hb3 H2 HF
    have k3 := rnew_any ramB (a : Int) 4 w3
    go_wp2_with fail
    refine k3.mono ?_
    rintro e w4 ⟨rfl, hw4⟩
    have H4 : Hid (Below x w w4 ∧ FaultIn w4 0 v (a : Int) 4 ∧ x ≤ w4.heap.size ∧ w3.heap.size + 1 < w4.heap.size ∧ w4.cell? ⟨w3.heap.size + 1, 0, .none⟩ = some (.string ramB) ∧ w4.cell? ⟨w3.heap.size + 1, 1, .none⟩ = some (.int .i64 (a : Int))) := by
      have b1 := below1 w3 (.cells #[.slice (some ⟨w3.heap.size + 1, 0, .none⟩) 1 1, .int .i64 4] 80)
      have b2 := below1 (w3.alloc (.cells #[.slice (some ⟨w3.heap.size + 1, 0, .none⟩) 1 1, .int .i64 4] 80)) (.cells #[.string ramB, .int .i64 (a : Int)] 106)
      have b3 : Below w3.heap.size w3 w4 := by rw [hw4]; exact b1.trans (b2.mono b1.size)
      have hs : w4.heap.size = w3.heap.size + 1 + 1 := by rw [hw4]; simp
      refine ⟨H3.out.1.trans (b3.mono H3.out.2.2), faultIn_keep b3 H3.out.2.1, by have := H3.out.2.2; omega, by omega, ?_, ?_⟩
      · rw [hw4, World.cell?_alloc_at _ _ _ _ (by simp)]; rfl
      · rw [hw4, World.cell?_alloc_at _ _ _ _ (by simp)]; rfl
    clear k3 hw4
    have k4 := is_fault v (w3.heap.size + 1) 1 (a : Int) 4 w4 H4.out.2.1 (by decide) H4.out.2.2.2.1 H4.out.2.2.2.2.1 H4.out.2.2.2.2.2
    generalize w3.heap.size + 1 = lk at *
    go_wp2_with fail
    refine k4.mono ?_
    rintro e w5 ⟨rfl, hb5⟩
    have H5 : Hid (Below x w w5) := H4.out.1.trans (hb5.mono H4.out.2.2.1)
    clear k4 hb5
    go_wp2
    go_ret2
    exact ⟨by rw [← HX.out]; exact H5.out, .inl ⟨HNI.out, rfl⟩⟩
  | none =>
    rw [hf] at hm
    obtain ⟨d, rfl, hTd, hd⟩ := hm
    have HNI : Hid (Inv P nx) := frm_inv.1 hf
    have HFB : Hid (frmB P nx = none) := by rw [Hid, ← frm_same]; exact hf
    have HF : Hid (Tb w2 d P nx ∧ w1.heap.size ≤ d) := ⟨hTd, hd⟩
    clear hf hTd hd
    go_upto_region 2 with fail
    refine wp_region_lit ?_
    refine wpList_load_mid rfl 36 (.tmp 1) rfl x 0 rfl (tl P nx) _ H2.out.1.rg Try.underlying36 rfl (by rw [tl_len]; exact info_tab) ?_
    rw [← HTT.out]
    simp only [Act.put, List.setIfInBounds_toArray, List.set_cons_zero, List.set_cons_succ]
    go_wp2_with fail
    refine k2.mono ?_
    rintro e w3 ⟨hb3, hm⟩
    rw [HFB.out] at hm
    obtain ⟨r, rfl, hTr, hr⟩ := hm
    have H3 : Hid (Below x w w3 ∧ Tb w3 d P nx ∧ Tb w3 r P nx ∧ x ≤ d ∧ d < r ∧ x ≤ w3.heap.size) := ⟨H2.out.2.1.trans (hb3.mono (by have := H2.out.2.2; omega)), HF.out.1.bel hb3, hTr, by have := HF.out.2; omega, by have := HF.out.1.lt; omega, by have := H2.out.2.2; have := hb3.size; omega⟩
    clear k2 hb3 H2 HF hTr hr
    go_wp2
    go_ret2
    obtain ⟨u1, u2, u3, u4, u5, u6⟩ := H3.out
    have b4 := below1 w3 (.cells #[.pointer (some ⟨d, 0, .none⟩), .pointer (some ⟨r, 0, .none⟩)] 29)
    have := u2.lt
    have := u3.lt
    refine ⟨by rw [← HX.out]; exact u1.trans (b4.mono u6), .inr ⟨HNI.out, w3.heap.size, d, r, rfl, by rw [← HX.out]; exact u6, by rw [World.cell?_alloc_at _ _ _ _ rfl]; rfl, by rw [World.cell?_alloc_at _ _ _ _ rfl]; rfl, World.frozen?_alloc_new _ _ _ _, u2.bel b4, u3.bel b4, by rw [← HX.out]; omega, by rw [← HX.out]; omega, by omega, by omega, by omega⟩⟩
end
end Go.Proofs.Ytnlbomggadflmab
