import Derived.Test.YtnlbomggadflmabMf
namespace Go.Proofs.Ytnlbomggadflmab
open Go.RowKit
set_option linter.unusedVariables false
set_option linter.unusedSimpArgs false
set_option maxRecDepth 100000
theorem built_rtab (P : Nat → Pr) (nx : Int) : Try.prog.built 52 [(0, .agg (sl P).toArray), (1, .int .i64 nx)] = some (tl P nx).toArray := by kernel_rfl
/-- What the document's From gives. -/
def RfP (P : Nat → Pr) (nx : Int) (w : World) (e : Ending) (w' : World) : Prop := Below w.heap.size w w' ∧ match frmB P nx with
  | none => ∃ d, e = .returned (.tuple #[.pointer (some ⟨d, 0, .none⟩), .int .i64 (-1)]) ∧ Tb w' d P nx ∧ w.heap.size ≤ d
  | some a => e = .returned (.tuple #[.pointer none, .int .i64 (a : Int)])
section
attribute [local irreducible] sl tl
set_option maxHeartbeats 4000000 in
theorem rfrom_any (P : Nat → Pr) (nx : Int) (w : World) : Calls Try.prog 37 #[.agg (tl P nx).toArray] w (RfP P nx w) := by
  obtain ⟨T, hTT⟩ : ∃ T, T = (tl P nx).toArray := ⟨_, rfl⟩
  have kf := fun an i hi W => fine_any (P := P) (nx := nx) an i hi W
  rw [← hTT] at kf ⊢
  have HTT : Hid (T = (tl P nx).toArray) := hTT
  clear hTT
  go_enter Try.func37, Try.ntmps37
  go_upto_region 0 with fail
  refine wp_region_lit ?_
  refine wpList_boxed (P := P) (nx := nx) 1 0 _ rfl rfl rfl (congrArg Value.agg HTT.out) ?_
  intro w1 hT1 hb1
  simp only [Act.put, List.setIfInBounds_toArray, List.set_cons_zero, List.set_cons_succ]
  obtain ⟨x, hx⟩ : ∃ x, x = w.heap.size := ⟨_, rfl⟩
  rw [← hx] at hT1 hb1 ⊢
  have HX : Hid (x = w.heap.size) := hx
  have HH : Hid (Tb w1 x P nx ∧ Below x w w1) := ⟨hT1, hb1⟩
  clear hT1 hb1 hx
  go_wp2
  go_loopw [4, 5] (fun t k wr => ∃ j : Nat, j ≤ 64 ∧ k = .int .i64 j ∧ t = .bool ((List.range j).any fun i => !((P i).st == 0)) ∧ Hid (wr = w1)) (fun _ k _ => (64 - intOf k).toNat)
  case atStart => exact ⟨0, by omega, rfl, rfl, rfl⟩
  case round =>
    obtain ⟨j, hj, rfl, rfl, hwr⟩ := hrel
    obtain rfl : w1 = wr := hwr.out.symm
    clear hwr
    by_cases hl : j < 64
    · have g0 : (j : Int) < 64 := by omega
      obtain ⟨c0, c1, c2, c3, c4, c5, c6⟩ := HH.out.1.cells j hl
      have HS : Hid (((List.range (j + 1)).any fun i => !((P i).st == 0)) = (((List.range j).any fun i => !((P i).st == 0)) || !((P j).st == 0))) := by rw [Hid, List.range_succ]; simp
      clear c0 c2 c3 c4 c5 c6
      obtain ⟨t, ht⟩ : ∃ t, t = (List.range j).any fun i => !((P i).st == 0) := ⟨_, rfl⟩
      rw [← ht] at HS ⊢
      clear ht
      cases t
      · go_wp2
        exact ⟨⟨j + 1, by omega, rfl, by rw [HS.out]; rfl, trivial⟩, by simp only [intOf]; omega⟩
      · go_wp2
        exact ⟨⟨j + 1, by omega, rfl, by rw [HS.out]; rfl, trivial⟩, by simp only [intOf]; omega⟩
    · obtain rfl : j = 64 := by omega
      rw [← anyP_any]
      have cn := HH.out.1.cn
      clear hl hj
      have hcase : cN P nx = true ∨ cN P nx = false := by cases cN P nx <;> simp
      rcases hcase with hN | hN
      · obtain ⟨n1, n2, n3⟩ := cN_iff.1 hN
        have HN : Hid (cN P nx = true) := hN
        obtain ⟨an, han⟩ : ∃ an, an = anyP P := ⟨_, rfl⟩
        rw [← han] at n3 ⊢
        have HAN : Hid (an = anyP P) := han
        have hq : ((nx == 1) == an) = false := by
          cases an
          · have : ¬ 1 < nx := fun x => by have := n3.1 x; cases this
            have : nx = 1 := by omega
            simp [this]
          · have : 1 < nx := n3.2 rfl
            have : nx ≠ 1 := by omega
            simp [this]
        have m1 : ¬ nx < 1 := by omega
        have m2 : ¬ 2147483648 < nx := by omega
        clear n1 n2 n3 hN han
        go_wp2
        try simp only [show ((64 : Nat) : Int) = 64 from rfl]
        go_loopw [6] (fun k wr => ∃ n : Nat, n ≤ 64 ∧ k = .int .i64 n ∧ Hid ((∀ j, j < n → fnB P nx an j = true) ∧ Tb wr x P nx ∧ Below x w wr)) (fun k _ => (64 - intOf k).toNat)
        case atStart => exact ⟨0, by omega, rfl, fun j hj => by omega, HH.out⟩
        case round =>
          clear HH cn
          obtain ⟨n, hn, rfl, HV⟩ := hrel
          by_cases hl : n < 64
          · have g0 : (n : Int) < 64 := by omega
            have kk := kf an n hl wr
            go_upto_region 11 with fail
            refine wp_region_lit ?_
            refine wpList_load_mid rfl 36 (.tmp 1) rfl x 0 rfl (tl P nx) _ HV.out.2.1.rg Try.underlying36 rfl (by rw [tl_len]; exact info_tab) ?_
            rw [← HTT.out]
            simp only [Act.put, List.setIfInBounds_toArray, List.set_cons_zero, List.set_cons_succ]
            go_wp2_with fail
            refine kk.mono ?_
            rintro e w4 ⟨rfl, hb4⟩
            have H4 : Hid ((∀ j, j < n → fnB P nx an j = true) ∧ Tb w4 x P nx ∧ Below x w w4) := ⟨HV.out.1, HV.out.2.1.bel hb4, HV.out.2.2.trans (hb4.mono (by have := HV.out.2.1.lt; omega))⟩
            clear kk hb4 HV
            cases hc : fnB P nx an n with
            | true =>
              have HC : Hid (∀ j, j < n + 1 → fnB P nx an j = true) := fun j hj => by
                by_cases e : j = n
                · rw [e]; exact hc
                · exact H4.out.1 j (by omega)
              clear hc
              go_wp2
              exact ⟨⟨n + 1, by omega, rfl, HC.out, H4.out.2⟩, by simp only [intOf]; omega⟩
            | false =>
              have HF : Hid (frmB P nx = some n) := by
                rw [Hid, frmB, if_pos HN.out, ← HAN.out]
                exact find_range _ 64 n hl (fun j hj => by simp [H4.out.1 j hj]) (by simp [hc])
              clear hc
              go_wp2
              go_ret2
              refine ⟨by rw [← HX.out]; exact H4.out.2.2, ?_⟩
              rw [HF.out]
              rfl
          · obtain rfl : n = 64 := by omega
            have HF : Hid (frmB P nx = none) := by
              rw [Hid, frmB, if_pos HN.out, ← HAN.out, List.find?_eq_none]
              intro j hj
              simp [HV.out.1 j (by simpa using hj)]
            have cn := HV.out.2.1.cn
            have hle := HV.out.2.1.lt
            go_upto_region 14 with fail
            refine wp_region_lit ?_
            refine wpList_read rfl (.pointer (some ⟨x, 0, .none⟩)) (by go_simp) ?_
            simp only [Act.put, List.setIfInBounds_toArray, List.set_cons_zero, List.set_cons_succ]
            refine wpList_load_mid rfl 34 (.tmp 47) rfl x 0 rfl (sl P) _ (sl_range HV.out.2.1) Try.underlying34 rfl (by rw [sl_len]; exact info_sl) ?_
            simp only [Act.put, List.setIfInBounds_toArray, List.set_cons_zero, List.set_cons_succ]
            refine wpList_read rfl (.pointer (some ⟨x, 448, .none⟩)) (by go_simp) ?_
            simp only [Act.put, List.setIfInBounds_toArray, List.set_cons_zero, List.set_cons_succ]
            refine wpList_read rfl (.int .i64 nx) (by go_simp) ?_
            simp only [Act.put, List.setIfInBounds_toArray, List.set_cons_zero, List.set_cons_succ]
            refine wpl_build2 rfl 52 #[(0, .tmp 48), (1, .tmp 50)] rfl (tl P nx).toArray (by rw [List.map_toArray]; exact built_rtab P nx) ?_
            simp only [Act.put, List.setIfInBounds_toArray, List.set_cons_zero, List.set_cons_succ]
            refine Great.wpList_boxTo rfl 52 (.tmp 51) rfl _ rfl wr.heap.size rfl (tl P nx).toArray rfl ?_
            simp only [Act.put, List.setIfInBounds_toArray, List.set_cons_zero, List.set_cons_succ]
            have H2 : Hid (Tb (wr.alloc (.cells (tl P nx).toArray 52)) wr.heap.size P nx ∧ Below x w (wr.alloc (.cells (tl P nx).toArray 52)) ∧ x ≤ wr.heap.size) := ⟨tb_new wr P nx _, HV.out.2.2.trans ((below1 _ _).mono (by omega)), by omega⟩
            clear HV cn
            generalize wr.alloc (.cells (tl P nx).toArray 52) = w2 at *
            generalize wr.heap.size = d at *
            obtain ⟨S1, hS1⟩ : ∃ S, S = (sl P).toArray := ⟨_, rfl⟩
            obtain ⟨T1, hT1⟩ : ∃ T, T = (tl P nx).toArray := ⟨_, rfl⟩
            rw [← hS1, ← hT1]
            clear hS1 hT1
            go_wp2
            go_ret2
            refine ⟨by rw [← HX.out]; exact H2.out.2.1, ?_⟩
            rw [HF.out]
            exact ⟨d, rfl, H2.out.1, by rw [← HX.out]; exact H2.out.2.2⟩
      · have HF : Hid (frmB P nx = some 64) := by rw [Hid, frmB, hN]; rfl
        have hnot : ¬ (1 ≤ nx ∧ nx ≤ 2147483648 ∧ (1 < nx ↔ anyP P = true)) := fun x => by rw [cN_iff.2 x] at hN; cases hN
        obtain ⟨an, han⟩ : ∃ an, an = anyP P := ⟨_, rfl⟩
        rw [← han] at hnot ⊢
        have hb : Below x w w1 := HH.out.2
        clear hN han
        by_cases m1 : nx < 1
        · clear hnot
          go_wp2
          go_ret2
          refine ⟨by rw [← HX.out]; exact hb, ?_⟩
          rw [HF.out]
          rfl
        · by_cases m2 : 2147483648 < nx
          · clear hnot
            go_wp2
            go_ret2
            refine ⟨by rw [← HX.out]; exact hb, ?_⟩
            rw [HF.out]
            rfl
          · have hq : ((nx == 1) == an) = true := by
              by_cases e : nx = 1
              · cases an
                · exact absurd ⟨by omega, by omega, by simp [e]⟩ hnot
                · simp [e]
              · cases an
                · simp [e]
                · exact absurd ⟨by omega, by omega, by simp; omega⟩ hnot
            clear hnot
            go_wp2
            go_ret2
            refine ⟨by rw [← HX.out]; exact hb, ?_⟩
            rw [HF.out]
            rfl
end
end Go.Proofs.Ytnlbomggadflmab
