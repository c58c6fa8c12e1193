import Derived.Test.YtloldhcljdmofaaDoorPm1
namespace Go.Proofs.YtloldhcljdmofaaDoor
open Go.RowKit
set_option linter.unusedVariables false
set_option linter.unusedSimpArgs false
theorem ok1_b {va fl sz mem : Int} (h : ok1 va fl sz mem = true) (hv : 0 ≤ va) (hz : 0 ≤ sz) : va < 18446744073709551616 ∧ (0 ≤ fl ∧ fl < 4294967296) ∧ (0 ≤ mem ∧ mem < 18446744073709551616) ∧ sz ≤ 1073741824 := by
  unfold ok1 mf at h
  simp only [Bool.and_eq_true, decide_eq_true_eq, Bool.or_eq_true, beq_iff_eq] at h
  obtain ⟨⟨⟨⟨h1, h2⟩, h3⟩, h4⟩, h5⟩ := h
  omega
section
variable {en : Int} {S : List Sg} {B : Nat → Int}
theorem sgOf_fil {i : Nat} {s : Sg} (hs : S[i]? = some s) (hk : okS s = true) (hv : 0 ≤ s.va) (hw : s.wh < 18446744073709551616) : sgOf (fil en S B) (64 + 56 * i) = s ∧ num (fil en S B) (64 + 56 * i) 4 = 1 := by
  obtain ⟨b1, b2, b3, b4⟩ := ok1_b hk hv (by omega)
  have e0 := num_segF (en := en) (B := B) hs 0 4 (by omega)
  have e1 := num_segF (en := en) (B := B) hs 16 8 (by omega)
  have e2 := num_segF (en := en) (B := B) hs 4 4 (by omega)
  have e3 := num_segF (en := en) (B := B) hs 40 8 (by omega)
  have e4 := num_segF (en := en) (B := B) hs 8 8 (by omega)
  have e5 := num_segF (en := en) (B := B) hs 32 8 (by omega)
  rw [seg_ty] at e0
  rw [seg_va _ _ _ _ _ ⟨hv, b1⟩] at e1
  rw [seg_fl _ _ _ _ _ b2] at e2
  rw [seg_mem _ _ _ _ _ b3] at e3
  rw [seg_at _ _ _ _ _ ⟨by omega, by omega⟩] at e4
  rw [seg_n _ _ _ _ _ (by omega)] at e5
  refine ⟨?_, e0⟩
  unfold sgOf
  rw [e1, e2, e3, e4, e5]
  cases s
  simp
theorem lp_fil {T : Nat} (h8 : S.length ≤ 8) (hG : Gk S S.length) (hP : Plc S) (hT : T = 64 + 56 * S.length + szs S S.length) (hT2 : T ≤ 262144) (hv : ∀ s ∈ S, 0 ≤ s.va) : ∀ k i, i + k = S.length → lp T (fil en S B) k (64 + 56 * i) (S.take i) = ((0, 0), S)
  | 0, i, h => by
    have : i = S.length := by omega
    subst this
    rw [List.take_length]
    rfl
  | k + 1, i, h => by
    obtain ⟨s, hs⟩ : ∃ s, S[i]? = some s := ⟨S[i]'(by omega), List.getElem?_eq_getElem (by omega)⟩
    obtain ⟨g1, g2⟩ := hG i s (by omega) hs
    have hw := hP i s hs
    have hss := szs_succ S i s hs
    have hmo := szs_mono S (i + 1) S.length (by omega)
    obtain ⟨e1, e2⟩ := sgOf_fil (en := en) (B := B) hs g1 (hv s (List.mem_of_getElem? hs)) (by omega)
    have hl : (S.take i).length = i := by rw [List.length_take]; omega
    have est : stp T (fil en S B) (S.take i) (64 + 56 * i) = (0, S.take (i + 1)) := by
      unfold stp
      rw [e1, e2, if_neg (by decide), hl, if_neg (by omega), if_neg (by have : ok1 s.va s.fl s.sz s.mem = true := g1; rw [this]; decide), if_neg (by omega), if_neg (by rw [g2]; decide), List.take_add_one, hs]
      rfl
    unfold lp
    rw [est]
    simp only [ne_eq, not_true_eq_false, if_false]
    have := lp_fil h8 hG hP hT hT2 hv k (i + 1) (by omega)
    rw [show 64 + 56 * (i + 1) = 64 + 56 * i + 56 by omega] at this
    exact this
theorem rdF_fil {T : Nat} (he : 0 ≤ en ∧ en < 18446744073709551616) (hg : Good en S) (hP : Plc S) (hT : T = 64 + 56 * S.length + szs S S.length) (hT2 : T ≤ 262144) (hv : ∀ s ∈ S, 0 ≤ s.va) : rdF T (fil en S B) 0 0 = ((0, 0), S) := by
  obtain ⟨h0, h8, hG, hE⟩ := hg
  have c1 : cntB (fil en S B) = S.length := by unfold cntB; rw [num_cnt h8]; rfl
  have c2 : froB (fil en S B) = 64 := by unfold froB; rw [num_fro]; rfl
  have l := lp_fil (en := en) (B := B) h8 hG hP hT hT2 hv S.length 0 (by omega)
  rw [List.take_zero] at l
  unfold rdF
  rw [c1, c2, l, num_en he]
  rw [if_neg (by omega), if_neg (by omega), if_neg (by decide), if_neg (by omega), if_neg (by omega), if_neg (fun h => h rfl), if_neg (by show ¬ S.length = 0; omega), if_neg (by show ¬ hasE S en = false; rw [hE]; decide)]
/-- The bytes behind the headers are the segments'. -/
theorem fil_bytes (hP : Plc S) {s : Sg} (hs : s ∈ S) : byt (fil en S B) s = byt B s := by
  obtain ⟨i, hi, hie⟩ := List.getElem_of_mem hs
  have hw := hP i s (by rw [List.getElem?_eq_getElem hi, hie])
  simp only [byt]
  apply List.map_congr_left
  intro j hj
  simp only [fil, if_neg (show ¬ s.wh + j < 64 by omega), if_neg (show ¬ s.wh + j < 64 + 56 * S.length by omega)]
end
end Go.Proofs.YtloldhcljdmofaaDoor
