import Derived.Test.YtnghcadhilfgnaaRfB
import Derived.Test.YtnghcadhilfgnaaImg
namespace Go.Proofs.Ytnghcadhilfgnaa
open Go.RowKit
set_option linter.unusedVariables false
set_option linter.unusedSimpArgs false
set_option maxHeartbeats 1000000 in
set_option maxRecDepth 100000 in
theorem ref_size (W : World) (nf cf nh ch : Nat) (n : Int) (qf qh : Option Addr) (hn : ¬ (1 ≤ n ∧ n ≤ 4096)) :
    Calls Try.prog 60 #[.agg #[.int .i64 n, .slice qf nf cf, .slice qh nh ch]] W fun e w' => e = .returned (.tuple #[.pointer none, .int .i64 0, .int .i64 60]) ∧ Below W.heap.size W w' := by
  have HB : Hid (Below W.heap.size W (W.alloc (.cells #[.int .i64 n, .slice qf nf cf, .slice qh nh ch] 40))) := below1a W _
  by_cases h1 : n < 1
  · clear hn
    go_enter Try.func60, Try.ntmps60
    go_wp2
    refine bodyPost_ret (v := .tuple #[.pointer none, .int .i64 0, .int .i64 60]) (by simp [results, Try.results60, go_sem]) rfl ?_
    exact ⟨rfl, HB.out⟩
  · have h2 : 4096 < n := by omega
    clear hn
    go_enter Try.func60, Try.ntmps60
    go_wp2
    refine bodyPost_ret (v := .tuple #[.pointer none, .int .i64 0, .int .i64 60]) (by simp [results, Try.results60, go_sem]) rfl ?_
    exact ⟨rfl, HB.out⟩
/-- The document's FromImage, of whatever image. -/
theorem ref_any (W : World) (nf cf nh ch : Nat) (n : Int) (qf qh : Option Addr) (F PA : Nat → Int) (P : Nat → Option Addr) (L C : Nat → Nat) (D : Nat → Nat → Int) (hf : Fs W qf nf F) (hF : ∀ i, 0 ≤ F i ∧ F i < 18446744073709551616) (hcf : nf ≤ cf) (hcfm : cf ≤ 9223372036854775807) (hH : Hs W qh nh PA P L C) (hP : ∀ i, 0 ≤ PA i ∧ PA i < 18446744073709551616) (hc : nh ≤ ch) (hcm : ch ≤ 9223372036854775807) (hl : ∀ i, L i ≤ 9223372036854775807) (hD : Ds W nh P L D) (hs : nf ≤ 281474976710656 ∧ nh ≤ 281474976710656) :
    Calls Try.prog 60 #[.agg #[.int .i64 n, .slice qf nf cf, .slice qh nh ch]] W fun e w' => (∃ a r, Verd F nf PA L nh n a r ∧ ((r ≠ 0 ∧ e = .returned (.tuple #[.pointer none, .int .i64 a, .int .i64 r])) ∨ (r = 0 ∧ a = 0 ∧ ∃ N : Nat, n = N ∧ 1 ≤ N ∧ N ≤ 4096 ∧ Fine F nf PA L nh N ∧ ∃ q, e = .returned (.tuple #[.pointer (some ⟨q, 0, .none⟩), .int .i64 0, .int .i64 0]) ∧ QI W w' q N F nf PA D nh))) ∧ Below W.heap.size W w' := by
  by_cases hn : 1 ≤ n ∧ n ≤ 4096
  · obtain ⟨N, rfl⟩ := Int.eq_ofNat_of_zero_le (show 0 ≤ n by omega)
    refine (ref_from W nf cf nh ch N qf qh F PA P L C D hf hF hcf hcfm hH hP hc hcm hl hD (by omega) (by omega) hs).mono fun e w' ⟨h, hb⟩ => ⟨?_, hb⟩
    rcases h with ⟨a, h1, h2, h3⟩ | ⟨h1, q, h2, h3⟩
    · exact ⟨a, 63, .inr (.inl ⟨hn, h1, h2, rfl⟩), .inl ⟨by decide, h3⟩⟩
    · exact ⟨0, 0, .inr (.inr ⟨hn, h1, rfl, rfl⟩), .inr ⟨rfl, rfl, N, rfl, by omega, by omega, Fine.of_zero h1, q, h2, h3⟩⟩
  · refine (ref_size W nf cf nh ch n qf qh hn).mono fun e w' ⟨h, hb⟩ => ⟨⟨0, 60, .inl ⟨hn, rfl, rfl⟩, .inl ⟨by decide, h⟩⟩, hb⟩
theorem addressQ_any (i : Nat) (h : i < 4096) (w : World) : Calls Try.prog 37 #[.int .i64 i] w fun e w' => e = .returned (adv i) ∧ w' = w := by
  have e1 : Hid (2147483648 + 4096 * (i : Int) = 2147483648 + (i : Int) * 4096) := by show _ = _; omega
  go_enter Try.func37, Try.ntmps37
  go_wp2
  go_ret
  refine ⟨congrArg (fun x => Ending.returned (.int .u64 x)) ?_, rfl⟩
  exact e1.out
theorem Lr.below {W V : World} {lv : Value} {L : List Nat} (h : Lr W lv L) (b : Below W.heap.size W V) : Lr V lv L := by
  obtain ⟨p, c, rfl, h⟩ := h
  refine ⟨p, c, rfl, ?_⟩
  rcases h with h | ⟨g, o, rfl, hc⟩
  · exact .inl h
  · exact .inr ⟨g, o, rfl, fun j hj => (b.cell (lt_of_cell (hc j hj))).trans (hc j hj)⟩
set_option maxHeartbeats 2000000 in
set_option maxRecDepth 100000 in
theorem freeListQ_any (W : World) (q : Nat) (lv : Value) (L : List Nat) (hq : W.cell? ⟨q, 1, .none⟩ = some lv) (h : Lr W lv L) (hl : L.length ≤ 4096) (hL : ∀ i ∈ L, i < 4096) :
    Calls Try.prog 30 #[.pointer (some ⟨q, 0, .none⟩)] W fun e w' => ∃ p c, e = .returned (.slice p L.length c) ∧ w'.ownsRow W.heap.size 26 1 (.slice p L.length c) L.length (L.map adv) ∧ Below W.heap.size W w' := by
  obtain ⟨j0, hj0, hjz, hj1, hj2⟩ := info22'
  have HL : Hid (Lr W lv L ∧ (∀ i ∈ L, i < 4096)) := ⟨h, hL⟩
  obtain ⟨lp, lc, rfl, _⟩ := h
  have HQ : Hid (W.cell? ⟨q, 1, .none⟩ = some (.slice lp L.length lc)) := hq
  clear hq hL
  go_enter Try.func30, Try.ntmps30
  go_wp2
  go_loopw [3, 4] (fun v a wr => ∃ k : Nat, k ≤ L.length ∧ a = .int .i64 k ∧ ∃ p c, v = .slice p k c ∧ Hid (wr.ownsRow W.heap.size 26 1 (.slice p k c) k ((L.take k).map adv) ∧ Below W.heap.size W wr)) (fun _ a _ => (L.length - intOf a).toNat)
  case atStart => exact ⟨0, by omega, rfl, none, 0, rfl, ⟨rfl, .inl ⟨rfl, rfl⟩⟩, Below.refl _ _⟩
  case round =>
    obtain ⟨k, hk, rfl, p, c, rfl, HO⟩ := hrel
    have q1 : wr.cell? ⟨q, 1, .none⟩ = some (.slice lp L.length lc) := (HO.out.2.cell (lt_of_cell HQ.out)).trans HQ.out
    by_cases hlt : k < L.length
    · have g0 : (k : Int) < L.length := by omega
      obtain ⟨lp', lc', e', hh⟩ := HL.out.1
      obtain ⟨rfl, rfl⟩ : lp = lp' ∧ lc = lc' := by
        simp only [Value.slice.injEq, true_and] at e'
        exact e'
      clear e'
      obtain ⟨g, lo, rfl, hcell⟩ : ∃ g o, lp = some ⟨g, o, .none⟩ ∧ ∀ j (h : j < L.length), W.cell? ⟨g, o + j, .none⟩ = some (.int .i64 (L[j] : Int)) := by
        rcases hh with h | h
        · omega
        · exact h
      have a0 : wr.cell? ⟨g, lo + k, .none⟩ = some (.int .i64 (L[k] : Int)) := (HO.out.2.cell (lt_of_cell (hcell k hlt))).trans (hcell k hlt)
      have hx := HL.out.2 L[k] (List.getElem_mem hlt)
      have c34 := fun w => addressQ_any L[k] hx w
      have HT : Hid ((L.take (k + 1)).map adv = (L.take k).map adv ++ [adv L[k]]) := by
        show _ = _
        rw [List.take_add_one, List.getElem?_eq_getElem hlt, List.map_append]
        rfl
      have HOA : Hid (∀ o, (wr.alloc o).ownsRow W.heap.size 26 1 (.slice p k c) k ((L.take k).map adv)) := fun o => HO.out.1.alloc o
      have HZ : Hid (W.heap.size ≤ wr.heap.size) := HO.out.2.size
      clear hcell hh
      generalize L[k] = x at *
      simp only [adv] at c34
      go_wp2_with (first | (go_at_call 37; refine (c34 _).mono ?_; rintro e w1 ⟨rfl, rfl⟩) | (at_builtin; refine wpList_append_own _ rfl _ _ 37 rfl W.heap.size 26 j0 (.int .u64 0) 1 8 Try.underlying37 hj0 hjz hj1 hj2 rfl (by decide) _ _ ((L.take k).map adv) rfl (HOA.out _) ⟨w1.heap.size, 0, .none⟩ 1 1 [.int .u64 (2147483648 + (x : Int) * 4096)] rfl rfl (cell1_new _ _ _) (by simp [Value.oneCell']) (by unfold maxLen; omega) (by omega) (by simp only [World.size_alloc]; exact Nat.le_succ_of_le HZ.out) ?_; intro v' w5 hown5 hgrow _; obtain ⟨gr, cap1, rfl⟩ := ownsRow_succ hown5; have HR5 : Hid (w5.ownsRow W.heap.size 26 1 (.slice (some ⟨gr, 0, .none⟩) (k + 1) cap1) (k + 1) ((L.take (k + 1)).map adv) ∧ Below W.heap.size W w5) := ⟨by rw [HT.out]; exact hown5, (HO.out.2.alloc HZ.out _).grown hgrow (by simp only [World.size_alloc]; have := HZ.out; omega) (fun r e => (HO.out.1.lt _ e).1)⟩; clear hown5 hgrow) | fail)
      exact ⟨⟨k + 1, by omega, by simp, _, _, rfl, HR5⟩, by simp [intOf]; omega⟩
    · obtain rfl : k = L.length := by omega
      have HR : Hid (wr.ownsRow W.heap.size 26 1 (.slice p L.length c) L.length (L.map adv) ∧ Below W.heap.size W wr) := by
        have := HO.out
        rw [List.take_length] at this
        exact this
      clear HO
      go_wp2
      go_ret
      exact ⟨p, c, rfl, HR.out⟩
end Go.Proofs.Ytnghcadhilfgnaa
