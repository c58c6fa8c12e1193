import Derived.Test.YtnghcadhilfgnaaWpA
namespace Go.Proofs.Ytnghcadhilfgnaa
open Go.RowKit
set_option linter.unusedVariables false
set_option linter.unusedSimpArgs false
/-- A row of held frames that came in: addresses and bytes. -/
def Hs (W : World) (q : Option Addr) (nh : Nat) (PA : Nat → Int) (P : Nat → Option Addr) (L C : Nat → Nat) : Prop :=
  nh = 0 ∨ ∃ b o, q = some ⟨b, o, .none⟩ ∧ b < W.heap.size ∧ ∀ i, i < nh → W.cell? ⟨b, o + i * 2, .none⟩ = some (.int .u64 (PA i)) ∧ W.cell? ⟨b, o + i * 2 + 1, .none⟩ = some (.slice (P i) (L i) (C i))
theorem Hs.keep {W W' : World} {q : Option Addr} {nh B : Nat} {PA : Nat → Int} {P : Nat → Option Addr} {L C : Nat → Nat} (h : Hs W q nh PA P L C) (hb : Below B W W') (hB : W.heap.size ≤ B) : Hs W' q nh PA P L C := by
  rcases h with h | ⟨b, o, h1, h2, h3⟩
  · exact .inl h
  · exact .inr ⟨b, o, h1, Nat.lt_of_lt_of_le h2 hb.size, fun i hi => ⟨(hb.cell (by show b < B; omega)).trans (h3 i hi).1, (hb.cell (by show b < B; omega)).trans (h3 i hi).2⟩⟩
/-- Does the address not rise? -/
def falls (PA : Nat → Int) (k : Nat) : Bool := if k = 0 then false else decide (PA k ≤ PA (k - 1))
/-- What the second list's look finds wrong. -/
def bad2 (hs : Int → Bool) (PA : Nat → Int) (L : Nat → Nat) (n : Int) (k : Nat) : Bool := hs (PA k) || falls PA k || !isFr (PA k) n || decide (L k ≠ 4096)
theorem ne4096 (l : Nat) : ((l : Int) != 4096) = decide (l ≠ 4096) := by
  by_cases h : l = 4096
  · subst h; rfl
  · have : ((l : Int) != 4096) = true := by rw [bne_iff_ne]; omega
    rw [this]; simp [h]
theorem below2d (w : World) (o o' : Obj) : Below w.heap.size w ((w.alloc o).alloc o').drew := (((Below.refl _ _).alloc (Nat.le_refl _) o).alloc (by simp only [World.size_alloc]; omega) o').drew
set_option maxHeartbeats 4000000 in
set_option maxRecDepth 100000 in
theorem clo2_any (W : World) (m v hv i kk nh ch k : Nat) (q : Option Addr) (hs : Int → Bool) (PA : Nat → Int) (P : Nat → Option Addr) (L C : Nat → Nat) (n : Int) (hm : MS W m hs kk) (cv : W.cell? ⟨v, 0, .none⟩ = some (.map (some m))) (chv : W.cell? ⟨hv, 0, .none⟩ = some (.slice q nh ch)) (ci : W.cell? ⟨i, 0, .none⟩ = some (.int .i64 n)) (hH : Hs W q nh PA P L C) (hP : ∀ i, 0 ≤ PA i ∧ PA i < 18446744073709551616) (hk : k < nh) (hc : nh ≤ ch) (hcm : ch ≤ 9223372036854775807) (hl : L k ≤ 9223372036854775807) (h0 : 0 ≤ n) (h1 : n ≤ 4096) :
    Calls Try.prog 77 #[.int .i64 k, .agg #[.int .u64 (PA k), .slice (P k) (L k) (C k)], .pointer (some ⟨v, 0, .none⟩), .pointer (some ⟨hv, 0, .none⟩), .pointer (some ⟨i, 0, .none⟩)] W fun e w' => e = .returned (.bool (bad2 hs PA L n k)) ∧ Below W.heap.size W w' := by
  obtain ⟨D, hown, hhas, hsz⟩ := hm
  have hh := hhas (PA k) (hP k).1 (hP k).2
  obtain ⟨b, o, rfl, lb, hcell⟩ : ∃ b o, q = some ⟨b, o, .none⟩ ∧ b < W.heap.size ∧ ∀ i, i < nh → W.cell? ⟨b, o + i * 2, .none⟩ = some (.int .u64 (PA i)) ∧ W.cell? ⟨b, o + i * 2 + 1, .none⟩ = some (.slice (P i) (L i) (C i)) := by
    rcases hH with h | h
    · omega
    · exact h
  have lv : v < W.heap.size := lt_of_cell cv
  have lh : hv < W.heap.size := lt_of_cell chv
  have li : i < W.heap.size := lt_of_cell ci
  have c37 := fun w => isFrame_any (PA k) n (hP k) h0 h1 w
  have pk := hP k
  have lm := hown.lt
  clear hhas hsz
  by_cases k0 : k = 0
  · subst k0
    have ef : bad2 hs PA L n 0 = (hs (PA 0) || !isFr (PA 0) n || decide (L 0 ≠ 4096)) := by simp [bad2, falls]
    rw [ef]
    clear ef hcell
    generalize PA 0 = pa at *
    generalize L 0 = l0 at *
    generalize hs pa = x at *
    generalize isFr pa n = y at *
    cases x
    · cases y
      · go_enter Try.func77, Try.ntmps77
        go_wp2_with (first | (at_lookup; refine wpList_lookup_own_unit _ rfl _ _ 58 rfl 26 77 law22 Try.underlying58 (zero91 _) m _ D rfl (hown.alloc _) _ _ rfl (Maps.keyOf_int_mk Try.underlying26 (WalkArith.wf_u64 (by omega))) ?_) | fail)
        go_region
        go_wp2_with (first | (go_at_call 46; refine (c37 _).mono ?_; rintro e w5 ⟨rfl, rfl⟩) | fail)
        go_ret
        exact ⟨rfl, below2d _ _ _⟩
      · go_enter Try.func77, Try.ntmps77
        go_wp2_with (first | (at_lookup; refine wpList_lookup_own_unit _ rfl _ _ 58 rfl 26 77 law22 Try.underlying58 (zero91 _) m _ D rfl (hown.alloc _) _ _ rfl (Maps.keyOf_int_mk Try.underlying26 (WalkArith.wf_u64 (by omega))) ?_) | fail)
        go_region
        go_wp2_with (first | (go_at_call 46; refine (c37 _).mono ?_; rintro e w5 ⟨rfl, rfl⟩) | fail)
        go_ret
        refine ⟨congrArg (fun b => Ending.returned (.bool b)) ?_, below2d _ _ _⟩
        exact (ne4096 l0).trans (by simp)
    · go_enter Try.func77, Try.ntmps77
      go_wp2_with (first | (at_lookup; refine wpList_lookup_own_unit _ rfl _ _ 58 rfl 26 77 law22 Try.underlying58 (zero91 _) m _ D rfl (hown.alloc _) _ _ rfl (Maps.keyOf_int_mk Try.underlying26 (WalkArith.wf_u64 (by omega))) ?_) | fail)
      go_region
      go_wp2_with fail
      go_ret
      exact ⟨by simp, below2d _ _ _⟩
  · obtain ⟨j, rfl⟩ : ∃ j, k = j + 1 := ⟨k - 1, by omega⟩
    have a0 := (hcell j (by omega)).1
    have ef : bad2 hs PA L n (j + 1) = (hs (PA (j + 1)) || decide (PA (j + 1) ≤ PA j) || !isFr (PA (j + 1)) n || decide (L (j + 1) ≠ 4096)) := by simp [bad2, falls]
    rw [ef]
    have kj : (j : Int) + 1 - 1 = j := by omega
    have kp : (0 : Int) < (j : Int) + 1 := by omega
    have ec : ((j + 1 : Nat) : Int) = (j : Int) + 1 := by omega
    rw [ec]
    have pj := hP j
    have hj : j < nh := by omega
    clear ef hcell k0 ec hk
    generalize PA (j + 1) = pa at *
    generalize PA j = pb at *
    generalize L (j + 1) = l0 at *
    generalize hs pa = x at *
    generalize isFr pa n = y at *
    by_cases hle : pa ≤ pb
    · have e1 : decide (pa ≤ pb) = true := by simp [hle]
      cases x
      · go_enter Try.func77, Try.ntmps77
        go_wp2_with (first | (at_lookup; refine wpList_lookup_own_unit _ rfl _ _ 58 rfl 26 77 law22 Try.underlying58 (zero91 _) m _ D rfl (hown.alloc _) _ _ rfl (Maps.keyOf_int_mk Try.underlying26 (WalkArith.wf_u64 (by omega))) ?_) | fail)
        go_region
        go_wp2_with fail
        go_ret
        exact ⟨by simp [hle], below2d _ _ _⟩
      · go_enter Try.func77, Try.ntmps77
        go_wp2_with (first | (at_lookup; refine wpList_lookup_own_unit _ rfl _ _ 58 rfl 26 77 law22 Try.underlying58 (zero91 _) m _ D rfl (hown.alloc _) _ _ rfl (Maps.keyOf_int_mk Try.underlying26 (WalkArith.wf_u64 (by omega))) ?_) | fail)
        go_region
        go_wp2_with fail
        go_ret
        exact ⟨by simp, below2d _ _ _⟩
    · have e1 : decide (pa ≤ pb) = false := by simp [hle]
      cases x
      · cases y
        · go_enter Try.func77, Try.ntmps77
          go_wp2_with (first | (at_lookup; refine wpList_lookup_own_unit _ rfl _ _ 58 rfl 26 77 law22 Try.underlying58 (zero91 _) m _ D rfl (hown.alloc _) _ _ rfl (Maps.keyOf_int_mk Try.underlying26 (WalkArith.wf_u64 (by omega))) ?_) | fail)
          go_region
          go_wp2_with (first | (go_at_call 46; refine (c37 _).mono ?_; rintro e w5 ⟨rfl, rfl⟩) | fail)
          go_ret
          exact ⟨by simp, below2d _ _ _⟩
        · go_enter Try.func77, Try.ntmps77
          go_wp2_with (first | (at_lookup; refine wpList_lookup_own_unit _ rfl _ _ 58 rfl 26 77 law22 Try.underlying58 (zero91 _) m _ D rfl (hown.alloc _) _ _ rfl (Maps.keyOf_int_mk Try.underlying26 (WalkArith.wf_u64 (by omega))) ?_) | fail)
          go_region
          go_wp2_with (first | (go_at_call 46; refine (c37 _).mono ?_; rintro e w5 ⟨rfl, rfl⟩) | fail)
          go_ret
          refine ⟨congrArg (fun b => Ending.returned (.bool b)) ?_, below2d _ _ _⟩
          exact (ne4096 l0).trans (by simp [e1])
      · go_enter Try.func77, Try.ntmps77
        go_wp2_with (first | (at_lookup; refine wpList_lookup_own_unit _ rfl _ _ 58 rfl 26 77 law22 Try.underlying58 (zero91 _) m _ D rfl (hown.alloc _) _ _ rfl (Maps.keyOf_int_mk Try.underlying26 (WalkArith.wf_u64 (by omega))) ?_) | fail)
        go_region
        go_wp2_with fail
        go_ret
        exact ⟨by simp, below2d _ _ _⟩
end Go.Proofs.Ytnghcadhilfgnaa
