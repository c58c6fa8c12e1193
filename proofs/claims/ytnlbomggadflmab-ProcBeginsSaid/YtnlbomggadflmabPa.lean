import Derived.Test.YtnlbomggadflmabBa
namespace Go.Proofs.Ytnlbomggadflmab
open Go.RowKit
set_option linter.unusedVariables false
set_option linter.unusedSimpArgs false
set_option maxRecDepth 100000
section
variable {w : World} {b : Nat} {P : Nat → Pr} {nx : Int}
set_option maxHeartbeats 1000000 in
theorem isMade_any (h : Tb w b P nx) (hn : 1 ≤ nx) : Calls Try.prog 12 #[.pointer (some ⟨b, 0, .none⟩)] w fun e w' => e = .returned (.bool true) ∧ w' = w := by
  have c := h.cn
  clear h
  have hn' : 0 < nx := by omega
  go_enter Try.func12, Try.ntmps12
  go_wp2
  go_ret
  exact ⟨rfl, rfl⟩
set_option maxHeartbeats 1000000 in
theorem hasPid_any (h : Tb w b P nx) : Calls Try.prog 43 #[.pointer (some ⟨b, 0, .none⟩)] w fun e w' => e = .returned (.bool (decide (nx ≤ 2147483647))) ∧ w' = w := by
  have c := h.cn
  clear h
  go_enter Try.func43, Try.ntmps43
  go_wp2
  go_ret
  exact ⟨rfl, rfl⟩
set_option maxHeartbeats 1000000 in
theorem at_in (b : Nat) (s : Nat) (hs : s < 64) (w : World) : Calls Try.prog 47 #[.pointer (some ⟨b, 0, .none⟩), .int .i64 (s : Int)] w fun e w' => e = .returned (.pointer (some ⟨b, s * 7, .none⟩)) ∧ w' = w := by
  go_enter Try.func47, Try.ntmps47
  go_wp2
  go_ret
  exact ⟨rfl, rfl⟩
set_option maxHeartbeats 1000000 in
theorem at_out (b : Nat) (s : Int) (hs : s < 0 ∨ 64 ≤ s) (w : World) : Calls Try.prog 47 #[.pointer (some ⟨b, 0, .none⟩), .int .i64 s] w fun e w' => e = .returned (.pointer none) ∧ w' = w := by
  by_cases h0 : s < 0
  · clear hs
    go_enter Try.func47, Try.ntmps47
    go_wp2
    go_ret
    exact ⟨rfl, rfl⟩
  · have h1 : 64 ≤ s := by omega
    clear hs
    go_enter Try.func47, Try.ntmps47
    go_wp2
    go_ret
    exact ⟨rfl, rfl⟩
set_option maxHeartbeats 1000000 in
theorem isFree_any (p : Pr) (w : World) : Calls Try.prog 44 #[.agg p.l.toArray] w fun e w' => e = .returned (.bool (p.st == 0)) ∧ Below w.heap.size w w' := by
  rw [Pr.l]
  go_enter Try.func44, Try.ntmps44
  go_wp2
  go_ret
  exact ⟨rfl, below1 _ _⟩
set_option maxHeartbeats 1000000 in
theorem isProcess_any (p : Pr) (w : World) : Calls Try.prog 41 #[.agg p.l.toArray] w fun e w' => e = .returned (.bool (!(p.st == 0))) ∧ Below w.heap.size w w' := by
  rw [Pr.l]
  go_enter Try.func41, Try.ntmps41
  go_wp2
  go_ret
  exact ⟨rfl, below1 _ _⟩
set_option maxHeartbeats 1000000 in
theorem canRun_any (p : Pr) (w : World) : Calls Try.prog 49 #[.agg p.l.toArray] w fun e w' => e = .returned (.bool (p.st == 1)) ∧ Below w.heap.size w w' := by
  rw [Pr.l]
  go_enter Try.func49, Try.ntmps49
  go_wp2
  go_ret
  exact ⟨rfl, below1 _ _⟩
/-- A channel on which one can sleep? -/
def isCh (k n : Int) : Bool := decide (1 ≤ k) && decide (k ≤ 5) && decide (0 ≤ n)
set_option maxHeartbeats 1000000 in
theorem isChan_any (k n : Int) (w : World) : Calls Try.prog 51 #[.agg #[.int .i64 k, .int .i64 n]] w fun e w' => e = .returned (.bool (isCh k n)) ∧ Below w.heap.size w w' := by
  by_cases h1 : 1 ≤ k
  · by_cases h2 : k ≤ 5
    · have e : isCh k n = decide (0 ≤ n) := by simp [isCh, h1, h2]
      rw [e]
      go_enter Try.func51, Try.ntmps51
      go_wp2
      go_ret
      exact ⟨rfl, below1 _ _⟩
    · have e : isCh k n = false := by simp [isCh, h2]
      rw [e]
      go_enter Try.func51, Try.ntmps51
      go_wp2
      go_ret
      exact ⟨rfl, below1 _ _⟩
  · have e : isCh k n = false := by simp [isCh, h1]
    rw [e]
    go_enter Try.func51, Try.ntmps51
    go_wp2
    go_ret
    exact ⟨rfl, below1 _ _⟩
/-- Woken. -/
def Pr.wk (p : Pr) : Pr := { p with st := 1, ck := 0, cn := 0 }
set_option maxHeartbeats 1000000 in
theorem wake_any (h : Tb w b P nx) (s : Nat) (hs : s < 64) : Calls Try.prog 53 #[.pointer (some ⟨b, s * 7, .none⟩)] w fun e w' => e = .returned (.tuple #[]) ∧ Tb w' b (up P s (P s).wk) nx ∧ Trn b w w' := by
  have c1 := h.cell s 1 hs (by omega) _ rfl
  have c3 := h.cell s 3 hs (by omega) _ rfl
  have c4 := h.cell s 4 hs (by omega) _ rfl
  have f1 := h.fr (s * 7 + 1) (by omega)
  have f3 := h.fr (s * 7 + 3) (by omega)
  have f4 := h.fr (s * 7 + 4) (by omega)
  have H : Hid (Tb w b P nx) := h
  clear h
  go_enter Try.func53, Try.ntmps53
  go_wp2
  go_end0
  have T1 := Tb.set H.out s 1 hs (by omega) (.int .i64 1) { P s with st := 1 } rfl
  have T2 := T1.set s 3 hs (by omega) (.int .i64 0) { P s with st := 1, ck := 0 } (by rw [up_same]; rfl)
  have T3 := T2.set s 4 hs (by omega) (.int .i64 0) { P s with st := 1, ck := 0, cn := 0 } (by rw [up_same]; rfl)
  rw [up_up, up_up] at T3
  exact ⟨rfl, T3, ((Trn.setCell _ _ _ _).trans (Trn.setCell _ _ _ _)).trans (Trn.setCell _ _ _ _)⟩
set_option maxHeartbeats 1000000 in
theorem get_in (h : Tb w b P nx) (hn : 1 ≤ nx) (s : Nat) (hs : s < 64) (hf : (P s).st ≠ 0) : Calls Try.prog 50 #[.pointer (some ⟨b, 0, .none⟩), .int .i64 (s : Int)] w fun e w' => e = .returned (.tuple #[.pointer (some ⟨b, s * 7, .none⟩), .int .i64 0]) ∧ Below w.heap.size w w' := by
  have k1 := isMade_any h hn
  have k2 := at_in b s hs w
  have k3 := isFree_any (P s) w
  obtain ⟨c0, c1, c2, c3, c4, c5, c6⟩ := h.cells s hs
  have h0 : ((P s).st == 0) = false := by simpa using hf
  rw [h0] at k3
  rw [Pr.l] at k3
  clear h0 hf h
  generalize P s = p at *
  go_enter Try.func50, Try.ntmps50
  go_wp2_with fail
  refine k1.mono ?_
  rintro e w1 ⟨rfl, hw⟩
  obtain rfl : w = w1 := hw.symm
  go_wp2_with fail
  refine k2.mono ?_
  rintro e w1 ⟨rfl, hw⟩
  obtain rfl : w = w1 := hw.symm
  go_wp2_with fail
  refine k3.mono ?_
  rintro e w1 ⟨rfl, hb⟩
  go_wp2
  go_ret2
  exact ⟨rfl, hb⟩
set_option maxHeartbeats 1000000 in
theorem get_free (h : Tb w b P nx) (hn : 1 ≤ nx) (s : Nat) (hs : s < 64) (hf : (P s).st = 0) : Calls Try.prog 50 #[.pointer (some ⟨b, 0, .none⟩), .int .i64 (s : Int)] w fun e w' => e = .returned (.tuple #[.pointer none, .int .i64 260]) ∧ Below w.heap.size w w' := by
  have k1 := isMade_any h hn
  have k2 := at_in b s hs w
  have k3 := isFree_any (P s) w
  obtain ⟨c0, c1, c2, c3, c4, c5, c6⟩ := h.cells s hs
  have h0 : ((P s).st == 0) = true := by simpa using hf
  rw [h0] at k3
  rw [Pr.l] at k3
  clear h0 hf h
  generalize P s = p at *
  go_enter Try.func50, Try.ntmps50
  go_wp2_with fail
  refine k1.mono ?_
  rintro e w1 ⟨rfl, hw⟩
  obtain rfl : w = w1 := hw.symm
  go_wp2_with fail
  refine k2.mono ?_
  rintro e w1 ⟨rfl, hw⟩
  obtain rfl : w = w1 := hw.symm
  go_wp2_with fail
  refine k3.mono ?_
  rintro e w1 ⟨rfl, hb⟩
  go_wp2
  go_ret2
  exact ⟨rfl, hb⟩
set_option maxHeartbeats 1000000 in
theorem get_out (h : Tb w b P nx) (hn : 1 ≤ nx) (s : Int) (hs : s < 0 ∨ 64 ≤ s) : Calls Try.prog 50 #[.pointer (some ⟨b, 0, .none⟩), .int .i64 s] w fun e w' => e = .returned (.tuple #[.pointer none, .int .i64 260]) ∧ Below w.heap.size w w' := by
  have k1 := isMade_any h hn
  have k2 := at_out b s hs w
  clear h hs
  go_enter Try.func50, Try.ntmps50
  go_wp2_with fail
  refine k1.mono ?_
  rintro e w1 ⟨rfl, hw⟩
  obtain rfl : w = w1 := hw.symm
  go_wp2_with fail
  refine k2.mono ?_
  rintro e w1 ⟨rfl, hw⟩
  obtain rfl : w = w1 := hw.symm
  go_wp2
  go_ret2
  exact ⟨rfl, Below.refl _ _⟩
/-- Is there a process in the slot? -/
def isP (P : Nat → Pr) (s : Int) : Prop := 0 ≤ s ∧ s < 64 ∧ (P s.toNat).st ≠ 0
theorem get_no (h : Tb w b P nx) (hn : 1 ≤ nx) (s : Int) (hs : ¬ isP P s) : Calls Try.prog 50 #[.pointer (some ⟨b, 0, .none⟩), .int .i64 s] w fun e w' => e = .returned (.tuple #[.pointer none, .int .i64 260]) ∧ Below w.heap.size w w' := by
  by_cases h1 : s < 0 ∨ 64 ≤ s
  · exact get_out h hn s h1
  · obtain ⟨n, rfl⟩ : ∃ n : Nat, s = n := ⟨s.toNat, by omega⟩
    refine get_free h hn n (by omega) ?_
    rw [isP, Int.toNat_natCast] at hs
    exact Classical.byContradiction fun h2 => hs ⟨by omega, by omega, h2⟩
end
end Go.Proofs.Ytnlbomggadflmab
