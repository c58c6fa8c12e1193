import Derived.Test.YtblmkkhiojbcjaaGreatEj
namespace Go.Proofs.YtblmkkhiojbcjaaGreat
open Go Go.RowKit
set_option linter.unusedVariables false
set_option linter.unusedSimpArgs false
theorem fits_gen (va n en : Int) (hv : 0 ≤ va ∧ va < 18446744073709551616) (hn : 0 ≤ n ∧ n < 9223372036854775808) (he : 0 ≤ en ∧ en < 18446744073709551616) (w : World) : Calls Tryz.prog 50 #[.int .u64 va, .int .i64 n, .int .u64 en] w fun r w' => r = .returned (.bool (decide (va + n ≤ en))) ∧ w' = w := by
  by_cases h1 : va ≤ en
  · have h2 : IntKind.u64.wrap (en - va) = en - va := by rw [IntKind.wrap_u64]; omega
    have h3 : IntKind.u64.wrap n = n := by rw [IntKind.wrap_u64]; omega
    have h0 : (0 : Int) ≤ n := hn.1
    by_cases h4 : n ≤ en - va
    · have HD : Hid (decide (va + n ≤ en) = true) := decide_eq_true (by omega)
      go_enter Tryz.func50, Tryz.ntmps50
      go_wp2
      go_ret
      exact ⟨by rw [HD.out]; rfl, rfl⟩
    · have HD : Hid (decide (va + n ≤ en) = false) := decide_eq_false (by omega)
      go_enter Tryz.func50, Tryz.ntmps50
      go_wp2
      go_ret
      exact ⟨by rw [HD.out]; rfl, rfl⟩
  · have h0 : (0 : Int) ≤ n := hn.1
    have HD : Hid (decide (va + n ≤ en) = false) := decide_eq_false (by omega)
    go_enter Tryz.func50, Tryz.ntmps50
    go_wp2
    go_ret
    exact ⟨by rw [HD.out]; rfl, rfl⟩
section
variable {w : World} {s p b m N r P : Nat} {size : Int} {B : Nat → Int} {L : List Nat} {F : Nat → Option Nat} {lf : Nat → Nat → Int} {fr : Nat → Nat} {c : Nat → Int}
theorem yes_any (a n : Int) (W : World) : Calls Tryz.prog 56 #[.int .u64 a, .int .i64 n] W fun e w' => e = .returned (.bool true) ∧ w' = W := by
  go_enter Tryz.func56, Tryz.ntmps56
  go_wp2
  go_ret
  exact ⟨rfl, rfl⟩
/-- Where bytes may be written. -/
def canU (P : Nat) (c : Nat → Int) (va n : Nat) : Prop := va + n ≤ P * 4096 ∧ ∀ j, j < n → accU c 2 (va + j) = true
set_option maxHeartbeats 1000000 in
theorem can_any (h : SpU w s p b m N r P size B L F lf fr c) (va n : Nat) (hn : 1 ≤ n) (hvn : (va : Int) < 18446744073709551616 ∧ (n : Int) < 9223372036854775808) : Calls Tryz.prog 15 #[.pointer (some ⟨s, 0, .none⟩), .int .u64 va, .int .i64 n] w fun e w' => ∃ v : Bool, e = .returned (.bool v) ∧ (v = true ↔ canU P c va n) ∧ Below w.heap.size w w' := by
  have hm := h.pm
  have hsz := h.sz
  have c51 := end_any h.sp (by omega)
  rw [hsz.2] at c51
  have c50 := fits_gen (va : Int) n ((P : Int) * 4096) (by omega) (by omega) (by omega) w
  have hn0 : ((n : Int) == 0) = false := by rw [beq_eq_false_iff_ne]; omega
  by_cases hf : va + n ≤ P * 4096
  · rw [decide_eq_true (by omega)] at c50
    obtain ⟨w1, hw1⟩ : ∃ w1, w1 = (w.alloc (.cells #[.pointer (some ⟨s, 0, .none⟩)] 26)).alloc (.cells #[.int .i64 3] 90) := ⟨_, rfl⟩
    have b1 : Below w.heap.size w w1 := by rw [hw1]; exact ((Below.refl _ _).alloc (Nat.le_refl _) _).alloc (by simp) _
    have e1 : w1.cell? ⟨w.heap.size, 0, .none⟩ = some (.pointer (some ⟨s, 0, .none⟩)) := by rw [hw1]; simp
    have e2 : w1.cell? ⟨w.heap.size + 1, 0, .none⟩ = some (.int .i64 3) := by rw [hw1]; simp
    have c53 := forUser_any s 3 w
    rw [← hw1] at c53
    have c52 := each_can (w := w1) (s := s) (u1 := w.heap.size) (u2 := w.heap.size + 1) (va : Int) n (by omega) (fun k W => Below w1.heap.size w1 W ∧ ∀ j, j < k → accU c 2 (va + j) = true) (fun W => Below w1.heap.size w1 W ∧ ∃ j, j < n ∧ accU c 2 (va + j) = false) (fun k => if accU c 2 (va + k) then ad (fr ((va + k) / 4096)) + ((va + k) % 4096 : Nat) else 0) (fun k => accU c 2 (va + k)) (fun _ => true)
      (fun k W hk hJ => by
        have hS := (h.below b1).below hJ.1
        have := user_any hS.sp ((va + k : Nat) : Int) 3 _ _ ((hJ.1.cell (p := ⟨w.heap.size, 0, .none⟩) (lt_of_cell e1)).trans e1) ((hJ.1.cell (p := ⟨w.heap.size + 1, 0, .none⟩) (lt_of_cell e2)).trans e2) (fun W2 b2 => (hS.below b2).tra (va + k) 2 (by omega) (by omega))
        rw [show ((va + k : Nat) : Int) = (va : Int) + k by omega] at this
        exact this.mono (fun e W2 h2 => ⟨h2.1, hJ.1.trans (h2.2.mono hJ.1.size), hJ.2⟩))
      (fun k W hk hok hJ => ⟨hJ.1, k, hk, hok⟩)
      (fun k W hk hok hJ => (yes_any _ _ W).mono (fun e W2 h2 => ⟨h2.1, fun _ => by
        rw [h2.2]
        have hb := pce_b (va : Int) n k hk
        refine ⟨hJ.1, fun j hj => ?_⟩
        by_cases hjk : j < k
        · exact hJ.2 j hjk
        · have : (va + j) / 4096 = (va + k) / 4096 := by omega
          unfold accU at hok ⊢
          rw [this]
          exact hok, fun e => by cases e⟩))
      ⟨Below.refl _ _, fun j hj => by omega⟩
    have c52' := c52.mono (R' := fun e w' => ∃ v : Bool, e = .returned (.bool v) ∧ (v = true ↔ canU P c va n) ∧ Below w1.heap.size w1 w') (fun e w' h => by
      rcases h with ⟨h1, h2⟩ | ⟨h1, h2, j, hj, hx⟩
      · exact ⟨true, h1, ⟨fun _ => ⟨hf, h2.2⟩, fun _ => rfl⟩, h2.1⟩
      · exact ⟨false, h1, ⟨fun e => (by cases e), fun e => (by rw [e.2 j hj] at hx; cases hx)⟩, h2⟩)
    have HB : Hid (Below w.heap.size w w1) := b1
    clear c52 h e1 e2 b1 hw1
    go_enter Tryz.func15, Tryz.ntmps15
    go_wp2_with fail
    refine c51.mono ?_
    rintro _ x1 ⟨rfl, e9⟩
    obtain rfl : w = x1 := e9.symm
    clear e9 c51
    go_wp2_with fail
    refine c50.mono ?_
    rintro _ x1 ⟨rfl, e9⟩
    obtain rfl : w = x1 := e9.symm
    clear e9 c50
    go_wp2_with fail
    refine c53.mono ?_
    rintro _ x1 ⟨rfl, e9⟩
    obtain rfl : w1 = x1 := e9.symm
    clear e9 c53
    go_wp2_with fail
    refine c52'.mono ?_
    rintro _ x2 ⟨v, rfl, hv, b2⟩
    have HV : Hid ((v = true ↔ canU P c va n) ∧ Below w.heap.size w x2) := ⟨hv, HB.out.trans (b2.mono HB.out.size)⟩
    clear hv b2 c52'
    go_wp2_with fail
    go_ret
    exact ⟨v, rfl, HV.out⟩
  · rw [decide_eq_false (by omega)] at c50
    have HV : Hid (false = true ↔ canU P c va n) := ⟨fun e => (by cases e), fun e => absurd e.1 hf⟩
    clear h
    go_enter Tryz.func15, Tryz.ntmps15
    go_wp2_with fail
    refine c51.mono ?_
    rintro _ x1 ⟨rfl, e9⟩
    obtain rfl : w = x1 := e9.symm
    clear e9 c51
    go_wp2_with fail
    refine c50.mono ?_
    rintro _ x1 ⟨rfl, e9⟩
    obtain rfl : w = x1 := e9.symm
    clear e9 c50
    go_wp2_with fail
    go_ret
    exact ⟨false, rfl, HV.out, Below.refl _ _⟩
end
end Go.Proofs.YtblmkkhiojbcjaaGreat
