import Derived.Test.YtblmkkhiojbcjaaGreatEe
namespace Go.Proofs.YtblmkkhiojbcjaaGreat
open Go Go.RowKit
set_option linter.unusedVariables false
set_option linter.unusedSimpArgs false
section
variable {w : World} {s p b m N r P : Nat} {size : Int} {B : Nat → Int} {L : List Nat} {F : Nat → Option Nat} {lf : Nat → Nat → Int} {fr : Nat → Nat} {c : Nat → Int}
set_option maxRecDepth 100000 in
set_option maxHeartbeats 2000000 in
theorem in_any (h : SpU w s p b m N r P size B L F lf fr c) (va n : Nat) (hn : 1 ≤ n) (hf : va + n ≤ P * 4096) : Calls Tryz.prog 13 #[.pointer (some ⟨s, 0, .none⟩), .int .u64 va, .int .i64 n] w (InP w va n B fr c) := by
  have hm := h.pm
  have hsz := h.sz
  obtain ⟨w1, hw1⟩ : ∃ w1, w1 = w.alloc (.cells #[.pointer (some ⟨s, 0, .none⟩)] 26) := ⟨_, rfl⟩
  obtain ⟨w2, hw2⟩ : ∃ w2, w2 = w1.alloc (.cells (Zs n) 5) := ⟨_, rfl⟩
  obtain ⟨w3, hw3⟩ : ∃ w3, w3 = w2.alloc (.cells #[.slice (some ⟨w1.heap.size, 0, .none⟩) n n] 24) := ⟨_, rfl⟩
  obtain ⟨w4, hw4⟩ : ∃ w4, w4 = (w3.drew.alloc (.cells #[.pointer (some ⟨s, 0, .none⟩)] 26)).alloc (.cells #[.int .i64 2] 90) := ⟨_, rfl⟩
  have b1 : Below w.heap.size w w1 := by rw [hw1]; exact below1 _ _
  have b2 : Below w1.heap.size w1 w2 := by rw [hw2]; exact below1 _ _
  have b3 : Below w2.heap.size w2 w3 := by rw [hw3]; exact below1 _ _
  have b4 : Below w3.heap.size w3 w4 := by rw [hw4]; exact ((Below.refl _ w3).drew.alloc (Nat.le_refl _) _).alloc (by simp) _
  have s1 : w1.heap.size = w.heap.size + 1 := by rw [hw1]; simp
  have s2 : w2.heap.size = w.heap.size + 2 := by rw [hw2]; simp [s1]
  have s3 : w3.heap.size = w.heap.size + 3 := by rw [hw3]; simp [s2]
  have s3d : w3.drew.heap.size = w.heap.size + 3 := s3
  have s4 : w4.heap.size = w.heap.size + 5 := by rw [hw4]; simp [s3d]
  have c51 := end_any (h.sp.below b1) (by omega)
  rw [hsz.2] at c51
  have c50 := fits_any (va : Int) n ((P : Int) * 4096) (by omega) (by omega) (by omega) (by omega) w1
  have hmk := make_bytes n (by omega) w1
  rw [← hw2] at hmk
  have q1 : w1.cell? ⟨w.heap.size, 0, .none⟩ = some (.pointer (some ⟨s, 0, .none⟩)) := by rw [hw1]; simp
  have q3 : w3.cell? ⟨w.heap.size, 0, .none⟩ = some (.pointer (some ⟨s, 0, .none⟩)) := (b3.cell (p := ⟨w.heap.size, 0, .none⟩) (by simp only; omega)).trans ((b2.cell (p := ⟨w.heap.size, 0, .none⟩) (by simp only; omega)).trans q1)
  have zA : ∀ j, j < n → w2.cell? ⟨w1.heap.size, j, .none⟩ = some (.int .u8 0) ∧ w2.frozen? ⟨w1.heap.size, j, .none⟩ = false := fun j hj => by
    rw [hw2]
    refine ⟨?_, World.frozen?_alloc_new _ _ _ _⟩
    rw [World.cell?_alloc_at _ _ _ _ rfl]
    exact Zs_at n j hj
  have h0 : InJ w s w1.heap.size w.heap.size w2.heap.size w3.heap.size (w3.heap.size + 1) va n B fr c 0 w4 := by
    have B4 : Below w.heap.size w w4 := ((b1.trans (b2.mono (by omega))).trans (b3.mono (by omega))).trans (b4.mono (by omega))
    refine ⟨B4, (b4.cell (p := ⟨w.heap.size, 0, .none⟩) (by simp only; omega)).trans q3, ?_, ?_, ⟨some ⟨w1.heap.size, 0, .none⟩, ?_, fun _ => rfl⟩, ?_, fun j hj => by omega, fun j hj => ?_, fun j hj => by omega⟩
    · rw [hw4]
      exact (fun wd : World => (by simp : ((wd.alloc (.cells #[.pointer (some ⟨s, 0, .none⟩)] 26)).alloc (.cells #[.int .i64 2] 90)).cell? ⟨wd.heap.size, 0, .none⟩ = some (.pointer (some ⟨s, 0, .none⟩)))) w3.drew
    · rw [hw4]
      exact (fun wd : World => (by simp : ((wd.alloc (.cells #[.pointer (some ⟨s, 0, .none⟩)] 26)).alloc (.cells #[.int .i64 2] 90)).cell? ⟨wd.heap.size + 1, 0, .none⟩ = some (.int .i64 2))) w3.drew
    · rw [b4.cell (p := ⟨w2.heap.size, 0, .none⟩) (by simp only; omega), hw3]; simp
    · rw [b4.frozen (p := ⟨w2.heap.size, 0, .none⟩) (by simp only; omega), hw3]; exact World.frozen?_alloc_new _ _ _ _
    · rw [b4.cell (p := ⟨w1.heap.size, j, .none⟩) (by simp only; omega), b3.cell (p := ⟨w1.heap.size, j, .none⟩) (by simp only; omega), b4.frozen (p := ⟨w1.heap.size, j, .none⟩) (by simp only; omega), b3.frozen (p := ⟨w1.heap.size, j, .none⟩) (by simp only; omega), (zA j hj).1]
      exact ⟨rfl, (zA j hj).2⟩
  have c52 := each_user h hn hf ⟨by omega, by omega, by omega, by omega, by omega, by omega, by omega⟩ ⟨by omega, by omega⟩ h0
  have c52' := c52.mono (R' := fun e w' => ∃ v : Bool, e = .returned (.bool v) ∧ ((v = true ∧ InJ w s w1.heap.size w.heap.size w2.heap.size w3.heap.size (w3.heap.size + 1) va n B fr c n w') ∨ (v = false ∧ Below w.heap.size w w' ∧ ∃ j, j < n ∧ accU c 1 (va + j) = false))) (fun e w' h => by
    rcases h with ⟨h1, h2⟩ | ⟨h1, h2⟩
    · exact ⟨true, h1, .inl ⟨rfl, h2⟩⟩
    · exact ⟨false, h1, .inr ⟨rfl, h2⟩⟩)
  clear c52
  have c53 := forUser_any s 2 w3.drew
  rw [← hw4] at c53
  have hn0 : ¬ (n : Int) = 0 := by omega
  have HS : Hid (w1.heap.size = w.heap.size + 1 ∧ w2.heap.size = w.heap.size + 2 ∧ w3.heap.size = w.heap.size + 3) := ⟨s1, s2, s3⟩
  have HW : Hid (w3 = w2.alloc (.cells #[.slice (some ⟨w1.heap.size, 0, .none⟩) n n] 24)) := hw3
  have q3' : w3.drew.cell? ⟨w.heap.size, 0, .none⟩ = some (.pointer (some ⟨s, 0, .none⟩)) := q3
  have q4 : w4.cell? ⟨w.heap.size, 0, .none⟩ = some (.pointer (some ⟨s, 0, .none⟩)) := h0.c1
  have hg := h0.bel
  clear h h0 zA b1 b2 b3 b4 s1 s2 s3 s3d s4 hw2 hw3 hw4
  go_enter Tryz.func13, Tryz.ntmps13
  go_wp2_with fail
  rw [← hw1]
  clear hw1
  refine c51.mono ?_
  rintro _ x1 ⟨rfl, e1⟩
  obtain rfl : w1 = x1 := e1.symm
  clear e1 c51
  go_wp2_with fail
  refine c50.mono ?_
  rintro _ x1 ⟨rfl, e1⟩
  obtain rfl : w1 = x1 := e1.symm
  clear e1 c50
  have hb1 : ((n : Int) == 0) = false := by simpa using hn0
  go_wp2_with fail
  rw [← HW.out]
  go_region_with (first | (go_at_call 53; refine c53.mono ?_; rintro _ x4 ⟨rfl, e4⟩; obtain rfl : w4 = x4 := e4.symm; clear e4) | (go_at_call 52; refine c52'.mono ?_; rintro _ w9 ⟨v9, rfl, h9⟩; have H9 : Hid ((v9 = true ∧ InJ w s w1.heap.size w.heap.size w2.heap.size w3.heap.size (w3.heap.size + 1) va n B fr c n w9) ∨ (v9 = false ∧ Below w.heap.size w w9 ∧ ∃ j, j < n ∧ accU c 1 (va + j) = false)) := h9; clear h9))
  all_goals
    rcases H9.out with ⟨rfl, hJ⟩ | ⟨rfl, hb, hx⟩
    · have hA : w1.heap.size < w9.heap.size := lt_of_cell (hJ.dn 0 (by omega))
      have HP : Hid (InP w va n B fr c (.returned (.tuple #[.slice (some ⟨w1.heap.size, 0, .none⟩) n n, .bool true])) w9) := ⟨hJ.bel, .inl ⟨hJ.ok, w1.heap.size, by have := HS.out.1; omega, hA, rfl, hJ.dn⟩⟩
      clear hJ H9
      go_wp2_with fail
      refine bodyPost_ret (v := .tuple #[.slice (some ⟨w1.heap.size, 0, .none⟩) n n, .bool true]) (by simp [results, Tryz.results13, go_sem]) rfl HP.out
    · have HP : Hid (InP w va n B fr c (.returned (.tuple #[.slice none 0 0, .bool false])) w9) := ⟨hb, .inr ⟨hx, rfl⟩⟩
      clear hb hx H9
      go_wp2_with fail
      refine bodyPost_ret (v := .tuple #[.slice none 0 0, .bool false]) (by simp [results, Tryz.results13, go_sem]) rfl HP.out
end
end Go.Proofs.YtblmkkhiojbcjaaGreat
