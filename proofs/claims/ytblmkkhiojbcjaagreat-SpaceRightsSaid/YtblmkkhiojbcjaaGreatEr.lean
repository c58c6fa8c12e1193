import Derived.Test.YtblmkkhiojbcjaaGreatEq
import Derived.Test.YtblmkkhiojbcjaaGreatFSame
namespace Go.Proofs.YtblmkkhiojbcjaaGreat
open Go Go.RowKit Fz
set_option linter.unusedVariables false
set_option linter.unusedSimpArgs false
set_option maxHeartbeats 1000000 in
theorem bytes_same {w : World} {n ca cb : Nat} {qa qb : Option Addr} {R : Nat → Int} (hn : n ≤ 9223372036854775807) (ha : See w .u8 qa n R) (hb : See w .u8 qb n R) : Calls Tryz.prog 17 #[.slice qa n ca, .slice qb n cb] w fun e w' => e = .returned (.bool true) ∧ Below w.heap.size w w' := by
  go_enter Tryz.func17, Tryz.ntmps17
  go_wp2
  go_loopw [5] (fun k wr => ∃ i : Nat, i ≤ n ∧ k = .int .i64 i ∧ Below w.heap.size w wr) (fun k _ => n - (intOf k).toNat)
  case atStart => exact ⟨0, by omega, rfl, Below.refl _ _⟩
  case round =>
    obtain ⟨i, hi, rfl, hB⟩ := hrel
    have HB : Hid (Below w.heap.size w wr) := hB
    by_cases hin : i < n
    · rcases ha with h | ⟨g1, o1, rfl, hg1, r1⟩
      · omega
      rcases hb with h | ⟨g2, o2, rfl, hg2, r2⟩
      · omega
      have i1 : (i : Int) < n := by omega
      have k0 := (hB.cell (p := ⟨g1, o1 + i, .none⟩) hg1).trans (r1 i hin)
      have k1 := (hB.cell (p := ⟨g2, o2 + i, .none⟩) hg2).trans (r2 i hin)
      clear hB r1 r2
      generalize R i = x at *
      go_wp2
      go_quiet (fail)
      go_wp2
      exact ⟨⟨i + 1, by omega, by simp, below_drewN HB.out _⟩, by simp [intOf]; omega⟩
    · have i1 : ¬ ((i : Int) < n) := by omega
      clear hB ha hb
      go_wp2
      go_ret
      exact ⟨rfl, HB.out⟩
section
variable {w : World} {s p b m N r P : Nat} {size : Int} {B : Nat → Int} {L : List Nat} {F : Nat → Option Nat} {lf : Nat → Nat → Int} {fr : Nat → Nat} {c : Nat → Int}
set_option maxHeartbeats 1000000 in
theorem in_zero (h : SpU w s p b m N r P size B L F lf fr c) (va : Nat) : Calls Tryz.prog 13 #[.pointer (some ⟨s, 0, .none⟩), .int .u64 va, .int .i64 0] w fun e w' => e = .returned (.tuple #[.slice none 0 0, .bool true]) ∧ Below w.heap.size w w' := by
  obtain ⟨w1, hw1⟩ : ∃ w1, w1 = w.alloc (.cells #[.pointer (some ⟨s, 0, .none⟩)] 26) := ⟨_, rfl⟩
  have b1 : Below w.heap.size w w1 := by rw [hw1]; exact below1 _ _
  have q1 : w1.cell? ⟨w.heap.size, 0, .none⟩ = some (.pointer (some ⟨s, 0, .none⟩)) := by rw [hw1]; simp
  have c43 := made_sp (h.sp.below b1)
  have HB : Hid (Below w.heap.size w w1) := b1
  clear h b1
  go_enter Tryz.func13, Tryz.ntmps13
  go_upto_region 1 with fail
  rw [← hw1]
  clear hw1
  go_wp2_with (go_at_call 43; refine c43.mono ?_; rintro _ x1 ⟨rfl, e1⟩; obtain rfl : w1 = x1 := e1.symm)
  refine bodyPost_ret (v := .tuple #[.slice none 0 0, .bool true]) (by simp [results, Tryz.results13, go_sem]) rfl ⟨rfl, HB.out⟩
set_option maxHeartbeats 1000000 in
theorem in_far (h : SpU w s p b m N r P size B L F lf fr c) (va n : Nat) (hn : 1 ≤ n) (hvn : (va : Int) < 18446744073709551616 ∧ (n : Int) < 9223372036854775808) (hf : ¬ va + n ≤ P * 4096) : Calls Tryz.prog 13 #[.pointer (some ⟨s, 0, .none⟩), .int .u64 va, .int .i64 n] w fun e w' => e = .returned (.tuple #[.slice none 0 0, .bool false]) ∧ Below w.heap.size w w' := by
  have hm := h.pm
  have hsz := h.sz
  obtain ⟨w1, hw1⟩ : ∃ w1, w1 = w.alloc (.cells #[.pointer (some ⟨s, 0, .none⟩)] 26) := ⟨_, rfl⟩
  have b1 : Below w.heap.size w w1 := by rw [hw1]; exact below1 _ _
  have q1 : w1.cell? ⟨w.heap.size, 0, .none⟩ = some (.pointer (some ⟨s, 0, .none⟩)) := by rw [hw1]; simp
  have c51 := end_any (h.sp.below b1) (by omega)
  rw [hsz.2] at c51
  have c50 := fits_gen (va : Int) n ((P : Int) * 4096) (by omega) (by omega) (by omega) w1
  rw [decide_eq_false (p := (va : Int) + n ≤ (P : Int) * 4096) (by omega)] at c50
  have HB : Hid (Below w.heap.size w w1) := b1
  have hb1 : ((n : Int) == 0) = false := by simp; omega
  clear h b1 hsz
  go_enter Tryz.func13, Tryz.ntmps13
  go_upto_region 1 with fail
  rw [← hw1]
  clear hw1
  go_wp2_with first | (go_at_call 51; refine c51.mono ?_; rintro _ x1 ⟨rfl, e1⟩; obtain rfl : w1 = x1 := e1.symm) | (go_at_call 50; refine c50.mono ?_; rintro _ x1 ⟨rfl, e1⟩; obtain rfl : w1 = x1 := e1.symm)
  refine bodyPost_ret (v := .tuple #[.slice none 0 0, .bool false]) (by simp [results, Tryz.results13, go_sem]) rfl ⟨rfl, HB.out⟩
set_option maxHeartbeats 1000000 in
theorem can_zero (h : SpU w s p b m N r P size B L F lf fr c) (va : Nat) : Calls Tryz.prog 15 #[.pointer (some ⟨s, 0, .none⟩), .int .u64 va, .int .i64 0] w fun e w' => e = .returned (.bool true) ∧ w' = w := by
  have c43 := made_sp h.sp
  clear h
  go_enter Tryz.func15, Tryz.ntmps15
  go_wp2_with (go_at_call 43; refine c43.mono ?_; rintro _ x1 ⟨rfl, e1⟩; obtain rfl : w = x1 := e1.symm)
  go_ret
  exact ⟨rfl, rfl⟩
set_option maxHeartbeats 1000000 in
theorem put_zero (s va : Nat) (q : Option Addr) (cc : Nat) (f : Value) (w : World) : Calls Tryz.prog 57 #[.pointer (some ⟨s, 0, .none⟩), .int .u64 va, .slice q 0 cc, f] w fun e w' => e = .returned (.bool true) ∧ Below w.heap.size w w' := by
  obtain ⟨w1, hw1⟩ : ∃ w1, w1 = w.alloc (.cells #[.pointer (some ⟨s, 0, .none⟩)] 26) := ⟨_, rfl⟩
  obtain ⟨w2, hw2⟩ : ∃ w2, w2 = w1.alloc (.cells #[.slice q 0 cc] 24) := ⟨_, rfl⟩
  have z1 : w1.heap.size = w.heap.size + 1 := by rw [hw1]; simp
  have b1 : Below w.heap.size w w1 := by rw [hw1]; exact below1 _ _
  have b12 : Below w1.heap.size w1 w2 := by rw [hw2]; exact below1 _ _
  have b2 := b1.trans (b12.mono b1.size)
  have ks : w2.cell? ⟨w.heap.size, 0, .none⟩ = some (.pointer (some ⟨s, 0, .none⟩)) := (b12.cell (p := ⟨w.heap.size, 0, .none⟩) (by show w.heap.size < w1.heap.size; omega)).trans (by rw [hw1]; simp)
  have kb : w2.cell? ⟨w.heap.size + 1, 0, .none⟩ = some (.slice q 0 cc) := by rw [← z1, hw2]; simp
  have c52 := fun g : Value => each_zero (va : Int) f g w2 s
  have HB : Hid (Below w.heap.size w w2) := b2
  clear b1 b12 b2 z1
  go_enter Tryz.func57, Tryz.ntmps57
  go_upto_region 1 with fail
  rw [← hw1, ← hw2]
  clear hw1 hw2
  go_wp2_with (go_at_call 52; refine (c52 _).mono ?_; rintro _ x1 ⟨rfl, e1⟩; obtain rfl : w2 = x1 := e1.symm)
  go_ret
  exact ⟨rfl, HB.out⟩
end
end Go.Proofs.YtblmkkhiojbcjaaGreat
