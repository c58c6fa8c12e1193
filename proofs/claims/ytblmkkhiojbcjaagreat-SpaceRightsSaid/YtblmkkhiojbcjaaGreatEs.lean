import Derived.Test.YtblmkkhiojbcjaaGreatEq
import Derived.Test.YtblmkkhiojbcjaaGreatFFreeW
namespace Go.Proofs.YtblmkkhiojbcjaaGreat
open Go Go.RowKit Fz
set_option linter.unusedVariables false
set_option linter.unusedSimpArgs false
set_option maxHeartbeats 1000000 in
theorem bytes_same {w : World} {n ca cb : Nat} {qa qb : Option Addr} {R : Nat → Int} (hn : n ≤ 9223372036854775807) (ha : See w .u8 qa n R) (hb : See w .u8 qb n R) : Calls Tryz.prog 17 #[.slice qa n ca, .slice qb n cb] w fun e w' => e = .returned (.bool true) ∧ Below w.heap.size w w' := by
  go_enter Tryz.func17, Tryz.ntmps17
  go_wp2
  go_loopw [5] (fun k wr => ∃ i : Nat, i ≤ n ∧ k = .int .i64 i ∧ Below w.heap.size w wr) (fun k _ => n - (intOf k).toNat)
  case atStart => exact ⟨0, by omega, rfl, Below.refl _ _⟩
  case round =>
    obtain ⟨i, hi, rfl, hB⟩ := hrel
    have HB : Hid (Below w.heap.size w wr) := hB
    by_cases hin : i < n
    · rcases ha with h | ⟨g1, o1, rfl, hg1, r1⟩
      · omega
      rcases hb with h | ⟨g2, o2, rfl, hg2, r2⟩
      · omega
      have i1 : (i : Int) < n := by omega
      have k0 := (hB.cell (p := ⟨g1, o1 + i, .none⟩) hg1).trans (r1 i hin)
      have k1 := (hB.cell (p := ⟨g2, o2 + i, .none⟩) hg2).trans (r2 i hin)
      clear hB r1 r2
      generalize R i = x at *
      go_wp2
      go_quiet (fail)
      go_wp2
      exact ⟨⟨i + 1, by omega, by simp, below_drewN HB.out _⟩, by simp [intOf]; omega⟩
    · have i1 : ¬ ((i : Int) < n) := by omega
      clear hB ha hb
      go_wp2
      go_ret
      exact ⟨rfl, HB.out⟩
section
variable {w : World} {s p b m N r P : Nat} {size : Int} {B : Nat → Int} {L : List Nat} {F : Nat → Option Nat} {lf : Nat → Nat → Int} {fr : Nat → Nat} {c : Nat → Int}
set_option maxHeartbeats 1000000 in
theorem in_zero (h : SpU w s p b m N r P size B L F lf fr c) (va : Nat) : Calls Tryz.prog 13 #[.pointer (some ⟨s, 0, .none⟩), .int .u64 va, .int .i64 0] w fun e w' => e = .returned (.tuple #[.slice none 0 0, .bool true]) ∧ Below w.heap.size w w' := by
  obtain ⟨w1, hw1⟩ : ∃ w1, w1 = w.alloc (.cells #[.pointer (some ⟨s, 0, .none⟩)] 26) := ⟨_, rfl⟩
  have b1 : Below w.heap.size w w1 := by rw [hw1]; exact below1 _ _
  have q1 : w1.cell? ⟨w.heap.size, 0, .none⟩ = some (.pointer (some ⟨s, 0, .none⟩)) := by rw [hw1]; simp
  have c43 := made_sp (h.sp.below b1)
  have HB : Hid (Below w.heap.size w w1) := b1
  clear h b1
  go_enter Tryz.func13, Tryz.ntmps13
  go_upto_region 1 with fail
  rw [← hw1]
  clear hw1
  go_wp2_with (go_at_call 43; refine c43.mono ?_; rintro _ x1 ⟨rfl, e1⟩; obtain rfl : w1 = x1 := e1.symm)
  refine bodyPost_ret (v := .tuple #[.slice none 0 0, .bool true]) (by simp [results, Tryz.results13, go_sem]) rfl ⟨rfl, HB.out⟩
set_option maxHeartbeats 1000000 in
theorem in_far (h : SpU w s p b m N r P size B L F lf fr c) (va n : Nat) (hn : 1 ≤ n) (hvn : (va : Int) < 18446744073709551616 ∧ (n : Int) < 9223372036854775808) (hf : ¬ va + n ≤ P * 4096) : Calls Tryz.prog 13 #[.pointer (some ⟨s, 0, .none⟩), .int .u64 va, .int .i64 n] w fun e w' => e = .returned (.tuple #[.slice none 0 0, .bool false]) ∧ Below w.heap.size w w' := by
  have hm := h.pm
  have hsz := h.sz
  obtain ⟨w1, hw1⟩ : ∃ w1, w1 = w.alloc (.cells #[.pointer (some ⟨s, 0, .none⟩)] 26) := ⟨_, rfl⟩
  have b1 : Below w.heap.size w w1 := by rw [hw1]; exact below1 _ _
  have q1 : w1.cell? ⟨w.heap.size, 0, .none⟩ = some (.pointer (some ⟨s, 0, .none⟩)) := by rw [hw1]; simp
  have c51 := end_any (h.sp.below b1) (by omega)
  rw [hsz.2] at c51
  have c50 := fits_gen (va : Int) n ((P : Int) * 4096) (by omega) (by omega) (by omega) w1
  rw [decide_eq_false (p := (va : Int) + n ≤ (P : Int) * 4096) (by omega)] at c50
  have HB : Hid (Below w.heap.size w w1) := b1
  have hb1 : ((n : Int) == 0) = false := by simp; omega
  clear h b1 hsz
  go_enter Tryz.func13, Tryz.ntmps13
  go_upto_region 1 with fail
  rw [← hw1]
  clear hw1
  go_wp2_with first | (go_at_call 51; refine c51.mono ?_; rintro _ x1 ⟨rfl, e1⟩; obtain rfl : w1 = x1 := e1.symm) | (go_at_call 50; refine c50.mono ?_; rintro _ x1 ⟨rfl, e1⟩; obtain rfl : w1 = x1 := e1.symm)
  refine bodyPost_ret (v := .tuple #[.slice none 0 0, .bool false]) (by simp [results, Tryz.results13, go_sem]) rfl ⟨rfl, HB.out⟩
set_option maxHeartbeats 1000000 in
theorem can_zero (h : SpU w s p b m N r P size B L F lf fr c) (va : Nat) : Calls Tryz.prog 15 #[.pointer (some ⟨s, 0, .none⟩), .int .u64 va, .int .i64 0] w fun e w' => e = .returned (.bool true) ∧ w' = w := by
  have c43 := made_sp h.sp
  clear h
  go_enter Tryz.func15, Tryz.ntmps15
  go_wp2_with (go_at_call 43; refine c43.mono ?_; rintro _ x1 ⟨rfl, e1⟩; obtain rfl : w = x1 := e1.symm)
  go_ret
  exact ⟨rfl, rfl⟩
set_option maxHeartbeats 1000000 in
theorem put_zero (s va : Nat) (q : Option Addr) (cc : Nat) (f : Value) (w : World) : Calls Tryz.prog 57 #[.pointer (some ⟨s, 0, .none⟩), .int .u64 va, .slice q 0 cc, f] w fun e w' => e = .returned (.bool true) ∧ Below w.heap.size w w' := by
  obtain ⟨w1, hw1⟩ : ∃ w1, w1 = w.alloc (.cells #[.pointer (some ⟨s, 0, .none⟩)] 26) := ⟨_, rfl⟩
  obtain ⟨w2, hw2⟩ : ∃ w2, w2 = w1.alloc (.cells #[.slice q 0 cc] 24) := ⟨_, rfl⟩
  have z1 : w1.heap.size = w.heap.size + 1 := by rw [hw1]; simp
  have b1 : Below w.heap.size w w1 := by rw [hw1]; exact below1 _ _
  have b12 : Below w1.heap.size w1 w2 := by rw [hw2]; exact below1 _ _
  have b2 := b1.trans (b12.mono b1.size)
  have ks : w2.cell? ⟨w.heap.size, 0, .none⟩ = some (.pointer (some ⟨s, 0, .none⟩)) := (b12.cell (p := ⟨w.heap.size, 0, .none⟩) (by show w.heap.size < w1.heap.size; omega)).trans (by rw [hw1]; simp)
  have kb : w2.cell? ⟨w.heap.size + 1, 0, .none⟩ = some (.slice q 0 cc) := by rw [← z1, hw2]; simp
  have c52 := fun g : Value => each_zero (va : Int) f g w2 s
  have HB : Hid (Below w.heap.size w w2) := b2
  clear b1 b12 b2 z1
  go_enter Tryz.func57, Tryz.ntmps57
  go_upto_region 1 with fail
  rw [← hw1, ← hw2]
  clear hw1 hw2
  go_wp2_with (go_at_call 52; refine (c52 _).mono ?_; rintro _ x1 ⟨rfl, e1⟩; obtain rfl : w2 = x1 := e1.symm)
  go_ret
  exact ⟨rfl, HB.out⟩
end
end Go.Proofs.YtblmkkhiojbcjaaGreat
namespace Go.Proofs.YtblmkkhiojbcjaaGreat
open Go Go.RowKit Fz
set_option linter.unusedVariables false
set_option linter.unusedSimpArgs false
section
variable {w : World} {s p b m N r P : Nat} {size : Int} {B : Nat → Int} {L : List Nat} {F : Nat → Option Nat} {lf : Nat → Nat → Int} {fr : Nat → Nat} {c : Nat → Int}
set_option maxHeartbeats 1000000 in
theorem out_zero (h : SpU w s p b m N r P size B L F lf fr c) (va : Nat) (q : Option Addr) (cc : Nat) : Calls Tryz.prog 16 #[.pointer (some ⟨s, 0, .none⟩), .int .u64 va, .slice q 0 cc] w fun e w' => e = .returned (.bool true) ∧ Below w.heap.size w w' := by
  have c15 := can_zero h va
  have c53 := forUser_any s 3 w
  obtain ⟨x2, hx2⟩ : ∃ x2, x2 = (w.alloc (.cells #[.pointer (some ⟨s, 0, .none⟩)] 26)).alloc (.cells #[.int .i64 3] 90) := ⟨_, rfl⟩
  have b2 : Below w.heap.size w x2 := by rw [hx2]; exact ((Below.refl _ _).alloc (Nat.le_refl _) _).alloc (by simp) _
  have c57 := fun f : Value => put_zero s va q cc f x2
  rw [← hx2] at c53
  have HB : Hid (Below w.heap.size w x2) := b2
  clear h hx2 b2
  go_enter Tryz.func16, Tryz.ntmps16
  go_wp2_with first | (go_at_call 15; refine c15.mono ?_; rintro _ x1 ⟨rfl, e1⟩; obtain rfl : w = x1 := e1.symm) | (go_at_call 53; refine c53.mono ?_; rintro _ x3 ⟨rfl, e9⟩; obtain rfl : x2 = x3 := e9.symm) | (go_at_call 57; refine (c57 _).mono ?_; rintro _ x4 ⟨rfl, b4⟩; have H4 : Hid (Below w.heap.size w x4) := HB.out.trans (b4.mono HB.out.size); clear b4)
  go_ret
  exact ⟨rfl, H4.out⟩
set_option maxHeartbeats 1000000 in
theorem poke_zero (h : SpU w s p b m N r P size B L F lf fr c) (va : Nat) (hv : (va : Int) < 18446744073709551616) (q : Option Addr) (cc : Nat) : Calls Tryz.prog 18 #[.pointer (some ⟨s, 0, .none⟩), .int .u64 va, .slice q 0 cc] w fun e w' => e = .returned (.bool (decide ((va : Int) ≤ size))) ∧ Below w.heap.size w w' := by
  have hm := h.pm
  have hsz := h.sz
  have c43 := made_sp h.sp
  have c50 := fits_gen (va : Int) 0 size (by omega) (by omega) (by omega) w
  rw [Int.add_zero] at c50
  have k2 := h.sp.c2
  have c57 := fun f : Value => put_zero s va q cc f w
  clear h hm hsz
  generalize decide ((va : Int) ≤ size) = v at *
  cases v
  all_goals
    go_enter Tryz.func18, Tryz.ntmps18
    go_wp2_with first | (go_at_call 43; refine c43.mono ?_; rintro _ x1 ⟨rfl, e1⟩; obtain rfl : w = x1 := e1.symm) | (go_at_call 50; refine c50.mono ?_; rintro _ x3 ⟨rfl, e9⟩; obtain rfl : w = x3 := e9.symm) | (go_at_call 57; refine (c57 _).mono ?_; rintro _ x4 ⟨rfl, b4⟩; have H4 : Hid (Below w.heap.size w x4) := b4; clear b4)
    go_ret
    first | exact ⟨rfl, Below.refl _ _⟩ | exact ⟨rfl, H4.out⟩
end
/-- Each page that the bytes touch is there and has the right. -/
def rgU (ln : Nat) (l : Nat → Int) (rt : Int) (va n : Nat) : Prop := ∀ k, va / 4096 ≤ k → k ≤ (va + n - 1) / 4096 → k < ln ∧ bits .and .u64 (l k) rt ≠ 0
def RgP (w : World) (ln : Nat) (l : Nat → Int) (rt : Int) (va n : Nat) (e : Ending) (w' : World) : Prop := ∃ v : Bool, e = .returned (.bool v) ∧ (v = true ↔ rgU ln l rt va n) ∧ Below w.heap.size w w'
set_option maxHeartbeats 1000000 in
theorem rights_zero (q : Option Addr) (ln cc : Nat) (va rt : Int) (w : World) : Calls Tryz.prog 12 #[.slice q ln cc, .int .u64 va, .int .i64 0, .int .u64 rt] w fun e w' => e = .returned (.bool true) ∧ w' = w := by
  go_enter Tryz.func12, Tryz.ntmps12
  go_wp2
  go_ret
  exact ⟨rfl, rfl⟩
set_option maxHeartbeats 1000000 in
theorem rights_any {w : World} (q : Option Addr) (ln cc : Nat) (l : Nat → Int) (hl : See w .u64 q ln l) (hln : ln ≤ 1000000) (va n : Nat) (hn : 1 ≤ n) (hv : va ≤ 1000000000 ∧ n ≤ 9223372036854775807) (rt : Int) : Calls Tryz.prog 12 #[.slice q ln cc, .int .u64 va, .int .i64 n, .int .u64 rt] w (RgP w ln l rt va n) := by
  have hn0 : ((n : Int) == 0) = false := by simp; omega
  obtain ⟨a, ha⟩ : ∃ a, a = va / 4096 := ⟨_, rfl⟩
  have e1 : (va : Int) / 4096 = (a : Int) := by rw [ha]; omega
  obtain ⟨u, hu⟩ : ∃ u, u = (va + n - 1) / 4096 := ⟨_, rfl⟩
  have e2 : ((va : Int) + n - 1) / 4096 = (u : Int) := by rw [hu]; omega
  have HU : Hid (u = (va + n - 1) / 4096 ∧ a = va / 4096) := ⟨hu, ha⟩
  have hub : u ≤ 4611686018427387904 := by rw [hu]; omega
  have hau : a ≤ u := by rw [hu, ha]; omega
  clear hu ha
  go_enter Tryz.func12, Tryz.ntmps12
  go_wp2
  go_loopw [9] (fun k wr => ∃ i : Nat, a ≤ i ∧ i ≤ u + 1 ∧ k = .int .u64 i ∧ Below w.heap.size w wr ∧ ∀ k, a ≤ k → k < i → k < ln ∧ bits .and .u64 (l k) rt ≠ 0) (fun k _ => u + 1 - (intOf k).toNat)
  case atStart => exact ⟨a, by omega, by omega, rfl, Below.refl _ _, fun k h1 h2 => by omega⟩
  case round =>
    obtain ⟨i, hi, hiu, rfl, hB, hall⟩ := hrel
    have HB : Hid (Below w.heap.size w wr ∧ ∀ k, a ≤ k → k < i → k < ln ∧ bits .and .u64 (l k) rt ≠ 0) := ⟨hB, hall⟩
    clear hall
    by_cases h1 : i ≤ u
    · have g1 : (i : Int) ≤ u := by omega
      by_cases h2 : i < ln
      · rcases hl with h | ⟨g, o, rfl, hg, hr⟩
        · omega
        have g2 : ¬ ((i : Int) ≥ ln) := by omega
        have g2' : (i : Int) < ln := by omega
        have k0 := (hB.cell (p := ⟨g, o + i, .none⟩) hg).trans (hr i h2)
        have HL : Hid (∃ x, x = l i) := ⟨_, rfl⟩
        obtain ⟨x, hx⟩ := HL.out
        rw [← hx] at k0
        obtain ⟨y, hy⟩ : ∃ y, y = bits .and .u64 x rt := ⟨_, rfl⟩
        have HY : Hid (y = bits .and .u64 (l i) rt) := by rw [← hx]; exact hy
        clear hB hr hx HL
        by_cases h3 : y = 0
        · have g3 : bits .and .u64 x rt = 0 := by rw [← hy]; exact h3
          clear hy
          go_wp2
          go_ret
          exact ⟨false, rfl, ⟨fun e => (by cases e), fun hh => (by have h9 := hh i (by rw [← HU.out.2]; exact hi) (by rw [← HU.out.1]; exact h1); exact absurd (HY.out.symm.trans h3) h9.2)⟩, HB.out.1⟩
        · have g3 : (bits .and .u64 x rt == 0) = false := by rw [← hy]; simpa using h3
          clear hy
          go_wp2
          exact ⟨⟨i + 1, by omega, by omega, by simp, HB.out.1, fun k h4 h5 => by
            by_cases h6 : k = i
            · subst h6
              exact ⟨h2, fun e => h3 (HY.out.trans e)⟩
            · exact HB.out.2 k h4 (by omega)⟩, by simp [intOf]; omega⟩
      · have g2 : (i : Int) ≥ ln := by omega
        clear hB hl
        go_wp2
        go_ret
        exact ⟨false, rfl, ⟨fun e => (by cases e), fun hh => (by have h9 := hh i (by rw [← HU.out.2]; exact hi) (by rw [← HU.out.1]; exact h1); omega)⟩, HB.out.1⟩
    · have g1 : ¬ (i : Int) ≤ u := by omega
      clear hB hl
      go_wp2
      go_ret
      exact ⟨true, rfl, ⟨fun _ k h4 h5 => HB.out.2 k (by rw [HU.out.2]; exact h4) (by rw [← HU.out.1] at h5; omega), fun _ => rfl⟩, HB.out.1⟩
end Go.Proofs.YtblmkkhiojbcjaaGreat
