import Derived.Test.YtblmkkhiojbcjaaGreatGb
import Derived.Test.YtblmkkhiojbcjaaGreatUl
import Derived.Maps.AppendAt
namespace Go.Proofs.YtblmkkhiojbcjaaGreat
open Go Go.RowKit
set_option linter.unusedVariables false
set_option linter.unusedSimpArgs false
section
variable {w : World} {s p b m N r P K : Nat} {B : Nat → Int} {L : List Nat} {F : Nat → Option Nat} {lf : Nat → Nat → Int} {fr : Nat → Nat} {c : Nat → Int}
/-- What a page that is guarded comes to. -/
def GdP (w : World) (s p b m N r P K : Nat) (fr : Nat → Nat) (c : Nat → Int) (e : Ending) (w' : World) : Prop := e = .returned (.int .i64 0) ∧ (∃ B' L' F' lf', SpG w' s p b m N r P K B' L' F' lf' fr c) ∧ Fra p b m w w'
theorem SpG.guard (h : SpG w s p b m N r P K B L F lf fr c) (hP : P ≤ 512) (i : Nat) (hi : 1 ≤ i ∧ i < P) {d : Int} (hd : rdb (c i) d) : Calls Tryz.prog 11 #[.pointer (some ⟨s, 0, .none⟩), .int .i64 (i : Int)] w (GdP w s p b m N r P K fr (upd c i d)) := by
  have hN := h.su.ram.mem.n2
  have hq := h.su.pag i hi.2
  have h0 := h.su.pag 0 (by omega)
  have e00 : y0 (((0 : Nat) : Int) * 4096) = 513 ∧ i0 (((0 : Nat) : Int) * 4096) = 0 := ⟨low_y0 0 (by omega), low_i0 0 (by omega)⟩
  refine (guard_pt h.su.sp h.su.ram h.su.pt h.su.rt h.su.ne (i : Int) (by omega) (by omega) hd hq 0 ⟨by omega, by rw [low_i0 i (by omega)]; omega, ?_⟩).mono fun e w' h9 => ?_
  · have hl := h0.l
    have hk := h0.k
    rw [e00.1, e00.2] at hl
    rw [low_y0 i (by omega), hl]
    exact hk
  · obtain ⟨he, hfra, B', hram, hpt, hby⟩ := h9
    rw [low_y0 i (by omega), low_i0 i (by omega)] at hpt
    refine ⟨he, ⟨B', L, F, _, ⟨h.su.sp.fra hfra h.su.ne.1 h.su.ne.2.1 h.su.ne.2.2, h.su.sz, h.su.pm, hram, hpt, h.su.rt, h.su.ne, fun j hj => ?_⟩, fun k h1 h2 => ?_, h.nod, h.len, h.inj⟩, hfra⟩
    · have hqj := h.su.pag j hj
      unfold upd
      by_cases hij : j = i
      · subst hij
        rw [if_pos rfl]
        have hl := rdb_leaf hd hq.qb.1 hN
        refine ⟨hq.w1, hq.w0, ?_, hl.1, by unfold rdb at hd; omega, hq.qb, hq.nn⟩
        rw [low_y0 j (by omega), low_i0 j (by omega)]
        unfold setE
        rw [if_pos ⟨rfl, rfl⟩]
      · rw [if_neg hij]
        refine ⟨hqj.w1, hqj.w0, ?_, hqj.k, hqj.cb, hqj.qb, hqj.nn⟩
        have := hqj.l
        rw [low_y0 j (by omega), low_i0 j (by omega)] at this ⊢
        unfold setE
        rw [if_neg (fun e => hij e.2)]
        exact this
    · unfold setE
      rw [if_neg (fun e => by omega)]
      exact h.zr k h1 h2
end
end Go.Proofs.YtblmkkhiojbcjaaGreat
namespace Go.Proofs.YtblmkkhiojbcjaaGreat
open Go Go.RowKit Fz
set_option linter.unusedVariables false
set_option linter.unusedSimpArgs false
set_option maxHeartbeats 1000000 in
theorem bytes_same {w : World} {n ca cb : Nat} {qa qb : Option Addr} {R : Nat → Int} (hn : n ≤ 9223372036854775807) (ha : See w .u8 qa n R) (hb : See w .u8 qb n R) : Calls Tryz.prog 17 #[.slice qa n ca, .slice qb n cb] w fun e w' => e = .returned (.bool true) ∧ Below w.heap.size w w' := by
  go_enter Tryz.func17, Tryz.ntmps17
  go_wp2
  go_loopw [5] (fun k wr => ∃ i : Nat, i ≤ n ∧ k = .int .i64 i ∧ Below w.heap.size w wr) (fun k _ => n - (intOf k).toNat)
  case atStart => exact ⟨0, by omega, rfl, Below.refl _ _⟩
  case round =>
    obtain ⟨i, hi, rfl, hB⟩ := hrel
    have HB : Hid (Below w.heap.size w wr) := hB
    by_cases hin : i < n
    · rcases ha with h | ⟨g1, o1, rfl, hg1, r1⟩
      · omega
      rcases hb with h | ⟨g2, o2, rfl, hg2, r2⟩
      · omega
      have i1 : (i : Int) < n := by omega
      have k0 := (hB.cell (p := ⟨g1, o1 + i, .none⟩) hg1).trans (r1 i hin)
      have k1 := (hB.cell (p := ⟨g2, o2 + i, .none⟩) hg2).trans (r2 i hin)
      clear hB r1 r2
      generalize R i = x at *
      go_wp2
      go_quiet (fail)
      go_wp2
      exact ⟨⟨i + 1, by omega, by simp, below_drewN HB.out _⟩, by simp [intOf]; omega⟩
    · have i1 : ¬ ((i : Int) < n) := by omega
      clear hB ha hb
      go_wp2
      go_ret
      exact ⟨rfl, HB.out⟩
section
variable {w : World} {s p b m N r P : Nat} {size : Int} {B : Nat → Int} {L : List Nat} {F : Nat → Option Nat} {lf : Nat → Nat → Int} {fr : Nat → Nat} {c : Nat → Int}
set_option maxHeartbeats 1000000 in
theorem in_zero (h : SpU w s p b m N r P size B L F lf fr c) (va : Nat) : Calls Tryz.prog 13 #[.pointer (some ⟨s, 0, .none⟩), .int .u64 va, .int .i64 0] w fun e w' => e = .returned (.tuple #[.slice none 0 0, .bool true]) ∧ Below w.heap.size w w' := by
  obtain ⟨w1, hw1⟩ : ∃ w1, w1 = w.alloc (.cells #[.pointer (some ⟨s, 0, .none⟩)] 26) := ⟨_, rfl⟩
  have b1 : Below w.heap.size w w1 := by rw [hw1]; exact below1 _ _
  have q1 : w1.cell? ⟨w.heap.size, 0, .none⟩ = some (.pointer (some ⟨s, 0, .none⟩)) := by rw [hw1]; simp
  have c43 := made_sp (h.sp.below b1)
  have HB : Hid (Below w.heap.size w w1) := b1
  clear h b1
  go_enter Tryz.func13, Tryz.ntmps13
  go_upto_region 1 with fail
  rw [← hw1]
  clear hw1
  go_wp2_with (go_at_call 43; refine c43.mono ?_; rintro _ x1 ⟨rfl, e1⟩; obtain rfl : w1 = x1 := e1.symm)
  refine bodyPost_ret (v := .tuple #[.slice none 0 0, .bool true]) (by simp [results, Tryz.results13, go_sem]) rfl ⟨rfl, HB.out⟩
set_option maxHeartbeats 1000000 in
theorem in_far (h : SpU w s p b m N r P size B L F lf fr c) (va n : Nat) (hn : 1 ≤ n) (hvn : (va : Int) < 18446744073709551616 ∧ (n : Int) < 9223372036854775808) (hf : ¬ va + n ≤ P * 4096) : Calls Tryz.prog 13 #[.pointer (some ⟨s, 0, .none⟩), .int .u64 va, .int .i64 n] w fun e w' => e = .returned (.tuple #[.slice none 0 0, .bool false]) ∧ Below w.heap.size w w' := by
  have hm := h.pm
  have hsz := h.sz
  obtain ⟨w1, hw1⟩ : ∃ w1, w1 = w.alloc (.cells #[.pointer (some ⟨s, 0, .none⟩)] 26) := ⟨_, rfl⟩
  have b1 : Below w.heap.size w w1 := by rw [hw1]; exact below1 _ _
  have q1 : w1.cell? ⟨w.heap.size, 0, .none⟩ = some (.pointer (some ⟨s, 0, .none⟩)) := by rw [hw1]; simp
  have c51 := end_any (h.sp.below b1) (by omega)
  rw [hsz.2] at c51
  have c50 := fits_gen (va : Int) n ((P : Int) * 4096) (by omega) (by omega) (by omega) w1
  rw [decide_eq_false (p := (va : Int) + n ≤ (P : Int) * 4096) (by omega)] at c50
  have HB : Hid (Below w.heap.size w w1) := b1
  have hb1 : ((n : Int) == 0) = false := by simp; omega
  clear h b1 hsz
  go_enter Tryz.func13, Tryz.ntmps13
  go_upto_region 1 with fail
  rw [← hw1]
  clear hw1
  go_wp2_with first | (go_at_call 51; refine c51.mono ?_; rintro _ x1 ⟨rfl, e1⟩; obtain rfl : w1 = x1 := e1.symm) | (go_at_call 50; refine c50.mono ?_; rintro _ x1 ⟨rfl, e1⟩; obtain rfl : w1 = x1 := e1.symm)
  refine bodyPost_ret (v := .tuple #[.slice none 0 0, .bool false]) (by simp [results, Tryz.results13, go_sem]) rfl ⟨rfl, HB.out⟩
set_option maxHeartbeats 1000000 in
theorem can_zero (h : SpU w s p b m N r P size B L F lf fr c) (va : Nat) : Calls Tryz.prog 15 #[.pointer (some ⟨s, 0, .none⟩), .int .u64 va, .int .i64 0] w fun e w' => e = .returned (.bool true) ∧ w' = w := by
  have c43 := made_sp h.sp
  clear h
  go_enter Tryz.func15, Tryz.ntmps15
  go_wp2_with (go_at_call 43; refine c43.mono ?_; rintro _ x1 ⟨rfl, e1⟩; obtain rfl : w = x1 := e1.symm)
  go_ret
  exact ⟨rfl, rfl⟩
set_option maxHeartbeats 1000000 in
theorem put_zero (s va : Nat) (q : Option Addr) (cc : Nat) (f : Value) (w : World) : Calls Tryz.prog 57 #[.pointer (some ⟨s, 0, .none⟩), .int .u64 va, .slice q 0 cc, f] w fun e w' => e = .returned (.bool true) ∧ Below w.heap.size w w' := by
  obtain ⟨w1, hw1⟩ : ∃ w1, w1 = w.alloc (.cells #[.pointer (some ⟨s, 0, .none⟩)] 26) := ⟨_, rfl⟩
  obtain ⟨w2, hw2⟩ : ∃ w2, w2 = w1.alloc (.cells #[.slice q 0 cc] 24) := ⟨_, rfl⟩
  have z1 : w1.heap.size = w.heap.size + 1 := by rw [hw1]; simp
  have b1 : Below w.heap.size w w1 := by rw [hw1]; exact below1 _ _
  have b12 : Below w1.heap.size w1 w2 := by rw [hw2]; exact below1 _ _
  have b2 := b1.trans (b12.mono b1.size)
  have ks : w2.cell? ⟨w.heap.size, 0, .none⟩ = some (.pointer (some ⟨s, 0, .none⟩)) := (b12.cell (p := ⟨w.heap.size, 0, .none⟩) (by show w.heap.size < w1.heap.size; omega)).trans (by rw [hw1]; simp)
  have kb : w2.cell? ⟨w.heap.size + 1, 0, .none⟩ = some (.slice q 0 cc) := by rw [← z1, hw2]; simp
  have c52 := fun g : Value => each_zero (va : Int) f g w2 s
  have HB : Hid (Below w.heap.size w w2) := b2
  clear b1 b12 b2 z1
  go_enter Tryz.func57, Tryz.ntmps57
  go_upto_region 1 with fail
  rw [← hw1, ← hw2]
  clear hw1 hw2
  go_wp2_with (go_at_call 52; refine (c52 _).mono ?_; rintro _ x1 ⟨rfl, e1⟩; obtain rfl : w2 = x1 := e1.symm)
  go_ret
  exact ⟨rfl, HB.out⟩
end
end Go.Proofs.YtblmkkhiojbcjaaGreat
namespace Go.Proofs.YtblmkkhiojbcjaaGreat
open Go Go.RowKit Fz
set_option linter.unusedVariables false
set_option linter.unusedSimpArgs false
section
variable {w : World} {s p b m N r P : Nat} {size : Int} {B : Nat → Int} {L : List Nat} {F : Nat → Option Nat} {lf : Nat → Nat → Int} {fr : Nat → Nat} {c : Nat → Int}
set_option maxHeartbeats 1000000 in
theorem out_zero (h : SpU w s p b m N r P size B L F lf fr c) (va : Nat) (q : Option Addr) (cc : Nat) : Calls Tryz.prog 16 #[.pointer (some ⟨s, 0, .none⟩), .int .u64 va, .slice q 0 cc] w fun e w' => e = .returned (.bool true) ∧ Below w.heap.size w w' := by
  have c15 := can_zero h va
  have c53 := forUser_any s 3 w
  obtain ⟨x2, hx2⟩ : ∃ x2, x2 = (w.alloc (.cells #[.pointer (some ⟨s, 0, .none⟩)] 26)).alloc (.cells #[.int .i64 3] 90) := ⟨_, rfl⟩
  have b2 : Below w.heap.size w x2 := by rw [hx2]; exact ((Below.refl _ _).alloc (Nat.le_refl _) _).alloc (by simp) _
  have c57 := fun f : Value => put_zero s va q cc f x2
  rw [← hx2] at c53
  have HB : Hid (Below w.heap.size w x2) := b2
  clear h hx2 b2
  go_enter Tryz.func16, Tryz.ntmps16
  go_wp2_with first | (go_at_call 15; refine c15.mono ?_; rintro _ x1 ⟨rfl, e1⟩; obtain rfl : w = x1 := e1.symm) | (go_at_call 53; refine c53.mono ?_; rintro _ x3 ⟨rfl, e9⟩; obtain rfl : x2 = x3 := e9.symm) | (go_at_call 57; refine (c57 _).mono ?_; rintro _ x4 ⟨rfl, b4⟩; have H4 : Hid (Below w.heap.size w x4) := HB.out.trans (b4.mono HB.out.size); clear b4)
  go_ret
  exact ⟨rfl, H4.out⟩
set_option maxHeartbeats 1000000 in
theorem poke_zero (h : SpU w s p b m N r P size B L F lf fr c) (va : Nat) (hv : (va : Int) < 18446744073709551616) (q : Option Addr) (cc : Nat) : Calls Tryz.prog 18 #[.pointer (some ⟨s, 0, .none⟩), .int .u64 va, .slice q 0 cc] w fun e w' => e = .returned (.bool (decide ((va : Int) ≤ size))) ∧ Below w.heap.size w w' := by
  have hm := h.pm
  have hsz := h.sz
  have c43 := made_sp h.sp
  have c50 := fits_gen (va : Int) 0 size (by omega) (by omega) (by omega) w
  rw [Int.add_zero] at c50
  have k2 := h.sp.c2
  have c57 := fun f : Value => put_zero s va q cc f w
  clear h hm hsz
  generalize decide ((va : Int) ≤ size) = v at *
  cases v
  all_goals
    go_enter Tryz.func18, Tryz.ntmps18
    go_wp2_with first | (go_at_call 43; refine c43.mono ?_; rintro _ x1 ⟨rfl, e1⟩; obtain rfl : w = x1 := e1.symm) | (go_at_call 50; refine c50.mono ?_; rintro _ x3 ⟨rfl, e9⟩; obtain rfl : w = x3 := e9.symm) | (go_at_call 57; refine (c57 _).mono ?_; rintro _ x4 ⟨rfl, b4⟩; have H4 : Hid (Below w.heap.size w x4) := b4; clear b4)
    go_ret
    first | exact ⟨rfl, Below.refl _ _⟩ | exact ⟨rfl, H4.out⟩
end
/-- Each page that the bytes touch is there and has the right. -/
def rgU (ln : Nat) (l : Nat → Int) (rt : Int) (va n : Nat) : Prop := ∀ k, va / 4096 ≤ k → k ≤ (va + n - 1) / 4096 → k < ln ∧ bits .and .u64 (l k) rt ≠ 0
def RgP (w : World) (ln : Nat) (l : Nat → Int) (rt : Int) (va n : Nat) (e : Ending) (w' : World) : Prop := ∃ v : Bool, e = .returned (.bool v) ∧ (v = true ↔ rgU ln l rt va n) ∧ Below w.heap.size w w'
set_option maxHeartbeats 1000000 in
theorem rights_zero (q : Option Addr) (ln cc : Nat) (va rt : Int) (w : World) : Calls Tryz.prog 12 #[.slice q ln cc, .int .u64 va, .int .i64 0, .int .u64 rt] w fun e w' => e = .returned (.bool true) ∧ w' = w := by
  go_enter Tryz.func12, Tryz.ntmps12
  go_wp2
  go_ret
  exact ⟨rfl, rfl⟩
set_option maxHeartbeats 1000000 in
theorem rights_any {w : World} (q : Option Addr) (ln cc : Nat) (l : Nat → Int) (hl : See w .u64 q ln l) (hln : ln ≤ 1000000) (va n : Nat) (hn : 1 ≤ n) (hv : va ≤ 1000000000 ∧ n ≤ 9223372036854775807) (rt : Int) : Calls Tryz.prog 12 #[.slice q ln cc, .int .u64 va, .int .i64 n, .int .u64 rt] w (RgP w ln l rt va n) := by
  have hn0 : ((n : Int) == 0) = false := by simp; omega
  obtain ⟨a, ha⟩ : ∃ a, a = va / 4096 := ⟨_, rfl⟩
  have e1 : (va : Int) / 4096 = (a : Int) := by rw [ha]; omega
  obtain ⟨u, hu⟩ : ∃ u, u = (va + n - 1) / 4096 := ⟨_, rfl⟩
  have e2 : ((va : Int) + n - 1) / 4096 = (u : Int) := by rw [hu]; omega
  have HU : Hid (u = (va + n - 1) / 4096 ∧ a = va / 4096) := ⟨hu, ha⟩
  have hub : u ≤ 4611686018427387904 := by rw [hu]; omega
  have hau : a ≤ u := by rw [hu, ha]; omega
  clear hu ha
  go_enter Tryz.func12, Tryz.ntmps12
  go_wp2
  go_loopw [9] (fun k wr => ∃ i : Nat, a ≤ i ∧ i ≤ u + 1 ∧ k = .int .u64 i ∧ Below w.heap.size w wr ∧ ∀ k, a ≤ k → k < i → k < ln ∧ bits .and .u64 (l k) rt ≠ 0) (fun k _ => u + 1 - (intOf k).toNat)
  case atStart => exact ⟨a, by omega, by omega, rfl, Below.refl _ _, fun k h1 h2 => by omega⟩
  case round =>
    obtain ⟨i, hi, hiu, rfl, hB, hall⟩ := hrel
    have HB : Hid (Below w.heap.size w wr ∧ ∀ k, a ≤ k → k < i → k < ln ∧ bits .and .u64 (l k) rt ≠ 0) := ⟨hB, hall⟩
    clear hall
    by_cases h1 : i ≤ u
    · have g1 : (i : Int) ≤ u := by omega
      by_cases h2 : i < ln
      · rcases hl with h | ⟨g, o, rfl, hg, hr⟩
        · omega
        have g2 : ¬ ((i : Int) ≥ ln) := by omega
        have g2' : (i : Int) < ln := by omega
        have k0 := (hB.cell (p := ⟨g, o + i, .none⟩) hg).trans (hr i h2)
        have HL : Hid (∃ x, x = l i) := ⟨_, rfl⟩
        obtain ⟨x, hx⟩ := HL.out
        rw [← hx] at k0
        obtain ⟨y, hy⟩ : ∃ y, y = bits .and .u64 x rt := ⟨_, rfl⟩
        have HY : Hid (y = bits .and .u64 (l i) rt) := by rw [← hx]; exact hy
        clear hB hr hx HL
        by_cases h3 : y = 0
        · have g3 : bits .and .u64 x rt = 0 := by rw [← hy]; exact h3
          clear hy
          go_wp2
          go_ret
          exact ⟨false, rfl, ⟨fun e => (by cases e), fun hh => (by have h9 := hh i (by rw [← HU.out.2]; exact hi) (by rw [← HU.out.1]; exact h1); exact absurd (HY.out.symm.trans h3) h9.2)⟩, HB.out.1⟩
        · have g3 : (bits .and .u64 x rt == 0) = false := by rw [← hy]; simpa using h3
          clear hy
          go_wp2
          exact ⟨⟨i + 1, by omega, by omega, by simp, HB.out.1, fun k h4 h5 => by
            by_cases h6 : k = i
            · subst h6
              exact ⟨h2, fun e => h3 (HY.out.trans e)⟩
            · exact HB.out.2 k h4 (by omega)⟩, by simp [intOf]; omega⟩
      · have g2 : (i : Int) ≥ ln := by omega
        clear hB hl
        go_wp2
        go_ret
        exact ⟨false, rfl, ⟨fun e => (by cases e), fun hh => (by have h9 := hh i (by rw [← HU.out.2]; exact hi) (by rw [← HU.out.1]; exact h1); omega)⟩, HB.out.1⟩
    · have g1 : ¬ (i : Int) ≤ u := by omega
      clear hB hl
      go_wp2
      go_ret
      exact ⟨true, rfl, ⟨fun _ k h4 h5 => HB.out.2 k (by rw [HU.out.2]; exact h4) (by rw [← HU.out.1] at h5; omega), fun _ => rfl⟩, HB.out.1⟩
end Go.Proofs.YtblmkkhiojbcjaaGreat
namespace Go.Proofs.YtblmkkhiojbcjaaGreat
open Go Go.RowKit Fz
set_option linter.unusedVariables false
set_option linter.unusedSimpArgs false
theorem own_bel {w w' : World} {base e size n : Nat} {v : Value} {xs : List Value} (h : w.ownsRow base e size v n xs) (b : Below w.heap.size w w') : w'.ownsRow base e size v n xs := by
  refine ⟨h.1, ?_⟩
  rcases h.2 with h1 | ⟨g, cap, cur, h1, h2, h3, h4⟩
  · exact .inl h1
  · have hg : g < w.heap.size := by
      rcases Nat.lt_or_ge g w.heap.size with hh | hh
      · exact hh
      · rw [Array.getElem?_eq_none hh] at h3; cases h3
    exact .inr ⟨g, cap, cur, h1, h2, (b.block g hg).trans h3, h4⟩
theorem infoB' : ∃ i, Tryz.prog.info? 5 = some i ∧ i.zero = some (.int .u8 0) ∧ i.size = 1 ∧ i.bytes = 1 := by
  have h : (Tryz.prog.info? 5).map (fun i => (i.zero, i.size, i.bytes)) = some (some (.int .u8 0), 1, 1) := by kernel_rfl
  cases hq : Tryz.prog.info? 5 with
  | none => rw [hq] at h; cases h
  | some i =>
    rw [hq] at h
    simp only [Option.map_some, Option.some.injEq, Prod.mk.injEq] at h
    exact ⟨i, rfl, h⟩
/-- The bytes of the pages that may be read. -/
def rdX (B : Nat → Int) (fr : Nat → Nat) (l : Nat → Int) : Nat → List Int
  | 0 => []
  | i + 1 => rdX B fr l i ++ (if bits .and .u64 (l i) 2 = 0 then [] else (List.range 4096).map fun j => btU B fr (4096 * i + j))
theorem rdX_len (B : Nat → Int) (fr : Nat → Nat) (l : Nat → Int) : ∀ i, (rdX B fr l i).length ≤ 4096 * i
  | 0 => by simp [rdX]
  | i + 1 => by
    have := rdX_len B fr l i
    unfold rdX
    rw [List.length_append]
    split <;> simp <;> omega
def RdX (w : World) (xs : List Int) (e : Ending) (w' : World) : Prop := ∃ q c, e = .returned (.slice q xs.length c) ∧ w'.ownsRow w.heap.size 5 1 (.slice q xs.length c) xs.length (xs.map fun x => .int .u8 x) ∧ Below w.heap.size w w'
def RRl (w : World) (B : Nat → Int) (fr : Nat → Nat) (l : Nat → Int) (ln : Nat) (v5 v6 : Value) (wr : World) : Prop := ∃ (i : Nat) (q : Option Addr) (c n : Nat), i ≤ ln ∧ n = (rdX B fr l i).length ∧ v5 = .slice q n c ∧ v6 = .int .i64 i ∧ wr.ownsRow w.heap.size 5 1 (.slice q n c) n ((rdX B fr l i).map fun x => .int .u8 x) ∧ Below w.heap.size w wr
section
variable {w : World} {s p b m N r P : Nat} {size : Int} {B : Nat → Int} {L : List Nat} {F : Nat → Option Nat} {lf : Nat → Nat → Int} {fr : Nat → Nat} {c : Nat → Int}
/-- A page that may be read, read. -/
def PgP (w : World) (B : Nat → Int) (fr : Nat → Nat) (i : Nat) (e : Ending) (w' : World) : Prop := ∃ g, e = .returned (.tuple #[.slice (some ⟨g, 0, .none⟩) 4096 4096, .bool true]) ∧ (∀ j, j < 4096 → w'.cell? ⟨g, j, .none⟩ = some (.int .u8 (btU B fr (4096 * i + j)))) ∧ w.heap.size ≤ g ∧ Below w.heap.size w w'
theorem in_page (h : SpU w s p b m N r P size B L F lf fr c) (i : Nat) (hi : i < P) (ha : accU c 1 (4096 * i) = true) : Calls Tryz.prog 13 #[.pointer (some ⟨s, 0, .none⟩), .int .u64 (4096 * (i : Int)), .int .i64 4096] w (PgP w B fr i) := by
  have := in_any h (4096 * i) 4096 (by omega) (by omega)
  rw [show ((4096 * i : Nat) : Int) = 4096 * (i : Int) by omega] at this
  refine this.mono fun e w' h9 => ?_
  obtain ⟨hb, ⟨_, g, hg, _, he, hc⟩ | ⟨⟨j, hj, hx⟩, _⟩⟩ := h9
  · exact ⟨g, he, hc, hg, hb⟩
  · unfold accU at ha hx
    rw [show (4096 * i + j) / 4096 = 4096 * i / 4096 by omega] at hx
    rw [ha] at hx
    cases hx
set_option maxRecDepth 100000 in
set_option maxHeartbeats 2000000 in
theorem readable_any (h : SpU w s p b m N r P size B L F lf fr c) (q : Option Addr) (ln cc : Nat) (l : Nat → Int) (hl : See w .u64 q ln l) (hln : ln ≤ P) (hac : ∀ i, i < ln → bits .and .u64 (l i) 2 ≠ 0 → accU c 1 (4096 * i) = true) :
    Calls Tryz.prog 14 #[.pointer (some ⟨s, 0, .none⟩), .slice q ln cc] w (RdX w (rdX B fr l ln)) := by
  obtain ⟨j0, hj0, hjz, hj1, hj2⟩ := infoB'
  have hpm := h.pm
  have HS : Hid (SpU w s p b m N r P size B L F lf fr c ∧ ∀ i, i < ln → bits .and .u64 (l i) 2 ≠ 0 → accU c 1 (4096 * i) = true) := ⟨h, hac⟩
  clear h hac
  go_enter Tryz.func14, Tryz.ntmps14
  go_wp2
  go_loopw [5, 6] (fun v5 v6 wr => RRl w B fr l ln v5 v6 wr) (fun _ v6 _ => ln - (intOf v6).toNat)
  case atStart => exact ⟨0, .none, 0, 0, by omega, rfl, rfl, rfl, World.ownsRow_nil _ _ _ _, Below.refl _ _⟩
  case round =>
    obtain ⟨i, q5, c5, n5, hi, hn5, rfl, rfl, hO, hB⟩ := hrel
    have HB : Hid (Below w.heap.size w wr) := hB
    have HO : Hid (wr.ownsRow w.heap.size 5 1 (.slice q5 n5 c5) n5 ((rdX B fr l i).map fun x => .int .u8 x)) := hO
    have hnb : n5 ≤ 4096 * i := by rw [hn5]; exact rdX_len B fr l i
    have HN : Hid (n5 = (rdX B fr l i).length) := hn5
    clear hn5
    by_cases hin : i < ln
    · rcases hl with h | ⟨g1, o1, rfl, hg1, r1⟩
      · omega
      have i1 : (i : Int) < ln := by omega
      have k0 := (hB.cell (p := ⟨g1, o1 + i, .none⟩) hg1).trans (r1 i hin)
      have HX : Hid (∃ x, x = l i) := ⟨_, rfl⟩
      obtain ⟨x, hx⟩ := HX.out
      have Hx : Hid (x = l i) := hx
      rw [← hx] at k0
      clear r1 hO hx HX
      by_cases h0 : bits .and .u64 x 2 = 0
      · clear hB
        go_wp2
        refine ⟨⟨i + 1, q5, c5, n5, by omega, ?_, rfl, by simp, ?_, HB.out⟩, by simp [intOf]; omega⟩
        · rw [HN.out, rdX, if_pos (by rw [← Hx.out]; exact h0), List.append_nil]
        · rw [rdX, if_pos (by rw [← Hx.out]; exact h0), List.append_nil]; exact HO.out
      · have h0' : (bits .and .u64 x 2 == 0) = false := by simpa using h0
        have c13 := in_page (HS.out.1.below hB) i (by omega) (HS.out.2 i hin (by rw [← Hx.out]; exact h0))
        clear hB
        go_upto_region 7 with (go_at_call 13; refine c13.mono ?_; rintro _ w4 ⟨g4, rfl, hc4, hg4, hb4⟩; have H4 : Hid (w4.ownsRow w.heap.size 5 1 (.slice q5 n5 c5) n5 ((rdX B fr l i).map fun x => .int .u8 x) ∧ Below w.heap.size w w4 ∧ (∀ j, j < 4096 → w4.cell? ⟨g4, j, .none⟩ = some (.int .u8 (btU B fr (4096 * i + j))))) := ⟨own_bel HO.out hb4, HB.out.trans (hb4.mono HB.out.size), hc4⟩; clear hc4 hb4)
        obtain ⟨nw, hnw⟩ : ∃ nw : List Value, nw = (List.range 4096).map fun j => Value.int .u8 (btU B fr (4096 * i + j)) := ⟨_, rfl⟩
        have HNW : Hid (nw = (List.range 4096).map fun j => Value.int .u8 (btU B fr (4096 * i + j))) := hnw
        have n1 : nw.length = 4096 * 1 := by rw [hnw, List.length_map, List.length_range]
        have n2 : ∀ j u, nw[j]? = some u → w4.cell? ((⟨g4, 0, .none⟩ : Addr).add j) = some u := fun j u hj => by
          have hjl : j < 4096 := by
            rcases Nat.lt_or_ge j 4096 with hh | hh
            · exact hh
            · rw [List.getElem?_eq_none (by rw [n1]; omega)] at hj; cases hj
          rw [hnw, List.getElem?_map, List.getElem?_range hjl] at hj
          have := H4.out.2.2 j hjl
          simp only [Option.map_some, Option.some.injEq] at hj
          rw [← hj, ← this]
          simp only [Addr.add]
          split
          · rename_i hz
            have hz : j = 0 := hz
            rw [hz]
          · simp
        have n3 : ∀ u ∈ nw, u.oneCell' = true := fun u hu => by
          rw [hnw, List.mem_map] at hu
          obtain ⟨j, _, rfl⟩ := hu
          rfl
        clear hnw
        have HP4 : Hid (i < P ∧ P ≤ 4096) := ⟨by omega, hpm⟩
        go_wp2_with (first | (at_builtin; refine wpList_append_own _ rfl _ _ 24 rfl w.heap.size 5 j0 (.int .u8 0) 1 1 Tryz.underlying24 hj0 hjz hj1 hj2 rfl (by decide) _ _ ((rdX B fr l i).map fun x => .int .u8 x) rfl H4.out.1 ⟨g4, 0, .none⟩ 4096 4096 nw rfl n1 n2 n3 (by unfold maxLen; have := HP4.out; omega) (by have := HP4.out; omega) H4.out.2.1.size ?_; intro v' w5 hown5 hgrow _) | fail)
        have hB5 : Below w.heap.size w w5 := H4.out.2.1.grown hgrow H4.out.2.1.size (fun k hk => ((H4.out.1.lt k hk)).1)
        obtain ⟨g2, cap2, rfl⟩ := ownsRow_some (k := n5 + 4095) hown5
        have hne : ¬ bits .and .u64 (l i) 2 = 0 := by rw [← Hx.out]; exact h0
        refine ⟨⟨i + 1, _, _, n5 + 4096, by omega, ?_, rfl, by simp, ?_, hB5⟩, by simp [intOf]; omega⟩
        · rw [rdX, if_neg hne, List.length_append, ← HN.out, List.length_map, List.length_range]
        · rw [rdX, if_neg hne, List.map_append, List.map_map]
          rw [HNW.out] at hown5
          exact hown5
    · have i1 : ¬ ((i : Int) < ln) := by omega
      clear hB hl hO
      have hin' : i = ln := by omega
      have HP : Hid (RdX w (rdX B fr l ln) (.returned (.slice q5 n5 c5)) wr) := by subst hin'; have := HN.out; subst this; exact ⟨q5, c5, rfl, HO.out, HB.out⟩
      clear hin'
      go_wp2
      go_ret
      exact HP.out
end
end Go.Proofs.YtblmkkhiojbcjaaGreat
namespace Go.Proofs.YtblmkkhiojbcjaaGreat
open Go Go.RowKit Fz
set_option linter.unusedVariables false
set_option linter.unusedSimpArgs false
section
variable {w W W' : World} {s p b m N r P K : Nat} {B : Nat → Int} {L : List Nat} {F : Nat → Option Nat} {lf : Nat → Nat → Int} {fr : Nat → Nat} {c l : Nat → Int}
theorem SpG.keep (h : SpG W s p b m N r P K B L F lf fr c) (hs : W'.heap[s]? = W.heap[s]?) (hp : W'.heap[p]? = W.heap[p]?) (hb : W'.heap[b]? = W.heap[b]?) (hm : W'.heap[m]? = W.heap[m]?) : SpG W' s p b m N r P K B L F lf fr c := by
  have cs : ∀ i, W'.cell? ⟨s, i, .none⟩ = W.cell? ⟨s, i, .none⟩ := fun i => by simp only [World.cell?, hs]
  have fs : ∀ i, W'.frozen? ⟨s, i, .none⟩ = W.frozen? ⟨s, i, .none⟩ := fun i => by simp only [World.frozen?, hs]
  have hR : Ram W' p b m N B L := by
    have := h.su.ram
    exact ⟨this.mem.keep hp hb hm, this.nd, this.lt, this.thr⟩
  exact ⟨⟨⟨(cs 0).trans h.su.sp.c0, (cs 1).trans h.su.sp.c1, (cs 2).trans h.su.sp.c2, fun k => (fs k).trans (h.su.sp.fr k)⟩, h.su.sz, h.su.pm, hR, h.su.pt, h.su.rt, h.su.ne, h.su.pag⟩, h.zr, h.nod, h.len, h.inj⟩
theorem own_blk {base e size n : Nat} {v : Value} {xs : List Value} (h : W.ownsRow base e size v n xs) (hk : ∀ g, v.ownBlock = some g → g < W.heap.size → W'.heap[g]? = W.heap[g]?) : W'.ownsRow base e size v n xs := by
  refine ⟨h.1, ?_⟩
  rcases h.2 with h1 | ⟨g, cap, cur, h1, h2, h3, h4⟩
  · exact .inl h1
  · have hg : g < W.heap.size := by
      rcases Nat.lt_or_ge g W.heap.size with hh | hh
      · exact hh
      · rw [Array.getElem?_eq_none hh] at h3; cases h3
    exact .inr ⟨g, cap, cur, h1, h2, (hk g (by rw [h1]; rfl) hg).trans h3, h4⟩
/-- A page's right as the law keeps it, and as the leaf has it. -/
def pgO (x y : Int) : Prop := (rgt x ∧ y = x + 208) ∨ (x = 0 ∧ ∃ z, rdb z y)
theorem pgO_rd {x y : Int} (h : pgO x y) : hs y (wnt 1) = decide (bits .and .u64 x 2 ≠ 0) := by
  rcases h with ⟨h1, rfl⟩ | ⟨rfl, z, h1⟩
  · rcases h1 with rfl | rfl | rfl | rfl | rfl <;> decide
  · rcases h1 with ⟨rfl, rfl⟩ | ⟨rfl, rfl⟩ | ⟨rfl, rfl⟩ | ⟨rfl, rfl⟩ <;> decide
theorem pgO_wr {x y : Int} (h : pgO x y) : hs y (wnt 2) = decide (bits .and .u64 x 4 ≠ 0) := by
  rcases h with ⟨h1, rfl⟩ | ⟨rfl, z, h1⟩
  · rcases h1 with rfl | rfl | rfl | rfl | rfl <;> decide
  · rcases h1 with ⟨rfl, rfl⟩ | ⟨rfl, rfl⟩ | ⟨rfl, rfl⟩ | ⟨rfl, rfl⟩ <;> decide
/-- What the law has: its space, and its row of rights. -/
structure SRS (w W : World) (s p b m r P : Nat) (v : Value) (l c : Nat → Int) : Prop where
  own : W.ownsRow w.heap.size 23 1 v P ((List.range P).map fun k => .int .u64 (l k))
  ap : ∀ g, v.ownBlock = some g → g ≠ s ∧ g ≠ p ∧ g ≠ b ∧ g ≠ m
  sp : ∃ B L F lf fr, SpG W s p b m 60 r P 55 B L F lf fr c
  bel : Below w.heap.size w W
  lb : w.heap.size ≤ s ∧ w.heap.size ≤ p ∧ w.heap.size ≤ b ∧ w.heap.size ≤ m
  pg : ∀ k, k < P → pgO (l k) (c k)
theorem own_see {q : Option Addr} {cap base : Nat} (h : W.ownsRow base 23 1 (.slice q P cap) P ((List.range P).map fun k => .int .u64 (l k))) : See W .u64 q P l := by
  by_cases h0 : P = 0
  · exact .inl h0
  rcases h.2 with h1 | ⟨g, cap', cur, h1, h2, h3, h4⟩
  · exact absurd h1.2 h0
  · have e : q = some ⟨g, 0, none⟩ ∧ cap = cap' := by simpa using h1
    obtain ⟨rfl, rfl⟩ := e
    have hg : g < W.heap.size := by
      rcases Nat.lt_or_ge g W.heap.size with hh | hh
      · exact hh
      · rw [Array.getElem?_eq_none hh] at h3; cases h3
    refine .inr ⟨g, 0, rfl, hg, fun i hi => ?_⟩
    have := h.cellAt i (by omega)
    rw [Nat.zero_add, this, List.getElem?_map, List.getElem?_range hi]
    rfl
/-- The space moved, the row did not. -/
theorem SRS.grow {q : Option Addr} {cap : Nat} {c' : Nat → Int} (h : SRS w W s p b m r P (.slice q P cap) l c) (hk : ∀ k, k < W.heap.size → k ≠ p → k ≠ b → k ≠ m → k ≠ s → W'.heap[k]? = W.heap[k]?) (hz : W.heap.size ≤ W'.heap.size) (ho : W'.os = W.os ∧ W'.tape = W.tape ∧ W'.output = W.output) :
    W'.ownsRow w.heap.size 23 1 (.slice q P cap) P ((List.range P).map fun k => .int .u64 (l k)) ∧ Below w.heap.size w W' := by
  refine ⟨own_blk h.own fun g hg hl => ?_, ?_⟩
  · have := h.ap g hg
    exact hk g hl this.2.1 this.2.2.1 this.2.2.2 this.1
  · have hlb := h.lb
    have hs := h.bel.size
    exact h.bel.trans ⟨ho.1, ho.2.1, ho.2.2, hz, fun k hk' => hk k (by omega) (by omega) (by omega) (by omega) (by omega)⟩
end
end Go.Proofs.YtblmkkhiojbcjaaGreat
