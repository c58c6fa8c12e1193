import Derived.Test.YtblmkkhiojbcjaaGreatRw
namespace Go.Proofs.YtblmkkhiojbcjaaGreat
open Go.RowKit
set_option linter.unusedVariables false
set_option linter.unusedSimpArgs false
section
variable {w : World} {p b m N cnt : Nat} {B : Nat → Int} {nx : Int} {hd : Int → Bool}
theorem reach_neg (h : Mem w p b m N B nx hd cnt) (pa n : Int) (hn : n < 0) : Calls Tryz.prog 90 #[.pointer (some ⟨p, 0, .none⟩), .int .u64 pa, .int .i64 n] w fun e w' => e = .returned (.tuple #[.slice .none 0 0, .bool false]) ∧ w' = w := by
  have c := made_some p b _ _ w h.c0
  clear h
  go_enter Tryz.func90, Tryz.ntmps90
  go_wp2_with (go_at_call 63; refine c.mono ?_; rintro e w0 ⟨rfl, rfl⟩)
  go_ret2
  exact ⟨rfl, rfl⟩
theorem reach_zero (h : Mem w p b m N B nx hd cnt) (pa : Int) : Calls Tryz.prog 90 #[.pointer (some ⟨p, 0, .none⟩), .int .u64 pa, .int .i64 0] w fun e w' => e = .returned (.tuple #[.slice .none 0 0, .bool true]) ∧ w' = w := by
  have c := made_some p b _ _ w h.c0
  clear h
  go_enter Tryz.func90, Tryz.ntmps90
  go_wp2_with (go_at_call 63; refine c.mono ?_; rintro e w0 ⟨rfl, rfl⟩)
  go_ret2
  exact ⟨rfl, rfl⟩
set_option maxHeartbeats 2000000 in
theorem reach_hole (h : Mem w p b m N B nx hd cnt) (o n : Nat) (hn : 1 ≤ n) (ho : o + n ≤ 4096 * N) (f0 : Nat) (hf1 : o / 4096 ≤ f0) (hf2 : f0 * 4096 < o + n) (hh : hd (2147483648 + f0 * 4096) = false) :
    Calls Tryz.prog 90 #[.pointer (some ⟨p, 0, .none⟩), .int .u64 (2147483648 + o), .int .i64 n] w fun e w' => e = .returned (.tuple #[.slice .none 0 0, .bool false]) ∧ Below w.heap.size w w' := by
  have c := made_some p b _ _ w h.c0
  have k0 := h.c0
  have n2 := h.n2
  have i1 : ¬ ((n : Int) < 0) := by omega
  have i2 : ((n : Int) == 0) = false := by simp; omega
  have i3 : (n : Int) ≤ 4096 * N - o := by omega
  have i4 : (o : Int) < 4096 * N := by omega
  have HM : Hid (Mem w p b m N B nx hd cnt) := h
  clear h
  go_enter Tryz.func90, Tryz.ntmps90
  go_wp2_with (first | (go_at_call 63; refine c.mono ?_; rintro e w0 ⟨rfl, rfl⟩) | fail)
  go_quiet (fail)
  go_wp2
  simp only [show (2147483648 + (o : Int) - 2147483648) = o by omega]
  go_loopw [11] (fun k wr => ∃ f : Nat, f ≤ f0 ∧ k = .int .u64 (2147483648 + f * 4096) ∧ Below w0.heap.size w0 wr) (fun k _ => (2147483648 + o + n + 4096 - intOf k).toNat)
  case atStart => exact ⟨o / 4096, by omega, congrArg _ (by omega), below_drewN (Below.refl _ _) _⟩
  case round =>
    obtain ⟨f, hff, rfl, hB⟩ := hrel
    have M := HM.out.below hB
    have HB : Hid (Below w0.heap.size w0 wr) := hB
    have hfn : f * 4096 < o + n := Nat.lt_of_le_of_lt (Nat.mul_le_mul_right _ hff) hf2
    have j1 : (2147483648 + (f : Int) * 4096) < 2147483648 + (o + n) := by omega
    have c1 := isHeld_any M (2147483648 + f * 4096) (by omega)
    clear M hB
    cases hq : hd (2147483648 + f * 4096) with
    | true =>
      rw [hq] at c1
      have hne : f ≠ f0 := fun e => by rw [e, hh] at hq; cases hq
      have q : Hid (f + 1 ≤ f0 ∧ Value.int .u64 (2147483648 + (f : Int) * 4096 + 4096) = .int .u64 (2147483648 + ((f + 1 : Nat) : Int) * 4096) ∧ (2147483648 + (o : Int) + n + 4096 - intOf (.int .u64 (2147483648 + (f : Int) * 4096 + 4096))).toNat < (2147483648 + (o : Int) + n + 4096 - intOf (.int .u64 (2147483648 + (f : Int) * 4096))).toNat) := by
        refine ⟨by omega, ?_, ?_⟩
        · rw [show ((f + 1 : Nat) : Int) = (f : Int) + 1 by omega, show 2147483648 + ((f : Int) + 1) * 4096 = 2147483648 + (f : Int) * 4096 + 4096 by omega]
        · simp only [intOf]
          omega
      go_wp2_with (first | (go_at_call 70; refine c1.mono ?_; rintro e w1 ⟨rfl, hb1⟩) | fail)
      exact ⟨⟨f + 1, q.out.1, q.out.2.1, HB.out.trans (hb1.mono HB.out.size)⟩, q.out.2.2⟩
    | false =>
      rw [hq] at c1
      go_wp2_with (first | (go_at_call 70; refine c1.mono ?_; rintro e w1 ⟨rfl, hb1⟩) | fail)
      go_ret2
      exact ⟨rfl, HB.out.trans (hb1.mono HB.out.size)⟩
set_option maxHeartbeats 2000000 in
theorem reach_out (h : Mem w p b m N B nx hd cnt) (pa n : Int) (hp : 0 ≤ pa ∧ pa < 18446744073709551616) (hn : 1 ≤ n) (hn2 : n ≤ 9223372036854775807) (ho : ¬ (2147483648 ≤ pa ∧ pa - 2147483648 + n ≤ 4096 * N)) :
    Calls Tryz.prog 90 #[.pointer (some ⟨p, 0, .none⟩), .int .u64 pa, .int .i64 n] w fun e w' => e = .returned (.tuple #[.slice .none 0 0, .bool false]) ∧ Below w.heap.size w w' := by
  have c := made_some p b _ _ w h.c0
  have k0 := h.c0
  have n2 := h.n2
  have i1 : ¬ (n < 0) := by omega
  have i2 : (n == 0) = false := by simp; omega
  clear h
  by_cases h1 : 2147483648 ≤ pa
  · by_cases h2 : 4096 * (N : Int) ≤ pa - 2147483648
    · go_enter Tryz.func90, Tryz.ntmps90
      go_wp2_with (first | (go_at_call 63; refine c.mono ?_; rintro e w0 ⟨rfl, rfl⟩) | fail)
      go_quiet (fail)
      go_wp2
      go_ret2
      exact ⟨rfl, below_drewN (Below.refl _ _) _⟩
    · have h3 : 4096 * (N : Int) - (pa - 2147483648) < n := by omega
      go_enter Tryz.func90, Tryz.ntmps90
      go_wp2_with (first | (go_at_call 63; refine c.mono ?_; rintro e w0 ⟨rfl, rfl⟩) | fail)
      go_quiet (fail)
      go_wp2
      go_ret2
      exact ⟨rfl, below_drewN (Below.refl _ _) _⟩
  · have hw : IntKind.u64.wrap (pa - 2147483648) = pa - 2147483648 + 18446744073709551616 := by rw [IntKind.wrap_u64]; omega
    have h2 : 4096 * (N : Int) ≤ pa - 2147483648 + 18446744073709551616 := by omega
    generalize pa - 2147483648 + 18446744073709551616 = Z at *
    go_enter Tryz.func90, Tryz.ntmps90
    go_wp2_with (first | (go_at_call 63; refine c.mono ?_; rintro e w0 ⟨rfl, rfl⟩) | fail)
    go_quiet (fail)
    go_wp2
    go_ret2
    exact ⟨rfl, below_drewN (Below.refl _ _) _⟩
/-- A refusal, whatever its ground. -/
theorem access_no (pa n v : Int) (wr : Bool) (c : Calls Tryz.prog 90 #[.pointer (some ⟨p, 0, .none⟩), .int .u64 pa, .int .i64 n] w fun e w' => e = .returned (.tuple #[.slice .none 0 0, .bool false]) ∧ Below w.heap.size w w') :
    Calls Tryz.prog 141 #[.pointer (some ⟨p, 0, .none⟩), .int .u64 pa, .int .i64 n, .bool wr, .int .u64 v] w fun e w' => e = .returned (.tuple #[.int .u64 0, .bool false]) ∧ Below w.heap.size w w' := by
  go_enter Tryz.func141, Tryz.ntmps141
  go_wp2_with (go_at_call 90; refine c.mono ?_; rintro e w1 ⟨rfl, hb⟩)
  go_ret2
  exact ⟨rfl, hb⟩
/-- A width that is none. -/
theorem access_width (pa n v : Int) (wr : Bool) (q : Option Addr) (len cap : Nat) (ok : Bool) (hn : n ≠ 1 ∧ n ≠ 2 ∧ n ≠ 4 ∧ n ≠ 8) (c : Calls Tryz.prog 90 #[.pointer (some ⟨p, 0, .none⟩), .int .u64 pa, .int .i64 n] w fun e w' => e = .returned (.tuple #[.slice q len cap, .bool true]) ∧ Below w.heap.size w w') :
    Calls Tryz.prog 141 #[.pointer (some ⟨p, 0, .none⟩), .int .u64 pa, .int .i64 n, .bool wr, .int .u64 v] w fun e w' => e = .returned (.tuple #[.int .u64 0, .bool false]) ∧ Below w.heap.size w w' := by
  have e1 : (n == 1) = false := by simpa using hn.1
  have e2 : (n == 2) = false := by simpa using hn.2.1
  have e4 : (n == 4) = false := by simpa using hn.2.2.1
  have e8 : (n == 8) = false := by simpa using hn.2.2.2
  clear hn
  go_enter Tryz.func141, Tryz.ntmps141
  go_wp2_with (go_at_call 90; refine c.mono ?_; rintro e w1 ⟨rfl, hb⟩)
  go_ret2
  exact ⟨rfl, hb⟩
theorem load_no (pa n : Int) (c : Calls Tryz.prog 141 #[.pointer (some ⟨p, 0, .none⟩), .int .u64 pa, .int .i64 n, .bool false, .int .u64 0] w fun e w' => e = .returned (.tuple #[.int .u64 0, .bool false]) ∧ Below w.heap.size w w') :
    Calls Tryz.prog 118 #[.pointer (some ⟨p, 0, .none⟩), .int .u64 pa, .int .i64 n] w fun e w' => e = .returned (.tuple #[.int .u64 0, .bool false]) ∧ Below w.heap.size w w' := by
  go_enter Tryz.func118, Tryz.ntmps118
  go_wp2_with (go_at_call 141; refine c.mono ?_; rintro e w1 ⟨rfl, hb⟩)
  go_ret2
  exact ⟨rfl, hb⟩
theorem store_no (pa n v : Int) (c : Calls Tryz.prog 141 #[.pointer (some ⟨p, 0, .none⟩), .int .u64 pa, .int .i64 n, .bool true, .int .u64 v] w fun e w' => e = .returned (.tuple #[.int .u64 0, .bool false]) ∧ Below w.heap.size w w') :
    Calls Tryz.prog 116 #[.pointer (some ⟨p, 0, .none⟩), .int .u64 pa, .int .i64 n, .int .u64 v] w fun e w' => e = .returned (.bool false) ∧ Below w.heap.size w w' := by
  go_enter Tryz.func116, Tryz.ntmps116
  go_wp2_with (go_at_call 141; refine c.mono ?_; rintro e w1 ⟨rfl, hb⟩)
  go_ret
  exact ⟨rfl, hb⟩
theorem read_no (pa n : Int) (c : Calls Tryz.prog 90 #[.pointer (some ⟨p, 0, .none⟩), .int .u64 pa, .int .i64 n] w fun e w' => e = .returned (.tuple #[.slice .none 0 0, .bool false]) ∧ Below w.heap.size w w') :
    Calls Tryz.prog 55 #[.pointer (some ⟨p, 0, .none⟩), .int .u64 pa, .int .i64 n] w fun e w' => e = .returned (.tuple #[.slice .none 0 0, .bool false]) ∧ Below w.heap.size w w' := by
  go_enter Tryz.func55, Tryz.ntmps55
  go_wp2_with (go_at_call 90; refine c.mono ?_; rintro e w1 ⟨rfl, hb⟩)
  go_ret2
  exact ⟨rfl, hb⟩
theorem read_zero (h : Mem w p b m N B nx hd cnt) (pa : Int) : Calls Tryz.prog 55 #[.pointer (some ⟨p, 0, .none⟩), .int .u64 pa, .int .i64 0] w fun e w' => e = .returned (.tuple #[.slice .none 0 0, .bool true]) ∧ w' = w := by
  have c := reach_zero h pa
  clear h
  go_enter Tryz.func55, Tryz.ntmps55
  go_wp2_with (go_at_call 90; refine c.mono ?_; rintro e w0 ⟨rfl, rfl⟩)
  go_ret2
  exact ⟨rfl, rfl⟩
theorem write_no (pa : Int) (sa : Option Addr) (n cap : Nat) (c : Calls Tryz.prog 90 #[.pointer (some ⟨p, 0, .none⟩), .int .u64 pa, .int .i64 n] w fun e w' => e = .returned (.tuple #[.slice .none 0 0, .bool false]) ∧ Below w.heap.size w w') :
    Calls Tryz.prog 85 #[.pointer (some ⟨p, 0, .none⟩), .int .u64 pa, .slice sa n cap] w fun e w' => e = .returned (.bool false) ∧ Below w.heap.size w w' := by
  have hcp : ∀ (w : World) ty, (Builtin.copy_ #[24, 24] ty #[.slice .none 0 0, .slice sa n cap]).run Tryz.prog w = .ok (.int .i64 0) w := fun w ty => run_copy_none w 24 24 ty 5 .none sa 0 0 n cap Tryz.underlying24 info5 (by simp)
  go_enter Tryz.func85, Tryz.ntmps85
  go_wp2_with (go_at_call 90; refine c.mono ?_; rintro e w1 ⟨rfl, hb⟩)
  go_ret
  exact ⟨rfl, hb⟩
theorem write_zero (h : Mem w p b m N B nx hd cnt) (pa : Int) (sa : Option Addr) (cap : Nat) : Calls Tryz.prog 85 #[.pointer (some ⟨p, 0, .none⟩), .int .u64 pa, .slice sa 0 cap] w fun e w' => e = .returned (.bool true) ∧ w' = w := by
  have hcp : ∀ (w : World) ty, (Builtin.copy_ #[24, 24] ty #[.slice .none 0 0, .slice sa 0 cap]).run Tryz.prog w = .ok (.int .i64 0) w := fun w ty => run_copy_none w 24 24 ty 5 .none sa 0 0 0 cap Tryz.underlying24 info5 (by simp)
  have c := reach_zero h pa
  clear h
  go_enter Tryz.func85, Tryz.ntmps85
  go_wp2_with (go_at_call 90; refine c.mono ?_; rintro e w0 ⟨rfl, rfl⟩)
  go_ret
  exact ⟨rfl, rfl⟩
end
end Go.Proofs.YtblmkkhiojbcjaaGreat
