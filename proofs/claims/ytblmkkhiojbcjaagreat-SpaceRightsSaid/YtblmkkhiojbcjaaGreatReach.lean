import Derived.Test.YtblmkkhiojbcjaaGreatNew
namespace Go.Proofs.YtblmkkhiojbcjaaGreat
open Go.RowKit
set_option linter.unusedVariables false
set_option linter.unusedSimpArgs false
section
variable {w : World} {p b m N cnt : Nat} {B : Nat → Int} {nx : Int} {hd : Int → Bool}
set_option maxHeartbeats 2000000 in
theorem reach_ok (h : Mem w p b m N B nx hd cnt) (o n : Nat) (hn : 1 ≤ n) (ho : o + n ≤ 4096 * N) (hh : ∀ f : Nat, o / 4096 ≤ f → f * 4096 < o + n → hd (2147483648 + f * 4096) = true) :
    Calls Tryz.prog 90 #[.pointer (some ⟨p, 0, .none⟩), .int .u64 (2147483648 + o), .int .i64 n] w fun e w' => e = .returned (.tuple #[.slice (some ⟨b, o, .none⟩) n (4096 * N - o), .bool true]) ∧ Below w.heap.size w w' := by
  have c := made_some p b _ _ w h.c0
  have k0 := h.c0
  have n2 := h.n2
  have i1 : ¬ ((n : Int) < 0) := by omega
  have i2 : ((n : Int) == 0) = false := by simp; omega
  have i3 : (n : Int) ≤ 4096 * N - o := by omega
  have i4 : (o : Int) < 4096 * N := by omega
  have HM : Hid (Mem w p b m N B nx hd cnt) := h
  clear h
  go_enter Tryz.func90, Tryz.ntmps90
  go_wp2_with (first | (go_at_call 63; refine c.mono ?_; rintro e w0 ⟨rfl, rfl⟩) | fail)
  go_quiet (fail)
  go_wp2
  simp only [show (2147483648 + (o : Int) - 2147483648) = o by omega]
  go_loopw [11] (fun k wr => ∃ f : Nat, o / 4096 ≤ f ∧ f * 4096 < o + n + 4096 ∧ k = .int .u64 (2147483648 + f * 4096) ∧ Below w0.heap.size w0 wr) (fun k _ => (2147483648 + o + n + 4096 - intOf k).toNat)
  case atStart => exact ⟨o / 4096, by omega, by omega, congrArg _ (by omega), below_drewN (Below.refl _ _) _⟩
  case round =>
    obtain ⟨f, hf1, hf2, rfl, hB⟩ := hrel
    have M := HM.out.below hB
    have HB : Hid (Below w0.heap.size w0 wr) := hB
    by_cases hfn : f * 4096 < o + n
    · have j1 : (2147483648 + (f : Int) * 4096) < 2147483648 + (o + n) := by omega
      have q : Hid (o / 4096 ≤ f + 1 ∧ (f + 1) * 4096 < o + n + 4096 ∧ Value.int .u64 (2147483648 + (f : Int) * 4096 + 4096) = .int .u64 (2147483648 + ((f + 1 : Nat) : Int) * 4096) ∧ (2147483648 + (o : Int) + n + 4096 - intOf (.int .u64 (2147483648 + (f : Int) * 4096 + 4096))).toNat < (2147483648 + (o : Int) + n + 4096 - intOf (.int .u64 (2147483648 + (f : Int) * 4096))).toNat) := by
        refine ⟨by omega, (by rw [Nat.succ_mul]; exact Nat.add_lt_add_right hfn 4096), ?_, ?_⟩
        · rw [show ((f + 1 : Nat) : Int) = (f : Int) + 1 by omega, show 2147483648 + ((f : Int) + 1) * 4096 = 2147483648 + (f : Int) * 4096 + 4096 by omega]
        · simp only [intOf]
          omega
      have c1 := isHeld_any M (2147483648 + f * 4096) (by omega)
      rw [hh f hf1 hfn] at c1
      clear M hB
      go_wp2_with (first | (go_at_call 70; refine c1.mono ?_; rintro e w1 ⟨rfl, hb1⟩) | fail)
      exact ⟨⟨f + 1, q.out.1, q.out.2.1, q.out.2.2.1, HB.out.trans (hb1.mono HB.out.size)⟩, q.out.2.2.2⟩
    · have j1 : ¬ ((2147483648 + (f : Int) * 4096) < 2147483648 + (o + n)) := by omega
      have k0 := M.c0
      clear M hB
      go_wp2
      go_ret2
      exact ⟨rfl, HB.out⟩
/-- Numbers of each width, by one word. -/
theorem number_read (b o n len cap : Nat) (hn : n = 1 ∨ n = 2 ∨ n = 4 ∨ n = 8) (B : Nat → Int) (v : Int) (w : World) (hl : n ≤ len) (hB : ∀ i, 0 ≤ B i ∧ B i < 256) (hc : ∀ i, i < n → w.cell? ⟨b, o + i, .none⟩ = some (.int .u8 (B (o + i)))) :
    Calls Tryz.prog (if n = 1 then 154 else if n = 2 then 155 else if n = 4 then 82 else 105) #[.slice (some ⟨b, o, .none⟩) len cap, .bool false, .int .u64 v] w fun e w' => e = .returned (.int .u64 (num B o n)) ∧ w' = w := by
  rcases hn with rfl | rfl | rfl | rfl
  · exact number8_read b o len cap B v w hl hB hc
  · exact number16_read b o len cap B v w hl hB hc
  · exact number32_read b o len cap B v w hl hB hc
  · exact number64_read b o len cap B v w hl hB hc
theorem number_write (b o n len cap : Nat) (hn : n = 1 ∨ n = 2 ∨ n = 4 ∨ n = 8) (v : Int) (w : World) (hl : n ≤ len) (hc : ∀ i, i < n → (w.cell? ⟨b, o + i, .none⟩).isSome = true) (hf : ∀ i, i < n → w.frozen? ⟨b, o + i, .none⟩ = false) (hv : 0 ≤ v ∧ v < 18446744073709551616) :
    Calls Tryz.prog (if n = 1 then 154 else if n = 2 then 155 else if n = 4 then 82 else 105) #[.slice (some ⟨b, o, .none⟩) len cap, .bool true, .int .u64 v] w fun e w' => e = .returned (.int .u64 (md v n)) ∧ w' = w.setCells b o ((le v n).map (.int .u8)) := by
  rcases hn with rfl | rfl | rfl | rfl
  · exact number8_write b o len cap v w hl hc hf hv
  · exact number16_write b o len cap v w hl hc hf hv
  · exact number32_write b o len cap v w hl hc hf hv
  · exact number64_write b o len cap v w hl hc hf hv
set_option maxHeartbeats 1000000 in
theorem access_read (h : Mem w p b m N B nx hd cnt) (o n : Nat) (hn : n = 1 ∨ n = 2 ∨ n = 4 ∨ n = 8) (ho : o + n ≤ 4096 * N) (hh : ∀ f : Nat, o / 4096 ≤ f → f * 4096 < o + n → hd (2147483648 + f * 4096) = true) (v : Int) :
    Calls Tryz.prog 141 #[.pointer (some ⟨p, 0, .none⟩), .int .u64 (2147483648 + o), .int .i64 n, .bool false, .int .u64 v] w fun e w' => e = .returned (.tuple #[.int .u64 (num B o n), .bool true]) ∧ Below w.heap.size w w' := by
  have c := reach_ok h o n (by omega) ho hh
  have HM : Hid (Mem w p b m N B nx hd cnt) := h
  clear h hh
  have hR := fun w1 => number_read b o n n (4096 * N - o) hn B v w1 (Nat.le_refl _) HM.out.bb
  rcases hn with rfl | rfl | rfl | rfl
  all_goals
    go_enter Tryz.func141, Tryz.ntmps141
    go_wp2_with fail
    refine c.mono ?_
    rintro e w1 ⟨rfl, hb⟩
    have M1 := HM.out.below hb
    have c2 := hR w1 (fun i hi => M1.cb _ (by omega))
    simp only [Nat.reduceEqDiff, if_true, if_false, reduceIte] at c2
    clear M1 c hR
    go_wp2_with (first | (go_at_call 154; refine c2.mono ?_; rintro e w2 ⟨rfl, rfl⟩) | (go_at_call 155; refine c2.mono ?_; rintro e w2 ⟨rfl, rfl⟩) | (go_at_call 82; refine c2.mono ?_; rintro e w2 ⟨rfl, rfl⟩) | (go_at_call 105; refine c2.mono ?_; rintro e w2 ⟨rfl, rfl⟩))
    go_ret2
    exact ⟨rfl, hb⟩
end
end Go.Proofs.YtblmkkhiojbcjaaGreat
