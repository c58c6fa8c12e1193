import Derived.Test.YtblmkkhiojbcjaaGreatYf
namespace Go.Proofs.YtblmkkhiojbcjaaGreat
open Go.RowKit
set_option linter.unusedVariables false
set_option linter.unusedSimpArgs false
def ndP (n : Int) : Int := if n = 0 then 3 else 4 + (n + 511) / 512
theorem ndP_any (n : Int) (h : 0 ≤ n ∧ n ≤ 4096) (w : World) : Calls Tryz.prog 32 #[.int .i64 n] w fun e w' => e = .returned (.int .i64 (ndP n)) ∧ w' = w := by
  unfold ndP
  by_cases h0 : n = 0
  · subst h0
    go_enter Tryz.func32, Tryz.ntmps32
    go_wp2
    go_ret
    exact ⟨rfl, rfl⟩
  · rw [if_neg h0, show n + 511 = n + 512 - 1 by omega]
    have h1 : (n == 0) = false := by simpa using h0
    have h2 : 0 < n := by omega
    go_enter Tryz.func32, Tryz.ntmps32
    go_wp2
    go_ret
    exact ⟨rfl, rfl⟩
/-- The rights that a page may have. -/
def rgt (c : Int) : Prop := c = 8 ∨ c = 2 ∨ c = 10 ∨ c = 6 ∨ c = 14
theorem mayS_any (c : Int) (h : rgt c) (w : World) : Calls Tryz.prog 44 #[.int .u64 c] w fun e w' => e = .returned (.bool true) ∧ w' = w := by
  rcases h with rfl | rfl | rfl | rfl | rfl
  all_goals
    go_enter Tryz.func44, Tryz.ntmps44
    go_wp2
    go_ret
    exact ⟨rfl, rfl⟩
theorem rgt_or {c : Int} (h : rgt c) : bits .or .u64 c 16 = c + 16 ∧ bits .or .u64 (c + 16) 64 = c + 80 ∧ bits .or .u64 (c + 80) 128 = c + 208 := by
  rcases h with rfl | rfl | rfl | rfl | rfl <;> decide
theorem rgt_ok {c : Int} (h : rgt c) : (!ho (c + 208) 18446744073709551361 && ho (c + 208) 10 && (!hs (c + 208) 4 || hs (c + 208) 2)) = true := by
  rcases h with rfl | rfl | rfl | rfl | rfl <;> decide
theorem rgt_leaf {c : Int} (h : rgt c) {f N : Nat} (hf : f < N) (hN : N ≤ 4096) : kd (toP (ad f) (c + 208)) 0 = 2 ∧ 0 ≤ toP (ad f) (c + 208) ∧ toP (ad f) (c + 208) < 18446744073709551616 := by
  have hb := ad_b f N hf hN
  rcases h with rfl | rfl | rfl | rfl | rfl <;> exact leaf_b _ _ ⟨hb.1, hb.2.2, hb.2.1⟩ (by decide) (by decide) (by decide) (by decide)
section
variable {w : World} {s p b m N : Nat} {root size : Int} {B : Nat → Int} {L : List Nat}
theorem each_zero (va : Int) (f g : Value) (w : World) (s : Nat) : Calls Tryz.prog 52 #[.pointer (some ⟨s, 0, .none⟩), .int .u64 va, .int .i64 0, f, g] w fun e w' => e = .returned (.bool true) ∧ w' = w := by
  go_enter Tryz.func52, Tryz.ntmps52
  go_wp2_with fail
  go_loopw [2] (fun k wr => k = .int .i64 0 ∧ wr = w) (fun _ _ => 0)
  case atStart => exact ⟨rfl, rfl⟩
  case round =>
    obtain ⟨rfl, rfl⟩ := hrel
    go_wp2
    go_ret
    exact ⟨rfl, rfl⟩
theorem end_any (h : Sp w s p root size) (hs : 0 ≤ size ∧ size ≤ 1099511627776) : Calls Tryz.prog 51 #[.pointer (some ⟨s, 0, .none⟩)] w fun e w' => e = .returned (.int .u64 ((size + 4095) / 4096 * 4096)) ∧ w' = w := by
  have c77 := pages_sp h hs
  have c76 := addrOf_any ((size + 4095) / 4096) (by omega) w
  clear h
  go_enter Tryz.func51, Tryz.ntmps51
  go_wp2_with first | (go_at_call 19; refine c77.mono ?_; rintro _ w1 ⟨rfl, e1⟩; obtain rfl : w = w1 := e1.symm) | (go_at_call 87; refine c76.mono ?_; rintro _ w1 ⟨rfl, e1⟩; obtain rfl : w = w1 := e1.symm)
  go_ret
  exact ⟨rfl, rfl⟩
set_option maxRecDepth 4000 in
theorem room_any (h : Sp w s p root size) (hR : Ram w p b m N B L) (P : Int) (hP : 0 ≤ P ∧ P < 4096) (hs : size = P * 4096) (hd : 1 + ndP (P + 1) - ndP P ≤ L.length) : Calls Tryz.prog 45 #[.pointer (some ⟨s, 0, .none⟩), .int .i64 (P + 1)] w fun e w' => e = .returned (.bool true) ∧ ∃ k, w' = w.drewN k := by
  have c77 := pages_sp h (by omega)
  rw [show (size + 4095) / 4096 = P by omega] at c77
  have c0 := h.c0
  have c10 := count_ram hR
  have d1 := ndP_any (P + 1) (by omega) w
  have d2 := ndP_any P (by omega) w
  have hl := len_le hR
  have n2 := hR.mem.n2
  have hb : 0 ≤ ndP P ∧ ndP P ≤ 100 ∧ 0 ≤ ndP (P + 1) ∧ ndP (P + 1) ≤ 100 := by unfold ndP; split <;> split <;> omega
  generalize ndP P = u at *
  generalize ndP (P + 1) = v at *
  generalize hg : L.length = g at *
  clear hs h hR hg
  have hd' : P + 1 - P + v - u ≤ (g : Int) := by omega
  clear hd
  go_enter Tryz.func45, Tryz.ntmps45
  go_wp2_with (go_at_call 19; refine c77.mono ?_; rintro _ w1 ⟨rfl, e1⟩; obtain rfl : w = w1 := e1.symm)
  refine d1.mono ?_
  rintro _ w1 ⟨rfl, e1⟩
  obtain rfl : w = w1 := e1.symm
  go_wp2_with (go_at_call 19; refine c77.mono ?_; rintro _ w1 ⟨rfl, e1⟩; obtain rfl : w = w1 := e1.symm)
  refine d2.mono ?_
  rintro _ w1 ⟨rfl, e1⟩
  obtain rfl : w = w1 := e1.symm
  go_wp2_with (go_at_call 30; refine c10.mono ?_; rintro _ w1 ⟨rfl, k1, rfl⟩)
  go_ret
  exact ⟨rfl, k1, rfl⟩
end
end Go.Proofs.YtblmkkhiojbcjaaGreat
