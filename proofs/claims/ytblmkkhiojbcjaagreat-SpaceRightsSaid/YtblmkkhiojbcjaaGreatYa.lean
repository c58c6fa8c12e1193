import Derived.Test.YtblmkkhiojbcjaaGreatTb
import Derived.Test.YtblmkkhiojbcjaaGreatSTrb
import Derived.Test.YtblmkkhiojbcjaaGreatSTak
import Derived.Test.YtblmkkhiojbcjaaGreatNew
namespace Go.Proofs.YtblmkkhiojbcjaaGreat
open Go.RowKit
set_option linter.unusedVariables false
set_option linter.unusedSimpArgs false
/-- A space's three cells. -/
structure Sp (w : World) (s p : Nat) (root size : Int) : Prop where
  c0 : w.cell? ⟨s, 0, .none⟩ = some (.pointer (some ⟨p, 0, .none⟩))
  c1 : w.cell? ⟨s, 1, .none⟩ = some (.int .u64 root)
  c2 : w.cell? ⟨s, 2, .none⟩ = some (.int .u64 size)
  fr : ∀ k, w.frozen? ⟨s, k, .none⟩ = false
theorem Sp.lt {w : World} {s p : Nat} {root size : Int} (h : Sp w s p root size) : s < w.heap.size := lt_of_cell h.c0
theorem Sp.below {w w' : World} {s p : Nat} {root size : Int} (h : Sp w s p root size) (b : Below w.heap.size w w') : Sp w' s p root size :=
  ⟨(b.cell (p := ⟨s, 0, .none⟩) h.lt).trans h.c0, (b.cell (p := ⟨s, 1, .none⟩) h.lt).trans h.c1, (b.cell (p := ⟨s, 2, .none⟩) h.lt).trans h.c2, fun k => (b.frozen (p := ⟨s, k, .none⟩) h.lt).trans (h.fr k)⟩
theorem Sp.fra {w w' : World} {s p b m : Nat} {root size : Int} (h : Sp w s p root size) (f : Fra p b m w w') (h1 : s ≠ p) (h2 : s ≠ b) (h3 : s ≠ m) : Sp w' s p root size :=
  ⟨(f.cell (x := ⟨s, 0, .none⟩) h.lt h1 h2 h3).trans h.c0, (f.cell (x := ⟨s, 1, .none⟩) h.lt h1 h2 h3).trans h.c1, (f.cell (x := ⟨s, 2, .none⟩) h.lt h1 h2 h3).trans h.c2, fun k => (f.frozen (x := ⟨s, k, .none⟩) h.lt h1 h2 h3).trans (h.fr k)⟩
theorem made_sp {w : World} {s p : Nat} {root size : Int} (h : Sp w s p root size) : Calls Tryz.prog 43 #[.pointer (some ⟨s, 0, .none⟩)] w fun e w' => e = .returned (.bool true) ∧ w' = w := by
  have c0 := h.c0
  clear h
  go_enter Tryz.func43, Tryz.ntmps43
  go_wp2
  go_ret
  exact ⟨rfl, rfl⟩
theorem size_sp {w : World} {s p : Nat} {root size : Int} (h : Sp w s p root size) : Calls Tryz.prog 10 #[.pointer (some ⟨s, 0, .none⟩)] w fun e w' => e = .returned (.int .u64 size) ∧ w' = w := by
  have c0 := h.c0
  have c2 := h.c2
  have c33 := made_sp h
  clear h
  go_enter Tryz.func10, Tryz.ntmps10
  go_wp2_with (go_at_call 43; refine c33.mono ?_; rintro _ w1 ⟨rfl, e1⟩; obtain rfl : w = w1 := e1.symm)
  go_ret
  exact ⟨rfl, rfl⟩
theorem pagesOf_any (x : Int) (h : 0 ≤ x ∧ x ≤ 1099511627776) (w : World) : Calls Tryz.prog 46 #[.int .u64 x] w fun e w' => e = .returned (.int .i64 ((x + 4095) / 4096)) ∧ w' = w := by
  have h1 : IntKind.u64.wrap (x + 4096) = x + 4096 := by rw [IntKind.wrap_u64]; omega
  have h2 : IntKind.u64.wrap (x + 4096 - 1) = x + 4095 := by rw [IntKind.wrap_u64]; omega
  go_enter Tryz.func46, Tryz.ntmps46
  go_wp2
  go_ret
  exact ⟨rfl, rfl⟩
theorem pages_sp {w : World} {s p : Nat} {root size : Int} (h : Sp w s p root size) (hs : 0 ≤ size ∧ size ≤ 1099511627776) : Calls Tryz.prog 19 #[.pointer (some ⟨s, 0, .none⟩)] w fun e w' => e = .returned (.int .i64 ((size + 4095) / 4096)) ∧ w' = w := by
  have c13 := size_sp h
  have c119 := pagesOf_any size hs w
  clear h
  go_enter Tryz.func19, Tryz.ntmps19
  go_wp2_with first | (go_at_call 10; refine c13.mono ?_; rintro _ w1 ⟨rfl, e1⟩; obtain rfl : w = w1 := e1.symm) | (go_at_call 46; refine c119.mono ?_; rintro _ w1 ⟨rfl, e1⟩; obtain rfl : w = w1 := e1.symm)
  go_ret
  exact ⟨rfl, rfl⟩
theorem addrOf_any (k : Int) (h : 0 ≤ k ∧ k ≤ 268435456) (w : World) : Calls Tryz.prog 87 #[.int .i64 k] w fun e w' => e = .returned (.int .u64 (k * 4096)) ∧ w' = w := by
  have h1 : IntKind.u64.wrap k = k := by rw [IntKind.wrap_u64]; omega
  have h2 : IntKind.u64.wrap (k * 4096) = k * 4096 := by rw [IntKind.wrap_u64]; omega
  go_enter Tryz.func87, Tryz.ntmps87
  go_wp2
  go_ret
  exact ⟨rfl, rfl⟩
theorem frameOf_any (e : Int) (h : 0 ≤ e ∧ e < 18014398509481984) (w : World) : Calls Tryz.prog 62 #[.int .u64 e] w fun r w' => r = .returned (.int .u64 (e / 1024 * 4096)) ∧ w' = w := by
  have h2 : IntKind.u64.wrap (e / 1024 * 4096) = e / 1024 * 4096 := by rw [IntKind.wrap_u64]; omega
  go_enter Tryz.func62, Tryz.ntmps62
  go_wp2
  go_ret
  exact ⟨rfl, rfl⟩
theorem fits_any (va n en : Int) (hv : 0 ≤ va ∧ va < 18446744073709551616) (hn : 0 ≤ n ∧ n < 9223372036854775808) (he : va ≤ en ∧ en < 18446744073709551616) (hf : n ≤ en - va) (w : World) : Calls Tryz.prog 50 #[.int .u64 va, .int .i64 n, .int .u64 en] w fun r w' => r = .returned (.bool true) ∧ w' = w := by
  have h1 : IntKind.u64.wrap n = n := by rw [IntKind.wrap_u64]; omega
  have h2 : IntKind.u64.wrap (en - va) = en - va := by rw [IntKind.wrap_u64]; omega
  obtain ⟨h3, h4⟩ := he
  go_enter Tryz.func50, Tryz.ntmps50
  go_wp2
  go_ret
  exact ⟨rfl, rfl⟩
theorem leaf_any {w : World} {p b m N : Nat} {B : Nat → Int} {L : List Nat} (h : Ram w p b m N B L) (root va : Int) (hr : 0 ≤ root ∧ root < 18446744073709551616) (hv : 0 ≤ va ∧ va < 18446744073709551616) :
    Calls Tryz.prog 75 #[.agg #[.pointer (some ⟨p, 0, .none⟩), .int .u64 root], .int .u64 va] w fun r w' => r = .returned (.int .u64 (if finds (look N L B root va) va = true then (look N L B root va).e else 0)) ∧ Below w.heap.size w w' := by
  have HB : Hid (Below w.heap.size w (w.alloc (.cells #[.pointer (some ⟨p, 0, .none⟩), .int .u64 root] 77))) := (Below.refl _ _).alloc (Nat.le_refl _) _
  have c := entry_any (h.below HB.out) root va hr hv
  generalize (if finds (look N L B root va) va = true then (look N L B root va).e else 0) = x at c ⊢
  generalize look N L B root va = y at c
  clear h
  go_enter Tryz.func75, Tryz.ntmps75
  go_wp2_with (go_at_call 67; refine c.mono ?_; rintro _ w1 ⟨rfl, b1⟩)
  all_goals go_ret
  all_goals exact ⟨rfl, HB.out.trans (b1.mono HB.out.size)⟩
end Go.Proofs.YtblmkkhiojbcjaaGreat
