import Derived.Test.YtblmkkhiojbcjaaGreatSTra
namespace Go.Proofs.YtblmkkhiojbcjaaGreat
open Go.RowKit
set_option linter.unusedVariables false
set_option linter.unusedSimpArgs false
def trP (x : Pt) (va : Int) : Int := (adE x.e + va % spn x.l) % 18446744073709551616
section
variable {w : World} {p b m N : Nat} {B : Nat → Int} {L : List Nat}
theorem translate_any (h : Ram w p b m N B L) (root va a : Int) (hr : 0 ≤ root ∧ root < 18446744073709551616) (hv : 0 ≤ va ∧ va < 18446744073709551616) : Calls Tryz.prog 66 #[.pointer (some ⟨p, 0, .none⟩), .int .u64 root, .int .u64 va, .int .i64 a] w fun r w' => r = .returned (.tuple #[.int .u64 (if trA (look N L B root va) va a then trP (look N L B root va) va else 0), .bool (trA (look N L B root va) va a)]) ∧ Below w.heap.size w w' := by
  have c := entry_any h root va hr hv
  have lb := look_b (N := N) (L := L) h.mem.bb root va
  clear h
  generalize look N L B root va = x at *
  obtain ⟨a0, a1, a2, l, e, k⟩ := x
  simp only at lb c ⊢
  have hf : finds ⟨a0, a1, a2, l, e, k⟩ va = false ∨ finds ⟨a0, a1, a2, l, e, k⟩ va = true := by cases finds ⟨a0, a1, a2, l, e, k⟩ va <;> simp
  rcases hf with hf | hf
  · simp only [trA, hf, Bool.false_and, Bool.false_eq_true, if_false] at c ⊢
    clear hf
    go_enter Tryz.func66, Tryz.ntmps66
    go_wp2_with (first | (go_at_call 67; refine c.mono ?_; rintro r w0 ⟨rfl, hb⟩))
    go_ret2
    exact ⟨rfl, hb⟩
  · have c50 := fun W => lets_any e a W
    have hl : lts e a = false ∨ lts e a = true := by cases lts e a <;> simp
    rcases hl with hl | hl
    · simp only [hl] at c50
      simp only [trA, hf, hl, Bool.true_and, Bool.false_eq_true, if_false, if_true] at c ⊢
      clear hf hl
      go_enter Tryz.func66, Tryz.ntmps66
      go_wp2_with (first | (go_at_call 67; refine c.mono ?_; rintro r w0 ⟨rfl, hb⟩) | (go_at_call 100; refine (c50 _).mono ?_; rintro r w1 ⟨rfl, hb1⟩))
      go_ret2
      exact ⟨rfl, hb.trans (hb1.mono hb.size)⟩
    · simp only [hl] at c50
      have c46 := fun W => address_any e W ⟨lb.1, lb.2.1⟩
      have c51 := fun W => inSpan_any va l hv (by omega) W
      have hw : trP ⟨a0, a1, a2, l, e, k⟩ va = IntKind.u64.wrap (adE e + va % spn l) := (IntKind.wrap_u64 _).symm
      simp only [trA, hf, hl, hw, Bool.true_and, if_true] at c ⊢
      clear hf hl hw lb
      generalize adE e = ax at *
      generalize va % spn l = vx at *
      go_enter Tryz.func66, Tryz.ntmps66
      go_wp2_with (first | (go_at_call 67; refine c.mono ?_; rintro r w0 ⟨rfl, hb⟩) | (go_at_call 100; refine (c50 _).mono ?_; rintro r w1 ⟨rfl, hb1⟩) | (go_at_call 95; refine (c46 _).mono ?_; rintro r w1 ⟨rfl, rfl⟩) | (go_at_call 101; refine (c51 _).mono ?_; rintro r w1 ⟨rfl, rfl⟩))
      go_ret2
      exact ⟨rfl, hb.trans (hb1.mono hb.size)⟩
end
end Go.Proofs.YtblmkkhiojbcjaaGreat
