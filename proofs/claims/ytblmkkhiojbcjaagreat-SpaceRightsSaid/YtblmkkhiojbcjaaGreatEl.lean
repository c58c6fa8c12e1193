import Derived.Test.YtblmkkhiojbcjaaGreatEk
namespace Go.Proofs.YtblmkkhiojbcjaaGreat
open Go Go.RowKit
set_option linter.unusedVariables false
set_option linter.unusedSimpArgs false
section
variable {w : World} {s p b m N r P : Nat} {size : Int} {B : Nat → Int} {L : List Nat} {F : Nat → Option Nat} {lf : Nat → Nat → Int} {fr : Nat → Nat} {c : Nat → Int}
theorem WrP.from {w1 : World} {va n : Nat} {R : Nat → Int} {e : Ending} {w' : World} (h : WrP w1 s p b m N r P size B L F lf fr c va n R e w') (k : Below w.heap.size w w1) : WrP w s p b m N r P size B L F lf fr c va n R e w' :=
  ⟨h.1, h.2.1, (Fra.below k).trans h.2.2⟩
set_option maxHeartbeats 1000000 in
/-- Out of one byte or more. -/
theorem out_any (h : SpU w s p b m N r P size B L F lf fr c) (va n : Nat) (hn : 1 ≤ n) (hvn : (va : Int) < 18446744073709551616 ∧ (n : Int) < 9223372036854775808) (g k0 cc : Nat) (hcc : n ≤ cc ∧ cc ≤ 9223372036854775807) (R : Nat → Int) (hR : ∀ i, 0 ≤ R i ∧ R i < 256) (hg : ∀ i, i < n → w.cell? ⟨g, k0 + i, .none⟩ = some (.int .u8 (R i))) (hgp : g ≠ p ∧ g ≠ b ∧ g ≠ m) :
    Calls Tryz.prog 16 #[.pointer (some ⟨s, 0, .none⟩), .int .u64 va, .slice (some ⟨g, k0, .none⟩) n cc] w fun e w' => (canU P c va n ∧ WrP w s p b m N r P size B L F lf fr c va n R e w') ∨ (¬ canU P c va n ∧ e = .returned (.bool false) ∧ Below w.heap.size w w') := by
  have c15 := can_any h va n hn hvn
  have hpl := h.ram.mem.plt
  have hbl := h.ram.mem.blt
  have hml := h.ram.mem.mlt
  have HP : Hid (canU P c va n → ∀ x1, Below w.heap.size w x1 → Calls Tryz.prog 57 #[.pointer (some ⟨s, 0, .none⟩), .int .u64 va, .slice (some ⟨g, k0, .none⟩) n cc, .func (.func 89) #[] #[.pointer (some ⟨x1.heap.size, 0, .none⟩), .pointer (some ⟨x1.heap.size + 1, 0, .none⟩)]] ((x1.alloc (.cells #[.pointer (some ⟨s, 0, .none⟩)] 26)).alloc (.cells #[.int .i64 3] 90)) (WrP w s p b m N r P size B L F lf fr c va n R)) := fun hc x1 b1 => by
    have hs := b1.size
    have b2 : Below x1.heap.size x1 ((x1.alloc (.cells #[.pointer (some ⟨s, 0, .none⟩)] 26)).alloc (.cells #[.int .i64 3] 90)) := ((Below.refl _ _).alloc (Nat.le_refl _) _).alloc (by simp) _
    have b3 := b1.trans (b2.mono hs)
    exact (put_user (h.below b3) va n hn hc.1 hc.2 x1.heap.size (x1.heap.size + 1) (by simp) (by simp) ⟨by omega, by omega, by omega, by omega, by omega, by omega⟩ g k0 cc hcc R hR (fun i hi => (b3.cell (p := ⟨g, k0 + i, .none⟩) (lt_of_cell (hg i hi))).trans (hg i hi)) hgp).mono (fun e w' h9 => h9.from b3)
  clear h hg hR
  go_enter Tryz.func16, Tryz.ntmps16
  go_wp2_with fail
  refine c15.mono ?_
  rintro _ x1 ⟨v, rfl, hv, b1⟩
  clear c15
  cases v
  · have HV : Hid (¬ canU P c va n ∧ Below w.heap.size w x1) := ⟨fun e => (by have := hv.2 e; cases this), b1⟩
    clear hv b1
    go_wp2_with fail
    go_ret
    exact .inr ⟨HV.out.1, rfl, HV.out.2⟩
  · have hc : canU P c va n := hv.1 rfl
    have c57 := HP.out hc x1 b1
    have c53 := forUser_any s 3 x1
    obtain ⟨x2, hx2⟩ : ∃ x2, x2 = (x1.alloc (.cells #[.pointer (some ⟨s, 0, .none⟩)] 26)).alloc (.cells #[.int .i64 3] 90) := ⟨_, rfl⟩
    rw [← hx2] at c57 c53
    have HC : Hid (canU P c va n) := hc
    clear hc hv b1 hx2
    go_wp2_with fail
    refine c53.mono ?_
    rintro _ x3 ⟨rfl, e9⟩
    obtain rfl : x2 = x3 := e9.symm
    clear e9 c53
    go_wp2_with fail
    refine c57.mono ?_
    rintro _ x4 ⟨rfl, h4, f4⟩
    have H4 : Hid (WrP w s p b m N r P size B L F lf fr c va n R (.returned (.bool true)) x4) := ⟨rfl, h4, f4⟩
    clear h4 f4 c57
    go_wp2_with fail
    go_ret
    exact .inl ⟨HC.out, H4.out⟩
def PkQ (w : World) (s p b m N r P : Nat) (size : Int) (B : Nat → Int) (L : List Nat) (F : Nat → Option Nat) (lf : Nat → Nat → Int) (fr : Nat → Nat) (c : Nat → Int) (va n : Nat) (R : Nat → Int) (e : Ending) (w' : World) : Prop := ((va : Int) + n ≤ size ∧ WrP w s p b m N r P size B L F lf fr c va n R e w') ∨ (¬ (va : Int) + n ≤ size ∧ e = .returned (.bool false) ∧ w' = w)
set_option maxHeartbeats 1000000 in
/-- Poke of one byte or more. -/
theorem poke_gen (h : SpU w s p b m N r P size B L F lf fr c) (va n : Nat) (hn : 1 ≤ n) (hvn : (va : Int) < 18446744073709551616 ∧ (n : Int) < 9223372036854775808) (g k0 cc : Nat) (hcc : n ≤ cc ∧ cc ≤ 9223372036854775807) (R : Nat → Int) (hR : ∀ i, 0 ≤ R i ∧ R i < 256) (hg : ∀ i, i < n → w.cell? ⟨g, k0 + i, .none⟩ = some (.int .u8 (R i))) (hgp : g ≠ p ∧ g ≠ b ∧ g ≠ m) :
    Calls Tryz.prog 18 #[.pointer (some ⟨s, 0, .none⟩), .int .u64 va, .slice (some ⟨g, k0, .none⟩) n cc] w (PkQ w s p b m N r P size B L F lf fr c va n R) := by
  have hm := h.pm
  have hsz := h.sz
  have c43 := made_sp h.sp
  have c50 := fits_gen (va : Int) n size (by omega) (by omega) (by omega) w
  have k2 := h.sp.c2
  by_cases hf : (va : Int) + n ≤ size
  · rw [decide_eq_true hf] at c50
    have c57 := put_kern h va n hn (by omega) g k0 cc hcc R hR hg hgp
    have HF0 := hf
    have HF : Hid ((va : Int) + n ≤ size) := HF0
    clear h hg hR hf HF0
    go_enter Tryz.func18, Tryz.ntmps18
    go_wp2_with fail
    refine c43.mono ?_
    rintro _ x1 ⟨rfl, e9⟩
    obtain rfl : w = x1 := e9.symm
    clear e9 c43
    go_wp2_with fail
    refine c50.mono ?_
    rintro _ x1 ⟨rfl, e9⟩
    obtain rfl : w = x1 := e9.symm
    clear e9 c50
    go_wp2_with fail
    refine c57.mono ?_
    rintro _ x4 ⟨rfl, h4, f4⟩
    have H4 : Hid (WrP w s p b m N r P size B L F lf fr c va n R (.returned (.bool true)) x4) := ⟨rfl, h4, f4⟩
    clear h4 f4 c57
    go_wp2_with fail
    go_ret
    exact .inl ⟨HF.out, H4.out⟩
  · rw [decide_eq_false hf] at c50
    have HF0 := hf
    have HF : Hid (¬ (va : Int) + n ≤ size) := HF0
    clear h hg hR hf HF0
    go_enter Tryz.func18, Tryz.ntmps18
    go_wp2_with fail
    refine c43.mono ?_
    rintro _ x1 ⟨rfl, e9⟩
    obtain rfl : w = x1 := e9.symm
    clear e9 c43
    go_wp2_with fail
    refine c50.mono ?_
    rintro _ x1 ⟨rfl, e9⟩
    obtain rfl : w = x1 := e9.symm
    clear e9 c50
    go_wp2_with fail
    go_ret
    exact .inr ⟨by have := HF.out; omega, rfl, rfl⟩
end
end Go.Proofs.YtblmkkhiojbcjaaGreat
