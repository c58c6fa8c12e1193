import Derived.Test.YtblmkkhiojbcjaaGreatVh
import Derived.Test.YtblmkkhiojbcjaaGreatSTrb
namespace Go.Proofs.YtblmkkhiojbcjaaGreat
open Go Go.RowKit Go.Shelf
set_option linter.unusedVariables false
set_option linter.unusedSimpArgs false
attribute [local irreducible] eM evs
/-- What an access asks of a page's permissions. -/
def wnt (t : Nat) : Nat := if t = 0 then 88 else if t = 1 then 82 else 212
set_option maxRecDepth 100000 in
theorem lts_bits : ∀ c : Fin 256, c.val % 2 = 0 → ∀ t : Fin 3, (((c.val + 1) &&& 80 == 80) && ((c.val + 1) &&& (if t.val = 0 then 8 else if t.val = 1 then 2 else 132) == (if t.val = 0 then 8 else if t.val = 1 then 2 else 132))) = (c.val &&& wnt t.val == wnt t.val) := by decide
theorem hs_low (c : Int) (hc : 0 ≤ c ∧ c < 256) (d : Nat) (hd : d < 1024) : hs c d = (c.toNat &&& d == d) := by
  unfold hs
  rw [and_low c (by omega) d hd, show c % 1024 = c by omega]
  cases h : (c.toNat &&& d == d)
  · rw [beq_eq_false_iff_ne] at h ⊢
    omega
  · rw [beq_iff_eq] at h ⊢
    omega
theorem congrArg2 {a b c d : Bool} (h1 : a = c) (h2 : b = d) : (a && b) = (c && d) := by rw [h1, h2]
theorem lts_toP (pa c : Int) (hp : 0 ≤ pa ∧ pa < 72057594037927936) (hc : 0 ≤ c ∧ c < 256) (he : c % 2 = 0) (t : Nat) (ht : t < 3) : lts (toP pa c) (1 + t) = hs c (wnt t) := by
  have key := lts_bits ⟨c.toNat, by omega⟩ (by simp only; omega) ⟨t, ht⟩
  simp only at key
  have cv : ∀ d : Nat, d < 1024 → hs (toP pa c) d = ((c.toNat + 1) &&& d == d) := fun d hd => by
    rw [hs_toP pa c hp (by omega) he d hd, show (c + 1).toNat = c.toNat + 1 by omega]
    cases h : ((c.toNat + 1) &&& d == d)
    · rw [beq_eq_false_iff_ne] at h ⊢
      omega
    · rw [beq_iff_eq] at h ⊢
      omega
  have h80 := cv 80 (by omega)
  have h8 := cv 8 (by omega)
  have h2 := cv 2 (by omega)
  have h132 := cv 132 (by omega)
  rw [hs_low c hc (wnt t) (by unfold wnt; split <;> (try split) <;> omega), ← key]
  unfold lts
  obtain rfl | rfl | rfl : t = 0 ∨ t = 1 ∨ t = 2 := by omega
  · rw [if_pos (by omega)]; simp only [if_true]; exact congrArg2 h80 h8
  · rw [if_neg (by omega), if_pos (by omega)]; simp only [if_true, if_false, Nat.one_ne_zero]; exact congrArg2 h80 h2
  · rw [if_neg (by omega), if_neg (by omega), if_pos (by omega)]; exact congrArg2 h80 h132
theorem y_off (va o : Int) (hv : 0 ≤ va ∧ va < 274877906944 ∧ va % 4096 = 0) (ho : 0 ≤ o ∧ o < 4096) : y0 (va + o) = y0 va ∧ i0 (va + o) = i0 va := by
  have h1 : ix (va + o) 0 = ix va 0 := by unfold ix; rw [spn0]; omega
  have h2 : ix (va + o) 1 = ix va 1 := by unfold ix; rw [spn1]; omega
  have h3 : ix (va + o) 2 = ix va 2 := by unfold ix; rw [show spn 2 = 1073741824 from rfl]; omega
  constructor
  · unfold y0 y1 i1 i2
    rw [h2, h3]
  · unfold i0
    rw [h1]
section
variable {w : World} {p b m N r : Nat} {B : Nat → Int} {L : List Nat} {F : Nat → Option Nat} {lf : Nat → Nat → Int} {l : List Pg}
theorem TL.none_at (h : TL F lf l) (va : Int) (hv : 0 ≤ va ∧ va < 274877906944 ∧ va % 4096 = 0) (hn : ∀ x ∈ l, x.1 ≠ va) : lf (y0 va) (i0 va) = 0 := by
  by_cases hz : lf (y0 va) (i0 va) = 0
  · exact hz
  · obtain ⟨x, hx, h1, h2⟩ := h.only _ _ (y0_ge va) (i0_lt va) hz
    exact absurd (va_inj (h.ok x hx).1 hv h1.symm h2.symm) (hn x hx)
theorem tra_none (hR : Ram w p b m N B L) (hP : PT N L B F lf) (hr : F 0 = some r) (va o a : Int) (hv : 0 ≤ va ∧ va < 274877906944 ∧ va % 4096 = 0) (ho : 0 ≤ o ∧ o < 4096) (hz : lf (y0 va) (i0 va) = 0) :
    Calls Tryz.prog 66 #[.pointer (some ⟨p, 0, .none⟩), .int .u64 (ad r), .int .u64 (va + o), .int .i64 a] w fun e w' => e = .returned (.tuple #[.int .u64 0, .bool false]) ∧ Below w.heap.size w w' := by
  have hN := hR.mem.n2
  have hrb : 0 ≤ ad r ∧ ad r < 18446744073709551616 := by have h1 := hP.held 0 r hr; unfold ad; omega
  obtain ⟨e1, e2⟩ := y_off va o hv ho
  have hk := (look_need hP hN hr (va + o) (by rw [e1, e2]; exact hz)).1
  have hA : trA (look N L B (ad r) (va + o)) (va + o) a = false := by
    unfold trA finds
    rw [hk]
    rfl
  have := translate_any hR (ad r) (va + o) a hrb (by omega)
  rw [hA] at this
  exact this
theorem tra_some (hR : Ram w p b m N B L) (hP : PT N L B F lf) (hr : F 0 = some r) (va o pa c : Int) (t : Nat) (ht : t < 3) (hv : 0 ≤ va ∧ va < 274877906944 ∧ va % 4096 = 0) (ho : 0 ≤ o ∧ o < 4096) (hp : 0 ≤ pa ∧ pa < 72057594037927936 ∧ pa % 4096 = 0) (hc : 0 ≤ c ∧ c < 256 ∧ c % 2 = 0) (hz : lf (y0 va) (i0 va) = toP pa c) (hne : toP pa c ≠ 0) :
    Calls Tryz.prog 66 #[.pointer (some ⟨p, 0, .none⟩), .int .u64 (ad r), .int .u64 (va + o), .int .i64 (1 + t)] w fun e w' => e = .returned (.tuple #[.int .u64 (if hs c (wnt t) then pa + o else 0), .bool (hs c (wnt t))]) ∧ Below w.heap.size w w' := by
  have hN := hR.mem.n2
  have hrb : 0 ≤ ad r ∧ ad r < 18446744073709551616 := by have h1 := hP.held 0 r hr; unfold ad; omega
  obtain ⟨e1, e2⟩ := y_off va o hv ho
  obtain ⟨hk, hl, he⟩ := look_full hP hN hr (va + o) (by rw [e1, e2, hz]; exact hne)
  rw [e1, e2, hz] at he
  have hA : trA (look N L B (ad r) (va + o)) (va + o) (1 + t) = hs c (wnt t) := by
    unfold trA finds
    rw [hk, he, ext_low _ (by omega), lts_toP pa c ⟨hp.1, hp.2.1⟩ ⟨hc.1, hc.2.1⟩ hc.2.2 t ht]
    simp
  have hB : trP (look N L B (ad r) (va + o)) (va + o) = pa + o := by
    unfold trP
    rw [he, hl, adE_toP pa c ⟨hp.1, hp.2.1⟩ hp.2.2 (by omega) hc.2.2, spn0]
    omega
  have := translate_any hR (ad r) (va + o) (1 + t) hrb (by omega)
  rw [hA, hB] at this
  exact this
end
end Go.Proofs.YtblmkkhiojbcjaaGreat
