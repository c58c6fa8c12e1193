import Derived.Test.YtncjmlndjnfncaaSLayX
import Derived.Test.YtncjmlndjnfncaaVh
namespace Go.Proofs.Ytncjmlndjnfncaa
open Go.RowKit
set_option linter.unusedVariables false
set_option linter.unusedSimpArgs false
theorem letsF_any (e : Int) (w : World) : Calls Try.prog 74 #[.int .u64 e] w fun r w' => r = .returned (.bool (hs e 8)) ∧ w' = w := by
  go_enter Try.func74, Try.ntmps74
  go_wp2_with (go_at_call 77; refine (has_any _ _ _).mono ?_; rintro r w0 ⟨rfl, rfl⟩)
  go_ret
  exact ⟨rfl, rfl⟩
theorem letsL_any (e : Int) (w : World) : Calls Try.prog 75 #[.int .u64 e] w fun r w' => r = .returned (.bool (hs e 2)) ∧ w' = w := by
  go_enter Try.func75, Try.ntmps75
  go_wp2_with (go_at_call 77; refine (has_any _ _ _).mono ?_; rintro r w0 ⟨rfl, rfl⟩)
  go_ret
  exact ⟨rfl, rfl⟩
theorem letsS_any (e : Int) (w : World) : Calls Try.prog 76 #[.int .u64 e] w fun r w' => r = .returned (.bool (hs e 132)) ∧ w' = w := by
  go_enter Try.func76, Try.ntmps76
  go_wp2_with (go_at_call 77; refine (has_any _ _ _).mono ?_; rintro r w0 ⟨rfl, rfl⟩)
  go_ret
  exact ⟨rfl, rfl⟩
/-- What an access asks of a leaf. -/
def lts (e a : Int) : Bool := if a = 1 then hs e 80 && hs e 8 else if a = 2 then hs e 80 && hs e 2 else if a = 3 then hs e 80 && hs e 132 else false
theorem idx129 (i : Nat) (x : Int) (f : Nat) (h : (i = 0 ∧ x = 1 ∧ f = 74) ∨ (i = 1 ∧ x = 2 ∧ f = 75) ∨ (i = 2 ∧ x = 3 ∧ f = 76)) (w : World) : (Instr.index 129 (.agg #[.int .i64 1, .func (.func 74) #[] #[], .int .i64 2, .func (.func 75) #[] #[], .int .i64 3, .func (.func 76) #[] #[]]) (.int .i64 i)).run Try.prog w = .ok (.agg #[.int .i64 x, .func (.func f) #[] #[]]) w := by
  rcases h with ⟨rfl, rfl, rfl⟩ | ⟨rfl, rfl, rfl⟩ | ⟨rfl, rfl, rfl⟩ <;> kernel_rfl
theorem run_store_func (P : Program) (w : World) (a : Addr) (f : Fn) (c d : Array Value) (m : Mode) (hc : (w.cell? a).isSome = true) (hf : w.frozen? a = false) :
    (store a (.func f c d) m).run P w = .ok () (w.setCell a (.func f c d)) := by
  obtain ⟨u, hu⟩ := Option.isSome_iff_exists.1 hc
  rw [run_store P w a (.func f c d) m rfl, hu]
  simp [hf]
attribute [local go_sem] run_store_func
set_option maxHeartbeats 1000000 in
set_option maxRecDepth 10000 in
theorem lets_any (e a : Int) (w : World) : Calls Try.prog 50 #[.int .u64 e, .int .i64 a] w fun r w' => r = .returned (.bool (lts e a)) ∧ Below w.heap.size w w' := by
  have i0 : ∀ w : World, (Instr.index 129 (Value.agg #[.int .i64 1, .func (.func 74) #[] #[], .int .i64 2, .func (.func 75) #[] #[], .int .i64 3, .func (.func 76) #[] #[]]) (.int .i64 0)).run Try.prog w = .ok (.agg #[.int .i64 1, .func (.func 74) #[] #[]]) w := idx129 0 1 74 (by omega)
  have i1 : ∀ w : World, (Instr.index 129 (Value.agg #[.int .i64 1, .func (.func 74) #[] #[], .int .i64 2, .func (.func 75) #[] #[], .int .i64 3, .func (.func 76) #[] #[]]) (.int .i64 1)).run Try.prog w = .ok (.agg #[.int .i64 2, .func (.func 75) #[] #[]]) w := idx129 1 2 75 (by omega)
  have i2 : ∀ w : World, (Instr.index 129 (Value.agg #[.int .i64 1, .func (.func 74) #[] #[], .int .i64 2, .func (.func 75) #[] #[], .int .i64 3, .func (.func 76) #[] #[]]) (.int .i64 2)).run Try.prog w = .ok (.agg #[.int .i64 3, .func (.func 76) #[] #[]]) w := idx129 2 3 76 (by omega)
  by_cases h1 : a = 1
  · subst h1
    have hfin : lts e 1 = (hs e 80 && hs e 8) := by simp [lts]
    rw [hfin]
    clear hfin
    cases h80 : hs e 80 <;> cases hbt : hs e 8
    all_goals
      go_enter Try.func50, Try.ntmps50
      go_upto_region 2 with fail
      generalize hT : (Value.agg #[.int .i64 1, .func (.func 74) #[] #[], .int .i64 2, .func (.func 75) #[] #[], .int .i64 3, .func (.func 76) #[] #[]]) = T at *
      clear hT
      refine wp_loop_rounds 1 ?_
      rw [rounds_succ]
      go_wp2_with (first | (go_at_call 77; refine (has_any _ _ _).mono ?_; rintro r w0 ⟨rfl, rfl⟩) | (go_at_call 74; refine (letsF_any _ _).mono ?_; rintro r w0 ⟨rfl, rfl⟩))
      go_ret
      exact ⟨rfl, by first | exact below1 _ _ | exact below2 _ _ _ | exact below3 _ _ _ _⟩
  by_cases h2 : a = 2
  · subst h2
    have hfin : lts e 2 = (hs e 80 && hs e 2) := by simp [lts]
    rw [hfin]
    clear hfin
    cases h80 : hs e 80 <;> cases hbt : hs e 2
    all_goals
      go_enter Try.func50, Try.ntmps50
      go_upto_region 2 with fail
      generalize hT : (Value.agg #[.int .i64 1, .func (.func 74) #[] #[], .int .i64 2, .func (.func 75) #[] #[], .int .i64 3, .func (.func 76) #[] #[]]) = T at *
      clear hT
      refine wp_loop_rounds 2 ?_
      rw [rounds_succ]
      go_wp2_with (first | (go_at_call 77; refine (has_any _ _ _).mono ?_; rintro r w0 ⟨rfl, rfl⟩) | (go_at_call 75; refine (letsL_any _ _).mono ?_; rintro r w0 ⟨rfl, rfl⟩))
      rw [rounds_succ]
      go_wp2_with (first | (go_at_call 77; refine (has_any _ _ _).mono ?_; rintro r w0 ⟨rfl, rfl⟩) | (go_at_call 75; refine (letsL_any _ _).mono ?_; rintro r w0 ⟨rfl, rfl⟩))
      go_ret
      exact ⟨rfl, by first | exact below1 _ _ | exact below2 _ _ _ | exact below3 _ _ _ _⟩
  by_cases h3 : a = 3
  · subst h3
    have hfin : lts e 3 = (hs e 80 && hs e 132) := by simp [lts]
    rw [hfin]
    clear hfin
    cases h80 : hs e 80 <;> cases hbt : hs e 132
    all_goals
      go_enter Try.func50, Try.ntmps50
      go_upto_region 2 with fail
      generalize hT : (Value.agg #[.int .i64 1, .func (.func 74) #[] #[], .int .i64 2, .func (.func 75) #[] #[], .int .i64 3, .func (.func 76) #[] #[]]) = T at *
      clear hT
      refine wp_loop_rounds 3 ?_
      rw [rounds_succ]
      go_wp2_with (first | (go_at_call 77; refine (has_any _ _ _).mono ?_; rintro r w0 ⟨rfl, rfl⟩) | (go_at_call 76; refine (letsS_any _ _).mono ?_; rintro r w0 ⟨rfl, rfl⟩))
      rw [rounds_succ]
      go_wp2_with (first | (go_at_call 77; refine (has_any _ _ _).mono ?_; rintro r w0 ⟨rfl, rfl⟩) | (go_at_call 76; refine (letsS_any _ _).mono ?_; rintro r w0 ⟨rfl, rfl⟩))
      rw [rounds_succ]
      go_wp2_with (first | (go_at_call 77; refine (has_any _ _ _).mono ?_; rintro r w0 ⟨rfl, rfl⟩) | (go_at_call 76; refine (letsS_any _ _).mono ?_; rintro r w0 ⟨rfl, rfl⟩))
      go_ret
      exact ⟨rfl, by first | exact below1 _ _ | exact below2 _ _ _ | exact below3 _ _ _ _⟩
  have hfin : lts e a = false := by simp [lts, h1, h2, h3]
  rw [hfin]
  clear hfin
  have e1 : ¬ (1 : Int) = a := fun e => h1 e.symm
  have e2 : ¬ (2 : Int) = a := fun e => h2 e.symm
  have e3 : ¬ (3 : Int) = a := fun e => h3 e.symm
  go_enter Try.func50, Try.ntmps50
  go_upto_region 2 with fail
  generalize hT : (Value.agg #[.int .i64 1, .func (.func 74) #[] #[], .int .i64 2, .func (.func 75) #[] #[], .int .i64 3, .func (.func 76) #[] #[]]) = T at *
  clear hT
  refine wp_loop_rounds 4 ?_
  rw [rounds_succ]
  go_wp2
  rw [rounds_succ]
  go_wp2
  rw [rounds_succ]
  go_wp2
  rw [rounds_succ]
  go_wp2
  go_ret
  exact ⟨rfl, below3 _ _ _ _⟩
/-- P4.3 -/
def trA (x : Pt) (va a : Int) : Bool := finds x va && lts x.e a
end Go.Proofs.Ytncjmlndjnfncaa
namespace Go.Proofs.Ytncjmlndjnfncaa
open Go.RowKit
set_option linter.unusedVariables false
set_option linter.unusedSimpArgs false
def trP (x : Pt) (va : Int) : Int := (adE x.e + va % spn x.l) % 18446744073709551616
section
variable {w : World} {p b m N : Nat} {B : Nat → Int} {L : List Nat}
theorem translate_any (h : Ram w p b m N B L) (root va a : Int) (hr : 0 ≤ root ∧ root < 18446744073709551616) (hv : 0 ≤ va ∧ va < 18446744073709551616) : Calls Try.prog 18 #[.pointer (some ⟨p, 0, .none⟩), .int .u64 root, .int .u64 va, .int .i64 a] w fun r w' => r = .returned (.tuple #[.int .u64 (if trA (look N L B root va) va a then trP (look N L B root va) va else 0), .bool (trA (look N L B root va) va a)]) ∧ Below w.heap.size w w' := by
  have c := entry_any h root va hr hv
  have lb := look_b (N := N) (L := L) h.mem.bb root va
  clear h
  generalize look N L B root va = x at *
  obtain ⟨a0, a1, a2, l, e, k⟩ := x
  simp only at lb c ⊢
  have hf : finds ⟨a0, a1, a2, l, e, k⟩ va = false ∨ finds ⟨a0, a1, a2, l, e, k⟩ va = true := by cases finds ⟨a0, a1, a2, l, e, k⟩ va <;> simp
  rcases hf with hf | hf
  · simp only [trA, hf, Bool.false_and, Bool.false_eq_true, if_false] at c ⊢
    clear hf
    go_enter Try.func18, Try.ntmps18
    go_wp2_with (first | (go_at_call 17; refine c.mono ?_; rintro r w0 ⟨rfl, hb⟩))
    go_ret2
    exact ⟨rfl, hb⟩
  · have c50 := fun W => lets_any e a W
    have hl : lts e a = false ∨ lts e a = true := by cases lts e a <;> simp
    rcases hl with hl | hl
    · simp only [hl] at c50
      simp only [trA, hf, hl, Bool.true_and, Bool.false_eq_true, if_false, if_true] at c ⊢
      clear hf hl
      go_enter Try.func18, Try.ntmps18
      go_wp2_with (first | (go_at_call 17; refine c.mono ?_; rintro r w0 ⟨rfl, hb⟩) | (go_at_call 50; refine (c50 _).mono ?_; rintro r w1 ⟨rfl, hb1⟩))
      go_ret2
      exact ⟨rfl, hb.trans (hb1.mono hb.size)⟩
    · simp only [hl] at c50
      have c46 := fun W => address_any e W ⟨lb.1, lb.2.1⟩
      have c51 := fun W => inSpan_any va l hv (by omega) W
      have hw : trP ⟨a0, a1, a2, l, e, k⟩ va = IntKind.u64.wrap (adE e + va % spn l) := (IntKind.wrap_u64 _).symm
      simp only [trA, hf, hl, hw, Bool.true_and, if_true] at c ⊢
      clear hf hl hw lb
      generalize adE e = ax at *
      generalize va % spn l = vx at *
      go_enter Try.func18, Try.ntmps18
      go_wp2_with (first | (go_at_call 17; refine c.mono ?_; rintro r w0 ⟨rfl, hb⟩) | (go_at_call 50; refine (c50 _).mono ?_; rintro r w1 ⟨rfl, hb1⟩) | (go_at_call 46; refine (c46 _).mono ?_; rintro r w1 ⟨rfl, rfl⟩) | (go_at_call 51; refine (c51 _).mono ?_; rintro r w1 ⟨rfl, rfl⟩))
      go_ret2
      exact ⟨rfl, hb.trans (hb1.mono hb.size)⟩
end
end Go.Proofs.Ytncjmlndjnfncaa
namespace Go.Proofs.Ytncjmlndjnfncaa
open Go Go.RowKit Go.Shelf
set_option linter.unusedVariables false
set_option linter.unusedSimpArgs false
attribute [local irreducible] eM evs
/-- What an access asks of a page's permissions. -/
def wnt (t : Nat) : Nat := if t = 0 then 88 else if t = 1 then 82 else 212
set_option maxRecDepth 100000 in
theorem lts_bits : ∀ c : Fin 256, c.val % 2 = 0 → ∀ t : Fin 3, (((c.val + 1) &&& 80 == 80) && ((c.val + 1) &&& (if t.val = 0 then 8 else if t.val = 1 then 2 else 132) == (if t.val = 0 then 8 else if t.val = 1 then 2 else 132))) = (c.val &&& wnt t.val == wnt t.val) := by decide
theorem hs_low (c : Int) (hc : 0 ≤ c ∧ c < 256) (d : Nat) (hd : d < 1024) : hs c d = (c.toNat &&& d == d) := by
  unfold hs
  rw [and_low c (by omega) d hd, show c % 1024 = c by omega]
  cases h : (c.toNat &&& d == d)
  · rw [beq_eq_false_iff_ne] at h ⊢
    omega
  · rw [beq_iff_eq] at h ⊢
    omega
theorem congrArg2 {a b c d : Bool} (h1 : a = c) (h2 : b = d) : (a && b) = (c && d) := by rw [h1, h2]
theorem lts_toP (pa c : Int) (hp : 0 ≤ pa ∧ pa < 72057594037927936) (hc : 0 ≤ c ∧ c < 256) (he : c % 2 = 0) (t : Nat) (ht : t < 3) : lts (toP pa c) (1 + t) = hs c (wnt t) := by
  have key := lts_bits ⟨c.toNat, by omega⟩ (by simp only; omega) ⟨t, ht⟩
  simp only at key
  have cv : ∀ d : Nat, d < 1024 → hs (toP pa c) d = ((c.toNat + 1) &&& d == d) := fun d hd => by
    rw [hs_toP pa c hp (by omega) he d hd, show (c + 1).toNat = c.toNat + 1 by omega]
    cases h : ((c.toNat + 1) &&& d == d)
    · rw [beq_eq_false_iff_ne] at h ⊢
      omega
    · rw [beq_iff_eq] at h ⊢
      omega
  have h80 := cv 80 (by omega)
  have h8 := cv 8 (by omega)
  have h2 := cv 2 (by omega)
  have h132 := cv 132 (by omega)
  rw [hs_low c hc (wnt t) (by unfold wnt; split <;> (try split) <;> omega), ← key]
  unfold lts
  obtain rfl | rfl | rfl : t = 0 ∨ t = 1 ∨ t = 2 := by omega
  · rw [if_pos (by omega)]; simp only [if_true]; exact congrArg2 h80 h8
  · rw [if_neg (by omega), if_pos (by omega)]; simp only [if_true, if_false, Nat.one_ne_zero]; exact congrArg2 h80 h2
  · rw [if_neg (by omega), if_neg (by omega), if_pos (by omega)]; exact congrArg2 h80 h132
theorem y_off (va o : Int) (hv : 0 ≤ va ∧ va < 274877906944 ∧ va % 4096 = 0) (ho : 0 ≤ o ∧ o < 4096) : y0 (va + o) = y0 va ∧ i0 (va + o) = i0 va := by
  have h1 : ix (va + o) 0 = ix va 0 := by unfold ix; rw [spn0]; omega
  have h2 : ix (va + o) 1 = ix va 1 := by unfold ix; rw [spn1]; omega
  have h3 : ix (va + o) 2 = ix va 2 := by unfold ix; rw [show spn 2 = 1073741824 from rfl]; omega
  constructor
  · unfold y0 y1 i1 i2
    rw [h2, h3]
  · unfold i0
    rw [h1]
section
variable {w : World} {p b m N r : Nat} {B : Nat → Int} {L : List Nat} {F : Nat → Option Nat} {lf : Nat → Nat → Int} {l : List Pg}
theorem TL.none_at (h : TL F lf l) (va : Int) (hv : 0 ≤ va ∧ va < 274877906944 ∧ va % 4096 = 0) (hn : ∀ x ∈ l, x.1 ≠ va) : lf (y0 va) (i0 va) = 0 := by
  by_cases hz : lf (y0 va) (i0 va) = 0
  · exact hz
  · obtain ⟨x, hx, h1, h2⟩ := h.only _ _ (y0_ge va) (i0_lt va) hz
    exact absurd (va_inj (h.ok x hx).1 hv h1.symm h2.symm) (hn x hx)
theorem tra_none (hR : Ram w p b m N B L) (hP : PT N L B F lf) (hr : F 0 = some r) (va o a : Int) (hv : 0 ≤ va ∧ va < 274877906944 ∧ va % 4096 = 0) (ho : 0 ≤ o ∧ o < 4096) (hz : lf (y0 va) (i0 va) = 0) :
    Calls Try.prog 18 #[.pointer (some ⟨p, 0, .none⟩), .int .u64 (ad r), .int .u64 (va + o), .int .i64 a] w fun e w' => e = .returned (.tuple #[.int .u64 0, .bool false]) ∧ Below w.heap.size w w' := by
  have hN := hR.mem.n2
  have hrb : 0 ≤ ad r ∧ ad r < 18446744073709551616 := by have h1 := hP.held 0 r hr; unfold ad; omega
  obtain ⟨e1, e2⟩ := y_off va o hv ho
  have hk := (look_need hP hN hr (va + o) (by rw [e1, e2]; exact hz)).1
  have hA : trA (look N L B (ad r) (va + o)) (va + o) a = false := by
    unfold trA finds
    rw [hk]
    rfl
  have := translate_any hR (ad r) (va + o) a hrb (by omega)
  rw [hA] at this
  exact this
theorem tra_some (hR : Ram w p b m N B L) (hP : PT N L B F lf) (hr : F 0 = some r) (va o pa c : Int) (t : Nat) (ht : t < 3) (hv : 0 ≤ va ∧ va < 274877906944 ∧ va % 4096 = 0) (ho : 0 ≤ o ∧ o < 4096) (hp : 0 ≤ pa ∧ pa < 72057594037927936 ∧ pa % 4096 = 0) (hc : 0 ≤ c ∧ c < 256 ∧ c % 2 = 0) (hz : lf (y0 va) (i0 va) = toP pa c) (hne : toP pa c ≠ 0) :
    Calls Try.prog 18 #[.pointer (some ⟨p, 0, .none⟩), .int .u64 (ad r), .int .u64 (va + o), .int .i64 (1 + t)] w fun e w' => e = .returned (.tuple #[.int .u64 (if hs c (wnt t) then pa + o else 0), .bool (hs c (wnt t))]) ∧ Below w.heap.size w w' := by
  have hN := hR.mem.n2
  have hrb : 0 ≤ ad r ∧ ad r < 18446744073709551616 := by have h1 := hP.held 0 r hr; unfold ad; omega
  obtain ⟨e1, e2⟩ := y_off va o hv ho
  obtain ⟨hk, hl, he⟩ := look_full hP hN hr (va + o) (by rw [e1, e2, hz]; exact hne)
  rw [e1, e2, hz] at he
  have hA : trA (look N L B (ad r) (va + o)) (va + o) (1 + t) = hs c (wnt t) := by
    unfold trA finds
    rw [hk, he, ext_low _ (by omega), lts_toP pa c ⟨hp.1, hp.2.1⟩ ⟨hc.1, hc.2.1⟩ hc.2.2 t ht]
    simp
  have hB : trP (look N L B (ad r) (va + o)) (va + o) = pa + o := by
    unfold trP
    rw [he, hl, adE_toP pa c ⟨hp.1, hp.2.1⟩ hp.2.2 (by omega) hc.2.2, spn0]
    omega
  have := translate_any hR (ad r) (va + o) (1 + t) hrb (by omega)
  rw [hA, hB] at this
  exact this
end
end Go.Proofs.Ytncjmlndjnfncaa
