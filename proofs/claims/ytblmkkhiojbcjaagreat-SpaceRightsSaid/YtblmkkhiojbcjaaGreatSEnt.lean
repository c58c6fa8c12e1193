import Derived.Test.YtblmkkhiojbcjaaGreatSLook
namespace Go.Proofs.YtblmkkhiojbcjaaGreat
open Go.RowKit
set_option linter.unusedVariables false
set_option linter.unusedSimpArgs false
/-- The right address with the lowest 39 bits of va. -/
def ext (va : Int) : Int := if va % 549755813888 < 274877906944 then va % 549755813888 else va % 549755813888 + 18446743523953737728
theorem ext_any (va : Int) (hv : 0 ≤ va ∧ va < 18446744073709551616) (w : World) : Calls Tryz.prog 99 #[.int .u64 va] w fun r w' => r = .returned (.int .u64 (ext va)) ∧ w' = w := by
  have h : IntKind.u64.wrap (wrap64 (IntKind.u64.wrap (va * 33554432)) / 33554432) = ext va := by
    rw [IntKind.wrap_u64, IntKind.wrap_u64]
    unfold wrap64 ext
    split <;> omega
  rw [← h]
  clear h
  go_enter Tryz.func99, Tryz.ntmps99
  go_wp2
  go_ret
  exact ⟨rfl, rfl⟩
theorem right_any (va : Int) (hv : 0 ≤ va ∧ va < 18446744073709551616) (w : World) : Calls Tryz.prog 103 #[.int .u64 va] w fun r w' => r = .returned (.bool (va == ext va)) ∧ w' = w := by
  have c := fun W => ext_any va hv W
  go_enter Tryz.func103, Tryz.ntmps103
  go_wp2_with (go_at_call 99; refine (c _).mono ?_; rintro r w0 ⟨rfl, rfl⟩)
  go_ret
  exact ⟨rfl, rfl⟩
theorem userPage_any (va : Int) (hv : 0 ≤ va ∧ va < 18446744073709551616) (w : World) : Calls Tryz.prog 112 #[.int .u64 va] w fun r w' => r = .returned (.bool (decide (va % 4096 = 0 ∧ va < 274877906944))) ∧ w' = w := by
  by_cases k0 : va % 4096 = 0
  · by_cases k1 : va < 274877906944
    · have e : decide (va % 4096 = 0 ∧ va < 274877906944) = true := by simp [k0, k1]
      rw [e]
      go_enter Tryz.func112, Tryz.ntmps112
      go_wp2
      go_ret
      exact ⟨by simp [k0, k1], rfl⟩
    · have e : decide (va % 4096 = 0 ∧ va < 274877906944) = false := by simp [k1]
      rw [e]
      go_enter Tryz.func112, Tryz.ntmps112
      go_wp2
      go_ret
      exact ⟨by simp [k0, k1], rfl⟩
  · have e : decide (va % 4096 = 0 ∧ va < 274877906944) = false := by simp [k0]
    rw [e]
    go_enter Tryz.func112, Tryz.ntmps112
    go_wp2
    go_ret
    exact ⟨rfl, rfl⟩
/-- Does Entry find a leaf? -/
def finds (x : Pt) (va : Int) : Bool := x.k == 2 && va == ext va
theorem wk_b {N : Nat} {L : List Nat} {B : Nat → Int} {va : Int} (hB : ∀ i, 0 ≤ B i ∧ B i < 256) : ∀ (l : Nat) (nd a0 a1 a2 e : Int), (0 ≤ e ∧ e < 18446744073709551616) → 0 ≤ (wk N L B va l nd a0 a1 a2 e).e ∧ (wk N L B va l nd a0 a1 a2 e).e < 18446744073709551616 ∧ ((wk N L B va l nd a0 a1 a2 e).l = 0 ∨ (wk N L B va l nd a0 a1 a2 e).l = 1 ∨ (wk N L B va l nd a0 a1 a2 e).l = 2 ∨ 2 < l)
  | 0, nd, a0, a1, a2, e, he => by
    unfold wk
    split
    · have := ent_b hB nd va 0
      exact ⟨this.1, this.2, .inl rfl⟩
    · exact ⟨he.1, he.2, .inl rfl⟩
  | l + 1, nd, a0, a1, a2, e, he => by
    unfold wk
    have hx := ent_b hB nd va (l + 1 : Nat)
    split
    · split
      · have := wk_b (N := N) (L := L) (va := va) hB l (adE (ent B nd va (l + 1 : Nat))) a0 (if l = 0 then st nd va 1 else a1) (if l = 1 then st nd va 2 else a2) (ent B nd va (l + 1 : Nat)) hx
        exact ⟨this.1, this.2.1, by rcases this.2.2 with h | h | h | h <;> first | exact .inl h | exact .inr (.inl h) | exact .inr (.inr (.inl h)) | exact .inr (.inr (.inr (by omega)))⟩
      · exact ⟨hx.1, hx.2, by by_cases h0 : l = 0
                              · subst h0; exact .inr (.inl rfl)
                              · by_cases h1 : l = 1
                                · subst h1; exact .inr (.inr (.inl rfl))
                                · exact .inr (.inr (.inr (by omega)))⟩
    · exact ⟨he.1, he.2, by by_cases h0 : l = 0
                            · subst h0; exact .inr (.inl rfl)
                            · by_cases h1 : l = 1
                              · subst h1; exact .inr (.inr (.inl rfl))
                              · exact .inr (.inr (.inr (by omega)))⟩
theorem look_b {N : Nat} {L : List Nat} {B : Nat → Int} (hB : ∀ i, 0 ≤ B i ∧ B i < 256) (root va : Int) : 0 ≤ (look N L B root va).e ∧ (look N L B root va).e < 18446744073709551616 ∧ ((look N L B root va).l = 0 ∨ (look N L B root va).l = 1 ∨ (look N L B root va).l = 2) := by
  have := wk_b (N := N) (L := L) (va := va) hB 2 root 0 0 0 0 (by omega)
  exact ⟨this.1, this.2.1, by rcases this.2.2 with h | h | h | h <;> first | exact .inl h | exact .inr (.inl h) | exact .inr (.inr h) | omega⟩
section
variable {w : World} {p b m N : Nat} {B : Nat → Int} {L : List Nat}
/-- P4.2 -/
theorem entry_any (h : Ram w p b m N B L) (root va : Int) (hr : 0 ≤ root ∧ root < 18446744073709551616) (hv : 0 ≤ va ∧ va < 18446744073709551616) : Calls Tryz.prog 67 #[.pointer (some ⟨p, 0, .none⟩), .int .u64 root, .int .u64 va] w fun r w' => r = .returned (.tuple #[.int .u64 (if finds (look N L B root va) va then (look N L B root va).e else 0), .int .i64 (if finds (look N L B root va) va then (look N L B root va).l else 0), .bool (finds (look N L B root va) va)]) ∧ Below w.heap.size w w' := by
  have c := look_any h root va hr hv
  have c49 := fun W => right_any va hv W
  clear h
  generalize look N L B root va = x at *
  obtain ⟨a0, a1, a2, l, e, k⟩ := x
  simp only [Pt.val, finds] at c ⊢
  by_cases hk : k = 2
  · subst hk
    have hrt : (va == ext va) = false ∨ (va == ext va) = true := by cases (va == ext va) <;> simp
    rcases hrt with hrt | hrt
    · simp only [hrt] at c49
      simp only [hrt, beq_self_eq_true, Bool.and_false, Bool.false_eq_true, if_false]
      go_enter Tryz.func67, Tryz.ntmps67
      go_wp2_with (first | (go_at_call 102; refine c.mono ?_; rintro r w0 ⟨rfl, hb⟩) | (go_at_call 103; refine (c49 _).mono ?_; rintro r w1 ⟨rfl, rfl⟩))
      go_ret3
      exact ⟨rfl, hb.trans ((below1 _ _).mono hb.size)⟩
    · simp only [hrt] at c49
      simp only [hrt, beq_self_eq_true, Bool.and_true, if_true]
      go_enter Tryz.func67, Tryz.ntmps67
      go_wp2_with (first | (go_at_call 102; refine c.mono ?_; rintro r w0 ⟨rfl, hb⟩) | (go_at_call 103; refine (c49 _).mono ?_; rintro r w1 ⟨rfl, rfl⟩))
      go_quiet (fail)
      go_wp2
      go_ret3
      exact ⟨rfl, (hb.trans ((below1 _ _).mono hb.size)).trans (blw_drewN _ _ _)⟩
  · have hk2 : (k == 2) = false := by simpa using hk
    simp only [hk2, Bool.false_and, Bool.false_eq_true, if_false]
    go_enter Tryz.func67, Tryz.ntmps67
    go_wp2_with (first | (go_at_call 102; refine c.mono ?_; rintro r w0 ⟨rfl, hb⟩))
    go_ret3
    exact ⟨rfl, hb.trans ((below1 _ _).mono hb.size)⟩
/-- P4.5 -/
theorem isMade_any (h : Ram w p b m N B L) : Calls Tryz.prog 111 #[.pointer (some ⟨p, 0, .none⟩)] w fun r w' => r = .returned (.bool true) ∧ w' = w := by
  have c := frames_any h.mem
  have n1 := h.mem.n1
  have hN : (0 : Int) < N := by omega
  clear h
  go_enter Tryz.func111, Tryz.ntmps111
  go_wp2_with (go_at_call 64; refine c.mono ?_; rintro r w0 ⟨rfl, rfl⟩)
  go_ret
  exact ⟨by simp; omega, rfl⟩
theorem new_some (i : Nat) {l : List Nat} (h : Ram w p b m N B (i :: l)) : Calls Tryz.prog 109 #[.pointer (some ⟨p, 0, .none⟩)] w fun r w' => r = .returned (.tuple #[.int .u64 (2147483648 + i * 4096), .int .i64 0]) ∧ Ram w' p b m N (zer B i) l ∧ Fra p b m w w' := by
  have c := isMade_any h
  have c1 := alloc_some i h
  clear h
  go_enter Tryz.func109, Tryz.ntmps109
  go_wp2_with (first | (go_at_call 111; refine c.mono ?_; rintro r w0 ⟨rfl, rfl⟩) | (go_at_call 39; refine c1.mono ?_; rintro r w1 ⟨rfl, hR, hF⟩))
  go_ret2
  exact ⟨rfl, hR, hF⟩
theorem isNode_any (h : Ram w p b m N B L) (nd : Int) (hn : 0 ≤ nd ∧ nd < 18446744073709551616) : Calls Tryz.prog 93 #[.pointer (some ⟨p, 0, .none⟩), .int .u64 nd] w fun r w' => r = .returned (.bool (ndB N L nd)) ∧ Below w.heap.size w w' := by
  have c65 := fun W => mayBeNode_any nd hn W
  cases hnd : ndB N L nd
  · by_cases hal : nd % 4096 = 0 ∧ nd ≠ 2147483648
    · have c64 := load_free h nd 0 hn hal.1 (by omega) (ndB_not hnd hal.1 hal.2)
      rw [show nd + ((0 : Nat) : Int) * 8 = nd by omega] at c64
      clear h hnd hal
      go_enter Tryz.func93, Tryz.ntmps93
      go_wp2_with (first | (go_at_call 118; refine c64.mono ?_; rintro r w0 ⟨rfl, hb⟩))
      go_ret
      exact ⟨rfl, hb⟩
    · have mb : decide (nd % 4096 = 0 ∧ nd ≠ 2147483648) = false := by simpa using hal
      simp only [mb] at c65
      have c64 := load_any h nd hn
      clear h hnd hal mb
      go_enter Tryz.func93, Tryz.ntmps93
      go_wp2_with (first | (go_at_call 118; refine c64.mono ?_; rintro r w0 ⟨⟨x, ok, rfl, h0, h1⟩, hb⟩; cases ok) | (go_at_call 119; refine (c65 _).mono ?_; rintro r w1 ⟨rfl, rfl⟩))
      all_goals go_ret
      all_goals exact ⟨rfl, hb⟩
  · obtain ⟨q1, q2, q3, q4⟩ := ndB_spec hnd
    have mb : decide (nd % 4096 = 0 ∧ nd ≠ 2147483648) = true := by simp; omega
    simp only [mb] at c65
    have c64 := load_held h (fi nd) 0 q3 q4 (by omega)
    rw [show 2147483648 + (fi nd : Int) * 4096 + ((0 : Nat) : Int) * 8 = nd by omega] at c64
    generalize num B (fi nd * 4096 + 0 * 8) 8 = x at *
    clear h hnd mb q1 q2 q3 q4
    go_enter Tryz.func93, Tryz.ntmps93
    go_wp2_with (first | (go_at_call 118; refine c64.mono ?_; rintro r w0 ⟨rfl, hb⟩) | (go_at_call 119; refine (c65 _).mono ?_; rintro r w1 ⟨rfl, rfl⟩))
    go_ret
    exact ⟨rfl, hb⟩
end
end Go.Proofs.YtblmkkhiojbcjaaGreat
