import Derived.Test.YtblmkkhiojbcjaaGreatSEnt
namespace Go.Proofs.YtblmkkhiojbcjaaGreat
open Go.RowKit
set_option linter.unusedVariables false
set_option linter.unusedSimpArgs false
theorem letsF_any (e : Int) (w : World) : Calls Tryz.prog 132 #[.int .u64 e] w fun r w' => r = .returned (.bool (hs e 8)) ∧ w' = w := by
  go_enter Tryz.func132, Tryz.ntmps132
  go_wp2_with (go_at_call 135; refine (has_any _ _ _).mono ?_; rintro r w0 ⟨rfl, rfl⟩)
  go_ret
  exact ⟨rfl, rfl⟩
theorem letsL_any (e : Int) (w : World) : Calls Tryz.prog 133 #[.int .u64 e] w fun r w' => r = .returned (.bool (hs e 2)) ∧ w' = w := by
  go_enter Tryz.func133, Tryz.ntmps133
  go_wp2_with (go_at_call 135; refine (has_any _ _ _).mono ?_; rintro r w0 ⟨rfl, rfl⟩)
  go_ret
  exact ⟨rfl, rfl⟩
theorem letsS_any (e : Int) (w : World) : Calls Tryz.prog 134 #[.int .u64 e] w fun r w' => r = .returned (.bool (hs e 132)) ∧ w' = w := by
  go_enter Tryz.func134, Tryz.ntmps134
  go_wp2_with (go_at_call 135; refine (has_any _ _ _).mono ?_; rintro r w0 ⟨rfl, rfl⟩)
  go_ret
  exact ⟨rfl, rfl⟩
/-- What an access asks of a leaf. -/
def lts (e a : Int) : Bool := if a = 1 then hs e 80 && hs e 8 else if a = 2 then hs e 80 && hs e 2 else if a = 3 then hs e 80 && hs e 132 else false
theorem idx129 (i : Nat) (x : Int) (f : Nat) (h : (i = 0 ∧ x = 1 ∧ f = 132) ∨ (i = 1 ∧ x = 2 ∧ f = 133) ∨ (i = 2 ∧ x = 3 ∧ f = 134)) (w : World) : (Instr.index 170 (.agg #[.int .i64 1, .func (.func 132) #[] #[], .int .i64 2, .func (.func 133) #[] #[], .int .i64 3, .func (.func 134) #[] #[]]) (.int .i64 i)).run Tryz.prog w = .ok (.agg #[.int .i64 x, .func (.func f) #[] #[]]) w := by
  rcases h with ⟨rfl, rfl, rfl⟩ | ⟨rfl, rfl, rfl⟩ | ⟨rfl, rfl, rfl⟩ <;> kernel_rfl
theorem run_store_func (P : Program) (w : World) (a : Addr) (f : Fn) (c d : Array Value) (m : Mode) (hc : (w.cell? a).isSome = true) (hf : w.frozen? a = false) :
    (store a (.func f c d) m).run P w = .ok () (w.setCell a (.func f c d)) := by
  obtain ⟨u, hu⟩ := Option.isSome_iff_exists.1 hc
  rw [run_store P w a (.func f c d) m rfl, hu]
  simp [hf]
attribute [local go_sem] run_store_func
set_option maxHeartbeats 1000000 in
set_option maxRecDepth 10000 in
theorem lets_any (e a : Int) (w : World) : Calls Tryz.prog 100 #[.int .u64 e, .int .i64 a] w fun r w' => r = .returned (.bool (lts e a)) ∧ Below w.heap.size w w' := by
  have i0 : ∀ w : World, (Instr.index 170 (Value.agg #[.int .i64 1, .func (.func 132) #[] #[], .int .i64 2, .func (.func 133) #[] #[], .int .i64 3, .func (.func 134) #[] #[]]) (.int .i64 0)).run Tryz.prog w = .ok (.agg #[.int .i64 1, .func (.func 132) #[] #[]]) w := idx129 0 1 132 (by omega)
  have i1 : ∀ w : World, (Instr.index 170 (Value.agg #[.int .i64 1, .func (.func 132) #[] #[], .int .i64 2, .func (.func 133) #[] #[], .int .i64 3, .func (.func 134) #[] #[]]) (.int .i64 1)).run Tryz.prog w = .ok (.agg #[.int .i64 2, .func (.func 133) #[] #[]]) w := idx129 1 2 133 (by omega)
  have i2 : ∀ w : World, (Instr.index 170 (Value.agg #[.int .i64 1, .func (.func 132) #[] #[], .int .i64 2, .func (.func 133) #[] #[], .int .i64 3, .func (.func 134) #[] #[]]) (.int .i64 2)).run Tryz.prog w = .ok (.agg #[.int .i64 3, .func (.func 134) #[] #[]]) w := idx129 2 3 134 (by omega)
  by_cases h1 : a = 1
  · subst h1
    have hfin : lts e 1 = (hs e 80 && hs e 8) := by simp [lts]
    rw [hfin]
    clear hfin
    cases h80 : hs e 80 <;> cases hbt : hs e 8
    all_goals
      go_enter Tryz.func100, Tryz.ntmps100
      go_upto_region 2 with fail
      generalize hT : (Value.agg #[.int .i64 1, .func (.func 132) #[] #[], .int .i64 2, .func (.func 133) #[] #[], .int .i64 3, .func (.func 134) #[] #[]]) = T at *
      clear hT
      refine wp_loop_rounds 1 ?_
      rw [rounds_succ]
      go_wp2_with (first | (go_at_call 135; refine (has_any _ _ _).mono ?_; rintro r w0 ⟨rfl, rfl⟩) | (go_at_call 132; refine (letsF_any _ _).mono ?_; rintro r w0 ⟨rfl, rfl⟩))
      go_ret
      exact ⟨rfl, by first | exact below1 _ _ | exact below2 _ _ _ | exact below3 _ _ _ _⟩
  by_cases h2 : a = 2
  · subst h2
    have hfin : lts e 2 = (hs e 80 && hs e 2) := by simp [lts]
    rw [hfin]
    clear hfin
    cases h80 : hs e 80 <;> cases hbt : hs e 2
    all_goals
      go_enter Tryz.func100, Tryz.ntmps100
      go_upto_region 2 with fail
      generalize hT : (Value.agg #[.int .i64 1, .func (.func 132) #[] #[], .int .i64 2, .func (.func 133) #[] #[], .int .i64 3, .func (.func 134) #[] #[]]) = T at *
      clear hT
      refine wp_loop_rounds 2 ?_
      rw [rounds_succ]
      go_wp2_with (first | (go_at_call 135; refine (has_any _ _ _).mono ?_; rintro r w0 ⟨rfl, rfl⟩) | (go_at_call 133; refine (letsL_any _ _).mono ?_; rintro r w0 ⟨rfl, rfl⟩))
      rw [rounds_succ]
      go_wp2_with (first | (go_at_call 135; refine (has_any _ _ _).mono ?_; rintro r w0 ⟨rfl, rfl⟩) | (go_at_call 133; refine (letsL_any _ _).mono ?_; rintro r w0 ⟨rfl, rfl⟩))
      go_ret
      exact ⟨rfl, by first | exact below1 _ _ | exact below2 _ _ _ | exact below3 _ _ _ _⟩
  by_cases h3 : a = 3
  · subst h3
    have hfin : lts e 3 = (hs e 80 && hs e 132) := by simp [lts]
    rw [hfin]
    clear hfin
    cases h80 : hs e 80 <;> cases hbt : hs e 132
    all_goals
      go_enter Tryz.func100, Tryz.ntmps100
      go_upto_region 2 with fail
      generalize hT : (Value.agg #[.int .i64 1, .func (.func 132) #[] #[], .int .i64 2, .func (.func 133) #[] #[], .int .i64 3, .func (.func 134) #[] #[]]) = T at *
      clear hT
      refine wp_loop_rounds 3 ?_
      rw [rounds_succ]
      go_wp2_with (first | (go_at_call 135; refine (has_any _ _ _).mono ?_; rintro r w0 ⟨rfl, rfl⟩) | (go_at_call 134; refine (letsS_any _ _).mono ?_; rintro r w0 ⟨rfl, rfl⟩))
      rw [rounds_succ]
      go_wp2_with (first | (go_at_call 135; refine (has_any _ _ _).mono ?_; rintro r w0 ⟨rfl, rfl⟩) | (go_at_call 134; refine (letsS_any _ _).mono ?_; rintro r w0 ⟨rfl, rfl⟩))
      rw [rounds_succ]
      go_wp2_with (first | (go_at_call 135; refine (has_any _ _ _).mono ?_; rintro r w0 ⟨rfl, rfl⟩) | (go_at_call 134; refine (letsS_any _ _).mono ?_; rintro r w0 ⟨rfl, rfl⟩))
      go_ret
      exact ⟨rfl, by first | exact below1 _ _ | exact below2 _ _ _ | exact below3 _ _ _ _⟩
  have hfin : lts e a = false := by simp [lts, h1, h2, h3]
  rw [hfin]
  clear hfin
  have e1 : ¬ (1 : Int) = a := fun e => h1 e.symm
  have e2 : ¬ (2 : Int) = a := fun e => h2 e.symm
  have e3 : ¬ (3 : Int) = a := fun e => h3 e.symm
  go_enter Tryz.func100, Tryz.ntmps100
  go_upto_region 2 with fail
  generalize hT : (Value.agg #[.int .i64 1, .func (.func 132) #[] #[], .int .i64 2, .func (.func 133) #[] #[], .int .i64 3, .func (.func 134) #[] #[]]) = T at *
  clear hT
  refine wp_loop_rounds 4 ?_
  rw [rounds_succ]
  go_wp2
  rw [rounds_succ]
  go_wp2
  rw [rounds_succ]
  go_wp2
  rw [rounds_succ]
  go_wp2
  go_ret
  exact ⟨rfl, below3 _ _ _ _⟩
/-- P4.3 -/
def trA (x : Pt) (va a : Int) : Bool := finds x va && lts x.e a
end Go.Proofs.YtblmkkhiojbcjaaGreat
