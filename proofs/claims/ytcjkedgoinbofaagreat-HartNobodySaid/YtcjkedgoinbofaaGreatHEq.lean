import Derived.Test.YtcjkedgoinbofaaGreatHSt
import Derived.Laws.StructEq
namespace Go.Proofs.YtcjkedgoinbofaaGreat
open Go.RowKit
set_option linter.unusedVariables false
set_option linter.unusedSimpArgs false
/-- The 32 registers alone. -/
def r32 (X : Nat → Int) : List Value := (List.range 32).map fun i => .int .u64 (X i)
/-- The same registers and Pc? -/
def rEq (X Y : Nat → Int) : Bool := (List.range 32).all (fun i => X i == Y i) && X 32 == Y 32
theorem rEq_refl (X : Nat → Int) : rEq X X = true := by simp [rEq]
theorem rEq_iff (X Y : Nat → Int) : rEq X Y = true ↔ ∀ i, i < 33 → X i = Y i := by
  simp only [rEq, Bool.and_eq_true, List.all_eq_true, List.mem_range, beq_iff_eq]
  constructor
  · rintro ⟨h1, h2⟩ i hi
    by_cases e : i = 32
    · rw [e]; exact h2
    · exact h1 i (by omega)
  · intro h
    exact ⟨fun i hi => h i (by omega), h 32 (by omega)⟩
theorem size22 (w : World) : (sizeOf 22).run Tryz.prog w = .ok 1 w := by kernel_rfl
theorem eq_arr (d : Nat) (X Y : Nat → Int) (w : World) : (Op.equalIn (d + 2) 23 (.agg (r32 X).toArray) (.agg (r32 Y).toArray)).run Tryz.prog w = .ok ((List.range 32).all (fun i => X i == Y i)) w := by
  rw [List.range_eq_range', Op.equalIn]
  simp only [Sem.run_bind, run_underlying Tryz.underlying23, Result.andThen_ok, size22, Std.Legacy.Range.forIn_eq_forIn_range', Std.Legacy.Range.size, Nat.sub_zero, Nat.add_sub_cancel, Nat.div_one]
  have hl : ∀ i ∈ List.range' 0 32 1, i < 32 := fun i hi => by simpa using (List.mem_range'_1.1 hi).2
  generalize List.range' 0 32 1 = l at hl ⊢
  induction l with
  | nil => simp
  | cons i l ih =>
    have hi : i < 32 := hl i (by simp)
    have px : ∀ Z : Nat → Int, (part 22 (r32 Z).toArray (i * 1)).run Tryz.prog w = .ok (.int .u64 (Z i)) w := fun Z => by
      simp [part, isAgg, run_underlying Tryz.underlying22, r32, List.getElem?_range hi]
    have pe : (Op.equalIn (d + 1) 22 (.int .u64 (X i)) (.int .u64 (Y i))).run Tryz.prog w = .ok (X i == Y i) w := run_equalIn_int w d 22 .u64 .u64 _ _ Tryz.underlying22
    simp only [List.forIn_cons, Sem.run_bind, px, pe, Result.andThen_ok, List.all_cons]
    cases hb : (X i == Y i)
    · simp
    · simp only [Bool.not_true, Bool.false_eq_true, if_false, Sem.run_pure, Result.andThen_ok, Bool.true_and]
      exact ih fun j hj => hl j (by simp [hj])
theorem fields25 : ∃ f g : Field, (Tryz.prog.fieldsOf 25).toList = [f, g] ∧ f.name ≠ "_" ∧ f.type = 23 ∧ f.offset = 0 ∧ g.name ≠ "_" ∧ g.type = 22 ∧ g.offset = 32 := by
  have h : (Tryz.prog.fieldsOf 25).toList.map (fun f => (f.name, f.type, f.offset)) = [("X", 23, 0), ("Pc", 22, 32)] := by kernel_rfl
  generalize (Tryz.prog.fieldsOf 25).toList = L at h
  cases L with
  | nil => cases h
  | cons f L =>
    cases L with
    | nil => simp at h
    | cons g L =>
      cases L with
      | cons _ _ => simp at h
      | nil =>
        simp at h
        obtain ⟨⟨a1, a2, a3⟩, b1, b2, b3⟩ := h
        exact ⟨f, g, rfl, by rw [a1]; decide, a2, a3, by rw [b1]; decide, b2, b3⟩
theorem part25_0 (X : Nat → Int) (w : World) : (part 23 (rl X).toArray 0).run Tryz.prog w = .ok (.agg (r32 X).toArray) w := by kernel_rfl
theorem part25_1 (X : Nat → Int) (w : World) : (part 22 (rl X).toArray 32).run Tryz.prog w = .ok (.int .u64 (X 32)) w := by kernel_rfl
theorem eqIn_regs (X Y : Nat → Int) (w : World) : (Op.equalIn 10000 25 (.agg (rl X).toArray) (.agg (rl Y).toArray)).run Tryz.prog w = .ok (rEq X Y) w := by
  obtain ⟨f, g, e, a1, a2, a3, b1, b2, b3⟩ := fields25
  rw [show (10000 : Nat) = 9999 + 1 from rfl, run_equalIn_struct w 9999 25 _ _ (by kernel_rfl) (by kernel_rfl), e]
  have ea := eq_arr 9997 X Y w
  have eb : (Op.equalIn 9999 22 (.int .u64 (X 32)) (.int .u64 (Y 32))).run Tryz.prog w = .ok (X 32 == Y 32) w := run_equalIn_int w 9998 22 .u64 .u64 _ _ Tryz.underlying22
  simp only [Op.eqFields, Sem.run_bind, a1, a2, a3, b1, b2, b3, part25_0, part25_1, Result.andThen_ok, ea, eb, rEq, ne_eq, not_false_eq_true, if_true]
  cases (List.range 32).all (fun i => X i == Y i) <;> cases h2 : (X 32 == Y 32) <;> simp [part25_1, eb, h2]
theorem neq_regs (X Y : Nat → Int) (w : World) : (binOp .neq 25 (.agg (rl X).toArray) (.agg (rl Y).toArray)).run Tryz.prog w = .ok (.bool (!rEq X Y)) w := by
  rw [run_neq_struct, eqIn_regs]
  rfl
theorem guard_regs (op : BinOp) (x y : Operand) (X Y : Nat → Int) (w : World) : (eqGuard op 25 x y (.agg (rl X).toArray) (.agg (rl Y).toArray)).run Tryz.prog w = .ok () w := run_eqGuard_agg w op 25 x y _ _ (by kernel_rfl)
/-- The same trap? -/
def tEq (a b : Bool) (c d u v : Int) : Bool := a == b && (c == d && u == v)
theorem fields37 : ∃ f g h : Field, (Tryz.prog.fieldsOf 37).toList = [f, g, h] ∧ f.name ≠ "_" ∧ f.type = 4 ∧ f.offset = 0 ∧ g.name ≠ "_" ∧ g.type = 22 ∧ g.offset = 1 ∧ h.name ≠ "_" ∧ h.type = 22 ∧ h.offset = 2 := by
  have h : (Tryz.prog.fieldsOf 37).toList.map (fun f => (f.name, f.type, f.offset)) = [("Taken", 4, 0), ("Cause", 22, 1), ("Value", 22, 2)] := by kernel_rfl
  generalize (Tryz.prog.fieldsOf 37).toList = L at h
  cases L with
  | nil => cases h
  | cons f L =>
    cases L with
    | nil => simp at h
    | cons g L =>
      cases L with
      | nil => simp at h
      | cons k L =>
        cases L with
        | cons _ _ => simp at h
        | nil =>
          simp at h
          obtain ⟨⟨a1, a2, a3⟩, ⟨b1, b2, b3⟩, c1, c2, c3⟩ := h
          exact ⟨f, g, k, rfl, by rw [a1]; decide, a2, a3, by rw [b1]; decide, b2, b3, by rw [c1]; decide, c2, c3⟩
theorem eqIn_trap (a b : Bool) (c d u v : Int) (w : World) : (Op.equalIn 10000 37 (.agg #[.bool a, .int .u64 c, .int .u64 u]) (.agg #[.bool b, .int .u64 d, .int .u64 v])).run Tryz.prog w = .ok (tEq a b c d u v) w := by
  obtain ⟨f, g, h, e, a1, a2, a3, b1, b2, b3, c1, c2, c3⟩ := fields37
  have p0 : ∀ (b : Bool) (c u : Int) (w : World), (part 4 #[.bool b, .int .u64 c, .int .u64 u] 0).run Tryz.prog w = .ok (.bool b) w := fun b c u w => by kernel_rfl
  have p1 : ∀ (b : Bool) (c u : Int) (w : World), (part 22 #[.bool b, .int .u64 c, .int .u64 u] 1).run Tryz.prog w = .ok (.int .u64 c) w := fun b c u w => by kernel_rfl
  have p2 : ∀ (b : Bool) (c u : Int) (w : World), (part 22 #[.bool b, .int .u64 c, .int .u64 u] 2).run Tryz.prog w = .ok (.int .u64 u) w := fun b c u w => by kernel_rfl
  have q0 : (Op.equalIn 9999 4 (.bool a) (.bool b)).run Tryz.prog w = .ok (a == b) w := run_equalIn_bool' w 9998 4 _ _ Tryz.underlying4
  have q1 : (Op.equalIn 9999 22 (.int .u64 c) (.int .u64 d)).run Tryz.prog w = .ok (c == d) w := run_equalIn_int w 9998 22 .u64 .u64 _ _ Tryz.underlying22
  have q2 : (Op.equalIn 9999 22 (.int .u64 u) (.int .u64 v)).run Tryz.prog w = .ok (u == v) w := run_equalIn_int w 9998 22 .u64 .u64 _ _ Tryz.underlying22
  rw [show (10000 : Nat) = 9999 + 1 from rfl, run_equalIn_struct w 9999 37 _ _ (by kernel_rfl) (by kernel_rfl), e]
  simp only [Op.eqFields, Sem.run_bind, a1, a2, a3, b1, b2, b3, c1, c2, c3, p0, p1, p2, Result.andThen_ok, q0, q1, q2, tEq, ne_eq, not_false_eq_true, if_true]
  cases (a == b) <;> cases h1 : (c == d) <;> cases h2 : (u == v) <;> simp [p1, p2, q1, q2, h1, h2]
theorem neq_trap (a b : Bool) (c d u v : Int) (w : World) : (binOp .neq 37 (.agg #[.bool a, .int .u64 c, .int .u64 u]) (.agg #[.bool b, .int .u64 d, .int .u64 v])).run Tryz.prog w = .ok (.bool (!tEq a b c d u v)) w := by
  rw [run_neq_struct, eqIn_trap]
  rfl
theorem eql_trap (a b : Bool) (c d u v : Int) (w : World) : (binOp .eql 37 (.agg #[.bool a, .int .u64 c, .int .u64 u]) (.agg #[.bool b, .int .u64 d, .int .u64 v])).run Tryz.prog w = .ok (.bool (tEq a b c d u v)) w := by
  rw [run_eql_struct, eqIn_trap]
  rfl
theorem guard_trap (op : BinOp) (x y : Operand) (xs ys : Array Value) (w : World) : (eqGuard op 37 x y (.agg xs) (.agg ys)).run Tryz.prog w = .ok () w := run_eqGuard_agg w op 37 x y _ _ (by kernel_rfl)
end Go.Proofs.YtcjkedgoinbofaaGreat
