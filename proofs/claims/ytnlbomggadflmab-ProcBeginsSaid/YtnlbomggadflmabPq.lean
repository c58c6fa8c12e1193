import Derived.Test.YtnlbomggadflmabPe
import Derived.Laws.StructEq
namespace Go.Proofs.Ytnlbomggadflmab
open Go.RowKit
set_option linter.unusedVariables false
set_option linter.unusedSimpArgs false
set_option maxRecDepth 100000
theorem fields_chan : ∃ f0 f1 : Field, (Try.prog.fieldsOf 31).toList = [f0, f1] ∧ f0.name ≠ "_" ∧ f0.type = 3 ∧ f0.offset = 0 ∧ f1.name ≠ "_" ∧ f1.type = 3 ∧ f1.offset = 1 := by
  have h : (Try.prog.fieldsOf 31).toList.map (fun f => (f.name, f.type, f.offset)) = [("Kind", 3, 0), ("N", 3, 1)] := by kernel_rfl
  generalize (Try.prog.fieldsOf 31).toList = L at h
  cases L with
  | nil => simp at h
  | cons f0 L =>
    cases L with
    | nil => simp at h
    | cons f1 L =>
      cases L with
      | cons _ _ => simp at h
      | nil =>
        simp at h
        obtain ⟨⟨a0, b0, c0⟩, a1, b1, c1⟩ := h
        exact ⟨f0, f1, rfl, by rw [a0]; decide, b0, c0, by rw [a1]; decide, b1, c1⟩
theorem fields_proc : ∃ f0 f1 f2 f3 f4 f5 : Field, (Try.prog.fieldsOf 33).toList = [f0, f1, f2, f3, f4, f5] ∧ f0.name ≠ "_" ∧ f0.type = 3 ∧ f0.offset = 0 ∧ f1.name ≠ "_" ∧ f1.type = 3 ∧ f1.offset = 1 ∧ f2.name ≠ "_" ∧ f2.type = 3 ∧ f2.offset = 2 ∧ f3.name ≠ "_" ∧ f3.type = 31 ∧ f3.offset = 3 ∧ f4.name ≠ "_" ∧ f4.type = 4 ∧ f4.offset = 5 ∧ f5.name ≠ "_" ∧ f5.type = 21 ∧ f5.offset = 6 := by
  have h : (Try.prog.fieldsOf 33).toList.map (fun f => (f.name, f.type, f.offset)) = [("Pid", 3, 0), ("State", 3, 1), ("Parent", 3, 2), ("Chan", 31, 3), ("Killed", 4, 5), ("Status", 21, 6)] := by kernel_rfl
  generalize (Try.prog.fieldsOf 33).toList = L at h
  cases L with
  | nil => simp at h
  | cons f0 L =>
    cases L with
    | nil => simp at h
    | cons f1 L =>
      cases L with
      | nil => simp at h
      | cons f2 L =>
        cases L with
        | nil => simp at h
        | cons f3 L =>
          cases L with
          | nil => simp at h
          | cons f4 L =>
            cases L with
            | nil => simp at h
            | cons f5 L =>
              cases L with
              | cons _ _ => simp at h
              | nil =>
                simp at h
                obtain ⟨⟨a0, b0, c0⟩, ⟨a1, b1, c1⟩, ⟨a2, b2, c2⟩, ⟨a3, b3, c3⟩, ⟨a4, b4, c4⟩, a5, b5, c5⟩ := h
                exact ⟨f0, f1, f2, f3, f4, f5, rfl, by rw [a0]; decide, b0, c0, by rw [a1]; decide, b1, c1, by rw [a2]; decide, b2, c2, by rw [a3]; decide, b3, c3, by rw [a4]; decide, b4, c4, by rw [a5]; decide, b5, c5⟩
theorem fields_table : ∃ f0 f1 : Field, (Try.prog.fieldsOf 36).toList = [f0, f1] ∧ f0.name ≠ "_" ∧ f0.type = 34 ∧ f0.offset = 0 ∧ f1.name ≠ "_" ∧ f1.type = 3 ∧ f1.offset = 448 := by
  have h : (Try.prog.fieldsOf 36).toList.map (fun f => (f.name, f.type, f.offset)) = [("Slots", 34, 0), ("Next", 3, 448)] := by kernel_rfl
  generalize (Try.prog.fieldsOf 36).toList = L at h
  cases L with
  | nil => simp at h
  | cons f0 L =>
    cases L with
    | nil => simp at h
    | cons f1 L =>
      cases L with
      | cons _ _ => simp at h
      | nil =>
        simp at h
        obtain ⟨⟨a0, b0, c0⟩, a1, b1, c1⟩ := h
        exact ⟨f0, f1, rfl, by rw [a0]; decide, b0, c0, by rw [a1]; decide, b1, c1⟩
/-- The same channel? -/
def cEq (a b c e : Int) : Bool := a == c && b == e
theorem eqIn_chan (d : Nat) (a b c e : Int) (w : World) : (Op.equalIn (d + 2) 31 (.agg #[.int .i64 a, .int .i64 b]) (.agg #[.int .i64 c, .int .i64 e])).run Try.prog w = .ok (cEq a b c e) w := by
  obtain ⟨f, g, e0, a1, a2, a3, b1, b2, b3⟩ := fields_chan
  have p0 : ∀ (a b : Int) (w : World), (part 3 #[.int .i64 a, .int .i64 b] 0).run Try.prog w = .ok (.int .i64 a) w := fun a b w => by kernel_rfl
  have p1 : ∀ (a b : Int) (w : World), (part 3 #[.int .i64 a, .int .i64 b] 1).run Try.prog w = .ok (.int .i64 b) w := fun a b w => by kernel_rfl
  have q1 : (Op.equalIn (d + 1) 3 (.int .i64 a) (.int .i64 c)).run Try.prog w = .ok (a == c) w := run_equalIn_int w d 3 .i64 .i64 _ _ Try.underlying3
  have q2 : (Op.equalIn (d + 1) 3 (.int .i64 b) (.int .i64 e)).run Try.prog w = .ok (b == e) w := run_equalIn_int w d 3 .i64 .i64 _ _ Try.underlying3
  rw [run_equalIn_struct w (d + 1) 31 _ _ (by kernel_rfl) (by kernel_rfl), e0]
  simp only [Op.eqFields, Sem.run_bind, a1, a2, a3, b1, b2, b3, p0, p1, Result.andThen_ok, q1, q2, cEq, ne_eq, not_false_eq_true, if_true]
  cases h1 : (a == c) <;> cases h2 : (b == e) <;> simp [p1, q2, h1, h2]
/-- The same process? -/
def pEq (p q : Pr) : Bool := p.pid == q.pid && (p.st == q.st && (p.par == q.par && (cEq p.ck p.cn q.ck q.cn && (p.kil == q.kil && p.sta == q.sta))))
theorem pEq_iff (p q : Pr) : pEq p q = true ↔ p = q := by
  cases p; cases q
  simp only [pEq, cEq, Bool.and_eq_true, beq_iff_eq, Pr.mk.injEq]
  constructor
  · rintro ⟨h1, h2, h3, ⟨h4, h5⟩, h6, h7⟩; exact ⟨h1, h2, h3, h4, h5, h6, h7⟩
  · rintro ⟨h1, h2, h3, h4, h5, h6, h7⟩; exact ⟨h1, h2, h3, ⟨h4, h5⟩, h6, h7⟩
theorem pEq_refl (p : Pr) : pEq p p = true := (pEq_iff p p).2 rfl
theorem eqIn_proc (d : Nat) (p q : Pr) (w : World) : (Op.equalIn (d + 3) 33 (.agg p.l.toArray) (.agg q.l.toArray)).run Try.prog w = .ok (pEq p q) w := by
  obtain ⟨f0, f1, f2, f3, f4, f5, e0, a0, b0, c0, a1, b1, c1, a2, b2, c2, a3, b3, c3, a4, b4, c4, a5, b5, c5⟩ := fields_proc
  have p0 : ∀ (p : Pr) (w : World), (part 3 p.l.toArray 0).run Try.prog w = .ok (.int .i64 p.pid) w := fun p w => by kernel_rfl
  have p1 : ∀ (p : Pr) (w : World), (part 3 p.l.toArray 1).run Try.prog w = .ok (.int .i64 p.st) w := fun p w => by kernel_rfl
  have p2 : ∀ (p : Pr) (w : World), (part 3 p.l.toArray 2).run Try.prog w = .ok (.int .i64 p.par) w := fun p w => by kernel_rfl
  have p3 : ∀ (p : Pr) (w : World), (part 31 p.l.toArray 3).run Try.prog w = .ok (.agg #[.int .i64 p.ck, .int .i64 p.cn]) w := fun p w => by kernel_rfl
  have p4 : ∀ (p : Pr) (w : World), (part 4 p.l.toArray 5).run Try.prog w = .ok (.bool p.kil) w := fun p w => by kernel_rfl
  have p5 : ∀ (p : Pr) (w : World), (part 21 p.l.toArray 6).run Try.prog w = .ok (.int .i32 p.sta) w := fun p w => by kernel_rfl
  have q0 : (Op.equalIn (d + 2) 3 (.int .i64 p.pid) (.int .i64 q.pid)).run Try.prog w = .ok (p.pid == q.pid) w := run_equalIn_int w (d + 1) 3 .i64 .i64 _ _ Try.underlying3
  have q1 : (Op.equalIn (d + 2) 3 (.int .i64 p.st) (.int .i64 q.st)).run Try.prog w = .ok (p.st == q.st) w := run_equalIn_int w (d + 1) 3 .i64 .i64 _ _ Try.underlying3
  have q2 : (Op.equalIn (d + 2) 3 (.int .i64 p.par) (.int .i64 q.par)).run Try.prog w = .ok (p.par == q.par) w := run_equalIn_int w (d + 1) 3 .i64 .i64 _ _ Try.underlying3
  have q3 := eqIn_chan d p.ck p.cn q.ck q.cn w
  have q4 : (Op.equalIn (d + 2) 4 (.bool p.kil) (.bool q.kil)).run Try.prog w = .ok (p.kil == q.kil) w := run_equalIn_bool' w (d + 1) 4 _ _ Try.underlying4
  have q5 : (Op.equalIn (d + 2) 21 (.int .i32 p.sta) (.int .i32 q.sta)).run Try.prog w = .ok (p.sta == q.sta) w := run_equalIn_int w (d + 1) 21 .i32 .i32 _ _ Try.underlying21
  rw [run_equalIn_struct w (d + 2) 33 _ _ (by kernel_rfl) (by kernel_rfl), e0]
  simp only [Op.eqFields, Sem.run_bind, a0, b0, c0, a1, b1, c1, a2, b2, c2, a3, b3, c3, a4, b4, c4, a5, b5, c5, p0, Result.andThen_ok, q0, pEq, ne_eq, not_false_eq_true, if_true]
  generalize (p.pid == q.pid) = t0 at *
  generalize (p.st == q.st) = t1 at *
  generalize (p.par == q.par) = t2 at *
  generalize cEq p.ck p.cn q.ck q.cn = t3 at *
  generalize (p.kil == q.kil) = t4 at *
  generalize (p.sta == q.sta) = t5 at *
  cases t0
  · simp
  cases t1
  · simp [p1, q1]
  cases t2
  · simp [p1, q1, p2, q2]
  cases t3
  · simp [p1, q1, p2, q2, p3, q3]
  cases t4
  · simp [p1, q1, p2, q2, p3, q3, p4, q4]
  cases t5
  · simp [p1, q1, p2, q2, p3, q3, p4, q4, p5, q5]
  · simp [p1, q1, p2, q2, p3, q3, p4, q4, p5, q5]
/-- The same slots? -/
def sEq (P Q : Nat → Pr) : Bool := (List.range 64).all fun i => pEq (P i) (Q i)
theorem sEq_iff (P Q : Nat → Pr) : sEq P Q = true ↔ ∀ i, i < 64 → P i = Q i := by
  simp only [sEq, List.all_eq_true, List.mem_range, pEq_iff]
theorem size_pr (w : World) : (sizeOf 33).run Try.prog w = .ok 7 w := by kernel_rfl
theorem part_pr (P : Nat → Pr) (i : Nat) (hi : i < 64) (w : World) : (part 33 (sl P).toArray (i * 7)).run Try.prog w = .ok (.agg (P i).l.toArray) w := by
  have e : ((sl P).toArray.extract (i * 7) (i * 7 + 7)) = (P i).l.toArray := by
    apply Array.ext'
    apply List.ext_getElem?
    intro k
    simp only [List.extract_toArray, List.extract_eq_take_drop, List.getElem?_take, List.getElem?_drop]
    by_cases hk : k < 7
    · rw [if_pos (by omega), sl_get P i k hi hk]
    · rw [if_neg (by omega), List.getElem?_eq_none (by rw [Pr.len]; omega)]
  have hs := size_pr w
  simp only [part, isAgg, Sem.run_bind, run_underlying Try.underlying33, Result.andThen_ok, Sem.run_pure, if_true, hs, e]
theorem eqIn_slots (d : Nat) (P Q : Nat → Pr) (w : World) : (Op.equalIn (d + 4) 34 (.agg (sl P).toArray) (.agg (sl Q).toArray)).run Try.prog w = .ok (sEq P Q) w := by
  rw [sEq, List.range_eq_range', Op.equalIn]
  simp only [Sem.run_bind, run_underlying Try.underlying34, Result.andThen_ok, size_pr, Std.Legacy.Range.forIn_eq_forIn_range', Std.Legacy.Range.size, Nat.sub_zero, Nat.add_sub_cancel, Nat.div_one]
  have hl : ∀ i ∈ List.range' 0 64 1, i < 64 := fun i hi => by simpa using (List.mem_range'_1.1 hi).2
  generalize List.range' 0 64 1 = l at hl ⊢
  induction l with
  | nil => simp
  | cons i l ih =>
    have hi : i < 64 := hl i (by simp)
    have px : ∀ Z : Nat → Pr, (part 33 (sl Z).toArray (i * 7)).run Try.prog w = .ok (.agg (Z i).l.toArray) w := fun Z => part_pr Z i hi w
    have pe := eqIn_proc d (P i) (Q i) w
    simp only [List.forIn_cons, Sem.run_bind, px, pe, Result.andThen_ok, List.all_cons]
    cases hb : pEq (P i) (Q i)
    · simp
    · simp only [Bool.not_true, Bool.false_eq_true, if_false, Sem.run_pure, Result.andThen_ok, Bool.true_and]
      exact ih fun j hj => hl j (by simp [hj])
/-- The same table? -/
def tEq (P Q : Nat → Pr) (n m : Int) : Bool := sEq P Q && n == m
theorem part_sl (P : Nat → Pr) (n : Int) (w : World) : (part 34 (tl P n).toArray 0).run Try.prog w = .ok (.agg (sl P).toArray) w := by kernel_rfl
theorem part_nx (P : Nat → Pr) (n : Int) (w : World) : (part 3 (tl P n).toArray 448).run Try.prog w = .ok (.int .i64 n) w := by kernel_rfl
theorem eqIn_table (d : Nat) (P Q : Nat → Pr) (n m : Int) (w : World) : (Op.equalIn (d + 5) 36 (.agg (tl P n).toArray) (.agg (tl Q m).toArray)).run Try.prog w = .ok (tEq P Q n m) w := by
  obtain ⟨f, g, e0, a1, a2, a3, b1, b2, b3⟩ := fields_table
  have q1 := eqIn_slots d P Q w
  have q2 : (Op.equalIn (d + 4) 3 (.int .i64 n) (.int .i64 m)).run Try.prog w = .ok (n == m) w := run_equalIn_int w (d + 3) 3 .i64 .i64 _ _ Try.underlying3
  rw [run_equalIn_struct w (d + 4) 36 _ _ (by kernel_rfl) (by kernel_rfl), e0]
  simp only [Op.eqFields, Sem.run_bind, a1, a2, a3, b1, b2, b3, part_sl, part_nx, Result.andThen_ok, q1, q2, tEq, ne_eq, not_false_eq_true, if_true]
  cases h1 : sEq P Q <;> cases h2 : (n == m) <;> simp [part_nx, q2, h1, h2]
theorem eql_chan (a b c e : Int) (w : World) : (binOp .eql 31 (.agg #[.int .i64 a, .int .i64 b]) (.agg #[.int .i64 c, .int .i64 e])).run Try.prog w = .ok (.bool (cEq a b c e)) w := by
  rw [run_eql_struct, eqIn_chan 9998 a b c e w]
  rfl
theorem neq_chan (a b c e : Int) (w : World) : (binOp .neq 31 (.agg #[.int .i64 a, .int .i64 b]) (.agg #[.int .i64 c, .int .i64 e])).run Try.prog w = .ok (.bool (!cEq a b c e)) w := by
  rw [run_neq_struct, eqIn_chan 9998 a b c e w]
  rfl
theorem guard_chan (op : BinOp) (x y : Operand) (xs ys : Array Value) (w : World) : (eqGuard op 31 x y (.agg xs) (.agg ys)).run Try.prog w = .ok () w := run_eqGuard_agg w op 31 x y _ _ (by kernel_rfl)
theorem eql_proc (p q : Pr) (w : World) : (binOp .eql 33 (.agg p.l.toArray) (.agg q.l.toArray)).run Try.prog w = .ok (.bool (pEq p q)) w := by
  rw [run_eql_struct, eqIn_proc 9997 p q w]
  rfl
theorem neq_proc (p q : Pr) (w : World) : (binOp .neq 33 (.agg p.l.toArray) (.agg q.l.toArray)).run Try.prog w = .ok (.bool (!pEq p q)) w := by
  rw [run_neq_struct, eqIn_proc 9997 p q w]
  rfl
theorem guard_proc (op : BinOp) (x y : Operand) (xs ys : Array Value) (w : World) : (eqGuard op 33 x y (.agg xs) (.agg ys)).run Try.prog w = .ok () w := run_eqGuard_agg w op 33 x y _ _ (by kernel_rfl)
theorem eql_table (P Q : Nat → Pr) (n m : Int) (w : World) : (binOp .eql 36 (.agg (tl P n).toArray) (.agg (tl Q m).toArray)).run Try.prog w = .ok (.bool (tEq P Q n m)) w := by
  rw [run_eql_struct, eqIn_table 9995 P Q n m w]
  rfl
theorem neq_table (P Q : Nat → Pr) (n m : Int) (w : World) : (binOp .neq 36 (.agg (tl P n).toArray) (.agg (tl Q m).toArray)).run Try.prog w = .ok (.bool (!tEq P Q n m)) w := by
  rw [run_neq_struct, eqIn_table 9995 P Q n m w]
  rfl
theorem guard_table (op : BinOp) (x y : Operand) (xs ys : Array Value) (w : World) : (eqGuard op 36 x y (.agg xs) (.agg ys)).run Try.prog w = .ok () w := run_eqGuard_agg w op 36 x y _ _ (by kernel_rfl)
end Go.Proofs.Ytnlbomggadflmab
