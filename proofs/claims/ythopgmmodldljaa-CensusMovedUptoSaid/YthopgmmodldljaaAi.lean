import Derived.Test.YthopgmmodldljaaAh
import Derived.Laws.StructEq
namespace Go.Proofs.Ythopgmmodldljaa
open Go Go.RowKit
set_option linter.unusedVariables false
set_option linter.unusedSimpArgs false
/-! == of structs and arrays. -/
def EqV (d : Nat) (t : TypeId) (x y : Value) (b : Bool) : Prop := ∀ w : World, (Op.equalIn d t x y).run Try.prog w = .ok b w
theorem eqv_int {d : Nat} {t : TypeId} {k k' : IntKind} (h : Try.prog.underlying t = some (.int k')) (a b : Int) : EqV (d + 1) t (.int k a) (.int k b) (a == b) := fun w => run_equalIn_int w d t k k' a b h
theorem eqv_bool {d : Nat} {t : TypeId} (h : Try.prog.underlying t = some .bool) (a b : Bool) : EqV (d + 1) t (.bool a) (.bool b) (a == b) := fun w => run_equalIn_bool w d t a b h
inductive EqFs (d : Nat) (xs ys : Array Value) : List (String × Nat × Nat) → Bool → Prop
  | nil : EqFs d xs ys [] true
  | cons {n : String} {t o : Nat} {px py : Value} {b c : Bool} {F : List (String × Nat × Nat)} (hn : n ≠ "_") (hx : ∀ w : World, (part t xs o).run Try.prog w = .ok px w) (hy : ∀ w : World, (part t ys o).run Try.prog w = .ok py w) (he : EqV d t px py b) (h : EqFs d xs ys F c) : EqFs d xs ys ((n, t, o) :: F) (b && c)
theorem eqfs_run {d : Nat} {xs ys : Array Value} : ∀ {F : List (String × Nat × Nat)} {b : Bool}, EqFs d xs ys F b → ∀ (fs : List Field), fs.map (fun f => (f.name, f.type, f.offset)) = F → ∀ w : World, (Op.eqFields d xs ys fs).run Try.prog w = .ok b w
  | _, _, .nil, fs, h, w => by
    have : fs = [] := by simpa using h
    subst this
    simp [Op.eqFields]
  | _, _, .cons (b := b) (c := c) hn hx hy he hr, fs, h, w => by
    cases fs with
    | nil => simp at h
    | cons f fs =>
      simp only [List.map_cons, List.cons.injEq, Prod.mk.injEq] at h
      obtain ⟨⟨h1, h2, h3⟩, h4⟩ := h
      have ih := eqfs_run hr fs h4 w
      simp only [Op.eqFields, Sem.run_bind, h1, h2, h3, ne_eq, hn, not_false_eq_true, if_true, hx, hy, he w, Result.andThen_ok]
      cases b
      · simp
      · simpa using ih
theorem eqv_struct {d : Nat} {T : TypeId} {xs ys : Array Value} {b : Bool} {F : List (String × Nat × Nat)} (ht : Try.prog.underlying T = some (.struct (Try.prog.fieldsOf T))) (hp : Try.prog.stoodInHeld T = false) (hF : (Try.prog.fieldsOf T).toList.map (fun f => (f.name, f.type, f.offset)) = F) (h : EqFs d xs ys F b) : EqV (d + 1) T (.agg xs) (.agg ys) b := fun w => by
  rw [run_equalIn_struct w d T xs ys ht hp]
  exact eqfs_run h _ hF w
theorem eqv_arr {d n : Nat} {T e : TypeId} {k k' : IntKind} (hT : Try.prog.underlying T = some (.array n e)) (he : Try.prog.underlying e = some (.int k')) (hs : ∀ w : World, (sizeOf e).run Try.prog w = .ok 1 w) (X Y : Nat → Int) : EqV (d + 2) T (.agg ((List.range n).map fun i => Value.int k (X i)).toArray) (.agg ((List.range n).map fun i => Value.int k (Y i)).toArray) ((List.range n).all fun i => X i == Y i) := fun w => by
  rw [Op.equalIn]
  simp only [Sem.run_bind, run_underlying hT, Result.andThen_ok, hs, Std.Legacy.Range.forIn_eq_forIn_range', Std.Legacy.Range.size, Nat.sub_zero, Nat.add_sub_cancel, Nat.div_one]
  have hl : ∀ i ∈ List.range' 0 n 1, i < n := fun i hi => by simpa using (List.mem_range'_1.1 hi).2
  have hr : (List.range n).all (fun i => X i == Y i) = (List.range' 0 n 1).all (fun i => X i == Y i) := by rw [List.range_eq_range']
  rw [hr]
  generalize List.range' 0 n 1 = l at hl ⊢
  induction l with
  | nil => simp
  | cons i l ih =>
    have hi : i < n := hl i (by simp)
    have px : ∀ Z : Nat → Int, (part e ((List.range n).map fun i => Value.int k (Z i)).toArray (i * 1)).run Try.prog w = .ok (.int k (Z i)) w := fun Z => by
      simp [part, isAgg, run_underlying he, List.getElem?_range hi]
    have pe : (Op.equalIn (d + 1) e (.int k (X i)) (.int k (Y i))).run Try.prog w = .ok (X i == Y i) w := run_equalIn_int w d e k k' _ _ he
    simp only [List.forIn_cons, Sem.run_bind, px, pe, Result.andThen_ok, List.all_cons]
    cases hb : (X i == Y i)
    · simp
    · simp only [Bool.not_true, Bool.false_eq_true, if_false, Sem.run_pure, Result.andThen_ok, Bool.true_and]
      exact ih fun j hj => hl j (by simp [hj])
theorem size24 (w : World) : (sizeOf 24).run Try.prog w = .ok 1 w := by kernel_rfl
theorem size3 (w : World) : (sizeOf 3).run Try.prog w = .ok 1 w := by kernel_rfl
theorem eqv_neq {T : TypeId} {xs ys : Array Value} {b : Bool} (h : EqV 10000 T (.agg xs) (.agg ys) b) (w : World) : (binOp .neq T (.agg xs) (.agg ys)).run Try.prog w = .ok (.bool (!b)) w := by
  rw [run_neq_struct, h w]
  rfl
theorem eqv_eql {T : TypeId} {xs ys : Array Value} {b : Bool} (h : EqV 10000 T (.agg xs) (.agg ys) b) (w : World) : (binOp .eql T (.agg xs) (.agg ys)).run Try.prog w = .ok (.bool b) w := by
  rw [run_eql_struct, h w]
  rfl
theorem eq_chan (d : Nat) (a b c e : Int) : EqV (d + 3) 45 (.agg #[.int .i64 a, .int .i64 b]) (.agg #[.int .i64 c, .int .i64 e]) ((a == c) && ((b == e) && true)) :=
  eqv_struct (by kernel_rfl) (by kernel_rfl) (F := [("Kind", 3, 0), ("N", 3, 1)]) (by kernel_rfl) (.cons (by decide) (fun _ => by kernel_rfl) (fun _ => by kernel_rfl) (eqv_int (k := .i64) Try.underlying3 _ _) (.cons (by decide) (fun _ => by kernel_rfl) (fun _ => by kernel_rfl) (eqv_int (k := .i64) Try.underlying3 _ _) .nil))
theorem eq_wrong (d : Nat) (a b c e : Int) : EqV (d + 3) 39 (.agg #[.int .i64 a, .int .i64 b]) (.agg #[.int .i64 c, .int .i64 e]) ((a == c) && ((b == e) && true)) :=
  eqv_struct (by kernel_rfl) (by kernel_rfl) (F := [("Kind", 3, 0), ("N", 3, 1)]) (by kernel_rfl) (.cons (by decide) (fun _ => by kernel_rfl) (fun _ => by kernel_rfl) (eqv_int (k := .i64) Try.underlying3 _ _) (.cons (by decide) (fun _ => by kernel_rfl) (fun _ => by kernel_rfl) (eqv_int (k := .i64) Try.underlying3 _ _) .nil))
theorem eq_named (d : Nat) (x y : Nm) : EqV (d + 3) 104 (.agg (An x).toArray) (.agg (An y).toArray) ((x.1 == y.1) && ((x.2.1 == y.2.1) && ((x.2.2 == y.2.2) && true))) :=
  eqv_struct (by kernel_rfl) (by kernel_rfl) (F := [("Pa", 24, 0), ("Class", 3, 1), ("Owner", 3, 2)]) (by kernel_rfl) (.cons (by decide) (fun _ => by kernel_rfl) (fun _ => by kernel_rfl) (eqv_int (k := .u64) Try.underlying24 _ _) (.cons (by decide) (fun _ => by kernel_rfl) (fun _ => by kernel_rfl) (eqv_int (k := .i64) Try.underlying3 _ _) (.cons (by decide) (fun _ => by kernel_rfl) (fun _ => by kernel_rfl) (eqv_int (k := .i64) Try.underlying3 _ _) .nil)))
theorem eq_file (d : Nat) (x y : Fi) : EqV (d + 3) 94 (.agg x.l.toArray) (.agg y.l.toArray) ((x.num == y.num) && ((x.kind == y.kind) && ((x.refs == y.refs) && ((x.rd == y.rd) && ((x.wr == y.wr) && ((x.ino == y.ino) && ((x.off == y.off) && ((x.pipe == y.pipe) && true)))))))) :=
  eqv_struct (by kernel_rfl) (by kernel_rfl) (F := [("Num", 3, 0), ("Kind", 3, 1), ("Refs", 3, 2), ("Readable", 4, 3), ("Writable", 4, 4), ("Ino", 3, 5), ("Off", 3, 6), ("Pipe", 3, 7)]) (by kernel_rfl) (.cons (by decide) (fun _ => by kernel_rfl) (fun _ => by kernel_rfl) (eqv_int (k := .i64) Try.underlying3 _ _) (.cons (by decide) (fun _ => by kernel_rfl) (fun _ => by kernel_rfl) (eqv_int (k := .i64) Try.underlying3 _ _) (.cons (by decide) (fun _ => by kernel_rfl) (fun _ => by kernel_rfl) (eqv_int (k := .i64) Try.underlying3 _ _) (.cons (by decide) (fun _ => by kernel_rfl) (fun _ => by kernel_rfl) (eqv_bool Try.underlying4 _ _) (.cons (by decide) (fun _ => by kernel_rfl) (fun _ => by kernel_rfl) (eqv_bool Try.underlying4 _ _) (.cons (by decide) (fun _ => by kernel_rfl) (fun _ => by kernel_rfl) (eqv_int (k := .i64) Try.underlying3 _ _) (.cons (by decide) (fun _ => by kernel_rfl) (fun _ => by kernel_rfl) (eqv_int (k := .i64) Try.underlying3 _ _) (.cons (by decide) (fun _ => by kernel_rfl) (fun _ => by kernel_rfl) (eqv_int (k := .i64) Try.underlying3 _ _) .nil))))))))
theorem eq_117 (d : Nat) (a b c x y z : Int) : EqV (d + 3) 117 (.agg #[.int .i64 a, .int .i64 b, .int .i64 c]) (.agg #[.int .i64 x, .int .i64 y, .int .i64 z]) ((a == x) && ((b == y) && ((c == z) && true))) :=
  eqv_struct (by kernel_rfl) (by kernel_rfl) (F := [("Num", 3, 0), ("Held", 3, 1), ("Named", 3, 2)]) (by kernel_rfl) (.cons (by decide) (fun _ => by kernel_rfl) (fun _ => by kernel_rfl) (eqv_int (k := .i64) Try.underlying3 _ _) (.cons (by decide) (fun _ => by kernel_rfl) (fun _ => by kernel_rfl) (eqv_int (k := .i64) Try.underlying3 _ _) (.cons (by decide) (fun _ => by kernel_rfl) (fun _ => by kernel_rfl) (eqv_int (k := .i64) Try.underlying3 _ _) .nil)))
theorem eq_59 (d : Nat) (a b c x y z : Int) : EqV (d + 3) 59 (.agg #[.int .i64 a, .int .i64 b, .int .i64 c]) (.agg #[.int .i64 x, .int .i64 y, .int .i64 z]) ((a == x) && ((b == y) && ((c == z) && true))) :=
  eqv_struct (by kernel_rfl) (by kernel_rfl) (F := [("Class", 3, 0), ("Owner", 3, 1), ("Times", 3, 2)]) (by kernel_rfl) (.cons (by decide) (fun _ => by kernel_rfl) (fun _ => by kernel_rfl) (eqv_int (k := .i64) Try.underlying3 _ _) (.cons (by decide) (fun _ => by kernel_rfl) (fun _ => by kernel_rfl) (eqv_int (k := .i64) Try.underlying3 _ _) (.cons (by decide) (fun _ => by kernel_rfl) (fun _ => by kernel_rfl) (eqv_int (k := .i64) Try.underlying3 _ _) .nil)))
def regL (c : Nat → Int) : List Value := [.int .u64 (c 8), .int .u64 (c 9), .int .u64 (c 10), .int .u64 (c 11), .int .u64 (c 12), .int .u64 (c 13), .int .u64 (c 14), .int .u64 (c 15), .int .u64 (c 16), .int .u64 (c 17), .int .u64 (c 18), .int .u64 (c 19), .int .u64 (c 20), .int .u64 (c 21), .int .u64 (c 22), .int .u64 (c 23), .int .u64 (c 24), .int .u64 (c 25), .int .u64 (c 26), .int .u64 (c 27), .int .u64 (c 28), .int .u64 (c 29), .int .u64 (c 30), .int .u64 (c 31), .int .u64 (c 32), .int .u64 (c 33), .int .u64 (c 34), .int .u64 (c 35), .int .u64 (c 36), .int .u64 (c 37), .int .u64 (c 38), .int .u64 (c 39), .int .u64 (c 40)]
def fdL (c : Nat → Int) : List Value := [.int .i64 (c 46), .int .i64 (c 47), .int .i64 (c 48), .int .i64 (c 49), .int .i64 (c 50), .int .i64 (c 51), .int .i64 (c 52), .int .i64 (c 53), .int .i64 (c 54), .int .i64 (c 55), .int .i64 (c 56), .int .i64 (c 57), .int .i64 (c 58), .int .i64 (c 59), .int .i64 (c 60), .int .i64 (c 61)]
def penL (c : Nat → Int) : List Value := [.int .i64 (c 64), .int .u64 (c 65), .int .u64 (c 66), .int .u64 (c 67), .int .i64 (c 68), .int .u64 (c 69)]
theorem eq_regs (d : Nat) (c c1 : Nat → Int) : EqV (d + 3) 48 (.agg (regL c).toArray) (.agg (regL c1).toArray) (((List.range 32).all fun i => c (8 + i) == c1 (8 + i)) && (((c 40) == (c1 40)) && true)) :=
  eqv_struct (by kernel_rfl) (by kernel_rfl) (F := [("X", 46, 0), ("Pc", 24, 32)]) (by kernel_rfl) (.cons (by decide) (fun _ => by kernel_rfl) (fun _ => by kernel_rfl) (eqv_arr (k := .u64) Try.underlying46 Try.underlying24 size24 (fun i => c (8 + i)) (fun i => c1 (8 + i))) (.cons (by decide) (fun _ => by kernel_rfl) (fun _ => by kernel_rfl) (eqv_int (k := .u64) Try.underlying24 _ _) .nil))
theorem eq_fds (d : Nat) (c c1 : Nat → Int) : EqV (d + 2) 50 (.agg (fdL c).toArray) (.agg (fdL c1).toArray) ((List.range 16).all fun i => c (46 + i) == c1 (46 + i)) :=
  eqv_arr (k := .i64) Try.underlying50 Try.underlying3 size3 (fun i => c (46 + i)) (fun i => c1 (46 + i))
theorem eq_pend (d : Nat) (c c1 : Nat → Int) : EqV (d + 3) 53 (.agg (penL c).toArray) (.agg (penL c1).toArray) (((c 64) == (c1 64)) && (((List.range 3).all fun i => c (65 + i) == c1 (65 + i)) && (((c 68) == (c1 68)) && (((c 69) == (c1 69)) && true)))) :=
  eqv_struct (by kernel_rfl) (by kernel_rfl) (F := [("Num", 3, 0), ("Args", 51, 1), ("Done", 3, 4), ("Due", 24, 5)]) (by kernel_rfl) (.cons (by decide) (fun _ => by kernel_rfl) (fun _ => by kernel_rfl) (eqv_int (k := .i64) Try.underlying3 _ _) (.cons (by decide) (fun _ => by kernel_rfl) (fun _ => by kernel_rfl) (eqv_arr (k := .u64) Try.underlying51 Try.underlying24 size24 (fun i => c (65 + i)) (fun i => c1 (65 + i))) (.cons (by decide) (fun _ => by kernel_rfl) (fun _ => by kernel_rfl) (eqv_int (k := .i64) Try.underlying3 _ _) (.cons (by decide) (fun _ => by kernel_rfl) (fun _ => by kernel_rfl) (eqv_int (k := .u64) Try.underlying24 _ _) .nil))))
end Go.Proofs.Ythopgmmodldljaa
