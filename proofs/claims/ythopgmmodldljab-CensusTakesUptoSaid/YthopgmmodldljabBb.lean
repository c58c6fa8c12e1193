import Derived.Test.YthopgmmodldljabAh
import Derived.Laws.StructEq
namespace Go.Proofs.Ythopgmmodldljab
open Go Go.RowKit
set_option linter.unusedVariables false
set_option linter.unusedSimpArgs false
/-! == of structs and arrays. -/
def EqV (d : Nat) (t : TypeId) (x y : Value) (b : Bool) : Prop := ∀ w : World, (Op.equalIn d t x y).run Try.prog w = .ok b w
theorem eqv_int {d : Nat} {t : TypeId} {k k' : IntKind} (h : Try.prog.underlying t = some (.int k')) (a b : Int) : EqV (d + 1) t (.int k a) (.int k b) (a == b) := fun w => run_equalIn_int w d t k k' a b h
theorem eqv_bool {d : Nat} {t : TypeId} (h : Try.prog.underlying t = some .bool) (a b : Bool) : EqV (d + 1) t (.bool a) (.bool b) (a == b) := fun w => run_equalIn_bool w d t a b h
inductive EqFs (d : Nat) (xs ys : Array Value) : List (String × Nat × Nat) → Bool → Prop
 | nil : EqFs d xs ys [] true
 | cons {n : String} {t o : Nat} {px py : Value} {b c : Bool} {F : List (String × Nat × Nat)} (hn : n ≠ "_") (hx : ∀ w : World, (part t xs o).run Try.prog w = .ok px w) (hy : ∀ w : World, (part t ys o).run Try.prog w = .ok py w) (he : EqV d t px py b) (h : EqFs d xs ys F c) : EqFs d xs ys ((n, t, o) :: F) (b && c)
theorem eqfs_run {d : Nat} {xs ys : Array Value} : ∀ {F : List (String × Nat × Nat)} {b : Bool}, EqFs d xs ys F b → ∀ (fs : List Field), fs.map (fun f => (f.name, f.type, f.offset)) = F → ∀ w : World, (Op.eqFields d xs ys fs).run Try.prog w = .ok b w
 | _, _, .nil, fs, h, w => by
  have : fs = [] := by simpa using h
  subst this
  simp [Op.eqFields]
 | _, _, .cons (b := b) (c := c) hn hx hy he hr, fs, h, w => by
  cases fs with
  | nil => simp at h
  | cons f fs =>
   simp only [List.map_cons, List.cons.injEq, Prod.mk.injEq] at h
   obtain ⟨⟨h1, h2, h3⟩, h4⟩ := h
   have ih := eqfs_run hr fs h4 w
   simp only [Op.eqFields, Sem.run_bind, h1, h2, h3, ne_eq, hn, not_false_eq_true, if_true, hx, hy, he w, Result.andThen_ok]
   cases b
   ·simp
   ·simpa using ih
theorem eqv_struct {d : Nat} {T : TypeId} {xs ys : Array Value} {b : Bool} {F : List (String × Nat × Nat)} (ht : Try.prog.underlying T = some (.struct (Try.prog.fieldsOf T))) (hp : Try.prog.stoodInHeld T = false) (hF : (Try.prog.fieldsOf T).toList.map (fun f => (f.name, f.type, f.offset)) = F) (h : EqFs d xs ys F b) : EqV (d + 1) T (.agg xs) (.agg ys) b := fun w => by
 rw [run_equalIn_struct w d T xs ys ht hp]
 exact eqfs_run h _ hF w
theorem eqv_arr {d n : Nat} {T e : TypeId} {k k' : IntKind} (hT : Try.prog.underlying T = some (.array n e)) (he : Try.prog.underlying e = some (.int k')) (hs : ∀ w : World, (sizeOf e).run Try.prog w = .ok 1 w) (X Y : Nat → Int) : EqV (d + 2) T (.agg ((List.range n).map fun i => Value.int k (X i)).toArray) (.agg ((List.range n).map fun i => Value.int k (Y i)).toArray) ((List.range n).all fun i => X i == Y i) := fun w => by
 rw [Op.equalIn]
 simp only [Sem.run_bind, run_underlying hT, Result.andThen_ok, hs, Std.Legacy.Range.forIn_eq_forIn_range', Std.Legacy.Range.size, Nat.sub_zero, Nat.add_sub_cancel, Nat.div_one]
 have hl : ∀ i ∈ List.range' 0 n 1, i < n := fun i hi => by simpa using (List.mem_range'_1.1 hi).2
 have hr : (List.range n).all (fun i => X i == Y i) = (List.range' 0 n 1).all (fun i => X i == Y i) := by rw [List.range_eq_range']
 rw [hr]
 generalize List.range' 0 n 1 = l at hl ⊢
 induction l with
 | nil => simp
 | cons i l ih =>
  have hi : i < n := hl i (by simp)
  have px : ∀ Z : Nat → Int, (part e ((List.range n).map fun i => Value.int k (Z i)).toArray (i * 1)).run Try.prog w = .ok (.int k (Z i)) w := fun Z => by
   simp [part, isAgg, run_underlying he, List.getElem?_range hi]
  have pe : (Op.equalIn (d + 1) e (.int k (X i)) (.int k (Y i))).run Try.prog w = .ok (X i == Y i) w := run_equalIn_int w d e k k' _ _ he
  simp only [List.forIn_cons, Sem.run_bind, px, pe, Result.andThen_ok, List.all_cons]
  cases hb : (X i == Y i)
  ·simp
  ·simp only [Bool.not_true, Bool.false_eq_true, if_false, Sem.run_pure, Result.andThen_ok, Bool.true_and]
   exact ih fun j hj => hl j (by simp [hj])
theorem size24 (w : World) : (sizeOf 22).run Try.prog w = .ok 1 w := by kernel_rfl
theorem size3 (w : World) : (sizeOf 3).run Try.prog w = .ok 1 w := by kernel_rfl
theorem eqv_neq {T : TypeId} {xs ys : Array Value} {b : Bool} (h : EqV 10000 T (.agg xs) (.agg ys) b) (w : World) : (binOp .neq T (.agg xs) (.agg ys)).run Try.prog w = .ok (.bool (!b)) w := by
 rw [run_neq_struct, h w]
 rfl
theorem eqv_eql {T : TypeId} {xs ys : Array Value} {b : Bool} (h : EqV 10000 T (.agg xs) (.agg ys) b) (w : World) : (binOp .eql T (.agg xs) (.agg ys)).run Try.prog w = .ok (.bool b) w := by
 rw [run_eql_struct, h w]
 rfl
theorem eq_chan (d : Nat) (a b c e : Int) : EqV (d + 3) 50 (.agg #[.int .i64 a, .int .i64 b]) (.agg #[.int .i64 c, .int .i64 e]) ((a == c) && ((b == e) && true)) :=
 eqv_struct (by kernel_rfl) (by kernel_rfl) (F := [("Kind", 3, 0), ("N", 3, 1)]) (by kernel_rfl) (.cons (by decide) (fun _ => by kernel_rfl) (fun _ => by kernel_rfl) (eqv_int (k := .i64) Try.underlying3 _ _) (.cons (by decide) (fun _ => by kernel_rfl) (fun _ => by kernel_rfl) (eqv_int (k := .i64) Try.underlying3 _ _) .nil))
theorem eq_wrong (d : Nat) (a b c e : Int) : EqV (d + 3) 39 (.agg #[.int .i64 a, .int .i64 b]) (.agg #[.int .i64 c, .int .i64 e]) ((a == c) && ((b == e) && true)) :=
 eqv_struct (by kernel_rfl) (by kernel_rfl) (F := [("Kind", 3, 0), ("N", 3, 1)]) (by kernel_rfl) (.cons (by decide) (fun _ => by kernel_rfl) (fun _ => by kernel_rfl) (eqv_int (k := .i64) Try.underlying3 _ _) (.cons (by decide) (fun _ => by kernel_rfl) (fun _ => by kernel_rfl) (eqv_int (k := .i64) Try.underlying3 _ _) .nil))
theorem eq_named (d : Nat) (x y : Nm) : EqV (d + 3) 88 (.agg (An x).toArray) (.agg (An y).toArray) ((x.1 == y.1) && ((x.2.1 == y.2.1) && ((x.2.2 == y.2.2) && true))) :=
 eqv_struct (by kernel_rfl) (by kernel_rfl) (F := [("Pa", 22, 0), ("Class", 3, 1), ("Owner", 3, 2)]) (by kernel_rfl) (.cons (by decide) (fun _ => by kernel_rfl) (fun _ => by kernel_rfl) (eqv_int (k := .u64) Try.underlying22 _ _) (.cons (by decide) (fun _ => by kernel_rfl) (fun _ => by kernel_rfl) (eqv_int (k := .i64) Try.underlying3 _ _) (.cons (by decide) (fun _ => by kernel_rfl) (fun _ => by kernel_rfl) (eqv_int (k := .i64) Try.underlying3 _ _) .nil)))
theorem eq_file (d : Nat) (x y : Fi) : EqV (d + 3) 67 (.agg x.l.toArray) (.agg y.l.toArray) ((x.num == y.num) && ((x.kind == y.kind) && ((x.refs == y.refs) && ((x.rd == y.rd) && ((x.wr == y.wr) && ((x.ino == y.ino) && ((x.off == y.off) && ((x.pipe == y.pipe) && true)))))))) :=
 eqv_struct (by kernel_rfl) (by kernel_rfl) (F := [("Num", 3, 0), ("Kind", 3, 1), ("Refs", 3, 2), ("Readable", 4, 3), ("Writable", 4, 4), ("Ino", 3, 5), ("Off", 3, 6), ("Pipe", 3, 7)]) (by kernel_rfl) (.cons (by decide) (fun _ => by kernel_rfl) (fun _ => by kernel_rfl) (eqv_int (k := .i64) Try.underlying3 _ _) (.cons (by decide) (fun _ => by kernel_rfl) (fun _ => by kernel_rfl) (eqv_int (k := .i64) Try.underlying3 _ _) (.cons (by decide) (fun _ => by kernel_rfl) (fun _ => by kernel_rfl) (eqv_int (k := .i64) Try.underlying3 _ _) (.cons (by decide) (fun _ => by kernel_rfl) (fun _ => by kernel_rfl) (eqv_bool Try.underlying4 _ _) (.cons (by decide) (fun _ => by kernel_rfl) (fun _ => by kernel_rfl) (eqv_bool Try.underlying4 _ _) (.cons (by decide) (fun _ => by kernel_rfl) (fun _ => by kernel_rfl) (eqv_int (k := .i64) Try.underlying3 _ _) (.cons (by decide) (fun _ => by kernel_rfl) (fun _ => by kernel_rfl) (eqv_int (k := .i64) Try.underlying3 _ _) (.cons (by decide) (fun _ => by kernel_rfl) (fun _ => by kernel_rfl) (eqv_int (k := .i64) Try.underlying3 _ _) .nil))))))))
theorem eq_117 (d : Nat) (a b c x y z : Int) : EqV (d + 3) 91 (.agg #[.int .i64 a, .int .i64 b, .int .i64 c]) (.agg #[.int .i64 x, .int .i64 y, .int .i64 z]) ((a == x) && ((b == y) && ((c == z) && true))) :=
 eqv_struct (by kernel_rfl) (by kernel_rfl) (F := [("Num", 3, 0), ("Held", 3, 1), ("Named", 3, 2)]) (by kernel_rfl) (.cons (by decide) (fun _ => by kernel_rfl) (fun _ => by kernel_rfl) (eqv_int (k := .i64) Try.underlying3 _ _) (.cons (by decide) (fun _ => by kernel_rfl) (fun _ => by kernel_rfl) (eqv_int (k := .i64) Try.underlying3 _ _) (.cons (by decide) (fun _ => by kernel_rfl) (fun _ => by kernel_rfl) (eqv_int (k := .i64) Try.underlying3 _ _) .nil)))
theorem eq_59 (d : Nat) (a b c x y z : Int) : EqV (d + 3) 85 (.agg #[.int .i64 a, .int .i64 b, .int .i64 c]) (.agg #[.int .i64 x, .int .i64 y, .int .i64 z]) ((a == x) && ((b == y) && ((c == z) && true))) :=
 eqv_struct (by kernel_rfl) (by kernel_rfl) (F := [("Class", 3, 0), ("Owner", 3, 1), ("Times", 3, 2)]) (by kernel_rfl) (.cons (by decide) (fun _ => by kernel_rfl) (fun _ => by kernel_rfl) (eqv_int (k := .i64) Try.underlying3 _ _) (.cons (by decide) (fun _ => by kernel_rfl) (fun _ => by kernel_rfl) (eqv_int (k := .i64) Try.underlying3 _ _) (.cons (by decide) (fun _ => by kernel_rfl) (fun _ => by kernel_rfl) (eqv_int (k := .i64) Try.underlying3 _ _) .nil)))
def regL (c : Nat → Int) : List Value := [.int .u64 (c 8), .int .u64 (c 9), .int .u64 (c 10), .int .u64 (c 11), .int .u64 (c 12), .int .u64 (c 13), .int .u64 (c 14), .int .u64 (c 15), .int .u64 (c 16), .int .u64 (c 17), .int .u64 (c 18), .int .u64 (c 19), .int .u64 (c 20), .int .u64 (c 21), .int .u64 (c 22), .int .u64 (c 23), .int .u64 (c 24), .int .u64 (c 25), .int .u64 (c 26), .int .u64 (c 27), .int .u64 (c 28), .int .u64 (c 29), .int .u64 (c 30), .int .u64 (c 31), .int .u64 (c 32), .int .u64 (c 33), .int .u64 (c 34), .int .u64 (c 35), .int .u64 (c 36), .int .u64 (c 37), .int .u64 (c 38), .int .u64 (c 39), .int .u64 (c 40)]
def fdL (c : Nat → Int) : List Value := [.int .i64 (c 46), .int .i64 (c 47), .int .i64 (c 48), .int .i64 (c 49), .int .i64 (c 50), .int .i64 (c 51), .int .i64 (c 52), .int .i64 (c 53), .int .i64 (c 54), .int .i64 (c 55), .int .i64 (c 56), .int .i64 (c 57), .int .i64 (c 58), .int .i64 (c 59), .int .i64 (c 60), .int .i64 (c 61)]
def penL (c : Nat → Int) : List Value := [.int .i64 (c 64), .int .u64 (c 65), .int .u64 (c 66), .int .u64 (c 67), .int .i64 (c 68), .int .u64 (c 69)]
theorem eq_regs (d : Nat) (c c1 : Nat → Int) : EqV (d + 3) 53 (.agg (regL c).toArray) (.agg (regL c1).toArray) (((List.range 32).all fun i => c (8 + i) == c1 (8 + i)) && (((c 40) == (c1 40)) && true)) :=
 eqv_struct (by kernel_rfl) (by kernel_rfl) (F := [("X", 51, 0), ("Pc", 22, 32)]) (by kernel_rfl) (.cons (by decide) (fun _ => by kernel_rfl) (fun _ => by kernel_rfl) (eqv_arr (k := .u64) Try.underlying51 Try.underlying22 size24 (fun i => c (8 + i)) (fun i => c1 (8 + i))) (.cons (by decide) (fun _ => by kernel_rfl) (fun _ => by kernel_rfl) (eqv_int (k := .u64) Try.underlying22 _ _) .nil))
theorem eq_fds (d : Nat) (c c1 : Nat → Int) : EqV (d + 2) 55 (.agg (fdL c).toArray) (.agg (fdL c1).toArray) ((List.range 16).all fun i => c (46 + i) == c1 (46 + i)) :=
 eqv_arr (k := .i64) Try.underlying55 Try.underlying3 size3 (fun i => c (46 + i)) (fun i => c1 (46 + i))
theorem eq_pend (d : Nat) (c c1 : Nat → Int) : EqV (d + 3) 58 (.agg (penL c).toArray) (.agg (penL c1).toArray) (((c 64) == (c1 64)) && (((List.range 3).all fun i => c (65 + i) == c1 (65 + i)) && (((c 68) == (c1 68)) && (((c 69) == (c1 69)) && true)))) :=
 eqv_struct (by kernel_rfl) (by kernel_rfl) (F := [("Num", 3, 0), ("Args", 56, 1), ("Done", 3, 4), ("Due", 22, 5)]) (by kernel_rfl) (.cons (by decide) (fun _ => by kernel_rfl) (fun _ => by kernel_rfl) (eqv_int (k := .i64) Try.underlying3 _ _) (.cons (by decide) (fun _ => by kernel_rfl) (fun _ => by kernel_rfl) (eqv_arr (k := .u64) Try.underlying56 Try.underlying22 size24 (fun i => c (65 + i)) (fun i => c1 (65 + i))) (.cons (by decide) (fun _ => by kernel_rfl) (fun _ => by kernel_rfl) (eqv_int (k := .i64) Try.underlying3 _ _) (.cons (by decide) (fun _ => by kernel_rfl) (fun _ => by kernel_rfl) (eqv_int (k := .u64) Try.underlying22 _ _) .nil))))
end Go.Proofs.Ythopgmmodldljab
namespace Go.Proofs.Ythopgmmodldljab
open Go Go.RowKit
set_option linter.unusedVariables false
set_option linter.unusedSimpArgs false
/-- Is there a frame of this memory at an address? -/
def isF (N pa : Int) : Prop := 2147483648 ≤ pa ∧ pa % 4096 = 0 ∧ (pa - 2147483648) / 4096 < N
instance (N pa : Int) : Decidable (isF N pa) := by unfold isF; infer_instance
def frN (pa : Int) : Int := (pa - 2147483648) / 4096
theorem frameAt_any (pa N : Int) (h0 : 0 ≤ pa) (h1 : pa < 18446744073709551616) (hN : 0 ≤ N) (hN2 : N ≤ 4096) (w : World) : Calls Try.prog 45 #[.int .u64 pa, .int .i64 N] w fun e w' => e = .returned (.tuple #[.int .i64 (if isF N pa then frN pa else 0), .bool (decide (isF N pa))]) ∧ w' = w := by
 have ht : pa.tmod 4096 = pa % 4096 := Int.tmod_eq_emod_of_nonneg h0
 have hw : IntKind.u64.wrap N = N := by rw [IntKind.wrap_u64]; omega
 by_cases a : pa < 2147483648
 ·have hn : ¬ isF N pa := fun h => by have := h.1; omega
  rw [if_neg hn]
  have HN : Hid (decide (isF N pa) = false) := decide_eq_false hn
  obtain ⟨v, hv⟩ : ∃ v, v = IntKind.u64.wrap (pa - 2147483648) := ⟨_, rfl⟩
  have v0 : 0 ≤ v := by rw [hv, IntKind.wrap_u64]; omega
  have hd : v.tdiv 4096 = v / 4096 := Int.tdiv_eq_ediv_of_nonneg v0
  have hv' := hv.symm
  clear hv hn
  go_enter Try.func45, Try.ntmps45
  go_wp2
  go_ret2
  exact ⟨by rw [HN.out]; rfl, rfl⟩
 ·have hv : IntKind.u64.wrap (pa - 2147483648) = pa - 2147483648 := by rw [IntKind.wrap_u64]; omega
  have hd : (pa - 2147483648).tdiv 4096 = (pa - 2147483648) / 4096 := Int.tdiv_eq_ediv_of_nonneg (by omega)
  obtain ⟨r, hr⟩ : ∃ r, r = pa % 4096 := ⟨_, rfl⟩
  obtain ⟨m, hm⟩ : ∃ m, m = (pa - 2147483648) / 4096 := ⟨_, rfl⟩
  have m0 : 0 ≤ m := by omega
  have m1 : m ≤ 4503599627370496 := by omega
  have hwm : IntKind.i64.wrap m = m := by rw [IntKind.wrap_i64]; omega
  have HR : Hid (r = pa % 4096 ∧ m = (pa - 2147483648) / 4096) := ⟨hr, hm⟩
  rw [← hr] at ht
  rw [← hm] at hd
  clear hr hm
  by_cases b : r = 0
  ·have b' : (r == 0) = true := by simpa using b
   have HB0 : Hid (r = 0) := b
   clear b
   by_cases c : m < N
   ·have c' : ¬ N ≤ m := by omega
    have hi : isF N pa := ⟨by omega, by rw [← HR.out.1]; exact HB0.out, by rw [← HR.out.2]; exact c⟩
    rw [if_pos hi]
    have HN : Hid (decide (isF N pa) = true ∧ frN pa = m) := ⟨decide_eq_true hi, HR.out.2.symm⟩
    clear hi
    go_enter Try.func45, Try.ntmps45
    go_wp2
    go_ret2
    exact ⟨by rw [HN.out.1, HN.out.2]; rfl, rfl⟩
   ·have c' : N ≤ m := by omega
    have hn : ¬ isF N pa := fun h => by have h3 := h.2.2; rw [← HR.out.2] at h3; omega
    rw [if_neg hn]
    have HN : Hid (decide (isF N pa) = false) := decide_eq_false hn
    clear hn
    go_enter Try.func45, Try.ntmps45
    go_wp2
    go_ret2
    exact ⟨by rw [HN.out]; rfl, rfl⟩
  ·have b' : (r == 0) = false := by simpa using b
   have b2 : (r != 0) = true := by simpa using b
   have hn : ¬ isF N pa := fun h => by have h3 := h.2.1; rw [← HR.out.1] at h3; exact b h3
   rw [if_neg hn]
   have HN : Hid (decide (isF N pa) = false) := decide_eq_false hn
   clear hn b
   go_enter Try.func45, Try.ntmps45
   go_wp2
   go_ret2
   exact ⟨by rw [HN.out]; rfl, rfl⟩
end Go.Proofs.Ythopgmmodldljab
namespace Go.Proofs.Ythopgmmodldljab
open Go Go.RowKit
set_option linter.unusedVariables false
set_option linter.unusedSimpArgs false
/-! The program's own list of all that name a frame. -/
def rowM (l : List Nm) (v : Value) : Row := ⟨116, 3, l.length, v, (l.map An).flatten⟩
theorem info143 : ∃ i z, Try.prog.info? 116 = some i ∧ i.zero = some z ∧ i.size = 3 ∧ i.bytes = 24 ∧ z.cells.size = 3 := info_of 116 3 24 (by kernel_rfl) (by kernel_rfl)
theorem rowM_app (l : List Nm) (x : Nm) (v v' : Value) : rowM (l ++ [x]) v' = ⟨116, 3, (rowM l v).n + 1, v', (rowM l v).xs ++ An x⟩ := by simp [rowM]
def nmX (cl ow : Int) (l : List Int) : List Nm := l.map fun a => (a, cl, ow)
set_option maxRecDepth 100000 in
set_option maxHeartbeats 2000000 in
theorem name_any {w : World} {base c : Nat} {av : Value} {acc : List Nm} {R : List Row} (O : Owns w base ([bx 76 1 c [av], rowM acc av] ++ R)) (hbase : base ≤ w.heap.size) (cl ow : Int) (p : Option Addr) (n k : Nat) (l : List Int) (hn : n = l.length) (hl : acc.length + n ≤ 1000000)
  (hv : ∀ w' av' acc', Owns w' base ([bx 76 1 c [av'], rowM acc' av'] ++ R) → Below base w w' → Sl w' w'.heap.size 1 (qI .u64) (.slice p n k) l) :
  Calls Try.prog 43 #[.int .i64 cl, .int .i64 ow, .slice p n k, .pointer (some ⟨c, 0, .none⟩)] w fun e w' => e = .returned (.tuple #[]) ∧ ∃ av', Owns w' base ([bx 76 1 c [av'], rowM (acc ++ nmX cl ow l) av'] ++ R) ∧ Below base w w' := by
 have HO : Hid (Owns w base ([bx 76 1 c [av], rowM acc av] ++ R)) := O
 have HV : Hid (∀ w' av' acc', Owns w' base ([bx 76 1 c [av'], rowM acc' av'] ++ R) → Below base w w' → Sl w' w'.heap.size 1 (qI .u64) (.slice p n k) l) := hv
 have HN : Hid (n = l.length) := hn
 have hcb : base ≤ c := ((O.own (bx 76 1 c [av]) (by simp)).lt c rfl).1
 clear O hv hn
 go_enter Try.func43, Try.ntmps43
 go_wp2
 go_loopw [11] (fun k11 wr => ∃ (i : Nat), i ≤ n ∧ k11 = .int .i64 i ∧ Hid (∃ av', Owns wr base ([bx 76 1 c [av'], rowM (acc ++ nmX cl ow (l.take i)) av'] ++ R) ∧ Below base w wr)) (fun v _ => (n - intOf v).toNat)
 case atStart => exact ⟨0, by omega, rfl, av, by simpa [nmX] using HO.out, Below.refl _ _⟩
 case round =>
  obtain ⟨i, hi, rfl, HB⟩ := hrel
  obtain ⟨av', hO, hB⟩ := HB.out
  by_cases hin : i < n
  ·have i1 : (i : Int) < n := by omega
   obtain ⟨-, b, o, x, cs, rfl, hbX, hx, rfl, hcl, hr⟩ := (HV.out wr av' _ hO hB).at hin
   have q := hr 0 _ rfl
   rw [Nat.mul_one, Nat.add_zero] at q
   have d1 := hO.cell (t := 76) (k := 1) (b := c) (cs := [av']) (by simp) 0
   rw [show [av'][0]? = some av' from rfl] at d1
   obtain ⟨d1, d2⟩ := d1
   have HE : Hid (acc ++ nmX cl ow (l.take (i + 1)) = acc ++ nmX cl ow (l.take i) ++ [(x, cl, ow)]) := by
    show _ = _
    rw [List.take_add_one, hx]
    simp [nmX]
   have hln : (acc ++ nmX cl ow (l.take i)).length ≤ 10000000 := by simp only [List.length_append, nmX, List.length_map, List.length_take]; omega
   have hbs : base ≤ wr.heap.size := Nat.le_trans hbase hB.size
   have hvv : wr.ownsRow base 116 3 av' (acc ++ nmX cl ow (l.take i)).length _ := hO.own (rowM (acc ++ nmX cl ow (l.take i)) av') (by simp)
   obtain ⟨vp, vc, rfl⟩ := own_form hvv
   obtain ⟨ln, hlneq⟩ : ∃ m, m = (acc ++ nmX cl ow (l.take i)).length := ⟨_, rfl⟩
   rw [← hlneq] at d1 hO
   have HQ : Hid (Owns wr base ([bx 76 1 c [.slice vp ln vc]] ++ (rowM (acc ++ nmX cl ow (l.take i)) (.slice vp ln vc) :: R)) ∧ Below base w wr) := ⟨hO, hB⟩
   clear hO hB hvv hr hcl hx HB hbX hlneq
   go_wp2_with (first
    | (refine wpList_is (.buildSlice 76 1 #[(0, .tmp 19)]) rfl ?_; refine wpList_pushG (A := [bx 76 1 c [.slice vp ln vc]]) (r := rowM (acc ++ nmX cl ow (l.take i)) (.slice vp ln vc)) (B := R) 76 116 3 24 info143 Try.underlying76 (by decide) (by decide) (by decide) HQ.out.1 rfl rfl hln hbs (An (x, cl, ow)) rfl (An_one _) 19 20 (.tmp 15) rfl rfl rfl rfl rfl rfl (some 21) rfl rfl rfl ?_; intro v5 w5 hO5 hB5; have hv5 : w5.ownsRow base 116 3 v5 ((rowM (acc ++ nmX cl ow (l.take i)) (.slice vp ln vc)).n + 1) _ := hO5.own _ (List.mem_append_right _ (List.mem_cons_self ..)); obtain ⟨vp5, vc5, rfl⟩ := own_form hv5; have d3 := hO5.cell (t := 76) (k := 1) (b := c) (cs := [.slice vp ln vc]) (List.mem_append_left _ (by simp)) 0; rw [show [Value.slice vp ln vc][0]? = some (.slice vp ln vc) from rfl] at d3; obtain ⟨d3, d4⟩ := d3)
    | fail)
   clear d1 d2 d3 d4 q
   refine ⟨⟨i + 1, by omega, by go_num, .slice vp5 ((rowM (acc ++ nmX cl ow (l.take i)) (.slice vp ln vc)).n + 1) vc5, ?_, (HQ.out.2.trans hB5).trans (set_bel _ hcb)⟩, by simp [intOf]; omega⟩
   have o6 := Owns.setAt (A := []) (g := c) (j := 0) hO5 (.slice vp5 ((rowM (acc ++ nmX cl ow (l.take i)) (.slice vp ln vc)).n + 1) vc5) rfl rfl (by show 0 < 1; omega)
   rw [HE.out, rowM_app _ _ (.slice vp ln vc)]
   exact o6
  ·have i1 : ¬ (i : Int) < n := by omega
   obtain rfl : i = n := by omega
   have HQ : Hid (Owns wr base ([bx 76 1 c [av'], rowM (acc ++ nmX cl ow l) av'] ++ R) ∧ Below base w wr) := by
    rw [List.take_of_length_le (by have := HN.out; omega)] at hO
    exact ⟨hO, hB⟩
   clear hO hB HB
   go_wp2
   go_end0
   exact ⟨rfl, ⟨av', HQ.out.1⟩, HQ.out.2⟩
end Go.Proofs.Ythopgmmodldljab
