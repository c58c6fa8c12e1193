import Derived.Test.YtcjkedgoinbofaaGreatSWalk
import Derived.WalkLawsBesides
import Derived.Defers
import Derived.Recover
namespace Go.Proofs.YtcjkedgoinbofaaGreat
open Go.RowKit
set_option linter.unusedVariables false
set_option linter.unusedSimpArgs false
theorem btr {A B C : World} (h : Below A.heap.size A B) (k : Below B.heap.size B C) : Below A.heap.size A C := h.trans (k.mono h.size)
/-- A trap as a value. -/
def tr (c v : Int) : Value := .agg #[.bool true, .int .u64 c, .int .u64 v]
/-- An instruction that is given up. -/
abbrev up (c v : Int) : Ending := .panicked [{ v := .iface 37 (tr c v), recovered := false }]
theorem trapFor_any (c v : Int) (w : World) : Calls Tryz.prog 72 #[.int .u64 c, .int .u64 v] w fun e w' => e = .returned (tr c v) ∧ Below w.heap.size w w' := by
  go_enter Tryz.func72, Tryz.ntmps72
  go_wp2
  refine bodyPost_ret (v := tr c v) (by simp [results, Tryz.results72, go_sem, tr]) rfl ⟨rfl, ?_⟩
  exact (Below.refl _ _).alloc (Nat.le_refl _) _
theorem giveUp_any (c v : Int) (w : World) : Calls Tryz.prog 132 #[.int .u64 c, .int .u64 v] w fun e w' => e = up c v ∧ Below w.heap.size w w' := by
  go_enter Tryz.func132, Tryz.ntmps132
  go_wp2_with (go_at_call 72; refine (trapFor_any _ _ _).mono ?_; rintro e w0 ⟨rfl, hb⟩)
  exact ⟨rfl, rfl, hb⟩
/-- The causes of one kind of access: 1 fetch, 2 load, 3 store. -/
def cAl (a : Int) : Int := if a = 1 then 0 else if a = 2 then 4 else 6
def cPg (a : Int) : Int := if a = 1 then 12 else if a = 2 then 13 else 15
def cAc (a : Int) : Int := if a = 1 then 1 else if a = 2 then 5 else 7
set_option maxRecDepth 10000 in
theorem causes1 (w : World) : Calls Tryz.prog 133 #[.int .i64 1] w fun e w' => e = .returned (.agg #[.int .u64 0, .int .u64 12, .int .u64 1]) ∧ Below w.heap.size w w' := by
  have i1 : ∀ w : World, (Instr.index 239 (.agg #[.int .u64 0, .int .u64 0, .int .u64 0, .int .u64 0, .int .u64 12, .int .u64 1, .int .u64 4, .int .u64 13, .int .u64 5, .int .u64 6, .int .u64 15, .int .u64 7]) (.int .i64 1)).run Tryz.prog w = .ok (.agg #[.int .u64 0, .int .u64 12, .int .u64 1]) w := fun w => by kernel_rfl
  go_enter Tryz.func133, Tryz.ntmps133
  go_wp2
  refine bodyPost_ret (v := .agg #[.int .u64 0, .int .u64 12, .int .u64 1]) (by simp [results, Tryz.results133, go_sem]) rfl ⟨rfl, ?_⟩
  exact (Below.refl _ _).alloc (Nat.le_refl _) _
set_option maxRecDepth 10000 in
theorem causes2 (w : World) : Calls Tryz.prog 133 #[.int .i64 2] w fun e w' => e = .returned (.agg #[.int .u64 4, .int .u64 13, .int .u64 5]) ∧ Below w.heap.size w w' := by
  have i1 : ∀ w : World, (Instr.index 239 (.agg #[.int .u64 0, .int .u64 0, .int .u64 0, .int .u64 0, .int .u64 12, .int .u64 1, .int .u64 4, .int .u64 13, .int .u64 5, .int .u64 6, .int .u64 15, .int .u64 7]) (.int .i64 2)).run Tryz.prog w = .ok (.agg #[.int .u64 4, .int .u64 13, .int .u64 5]) w := fun w => by kernel_rfl
  go_enter Tryz.func133, Tryz.ntmps133
  go_wp2
  refine bodyPost_ret (v := .agg #[.int .u64 4, .int .u64 13, .int .u64 5]) (by simp [results, Tryz.results133, go_sem]) rfl ⟨rfl, ?_⟩
  exact (Below.refl _ _).alloc (Nat.le_refl _) _
set_option maxRecDepth 10000 in
theorem causes3 (w : World) : Calls Tryz.prog 133 #[.int .i64 3] w fun e w' => e = .returned (.agg #[.int .u64 6, .int .u64 15, .int .u64 7]) ∧ Below w.heap.size w w' := by
  have i1 : ∀ w : World, (Instr.index 239 (.agg #[.int .u64 0, .int .u64 0, .int .u64 0, .int .u64 0, .int .u64 12, .int .u64 1, .int .u64 4, .int .u64 13, .int .u64 5, .int .u64 6, .int .u64 15, .int .u64 7]) (.int .i64 3)).run Tryz.prog w = .ok (.agg #[.int .u64 6, .int .u64 15, .int .u64 7]) w := fun w => by kernel_rfl
  go_enter Tryz.func133, Tryz.ntmps133
  go_wp2
  refine bodyPost_ret (v := .agg #[.int .u64 6, .int .u64 15, .int .u64 7]) (by simp [results, Tryz.results133, go_sem]) rfl ⟨rfl, ?_⟩
  exact (Below.refl _ _).alloc (Nat.le_refl _) _
theorem causes_any (a : Int) (ha : a = 1 ∨ a = 2 ∨ a = 3) (w : World) : Calls Tryz.prog 133 #[.int .i64 a] w fun e w' => e = .returned (.agg #[.int .u64 (cAl a), .int .u64 (cPg a), .int .u64 (cAc a)]) ∧ Below w.heap.size w w' := by
  rcases ha with rfl | rfl | rfl
  · exact causes1 w
  · exact causes2 w
  · exact causes3 w
theorem field208_0 (x y z : Value) (w : World) : (Instr.field 208 (.agg #[x, y, z]) 0).run Tryz.prog w = .ok x w := by kernel_rfl
theorem field208_1 (x y z : Value) (w : World) : (Instr.field 208 (.agg #[x, y, z]) 1).run Tryz.prog w = .ok y w := by kernel_rfl
theorem field208_2 (x y z : Value) (w : World) : (Instr.field 208 (.agg #[x, y, z]) 2).run Tryz.prog w = .ok z w := by kernel_rfl
/-- The memory as a program reaches it: the boxes that the closure has, the RAM. -/
def mm (b0 b1 : Nat) (v : Value) : Value := .agg #[.func (.func 69) #[] #[.pointer (some ⟨b0, 0, .none⟩), .pointer (some ⟨b1, 0, .none⟩)], .func (.func 13) #[v] #[], .func (.func 12) #[v] #[]]
/-- What is known while an instruction is done: nothing that was there has turned, and the boxes have what they had. -/
structure Bx (w W : World) (b0 b1 : Nat) (v : Value) (root : Int) : Prop where
  b : Below w.heap.size w W
  l0 : w.heap.size ≤ b0
  l1 : w.heap.size ≤ b1
  k0 : W.cell? ⟨b0, 0, .none⟩ = some v
  k1 : W.cell? ⟨b1, 0, .none⟩ = some (.int .u64 root)
theorem Bx.below {w W W' : World} {b0 b1 : Nat} {v : Value} {root : Int} (h : Bx w W b0 b1 v root) (k : Below W.heap.size W W') : Bx w W' b0 b1 v root :=
  ⟨h.b.trans (k.mono h.b.size), h.l0, h.l1, (k.cell (lt_of_cell h.k0)).trans h.k0, (k.cell (lt_of_cell h.k1)).trans h.k1⟩
section
variable {w W : World} {b0 b1 : Nat} {v : Value} {root : Int}
/-- What Translate answers, wherever no block of w has turned. -/
def Tra (w : World) (v : Value) (root va a pa : Int) (ok : Bool) : Prop := ∀ W, Below w.heap.size w W → Calls Tryz.prog 18 #[v, .int .u64 root, .int .u64 va, .int .i64 a] W fun e w' => e = .returned (.tuple #[.int .u64 pa, .bool ok]) ∧ Below W.heap.size W w'
theorem find_any (h : Bx w W b0 b1 v root) {va a pa : Int} {ok : Bool} (t : Tra w v root va a pa ok) : Calls Tryz.prog 69 #[.int .u64 va, .int .i64 a, .pointer (some ⟨b0, 0, .none⟩), .pointer (some ⟨b1, 0, .none⟩)] W fun e w' => e = .returned (.tuple #[.int .u64 pa, .bool ok]) ∧ Below W.heap.size W w' := by
  have c := t W h.b
  have k0 := h.k0
  have k1 := h.k1
  clear h t
  go_enter Tryz.func69, Tryz.ntmps69
  go_wp2_with (go_at_call 18; refine c.mono ?_; rintro e w0 ⟨rfl, hb⟩)
  go_ret2
  exact ⟨rfl, hb⟩
end
end Go.Proofs.YtcjkedgoinbofaaGreat
