import Derived.Laws.Tables
import Derived.Great.BuildSlice
import Derived.WalkKit
namespace Go.Proofs.YtjbealefopajcaaDoor
open Go
/-! A run of operations that only put values together, reckoned by the kernel in one step. -/
section
variable {P : Program}
theorem wpList_read {ops : Array Oper} {rest : List Oper} {o : Oper} {a : Act} {w : World} {Q : Exit → Act → World → Prop} (hg : o.guard = .none)
    (v : Value) (hrun : (execOp a.eval o).run P w = .ok (.value v) w) (h : wpList P ops Q rest (a.put o.dst v) w) : wpList P ops Q (o :: rest) a w := by
  refine wpList_plain hg fun K hK => ?_
  unfold Oper.wp
  rw [hrun, Oper.upon_value]
  exact hK _ _ h
theorem wpList_indexTo {ops : Array Oper} {rest : List Oper} {o : Oper} {a : Act} {w : World} {Q : Exit → Act → World → Prop} (hg : o.guard = .none)
    (t : TypeId) (x ix : Operand) (ho : o.op = .index t x ix) (v i : Value) (hx : a.eval x = v) (hi : a.eval ix = i) (r : Value) (hrun : (Instr.index t v i).run P w = .ok r w)
    (a' : Act) (ha : a.put o.dst r = a') (h : wpList P ops Q rest a' w) : wpList P ops Q (o :: rest) a w := by
  subst hx hi ha
  refine wpList_read hg r ?_ h
  unfold execOp
  simp only [ho, Sem.run_bind, hrun, Result.andThen_ok]
  rfl
def pureStep (P : Program) (a : Act) (o : Oper) : Option Act :=
  match o.guard, o.op with
  | .none, .build t parts => (P.built t (parts.map fun (i, x) => (i, a.eval x)).toList).map fun cs => a.put o.dst (.agg cs)
  | .none, .move x => some (a.put o.dst (a.eval x))
  | .none, .assign x => some (a.put o.dst (a.eval x))
  | _, _ => .none
def pureRun (P : Program) : List Oper → Act → Option Act
  | [], a => some a
  | o :: r, a => (pureStep P a o).bind (pureRun P r)

theorem wpList_pureStep {ops : Array Oper} {rest : List Oper} {o : Oper} {a a' : Act} {w : World} {Q : Exit → Act → World → Prop}
    (h : pureStep P a o = some a') (hk : wpList P ops Q rest a' w) : wpList P ops Q (o :: rest) a w := by
  unfold pureStep at h
  split at h
  · rename_i t parts hg ho
    obtain ⟨cs, hc, rfl⟩ := Option.map_eq_some_iff.1 h
    exact wpList_build hg t parts ho (by rw [hc]; rfl) (by rw [hc]; exact hk)
  · rename_i x hg ho
    simp only [Option.some.injEq] at h
    subst h
    exact wpList_read hg (a.eval x) (by unfold execOp; rw [ho]; rfl) hk
  · rename_i x hg ho
    simp only [Option.some.injEq] at h
    subst h
    exact wpList_read hg (a.eval x) (by unfold execOp; rw [ho]; rfl) hk
  · cases h

theorem wpList_pureRun {ops : Array Oper} {w : World} {Q : Exit → Act → World → Prop} (rest : List Oper) : ∀ (l : List Oper) (a a' : Act),
    pureRun P l a = some a' → wpList P ops Q rest a' w → wpList P ops Q (l ++ rest) a w
  | [], a, a', h, hk => by
    simp only [pureRun, Option.some.injEq] at h
    subst h
    exact hk
  | o :: l, a, a', h, hk => by
    simp only [pureRun] at h
    obtain ⟨b, hb, hr⟩ := Option.bind_eq_some_iff.1 h
    exact wpList_pureStep hb (wpList_pureRun rest l b a' hr hk)

/-- The first n operations at once. -/
theorem wpList_pure {ops : Array Oper} {all : List Oper} {w : World} {Q : Exit → Act → World → Prop} {a : Act} (n : Nat) (a' : Act)
    (h : pureRun P (all.take n) a = some a') (hk : wpList P ops Q (all.drop n) a' w) : wpList P ops Q all a w := by
  have := wpList_pureRun (ops := ops) (Q := Q) (w := w) (all.drop n) (all.take n) a a' h hk
  rwa [List.take_append_drop] at this

/-- What a slice literal's new block holds. -/
def madeSlice (P : Program) (e : TypeId) (len : Nat) (parts : List (Nat × Value)) : Option (Array Value) :=
  match P.info? e with
  | some ie =>
    match ie.zero with
    | some z => if len * ie.size > 2 ^ 24 ∨ len * ie.size = 0 then .none else Instr.fill (fun i => some (i * ie.size, ie.size)) ((Array.range (len * ie.size)).map (z.cells[· % z.cells.size]!)) parts
    | .none => .none
  | .none => .none
theorem wpList_slice {ops : Array Oper} {rest : List Oper} {o : Oper} {a : Act} {w : World} {Q : Exit → Act → World → Prop} (hg : o.guard = .none) (t e : TypeId) (len : Nat) (parts : Array (Nat × Operand)) (ho : o.op = .buildSlice t len parts)
    (hu : P.underlying t = some (.slice e)) (cells : Array Value) (hf : madeSlice P e len (parts.map fun (i, x) => (i, a.eval x)).toList = some cells)
    (a' : Act) (ha : a.put o.dst (.slice (some ⟨w.heap.size, 0, .none⟩) len len) = a') (h : wpList P ops Q rest a' (w.alloc (.cells cells e))) : wpList P ops Q (o :: rest) a w := by
  subst ha
  unfold madeSlice at hf
  split at hf
  · rename_i ie hie
    split at hf
    · rename_i z hz
      split at hf
      · cases hf
      · rename_i hn
        exact wpList_buildSlice hg t e len parts ho cells ie z hu hie hz (fun h => hn (.inl h)) (fun h => hn (.inr h)) hf h
    · cases hf
  · cases hf
/-- An array's element of one cell. -/
theorem run_index_one (w : World) (t e : TypeId) (n : Nat) (cs : Array Value) (i : Int) (v : Value) (hu : P.underlying t = some (.array n e)) (hs : (P.info? e).map (·.size) = some 1)
    (hag : ∀ w : World, (isAgg e).run P w = .ok false w) (h0 : 0 ≤ i) (h1 : i < n) (hv : cs[i.toNat]? = some v) :
    (Instr.index t (.agg cs) (.int .i64 i)).run P w = .ok v w := by
  cases hq : P.info? e with
  | none => simp [hq] at hs
  | some ie =>
    have hs' : ie.size = 1 := by simpa [hq] using hs
    simp [Instr.index, asIntOf, run_underlying hu, part, sizeOf, typeInfo, hq, hs', h0, h1, hag, hv]
/-- An array's element of several cells. -/
theorem run_index_agg (w : World) (t e : TypeId) (n sz : Nat) (cs : Array Value) (i : Int) (hu : P.underlying t = some (.array n e)) (hs : (P.info? e).map (·.size) = some sz)
    (hag : ∀ w : World, (isAgg e).run P w = .ok true w) (h0 : 0 ≤ i) (h1 : i < n) :
    (Instr.index t (.agg cs) (.int .i64 i)).run P w = .ok (.agg (cs.extract (i.toNat * sz) (i.toNat * sz + sz))) w := by
  cases hq : P.info? e with
  | none => simp [hq] at hs
  | some ie =>
    have hs' : ie.size = sz := by simpa [hq] using hs
    simp [Instr.index, asIntOf, run_underlying hu, part, sizeOf, typeInfo, hq, hs', h0, h1, hag]
end
end Go.Proofs.YtjbealefopajcaaDoor
