import Derived.Test.YtnghcadhilfgnaaBad
import Derived.Laws.Tables
import Derived.Great.BuildSlice
import Derived.WalkKit
import Derived.Test.YtnghcadhilfgnaaRows
import Derived.WalkSpells
import Derived.RowKit3
import Derived.Deep.Cut
import Derived.LoopTactic
import Derived.Below
import Derived.Laws.NewBlocks
import Derived.Deep.QuietTactic
import Derived.BigQuiet
import Derived.WalkSmall
import Derived.RegionTactic
import Derived.BigRegion
import Derived.Deep.RegionLawGrows
import Derived.Lib.SmallJoins
import Derived.Deep.RegionHeld3
import Derived.Deep.RegionWith
import Derived.Laws.AppendOwn
namespace Go.Proofs.Ytnghcadhilfgnaa
open Go.RowKit
set_option linter.unusedVariables false
set_option linter.unusedSimpArgs false
theorem over_in (B : Nat → Int) (o : Nat) (vs : List Int) (k : Nat) (h : k < vs.length) : over B o vs (o + k) = vs.getD k 0 := by
  unfold over
  rw [if_pos (by omega), show o + k - o = k by omega]
theorem over_out (B : Nat → Int) (o : Nat) (vs : List Int) (j : Nat) (h : j < o ∨ o + vs.length ≤ j) : over B o vs j = B j := by
  unfold over
  rw [if_neg (by omega)]
theorem over_le (B : Nat → Int) (o : Nat) (v : Int) (n k : Nat) (h : k < n) : over B o (le v n) (o + k) = v / 256 ^ k % 256 := by
  rw [over_in B o (le v n) k (by rw [le_len]; exact h), le_get v n k h]
theorem num_le (B : Nat → Int) (o : Nat) (v : Int) (n : Nat) : ∀ k, k ≤ n → num (over B o (le v n)) o k = md v k := by
  intro k
  induction k with
  | zero => intro _; rw [md_zero]; rfl
  | succ k ih => intro hk; rw [md_step]; simp only [num]; rw [ih (by omega), over_le B o v n k (by omega), Int.mul_comm]
theorem hdL_ok (N : Nat) (L : List Nat) (o n : Nat) (h : ∀ f, o / 4096 ≤ f → f * 4096 < o + n → f < N ∧ f ∉ L) : ∀ f : Nat, o / 4096 ≤ f → f * 4096 < o + n → hdL N L (2147483648 + f * 4096) = true := fun f h1 h2 => by
  rw [hdL_addr N L f (h f h1 h2).1]
  simp [(h f h1 h2).2]
theorem u64_not (v : Int) (hv : 0 ≤ v ∧ v < 18446744073709551616) : 0 ≤ bits .xor .u64 IntKind.u64.max v ∧ bits .xor .u64 IntKind.u64.max v < 18446744073709551616 := by
  have e : bits .xor .u64 IntKind.u64.max v = IntKind.u64.wrap (((BitVec.ofInt 64 IntKind.u64.max ^^^ BitVec.ofInt 64 v).toNat : Nat) : Int) := rfl
  rw [e, IntKind.wrap_u64]
  omega
theorem and_mask (i : Nat) (hi : i ≤ 64) (v : Int) (hv : 0 ≤ v ∧ v < 18446744073709551616) : bits .and .u64 v (2 ^ i - 1) = v % 2 ^ i :=
  bits_mask .u64 64 (by decide) wraps_u64 i hi v hv.1 hv.2
end Go.Proofs.Ytnghcadhilfgnaa
namespace Go.Proofs.Ytnghcadhilfgnaa
open Go
/-! A run of operations that only put values together, reckoned by the kernel in one step. -/
section
variable {P : Program}
theorem wpList_read {ops : Array Oper} {rest : List Oper} {o : Oper} {a : Act} {w : World} {Q : Exit → Act → World → Prop} (hg : o.guard = .none)
    (v : Value) (hrun : (execOp a.eval o).run P w = .ok (.value v) w) (h : wpList P ops Q rest (a.put o.dst v) w) : wpList P ops Q (o :: rest) a w := by
  refine wpList_plain hg fun K hK => ?_
  unfold Oper.wp
  rw [hrun, Oper.upon_value]
  exact hK _ _ h
theorem wpList_indexTo {ops : Array Oper} {rest : List Oper} {o : Oper} {a : Act} {w : World} {Q : Exit → Act → World → Prop} (hg : o.guard = .none)
    (t : TypeId) (x ix : Operand) (ho : o.op = .index t x ix) (v i : Value) (hx : a.eval x = v) (hi : a.eval ix = i) (r : Value) (hrun : (Instr.index t v i).run P w = .ok r w)
    (a' : Act) (ha : a.put o.dst r = a') (h : wpList P ops Q rest a' w) : wpList P ops Q (o :: rest) a w := by
  subst hx hi ha
  refine wpList_read hg r ?_ h
  unfold execOp
  simp only [ho, Sem.run_bind, hrun, Result.andThen_ok]
  rfl
def pureStep (P : Program) (a : Act) (o : Oper) : Option Act :=
  match o.guard, o.op with
  | .none, .build t parts => (P.built t (parts.map fun (i, x) => (i, a.eval x)).toList).map fun cs => a.put o.dst (.agg cs)
  | .none, .move x => some (a.put o.dst (a.eval x))
  | .none, .assign x => some (a.put o.dst (a.eval x))
  | _, _ => .none
def pureRun (P : Program) : List Oper → Act → Option Act
  | [], a => some a
  | o :: r, a => (pureStep P a o).bind (pureRun P r)

theorem wpList_pureStep {ops : Array Oper} {rest : List Oper} {o : Oper} {a a' : Act} {w : World} {Q : Exit → Act → World → Prop}
    (h : pureStep P a o = some a') (hk : wpList P ops Q rest a' w) : wpList P ops Q (o :: rest) a w := by
  unfold pureStep at h
  split at h
  · rename_i t parts hg ho
    obtain ⟨cs, hc, rfl⟩ := Option.map_eq_some_iff.1 h
    exact wpList_build hg t parts ho (by rw [hc]; rfl) (by rw [hc]; exact hk)
  · rename_i x hg ho
    simp only [Option.some.injEq] at h
    subst h
    exact wpList_read hg (a.eval x) (by unfold execOp; rw [ho]; rfl) hk
  · rename_i x hg ho
    simp only [Option.some.injEq] at h
    subst h
    exact wpList_read hg (a.eval x) (by unfold execOp; rw [ho]; rfl) hk
  · cases h

theorem wpList_pureRun {ops : Array Oper} {w : World} {Q : Exit → Act → World → Prop} (rest : List Oper) : ∀ (l : List Oper) (a a' : Act),
    pureRun P l a = some a' → wpList P ops Q rest a' w → wpList P ops Q (l ++ rest) a w
  | [], a, a', h, hk => by
    simp only [pureRun, Option.some.injEq] at h
    subst h
    exact hk
  | o :: l, a, a', h, hk => by
    simp only [pureRun] at h
    obtain ⟨b, hb, hr⟩ := Option.bind_eq_some_iff.1 h
    exact wpList_pureStep hb (wpList_pureRun rest l b a' hr hk)

/-- The first n operations at once. -/
theorem wpList_pure {ops : Array Oper} {all : List Oper} {w : World} {Q : Exit → Act → World → Prop} {a : Act} (n : Nat) (a' : Act)
    (h : pureRun P (all.take n) a = some a') (hk : wpList P ops Q (all.drop n) a' w) : wpList P ops Q all a w := by
  have := wpList_pureRun (ops := ops) (Q := Q) (w := w) (all.drop n) (all.take n) a a' h hk
  rwa [List.take_append_drop] at this

/-- What a slice literal's new block holds. -/
def madeSlice (P : Program) (e : TypeId) (len : Nat) (parts : List (Nat × Value)) : Option (Array Value) :=
  match P.info? e with
  | some ie =>
    match ie.zero with
    | some z => if len * ie.size > 2 ^ 24 ∨ len * ie.size = 0 then .none else Instr.fill (fun i => some (i * ie.size, ie.size)) ((Array.range (len * ie.size)).map (z.cells[· % z.cells.size]!)) parts
    | .none => .none
  | .none => .none
theorem wpList_slice {ops : Array Oper} {rest : List Oper} {o : Oper} {a : Act} {w : World} {Q : Exit → Act → World → Prop} (hg : o.guard = .none) (t e : TypeId) (len : Nat) (parts : Array (Nat × Operand)) (ho : o.op = .buildSlice t len parts)
    (hu : P.underlying t = some (.slice e)) (cells : Array Value) (hf : madeSlice P e len (parts.map fun (i, x) => (i, a.eval x)).toList = some cells)
    (a' : Act) (ha : a.put o.dst (.slice (some ⟨w.heap.size, 0, .none⟩) len len) = a') (h : wpList P ops Q rest a' (w.alloc (.cells cells e))) : wpList P ops Q (o :: rest) a w := by
  subst ha
  unfold madeSlice at hf
  split at hf
  · rename_i ie hie
    split at hf
    · rename_i z hz
      split at hf
      · cases hf
      · rename_i hn
        exact wpList_buildSlice hg t e len parts ho cells ie z hu hie hz (fun h => hn (.inl h)) (fun h => hn (.inr h)) hf h
    · cases hf
  · cases hf
/-- An array's element of one cell. -/
theorem run_index_one (w : World) (t e : TypeId) (n : Nat) (cs : Array Value) (i : Int) (v : Value) (hu : P.underlying t = some (.array n e)) (hs : (P.info? e).map (·.size) = some 1)
    (hag : ∀ w : World, (isAgg e).run P w = .ok false w) (h0 : 0 ≤ i) (h1 : i < n) (hv : cs[i.toNat]? = some v) :
    (Instr.index t (.agg cs) (.int .i64 i)).run P w = .ok v w := by
  cases hq : P.info? e with
  | none => simp [hq] at hs
  | some ie =>
    have hs' : ie.size = 1 := by simpa [hq] using hs
    simp [Instr.index, asIntOf, run_underlying hu, part, sizeOf, typeInfo, hq, hs', h0, h1, hag, hv]
/-- An array's element of several cells. -/
theorem run_index_agg (w : World) (t e : TypeId) (n sz : Nat) (cs : Array Value) (i : Int) (hu : P.underlying t = some (.array n e)) (hs : (P.info? e).map (·.size) = some sz)
    (hag : ∀ w : World, (isAgg e).run P w = .ok true w) (h0 : 0 ≤ i) (h1 : i < n) :
    (Instr.index t (.agg cs) (.int .i64 i)).run P w = .ok (.agg (cs.extract (i.toNat * sz) (i.toNat * sz + sz))) w := by
  cases hq : P.info? e with
  | none => simp [hq] at hs
  | some ie =>
    have hs' : ie.size = sz := by simpa [hq] using hs
    simp [Instr.index, asIntOf, run_underlying hu, part, sizeOf, typeInfo, hq, hs', h0, h1, hag]
end
end Go.Proofs.Ytnghcadhilfgnaa
namespace Go.Proofs.Ytnghcadhilfgnaa
open Go.RowKit
set_option linter.unusedVariables false
set_option linter.unusedSimpArgs false
theorem bseq {W a b : World} (h : Below W.heap.size W a) (k : Below a.heap.size a b) : Below W.heap.size W b := h.trans (k.mono h.size)
theorem below_past (w : World) (b : Obj) : Below w.heap.size w (w.alloc b) := (Below.refl _ _).alloc (Nat.le_refl _) _
theorem run_store_func (P : Program) (w : World) (a : Addr) (f : Fn) (c d : Array Value) (m : Mode) (hc : (w.cell? a).isSome = true) (hf : w.frozen? a = false) :
    (store a (.func f c d) m).run P w = .ok () (w.setCell a (.func f c d)) := by
  obtain ⟨u, hu⟩ := Option.isSome_iff_exists.1 hc
  rw [run_store P w a (.func f c d) m rfl, hu]
  simp [hf]
theorem run_store_nilFunc (P : Program) (w : World) (a : Addr) (m : Mode) (hc : (w.cell? a).isSome = true) (hf : w.frozen? a = false) :
    (store a .nilFunc m).run P w = .ok () (w.setCell a .nilFunc) := by
  obtain ⟨u, hu⟩ := Option.isSome_iff_exists.1 hc
  rw [run_store P w a .nilFunc m rfl, hu]
  simp [hf]
attribute [local go_sem] run_store_func run_store_nilFunc
theorem bel4 {w wr : World} (h : Below w.heap.size w wr) (a b c d : Value) : Below w.heap.size w ((((wr.setCell ⟨w.heap.size, 0, .none⟩ a).setCell ⟨w.heap.size, 1, .none⟩ b).setCell ⟨w.heap.size, 2, .none⟩ c).setCell ⟨w.heap.size, 3, .none⟩ d) :=
  (((h.setCell (Nat.le_refl _) _).setCell (Nat.le_refl _) _).setCell (Nat.le_refl _) _).setCell (Nat.le_refl _) _
end Go.Proofs.Ytnghcadhilfgnaa
namespace Go.Proofs.Ytnghcadhilfgnaa
open Go.RowKit
set_option linter.unusedVariables false
def ramB : ByteArray := ⟨#[114, 97, 109]⟩
def FaultIn (w' : World) (B : Nat) (v : Value) (a r : Int) : Prop :=
  ∃ b, B ≤ b ∧ b < w'.heap.size ∧ v = .iface 97 (.pointer (some ⟨b, 0, .none⟩)) ∧ w'.cell? ⟨b, 0, .none⟩ = some (.string ramB) ∧ w'.cell? ⟨b, 1, .none⟩ = some (.int .i64 a) ∧ w'.cell? ⟨b, 2, .none⟩ = some (.iface 51 (.int .i64 r))
theorem faultIn_new (w : World) (B : Nat) (a r : Int) (h : B ≤ w.heap.size) : FaultIn (w.alloc (.cells #[.string ramB, .int .i64 a, .iface 51 (.int .i64 r)] 99)) B (.iface 97 (.pointer (some ⟨w.heap.size, 0, .none⟩))) a r :=
  ⟨w.heap.size, h, by simp, rfl, by simp, by simp, by simp⟩
theorem faultIn_keep {W w' : World} {B : Nat} {v : Value} {a r : Int} (h : Below W.heap.size W w') (hF : FaultIn W B v a r) : FaultIn w' 0 v a r := by
  obtain ⟨b, _, hb, hv, f0, f1, f2⟩ := hF
  exact ⟨b, Nat.zero_le _, Nat.lt_of_lt_of_le hb h.size, hv, (h.cell hb).trans f0, (h.cell hb).trans f1, (h.cell hb).trans f2⟩
theorem two_of (x y : Value) (Z : Array Value) : (#[x, y] ++ Z)[0]? = some x ∧ (#[x, y] ++ Z)[1]? = some y := by
  constructor <;> simp [Array.getElem?_append]
end Go.Proofs.Ytnghcadhilfgnaa
namespace Go.Proofs.Ytnghcadhilfgnaa
open Go.RowKit
set_option linter.unusedVariables false
end Go.Proofs.Ytnghcadhilfgnaa
namespace Go.Proofs.Ytnghcadhilfgnaa
open Go.RowKit
set_option linter.unusedVariables false
def Row2 (w : World) (b : Nat) (c0 c1 : Value) : Prop := w.cell? ⟨b, 0, .none⟩ = some c0 ∧ w.cell? ⟨b, 1, .none⟩ = some c1
theorem row2_keep {B : Nat} {W w' : World} {b : Nat} {c0 c1 : Value} (h : Below B W w') (hb : b < B) (k : Row2 W b c0 c1) : Row2 w' b c0 c1 := ⟨(h.cell hb).trans k.1, (h.cell hb).trans k.2⟩
theorem row2_new (w : World) (c0 c1 : Value) (t : TypeId) : Row2 (w.alloc (.cells #[c0, c1] t)) w.heap.size c0 c1 := ⟨by simp, by simp⟩
/-- The document's fault, as its functions hand it on. -/
def NoIn (w : World) (v : Value) (r : Int) : Prop := ∃ B, B < w.heap.size ∧ v = .agg #[.slice (some ⟨B, 0, .none⟩) 1 1, .int .i64 r] ∧ w.cell? ⟨B, 0, .none⟩ = some (.string ramB) ∧ w.cell? ⟨B, 1, .none⟩ = some (.int .i64 0)
theorem noIn_keep {W w' : World} {v : Value} {r : Int} (h : Below W.heap.size W w') (k : NoIn W v r) : NoIn w' v r := by
  obtain ⟨B, hB, hv, c0, c1⟩ := k
  exact ⟨B, Nat.lt_of_lt_of_le hB h.size, hv, (h.cell hB).trans c0, (h.cell hB).trans c1⟩
end Go.Proofs.Ytnghcadhilfgnaa
namespace Go.Proofs.Ytnghcadhilfgnaa
open Go.RowKit
set_option linter.unusedVariables false
set_option linter.unusedSimpArgs false
theorem fault_any (a r : Int) (w : World) :
    Calls Try.prog 40 #[.int .i64 a, .int .i64 r] w fun e w' => (∃ v, e = .returned v ∧ FaultIn w' w.heap.size v a r) ∧ Below w.heap.size w w' := by
  go_enter Try.func40, Try.ntmps40
  go_wp2
  go_ret
  exact ⟨⟨_, rfl, faultIn_new w w.heap.size a r (Nat.le_refl _)⟩, below_past _ _⟩
/-- The document's fault, with a place. -/
def LFault (w : World) (v : Value) (a r : Int) : Prop := ∃ B, B < w.heap.size ∧ v = .agg #[.slice (some ⟨B, 0, .none⟩) 1 1, .int .i64 r] ∧ w.cell? ⟨B, 0, .none⟩ = some (.string ramB) ∧ w.cell? ⟨B, 1, .none⟩ = some (.int .i64 a)
theorem LFault.below {W w' : World} {v : Value} {a r : Int} (h : Below W.heap.size W w') (k : LFault W v a r) : LFault w' v a r := by
  obtain ⟨B, hB, e, c0, c1⟩ := k
  exact ⟨B, Nat.lt_of_lt_of_le hB h.size, e, (h.cell hB).trans c0, (h.cell hB).trans c1⟩
theorem FaultIn.below {W w' : World} {k : Nat} {v : Value} {a r : Int} (h : Below W.heap.size W w') (f : FaultIn W k v a r) : FaultIn w' k v a r := by
  obtain ⟨b, h1, h2, rfl, c0, c1, c2⟩ := f
  exact ⟨b, h1, Nat.lt_of_lt_of_le h2 h.size, rfl, (h.cell h2).trans c0, (h.cell h2).trans c1, (h.cell h2).trans c2⟩
set_option maxHeartbeats 1000000 in
theorem new_bad (n : Int) (h : ¬ (1 ≤ n ∧ n ≤ 4096)) (w : World) : Calls Try.prog 13 #[.int .i64 n] w fun e w' => (∃ v, e = .returned (.tuple #[.pointer .none, v]) ∧ FaultIn w' w.heap.size v 0 60) ∧ Below w.heap.size w w' := by
  have c := mayHave_any n w
  rw [show decide (1 ≤ n ∧ n ≤ 4096) = false by simpa using h] at c
  have c1 := fault_any 0 60 w
  go_enter Try.func13, Try.ntmps13
  go_wp2_with (first | (go_at_call 39; refine c.mono ?_; rintro e w0 ⟨rfl, rfl⟩) | (go_at_call 40; refine c1.mono ?_; rintro e w1 ⟨⟨v, rfl, hF⟩, hB⟩))
  go_ret2
  exact ⟨⟨v, rfl, hF⟩, hB⟩
theorem num_congr (B B' : Nat → Int) (o : Nat) : ∀ n, (∀ k, k < n → B (o + k) = B' (o + k)) → num B o n = num B' o n
  | 0, _ => rfl
  | n + 1, h => by
    simp only [num]
    rw [num_congr B B' o n (fun k hk => h k (by omega)), h n (by omega)]
theorem newB_tramp (k : Nat) : num (newB k) 0 4 = 270532723 := by
  rw [num_congr (newB k) (newB 0) 0 4 (fun j hj => newB_first k _ (by omega))]
  exact (num_le (fun _ => 0) 0 270532723 4 4 (by omega)).trans rfl
theorem newB_zero (k : Nat) : num (newB k) 4 8 = 0 := by
  rw [num_congr (newB k) (fun _ => 0) 4 8 (fun j hj => (newB_first k _ (by omega)).trans (over_out _ _ _ _ (by rw [le_len]; omega)))]
  rfl
end Go.Proofs.Ytnghcadhilfgnaa
namespace Go.Proofs.Ytnghcadhilfgnaa
open Go.RowKit
set_option linter.unusedVariables false
set_option linter.unusedSimpArgs false
/-- What the book holds: a frame's number, a place, a number. -/
abbrev Ent := Nat × Int × Int
def pa (x : Ent) : Int := 2147483648 + x.1 * 4096
structure RowM (w : World) (g : Nat) (l : List Ent) : Prop where
  c0 : ∀ i (h : i < l.length), w.cell? ⟨g, i * 3, .none⟩ = some (.int .u64 (pa l[i]))
  c1 : ∀ i (h : i < l.length), w.cell? ⟨g, i * 3 + 1, .none⟩ = some (.int .u64 l[i].2.1)
  c2 : ∀ i (h : i < l.length), w.cell? ⟨g, i * 3 + 2, .none⟩ = some (.int .u64 l[i].2.2)
def HasM (w : World) (q : Option Addr) (l : List Ent) : Prop := l.length = 0 ∨ ∃ g, q = some ⟨g, 0, .none⟩ ∧ g < w.heap.size ∧ RowM w g l
theorem HasM.below {w w' : World} {q : Option Addr} {l : List Ent} (h : HasM w q l) (b : Below w.heap.size w w') : HasM w' q l := by
  rcases h with h | ⟨g, e, hg, r⟩
  · exact .inl h
  · exact .inr ⟨g, e, Nat.lt_of_lt_of_le hg b.size, fun i h => (b.cell hg).trans (r.c0 i h), fun i h => (b.cell hg).trans (r.c1 i h), fun i h => (b.cell hg).trans (r.c2 i h)⟩
/-- What the book says of the memory. -/
structure Kp (B : Nat → Int) (x : Ent) : Prop where
  a0 : 0 ≤ x.2.1
  a1 : x.2.1 < 4096
  a8 : x.2.1 % 8 = 0
  v0 : 0 ≤ x.2.2 ∧ x.2.2 < 18446744073709551616
  at_ : num B (x.1 * 4096 + x.2.1.toNat) 8 = x.2.2
  nx : num B (x.1 * 4096 + ((x.2.1 + 8) % 4096).toNat) 8 = 0
end Go.Proofs.Ytnghcadhilfgnaa
namespace Go.Proofs.Ytnghcadhilfgnaa
open Go.RowKit
set_option linter.unusedVariables false
set_option linter.unusedSimpArgs false
structure Full (B : Nat → Int) (x : Ent) : Prop where
  a0 : 0 ≤ x.2.1
  a1 : x.2.1 < 4096
  a8 : x.2.1 % 8 = 0
  v0 : 0 ≤ x.2.2 ∧ x.2.2 < 18446744073709551616
  at_ : ∀ k, k < 8 → B (x.1 * 4096 + x.2.1.toNat + k) = x.2.2 / 256 ^ k % 256
  ze : ∀ k, k < 4096 → (k < x.2.1.toNat ∨ x.2.1.toNat + 8 ≤ k) → B (x.1 * 4096 + k) = 0
theorem num_zero (o : Nat) : ∀ n, num (fun _ => 0) o n = 0
  | 0 => rfl
  | n + 1 => by simp only [num, num_zero o n]; omega
theorem Full.kp {B : Nat → Int} {x : Ent} (h : Full B x) : Kp B x := by
  have e0 := h.a0
  have e1 := h.a1
  have e8 := h.a8
  refine ⟨h.a0, h.a1, h.a8, h.v0, num_jb B _ _ h.v0 h.at_, ?_⟩
  rw [num_congr B (fun _ => 0) _ 8 (fun k hk => ?_), num_zero]
  have := h.ze (((x.2.1 + 8) % 4096).toNat + k) (by omega) (by omega)
  rw [← Nat.add_assoc] at this
  exact this
theorem Full.congr {B B' : Nat → Int} {x : Ent} (h : Full B x) (e : ∀ k, k < 4096 → B' (x.1 * 4096 + k) = B (x.1 * 4096 + k)) : Full B' x := by
  have e0 := h.a0
  have e1 := h.a1
  have e8 := h.a8
  refine ⟨h.a0, h.a1, h.a8, h.v0, fun k hk => ?_, fun k hk hz => (e k hk).trans (h.ze k hk hz)⟩
  have := e (x.2.1.toNat + k) (by omega)
  rw [← Nat.add_assoc] at this
  exact this.trans (h.at_ k hk)
/-- A number is laid where nothing else was. -/
theorem Full.lay {B : Nat → Int} (i : Nat) (T v : Int) (hT : 0 ≤ T) (hT1 : T < 4096) (hT8 : T % 8 = 0) (hv : 0 ≤ v ∧ v < 18446744073709551616) (hz : ∀ k, k < 4096 → (k < T.toNat ∨ T.toNat + 8 ≤ k) → B (i * 4096 + k) = 0) :
    Full (over B (i * 4096 + T.toNat) (le v 8)) (i, T, v) := by
  refine ⟨hT, hT1, hT8, hv, fun k hk => over_le _ _ _ 8 k hk, fun k hk hz' => ?_⟩
  show over B (i * 4096 + T.toNat) (le v 8) (i * 4096 + k) = 0
  rw [over_out _ _ _ _ (by rw [le_len]; simp only at hz'; omega)]
  exact hz k hk hz'
theorem over_other (B : Nat → Int) (i j : Nat) (T : Nat) (v : Int) (hT : T + 8 ≤ 4096) (hij : j ≠ i) (k : Nat) (hk : k < 4096) : over B (i * 4096 + T) (le v 8) (j * 4096 + k) = B (j * 4096 + k) :=
  over_out _ _ _ _ (by rw [le_len]; omega)
/-- The book's cells. -/
def flat : List Ent → List Value
  | [] => []
  | x :: l => .int .u64 (pa x) :: .int .u64 x.2.1 :: .int .u64 x.2.2 :: flat l
theorem flat_len : ∀ l : List Ent, (flat l).length = l.length * 3
  | [] => rfl
  | x :: l => by simp only [flat, List.length_cons, flat_len l]; omega
theorem flat_append : ∀ (l : List Ent) (x : Ent), flat (l ++ [x]) = flat l ++ [.int .u64 (pa x), .int .u64 x.2.1, .int .u64 x.2.2]
  | [], x => rfl
  | y :: l, x => by simp only [List.cons_append, flat, flat_append l x]
theorem flat_get : ∀ (l : List Ent) (i : Nat) (h : i < l.length), (flat l)[i * 3]? = some (.int .u64 (pa l[i])) ∧ (flat l)[i * 3 + 1]? = some (.int .u64 l[i].2.1) ∧ (flat l)[i * 3 + 2]? = some (.int .u64 l[i].2.2)
  | x :: l, 0, _ => ⟨rfl, rfl, rfl⟩
  | x :: l, i + 1, h => by
    have := flat_get l i (by simpa using h)
    simp only [flat, List.getElem_cons_succ]
    rw [show (i + 1) * 3 = i * 3 + 1 + 1 + 1 by omega, show i * 3 + 1 + 1 + 1 + 1 = i * 3 + 1 + 1 + 1 + 1 from rfl, show i * 3 + 1 + 1 + 1 + 2 = i * 3 + 2 + 1 + 1 + 1 by omega]
    simp only [List.getElem?_cons_succ]
    exact this
theorem flat_set : ∀ (l : List Ent) (k : Nat) (x : Ent) (h : k < l.length), (((flat l).set (k * 3) (.int .u64 (pa x))).set (k * 3 + 1) (.int .u64 x.2.1)).set (k * 3 + 2) (.int .u64 x.2.2) = flat (l.set k x)
  | y :: l, 0, x, _ => rfl
  | y :: l, k + 1, x, h => by
    have := flat_set l k x (by simpa using h)
    rw [show (k + 1) * 3 = k * 3 + 1 + 1 + 1 by omega, show k * 3 + 1 + 1 + 1 + 2 = k * 3 + 2 + 1 + 1 + 1 by omega]
    simp only [flat, List.set_cons_succ]
    rw [this]
theorem flat_set2 (l : List Ent) (k : Nat) (x : Ent) (h : k < l.length) (h0 : x.1 = l[k].1) (h1 : x.2.1 = l[k].2.1) : (flat l).set (k * 3 + 2) (.int .u64 x.2.2) = flat (l.set k x) := by
  rw [← flat_set l k x h]
  have g := flat_get l k h
  have hp : pa x = pa l[k] := by unfold pa; rw [h0]
  have hl := flat_len l
  have e0 : (flat l).set (k * 3) (.int .u64 (pa x)) = flat l := by
    apply List.ext_getElem?
    intro j
    rw [List.getElem?_set]
    split
    · rename_i e
      subst e
      rw [hp]
      split
      · exact g.1.symm
      · omega
    · rfl
  have e1 : (flat l).set (k * 3 + 1) (.int .u64 x.2.1) = flat l := by
    apply List.ext_getElem?
    intro j
    rw [List.getElem?_set]
    split
    · rename_i e
      subst e
      rw [h1]
      split
      · exact g.2.1.symm
      · omega
    · rfl
  rw [e0, e1]
theorem flat_take : ∀ (l : List Ent) (n : Nat), (flat l).take (n * 3) = flat (l.take n)
  | [], n => by simp [flat]
  | x :: l, 0 => by simp [flat]
  | x :: l, n + 1 => by
    rw [show (n + 1) * 3 = n * 3 + 1 + 1 + 1 by omega]
    simp only [flat, List.take_succ_cons, flat_take l n]
section
variable {w w' : World} {p b m N X : Nat} {B : Nat → Int} {L : List Nat}
theorem owns_fra {e s n : Nat} {v : Value} {xs : List Value} (h : w.ownsRow X e s v n xs) (F : Fra p b m w w') (h1 : p < X) (h2 : b < X) (h3 : m < X) : w'.ownsRow X e s v n xs := by
  refine ⟨h.1, ?_⟩
  rcases h.2 with h0 | ⟨g, cap, cur, hv, hg, hh, r⟩
  · exact .inl h0
  · exact .inr ⟨g, cap, cur, hv, hg, (F.block g (Array.getElem?_eq_some_iff.1 hh).1 (by omega) (by omega) (by omega)).trans hh, r⟩
theorem owns_below {e s n : Nat} {v : Value} {xs : List Value} (h : w.ownsRow X e s v n xs) (k : Below w.heap.size w w') : w'.ownsRow X e s v n xs :=
  h.kept (row := none) ⟨k.os, k.tape, k.output, k.size, fun b hb _ => k.block b hb⟩ (by cases v.ownBlock <;> simp)
theorem Mem.grown {nx : Int} {hd : Int → Bool} {cnt : Nat} (h : Mem w p b m N B nx hd cnt) {row : Option Nat} (g : w.grownBy w' row) (hr : ∀ k, row = some k → X ≤ k) (h1 : p < X) (h2 : b < X) (h3 : m < X) : Mem w' p b m N B nx hd cnt :=
  h.keep (g.block _ h.plt (fun e => by have := hr _ e.symm; omega)) (g.block _ h.blt (fun e => by have := hr _ e.symm; omega)) (g.block _ h.mlt (fun e => by have := hr _ e.symm; omega))
theorem Ram.mem' (h : Ram w p b m N B L) (hm : Mem w' p b m N B (adr L) (hdL N L) (N - L.length)) : Ram w' p b m N B L := ⟨hm, h.nd, h.lt, h.thr⟩
theorem Ram.laid (h : Ram w p b m N B L) {o : Nat} {vs : List Int} (hm : Mem w' p b m N (over B o vs) (adr L) (hdL N L) (N - L.length)) (hf : ∀ j ∈ L, o + vs.length ≤ j * 4096 ∨ j * 4096 + 4096 ≤ o) : Ram w' p b m N (over B o vs) L :=
  ⟨hm, h.nd, h.lt, h.thr.congr (fun j hj k hk => over_out _ _ _ _ (by have := hf j hj; omega))⟩
/-- A shorter row. -/
theorem owns_cut {e s n c k : Nat} {g : Nat} {xs : List Value} (h : w.ownsRow X e s (.slice (some ⟨g, 0, .none⟩) n c) n xs) (hk : k ≤ n) : w.ownsRow X e s (.slice (some ⟨g, 0, .none⟩) k c) k (xs.take (k * s)) := by
  rcases h.2 with ⟨h0, _⟩ | ⟨g', cap, cur, hv, hg, hh, hn, hc, hs, ht⟩
  · cases h0
  · injection hv with e1 e2 e3
    injection e1 with e1
    injection e1 with e1
    subst e1 e3
    have hks : k * s ≤ n * s := Nat.mul_le_mul_right s hk
    refine ⟨by rw [List.length_take, h.1]; omega, .inr ⟨g, c, cur, rfl, hg, hh, by omega, hc, hs, ?_⟩⟩
    rw [← ht, List.take_take, Nat.min_eq_left hks]
/-- A cell of a row is written. -/
theorem owns_set {e s n c j : Nat} {g : Nat} {xs : List Value} {v : Value} (h : w.ownsRow X e s (.slice (some ⟨g, 0, .none⟩) n c) n xs) (hj : j < n * s) : (w.setCell ⟨g, j, .none⟩ v).ownsRow X e s (.slice (some ⟨g, 0, .none⟩) n c) n (xs.set j v) := by
  rcases h.2 with ⟨h0, _⟩ | ⟨g', cap, cur, hv, hg, hh, hn, hc, hs, ht⟩
  · cases h0
  · injection hv with e1 e2 e3
    injection e1 with e1
    injection e1 with e1
    subst e1 e3
    refine ⟨by rw [List.length_set]; exact h.1, .inr ⟨g, c, cur.setIfInBounds j v, rfl, hg, ?_, hn, hc, by simpa using hs, ?_⟩⟩
    · rw [setCell_eq_setRow w g j cur e (0, 0) v hh]
      exact setRow_heap w g cur _ e _ hh
    · rw [Array.toList_setIfInBounds, List.take_set, ht]
end
end Go.Proofs.Ytnghcadhilfgnaa
