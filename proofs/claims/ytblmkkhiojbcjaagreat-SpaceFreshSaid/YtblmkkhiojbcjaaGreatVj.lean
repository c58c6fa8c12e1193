import Derived.Test.YtblmkkhiojbcjaaGreatVg
import Derived.Test.YtblmkkhiojbcjaaGreatSLayX
namespace Go.Proofs.YtblmkkhiojbcjaaGreat
open Go Go.RowKit Go.Shelf
attribute [local go_sem] Oper.semAt_some
set_option linter.unusedVariables false
set_option linter.unusedSimpArgs false
attribute [local irreducible] eM evs
theorem leaves_any (p : Nat) (root : Int) (w : World) : Calls Tryz.prog 61 #[.pointer (some ⟨p, 0, .none⟩), .int .u64 root] w fun e w' => e = .returned (.func (.func 98) #[] #[.pointer (some ⟨w.heap.size, 0, .none⟩), .pointer (some ⟨w.heap.size + 1, 0, .none⟩)]) ∧ w' = (w.alloc (.cells #[.pointer (some ⟨p, 0, .none⟩)] 25)).alloc (.cells #[.int .u64 root] 23) := by
  go_enter Tryz.func61, Tryz.ntmps61
  go_wp2
  go_ret
  exact ⟨rfl, rfl⟩
theorem func_not_nil (X : Array Value) (V : World) : Sem.run Tryz.prog (Go.binOp .eql 95 (.func (.func 98) #[] X) .nilFunc) V = .ok (.bool false) V := by
  kernel_rfl
attribute [local go_sem] func_not_nil
def NdQ (W1 : World) (nn : Nat) (e : Ending) (w' : World) : Prop := ∃ g c, e = .returned (.slice (some ⟨g, 0, .none⟩) nn c) ∧ Below W1.heap.size W1 w'
/-- The last address that was met. -/
def lst (pre : List (Int × Int)) : Int := (pre.getLast?.map (·.1)).getD 0
/-- What the range in holds holds on to. -/
structure HoI (V : World) (cn cl : Nat) (pre : List (Int × Int)) (W : World) : Prop where
  size : V.heap.size ≤ W.heap.size
  os : W.os = V.os
  tape : W.tape = V.tape
  output : W.output = V.output
  block : ∀ k, k < V.heap.size → k ≠ cn → k ≠ cl → W.heap[k]? = V.heap[k]?
  n : W.cell? ⟨cn, 0, .none⟩ = some (.int .i64 pre.length)
  l : W.cell? ⟨cl, 0, .none⟩ = some (.int .u64 (lst pre))
  fn : W.frozen? ⟨cn, 0, .none⟩ = false
  fl : W.frozen? ⟨cl, 0, .none⟩ = false
theorem HoI.keep {V W W' : World} {cn cl : Nat} {pre : List (Int × Int)} (h : HoI V cn cl pre W) (h1 : W'.os = W.os) (h2 : W'.tape = W.tape) (h3 : W'.output = W.output) (hs : W.heap.size ≤ W'.heap.size) (hc : cn < V.heap.size ∧ cl < V.heap.size) (hb : ∀ k, k < V.heap.size → W'.heap[k]? = W.heap[k]?) : HoI V cn cl pre W' :=
  ⟨Nat.le_trans h.size hs, h1.trans h.os, h2.trans h.tape, h3.trans h.output, fun k hk a c => (hb k hk).trans (h.block k hk a c), (World.cell?_of_block (a := ⟨cn, 0, .none⟩) (hb _ hc.1)).trans h.n, (World.cell?_of_block (a := ⟨cl, 0, .none⟩) (hb _ hc.2)).trans h.l, (World.frozen?_of_block (a := ⟨cn, 0, .none⟩) (hb _ hc.1)).trans h.fn, (World.frozen?_of_block (a := ⟨cl, 0, .none⟩) (hb _ hc.2)).trans h.fl⟩
theorem HoI.gd {V : World} {cn cl : Nat} (hc : cn < V.heap.size ∧ cl < V.heap.size) : GdJ (fun k _ => V.heap.size ≤ k) (HoI V cn cl) :=
  ⟨fun s W W' hs hm => hs.keep hm.os hm.tape hm.output hm.size hc (fun k hk => hm.block k (Nat.lt_of_lt_of_le hk hs.size) (by omega)), fun s W W' k hs hm hk => hk, fun s W W' k hs hm hk => Nat.le_trans hs.size hk⟩
theorem HoI.own {V : World} {cn cl : Nat} (hc : cn < V.heap.size ∧ cl < V.heap.size) : OwnFrom V.heap.size (HoI V cn cl) := fun s W W' row hs hg hr =>
  hs.keep hg.os hg.tape hg.output hg.size hc (fun k hk => hg.block k (Nat.lt_of_lt_of_le hk hs.size) (fun e => by have := (hr k e.symm).1; omega))
theorem HoI.below {w V W : World} {cn cl : Nat} {pre : List (Int × Int)} (h : HoI V cn cl pre W) (b : Below w.heap.size w V) (hc : w.heap.size ≤ cn ∧ w.heap.size ≤ cl) : Below w.heap.size w W :=
  ⟨h.os.trans b.os, h.tape.trans b.tape, h.output.trans b.output, Nat.le_trans b.size h.size, fun k hk => (h.block k (Nat.lt_of_lt_of_le hk b.size) (by omega) (by omega)).trans (b.block k hk)⟩
theorem lst_app (pre : List (Int × Int)) (x : Int × Int) : lst (pre ++ [x]) = x.1 := by simp [lst]
theorem HoI.step {V U : World} {cn cl p b mm : Nat} {pre : List (Int × Int)} {x : Int × Int} (h : HoI V cn cl pre U) (hc : cn < V.heap.size ∧ cl < V.heap.size) (hne : cn ≠ cl) (hp : p < V.heap.size ∧ b < V.heap.size ∧ mm < V.heap.size) (hq : p ≠ cn ∧ p ≠ cl ∧ b ≠ cn ∧ b ≠ cl ∧ mm ≠ cn ∧ mm ≠ cl) :
    KeepsFrom V.heap.size U ((U.drew.setCell ⟨cl, 0, .none⟩ (.int .u64 x.1)).setCell ⟨cn, 0, .none⟩ (.int .i64 (pre.length + 1))) ∧ KpG (fun k _ => V.heap.size ≤ k) p b mm U ((U.drew.setCell ⟨cl, 0, .none⟩ (.int .u64 x.1)).setCell ⟨cn, 0, .none⟩ (.int .i64 (pre.length + 1))) ∧ HoI V cn cl (pre ++ [x]) ((U.drew.setCell ⟨cl, 0, .none⟩ (.int .u64 x.1)).setCell ⟨cn, 0, .none⟩ (.int .i64 (pre.length + 1))) := by
  obtain ⟨X, hX⟩ : ∃ X, X = (U.drew.setCell ⟨cl, 0, .none⟩ (.int .u64 x.1)).setCell ⟨cn, 0, .none⟩ (.int .i64 (pre.length + 1)) := ⟨_, rfl⟩
  have kb : ∀ k, k ≠ cn → k ≠ cl → X.heap[k]? = U.heap[k]? := fun k h1 h2 => by rw [hX]; exact (Below.heap_setCell _ _ _ k h1).trans (Below.heap_setCell U.drew _ _ k h2)
  have sz : X.heap.size = U.heap.size := by rw [hX]; simp
  have i1 : (U.drew.setCell ⟨cl, 0, .none⟩ (.int .u64 x.1)).cell? ⟨cl, 0, .none⟩ = some (.int .u64 x.1) := World.cell?_setCell_same' _ _ _ (by show (U.cell? _).isSome = true; rw [h.l]; rfl)
  have i2 : (U.drew.setCell ⟨cl, 0, .none⟩ (.int .u64 x.1)).cell? ⟨cn, 0, .none⟩ = some (.int .i64 pre.length) := (World.cell?_setCell_far _ _ _ _ (Ne.symm hne)).trans h.n
  have j1 : X.cell? ⟨cn, 0, .none⟩ = some (.int .i64 (pre.length + 1)) := by rw [hX]; exact World.cell?_setCell_same' _ _ _ (by rw [i2]; rfl)
  have j2 : X.cell? ⟨cl, 0, .none⟩ = some (.int .u64 x.1) := by rw [hX]; exact (World.cell?_setCell_far _ _ _ _ hne).trans i1
  have j3 : X.frozen? ⟨cn, 0, .none⟩ = false := by rw [hX, World.frozen?_setCell, World.frozen?_setCell]; exact h.fn
  have j4 : X.frozen? ⟨cl, 0, .none⟩ = false := by rw [hX, World.frozen?_setCell, World.frozen?_setCell]; exact h.fl
  have o1 : X.os = U.os := by rw [hX]; rfl
  have o2 : X.tape = U.tape := by rw [hX]; rfl
  have o3 : X.output = U.output := by rw [hX]; rfl
  rw [← hX]
  refine ⟨⟨by omega, fun k o hk ho _ => (kb k (by omega) (by omega)).trans ho⟩, ⟨fun k o hk ho => ⟨(kb k (by omega) (by omega)).trans ho, hk⟩, kb p hq.1 hq.2.1, kb b hq.2.2.1 hq.2.2.2.1, kb mm hq.2.2.2.2.1 hq.2.2.2.2.2, by omega⟩, ?_⟩
  exact ⟨by rw [sz]; exact h.size, o1.trans h.os, o2.trans h.tape, o3.trans h.output, fun k hk a c => (kb k a c).trans (h.block k hk a c), by rw [j1]; simp, by rw [lst_app]; exact j2, j3, j4⟩
theorem lst_lt {ll pre : List (Int × Int)} {x : Int × Int} (h : ll.Pairwise (fun a b => a.1 < b.1)) (hp : pre ++ [x] <+: ll) (hne : pre ≠ []) : lst pre < x.1 := by
  have h2 := h.sublist hp.sublist
  rw [List.pairwise_append] at h2
  unfold lst
  rw [List.getLast?_eq_some_getLast hne]
  exact h2.2.2 _ (List.getLast_mem hne) x (by simp)
theorem fnd_page {l : List Pg} {y : Pg} {k : Int} (hu : ∀ x ∈ l, ∀ z ∈ l, x.1 = z.1 → x = z) (hy : y ∈ l) (hf : Fnd (gV l) l.length y.1 k) : ∃ i : Nat, i < l.length ∧ k = i ∧ gA l i = y.2.1 ∧ gP l i = y.2.2 := by
  rcases hf with ⟨_, hn⟩ | ⟨i, hi, hk, hv, _⟩
  · obtain ⟨i, hi, he⟩ := List.getElem_of_mem hy
    refine absurd ?_ (hn i hi)
    unfold gV
    rw [List.getD_eq_getElem?_getD, List.getElem?_eq_getElem hi, Option.getD_some, he]
  · have hm : l[i] ∈ l := List.getElem_mem hi
    have e : l[i] = y := hu _ hm _ hy (by
      unfold gV at hv
      rw [List.getD_eq_getElem?_getD, List.getElem?_eq_getElem hi, Option.getD_some] at hv
      exact hv)
    refine ⟨i, hi, hk, ?_, ?_⟩
    · unfold gA; rw [List.getD_eq_getElem?_getD, List.getElem?_eq_getElem hi, Option.getD_some, e]
    · unfold gP; rw [List.getD_eq_getElem?_getD, List.getElem?_eq_getElem hi, Option.getD_some, e]
theorem gV_b {l : List Pg} (h : ∀ x ∈ l, okP x) (i : Nat) : 0 ≤ gV l i ∧ gV l i < 18446744073709551616 := by
  unfold gV
  rw [List.getD_eq_getElem?_getD]
  cases hi : l[i]? with
  | none => simp
  | some x =>
    have := (h x (List.mem_of_getElem? hi)).1
    simp only [Option.getD_some]
    omega
theorem region_only {P : Program} {id : Nat} {ops : Array Oper} {Q : Exit → Act → World → Prop} {a : Act} {w : World} (h : (Code.region id ops true).wp P (fun e a w => e = .normal ∧ Q .normal a w) a w) : (Code.region id ops true).wp P Q a w :=
  wp_mono h (fun e a w h => by obtain ⟨rfl, h⟩ := h; exact h)
end Go.Proofs.YtblmkkhiojbcjaaGreat
namespace Go.Proofs.YtblmkkhiojbcjaaGreat
open Go.RowKit
set_option linter.unusedVariables false
set_option linter.unusedSimpArgs false
theorem letsF_any (e : Int) (w : World) : Calls Tryz.prog 132 #[.int .u64 e] w fun r w' => r = .returned (.bool (hs e 8)) ∧ w' = w := by
  go_enter Tryz.func132, Tryz.ntmps132
  go_wp2_with (go_at_call 135; refine (has_any _ _ _).mono ?_; rintro r w0 ⟨rfl, rfl⟩)
  go_ret
  exact ⟨rfl, rfl⟩
theorem letsL_any (e : Int) (w : World) : Calls Tryz.prog 133 #[.int .u64 e] w fun r w' => r = .returned (.bool (hs e 2)) ∧ w' = w := by
  go_enter Tryz.func133, Tryz.ntmps133
  go_wp2_with (go_at_call 135; refine (has_any _ _ _).mono ?_; rintro r w0 ⟨rfl, rfl⟩)
  go_ret
  exact ⟨rfl, rfl⟩
theorem letsS_any (e : Int) (w : World) : Calls Tryz.prog 134 #[.int .u64 e] w fun r w' => r = .returned (.bool (hs e 132)) ∧ w' = w := by
  go_enter Tryz.func134, Tryz.ntmps134
  go_wp2_with (go_at_call 135; refine (has_any _ _ _).mono ?_; rintro r w0 ⟨rfl, rfl⟩)
  go_ret
  exact ⟨rfl, rfl⟩
/-- What an access asks of a leaf. -/
def lts (e a : Int) : Bool := if a = 1 then hs e 80 && hs e 8 else if a = 2 then hs e 80 && hs e 2 else if a = 3 then hs e 80 && hs e 132 else false
theorem idx129 (i : Nat) (x : Int) (f : Nat) (h : (i = 0 ∧ x = 1 ∧ f = 132) ∨ (i = 1 ∧ x = 2 ∧ f = 133) ∨ (i = 2 ∧ x = 3 ∧ f = 134)) (w : World) : (Instr.index 170 (.agg #[.int .i64 1, .func (.func 132) #[] #[], .int .i64 2, .func (.func 133) #[] #[], .int .i64 3, .func (.func 134) #[] #[]]) (.int .i64 i)).run Tryz.prog w = .ok (.agg #[.int .i64 x, .func (.func f) #[] #[]]) w := by
  rcases h with ⟨rfl, rfl, rfl⟩ | ⟨rfl, rfl, rfl⟩ | ⟨rfl, rfl, rfl⟩ <;> kernel_rfl
theorem run_store_func (P : Program) (w : World) (a : Addr) (f : Fn) (c d : Array Value) (m : Mode) (hc : (w.cell? a).isSome = true) (hf : w.frozen? a = false) :
    (store a (.func f c d) m).run P w = .ok () (w.setCell a (.func f c d)) := by
  obtain ⟨u, hu⟩ := Option.isSome_iff_exists.1 hc
  rw [run_store P w a (.func f c d) m rfl, hu]
  simp [hf]
attribute [local go_sem] run_store_func
set_option maxHeartbeats 1000000 in
set_option maxRecDepth 10000 in
theorem lets_any (e a : Int) (w : World) : Calls Tryz.prog 100 #[.int .u64 e, .int .i64 a] w fun r w' => r = .returned (.bool (lts e a)) ∧ Below w.heap.size w w' := by
  have i0 : ∀ w : World, (Instr.index 170 (Value.agg #[.int .i64 1, .func (.func 132) #[] #[], .int .i64 2, .func (.func 133) #[] #[], .int .i64 3, .func (.func 134) #[] #[]]) (.int .i64 0)).run Tryz.prog w = .ok (.agg #[.int .i64 1, .func (.func 132) #[] #[]]) w := idx129 0 1 132 (by omega)
  have i1 : ∀ w : World, (Instr.index 170 (Value.agg #[.int .i64 1, .func (.func 132) #[] #[], .int .i64 2, .func (.func 133) #[] #[], .int .i64 3, .func (.func 134) #[] #[]]) (.int .i64 1)).run Tryz.prog w = .ok (.agg #[.int .i64 2, .func (.func 133) #[] #[]]) w := idx129 1 2 133 (by omega)
  have i2 : ∀ w : World, (Instr.index 170 (Value.agg #[.int .i64 1, .func (.func 132) #[] #[], .int .i64 2, .func (.func 133) #[] #[], .int .i64 3, .func (.func 134) #[] #[]]) (.int .i64 2)).run Tryz.prog w = .ok (.agg #[.int .i64 3, .func (.func 134) #[] #[]]) w := idx129 2 3 134 (by omega)
  by_cases h1 : a = 1
  · subst h1
    have hfin : lts e 1 = (hs e 80 && hs e 8) := by simp [lts]
    rw [hfin]
    clear hfin
    cases h80 : hs e 80 <;> cases hbt : hs e 8
    all_goals
      go_enter Tryz.func100, Tryz.ntmps100
      go_upto_region 2 with fail
      generalize hT : (Value.agg #[.int .i64 1, .func (.func 132) #[] #[], .int .i64 2, .func (.func 133) #[] #[], .int .i64 3, .func (.func 134) #[] #[]]) = T at *
      clear hT
      refine wp_loop_rounds 1 ?_
      rw [rounds_succ]
      go_wp2_with (first | (go_at_call 135; refine (has_any _ _ _).mono ?_; rintro r w0 ⟨rfl, rfl⟩) | (go_at_call 132; refine (letsF_any _ _).mono ?_; rintro r w0 ⟨rfl, rfl⟩))
      go_ret
      exact ⟨rfl, by first | exact below1 _ _ | exact below2 _ _ _ | exact below3 _ _ _ _⟩
  by_cases h2 : a = 2
  · subst h2
    have hfin : lts e 2 = (hs e 80 && hs e 2) := by simp [lts]
    rw [hfin]
    clear hfin
    cases h80 : hs e 80 <;> cases hbt : hs e 2
    all_goals
      go_enter Tryz.func100, Tryz.ntmps100
      go_upto_region 2 with fail
      generalize hT : (Value.agg #[.int .i64 1, .func (.func 132) #[] #[], .int .i64 2, .func (.func 133) #[] #[], .int .i64 3, .func (.func 134) #[] #[]]) = T at *
      clear hT
      refine wp_loop_rounds 2 ?_
      rw [rounds_succ]
      go_wp2_with (first | (go_at_call 135; refine (has_any _ _ _).mono ?_; rintro r w0 ⟨rfl, rfl⟩) | (go_at_call 133; refine (letsL_any _ _).mono ?_; rintro r w0 ⟨rfl, rfl⟩))
      rw [rounds_succ]
      go_wp2_with (first | (go_at_call 135; refine (has_any _ _ _).mono ?_; rintro r w0 ⟨rfl, rfl⟩) | (go_at_call 133; refine (letsL_any _ _).mono ?_; rintro r w0 ⟨rfl, rfl⟩))
      go_ret
      exact ⟨rfl, by first | exact below1 _ _ | exact below2 _ _ _ | exact below3 _ _ _ _⟩
  by_cases h3 : a = 3
  · subst h3
    have hfin : lts e 3 = (hs e 80 && hs e 132) := by simp [lts]
    rw [hfin]
    clear hfin
    cases h80 : hs e 80 <;> cases hbt : hs e 132
    all_goals
      go_enter Tryz.func100, Tryz.ntmps100
      go_upto_region 2 with fail
      generalize hT : (Value.agg #[.int .i64 1, .func (.func 132) #[] #[], .int .i64 2, .func (.func 133) #[] #[], .int .i64 3, .func (.func 134) #[] #[]]) = T at *
      clear hT
      refine wp_loop_rounds 3 ?_
      rw [rounds_succ]
      go_wp2_with (first | (go_at_call 135; refine (has_any _ _ _).mono ?_; rintro r w0 ⟨rfl, rfl⟩) | (go_at_call 134; refine (letsS_any _ _).mono ?_; rintro r w0 ⟨rfl, rfl⟩))
      rw [rounds_succ]
      go_wp2_with (first | (go_at_call 135; refine (has_any _ _ _).mono ?_; rintro r w0 ⟨rfl, rfl⟩) | (go_at_call 134; refine (letsS_any _ _).mono ?_; rintro r w0 ⟨rfl, rfl⟩))
      rw [rounds_succ]
      go_wp2_with (first | (go_at_call 135; refine (has_any _ _ _).mono ?_; rintro r w0 ⟨rfl, rfl⟩) | (go_at_call 134; refine (letsS_any _ _).mono ?_; rintro r w0 ⟨rfl, rfl⟩))
      go_ret
      exact ⟨rfl, by first | exact below1 _ _ | exact below2 _ _ _ | exact below3 _ _ _ _⟩
  have hfin : lts e a = false := by simp [lts, h1, h2, h3]
  rw [hfin]
  clear hfin
  have e1 : ¬ (1 : Int) = a := fun e => h1 e.symm
  have e2 : ¬ (2 : Int) = a := fun e => h2 e.symm
  have e3 : ¬ (3 : Int) = a := fun e => h3 e.symm
  go_enter Tryz.func100, Tryz.ntmps100
  go_upto_region 2 with fail
  generalize hT : (Value.agg #[.int .i64 1, .func (.func 132) #[] #[], .int .i64 2, .func (.func 133) #[] #[], .int .i64 3, .func (.func 134) #[] #[]]) = T at *
  clear hT
  refine wp_loop_rounds 4 ?_
  rw [rounds_succ]
  go_wp2
  rw [rounds_succ]
  go_wp2
  rw [rounds_succ]
  go_wp2
  rw [rounds_succ]
  go_wp2
  go_ret
  exact ⟨rfl, below3 _ _ _ _⟩
/-- P4.3 -/
def trA (x : Pt) (va a : Int) : Bool := finds x va && lts x.e a
end Go.Proofs.YtblmkkhiojbcjaaGreat
namespace Go.Proofs.YtblmkkhiojbcjaaGreat
open Go.RowKit
set_option linter.unusedVariables false
set_option linter.unusedSimpArgs false
def trP (x : Pt) (va : Int) : Int := (adE x.e + va % spn x.l) % 18446744073709551616
section
variable {w : World} {p b m N : Nat} {B : Nat → Int} {L : List Nat}
theorem translate_any (h : Ram w p b m N B L) (root va a : Int) (hr : 0 ≤ root ∧ root < 18446744073709551616) (hv : 0 ≤ va ∧ va < 18446744073709551616) : Calls Tryz.prog 66 #[.pointer (some ⟨p, 0, .none⟩), .int .u64 root, .int .u64 va, .int .i64 a] w fun r w' => r = .returned (.tuple #[.int .u64 (if trA (look N L B root va) va a then trP (look N L B root va) va else 0), .bool (trA (look N L B root va) va a)]) ∧ Below w.heap.size w w' := by
  have c := entry_any h root va hr hv
  have lb := look_b (N := N) (L := L) h.mem.bb root va
  clear h
  generalize look N L B root va = x at *
  obtain ⟨a0, a1, a2, l, e, k⟩ := x
  simp only at lb c ⊢
  have hf : finds ⟨a0, a1, a2, l, e, k⟩ va = false ∨ finds ⟨a0, a1, a2, l, e, k⟩ va = true := by cases finds ⟨a0, a1, a2, l, e, k⟩ va <;> simp
  rcases hf with hf | hf
  · simp only [trA, hf, Bool.false_and, Bool.false_eq_true, if_false] at c ⊢
    clear hf
    go_enter Tryz.func66, Tryz.ntmps66
    go_wp2_with (first | (go_at_call 67; refine c.mono ?_; rintro r w0 ⟨rfl, hb⟩))
    go_ret2
    exact ⟨rfl, hb⟩
  · have c50 := fun W => lets_any e a W
    have hl : lts e a = false ∨ lts e a = true := by cases lts e a <;> simp
    rcases hl with hl | hl
    · simp only [hl] at c50
      simp only [trA, hf, hl, Bool.true_and, Bool.false_eq_true, if_false, if_true] at c ⊢
      clear hf hl
      go_enter Tryz.func66, Tryz.ntmps66
      go_wp2_with (first | (go_at_call 67; refine c.mono ?_; rintro r w0 ⟨rfl, hb⟩) | (go_at_call 100; refine (c50 _).mono ?_; rintro r w1 ⟨rfl, hb1⟩))
      go_ret2
      exact ⟨rfl, hb.trans (hb1.mono hb.size)⟩
    · simp only [hl] at c50
      have c46 := fun W => address_any e W ⟨lb.1, lb.2.1⟩
      have c51 := fun W => inSpan_any va l hv (by omega) W
      have hw : trP ⟨a0, a1, a2, l, e, k⟩ va = IntKind.u64.wrap (adE e + va % spn l) := (IntKind.wrap_u64 _).symm
      simp only [trA, hf, hl, hw, Bool.true_and, if_true] at c ⊢
      clear hf hl hw lb
      generalize adE e = ax at *
      generalize va % spn l = vx at *
      go_enter Tryz.func66, Tryz.ntmps66
      go_wp2_with (first | (go_at_call 67; refine c.mono ?_; rintro r w0 ⟨rfl, hb⟩) | (go_at_call 100; refine (c50 _).mono ?_; rintro r w1 ⟨rfl, hb1⟩) | (go_at_call 95; refine (c46 _).mono ?_; rintro r w1 ⟨rfl, rfl⟩) | (go_at_call 101; refine (c51 _).mono ?_; rintro r w1 ⟨rfl, rfl⟩))
      go_ret2
      exact ⟨rfl, hb.trans (hb1.mono hb.size)⟩
end
end Go.Proofs.YtblmkkhiojbcjaaGreat
namespace Go.Proofs.YtblmkkhiojbcjaaGreat
open Go Go.RowKit Go.Shelf
set_option linter.unusedVariables false
set_option linter.unusedSimpArgs false
attribute [local irreducible] eM evs
/-- What an access asks of a page's permissions. -/
def wnt (t : Nat) : Nat := if t = 0 then 88 else if t = 1 then 82 else 212
set_option maxRecDepth 100000 in
theorem lts_bits : ∀ c : Fin 256, c.val % 2 = 0 → ∀ t : Fin 3, (((c.val + 1) &&& 80 == 80) && ((c.val + 1) &&& (if t.val = 0 then 8 else if t.val = 1 then 2 else 132) == (if t.val = 0 then 8 else if t.val = 1 then 2 else 132))) = (c.val &&& wnt t.val == wnt t.val) := by decide
theorem hs_low (c : Int) (hc : 0 ≤ c ∧ c < 256) (d : Nat) (hd : d < 1024) : hs c d = (c.toNat &&& d == d) := by
  unfold hs
  rw [and_low c (by omega) d hd, show c % 1024 = c by omega]
  cases h : (c.toNat &&& d == d)
  · rw [beq_eq_false_iff_ne] at h ⊢
    omega
  · rw [beq_iff_eq] at h ⊢
    omega
theorem congrArg2 {a b c d : Bool} (h1 : a = c) (h2 : b = d) : (a && b) = (c && d) := by rw [h1, h2]
theorem lts_toP (pa c : Int) (hp : 0 ≤ pa ∧ pa < 72057594037927936) (hc : 0 ≤ c ∧ c < 256) (he : c % 2 = 0) (t : Nat) (ht : t < 3) : lts (toP pa c) (1 + t) = hs c (wnt t) := by
  have key := lts_bits ⟨c.toNat, by omega⟩ (by simp only; omega) ⟨t, ht⟩
  simp only at key
  have cv : ∀ d : Nat, d < 1024 → hs (toP pa c) d = ((c.toNat + 1) &&& d == d) := fun d hd => by
    rw [hs_toP pa c hp (by omega) he d hd, show (c + 1).toNat = c.toNat + 1 by omega]
    cases h : ((c.toNat + 1) &&& d == d)
    · rw [beq_eq_false_iff_ne] at h ⊢
      omega
    · rw [beq_iff_eq] at h ⊢
      omega
  have h80 := cv 80 (by omega)
  have h8 := cv 8 (by omega)
  have h2 := cv 2 (by omega)
  have h132 := cv 132 (by omega)
  rw [hs_low c hc (wnt t) (by unfold wnt; split <;> (try split) <;> omega), ← key]
  unfold lts
  obtain rfl | rfl | rfl : t = 0 ∨ t = 1 ∨ t = 2 := by omega
  · rw [if_pos (by omega)]; simp only [if_true]; exact congrArg2 h80 h8
  · rw [if_neg (by omega), if_pos (by omega)]; simp only [if_true, if_false, Nat.one_ne_zero]; exact congrArg2 h80 h2
  · rw [if_neg (by omega), if_neg (by omega), if_pos (by omega)]; exact congrArg2 h80 h132
theorem y_off (va o : Int) (hv : 0 ≤ va ∧ va < 274877906944 ∧ va % 4096 = 0) (ho : 0 ≤ o ∧ o < 4096) : y0 (va + o) = y0 va ∧ i0 (va + o) = i0 va := by
  have h1 : ix (va + o) 0 = ix va 0 := by unfold ix; rw [spn0]; omega
  have h2 : ix (va + o) 1 = ix va 1 := by unfold ix; rw [spn1]; omega
  have h3 : ix (va + o) 2 = ix va 2 := by unfold ix; rw [show spn 2 = 1073741824 from rfl]; omega
  constructor
  · unfold y0 y1 i1 i2
    rw [h2, h3]
  · unfold i0
    rw [h1]
section
variable {w : World} {p b m N r : Nat} {B : Nat → Int} {L : List Nat} {F : Nat → Option Nat} {lf : Nat → Nat → Int} {l : List Pg}
theorem TL.none_at (h : TL F lf l) (va : Int) (hv : 0 ≤ va ∧ va < 274877906944 ∧ va % 4096 = 0) (hn : ∀ x ∈ l, x.1 ≠ va) : lf (y0 va) (i0 va) = 0 := by
  by_cases hz : lf (y0 va) (i0 va) = 0
  · exact hz
  · obtain ⟨x, hx, h1, h2⟩ := h.only _ _ (y0_ge va) (i0_lt va) hz
    exact absurd (va_inj (h.ok x hx).1 hv h1.symm h2.symm) (hn x hx)
theorem tra_none (hR : Ram w p b m N B L) (hP : PT N L B F lf) (hr : F 0 = some r) (va o a : Int) (hv : 0 ≤ va ∧ va < 274877906944 ∧ va % 4096 = 0) (ho : 0 ≤ o ∧ o < 4096) (hz : lf (y0 va) (i0 va) = 0) :
    Calls Tryz.prog 66 #[.pointer (some ⟨p, 0, .none⟩), .int .u64 (ad r), .int .u64 (va + o), .int .i64 a] w fun e w' => e = .returned (.tuple #[.int .u64 0, .bool false]) ∧ Below w.heap.size w w' := by
  have hN := hR.mem.n2
  have hrb : 0 ≤ ad r ∧ ad r < 18446744073709551616 := by have h1 := hP.held 0 r hr; unfold ad; omega
  obtain ⟨e1, e2⟩ := y_off va o hv ho
  have hk := (look_need hP hN hr (va + o) (by rw [e1, e2]; exact hz)).1
  have hA : trA (look N L B (ad r) (va + o)) (va + o) a = false := by
    unfold trA finds
    rw [hk]
    rfl
  have := translate_any hR (ad r) (va + o) a hrb (by omega)
  rw [hA] at this
  exact this
theorem tra_some (hR : Ram w p b m N B L) (hP : PT N L B F lf) (hr : F 0 = some r) (va o pa c : Int) (t : Nat) (ht : t < 3) (hv : 0 ≤ va ∧ va < 274877906944 ∧ va % 4096 = 0) (ho : 0 ≤ o ∧ o < 4096) (hp : 0 ≤ pa ∧ pa < 72057594037927936 ∧ pa % 4096 = 0) (hc : 0 ≤ c ∧ c < 256 ∧ c % 2 = 0) (hz : lf (y0 va) (i0 va) = toP pa c) (hne : toP pa c ≠ 0) :
    Calls Tryz.prog 66 #[.pointer (some ⟨p, 0, .none⟩), .int .u64 (ad r), .int .u64 (va + o), .int .i64 (1 + t)] w fun e w' => e = .returned (.tuple #[.int .u64 (if hs c (wnt t) then pa + o else 0), .bool (hs c (wnt t))]) ∧ Below w.heap.size w w' := by
  have hN := hR.mem.n2
  have hrb : 0 ≤ ad r ∧ ad r < 18446744073709551616 := by have h1 := hP.held 0 r hr; unfold ad; omega
  obtain ⟨e1, e2⟩ := y_off va o hv ho
  obtain ⟨hk, hl, he⟩ := look_full hP hN hr (va + o) (by rw [e1, e2, hz]; exact hne)
  rw [e1, e2, hz] at he
  have hA : trA (look N L B (ad r) (va + o)) (va + o) (1 + t) = hs c (wnt t) := by
    unfold trA finds
    rw [hk, he, ext_low _ (by omega), lts_toP pa c ⟨hp.1, hp.2.1⟩ ⟨hc.1, hc.2.1⟩ hc.2.2 t ht]
    simp
  have hB : trP (look N L B (ad r) (va + o)) (va + o) = pa + o := by
    unfold trP
    rw [he, hl, adE_toP pa c ⟨hp.1, hp.2.1⟩ hp.2.2 (by omega) hc.2.2, spn0]
    omega
  have := translate_any hR (ad r) (va + o) (1 + t) hrb (by omega)
  rw [hA, hB] at this
  exact this
end
end Go.Proofs.YtblmkkhiojbcjaaGreat
namespace Go.Proofs.YtblmkkhiojbcjaaGreat
open Go Go.RowKit Go.Shelf
set_option linter.unusedVariables false
set_option linter.unusedSimpArgs false
attribute [local irreducible] eM evs
section
variable {w : World} {p b m N r c : Nat} {B : Nat → Int} {L : List Nat} {F : Nat → Option Nat} {lf : Nat → Nat → Int} {l : List Pg} {q : Option Addr}
end
end Go.Proofs.YtblmkkhiojbcjaaGreat
