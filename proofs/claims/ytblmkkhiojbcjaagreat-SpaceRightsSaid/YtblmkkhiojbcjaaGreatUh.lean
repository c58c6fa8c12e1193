import Derived.Test.YtblmkkhiojbcjaaGreatUg
import Derived.RangeFuncWrites
import Derived.WalkKit
namespace Go.Proofs.YtblmkkhiojbcjaaGreat
open Go Go.RowKit Go.Shelf
attribute [local go_sem] Oper.semAt_some
set_option linter.unusedVariables false
set_option linter.unusedSimpArgs false
attribute [local irreducible] eM evs
/-- What a body keeps: all that is not its own, and the memory. -/
def KpG (Good : Nat → World → Prop) (p b mm : Nat) (W W' : World) : Prop := (∀ g o, Good g W → W.heap[g]? = some o → W'.heap[g]? = some o ∧ Good g W') ∧ W'.heap[p]? = W.heap[p]? ∧ W'.heap[b]? = W.heap[b]? ∧ W'.heap[mm]? = W.heap[mm]? ∧ W.heap.size ≤ W'.heap.size
structure GdJ {α : Type} (Good : Nat → World → Prop) (J : List α → World → Prop) : Prop where
  move : ∀ s W W', J s W → Mv Good W W' → J s W'
  mono : ∀ s W W' g, J s W → Mv Good W W' → Good g W → Good g W'
  fresh : ∀ s W W' g, J s W → Mv Good W W' → W.heap.size ≤ g → Good g W'
/-- An iterator over a memory that gives the elements of L; the body may leave. -/
def SeqG {α : Type} (n g : Nat) (lb : Array Value) (encs : α → Array Value) (L : List α) (p b mm : Nat) (w : World) : Prop :=
  ∀ (l : Nat) (J Jx : List α → World → Prop) (Good : Nat → World → Prop) (W : World), Below w.heap.size w W → GdJ Good J →
    (∀ k pre x W1, J pre W1 → pre ++ [x] <+: L → YieldAt Fence.wide k Tryz.prog l (encs x) W1 fun e W' => (e = .returned (.bool true) ∧ J (pre ++ [x]) W' ∧ KpG Good p b mm W1 W') ∨ (e = .returned (.bool false) ∧ Jx (pre ++ [x]) W')) → J [] W →
    CallsIn Fence.wide n Tryz.prog g (#[.func (.yield l) #[] #[]] ++ lb) W fun e W' => (∃ v, e = .returned v) ∧ (J L W' ∨ ∃ pre, pre <+: L ∧ Jx pre W')
section
variable {w : World} {p b mm N r : Nat} {B : Nat → Int} {L : List Nat} {F : Nat → Option Nat} {lf : Nat → Nat → Int}
set_option maxRecDepth 100000 in
set_option maxHeartbeats 1000000 in
theorem tour_seq (hR : Ram w p b mm N B L) (hP : PT N L B F lf) (hr : F 0 = some r) (n z1 z2 : Nat) (k1 : w.cell? ⟨z1, 0, .none⟩ = some (.pointer (some ⟨p, 0, .none⟩))) (k2 : w.cell? ⟨z2, 0, .none⟩ = some (.int .u64 (ad r))) :
    SeqG n 120 #[.pointer (some ⟨z1, 0, .none⟩), .pointer (some ⟨z2, 0, .none⟩)] evE (evs F lf 0) p b mm w := by
  intro l J Jx Good W hW gd hY h0
  have q1 := (hW.cell (lt_of_cell k1)).trans k1
  have q2 := (hW.cell (lt_of_cell k2)).trans k2
  obtain ⟨W2, hW2⟩ : ∃ W2, W2 = (W.alloc (.map #[] 0)).alloc (.cells #[.pointer (some ⟨p, 0, .none⟩), .int .u64 (ad r), .int .u64 0, .map (some W.heap.size)] 158) := ⟨_, rfl⟩
  have b2 : Below W.heap.size W W2 := by rw [hW2]; exact ((Below.refl _ _).alloc (Nat.le_refl _) _).alloc (by simp) _
  have hRW := hR.below hW
  have t2 : TS W2 (W.heap.size + 1) p b mm N B L F r W.heap.size (fun _ => none) 0 0 := by
    refine ⟨hRW.below b2, ?_, ?_, Nat.le_refl _, fun x f _ _ => rfl⟩
    · rw [hW2]
      exact ⟨by simp, by simp, by simp [vaP], by simp, by have := World.frozen?_alloc_new (W.alloc (.map #[] 0)) #[.pointer (some ⟨p, 0, .none⟩), .int .u64 (ad r), .int .u64 0, .map (some W.heap.size)] 158 2; rwa [World.size_alloc] at this⟩
    · rw [hW2]
      exact (Tm.new W).below ((Below.refl _ _).alloc (Nat.le_refl _) _)
  have hpl := hRW.mem.plt
  have hbl := hRW.mem.blt
  have hml := hRW.mem.mlt
  have cE := each_in hP hr hR.mem.n2 hR.mem.bb (n - 1) l J Jx Good (KpG Good p b mm) ⟨fun W W' g o hk hg ho => hk.1 g o hg ho, gd.move, gd.mono, gd.fresh⟩ (fun W W' hk => hk.2) hY W2 (W.heap.size + 1) W.heap.size (fun _ => none) t2
    ⟨gd.fresh [] W W2 _ h0 (Mv.below b2) (by omega), gd.fresh [] W W2 _ h0 (Mv.below b2) (Nat.le_refl _), by omega⟩ (by omega) (gd.move _ _ _ h0 (Mv.below b2))
  have HC : Hid (CallsIn Fence.wide (n - 1) Tryz.prog 121 #[.pointer (some ⟨W.heap.size + 1, 0, .none⟩), .func (.yield l) #[] #[]] W2 fun e W' => (∃ v, e = .returned v) ∧ (J (evs F lf 0) W' ∨ ∃ pre, pre <+: evs F lf 0 ∧ Jx pre W')) := cE
  clear cE t2 b2 hRW hpl hbl hml hY gd h0 hR hP hr k1 k2 hW
  have hmk : (Instr.makeMap 156 none).run Tryz.prog W = .ok (.map (some W.heap.size)) (W.alloc (.map #[] 0)) := by kernel_rfl
  refine callsIn_of_wp Tryz.func120 rfl trivial ?_ rfl
  simp only [Tryz.ntmps120, List.size_toArray, List.length_cons, List.length_nil, Nat.reduceAdd, Nat.reduceSub, Array.replicate_succ, Array.replicate_zero, List.push_toArray, List.append_toArray, List.nil_append, List.cons_append]
  gi_wp2_with (refine ⟨trivial, fun h => (by cases h), ?_⟩; gi_at_call 121; rw [hW2] at HC; refine HC.out.mono ?_; rintro e W3 ⟨⟨u, rfl⟩, hJJ⟩)
  go_end0
  exact ⟨⟨_, rfl⟩, hJJ⟩
end
end Go.Proofs.YtblmkkhiojbcjaaGreat
