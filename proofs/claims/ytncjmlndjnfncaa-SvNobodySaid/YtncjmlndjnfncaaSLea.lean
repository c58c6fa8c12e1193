import Derived.Test.YtncjmlndjnfncaaSEach
import Derived.Carry
namespace Go.Proofs.Ytncjmlndjnfncaa
open Go.RowKit Go.Shelf
attribute [local go_sem] Oper.semAt_some
set_option linter.unusedVariables false
set_option linter.unusedSimpArgs false
/-- An iterator that gives nothing. -/
theorem seq_none {w : World} {g : Nat} {lb : Array Value} (h : ∀ l W, Below w.heap.size w W → Calls Try.prog g (#[.func (.yield l) #[] #[]] ++ lb) W fun e W' => (∃ v, e = .returned v) ∧ Below W.heap.size W W') (n n₀ : Nat) : SeqStopsK (α := Empty) Fence.wide n Try.prog g lb (fun x => x.elim) (Below n₀) (fun xs => xs = []) (fun _ => False) 0 w := by
  intro l J Jx W hW hJ hJx hY h0
  refine (callsIn_wide.2 (h l W hW)).mono ?_
  rintro e W' ⟨he, hb2⟩
  exact ⟨he, .inl ⟨[], rfl, hJ [] W W' none h0 ⟨hb2.os, hb2.tape, hb2.output, hb2.size, fun k hk _ => hb2.block k hk⟩ (fun r e => by cases e)⟩⟩
section
variable {w : World} {v : Value}
theorem toured_any (q : Option Addr) (root : Int) (w : World) : Calls Try.prog 45 #[.pointer q, .int .u64 root] w fun e w' => e = .returned (.func (.func 69) #[] #[.pointer (some ⟨w.heap.size, 0, .none⟩), .pointer (some ⟨w.heap.size + 1, 0, .none⟩)]) ∧ w' = (w.alloc (.cells #[.pointer q] 23)).alloc (.cells #[.int .u64 root] 28) := by
  go_enter Try.func45, Try.ntmps45
  go_wp2
  go_ret
  exact ⟨rfl, rfl⟩
theorem leaves_any (q : Option Addr) (root : Int) (w : World) : Calls Try.prog 21 #[.pointer q, .int .u64 root] w fun e w' => e = .returned (.func (.func 53) #[] #[.pointer (some ⟨w.heap.size, 0, .none⟩), .pointer (some ⟨w.heap.size + 1, 0, .none⟩)]) ∧ w' = (w.alloc (.cells #[.pointer q] 23)).alloc (.cells #[.int .u64 root] 28) := by
  go_enter Try.func21, Try.ntmps21
  go_wp2
  go_ret
  exact ⟨rfl, rfl⟩
theorem tour_new (w : World) (v : Value) (root : Int) (m : Value) : Tour (w.alloc (.cells #[v, .int .u64 root, .int .u64 0, m] 124)) w.heap.size v root 0 m :=
  ⟨by simp, by simp, by simp, by simp, World.frozen?_alloc_new _ _ _ _⟩
theorem no_toured1 {q : Option Addr} (h : Unm w (.pointer q)) (f : Value) (b1 b2 : Nat) (root : Int) (h1 : w.cell? ⟨b1, 0, .none⟩ = some (.pointer q)) (h2 : w.cell? ⟨b2, 0, .none⟩ = some (.int .u64 root)) : Calls Try.prog 69 #[f, .pointer (some ⟨b1, 0, .none⟩), .pointer (some ⟨b2, 0, .none⟩)] w fun e w' => (∃ u, e = .returned u) ∧ Below w.heap.size w w' := by
  have hmm := @run_makeMap Try.prog
  have hu := (h.alloc (.map #[] 0)).alloc (.cells #[.pointer q, .int .u64 root, .int .u64 0, .map (some w.heap.size)] 124)
  have t := tour_new (w.alloc (.map #[] 0)) (.pointer q) root (.map (some w.heap.size))
  have c := fun f => no_each hu f t
  have hb := below2 w (.map #[] 0) (.cells #[.pointer q, .int .u64 root, .int .u64 0, .map (some w.heap.size)] 124)
  have HB : Hid (Below w.heap.size w _) := hb
  rw [World.size_alloc] at c
  clear h hu t hb
  go_enter Try.func69, Try.ntmps69
  go_wp2_with (go_at_call 70; refine (c _).mono ?_; rintro e W1 ⟨⟨u, rfl⟩, W2, hb2, hb3⟩)
  go_end0
  refine ⟨⟨_, rfl⟩, ?_⟩
  have s2 := HB.out.size
  have b4 := HB.out.trans (hb2.mono HB.out.size)
  refine (b4.setCell (p := ⟨w.heap.size + 1, 2, .none⟩) (by show w.heap.size ≤ w.heap.size + 1; omega) _).trans (hb3.mono b4.size)
theorem no_seqT {q : Option Addr} {root : Int} (h : Unm w (.pointer q)) (n n₀ b1 b2 : Nat) (h1 : w.cell? ⟨b1, 0, .none⟩ = some (.pointer q)) (h2 : w.cell? ⟨b2, 0, .none⟩ = some (.int .u64 root)) :
    SeqStopsK (α := Empty) Fence.wide n Try.prog 69 #[.pointer (some ⟨b1, 0, .none⟩), .pointer (some ⟨b2, 0, .none⟩)] (fun x => x.elim) (Below n₀) (fun xs => xs = []) (fun _ => False) 0 w := by
  have H1 : b1 < w.heap.size := lt_of_cell h1
  have H2 : b2 < w.heap.size := lt_of_cell h2
  refine seq_none (fun l W hb => ?_) n n₀
  have e : (#[Value.func (.yield l) #[] #[]] ++ #[.pointer (some ⟨b1, 0, .none⟩), .pointer (some ⟨b2, 0, .none⟩)] : Array Value) = #[.func (.yield l) #[] #[], .pointer (some ⟨b1, 0, .none⟩), .pointer (some ⟨b2, 0, .none⟩)] := by simp
  rw [e]
  exact no_toured1 (h.below hb) _ b1 b2 root ((hb.cell H1).trans h1) ((hb.cell H2).trans h2)
set_option maxHeartbeats 1000000 in
theorem no_leaves1 {q : Option Addr} (h : Unm w (.pointer q)) (f : Value) (hf : ∃ g c d, f = .func g c d) (b1 b2 : Nat) (root : Int) (h1 : w.cell? ⟨b1, 0, .none⟩ = some (.pointer q)) (h2 : w.cell? ⟨b2, 0, .none⟩ = some (.int .u64 root)) : Calls Try.prog 53 #[f, .pointer (some ⟨b1, 0, .none⟩), .pointer (some ⟨b2, 0, .none⟩)] w fun e w' => (∃ u, e = .returned u) ∧ Below w.heap.size w w' := by
  obtain ⟨g, c, d, rfl⟩ := hf
  have H1 : b1 < w.heap.size := lt_of_cell h1
  have H2 : b2 < w.heap.size := lt_of_cell h2
  refine (callsIn_wide (n := 3)).1 ?_
  refine callsIn_of_wp_marks Try.func53 rfl trivial ?_ rfl
  simp only [Try.ntmps53, List.size_toArray, List.length_cons, List.length_nil, Nat.reduceAdd, Nat.reduceSub, Array.replicate_succ, Array.replicate_zero, List.push_toArray, List.append_toArray, List.nil_append, List.cons_append]
  gi_wp2_with (first | (refine ⟨trivial, ?_⟩; gi_at_call 45; refine (callsIn_wide.2 (toured_any q root _)).mono ?_; rintro e w0 ⟨rfl, rfl⟩))
  have hB0 : Below w.heap.size w (((w.alloc (.cells #[.func g c d] 107)).alloc (.cells #[.pointer q] 23)).alloc (.cells #[.int .u64 root] 28)) := below3 _ _ _ _
  have hU := h.below hB0
  have k1 : (((w.alloc (.cells #[.func g c d] 107)).alloc (.cells #[.pointer q] 23)).alloc (.cells #[.int .u64 root] 28)).cell? ⟨w.heap.size + 1, 0, .none⟩ = some (.pointer q) := by
    rw [World.cell?_alloc_past _ _ _ (by simp only [World.size_alloc]; omega), World.cell?_alloc_at _ _ _ _ (by simp only [World.size_alloc])]
    rfl
  have k2 : (((w.alloc (.cells #[.func g c d] 107)).alloc (.cells #[.pointer q] 23)).alloc (.cells #[.int .u64 root] 28)).cell? ⟨w.heap.size + 1 + 1, 0, .none⟩ = some (.int .u64 root) := by
    rw [World.cell?_alloc_at _ _ _ _ (by simp only [World.size_alloc])]
    rfl
  generalize (((w.alloc (.cells #[.func g c d] 107)).alloc (.cells #[.pointer q] 23)).alloc (.cells #[.int .u64 root] 28)) = W0 at *
  have L1 : w.heap.size + 1 < W0.heap.size := lt_of_cell k1
  have L2 : w.heap.size + 1 + 1 < W0.heap.size := lt_of_cell k2
  refine wpIn_rangeFunc_ownF (α := Empty) rfl (by omega) (gf := 69) (lb := #[.pointer (some ⟨w.heap.size + 1, 0, .none⟩), .pointer (some ⟨w.heap.size + 1 + 1, 0, .none⟩)]) rfl trivial (enters_of Try.func69 (by kernel_rfl) rfl)
    (no_seqT hU 2 w.heap.size _ _ k1 k2) belowK_t (belowK_b hB0.size) (Below.refl _ _) (fun x => x.elim)
    (fun _ W => Below w.heap.size w W) (fun _ _ _ => False)
    (ownFrom_below (Nat.le_refl _) hB0.size) (fun _ _ _ _ _ hs _ _ => hs) hB0 (fun x => x.elim) ?assign ?body ?done ?stop
  case assign => intro l x; exact x.elim
  case body => intro l pre x; exact x.elim
  case stop =>
    rintro D c pre W _ h
    exact h.elim
  case done =>
    rintro D xs W hD hxs hB hK
    gi_wp2
    refine ⟨by simp, .inl ⟨_, _, rfl, run_takeDeferred hK, ?_⟩⟩
    have hBz := hB.trans (belowK_b (w := w) (Nat.le_refl _) W D _ (.deferred none) (Nat.le_trans hB0.size hD) hK rfl rfl)
    exact ⟨_, results_none rfl _ _ _, ⟨_, rfl⟩, hBz⟩
theorem no_seqL {q : Option Addr} {root : Int} (h : Unm w (.pointer q)) (n n₀ b1 b2 : Nat) (h1 : w.cell? ⟨b1, 0, .none⟩ = some (.pointer q)) (h2 : w.cell? ⟨b2, 0, .none⟩ = some (.int .u64 root)) :
    SeqStopsK (α := Empty) Fence.wide n Try.prog 53 #[.pointer (some ⟨b1, 0, .none⟩), .pointer (some ⟨b2, 0, .none⟩)] (fun x => x.elim) (Below n₀) (fun xs => xs = []) (fun _ => False) 0 w := by
  have H1 : b1 < w.heap.size := lt_of_cell h1
  have H2 : b2 < w.heap.size := lt_of_cell h2
  refine seq_none (fun l W hb => ?_) n n₀
  have e : (#[Value.func (.yield l) #[] #[]] ++ #[.pointer (some ⟨b1, 0, .none⟩), .pointer (some ⟨b2, 0, .none⟩)] : Array Value) = #[.func (.yield l) #[] #[], .pointer (some ⟨b1, 0, .none⟩), .pointer (some ⟨b2, 0, .none⟩)] := by simp
  rw [e]
  exact no_leaves1 (h.below hb) _ ⟨_, _, _, rfl⟩ b1 b2 root ((hb.cell H1).trans h1) ((hb.cell H2).trans h2)
end
end Go.Proofs.Ytncjmlndjnfncaa
