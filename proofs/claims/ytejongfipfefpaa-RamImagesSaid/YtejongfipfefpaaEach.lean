import Derived.Test.YtejongfipfefpaaFreeL
import Derived.Test.YtejongfipfefpaaNoI
namespace Go.Proofs.Ytejongfipfefpaa
open Go.RowKit Go.Shelf
attribute [local go_sem] Oper.semAt_some
set_option linter.unusedVariables false
set_option linter.unusedSimpArgs false
theorem room_of_none {F : Fence} (hd : F.depth = none) (k : Nat) : F.room k := fun d h => by rw [hd] at h; cases h
theorem round_any {F : Fence} (hd : F.depth = none) {m m' : Nat} {P : Program} {l : Nat} {f : FuncId} {tmps : Array Value} {assign body : Code} {w : World} {R : Ending → World → Prop}
    (h : RoundIn F m P l f tmps assign body w R) : RoundIn F m' P l f tmps assign body w R := ⟨h.1, fun c cs _ => h.2 c cs (room_of_none hd _)⟩
theorem yield_any {F : Fence} (hd : F.depth = none) {m : Nat} (m' : Nat) {P : Program} {l : Nat} {args : Array Value} {W : World} {R : Ending → World → Prop} (h : YieldAt F m P l args W R) : YieldAt F m' P l args W R := by
  obtain ⟨fn, tmps, assign, body, hy, hR⟩ := h
  exact ⟨fn, tmps, assign, body, hy, round_any hd hR⟩
/-- The list that an iterator ranges over: its own row, of which the caller keeps off. -/
def RowL (Good : Nat → World → Prop) (W : World) (q : Option Addr) (xs : List Nat) : Prop := xs.length = 0 ∨ ∃ g cur, q = some ⟨g, 0, .none⟩ ∧ Good g W ∧ W.heap[g]? = some (.cells cur 26 (0, 0)) ∧ ∀ i (h : i < xs.length), cur[i]? = some (adv xs[i])
theorem RowL.cell {Good : Nat → World → Prop} {W : World} {q : Option Addr} {xs : List Nat} (h : RowL Good W q xs) {i : Nat} (hi : i < xs.length) : ∃ g, q = some ⟨g, 0, .none⟩ ∧ W.cell? ⟨g, i, .none⟩ = some (adv xs[i]) := by
  rcases h with h | ⟨g, cur, rfl, _, hh, hc⟩
  · omega
  · exact ⟨g, rfl, by simp only [World.cell?, hh]; exact hc i hi⟩
theorem RowL.keep {Good : Nat → World → Prop} {Kp : World → World → Prop} (hG : ∀ W W' g cur, Kp W W' → Good g W → W.heap[g]? = some (.cells cur 26 (0, 0)) → W'.heap[g]? = some (.cells cur 26 (0, 0)) ∧ Good g W') {W W' : World} {q : Option Addr} {xs : List Nat} (h : RowL Good W q xs) (k : Kp W W') : RowL Good W' q xs := by
  rcases h with h | ⟨g, cur, rfl, hg, hh, hc⟩
  · exact .inl h
  · obtain ⟨h1, h2⟩ := hG W W' g cur k hg hh
    exact .inr ⟨g, cur, rfl, h2, h1, hc⟩
set_option maxRecDepth 100000 in
set_option maxHeartbeats 1000000 in
theorem each_in (n l : Nat) (xs : List Nat) (J Jx : List Nat → World → Prop) (Kp : World → World → Prop) (Good : Nat → World → Prop)
    (hG : ∀ W W' g cur, Kp W W' → Good g W → W.heap[g]? = some (.cells cur 26 (0, 0)) → W'.heap[g]? = some (.cells cur 26 (0, 0)) ∧ Good g W')
    (hY : ∀ m pre x W, J pre W → pre.length < xs.length → YieldAt Fence.wide m Try.prog l #[adv x] W fun e W' => (e = .returned (.bool true) ∧ J (pre ++ [x]) W' ∧ Kp W W') ∨ (e = .returned (.bool false) ∧ Jx (pre ++ [x]) W'))
    (q : Option Addr) (c : Nat) (W : World) (hl : xs.length ≤ 4096) (hr : RowL Good W q xs) (h0 : J [] W) :
    CallsIn Fence.wide n Try.prog 47 #[.slice q xs.length c, .func (.yield l) #[] #[]] W fun e W' => (∃ v, e = .returned v) ∧ ((∃ ys, ys = xs ∧ J ys W') ∨ (∃ pre, pre <+: xs ∧ Jx pre W')) := by
  refine callsIn_of_wp Try.func47 rfl trivial ?_ rfl
  simp only [Try.ntmps47, List.size_toArray, List.length_cons, List.length_nil, Nat.reduceAdd, Nat.reduceSub, Array.replicate_succ, Array.replicate_zero, List.push_toArray, List.append_toArray, List.nil_append, List.cons_append]
  gi_wp2
  gi_loopw [8] (fun k wr => ∃ i : Nat, i ≤ xs.length ∧ k = .int .i64 i ∧ J (xs.take i) wr ∧ RowL Good wr q xs) (fun k _ => xs.length - (intOf k).toNat)
  case atStart => exact ⟨0, by omega, rfl, by simpa using h0, hr⟩
  case round =>
    obtain ⟨i, hi, rfl, hJ, hrow⟩ := hrel
    by_cases hin : i < xs.length
    · have i1 : (i : Int) < xs.length := by omega
      obtain ⟨g, rfl, hc⟩ := hrow.cell hin
      obtain ⟨fn, tmps, assign, body, hy, hR⟩ := hY (n - 1) (xs.take i) xs[i] wr hJ (by rw [List.length_take]; omega)
      have HR : Hid (RowL Good wr (some ⟨g, 0, .none⟩) xs) := hrow
      have htk : xs.take (i + 1) = xs.take i ++ [xs[i]] := by rw [List.take_add_one, List.getElem?_eq_getElem hin]; rfl
      have HT : Hid (xs.take (i + 1) = xs.take i ++ [xs[i]]) := htk
      have HP : Hid (xs.take i ++ [xs[i]] <+: xs) := htk ▸ List.take_prefix _ _
      clear hrow htk hY
      simp only [adv] at hy hc
      gi_wp2
      refine ⟨fun h => (by cases h), hR.mono ?_⟩
      clear hR hy
      rintro e W3 (⟨rfl, hJ3, hk3⟩ | ⟨rfl, hJx3⟩)
      · have HJ : Hid (J (xs.take (i + 1)) W3 ∧ RowL Good W3 (some ⟨g, 0, .none⟩) xs) := ⟨HT.out ▸ hJ3, HR.out.keep hG hk3⟩
        clear hJ3 hk3 hJ
        gi_wp2
        exact ⟨⟨i + 1, by omega, by simp, HJ.out.1, HJ.out.2⟩, by simp [intOf]; omega⟩
      · have HJ : Hid (Jx (xs.take i ++ [xs[i]]) W3) := hJx3
        clear hJx3 hJ
        gi_wp2
        refine bodyPost_ret (results_none rfl _ _ _) rfl ?_
        exact ⟨⟨_, rfl⟩, .inr ⟨_, HP.out, HJ.out⟩⟩
    · have i1 : ¬ ((i : Int) < xs.length) := by omega
      gi_wp2
      go_end0
      have : i = xs.length := by omega
      subst this
      exact ⟨⟨_, rfl⟩, .inl (by simpa using hJ)⟩
theorem rowL_of {Good : Nat → World → Prop} {W : World} {X c : Nat} {q : Option Addr} {L : List Nat} (h : W.ownsRow X 26 1 (.slice q L.length c) L.length (L.map adv)) (hg : ∀ g, X ≤ g → Good g W) : RowL Good W q L := by
  rcases h.2 with ⟨_, h0⟩ | ⟨g, cap, cur, hv, hX, hh, hn, hc, hs, ht⟩
  · exact .inl h0
  · injection hv with e1 e2 e3
    subst e1
    refine .inr ⟨g, cur, rfl, hg g hX, hh, fun i hi => ?_⟩
    rw [← Array.getElem?_toList, ← List.getElem?_take_of_lt (show i < L.length * 1 by omega), ht, List.getElem?_map, List.getElem?_eq_getElem hi]
    rfl
set_option maxRecDepth 100000 in
set_option maxHeartbeats 1000000 in
/-- FreeList's iterator: all free frames, as they were when the ranging began; or a part, where the body leaves. -/
theorem free_seq {w : World} {p b m N : Nat} {B : Nat → Int} {L : List Nat} (h : Ram w p b m N B L) (n Bn : Nat) (hBl : Bn < w.heap.size) (hBc : w.cell? ⟨Bn, 0, .none⟩ = some (.pointer (some ⟨p, 0, .none⟩))) (Kp : World → World → Prop) (Good : Nat → World → Prop)
    (hG : ∀ W W' g cur, Kp W W' → Good g W → W.heap[g]? = some (.cells cur 26 (0, 0)) → W'.heap[g]? = some (.cells cur 26 (0, 0)) ∧ Good g W')
    (hN : ∀ W W2 g, Below w.heap.size w W → Below W.heap.size W W2 → W.heap.size ≤ g → Good g W2) :
    SeqStopsK (α := Nat) Fence.wide n Try.prog 45 #[.pointer (some ⟨Bn, 0, .none⟩)] (fun x => #[adv x]) Kp (fun xs => xs = L) (fun pre => pre <+: L) L.length w := by
  intro l J Jx W hW hJ hJx hY h0
  have hRW : Ram W p b m N B L := ⟨h.mem.below hW, h.nd, h.lt, h.thr⟩
  have hl := length_le N L h.mem.n1 h.nd h.lt
  have n2 := h.mem.n2
  have c1 := freeNow_any hRW
  have k0 := (hW.cell (p := ⟨Bn, 0, .none⟩) hBl).trans hBc
  have key : Hid (∀ q c W2, W2.ownsRow W.heap.size 26 1 (.slice q L.length c) L.length (L.map adv) → Below W.heap.size W W2 → CallsIn Fence.wide (n - 1) Try.prog 47 #[.slice q L.length c, .func (.yield l) #[] #[]] W2 fun e W' => (∃ v, e = .returned v) ∧ ((∃ ys, ys = L ∧ J ys W') ∨ (∃ pre, pre <+: L ∧ Jx pre W'))) := fun q c W2 hrow hb2 =>
    each_in (n - 1) l L J Jx Kp Good hG (fun m pre x W1 hj hlt => yield_any rfl m (hY pre x W1 hj hlt)) q c W2 (by omega) (rowL_of hrow (fun g hg => hN W W2 g hW hb2 hg)) (hJ [] W W2 none h0 ⟨hb2.os, hb2.tape, hb2.output, hb2.size, fun k hk _ => hb2.block k hk⟩ (fun r e => by cases e))
  clear hRW hJ hJx hY h0 h hG hN
  refine callsIn_of_wp Try.func45 rfl trivial ?_ rfl
  simp only [Try.ntmps45, List.size_toArray, List.length_cons, List.length_nil, Nat.reduceAdd, Nat.reduceSub, Array.replicate_succ, Array.replicate_zero, List.push_toArray, List.append_toArray, List.nil_append, List.cons_append]
  gi_wp2_with (first | (refine ⟨trivial, fun h => (by cases h), ?_⟩; gi_at_call 46; refine (callsIn_wide.2 c1).mono ?_; rintro e W2 ⟨q, c, rfl, hrow, hb2⟩; have c2 := key.out q c W2 hrow hb2; clear hrow hb2) | (refine ⟨trivial, fun h => (by cases h), ?_⟩; gi_at_call 47; refine c2.mono ?_; rintro e W3 ⟨⟨u, rfl⟩, hJJ⟩))
  go_end0
  exact ⟨⟨_, rfl⟩, by simpa using hJJ⟩
end Go.Proofs.Ytejongfipfefpaa
