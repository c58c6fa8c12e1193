import Derived.Test.YthdlefbaegbldaaGreatDoorTf
import Derived.OrdersIn
import Derived.Deep.RegionHeld3
import Derived.RangeFuncWrites
namespace Go.Proofs.YthdlefbaegbldaaGreatDoor
open Go.RowKit Go.Shelf
set_option linter.unusedVariables false
set_option linter.unusedSimpArgs false
set_option maxRecDepth 100000
section
variable {l n : Nat} {P : Program} {Q : Exit → Act → World → Prop} {ops : Array Oper} {md : Region.Mode}
theorem rowsIn_round {row : String} {args : Array Value} {w : World} {R : Value → World → Prop} (h : Rows P row args w R) : RowsIn (Fence.wide.inRound l) n P row args w R :=
  fun c cs _ => let ⟨v, w', r, s⟩ := h c cs; ⟨v, w', r, stepsIn_wide.2 s⟩
/-- What an operation comes to in a plain frame it comes to in a round's. -/
theorem uponIn_of_upon {o : Oper} {a : Act} {next : Act → World → Prop} {r : Result Next} (h : o.upon P a next Q r) : o.uponIn (Fence.wide.inRound l) n P a next Q r := by
  cases r with
  | ok x w' =>
    cases x with
    | value v => exact h
    | skip => exact h
    | defer d => exact h
    | enter f args => exact ⟨fun e => (by cases e), CallsIn.inRound l (callsIn_wide.2 h)⟩
    | row row args => exact ⟨fun e => (by cases e), rowsIn_round h⟩
    | _ => exact h.elim
  | halt hh w' =>
    cases hh with
    | panic v => exact h
    | _ => exact h.elim
theorem wpOpIn_of_wpOp {i : Nat} {K : Act → World → Prop} {a : Act} {w : World} (hd : ∀ (i : Nat) (o : Oper), ops[i]? = some o → ∀ c : Call, o.op ≠ Op.defer c) (hL : ¬ LetsOut Q) (h : wpOp P ops Q i K a w) : wpOpIn (Fence.wide.inRound l) n P ops Q i K a w := by
  unfold wpOp at h
  unfold wpOpIn
  cases hi : ops[i]? with
  | none => rw [hi] at h; exact h
  | some o =>
    rw [hi] at h
    simp only at h ⊢
    split at h
    · rename_i hw
      rw [if_pos hw]
      rcases h with h | h
      · refine ⟨fun f _ => trivial, ?_⟩
        have := uponIn_of_upon (l := l) (n := n) h
        rw [show (Fence.wide.inRound l).round = some l from rfl, Oper.semAt_some l _ o (hd i o hi)]
        exact this
      · exact absurd h.2 hL
    · rename_i hw
      rw [if_neg hw]
      exact ⟨fun f _ => trivial, h⟩
theorem wpOp_mono' {i : Nat} {K K' : Act → World → Prop} {a : Act} {w : World} (hk : ∀ a w, K a w → K' a w) (h : wpOpIn (Fence.wide.inRound l) n P ops Q i K a w) : wpOpIn (Fence.wide.inRound l) n P ops Q i K' a w := wpOpIn_mono hk h
theorem wpAnyIn_of_wpAny (hd : ∀ (i : Nat) (o : Oper), ops[i]? = some o → ∀ c : Call, o.op ≠ Op.defer c) (hL : ¬ LetsOut Q) : ∀ (fuel : Nat) (listed : Array Bool) (a : Act) (w : World), wpAny P md ops Q fuel listed a w → wpAnyIn (Fence.wide.inRound l) n P md ops Q fuel listed a w
  | 0, listed, a, w, h => h
  | fuel + 1, listed, a, w, h => ⟨h.1, fun i hi => wpOp_mono' (fun a w => wpAnyIn_of_wpAny hd hL fuel _ a w) (wpOpIn_of_wpOp hd hL (h.2 i hi))⟩
/-- A REGION THAT DRAWS, IN A ROUND, walked as in a plain frame, one condition on the world held. -/
theorem wpIn_region_held {id : Nat} {S : World → Prop} {a : Act} {w : World} (hm : P.follows .mixedOrders = true) (hd : ∀ (i : Nat) (o : Oper), ops[i]? = some o → ∀ c : Call, o.op ≠ Op.defer c) (hL : ¬ LetsOut Q) (hS : S w.drew)
    (h : S w.drew → wpAnyH P .any ops Q S ops.size (Array.replicate ops.size false) a w.drew) : (Code.region id ops true).wpIn (Fence.wide.inRound l) n P Q a w :=
  wpIn_region_any hm (wpAnyIn_of_wpAny hd hL _ _ _ _ (wpAny_of_held _ _ _ _ (h hS)))
theorem no_defer_of (h : (ops.all fun o => match o.op with | Op.defer _ => false | _ => true) = true) : ∀ (i : Nat) (o : Oper), ops[i]? = some o → ∀ c : Call, o.op ≠ Op.defer c := fun i o hi c e => by
  have hlt : i < ops.size := (Array.getElem?_eq_some_iff.1 hi).1
  have := Array.all_eq_true.1 h i hlt
  rw [(Array.getElem?_eq_some_iff.1 hi).2, e] at this
  cases this
end
theorem range_take (ys : List Int) (n : Nat) (h : n ≤ ys.length) : (List.range n).map (fun i => ys.getD i 0) = ys.take n := by
  apply List.ext_getElem?
  intro i
  rw [List.getElem?_map, List.getElem?_take]
  by_cases hi : i < n
  · rw [List.getElem?_range hi, if_pos hi]
    simp [List.getElem?_eq_getElem (by omega : i < ys.length)]
  · rw [List.getElem?_eq_none (by simp; omega), if_neg hi]
    rfl
section
variable {w v : World} {tb o p bb m N : Nat} {typ major minor links refs : Int} {size : Nat} {fr : List Nat} {B : Nat → Int} {L : List Nat}
theorem PuS.keep (h : PuS w tb o p bb m N typ major minor links refs size fr B L) (h1 : v.heap[tb]? = w.heap[tb]?) (h2 : v.heap[p]? = w.heap[p]?) (h3 : v.heap[bb]? = w.heap[bb]?) (h4 : v.heap[m]? = w.heap[m]?) : PuS v tb o p bb m N typ major minor links refs size fr B L :=
  ⟨(World.cell?_of_block h1).trans h.ct, h.ind.keep h1, ⟨h.ram.mem.keep h2 h3 h4, h.ram.nd, h.ram.lt, h.ram.thr⟩, fun i => (World.frozen?_of_block h1).trans (h.fz i), h.ap, h.fs, h.o1⟩
theorem PuS.tm (h : PuS w tb o p bb m N typ major minor links refs size fr B L) (i : Nat) (hi : TM tb p bb m i) : i < w.heap.size := by
  rcases hi with rfl | rfl | rfl | rfl
  · exact h.ind.lt
  · exact h.ram.mem.plt
  · exact h.ram.mem.blt
  · exact h.ram.mem.mlt
/-- Bytes are written into one block of the file. -/
theorem PuS.write (h : PuS w tb o p bb m N typ major minor links refs size fr B L) {f r : Nat} {vs : List Int} (hf : f ∈ fr) (hr : r + vs.length ≤ 4096) (hM : Mem v p bb m N (over B (f * 4096 + r) vs) (adr L) (hdL N L) (N - L.length)) (hF : Fra p bb m w v) : PuS v tb o p bb m N typ major minor links refs size fr (over B (f * 4096 + r) vs) L := by
  have hk : v.heap[tb]? = w.heap[tb]? := hF.block _ h.ind.lt h.ap.1 h.ap.2.1 h.ap.2.2
  refine ⟨(World.cell?_of_block hk).trans h.ct, h.ind.keep hk, ⟨hM, h.ram.nd, h.ram.lt, h.ram.thr.congr fun i hi k hk => ?_⟩, fun i => (World.frozen?_of_block hk).trans (h.fz i), h.ap, h.fs, h.o1⟩
  have hn : i ≠ f := fun e => (h.fs f hf).2.2 (e ▸ hi)
  unfold over
  rw [if_neg (by omega)]
theorem PuS.held (h : PuS w tb o p bb m N typ major minor links refs size fr B L) {f r n : Nat} (hf : f ∈ fr) (hn : 1 ≤ n) (hr : r + n ≤ 4096) : f * 4096 + r + n ≤ 4096 * N ∧ ∀ g : Nat, (f * 4096 + r) / 4096 ≤ g → g * 4096 < f * 4096 + r + n → hdL N L (2147483648 + g * 4096) = true := by
  obtain ⟨h1, h2, h3⟩ := h.fs f hf
  refine ⟨by omega, fun g hg1 hg2 => ?_⟩
  obtain rfl : g = f := by omega
  rw [hdL_addr N L g h2]
  simp [h3]
end
/-- The range over the pieces: how far the bytes are written. -/
structure IR (Y : World) (tb o p bb m N zB g go : Nat) (typ major minor links refs : Int) (size : Nat) (fr : List Nat) (B : Nat → Int) (L : List Nat) (xs : List Int) (pre : List (Nat × Nat)) (U : World) : Prop where
  pu : PuS U tb o p bb m N typ major minor links refs size fr (wrs B pre xs) L
  ch : ChS (fun i => TM tb p bb m i ∨ i = zB) Y U
  oth : ∀ j, (j < o ∨ o + 70 ≤ j) → U.cell? ⟨tb, j, .none⟩ = Y.cell? ⟨tb, j, .none⟩
  bx : ∃ q c, U.cell? ⟨zB, 0, .none⟩ = some (.slice q (xs.length - sumS pre) c) ∧ xs.length - sumS pre ≤ c ∧ c ≤ 9223372036854775807 ∧ (0 < xs.length - sumS pre → q = some ⟨g, go + sumS pre, .none⟩)
  fz : U.frozen? ⟨zB, 0, .none⟩ = false
  fl : tb < Y.heap.size ∧ p < Y.heap.size ∧ bb < Y.heap.size ∧ m < Y.heap.size ∧ zB < Y.heap.size
section
variable {Y U V : World} {tb o p bb m N zB g go : Nat} {typ major minor links refs : Int} {size : Nat} {fr : List Nat} {B : Nat → Int} {L : List Nat} {xs : List Int} {pre : List (Nat × Nat)}
theorem IR.own (Y : World) (tb o p bb m N zB g go : Nat) (typ major minor links refs : Int) (size : Nat) (fr : List Nat) (B : Nat → Int) (L : List Nat) (xs : List Int) : OwnFrom Y.heap.size (IR Y tb o p bb m N zB g go typ major minor links refs size fr B L xs) := by
  intro s A C row h gr hr
  have bl : ∀ x, x < Y.heap.size → C.heap[x]? = A.heap[x]? := fun x hx => gr.block x (Nat.lt_of_lt_of_le hx h.ch.size) (fun e => by have := (hr x e.symm).1; omega)
  obtain ⟨f1, f2, f3, f4, f5⟩ := h.fl
  obtain ⟨q, c, b1, b2⟩ := h.bx
  refine ⟨h.pu.keep (bl _ f1) (bl _ f2) (bl _ f3) (bl _ f4), ?_, fun j hj => (World.cell?_of_block (bl _ f1)).trans (h.oth j hj), ⟨q, c, (World.cell?_of_block (bl _ f5)).trans b1, b2⟩, (World.frozen?_of_block (bl _ f5)).trans h.fz, h.fl⟩
  exact ⟨gr.os.trans h.ch.os, gr.tape.trans h.ch.tape, gr.output.trans h.ch.output, Nat.le_trans h.ch.size gr.size, fun i hi hn => (bl i hi).trans (h.ch.block i hi hn)⟩
/-- One piece is written, and the bytes that are left kept. -/
theorem IR.step (h : IR Y tb o p bb m N zB g go typ major minor links refs size fr B L xs pre U) {x : Nat × Nat} {f r : Nat} (hx : x.1 = f * 4096 + r) (hf : f ∈ fr) (hn : sumS pre + x.2 ≤ xs.length) (h1 : 1 ≤ x.2) (hr : r + x.2 ≤ 4096) (hz : ¬ TM tb p bb m zB)
    (hM : Mem V p bb m N (over (wrs B pre xs) x.1 ((xs.drop (sumS pre)).take x.2)) (adr L) (hdL N L) (N - L.length)) (hF : Fra p bb m U V) {q : Option Addr} {c : Nat} (hc : xs.length - sumS pre - x.2 ≤ c ∧ c ≤ 9223372036854775807) (hq : 0 < xs.length - sumS pre - x.2 → q = some ⟨g, go + sumS pre + x.2, .none⟩) :
    KeepsFrom Y.heap.size U (V.setCell ⟨zB, 0, .none⟩ (.slice q (xs.length - sumS pre - x.2) c)) ∧ (∀ k, k < Y.heap.size → k ≠ p → k ≠ bb → k ≠ m → k ≠ zB → (V.setCell ⟨zB, 0, .none⟩ (.slice q (xs.length - sumS pre - x.2) c)).heap[k]? = U.heap[k]?) ∧ IR Y tb o p bb m N zB g go typ major minor links refs size fr B L xs (pre ++ [x]) (V.setCell ⟨zB, 0, .none⟩ (.slice q (xs.length - sumS pre - x.2) c)) := by
  obtain ⟨f1, f2, f3, f4, f5⟩ := h.fl
  obtain ⟨q0, c0, b1, _⟩ := h.bx
  have hzp : zB ≠ p := fun e => hz (.inr (.inl e))
  have hzb : zB ≠ bb := fun e => hz (.inr (.inr (.inl e)))
  have hzm : zB ≠ m := fun e => hz (.inr (.inr (.inr e)))
  have hzt : zB ≠ tb := fun e => hz (.inl e)
  have t1 : Trn zB V (V.setCell ⟨zB, 0, .none⟩ (.slice q (xs.length - sumS pre - x.2) c)) := Trn.setCell _ _ _ _
  have hlen : ((xs.drop (sumS pre)).take x.2).length = x.2 := by rw [List.length_take, List.length_drop]; omega
  have hzV : V.heap[zB]? = U.heap[zB]? := hF.block _ (lt_cell b1) hzp hzb hzm
  have sUV := hF.size
  have sYU := h.ch.size
  rw [hx] at hM
  have hw := h.pu.write hf (by rw [hlen]; exact hr) hM hF
  have all : ∀ k, k < Y.heap.size → k ≠ p → k ≠ bb → k ≠ m → k ≠ zB → (V.setCell ⟨zB, 0, .none⟩ (.slice q (xs.length - sumS pre - x.2) c)).heap[k]? = U.heap[k]? := fun k hk a1 a2 a3 a4 => (t1.block k (by omega) a4).trans (hF.block k (by omega) a1 a2 a3)
  refine ⟨⟨Nat.le_trans sUV t1.size, fun k o' hk hk2 ho' => ?_⟩, all, ⟨?_, ?_, fun j hj => ?_, ?_, ?_, h.fl⟩⟩
  · have hlt := (Array.getElem?_eq_some_iff.1 hk2).1
    rw [t1.block k (by omega) (by omega), hF.block k hlt (by omega) (by omega) (by omega)]
    exact hk2
  · rw [wrs_push, hx]
    exact hw.keep (t1.block _ (Nat.lt_of_lt_of_le h.pu.ind.lt sUV) (fun e => hzt e.symm)) (t1.block _ hw.ram.mem.plt (fun e => hzp e.symm)) (t1.block _ hw.ram.mem.blt (fun e => hzb e.symm)) (t1.block _ hw.ram.mem.mlt (fun e => hzm e.symm))
  · refine (h.ch.trans (ChS.ofFra hF (.inl (.inr (.inl rfl))) (.inl (.inr (.inr (.inl rfl)))) (.inl (.inr (.inr (.inr rfl)))))).trans (ChS.ofTrn t1 (.inl (.inr rfl)))
  · rw [World.cell?_of_block (all tb f1 h.pu.ap.1 h.pu.ap.2.1 h.pu.ap.2.2 (fun e => hzt e.symm))]
    exact h.oth j hj
  · refine ⟨q, c, ?_, by rw [sumS_push]; omega, hc.2, fun h0 => ?_⟩
    · rw [World.cell?_setCell_same _ _ _ ((World.cell?_of_block hzV).trans b1), sumS_push, Nat.sub_sub]
    · rw [sumS_push] at h0
      rw [hq (by omega), sumS_push, ← Nat.add_assoc]
  · rw [World.frozen?_setCell, World.frozen?_of_block hzV]
    exact h.fz
end
end Go.Proofs.YthdlefbaegbldaaGreatDoor
