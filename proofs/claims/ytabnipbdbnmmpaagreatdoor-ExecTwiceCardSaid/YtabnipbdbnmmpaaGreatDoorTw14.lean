import Derived.Test.YtabnipbdbnmmpaaGreatDoorTw13
import Derived.Test.YtabnipbdbnmmpaaGreatDoorTw11
import Derived.Deep.LoopGhost
import Derived.RangeFuncNested
import Derived.RangeFuncBound
import Derived.RangeFuncCalls
import Derived.RangeFuncLeaves
import Derived.RangeFuncFrom
import Derived.Shelf.Abstract
import Derived.OwnWalkIn
import Derived.TacticsInMore
import Derived.LoopNIn
import Derived.LoopIn
import Derived.RangeFuncWrites
import Derived.WalkKit
import Derived.OrdersIn
import Derived.Deep.RegionHeld3
import Derived.Maps.AppendAt
set_option linter.unusedVariables false
set_option linter.unusedSimpArgs false
namespace Go.Proofs.YtabnipbdbnmmpaaGreatDoor.Rm
open Go.RowKit Go.Shelf
attribute [local go_sem] Oper.semAt_some
attribute [local irreducible] eM evs
structure Mv (Good : Nat → World → Prop) (W W' : World) : Prop where
 os : W'.os = W.os
 tape : W'.tape = W.tape
 output : W'.output = W.output
 size : W.heap.size ≤ W'.heap.size
 block : ∀ k, k < W.heap.size → ¬ Good k W → W'.heap[k]? = W.heap[k]?
theorem Mv.below {Good : Nat → World → Prop} {W W' : World} (h : Below W.heap.size W W') : Mv Good W W' := ⟨h.os, h.tape, h.output, h.size, fun k hk _ => h.block k hk⟩
structure Gd {α : Type} (Good : Nat → World → Prop) (Kp : World → World → Prop) (J : List α → World → Prop) : Prop where
 keep : ∀ W W' g o, Kp W W' → Good g W → W.heap[g]? = some o → W'.heap[g]? = some o ∧ Good g W'
 move : ∀ s W W', J s W → Mv Good W W' → J s W'
 mono : ∀ s W W' g, J s W → Mv Good W W' → Good g W → Good g W'
 fresh : ∀ s W W' g, J s W → Mv Good W W' → W.heap.size ≤ g → Good g W'
structure TS (w : World) (T p b mm N : Nat) (B : Nat → Int) (L : List Nat) (F : Nat → Option Nat) (r m : Nat) (tm : Int → Option (Int × Int)) (n c : Nat) : Prop where
 ram : Ram w p b mm N B L
 tour : Tour w T (.pointer (some ⟨p, 0, .none⟩)) (ad r) (vaP (c / 3)) (.map (some m))
 map : Tm w m tm n
 nc : n ≤ c
 ti : TI F c tm
theorem TS.below {w w' : World} {T p b mm N : Nat} {B : Nat → Int} {L : List Nat} {F : Nat → Option Nat} {r m : Nat} {tm : Int → Option (Int × Int)} {n c : Nat} (h : TS w T p b mm N B L F r m tm n c) (k : Below w.heap.size w w') : TS w' T p b mm N B L F r m tm n c :=
 ⟨h.ram.below k, h.tour.below k, h.map.below k, h.nc, h.ti⟩
theorem TS.keep {w w' : World} {T p b mm N : Nat} {B : Nat → Int} {L : List Nat} {F : Nat → Option Nat} {r m : Nat} {tm : Int → Option (Int × Int)} {n c : Nat} (h : TS w T p b mm N B L F r m tm n c) (h1 : w'.heap[p]? = w.heap[p]?) (h2 : w'.heap[b]? = w.heap[b]?) (h3 : w'.heap[mm]? = w.heap[mm]?) (h4 : w'.heap[T]? = w.heap[T]?) (h5 : w'.heap[m]? = w.heap[m]?) : TS w' T p b mm N B L F r m tm n c := by
 refine ⟨⟨h.ram.mem.keep h1 h2 h3, h.ram.nd, h.ram.lt, h.ram.thr⟩, ?_, ?_, h.nc, h.ti⟩
 ·obtain ⟨c0, c1, c2, c3, f2⟩ := h.tour
  exact ⟨(World.cell?_of_block (a := ⟨T, 0, .none⟩) h4).trans c0, (World.cell?_of_block (a := ⟨T, 1, .none⟩) h4).trans c1, (World.cell?_of_block (a := ⟨T, 2, .none⟩) h4).trans c2, (World.cell?_of_block (a := ⟨T, 3, .none⟩) h4).trans c3, (World.frozen?_of_block (a := ⟨T, 2, .none⟩) h4).trans f2⟩
 ·obtain ⟨D, ⟨es, cl, hb, rr⟩, h7⟩ := h.map.own
  exact ⟨D, ⟨es, cl, h5.trans hb, rr⟩, h7⟩
theorem nK_mod (x : Nat) : nK x % 3 ≠ 2 := by unfold nK; split <;> omega
theorem TI.leaf {F : Nat → Option Nat} {c : Nat} {tm : Int → Option (Int × Int)} (t : TI F c tm) (hc : c % 3 = 2) : TI F (c + 1) tm := by
 intro x f h0 hf
 rw [t x f h0 hf]
 have := nK_mod x
 by_cases h : nK x < c
 ·rw [if_pos h, if_pos (by omega)]
 ·rw [if_neg h, if_neg (by omega)]
end Go.Proofs.YtabnipbdbnmmpaaGreatDoor.Rm
namespace Go.Proofs.YtabnipbdbnmmpaaGreatDoor.Rm
open Go Go.RowKit Go.Shelf
attribute [local go_sem] Oper.semAt_some
attribute [local irreducible] eM evs
def KpG (Good : Nat → World → Prop) (p b mm : Nat) (W W' : World) : Prop := (∀ g o, Good g W → W.heap[g]? = some o → W'.heap[g]? = some o ∧ Good g W') ∧ W'.heap[p]? = W.heap[p]? ∧ W'.heap[b]? = W.heap[b]? ∧ W'.heap[mm]? = W.heap[mm]? ∧ W.heap.size ≤ W'.heap.size
structure GdJ {α : Type} (Good : Nat → World → Prop) (J : List α → World → Prop) : Prop where
 move : ∀ s W W', J s W → Mv Good W W' → J s W'
 mono : ∀ s W W' g, J s W → Mv Good W W' → Good g W → Good g W'
 fresh : ∀ s W W' g, J s W → Mv Good W W' → W.heap.size ≤ g → Good g W'
section
variable {w : World} {p b mm N r : Nat} {B : Nat → Int} {L : List Nat} {F : Nat → Option Nat} {lf : Nat → Nat → Int}
end
end Go.Proofs.YtabnipbdbnmmpaaGreatDoor.Rm
namespace Go.Proofs.YtabnipbdbnmmpaaGreatDoor.Rm
open Go Go.RowKit Go.Shelf
section
variable {l n : Nat} {P : Program} {Q : Exit → Act → World → Prop} {ops : Array Oper} {md : Region.Mode}
end
theorem step_append_at {P : Program} {ops : Array Oper} {o : Oper} {a : Act} {w : World} {K : Act → World → Prop} {Q : Exit → Act → World → Prop} {E : Prop} (hgd : o.guard = none) (s x : Operand) (t : TypeId)
  (hop : o.op = .call { callee := .builtin .append, args := #[s, x], argTypes := #[t, t] }) (base : Nat) (e : TypeId) (i : TypeInfo) (z : Value) (size bytes : Nat) (ht : P.underlying t = some (.slice e)) (hi : P.info? e = some i) (hz : i.zero = some z)
  (hsize : i.size = size) (hby : i.bytes = bytes) (hzs : z.cells.size = size) (hsz : 0 < size) (v : Value) (k : Nat) (xs : List Value) (hs : a.eval s = v) (hown : w.ownsRow base e size v k xs)
  (ad : Addr) (m c : Nat) (news : List Value) (hx : a.eval x = .slice (some ad) m c) (hl : news.length = m * size) (hnews : ∀ j u, news[j]? = some u → w.cell? (ad.add j) = some u) (h1 : ∀ u ∈ news, u.oneCell' = true)
  (h63 : k + m ≤ maxLen) (hbytes : (k + m) * bytes ≤ 140737488355328) (hbase : base ≤ w.heap.size)
  (h : ∀ v' w', w'.ownsRow base e size v' (k + m) (xs ++ news) → w.grownBy w' v.ownBlock → (v'.ownBlock = v.ownBlock ∨ v'.ownBlock = some w.heap.size) → K (a.put o.dst v') w') : if Region.wanted o (yielded ops a.tmps) = true then Oper.wp P o a w K Q else E := by
 have hw : Region.wanted o (yielded ops a.tmps) = true := by simp [Region.wanted, hgd]
 rw [if_pos hw]
 obtain ⟨v', w', hrun, r1, r2, _, r4⟩ := run_append_own_at (P := P) w base t o.type e i z size bytes ht hi hz hsize hby hzs hsz v k xs hown ad m c news hl hnews h1 h63 hbytes hbase
 unfold Oper.wp
 simp [execOp, hop, resolve, invoke, builtin, hs, hx, hrun, Result.andThen]
 exact h v' w' r1 r2 r4
def ndl (r : Nat) (pre : List Ev) : List Int := ad r :: pre.filterMap (fun x => if x.p.k = 3 then some (adE x.p.e) else none)
end Go.Proofs.YtabnipbdbnmmpaaGreatDoor.Rm
namespace Go.Proofs.YtabnipbdbnmmpaaGreatDoor.Rm
open Go Go.RowKit Go.Shelf
attribute [local go_sem] Oper.semAt_some
attribute [local irreducible] eM evs
theorem info_of (t : TypeId) (k b : Nat) (h1 : (Tryz.prog.info? t).map (fun i => (i.size, i.bytes)) = some (k, b)) (h2 : ((Tryz.prog.info? t).bind (·.zero)).map (·.cells.size) = some k) :
  ∃ i z, Tryz.prog.info? t = some i ∧ i.zero = some z ∧ i.size = k ∧ i.bytes = b ∧ z.cells.size = k := by
 cases hi : Tryz.prog.info? t with
 | none => rw [hi] at h1; cases h1
 | some i =>
  rw [hi] at h1 h2
  simp only [Option.map_some, Option.some.injEq, Prod.mk.injEq, Option.bind_some] at h1 h2
  cases hz : i.zero with
  | none => rw [hz] at h2; cases h2
  | some z =>
   rw [hz] at h2
   exact ⟨i, z, rfl, hz, h1.1, h1.2, by simpa using h2⟩
def wv (l : List Int) : List Value := l.map (Value.int .u64)
theorem own_block {w w' : World} {X e k n c g : Nat} {xs : List Value} (h : w.ownsRow X e k (.slice (some ⟨g, 0, .none⟩) n c) n xs) (hb : w'.heap[g]? = w.heap[g]?) : w'.ownsRow X e k (.slice (some ⟨g, 0, .none⟩) n c) n xs := by
 refine ⟨h.1, ?_⟩
 rcases h.2 with ⟨hv, _⟩ | ⟨g', cap, cur, hv, h1, h2, h3⟩
 ·cases hv
 ·refine .inr ⟨g', cap, cur, hv, h1, ?_, h3⟩
  injection hv with e1 e2 e3
  injection e1 with e1
  injection e1 with e1
  subst e1
  exact hb.trans h2
theorem own_lt {w : World} {X e k n c g : Nat} {xs : List Value} (h : w.ownsRow X e k (.slice (some ⟨g, 0, .none⟩) n c) n xs) : X ≤ g ∧ g < w.heap.size ∧ ∃ cur t f, w.heap[g]? = some (.cells cur t f) := by
 rcases h.2 with ⟨hv, _⟩ | ⟨g', cap, cur, hv, h1, h2, h3⟩
 ·cases hv
 ·injection hv with e1 e2 e3
  injection e1 with e1
  injection e1 with e1
  subst e1
  exact ⟨h1, (Array.getElem?_eq_some_iff.1 h2).1, _, _, _, h2⟩
structure NdI (w0 : World) (p b mm N : Nat) (B : Nat → Int) (L : List Nat) (r Bn : Nat) (pre : List Ev) (W : World) : Prop where
 ram : Ram W p b mm N B L
 bel : Below w0.heap.size w0 W
 row : ∃ g c, W.cell? ⟨Bn, 0, .none⟩ = some (.slice (some ⟨g, 0, .none⟩) (ndl r pre).length c) ∧ W.ownsRow w0.heap.size 23 1 (.slice (some ⟨g, 0, .none⟩) (ndl r pre).length c) (ndl r pre).length (wv (ndl r pre)) ∧ g ≠ Bn
 frz : W.frozen? ⟨Bn, 0, .none⟩ = false
def NdG (w0 : World) (Bn : Nat) (k : Nat) (W : World) : Prop := w0.heap.size ≤ k ∧ k ≠ Bn ∧ ∀ g n c, W.cell? ⟨Bn, 0, .none⟩ = some (.slice (some ⟨g, 0, .none⟩) n c) → k ≠ g
section
variable {w0 w : World} {p b mm N r Bn : Nat} {B : Nat → Int} {L : List Nat}
theorem NdI.keep {pre : List Ev} {W W' : World} (h : NdI w0 p b mm N B L r Bn pre W) (hlow : ∀ k, k < w0.heap.size → W'.heap[k]? = W.heap[k]?) (hB : W'.heap[Bn]? = W.heap[Bn]?) (hg : ∀ g n c, W.cell? ⟨Bn, 0, .none⟩ = some (.slice (some ⟨g, 0, .none⟩) n c) → W'.heap[g]? = W.heap[g]?) (hp : p < w0.heap.size ∧ b < w0.heap.size ∧ mm < w0.heap.size) (h1 : W'.os = W.os) (h2 : W'.tape = W.tape) (h3 : W'.output = W.output) (h4 : W.heap.size ≤ W'.heap.size) : NdI w0 p b mm N B L r Bn pre W' := by
 obtain ⟨g, c, k1, k2, k3⟩ := h.row
 refine ⟨⟨h.ram.mem.keep (hlow p hp.1) (hlow b hp.2.1) (hlow mm hp.2.2), h.ram.nd, h.ram.lt, h.ram.thr⟩, ⟨h1.trans h.bel.os, h2.trans h.bel.tape, h3.trans h.bel.output, Nat.le_trans h.bel.size h4, fun k hk => (hlow k hk).trans (h.bel.block k hk)⟩, ⟨g, c, (World.cell?_of_block (a := ⟨Bn, 0, .none⟩) hB).trans k1, own_block k2 (hg g _ _ k1), k3⟩, (World.frozen?_of_block (a := ⟨Bn, 0, .none⟩) hB).trans h.frz⟩
theorem NdI.gd (hp : p < w0.heap.size ∧ b < w0.heap.size ∧ mm < w0.heap.size) : GdJ (NdG w0 Bn) (NdI w0 p b mm N B L r Bn) := by
 have cellB : ∀ W W', Mv (NdG w0 Bn) W W' → Bn < W.heap.size → W'.heap[Bn]? = W.heap[Bn]? := fun W W' hm hl => hm.block Bn hl (fun e => e.2.1 rfl)
 have lt : ∀ s W, NdI w0 p b mm N B L r Bn s W → Bn < W.heap.size := fun s W h => by obtain ⟨g, c, k1, _⟩ := h.row; exact lt_of_cell k1
 refine ⟨fun s W W' hs hm => ?_, fun s W W' k hs hm hk => ⟨hk.1, hk.2.1, fun g n c hc => ?_⟩, fun s W W' k hs hm hk => ⟨Nat.le_trans hs.bel.size hk, ?_, fun g n c hc => ?_⟩⟩
 ·refine hs.keep (fun k hk => hm.block k (Nat.lt_of_lt_of_le hk hs.bel.size) (fun e => by have := e.1; omega)) (cellB W W' hm (lt s W hs)) (fun g n c hc => ?_) hp hm.os hm.tape hm.output hm.size
  obtain ⟨g', c', k1, k2, k3⟩ := hs.row
  rw [k1] at hc
  simp only [Option.some.injEq, Value.slice.injEq, Addr.mk.injEq, and_true] at hc
  obtain ⟨rfl, _, _⟩ := hc
  exact hm.block _ (own_lt k2).2.1 (fun e => e.2.2 _ _ _ k1 rfl)
 ·rw [World.cell?_of_block (a := ⟨Bn, 0, .none⟩) (cellB W W' hm (lt s W hs))] at hc
  exact hk.2.2 g n c hc
 ·have := lt s W hs; omega
 ·rw [World.cell?_of_block (a := ⟨Bn, 0, .none⟩) (cellB W W' hm (lt s W hs))] at hc
  obtain ⟨g', c', k1, k2, k3⟩ := hs.row
  rw [k1] at hc
  simp only [Option.some.injEq, Value.slice.injEq, Addr.mk.injEq, and_true] at hc
  obtain ⟨rfl, _, _⟩ := hc
  have := (own_lt k2).2.1
  omega
theorem NdI.own (hp : p < w0.heap.size ∧ b < w0.heap.size ∧ mm < w0.heap.size) (hw : w0.heap.size ≤ w.heap.size ∧ Bn < w.heap.size) : OwnFrom w.heap.size (NdI w0 p b mm N B L r Bn) := by
 intro s W W' row hs hg hr
 have key : ∀ k, k < W.heap.size → (k < w.heap.size ∨ ∃ cur t f, W.heap[k]? = some (.cells cur t f)) → W'.heap[k]? = W.heap[k]? := fun k hk hor => hg.block k hk (fun e => by
  obtain ⟨h1, o, ho, hc⟩ := hr k e.symm
  rcases hor with h | ⟨cur, t, f, h⟩
  ·omega
  ·rw [h] at ho
   injection ho with ho
   subst ho
   cases hc)
 obtain ⟨g', c', k1, k2, k3⟩ := hs.row
 refine hs.keep (fun k hk => key k (Nat.lt_of_lt_of_le hk hs.bel.size) (.inl (by omega))) (key Bn (lt_of_cell k1) (.inl hw.2)) (fun g n c hc => ?_) hp hg.os hg.tape hg.output hg.size
 rw [k1] at hc
 simp only [Option.some.injEq, Value.slice.injEq, Addr.mk.injEq, and_true] at hc
 obtain ⟨rfl, _, _⟩ := hc
 have h5 := own_lt k2
 exact key _ h5.2.1 (.inr h5.2.2)
end
theorem C6.keep {W W' : World} {P : Nat} {x0 x1 x2 x3 x4 x5 : Value} (h : C6 W P x0 x1 x2 x3 x4 x5) (e : W'.heap[P]? = W.heap[P]?) : C6 W' P x0 x1 x2 x3 x4 x5 :=
 ⟨(World.cell?_of_block (a := ⟨P, 0, .none⟩) e).trans h.c0, (World.cell?_of_block (a := ⟨P, 1, .none⟩) e).trans h.c1, (World.cell?_of_block (a := ⟨P, 2, .none⟩) e).trans h.c2, (World.cell?_of_block (a := ⟨P, 3, .none⟩) e).trans h.c3, (World.cell?_of_block (a := ⟨P, 4, .none⟩) e).trans h.c4, (World.cell?_of_block (a := ⟨P, 5, .none⟩) e).trans h.c5,
  (World.frozen?_of_block (a := ⟨P, 0, .none⟩) e).trans h.f0, (World.frozen?_of_block (a := ⟨P, 1, .none⟩) e).trans h.f1, (World.frozen?_of_block (a := ⟨P, 2, .none⟩) e).trans h.f2, (World.frozen?_of_block (a := ⟨P, 3, .none⟩) e).trans h.f3, (World.frozen?_of_block (a := ⟨P, 4, .none⟩) e).trans h.f4, (World.frozen?_of_block (a := ⟨P, 5, .none⟩) e).trans h.f5⟩
theorem cells_of {W : World} {P i : Nat} {v : Value} (h : W.cell? ⟨P, i, .none⟩ = some v) {o : Obj} (ho : W.heap[P]? = some o) : o.isCells = true := by
 unfold World.cell? at h
 simp only [ho] at h
 cases o <;> first | rfl | simp at h
section
variable {w0 : World} {p b mm N r Bn : Nat} {B : Nat → Int} {L : List Nat}
theorem NdI.step {pre : List Ev} {x : Ev} {W W1 V : World} {Y g c g' c' n : Nat} (hI : NdI w0 p b mm N B L r Bn pre W) (k1 : W.cell? ⟨Bn, 0, .none⟩ = some (.slice (some ⟨g, 0, .none⟩) n c)) (k2 : W.ownsRow w0.heap.size 23 1 (.slice (some ⟨g, 0, .none⟩) n c) n (wv (ndl r pre))) (k3 : g ≠ Bn) (b1 : Below W.heap.size W W1)
  (own' : V.ownsRow w0.heap.size 23 1 (.slice (some ⟨g', 0, .none⟩) (ndl r (pre ++ [x])).length c') (ndl r (pre ++ [x])).length (wv (ndl r (pre ++ [x])))) (grow : W1.grownBy V (some g)) (hg' : g' = g ∨ g' = W1.heap.size) (hBn : w0.heap.size ≤ Bn) (hp : p < w0.heap.size ∧ b < w0.heap.size ∧ mm < w0.heap.size) :
  KeepsFrom Y W (V.setCell ⟨Bn, 0, .none⟩ (.slice (some ⟨g', 0, .none⟩) (ndl r (pre ++ [x])).length c')) ∧ KpG (NdG w0 Bn) p b mm W (V.setCell ⟨Bn, 0, .none⟩ (.slice (some ⟨g', 0, .none⟩) (ndl r (pre ++ [x])).length c')) ∧ NdI w0 p b mm N B L r Bn (pre ++ [x]) (V.setCell ⟨Bn, 0, .none⟩ (.slice (some ⟨g', 0, .none⟩) (ndl r (pre ++ [x])).length c')) := by
 have hBl : Bn < W.heap.size := lt_of_cell k1
 obtain ⟨hg0, hgl, cur, t, f, hgc⟩ := own_lt k2
 have hs1 := b1.size
 have hs2 := grow.size
 obtain ⟨v', hv'⟩ : ∃ v', v' = Value.slice (some ⟨g', 0, .none⟩) (ndl r (pre ++ [x])).length c' := ⟨_, rfl⟩
 rw [← hv'] at own' ⊢
 have kV : ∀ k, k < W.heap.size → k ≠ g → V.heap[k]? = W.heap[k]? := fun k hk hg => (grow.block k (by omega) (by simp; exact hg)).trans (b1.block k hk)
 have kk : ∀ k, k < W.heap.size → k ≠ g → k ≠ Bn → (V.setCell ⟨Bn, 0, .none⟩ v').heap[k]? = W.heap[k]? := fun k hk hg hb => (Below.heap_setCell V ⟨Bn, 0, .none⟩ v' k hb).trans (kV k hk hg)
 have sz : (V.setCell ⟨Bn, 0, .none⟩ v').heap.size = V.heap.size := by simp
 have hcB : (V.setCell ⟨Bn, 0, .none⟩ v').cell? ⟨Bn, 0, .none⟩ = some v' := World.cell?_setCell_same' _ _ _ (by rw [World.cell?_of_block (a := ⟨Bn, 0, .none⟩) (kV Bn hBl (Ne.symm k3)), k1]; rfl)
 refine ⟨⟨by omega, fun k o _ hk ho => ?_⟩, ⟨fun k o hk ho => ⟨?_, hk.1, hk.2.1, fun g2 n2 c2 h2 => ?_⟩, ?_, ?_, ?_, by omega⟩, ?_⟩
 ·have hkl : k < W.heap.size := (Array.getElem?_eq_some_iff.1 hk).1
  refine (kk k hkl (fun e => ?_) (fun e => ?_)).trans hk
  ·subst e; rw [hgc] at hk; injection hk with hk; subst hk; cases ho
  ·subst e; have := cells_of k1 hk; rw [ho] at this; cases this
 ·exact (kk k (Array.getElem?_eq_some_iff.1 ho).1 (hk.2.2 g n c k1) hk.2.1).trans ho
 ·rw [hcB, hv'] at h2
  simp only [Option.some.injEq, Value.slice.injEq, Addr.mk.injEq, and_true] at h2
  obtain ⟨rfl, _, _⟩ := h2
  have hkl : k < W.heap.size := (Array.getElem?_eq_some_iff.1 ho).1
  rcases hg' with e | e
  ·rw [e]; exact hk.2.2 g n c k1
  ·omega
 ·exact kk p (by have := hI.bel.size; omega) (by omega) (by omega)
 ·exact kk b (by have := hI.bel.size; omega) (by omega) (by omega)
 ·exact kk mm (by have := hI.bel.size; omega) (by omega) (by omega)
 ·have hbs := hI.bel.size
  have low : ∀ k, k < w0.heap.size → (V.setCell ⟨Bn, 0, .none⟩ v').heap[k]? = W.heap[k]? := fun k hk => kk k (by omega) (by omega) (by omega)
  have hgB : g' ≠ Bn := by
   rcases hg' with e | e
   ·rw [e]; exact k3
   ·omega
  refine ⟨⟨hI.ram.mem.keep (low p hp.1) (low b hp.2.1) (low mm hp.2.2), hI.ram.nd, hI.ram.lt, hI.ram.thr⟩, ⟨grow.os.trans (b1.os.trans hI.bel.os), grow.tape.trans (b1.tape.trans hI.bel.tape), grow.output.trans (b1.output.trans hI.bel.output), by omega, fun k hk => (low k hk).trans (hI.bel.block k hk)⟩, ⟨g', c', by rw [hcB, hv'], ?_, hgB⟩, ?_⟩
  ·rw [hv'] at own'
   exact own_block own' (Below.heap_setCell V ⟨Bn, 0, .none⟩ v' g' hgB)
  ·rw [World.frozen?_setCell]
   exact (World.frozen?_of_block (a := ⟨Bn, 0, .none⟩) (kV Bn hBl (Ne.symm k3))).trans hI.frz
end
end Go.Proofs.YtabnipbdbnmmpaaGreatDoor.Rm
namespace Go.Proofs.YtabnipbdbnmmpaaGreatDoor.Rm
open Go.RowKit
structure Tch (p b m x : Nat) (w w' : World) : Prop where
 os : w'.os = w.os
 tape : w'.tape = w.tape
 output : w'.output = w.output
 size : w.heap.size ≤ w'.heap.size
 block : ∀ k, k < w.heap.size → k ≠ p → k ≠ b → k ≠ m → k ≠ x → w'.heap[k]? = w.heap[k]?
theorem Tch.trans {p b m x : Nat} {u v w : World} (h : Tch p b m x u v) (k : Tch p b m x v w) : Tch p b m x u w :=
 ⟨k.os.trans h.os, k.tape.trans h.tape, k.output.trans h.output, Nat.le_trans h.size k.size, fun i hi a c d e => (k.block i (Nat.lt_of_lt_of_le hi h.size) a c d e).trans (h.block i hi a c d e)⟩
theorem Tch.of {p b m x : Nat} {w w' : World} (h : Fra p b m w w') : Tch p b m x w w' := ⟨h.os, h.tape, h.output, h.size, fun k hk a c d _ => h.block k hk a c d⟩
theorem Tch.fra {p b m x : Nat} {w v w' : World} (hv : Fra p b m w v) (h : Tch p b m x v w') (hx : w.heap.size ≤ x) : Fra p b m w w' :=
 ⟨h.os.trans hv.os, h.tape.trans hv.tape, h.output.trans hv.output, Nat.le_trans hv.size h.size, fun k hk a c d => (h.block k (Nat.lt_of_lt_of_le hk hv.size) a c d (by omega)).trans (hv.block k hk a c d)⟩
theorem Tch.set {p b m x : Nat} {w : World} (k : Nat) (v : Value) : Tch p b m x w (w.setCell ⟨x, k, .none⟩ v) := ⟨rfl, rfl, rfl, by simp [World.setCell], fun i hi _ _ _ e => Below.heap_setCell _ _ _ _ (fun h => e h)⟩
theorem elemU8 (W : World) : (sizeOf (Tryz.prog.elem 24)).run Tryz.prog W = .ok 1 W := by
 have e : Tryz.prog.elem 24 = 5 := by kernel_rfl
 obtain ⟨i, z, hi, _, hs, _⟩ := info_of 5 1 1 (by kernel_rfl) (by kernel_rfl)
 rw [e]
 simp [sizeOf, typeInfo, hi, hs]
section
variable {w : World} {s p b m N : Nat} {B : Nat → Int} {L : List Nat} {F : Nat → Option Nat} {lf : Nat → Nat → Int}
end
end Go.Proofs.YtabnipbdbnmmpaaGreatDoor.Rm
