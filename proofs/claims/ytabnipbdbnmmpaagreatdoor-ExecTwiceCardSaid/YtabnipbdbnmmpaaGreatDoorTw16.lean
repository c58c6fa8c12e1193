import Derived.Laws.AppendOwn
import Derived.Laws.OwnMore
import Derived.WalkKit
import Derived.Below
import Derived.Test.YtabnipbdbnmmpaaGreatDoorTw14
import Derived.WalkSpells
import Derived.RowKit3
import Derived.Deep.Cut
import Derived.LoopTactic
import Derived.Laws.NewBlocks
import Derived.OwnWalk
import Derived.Deep.RegionHeld3
import Derived.Test.YtabnipbdbnmmpaaGreatDoorTw11
import Derived.Test.YtabnipbdbnmmpaaGreatDoorTw09
import Derived.Deep.DeepCutAuto
set_option linter.unusedVariables false
set_option linter.unusedSimpArgs false
namespace Go.Proofs.YtabnipbdbnmmpaaGreatDoor.Rm.Fz
open Go.RowKit
structure Fs (E M : Nat) (n : Nat → Nat) (v : Nat → Value) (w wr : World) (xs : Nat → List Value) : Prop where
 row : ∀ i, i < M → wr.ownsRow 0 E 1 (v i) (n i) (xs i)
 os : wr.os = w.os
 tape : wr.tape = w.tape
 output : wr.output = w.output
 size : w.heap.size ≤ wr.heap.size
 block : ∀ k, k < w.heap.size → (∀ i, i < M → some k ≠ (v i).ownBlock) → wr.heap[k]? = w.heap[k]?
def Apart (M : Nat) (v : Nat → Value) : Prop := ∀ i j, i < M → j < M → i ≠ j → ∀ g, (v i).ownBlock = some g → (v j).ownBlock ≠ some g
variable {E M : Nat} {n : Nat → Nat} {v : Nat → Value} {w wr : World} {xs : Nat → List Value}
theorem Fs.cell (h : Fs E M n v w wr xs) (b o : Nat) (hb : b < w.heap.size) (hv : ∀ i, i < M → (v i).ownBlock ≠ some b) : wr.cell? ⟨b, o, .none⟩ = w.cell? ⟨b, o, .none⟩ :=
 World.cell?_of_block (h.block b hb (fun i hi e => hv i hi e.symm))
theorem Fs.set (h : Fs E M n v w wr xs) (hap : Apart M v) (I : Nat) (hI : I < M) (g c : Nat) (hv : v I = .slice (some ⟨g, 0, .none⟩) (n I) c) (j : Nat) (u : Value) :
  Fs E M n v w (wr.setCell ⟨g, j, .none⟩ u) (fun i => if i = I then (xs I).set j u else xs i) := by
 have hr := h.row I hI
 rw [hv] at hr
 obtain ⟨s1, s2⟩ := hr.stored j u
 have hg : (v I).ownBlock = some g := by rw [hv]; rfl
 refine ⟨fun i hi => ?_, s2.os.trans h.os, s2.tape.trans h.tape, s2.output.trans h.output, Nat.le_trans h.size s2.size, fun k hk hn => ?_⟩
 ·by_cases e : i = I
  ·subst e
   rw [if_pos rfl, hv]
   exact s1
  ·rw [if_neg e]
   exact (h.row i hi).kept s2 (.inr (hap I i hI hi (fun e' => e e'.symm) g hg))
 ·rw [s2.block k (Nat.lt_of_lt_of_le hk h.size) (fun e => hn I hI (e.trans hg.symm))]
  exact h.block k hk hn
theorem Fs.alloc (h : Fs E M n v w wr xs) (o : Obj) : Fs E M n v w (wr.alloc o) xs :=
 ⟨fun i hi => (h.row i hi).alloc o, h.os, h.tape, h.output, by simp only [World.size_alloc]; have := h.size; omega, fun k hk h1 => (Below.heap_alloc wr o k (Nat.lt_of_lt_of_le hk h.size)).trans (h.block k hk h1)⟩
theorem row_shape {w : World} {base e n : Nat} {p : Option Addr} {c : Nat} {xs : List Value} (h : w.ownsRow base e 1 (.slice p n c) n xs) (hn : 0 < n) : ∃ g, p = some ⟨g, 0, .none⟩ ∧ base ≤ g ∧ g < w.heap.size := by
 rcases h.2 with ⟨_, h0⟩ | ⟨g, cap, cur, hv, hb, hg, _⟩
 ·omega
 ·simp only [Value.slice.injEq] at hv
  exact ⟨g, hv.1, hb, (Array.getElem?_eq_some_iff.1 hg).1⟩
def Blk (S : Nat) (v m : Value) : Prop := m.ownBlock = v.ownBlock ∨ ∃ b, m.ownBlock = some b ∧ S ≤ b
theorem Fs.grown {m : Value} {w2 : World} (h : Fs E M n v w wr xs) (hg : wr.grownBy w2 m.ownBlock) (hm : (∃ i, i < M ∧ Blk w.heap.size (v i) m) ∨ Blk w.heap.size (.slice none 0 0) m) (kA : ∀ i, i < M → w2.ownsRow 0 E 1 (v i) (n i) (xs i)) : Fs E M n v w w2 xs := by
 refine ⟨kA, hg.os.trans h.os, hg.tape.trans h.tape, hg.output.trans h.output, Nat.le_trans h.size hg.size, fun k hk h1 => ?_⟩
 rw [hg.block k (Nat.lt_of_lt_of_le hk h.size) (fun e => ?_)]
 ·exact h.block k hk h1
 ·rcases hm with ⟨i, hi, hm | ⟨b, hm, hb⟩⟩ | (hm | ⟨b, hm, hb⟩)
  ·exact h1 i hi (e.trans hm)
  ·rw [hm] at e; simp only [Option.some.injEq] at e; omega
  ·rw [hm] at e; simp [Value.ownBlock] at e
  ·rw [hm] at e; simp only [Option.some.injEq] at e; omega
theorem Blk.next {S : Nat} {v m m' : Value} {w1 : World} (h : Blk S v m) (hs : S ≤ w1.heap.size) (hf : ∃ b, m'.ownBlock = some b ∧ (m.ownBlock = some b ∨ w1.heap.size ≤ b)) : Blk S v m' := by
 obtain ⟨b, hb, hf⟩ := hf
 rcases hf with hf | hf
 ·rcases h with h | ⟨c, hc, hS⟩
  ·exact .inl (by rw [hb, ← hf, h])
  ·exact .inr ⟨b, hb, by rw [hc] at hf; simp only [Option.some.injEq] at hf; omega⟩
 ·exact .inr ⟨b, hb, by omega⟩
theorem Blk.mono {S S' : Nat} {v m : Value} (h : Blk S v m) (hs : S' ≤ S) : Blk S' v m := by
 rcases h with h | ⟨b, h, hb⟩
 ·exact .inl h
 ·exact .inr ⟨b, h, by omega⟩
def RowZ (E n : Nat) (wr : World) (m u : Value) : Prop := ∃ zs, wr.ownsRow 0 E 1 m (n + 64) zs ∧ ∀ j, j < 64 → zs[n + j]? = some u
theorem RowZ.alloc {n : Nat} {w : World} {m u : Value} (h : RowZ E n w m u) (o : Obj) : RowZ E n (w.alloc o) m u := by
 obtain ⟨zs, h1, h2⟩ := h
 exact ⟨zs, h1.alloc o, h2⟩
theorem one_slice {w : World} {base e n : Nat} {m : Value} {zs : List Value} (h : w.ownsRow base e 1 m n zs) : ∃ p c, m = .slice p n c := by
 rcases h.2 with ⟨rfl, rfl⟩ | ⟨g, cap, cur, rfl, _⟩
 ·exact ⟨_, _, rfl⟩
 ·exact ⟨_, _, rfl⟩
theorem own_some {w : World} {base e n : Nat} {m : Value} {zs : List Value} (h : w.ownsRow base e 1 m n zs) (hn : 0 < n) : ∃ g, m.ownBlock = some g := by
 obtain ⟨p, c, rfl⟩ := one_slice h
 obtain ⟨g, rfl, _⟩ := row_shape h hn
 exact ⟨g, rfl⟩
theorem info_of (t : TypeId) (b : Nat) (h1 : (Tryz.prog.info? t).map (fun i => (i.size, i.bytes)) = some (1, b)) (h2 : ((Tryz.prog.info? t).bind (·.zero)).map (·.cells.size) = some 1) :
  ∃ i z, Tryz.prog.info? t = some i ∧ i.zero = some z ∧ i.size = 1 ∧ i.bytes = b ∧ z.cells.size = 1 := by
 cases hi : Tryz.prog.info? t with
 | none => rw [hi] at h1; cases h1
 | some i =>
  rw [hi] at h1 h2
  simp only [Option.map_some, Option.some.injEq, Prod.mk.injEq, Option.bind_some] at h1 h2
  cases hz : i.zero with
  | none => rw [hz] at h2; cases h2
  | some z =>
   rw [hz] at h2
   exact ⟨i, z, rfl, hz, h1.1, h1.2, by simpa using h2⟩
def Done (E : Nat) (mb : Nat → Value) (n : Nat → Nat) (v : Nat → Value) (M I S : Nat) (wx : World) (ms : List Value) : Prop :=
 ∀ t, t < I → ∃ m, ms[t]? = some m ∧ RowZ E (n t) wx m (mb t) ∧ (∀ i, I ≤ i → i < M → m.ownBlock ≠ (v i).ownBlock) ∧ (∀ k, m.ownBlock = some k → k < S)
theorem Done.alloc {mb : Nat → Value} {I S : Nat} {wx : World} {ms : List Value} (h : Done E mb n v M I S wx ms) (o : Obj) : Done E mb n v M I S (wx.alloc o) ms := fun t ht => by
 obtain ⟨m, h1, h2, h3⟩ := h t ht
 exact ⟨m, h1, h2.alloc o, h3⟩
theorem Done.keep {mb : Nat → Value} {I S q : Nat} {wx w2 : World} {ms : List Value} {m : Value} (h : Done E mb n v M I S wx ms) (hI : I < M) (hB : Blk S (v I) m) (keep : ∀ v0 n0 xs0, (v0.ownBlock = m.ownBlock → n0 ≤ q) → wx.ownsRow 0 E 1 v0 n0 xs0 → w2.ownsRow 0 E 1 v0 n0 xs0) : Done E mb n v M I S w2 ms := fun t ht => by
 obtain ⟨m0, h1, ⟨zs, h2, h2'⟩, h3, h4⟩ := h t ht
 refine ⟨m0, h1, ⟨zs, keep _ _ _ (fun e => ?_) h2, h2'⟩, h3, h4⟩
 rcases hB with hb | ⟨b, hb, hS⟩
 ·exact absurd (e.trans hb) (h3 I (Nat.le_refl _) hI)
 ·have := h4 b (e.trans hb)
  omega
theorem Done.next {mb : Nat → Value} {I S : Nat} {wx : World} {ms : List Value} {m : Value} (h : Done E mb n v M I S wx ms) (hl : ms.length = I) (hI : I < M) (hB : Blk S (v I) m) (hz : RowZ E (n I) wx m (mb I)) (hap : Apart M v) (hv : ∀ i, i < M → ∀ g, (v i).ownBlock = some g → g < S) (hS : S ≤ wx.heap.size) : Done E mb n v M (I + 1) wx.heap.size wx (ms ++ [m]) := fun t ht => by
 by_cases e : t = I
 ·subst e
  refine ⟨m, by rw [List.getElem?_append_right (by omega)]; simp [hl], hz, fun i hi hiM e => ?_, fun k hk => ?_⟩
  ·obtain ⟨zs, hz, _⟩ := hz
   obtain ⟨g, hg⟩ := own_some hz (by omega)
   rcases hB with hb | ⟨b, hb, hS⟩
   ·exact hap t i hI hiM (by omega) g (hb.symm.trans hg) (e.symm.trans hg)
   ·have := hv i hiM b (e.symm.trans hb)
    omega
  ·obtain ⟨zs, hz, _⟩ := hz
   exact (hz.lt k hk).2
 ·obtain ⟨m0, h1, h2, h3, h4⟩ := h t (by omega)
  exact ⟨m0, by rw [List.getElem?_append_left (by omega)]; exact h1, h2, fun i hi => h3 i (by omega), fun k hk => Nat.lt_of_lt_of_le (h4 k hk) hS⟩
end Go.Proofs.YtabnipbdbnmmpaaGreatDoor.Rm.Fz
namespace Go.Proofs.YtabnipbdbnmmpaaGreatDoor.Rm.Fz
open Go.RowKit
def See (w : World) (k : IntKind) (q : Option Addr) (n : Nat) (R : Nat → Int) : Prop := n = 0 ∨ ∃ g o, q = some ⟨g, o, .none⟩ ∧ g < w.heap.size ∧ ∀ i, i < n → w.cell? ⟨g, o + i, .none⟩ = some (.int k (R i))
theorem See.below {w w' : World} {k : IntKind} {q : Option Addr} {n : Nat} {R : Nat → Int} (h : See w k q n R) (b : Below w.heap.size w w') : See w' k q n R := by
 rcases h with h | ⟨g, o, hq, hg, hr⟩
 ·exact .inl h
 ·exact .inr ⟨g, o, hq, Nat.lt_of_lt_of_le hg b.size, fun i hi => (b.cell (p := ⟨g, o + i, .none⟩) hg).trans (hr i hi)⟩
end Go.Proofs.YtabnipbdbnmmpaaGreatDoor.Rm.Fz
namespace Go.Proofs.YtabnipbdbnmmpaaGreatDoor.Rm
open Go Go.RowKit Fz
attribute [local go_sem] Oper.semAt_some
attribute [local irreducible] eM evs
section
variable {N : Nat} {L : List Nat} {B : Nat → Int}
theorem PT.init {i : Nat} (hi : 1 ≤ i ∧ i < N) (hL : i ∉ L) : PT N L (zer B i) (fun x => if x = 0 then some i else none) (fun _ _ => 0) := by
 refine ⟨⟨i, by simp⟩, fun x f hf => ?_, fun x y f hx hy => ?_, fun x e hx he hne => ?_, fun x hx => ?_, fun x g hx hg e he => ?_, fun y g hy hg k hk => ?_, fun _ _ => .inl rfl, fun _ _ _ => rfl⟩
 ·by_cases e : x = 0
  ·simp only [e, if_true, Option.some.injEq] at hf
   subst hf
   exact ⟨hi.1, hi.2, hL⟩
  ·simp [e] at hf
 ·by_cases e : x = 0 <;> by_cases e2 : y = 0 <;> simp_all
 ·have := ch_pos x e
  simp [show ch x e ≠ 0 by omega] at hne
 ·by_cases e : x = 0
  ·omega
  ·simp [e] at hx
 ·by_cases e2 : x = 0
  ·simp only [e2, if_true, Option.some.injEq] at hg
   subst hg
   have := ch_pos x e
   rw [evn_zer_same _ _ _ he]
   simp [show ch x e ≠ 0 by omega, ptr]
  ·simp [e2] at hg
 ·simp [show y ≠ 0 by omega] at hg
end
structure C3 (W : World) (P : Nat) (x0 x1 x2 : Value) : Prop where
 c0 : W.cell? ⟨P, 0, .none⟩ = some x0
 c1 : W.cell? ⟨P, 1, .none⟩ = some x1
 c2 : W.cell? ⟨P, 2, .none⟩ = some x2
 f0 : W.frozen? ⟨P, 0, .none⟩ = false
 f1 : W.frozen? ⟨P, 1, .none⟩ = false
 f2 : W.frozen? ⟨P, 2, .none⟩ = false
theorem C3.new (w : World) (x0 x1 x2 : Value) (t : TypeId) : C3 (w.alloc (.cells #[x0, x1, x2] t)) w.heap.size x0 x1 x2 :=
 ⟨by simp, by simp, by simp, World.frozen?_alloc_new _ _ _ _, World.frozen?_alloc_new _ _ _ _, World.frozen?_alloc_new _ _ _ _⟩
theorem C3.below {W W' : World} {P : Nat} {x0 x1 x2 : Value} (h : C3 W P x0 x1 x2) (b : Below W.heap.size W W') : C3 W' P x0 x1 x2 := by
 have hp : P < W.heap.size := lt_of_cell h.c0
 have e := b.block P hp
 have ec : ∀ o, W'.cell? ⟨P, o, .none⟩ = W.cell? ⟨P, o, .none⟩ := fun o => by simp only [World.cell?, e]
 have ef : ∀ o, W'.frozen? ⟨P, o, .none⟩ = W.frozen? ⟨P, o, .none⟩ := fun o => by simp only [World.frozen?, e]
 exact ⟨(ec 0).trans h.c0, (ec 1).trans h.c1, (ec 2).trans h.c2, (ef 0).trans h.f0, (ef 1).trans h.f1, (ef 2).trans h.f2⟩
theorem C3.drew {W : World} {P : Nat} {x0 x1 x2 : Value} (h : C3 W P x0 x1 x2) : C3 W.drew P x0 x1 x2 := h.below (Below.refl _ _).drew
theorem C3.set {W : World} {P : Nat} {x0 x1 x2 : Value} (h : C3 W P x0 x1 x2) (y0 y1 y2 : Value) : C3 (((W.setCell ⟨P, 0, .none⟩ y0).setCell ⟨P, 1, .none⟩ y1).setCell ⟨P, 2, .none⟩ y2) P y0 y1 y2 :=
 ⟨(World.cell?_setCell_other _ _ _ _ (by simp)).trans ((World.cell?_setCell_other _ _ _ _ (by simp)).trans (World.cell?_setCell_same' _ _ _ (by rw [h.c0]; rfl))), (World.cell?_setCell_other _ _ _ _ (by simp)).trans (World.cell?_setCell_same' _ _ _ (by rw [World.cell?_setCell_other _ _ _ _ (by simp), h.c1]; rfl)), World.cell?_setCell_same' _ _ _ (by rw [World.cell?_setCell_other _ _ _ _ (by simp), World.cell?_setCell_other _ _ _ _ (by simp), h.c2]; rfl),
  by rw [World.frozen?_setCell, World.frozen?_setCell, World.frozen?_setCell]; exact h.f0, by rw [World.frozen?_setCell, World.frozen?_setCell, World.frozen?_setCell]; exact h.f1, by rw [World.frozen?_setCell, World.frozen?_setCell, World.frozen?_setCell]; exact h.f2⟩
def FL (w : World) (p b m : Nat) (W : World) : Prop := Below w.heap.size w W ∧ ∃ B L F lf, Ram W p b m 64 B L ∧ PT 64 L B F lf ∧ F 0 = some 63
theorem FL.below {w W W' : World} {p b m : Nat} (h : FL w p b m W) (k : Below W.heap.size W W') : FL w p b m W' := by
 obtain ⟨h0, B, L, F, lf, h1, h2, h3⟩ := h
 exact ⟨h0.trans (k.mono h0.size), B, L, F, lf, h1.below k, h2, h3⟩
theorem See.fl {w W : World} {p b m n : Nat} {q : Option Addr} {R : Nat → Int} (h : See w .u64 q n R) (k : FL w p b m W) : See W .u64 q n R := h.below k.1
theorem row_range (l : List Int) (n : Nat) (hn : l.length = n) : (List.range n).map (fun i => Value.int .u64 (l.getD i 0)) = wv l := by
 subst hn
 refine List.ext_getElem (by simp [wv]) fun i h1 h2 => ?_
 simp only [List.length_map, List.length_range] at h1
 simp [wv, List.getD_eq_getElem?_getD, List.getElem?_eq_getElem h1]
end Go.Proofs.YtabnipbdbnmmpaaGreatDoor.Rm
namespace Go.Proofs.YtabnipbdbnmmpaaGreatDoor.Rm
open Go Go.RowKit
def setN (F : Nat → Option Nat) (x : Nat) : Nat → Option Nat := fun y => if y = x then none else F y
def clrE (lf : Nat → Nat → Int) (c : Nat) : Nat → Nat → Int := fun a b => if a = c then 0 else lf a b
section
variable {N : Nat} {L : List Nat} {B : Nat → Int} {F : Nat → Option Nat} {lf : Nat → Nat → Int}
theorem PT.drop {f x g e : Nat} {B1 : Nat → Int} (h : PT N L B F lf) (hx : x ≤ 512) (hg : F x = some g) (he : e < 512) (hf : F (ch x e) = some f) (hc : ch x e ≤ 512 → ∀ d, d < 512 → F (ch (ch x e) d) = none)
  (hB : ∀ q, q ≠ f → ∀ k, k < 4096 → B1 (q * 4096 + k) = B (q * 4096 + k)) : PT N (f :: L) (over B1 (g * 4096 + e * 8) (le 0 8)) (setN F (ch x e)) (clrE lf (ch x e)) := by
 have sF : ∀ z, z ≠ ch x e → setN F (ch x e) z = F z := fun z hz => by unfold setN; rw [if_neg hz]
 have sT : setN F (ch x e) (ch x e) = none := by unfold setN; rw [if_pos rfl]
 have nc : ∀ z q, setN F (ch x e) z = some q → z ≠ ch x e ∧ F z = some q := fun z q hz => by
  by_cases e2 : z = ch x e
  ·rw [e2, sT] at hz; cases hz
  ·exact ⟨e2, by rw [sF z e2] at hz; exact hz⟩
 have hqf : ∀ z q, z ≠ ch x e → F z = some q → q ≠ f := fun z q hz hq e2 => hz (h.inj z (ch x e) q hq (by rw [e2]; exact hf))
 have ev1 : ∀ q d, d < 512 → q ≠ f → evn B1 q d = evn B q d := fun q d hd hq => num_ext _ _ _ _ fun k hk => by rw [Nat.add_assoc]; exact hB q hq _ (by omega)
 refine ⟨?_, fun z q hz => ?_, fun z y q hz hy => ?_, fun z d hz hd hne => ?_, fun z hz => ?_, fun z q hz hq d hd => ?_, fun z q hz hq d hd => ?_, fun y k => ?_, fun y hy k => ?_⟩
 ·obtain ⟨r, hr⟩ := h.root
  exact ⟨r, by rw [sF 0 (by have := ch_pos x e; omega)]; exact hr⟩
 ·obtain ⟨h1, h2⟩ := nc z q hz
  have h3 := h.held z q h2
  refine ⟨h3.1, h3.2.1, fun hm => ?_⟩
  rcases List.mem_cons.1 hm with h4 | h4
  ·exact hqf z q h1 h2 h4
  ·exact h3.2.2 h4
 ·exact h.inj z y q (nc z q hz).2 (nc y q hy).2
 ·by_cases e2 : ch z d = ch x e
  ·rw [e2, sT] at hne
   exact absurd rfl hne
  ·rw [sF _ e2] at hne
   have e3 : z ≠ ch x e := fun e3 => by
    subst e3
    exact hne (hc hz d hd)
   rw [sF z e3]
   exact h.up z d hz hd hne
 ·by_cases e2 : z = ch x e
  ·rw [e2, sT] at hz
   exact absurd rfl hz
  ·rw [sF z e2] at hz
   exact h.dom z hz
 ·obtain ⟨h1, h2⟩ := nc z q hq
  have h3 := hqf z q h1 h2
  by_cases e3 : q = g ∧ d = e
  ·obtain ⟨rfl, rfl⟩ := e3
   obtain rfl : z = x := h.inj z x q h2 hg
   rw [sT, evn_over_same _ _ _ _ (by omega)]
   rfl
  ·rw [evn_over_other _ _ _ _ _ _ he hd (by
     by_cases e4 : q = g
     ·exact .inr (fun e5 => e3 ⟨e4, e5⟩)
     ·exact .inl e4), ev1 q d hd h3, h.ep z q hz h2 d hd, sF]
   intro e4
   obtain ⟨rfl, rfl⟩ := ch_inj hz hx hd he e4
   rw [hg] at h2
   injection h2 with h2
   exact e3 ⟨h2.symm, rfl⟩
 ·obtain ⟨h1, h2⟩ := nc z q hq
  have h3 := hqf z q h1 h2
  rw [evn_over_other _ _ _ _ _ _ he hd (.inl (fun e3 => by subst e3; have := h.inj z x q h2 hg; omega)), ev1 q d hd h3, h.el z q hz h2 d hd]
  unfold clrE
  rw [if_neg h1]
 ·unfold clrE
  split
  ·exact .inl rfl
  ·exact h.lv y k
 ·unfold clrE
  split
  ·rfl
  ·next e2 =>
   rw [sF y e2] at hy
   exact h.ln y hy k
end
end Go.Proofs.YtabnipbdbnmmpaaGreatDoor.Rm
namespace Go.Proofs.YtabnipbdbnmmpaaGreatDoor.Rm
open Go Go.RowKit
attribute [local go_sem] Oper.semAt_some
theorem nodeL_any {w : World} (a0 a1 a2 l e k lv a : Int) (h : (lv = 0 ∧ a = a0) ∨ (lv = 1 ∧ a = a1) ∨ (lv = 2 ∧ a = a2)) (ha : 0 ≤ a ∧ a < 18446744073709551616) : Calls Tryz.prog 190 #[.agg #[.int .u64 a0, .int .u64 a1, .int .u64 a2, .int .i64 l, .int .u64 e, .int .i64 k], .int .i64 lv] w fun e w' => e = .returned (.int .u64 (a - a % 4096)) ∧ Below w.heap.size w w' := by
 rcases h with ⟨rfl, rfl⟩ | ⟨rfl, rfl⟩ | ⟨rfl, rfl⟩
 all_goals
  go_enter Tryz.func190, Tryz.ntmps190
  go_wp2
  go_quiet (fail)
  go_wp2
  go_ret
  exact ⟨rfl, (below1 _ _).trans (blw_drewN _ _ _)⟩
theorem ft_all (B : Nat → Int) (g : Nat) : ∀ k j : Nat, (∀ i, j ≤ i → i < j + k → hs (B (g * 4096 + i * 8)) 1 = false) → ft B g k j = 512
 | 0, j, h => rfl
 | k + 1, j, h => by
  simp only [ft]
  rw [h j (Nat.le_refl _) (by omega)]
  simp only [Bool.false_eq_true, if_false]
  exact ft_all B g k (j + 1) (fun i h1 h2 => h i (by omega) (by omega))
section
variable {N : Nat} {L : List Nat} {B : Nat → Int} {F : Nat → Option Nat} {lf : Nat → Nat → Int}
theorem byte_even (hB : ∀ i, 0 ≤ B i ∧ B i < 256) (g i : Nat) (h : evn B g i = 0) : hs (B (g * 4096 + i * 8)) 1 = false := by
 have h1 := num_odd B (g * 4096 + i * 8)
 unfold evn at h
 rw [h] at h1
 have := hB (g * 4096 + i * 8)
 rw [hs_odd _ (by omega)]
 exact decide_eq_false (by omega)
theorem PT.ftL (h : PT N L B F lf) (hB : ∀ i, 0 ≤ B i ∧ B i < 256) {y q : Nat} (hy : 513 ≤ y) (hq : F y = some q) : ft B q 512 0 = 512 ↔ ∀ k, k < 512 → lf y k = 0 := by
 constructor
 ·intro e k hk
  exact h.noL hB hy hq hk (ft_none B q 512 0 k (by omega) (by omega) (by omega))
 ·intro e
  refine ft_all B q 512 0 fun i _ hi => byte_even hB q i ?_
  rw [h.el y q hy hq i (by omega), e i (by omega)]
theorem PT.ftP (h : PT N L B F lf) (hN : N ≤ 4096) (hB : ∀ i, 0 ≤ B i ∧ B i < 256) {x g : Nat} (hx : x ≤ 512) (hg : F x = some g) : ft B g 512 0 = 512 ↔ ∀ d, d < 512 → F (ch x d) = none := by
 constructor
 ·intro e k hk
  exact h.noP hN hB hx hg hk (ft_none B g 512 0 k (by omega) (by omega) (by omega))
 ·intro e
  refine ft_all B g 512 0 fun i _ hi => byte_even hB g i ?_
  rw [h.ep x g hx hg i (by omega), e i (by omega)]
  rfl
end
def PrR (L : List Nat) (F : Nat → Option Nat) (lf : Nat → Nat → Int) (va : Int) (q g : Nat) (L' : List Nat) (F' : Nat → Option Nat) (lf' : Nat → Nat → Int) : Prop :=
 (L' = L ∧ F' = F ∧ lf' = lf ∧ ¬ ∀ k, k < 512 → lf (y0 va) k = 0) ∨
 (L' = q :: L ∧ F' = setN F (y0 va) ∧ lf' = clrE lf (y0 va) ∧ (∀ k, k < 512 → lf (y0 va) k = 0) ∧ ¬ ∀ d, d < 512 → setN F (y0 va) (ch (y1 va) d) = none) ∨
 (L' = g :: q :: L ∧ F' = setN (setN F (y0 va)) (y1 va) ∧ lf' = clrE (clrE lf (y0 va)) (y1 va) ∧ (∀ k, k < 512 → lf (y0 va) k = 0) ∧ ∀ d, d < 512 → setN F (y0 va) (ch (y1 va) d) = none)
def PrS (N : Nat) (L : List Nat) (F : Nat → Option Nat) (lf : Nat → Nat → Int) (va : Int) (q g : Nat) (J : Nat) (L' : List Nat) (B' : Nat → Int) (F' : Nat → Option Nat) (lf' : Nat → Nat → Int) : Prop :=
 PT N L' B' F' lf' ∧ (J = 0 ∧ L' = L ∧ F' = F ∧ lf' = lf ∨
 J = 1 ∧ L' = q :: L ∧ F' = setN F (y0 va) ∧ lf' = clrE lf (y0 va) ∧ (∀ k, k < 512 → lf (y0 va) k = 0) ∨
 J = 2 ∧ L' = g :: q :: L ∧ F' = setN (setN F (y0 va)) (y1 va) ∧ lf' = clrE (clrE lf (y0 va)) (y1 va) ∧ (∀ k, k < 512 → lf (y0 va) k = 0) ∧ ∀ d, d < 512 → setN F (y0 va) (ch (y1 va) d) = none)
section
variable {w : World} {p b m N : Nat} {B : Nat → Int} {L : List Nat} {F : Nat → Option Nat} {lf : Nat → Nat → Int}
theorem store_r (h : Ram w p b m N B L) (f : Nat) (va : Int) (l : Int) (hf : ndB N L (ad f) = true) : Calls Tryz.prog 160 #[.pointer (some ⟨p, 0, .none⟩), .int .u64 (st (ad f) va l), .int .i64 8, .int .u64 0] w fun e w' => e = .returned (.bool true) ∧ Ram w' p b m N (over B (f * 4096 + (ix va l).toNat * 8) (le 0 8)) L ∧ Fra p b m w w' := by
 have := store_nd h (ad f) va l 0 hf (by omega)
 rw [show fi (ad f) = f from fi_adr f] at this
 exact this
theorem st_node (f : Nat) (va l : Int) (N : Nat) (hf : f < N) (hN : N ≤ 4096) : st (ad f) va l - st (ad f) va l % 4096 = ad f ∧ 0 ≤ st (ad f) va l ∧ st (ad f) va l < 18446744073709551616 := by
 have := ix_b va l
 unfold st ad
 omega
theorem nd_of {f N : Nat} {L : List Nat} (h1 : 1 ≤ f) (h2 : f < N) (h3 : f ∉ L) (hN : N ≤ 4096) : ndB N L (ad f) = true := ndB_mk h1 h2 h3
end
end Go.Proofs.YtabnipbdbnmmpaaGreatDoor.Rm
namespace Go.Proofs.YtabnipbdbnmmpaaGreatDoor.Rm
open Go Go.RowKit
attribute [local go_sem] Oper.semAt_some
section
variable {w : World} {p b m N : Nat} {B : Nat → Int} {L : List Nat} {F : Nat → Option Nat} {lf : Nat → Nat → Int}
theorem PT.way (h : PT N L B F lf) (va : Int) (hl : lf (y0 va) (i0 va) ≠ 0) : ∃ g q, F (y1 va) = some g ∧ F (y0 va) = some q := by
 have h0 : F (y0 va) ≠ none := fun e => hl (h.ln _ e _)
 have h1 : F (y1 va) ≠ none := h.up (y1 va) (i1 va) (y1_le va).1 (i1_lt va) h0
 cases e1 : F (y1 va) with
 | none => exact absurd e1 h1
 | some g =>
  cases e0 : F (y0 va) with
  | none => exact absurd e0 h0
  | some q => exact ⟨g, q, rfl, rfl⟩
end
end Go.Proofs.YtabnipbdbnmmpaaGreatDoor.Rm
namespace Go.Proofs.YtabnipbdbnmmpaaGreatDoor.Rm
open Go Go.RowKit Fz
attribute [local go_sem] Oper.semAt_some
def SeP (w : World) (q : Option Addr) (n : Nat) (V A P : Nat → Int) : Prop := n = 0 ∨ ∃ g, q = some ⟨g, 0, .none⟩ ∧ g < w.heap.size ∧ ∀ i, i < n → w.cell? ⟨g, i * 3, .none⟩ = some (.int .u64 (V i)) ∧ w.cell? ⟨g, i * 3 + 1, .none⟩ = some (.int .u64 (A i)) ∧ w.cell? ⟨g, i * 3 + 2, .none⟩ = some (.int .u64 (P i))
theorem SeP.keep {w w' : World} {q : Option Addr} {n : Nat} {V A P : Nat → Int} (h : SeP w q n V A P) (b : Below w.heap.size w w') : SeP w' q n V A P := by
 rcases h with h | ⟨g, hq, hg, hr⟩
 ·exact .inl h
 ·exact .inr ⟨g, hq, Nat.lt_of_lt_of_le hg b.size, fun i hi => ⟨(b.cell (p := ⟨g, i * 3, .none⟩) hg).trans (hr i hi).1, (b.cell (p := ⟨g, i * 3 + 1, .none⟩) hg).trans (hr i hi).2.1, (b.cell (p := ⟨g, i * 3 + 2, .none⟩) hg).trans (hr i hi).2.2⟩⟩
end Go.Proofs.YtabnipbdbnmmpaaGreatDoor.Rm
namespace Go.Proofs.YtabnipbdbnmmpaaGreatDoor.Rm
open Go Go.RowKit Fz
attribute [local go_sem] Oper.semAt_some
def prt (V : Nat → Int) (s : Int) : Nat → Nat
 | 0 => 0
 | n + 1 => prt V s n + if ∀ k, k < n → V k / s ≠ V n / s then 1 else 0
end Go.Proofs.YtabnipbdbnmmpaaGreatDoor.Rm
namespace Go.Proofs.YtabnipbdbnmmpaaGreatDoor.Rm
open Go Go.RowKit Fz
attribute [local go_sem] Oper.semAt_some
abbrev Pg := Int × Int × Int
def pc (x : Pg) : List Value := [.int .u64 x.1, .int .u64 x.2.1, .int .u64 x.2.2]
def gV (l : List Pg) (i : Nat) : Int := (l.getD i (0, 0, 0)).1
end Go.Proofs.YtabnipbdbnmmpaaGreatDoor.Rm
