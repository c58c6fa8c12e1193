import Derived.Test.YtabnipbdbnmmpaaGreatDoorTw15
import Derived.Test.YtabnipbdbnmmpaaGreatDoorTw18
import Derived.Test.YtabnipbdbnmmpaaGreatDoorTw13
import Derived.Test.YtabnipbdbnmmpaaGreatDoorTw14
set_option linter.unusedVariables false
set_option linter.unusedSimpArgs false
namespace Go.Proofs.YtabnipbdbnmmpaaGreatDoor.Rm
open Go Go.RowKit
theorem below_setCells {B : Nat} {b : Nat} (hb : B ≤ b) {w : World} : ∀ (vs : List Value) (o : Nat) (W : World), Below B w W → Below B w (W.setCells b o vs)
 | [], _, _, h => h
 | v :: vs, o, W, h => below_setCells hb vs (o + 1) _ (h.setCell (p := ⟨b, o, .none⟩) hb v)
structure SpU (W : World) (s p b m N r P : Nat) (size : Int) (B : Nat → Int) (L : List Nat) (F : Nat → Option Nat) (lf : Nat → Nat → Int) (fr : Nat → Nat) (c : Nat → Int) : Prop where
 sp : Sp W s p (ad r) size
 sz : 0 ≤ size ∧ (size + 4095) / 4096 = P
 pm : P ≤ 4096
 ram : Ram W p b m N B L
 pt : PT N L B F lf
 rt : F 0 = some r
 ne : s ≠ p ∧ s ≠ b ∧ s ≠ m
 pag : ∀ i : Nat, i < P → Pag N L F lf ((i : Int) * 4096) (fr i) (c i)
section
variable {W W' : World} {s p b m N r P : Nat} {size : Int} {B : Nat → Int} {L : List Nat} {F : Nat → Option Nat} {lf : Nat → Nat → Int} {fr : Nat → Nat} {c : Nat → Int}
theorem SpU.below (h : SpU W s p b m N r P size B L F lf fr c) (k : Below W.heap.size W W') : SpU W' s p b m N r P size B L F lf fr c :=
 ⟨h.sp.below k, h.sz, h.pm, h.ram.below k, h.pt, h.rt, h.ne, h.pag⟩
def accU (c : Nat → Int) (t x : Nat) : Bool := hs (c (x / 4096)) (wnt t)
theorem SpU.tra (h : SpU W s p b m N r P size B L F lf fr c) (x t : Nat) (hx : x < P * 4096) (ht : t < 3) : Calls Tryz.prog 18 #[.pointer (some ⟨p, 0, .none⟩), .int .u64 (ad r), .int .u64 x, .int .i64 (1 + t)] W fun e w' => e = .returned (.tuple #[.int .u64 (if accU c t x then ad (fr (x / 4096)) + (x % 4096 : Nat) else 0), .bool (accU c t x)]) ∧ Below W.heap.size W w' := by
 have hi : x / 4096 < P := by omega
 have hp := h.pag (x / 4096) hi
 have hm := h.pm
 have hN := h.ram.mem.n2
 have hb := ad_b (fr (x / 4096)) N hp.qb.1 hN
 have hne : toP (ad (fr (x / 4096))) (c (x / 4096)) ≠ 0 := fun e => by
  have := hp.k
  rw [e, kd_zero] at this
  omega
 have := tra_some h.ram h.pt h.rt (((x / 4096 : Nat) : Int) * 4096) ((x % 4096 : Nat) : Int) (ad (fr (x / 4096))) (c (x / 4096)) t ht (by omega) (by omega) ⟨hb.1, hb.2.1, hb.2.2⟩ hp.cb hp.l hne
 rw [show ((x / 4096 : Nat) : Int) * 4096 + ((x % 4096 : Nat) : Int) = (x : Int) by omega] at this
 exact this
def btU (B : Nat → Int) (fr : Nat → Nat) (x : Nat) : Int := B (fr (x / 4096) * 4096 + x % 4096)
structure InJ (w : World) (s A d1 d2 u1 u2 va n : Nat) (B : Nat → Int) (fr : Nat → Nat) (c : Nat → Int) (k : Nat) (W : World) : Prop where
 bel : Below w.heap.size w W
 c1 : W.cell? ⟨d1, 0, .none⟩ = some (.pointer (some ⟨s, 0, .none⟩))
 e1 : W.cell? ⟨u1, 0, .none⟩ = some (.pointer (some ⟨s, 0, .none⟩))
 e2 : W.cell? ⟨u2, 0, .none⟩ = some (.int .i64 2)
 c2 : ∃ q, W.cell? ⟨d2, 0, .none⟩ = some (.slice q (n - k : Nat) (n - k : Nat)) ∧ (k < n → q = some ⟨A, k, .none⟩)
 f2 : W.frozen? ⟨d2, 0, .none⟩ = false
 dn : ∀ j, j < k → W.cell? ⟨A, j, .none⟩ = some (.int .u8 (btU B fr (va + j)))
 tl : ∀ j, j < n → (W.cell? ⟨A, j, .none⟩).isSome = true ∧ W.frozen? ⟨A, j, .none⟩ = false
 ok : ∀ j, j < k → accU c 1 (va + j) = true
theorem InJ.below {w : World} {A d1 d2 u1 u2 va n k : Nat} (h : InJ w s A d1 d2 u1 u2 va n B fr c k W) (b : Below W.heap.size W W') (hA : A < W.heap.size) : InJ w s A d1 d2 u1 u2 va n B fr c k W' := by
 obtain ⟨q, hq, hq2⟩ := h.c2
 exact ⟨h.bel.trans (b.mono h.bel.size), (b.cell (p := ⟨d1, 0, .none⟩) (lt_of_cell h.c1)).trans h.c1, (b.cell (p := ⟨u1, 0, .none⟩) (lt_of_cell h.e1)).trans h.e1, (b.cell (p := ⟨u2, 0, .none⟩) (lt_of_cell h.e2)).trans h.e2, ⟨q, (b.cell (p := ⟨d2, 0, .none⟩) (lt_of_cell hq)).trans hq, hq2⟩, (b.frozen (p := ⟨d2, 0, .none⟩) (lt_of_cell hq)).trans h.f2,
  fun j hj => (b.cell (p := ⟨A, j, .none⟩) hA).trans (h.dn j hj), fun j hj => ⟨by rw [b.cell (p := ⟨A, j, .none⟩) hA]; exact (h.tl j hj).1, by rw [b.frozen (p := ⟨A, j, .none⟩) hA]; exact (h.tl j hj).2⟩, h.ok⟩
theorem InJ.step {w : World} {A d1 d2 u1 u2 va n k pc : Nat} {q' : Option Addr} (h : InJ w s A d1 d2 u1 u2 va n B fr c k W) (hne : d2 ≠ A ∧ d1 ≠ A ∧ u1 ≠ A ∧ u2 ≠ A ∧ d1 ≠ d2 ∧ u1 ≠ d2 ∧ u2 ≠ d2) (hwA : w.heap.size ≤ A ∧ w.heap.size ≤ d2) (hk : k + pc ≤ n) (hacc : ∀ j, j < pc → accU c 1 (va + (k + j)) = true) (hbt : ∀ j, j < pc → (pcB B (fr ((va + k) / 4096) * 4096 + (va + k) % 4096) pc)[j]? = some (.int .u8 (btU B fr (va + (k + j)))))
  (hq : k + pc < n → q' = some ⟨A, k + pc, .none⟩) : InJ w s A d1 d2 u1 u2 va n B fr c (k + pc) ((W.setCells A k (pcB B (fr ((va + k) / 4096) * 4096 + (va + k) % 4096) pc)).setCell ⟨d2, 0, .none⟩ (.slice q' (n - k - pc : Nat) (n - k - pc : Nat))) := by
 obtain ⟨bs, hbs⟩ : ∃ bs, bs = pcB B (fr ((va + k) / 4096) * 4096 + (va + k) % 4096) pc := ⟨_, rfl⟩
 have hlen : bs.length = pc := by rw [hbs, pcB_len]
 rw [← hbs] at hbt ⊢
 obtain ⟨q, hq0, hq1⟩ := h.c2
 have o1 : ∀ x : Addr, x.block ≠ A → x.block ≠ d2 → ((W.setCells A k bs).setCell ⟨d2, 0, .none⟩ (.slice q' (n - k - pc : Nat) (n - k - pc : Nat))).cell? x = W.cell? x := fun x h1 h2 => (World.cell?_setCell_far _ _ _ _ (by simp only; exact Ne.symm h2)).trans (World.cell?_setCells_out A bs k W x (fun e => absurd e h1))
 have fz : ∀ x : Addr, ((W.setCells A k bs).setCell ⟨d2, 0, .none⟩ (.slice q' (n - k - pc : Nat) (n - k - pc : Nat))).frozen? x = W.frozen? x := fun x => by rw [World.frozen?_setCell]; exact World.frozen?_setCells A bs k W x
 have cA : ∀ j, ((W.setCells A k bs).setCell ⟨d2, 0, .none⟩ (.slice q' (n - k - pc : Nat) (n - k - pc : Nat))).cell? ⟨A, j, .none⟩ = (W.setCells A k bs).cell? ⟨A, j, .none⟩ := fun j => World.cell?_setCell_far _ _ _ _ (by simp only; exact hne.1)
 have kIn : ∀ j, j < pc → (W.setCells A k bs).cell? ⟨A, k + j, .none⟩ = some (.int .u8 (btU B fr (va + (k + j)))) := fun j hj => by
  rw [World.cell?_setCells_in A bs k W (fun i hi => (h.tl (k + i) (by omega)).1) j (by omega)]
  have := hbt j hj
  rw [List.getElem?_eq_getElem (by omega)] at this
  exact this
 have kOut : ∀ j, (j < k ∨ k + pc ≤ j) → (W.setCells A k bs).cell? ⟨A, j, .none⟩ = W.cell? ⟨A, j, .none⟩ := fun j hj => World.cell?_setCells_out A bs k W ⟨A, j, .none⟩ (fun _ _ => by simp only; omega)
 refine ⟨?_, (o1 ⟨d1, 0, .none⟩ hne.2.1 hne.2.2.2.2.1).trans h.c1, (o1 ⟨u1, 0, .none⟩ hne.2.2.1 hne.2.2.2.2.2.1).trans h.e1, (o1 ⟨u2, 0, .none⟩ hne.2.2.2.1 hne.2.2.2.2.2.2).trans h.e2, ⟨q', ?_, hq⟩, (fz _).trans h.f2, fun j hj => ?_, fun j hj => ⟨?_, (fz _).trans (h.tl j hj).2⟩, fun j hj => ?_⟩
 ·have b1 : Below w.heap.size W (W.setCells A k bs) := below_setCells hwA.1 _ _ _ (Below.refl _ _)
  have b2 := b1.setCell (p := ⟨d2, 0, .none⟩) hwA.2 (.slice q' (n - k - pc : Nat) (n - k - pc : Nat))
  exact ⟨b2.os.trans h.bel.os, b2.tape.trans h.bel.tape, b2.output.trans h.bel.output, Nat.le_trans h.bel.size b2.size, fun i hi => (b2.block i hi).trans (h.bel.block i hi)⟩
 ·rw [World.cell?_setCell_same' _ _ _ (by rw [World.cell?_setCells_out A bs k W ⟨d2, 0, .none⟩ (fun e => absurd e hne.1), hq0]; rfl), show n - (k + pc) = n - k - pc by omega]
 ·rw [cA]
  by_cases hjk : j < k
  ·rw [kOut j (.inl hjk)]
   exact h.dn j hjk
  ·have := kIn (j - k) (by omega)
   rw [show k + (j - k) = j by omega] at this
   exact this
 ·rw [cA]
  by_cases hjk : j < k ∨ k + pc ≤ j
  ·rw [kOut j hjk]
   exact (h.tl j hj).1
  ·have := kIn (j - k) (by omega)
   rw [show k + (j - k) = j by omega] at this
   rw [this]
   rfl
 ·by_cases hjk : j < k
  ·exact h.ok j hjk
  ·have := hacc (j - k) (by omega)
   rw [show k + (j - k) = j by omega] at this
   exact this
end
end Go.Proofs.YtabnipbdbnmmpaaGreatDoor.Rm
namespace Go.Proofs.YtabnipbdbnmmpaaGreatDoor.Rm
open Go Go.RowKit
theorem cutTo2 (g k n T c : Nat) (h : n ≤ T ∧ T ≤ c) (W : World) : (Instr.slice 24 (.slice (some ⟨g, k, .none⟩) T c) none (some (.int .i64 n)) none).run Tryz.prog W = .ok (.slice (some ⟨g, k, .none⟩) n c) W := by
 rw [run_slice_h W 24 (some ⟨g, k, .none⟩) T c (by kernel_rfl) .i64 n (by omega) (by omega), elemU8]
 simp [Result.andThen, sliced, Addr.add]
theorem cutFrom2 (g k n T c : Nat) (h : n ≤ T ∧ T ≤ c) (W : World) : ∃ q, (n < c → q = some ⟨g, k + n, .none⟩) ∧ (Instr.slice 24 (.slice (some ⟨g, k, .none⟩) T c) (some (.int .i64 n)) none none).run Tryz.prog W = .ok (.slice q (T - n : Nat) (c - n : Nat)) W := by
 have hadd : (⟨g, k, .none⟩ : Addr).add n = ⟨g, k + n, .none⟩ := by unfold Addr.add; split <;> simp_all
 refine ⟨if c = n then some ⟨g, k, .none⟩ else some ⟨g, k + n, .none⟩, fun h2 => by rw [if_neg (by omega)], ?_⟩
 rw [run_slice_l W 24 (some ⟨g, k, .none⟩) T c (by kernel_rfl) .i64 n (by omega) (by omega), elemU8]
 by_cases e : c = n
 ·simp [Result.andThen, sliced, e]
 ·simp [Result.andThen, sliced, e, hadd]
section
variable {w : World} {s p b m N : Nat} {B : Nat → Int} {L : List Nat} {F : Nat → Option Nat} {lf : Nat → Nat → Int}
def P1P (w : World) (p b m bv N : Nat) (B : Nat → Int) (L : List Nat) (q o n g k T c : Nat) (R : Nat → Int) (e : Ending) (w' : World) : Prop := e = .returned (.bool true) ∧ Ram w' p b m N (over B (q * 4096 + o) ((List.range n).map R)) L ∧ Tch p b m bv w w' ∧ (∃ q2, w'.cell? ⟨bv, 0, .none⟩ = some (.slice q2 (T - n : Nat) (c - n : Nat)) ∧ (n < c → q2 = some ⟨g, k + n, .none⟩)) ∧ w'.frozen? ⟨bv, 0, .none⟩ = false
set_option maxHeartbeats 1000000 in
theorem put1_gen {root size : Int} (hS : Sp w s p root size) (h : Ram w p b m N B L) (q o n : Nat) (hq : q < N ∧ q ∉ L) (hn : 1 ≤ n) (ho : o + n ≤ 4096) (g k T c : Nat) (hc : n ≤ T ∧ T ≤ c ∧ c ≤ 9223372036854775807) (R : Nat → Int) (hR : ∀ i, 0 ≤ R i ∧ R i < 256) (hg : ∀ i, i < n → w.cell? ⟨g, k + i, .none⟩ = some (.int .u8 (R i)))
  (bv sv : Nat) (hb : w.cell? ⟨bv, 0, .none⟩ = some (.slice (some ⟨g, k, .none⟩) T c)) (hbf : w.frozen? ⟨bv, 0, .none⟩ = false) (hs : w.cell? ⟨sv, 0, .none⟩ = some (.pointer (some ⟨s, 0, .none⟩))) (hne : bv ≠ p ∧ bv ≠ b ∧ bv ≠ m ∧ bv ≠ g ∧ bv ≠ s ∧ bv ≠ sv) :
  Calls Tryz.prog 102 #[.int .u64 (ad q + o), .int .i64 n, .pointer (some ⟨bv, 0, .none⟩), .pointer (some ⟨sv, 0, .none⟩)] w (P1P w p b m bv N B L q o n g k T c R) := by
 have ct := cutTo2 g k n T c ⟨hc.1, hc.2.1⟩ w
 obtain ⟨q2, hq2, cf⟩ := cutFrom2 g k n T c ⟨hc.1, hc.2.1⟩ w
 obtain ⟨w1, hw1⟩ : ∃ w1, w1 = w.setCell ⟨bv, 0, .none⟩ (.slice q2 (T - n : Nat) (c - n : Nat)) := ⟨_, rfl⟩
 have R1 : Ram w1 p b m N B L := by rw [hw1]; exact h.beside ⟨bv, 0, .none⟩ _ (fun e => hne.1 e.symm) (fun e => hne.2.1 e.symm) (fun e => hne.2.2.1 e.symm)
 have g1 : ∀ i, i < n → w1.cell? ⟨g, k + i, .none⟩ = some (.int .u8 (R i)) := fun i hi => by rw [hw1]; exact (World.cell?_setCell_other _ _ _ _ (by simp only [ne_eq, Addr.mk.injEq, not_and]; intro e; exact absurd e hne.2.2.2.1)).trans (hg i hi)
 have c92 := write_pg R1 q o n hq hn ho g k c R hR g1
 have s1 : w1.cell? ⟨sv, 0, .none⟩ = some (.pointer (some ⟨s, 0, .none⟩)) := by rw [hw1]; exact (World.cell?_setCell_other _ _ _ _ (by simp only [ne_eq, Addr.mk.injEq, not_and]; intro e; exact absurd e hne.2.2.2.2.2)).trans hs
 have k0 : w1.cell? ⟨s, 0, .none⟩ = some (.pointer (some ⟨p, 0, .none⟩)) := by rw [hw1]; exact (World.cell?_setCell_other _ _ _ _ (by simp only [ne_eq, Addr.mk.injEq, not_and]; intro e; exact absurd e hne.2.2.2.2.1)).trans hS.c0
 have HT : Hid (Tch p b m bv w w1) := by rw [hw1]; exact Tch.set _ _
 have hb1 : w1.cell? ⟨bv, 0, .none⟩ = some (.slice q2 (T - n : Nat) (c - n : Nat)) := by rw [hw1]; exact World.cell?_setCell_same' _ _ _ (by rw [hb]; rfl)
 have hf1 : w1.frozen? ⟨bv, 0, .none⟩ = false := by rw [hw1, World.frozen?_setCell]; exact hbf
 have HB : Hid (w1.cell? ⟨bv, 0, .none⟩ = some (.slice q2 (T - n : Nat) (c - n : Nat)) ∧ w1.frozen? ⟨bv, 0, .none⟩ = false ∧ (n < c → q2 = some ⟨g, k + n, .none⟩)) := ⟨hb1, hf1, hq2⟩
 clear h hg g1 R1 hS hR hb1 hf1 hq2
 go_enter Tryz.func102, Tryz.ntmps102
 go_upto_region 3 with fail
 rw [← hw1]
 clear hw1
 go_wp2_with (go_at_call 103; refine c92.mono ?_; rintro _ w2 ⟨rfl, r2, f2⟩)
 go_ret
 have hlt := lt_of_cell HB.out.1
 exact ⟨rfl, r2, HT.out.trans (Tch.of f2), ⟨q2, (f2.cell (x := ⟨bv, 0, .none⟩) hlt hne.1 hne.2.1 hne.2.2.1).trans HB.out.1, HB.out.2.2⟩, (f2.frozen (x := ⟨bv, 0, .none⟩) hlt hne.1 hne.2.1 hne.2.2.1).trans HB.out.2.1⟩
end
def wrU (B : Nat → Int) (fr : Nat → Nat) (va : Nat) (R : Nat → Int) : Nat → Nat → Int
 | 0 => B
 | k + 1 => fun i => if i = fr ((va + k) / 4096) * 4096 + (va + k) % 4096 then R k else wrU B fr va R k i
theorem over_byte (B : Nat → Int) (o : Nat) (vs : List Int) (v : Int) (i : Nat) : over B o (vs ++ [v]) i = if i = o + vs.length then v else over B o vs i := by
 unfold over
 rw [List.length_append, List.length_singleton]
 by_cases h1 : i = o + vs.length
 ·subst h1
  rw [if_pos (by omega), if_pos rfl]
  simp [List.getD_eq_getElem?_getD]
 ·rw [if_neg h1]
  by_cases h2 : o ≤ i ∧ i < o + vs.length
  ·rw [if_pos (by omega), if_pos h2]
   rw [List.getD_eq_getElem?_getD, List.getD_eq_getElem?_getD, List.getElem?_append_left (by omega)]
  ·rw [if_neg (by omega), if_neg h2]
theorem wrU_over (B : Nat → Int) (fr : Nat → Nat) (va k : Nat) (R : Nat → Int) : ∀ pc : Nat, (va + k) % 4096 + pc ≤ 4096 → over (wrU B fr va R k) (fr ((va + k) / 4096) * 4096 + (va + k) % 4096) ((List.range pc).map fun i => R (k + i)) = wrU B fr va R (k + pc)
 | 0, _ => by
  funext i
  unfold over
  simp
  intro h1 h2
  omega
 | pc + 1, h => by
  funext i
  have ih := wrU_over B fr va k R pc (by omega)
  rw [List.range_succ, List.map_append, List.map_singleton, over_byte, ih, show k + (pc + 1) = (k + pc) + 1 by omega]
  simp only [wrU, List.length_map, List.length_range]
  rw [show (va + (k + pc)) / 4096 = (va + k) / 4096 by omega, show (va + (k + pc)) % 4096 = (va + k) % 4096 + pc by omega, Nat.add_assoc]
end Go.Proofs.YtabnipbdbnmmpaaGreatDoor.Rm
