import Derived.Test.YtabnipbdbnmmpaaGreatDoorTw42
import Derived.Test.YtabnipbdbnmmpaaGreatDoorTw35
import Derived.Test.YtabnipbdbnmmpaaGreatDoorTw40
import Derived.Test.YtabnipbdbnmmpaaGreatDoorTw38
import Derived.Test.YtabnipbdbnmmpaaGreatDoorTw26
import Derived.Test.YtabnipbdbnmmpaaGreatDoorTw37
import Derived.Test.YtabnipbdbnmmpaaGreatDoorTw30
set_option linter.unusedVariables false
set_option linter.unusedSimpArgs false
namespace Go.Proofs.YtabnipbdbnmmpaaGreatDoor
open Go.RowKit
set_option maxRecDepth 10000 in
set_option maxHeartbeats 1000000 in
theorem small_any (w : World) : Calls Tryz.prog 31 #[] w fun e w' => ∃ q c, e = .returned (.slice q 124 c) ∧ Byt w' q 124 c smF ∧ Below w.heap.size w w' := by
 obtain ⟨w1, hw1⟩ : ∃ w1, w1 = (w.alloc (.cells #[.int .u8 115, .int .u8 0, .int .u8 0, .int .u8 0] 5)).alloc (.cells #[.int .u64 0, .int .u32 5, .slice (some ⟨w.heap.size, 0, .none⟩) 4 4, .int .u64 4] 38) := ⟨_, rfl⟩
 have hS : Sm w1 (w.heap.size + 1) w.heap.size := by
  rw [hw1]
  exact ⟨by simp, by simp, by simp, by simp, by simp, by simp, by simp, by simp⟩
 have b1 : Below w.heap.size w w1 := by rw [hw1]; exact ((Below.refl _ _).alloc (Nat.le_refl _) _).alloc (by simp) _
 have c32 := writeS_any hS
 rw [hw1] at c32
 have HB : Hid (Below w.heap.size w w1 ∧ w1 = (w.alloc (.cells #[.int .u8 115, .int .u8 0, .int .u8 0, .int .u8 0] 5)).alloc (.cells #[.int .u64 0, .int .u32 5, .slice (some ⟨w.heap.size, 0, .none⟩) 4 4, .int .u64 4] 38)) := ⟨b1, hw1⟩
 clear hS b1 hw1
 go_enter Tryz.func31, Tryz.ntmps31
 go_wp2_with (go_at_call 71; refine c32.mono ?_; rintro _ w2 ⟨q, c, rfl, h2, b2⟩; rw [← HB.out.2] at b2; have H2 : Hid (Byt w2 q 124 c smF ∧ Below w.heap.size w w2) := ⟨h2, HB.out.1.trans (b2.mono HB.out.1.size)⟩; clear h2 b2 c32)
 go_ret
 have ba : Below w2.heap.size w2 (w2.alloc (.cells #[.slice .none 0 0, .int .i64 0] 121)) := (Below.refl _ _).alloc (Nat.le_refl _) _
 exact ⟨q, c, rfl, bytU H2.out.1 ba, H2.out.2.trans (ba.mono H2.out.2.size)⟩
def smB : Nat → Int := fun i => smF.getD i 0
theorem smB_bd (i : Nat) : 0 ≤ smB i ∧ smB i < 256 := by
 by_cases h : i < 124
 ·have : ∀ i, i < 124 → 0 ≤ smB i ∧ smB i < 256 := by decide +kernel
  exact this i h
 ·have hl : smF.length = 124 := by decide +kernel
  unfold smB
  rw [List.getD_eq_getElem?_getD, List.getElem?_eq_none (by omega)]
  simp
def smG : Sg := ⟨0, 5, 4, 120, 4⟩
theorem smB_rd : rdF 124 smB 0 0 = ((0, 0), [smG]) := by kernel_rfl
theorem smB_hd : Hd smB 0 0 := by
 refine .inl ⟨rfl, rfl, ?_⟩
 unfold chk
 decide +kernel
end Go.Proofs.YtabnipbdbnmmpaaGreatDoor
namespace Go.Proofs.YtabnipbdbnmmpaaGreatDoor
open Go.RowKit Go.Shelf
def MeP (w : World) (n : Nat) (e : Ending) (w' : World) : Prop := ∃ p b m B, w.heap.size ≤ p ∧ w.heap.size ≤ b ∧ w.heap.size ≤ m ∧ e = .returned (.tuple #[.pointer (some ⟨p, 0, .none⟩), .int .u64 (Rm.ad (n - 1)), .bool true]) ∧ Rm.Ram w' p b m n B (Rm.down (n - 2)) ∧ Below w.heap.size w w' ∧ ∀ j, j < 4096 → B ((n - 1) * 4096 + j) = 0
set_option maxRecDepth 10000 in
set_option maxHeartbeats 1000000 in
theorem memory_any (n : Nat) (h1 : 2 ≤ n) (h2 : n ≤ 4096) (w : World) : Calls Tryz.prog 8 #[.int .i64 n] w (MeP w n) := by
 have c30 := Rm.new_any n (by omega) h2 w
 have g1 : ¬ ((n : Int) < 2) := by omega
 have g2 : ¬ ((n : Int) > 4096) := by omega
 have hdn : Rm.down (n - 1) = (n - 1) :: Rm.down (n - 2) := by
  obtain ⟨k, rfl⟩ : ∃ k, n = k + 2 := ⟨n - 2, by omega⟩
  rfl
 have HD : Hid (Rm.down (n - 1) = (n - 1) :: Rm.down (n - 2)) := hdn
 clear hdn
 go_enter Tryz.func8, Tryz.ntmps8
 go_upto_region 8 with (go_at_call 32; refine c30.mono ?_; rintro _ w1 ⟨p, b, m, hp, hb, hm, rfl, hR, b1⟩; rw [HD.out] at hR; have H1 : Hid (w.heap.size ≤ p ∧ w.heap.size ≤ b ∧ w.heap.size ≤ m ∧ Rm.Ram w1 p b m n (Rm.newB (n - 1)) ((n - 1) :: Rm.down (n - 2)) ∧ Below w.heap.size w w1) := ⟨hp, hb, hm, hR, b1⟩; clear hp hb hm hR b1 c30)
 have c17 := Rm.alloc_some (n - 1) H1.out.2.2.2.1
 generalize ht : (2147483648 + ((n - 1 : Nat) : Int) * 4096) = t at c17
 have HT : Hid (t = Rm.ad (n - 1)) := ht.symm
 clear ht
 go_wp2_with (go_at_call 9; refine c17.mono ?_; rintro _ w2 ⟨rfl, hR2, hf2⟩; have H2 : Hid (Rm.Ram w2 p b m n (Rm.zer (Rm.newB (n - 1)) (n - 1)) (Rm.down (n - 2)) ∧ Rm.Fra p b m w1 w2) := ⟨hR2, hf2⟩; clear hR2 hf2 c17)
 refine bodyPost_ret (v := .tuple #[.pointer (some ⟨p, 0, .none⟩), .int .u64 t, .bool true]) (by simp [results, Tryz.results8, go_sem]) rfl ?_
 exact ⟨p, b, m, _, H1.out.1, H1.out.2.1, H1.out.2.2.1, by rw [HT.out], H2.out.1, H1.out.2.2.2.2.trans (H2.out.2.toBelow H1.out.2.2.2.2.size H1.out.1 H1.out.2.1 H1.out.2.2.1), fun j hj => Rm.zer_in _ _ _ hj⟩
theorem byt_fp {w : World} {fp : Option Addr} {n c : Nat} {xs : List Int} (h : Byt w fp n c xs) : Fp w fp n (fun i => xs.getD i 0) := by
 obtain ⟨h1, h2, h3, h4⟩ := h
 rcases h4 with h4 | ⟨b', o', e, h5, h6⟩
 ·exact .inr h4
 ·refine .inl ⟨b', o', e, fun i hi => ?_, h5⟩
  have hx : xs[i]? = some (xs.getD i 0) := by rw [List.getD_eq_getElem?_getD, List.getElem?_eq_getElem (by omega)]; rfl
  exact h6 i _ hx
set_option maxRecDepth 10000 in
set_option maxHeartbeats 2000000 in
theorem load_refM {W : World} (v : Value) {fp : Option Addr} {fn fc : Nat} {B : Nat → Int} (hL : Laid W) (hF : Fp W fp fn B) (hB : ∀ i, 0 ≤ B i ∧ B i < 256) (hc : fn ≤ fc ∧ fc ≤ 9223372036854775807) (ha hr : Int) (hH : Hd B ha hr)
  {p : Option Addr} {n c : Nat} {xs : List Bs} (hA : Arg W p n c xs) (tr : Int) (hne : dmE (rdF fn B ha hr).1.2 xs ≠ 0) :
  Calls Tryz.prog 11 #[v, .slice fp fn fc, .slice p n c, .int .u64 tr, .int .u64 2147483648] W fun e w' => e = .returned (.tuple #[.pointer .none, .agg #[.int .u64 0, .int .u64 0, .int .u64 0], .int .i64 (dmE (rdF fn B ha hr).1.2 xs)]) ∧ Below W.heap.size W w' := by
 obtain ⟨W1, hW1⟩ : ∃ W1, W1 = W.alloc (.cells #[.int .u64 0, .int .u64 0, .int .u64 0] 44) := ⟨_, rfl⟩
 have b1 : Below W.heap.size W W1 := by rw [hW1]; exact (Below.refl _ _).alloc (Nat.le_refl _) _
 have k0 : W1.cell? ⟨W.heap.size, 0, .none⟩ = some (.int .u64 0) := by rw [hW1]; simp
 have k1 : W1.cell? ⟨W.heap.size, 1, .none⟩ = some (.int .u64 0) := by rw [hW1]; simp
 have k2 : W1.cell? ⟨W.heap.size, 2, .none⟩ = some (.int .u64 0) := by rw [hW1]; simp
 have k4 : ∀ i, W1.frozen? ⟨W.heap.size, i, .none⟩ = false := fun i => by rw [hW1]; exact World.frozen?_alloc_new _ _ _ i
 have hF1 : Fp W1 fp fn B := by
  rcases hF with ⟨b, o, e, h1, h2⟩ | h
  ·exact .inl ⟨b, o, e, h1.keep b1, Nat.lt_of_lt_of_le h2 b1.size⟩
  ·exact .inr h
 have cP := planF_any (hL.below b1) hF1 hB hc ha hr hH (hA.below b1)
 have HU : Hid (True ∧ Below W.heap.size W W1 ∧ ∀ i, W1.frozen? ⟨W.heap.size, i, .none⟩ = false) := ⟨trivial, b1, k4⟩
 generalize (rdF fn B ha hr).1.2 = r at cP hne ⊢
 generalize sgO fn B ha hr = Sg' at cP
 generalize enO fn B ha hr = en9 at cP
 clear hL hF hB hH hA b1 k4 hF1
 unfold PlP at cP
 obtain ⟨x, hx⟩ : ∃ x, x = W.heap.size := ⟨_, rfl⟩
 have HX : Hid (x = W.heap.size) := hx
 have h0 := hne
 clear hne
 generalize dmE r xs = d at h0 cP ⊢
 have hd : (d != 0) = true := by simpa using h0
 go_enter Tryz.func11, Tryz.ntmps11
 go_upto_region 1 with fail
 rw [← hW1, ← hx]
 rw [← hx] at k0 k1 k2
 clear hW1 hx
 go_upto_region 2 with (go_at_call 40; refine cP.mono ?_; rintro _ w2 ⟨b2, h2⟩; obtain rfl : _ = _ := (by rcases h2 with ⟨_, h⟩ | ⟨h, _⟩; exact h; exact absurd h h0); have H2 : Hid (Below W1.heap.size W1 w2) := b2; clear h2 cP b2)
 obtain ⟨w3, hw3⟩ : ∃ w3, w3 = w2.alloc (.cells #[.int .u64 0, .slice .none 0 0, .slice .none 0 0, .int .u64 0] 92) := ⟨_, rfl⟩
 have B3 : Hid (Below W1.heap.size W1 w3) := by rw [hw3]; exact H2.out.alloc H2.out.size _
 rw [← hw3]
 clear hw3 H2
 have l0 := (B3.out.cell (lt_of_cell k0)).trans k0
 have l1 := (B3.out.cell (lt_of_cell k1)).trans k1
 have l2 := (B3.out.cell (lt_of_cell k2)).trans k2
 have f0 : w3.frozen? ⟨x, 0, .none⟩ = false := (B3.out.frozen (p := ⟨x, 0, .none⟩) (lt_of_cell k0)).trans (by rw [HX.out]; exact HU.out.2.2 0)
 have f1 : w3.frozen? ⟨x, 1, .none⟩ = false := (B3.out.frozen (p := ⟨x, 1, .none⟩) (lt_of_cell k1)).trans (by rw [HX.out]; exact HU.out.2.2 1)
 have f2 : w3.frozen? ⟨x, 2, .none⟩ = false := (B3.out.frozen (p := ⟨x, 2, .none⟩) (lt_of_cell k2)).trans (by rw [HX.out]; exact HU.out.2.2 2)
 go_wp2_with fail
 have hxw := HX.out
 refine bodyPost_ret (v := .tuple #[.pointer .none, .agg #[.int .u64 0, .int .u64 0, .int .u64 0], .int .i64 d]) (by simp [results, Tryz.results11, go_sem, l0, l1, l2]) rfl ⟨rfl, ?_⟩
 have hb := HU.out.2.1.trans (B3.out.mono HU.out.2.1.size)
 exact ((hb.setCell (by show W.heap.size ≤ x; omega) _).setCell (by show W.heap.size ≤ x; omega) _).setCell (by show W.heap.size ≤ x; omega) _
theorem load_20 {W : World} {p b m : Nat} {Bm : Nat → Int} (hR : Rm.Ram W p b m 20 Bm (18 :: Rm.down 17)) (hL : Laid W) (hL3 : Laid3 W) (h3 : 2 < p ∧ 2 < b ∧ 2 < m) {fb fo cq : Nat} (hF : Row W fb fo 124 smB) (hfb : fb < W.heap.size) (hc : 124 ≤ cq ∧ cq ≤ 9223372036854775807) {ap : Option Addr} {an ac : Nat} {xs : List Bs} (hA : Arg W ap an ac xs) (hdm : dmE 0 xs = 0) :
  Calls Tryz.prog 11 #[.pointer (some ⟨p, 0, .none⟩), .slice (some ⟨fb, fo, .none⟩) 124 cq, .slice ap an ac, .int .u64 (Rm.ad 19), .int .u64 2147483648] W (LdM (Rm.oxt0 19) W p b m 20 1 18 [smG] smB xs 0) := by
 have hsg : sgO 124 smB 0 0 = [smG] := by unfold sgO; rw [smB_rd]; rfl
 have hrd : (rdF 124 smB 0 0).1.2 = 0 := by rw [smB_rd]
 have hen : enO 124 smB 0 0 = 0 := by unfold enO; rw [smB_rd]; kernel_rfl
 have := loadM (ox := Rm.oxt0 19) hR (ft := 19) ⟨rfl, fun f hf => hf.elim⟩ ⟨by omega, by omega, fun h => by have h' : 19 ∈ Rm.down 18 := h; rw [Rm.down_mem] at h'; omega⟩ hL hL3 h3 hF hfb smB_bd hc hA 0 0 smB_hd hrd hdm hsg 0 hen 1 (by decide) (by omega) (by decide) (fun x hx => by
  rw [List.mem_singleton] at hx
  subst hx
  exact ⟨by decide, by decide⟩) (by rw [Rm.down_len]; decide)
 rw [Rm.down_len] at this
 exact this
end Go.Proofs.YtabnipbdbnmmpaaGreatDoor
namespace Go.Proofs.YtabnipbdbnmmpaaGreatDoor
open Go.RowKit
def putB (H : Nat → Int) (of_ k : Nat) (v : Int) : Nat → Int := fun i => if of_ ≤ i ∧ i < of_ + k then v / 256 ^ (i - of_) % 256 else H i
theorem putB_zero (H : Nat → Int) (of_ : Nat) (v : Int) : putB H of_ 0 v = H := by
 funext i
 unfold putB
 rw [if_neg (by omega)]
theorem putB_succ (H : Nat → Int) (of_ k : Nat) (v : Int) (i : Nat) : putB H of_ (k + 1) v i = if i = of_ + k then v / 256 ^ k % 256 else putB H of_ k v i := by
 unfold putB
 by_cases e : i = of_ + k
 ·subst e
  rw [if_pos ⟨by omega, by omega⟩, if_pos rfl, show of_ + k - of_ = k by omega]
 ·rw [if_neg e]
  by_cases h : of_ ≤ i ∧ i < of_ + k
  ·rw [if_pos h, if_pos ⟨h.1, by omega⟩]
  ·rw [if_neg h, if_neg (by omega)]
structure Wro (w w' : World) (b o n : Nat) (H : Nat → Int) : Prop where
 row : Row w' b o n H
 fz : ∀ i, w'.frozen? ⟨b, i, .none⟩ = false
 ot : ∀ x, x ≠ b → x < w.heap.size → w'.heap[x]? = w.heap[x]?
 sz : w.heap.size ≤ w'.heap.size
 bl : b < w.heap.size
 os : w'.os = w.os
 tp : w'.tape = w.tape
 op : w'.output = w.output
theorem Wro.set {w w' : World} {b o n of_ k : Nat} {H : Nat → Int} {v : Int} (h : Wro w w' b o n (putB H of_ k v)) (hk : of_ + k < n) : Wro w (w'.setCell ⟨b, o + (of_ + k), .none⟩ (.int .u8 (v / 256 ^ k % 256))) b o n (putB H of_ (k + 1) v) := by
 refine ⟨fun i hi => ?_, fun i => (World.frozen?_setCell ..).trans (h.fz i), fun x hx hl => (Below.heap_setCell _ _ _ _ hx).trans (h.ot x hx hl), by rw [World.size_setCell]; exact h.sz, h.bl, h.os, h.tp, h.op⟩
 rw [putB_succ]
 by_cases e : i = of_ + k
 ·subst e
  rw [if_pos rfl]
  exact World.cell?_setCell_same' _ _ _ (by rw [h.row _ hi]; rfl)
 ·rw [if_neg e, World.cell?_setCell_other _ _ _ _ (by simp only [ne_eq, Addr.mk.injEq, and_true, not_and]; omega)]
  exact h.row i hi
theorem Wro.trans {w w1 w2 : World} {b o n : Nat} {H H' : Nat → Int} (h : Wro w w1 b o n H) (h' : Wro w1 w2 b o n H') : Wro w w2 b o n H' :=
 ⟨h'.row, h'.fz, fun x hx hl => (h'.ot x hx (Nat.lt_of_lt_of_le hl h.sz)).trans (h.ot x hx hl), Nat.le_trans h.sz h'.sz, h.bl, h'.os.trans h.os, h'.tp.trans h.tp, h'.op.trans h.op⟩
theorem Wro.alloc {w : World} {b o n : Nat} {H : Nat → Int} (h : Row w b o n H) (hf : ∀ i, w.frozen? ⟨b, i, .none⟩ = false) (hb : b < w.heap.size) (ob : Obj) : Wro w (w.alloc ob) b o n H := by
 have k : Below w.heap.size w (w.alloc ob) := (Below.refl _ _).alloc (Nat.le_refl _) _
 exact ⟨h.keep k, fun i => (k.frozen (p := ⟨b, i, .none⟩) hb).trans (hf i), fun x _ hl => k.block x hl, k.size, hb, k.os, k.tape, k.output⟩
theorem shr_b (v : Int) (k : Nat) : v / 2 ^ (8 * k) % 256 = v / 256 ^ k % 256 := by
 have e : (2 : Int) ^ (8 * k) = 256 ^ k := by rw [Int.pow_mul]; rfl
 rw [e]
set_option maxHeartbeats 1000000 in
theorem put_any (b o n c of_ by_ : Nat) (fx v : Int) (H : Nat → Int) (w : World) (hn : of_ + by_ ≤ n) (hc : n ≤ c) (hcm : c ≤ 9223372036854775807) (hk0 : 0 < by_) (hk : by_ ≤ 8) (hv : 0 ≤ v ∧ v < 18446744073709551616) (hr : Row w b o n H) (hf : ∀ i, w.frozen? ⟨b, i, .none⟩ = false) (hb : b < w.heap.size) :
  Calls Tryz.prog 135 #[.agg #[.int .i64 of_, .int .i64 by_, .int .u64 fx], .slice (some ⟨b, o, .none⟩) n c, .int .u64 v] w fun e w' => e = .returned (.tuple #[]) ∧ Wro w w' b o n (putB H of_ by_ v) := by
 have c32 := fun w' => cut_any b o n c of_ by_ w' hk0 (by omega) hcm
 have HW : Hid (Wro w (w.alloc (.cells #[.int .i64 of_, .int .i64 by_, .int .u64 fx] 204)) b o n H) := Wro.alloc hr hf hb _
 clear hr hf
 go_enter Tryz.func135, Tryz.ntmps135
 go_wp2_with (first | (go_at_call 170; refine (c32 _).mono ?_; rintro e w1 ⟨rfl, rfl⟩) | fail)
 generalize (w.alloc (.cells #[.int .i64 of_, .int .i64 by_, .int .u64 fx] 204)) = W1 at *
 go_loopw [16] (fun a wr => ∃ i : Nat, i ≤ by_ ∧ a = .int .i64 i ∧ Hid (Wro w wr b o n (putB H of_ i v))) (fun a _ => (by_ - intOf a).toNat)
 case atStart => exact ⟨0, by omega, rfl, by rw [putB_zero]; exact HW⟩
 case round =>
  obtain ⟨i, hi, rfl, HS⟩ := hrel
  by_cases hlt : i < by_
  ·have g0 : (i : Int) < by_ := by omega
   have a0 := HS.out.row (of_ + i) (by omega)
   rw [← Nat.add_assoc] at a0
   have f0 := HS.out.fz (o + of_ + i)
   have HN := HS.out.set (by omega)
   rw [← shr_b v, ← Nat.add_assoc] at HN
   have HN2 : Hid (Wro w (wr.setCell ⟨b, o + of_ + i, .none⟩ (.int .u8 (v / 2 ^ (8 * i) % 256))) b o n (putB H of_ (i + 1) v)) := HN
   clear HN HS
   go_wp2_with fail
   exact ⟨⟨i + 1, by omega, by simp, HN2⟩, by simp [intOf]; omega⟩
  ·have he : i = by_ := by omega
   have hn9 : ¬ ((i : Int) < by_) := by omega
   subst he
   go_wp2_with fail
   exact ⟨rfl, _, results_none rfl _ _ _, rfl, HS.out⟩
end Go.Proofs.YtabnipbdbnmmpaaGreatDoor
