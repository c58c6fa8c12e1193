import Derived.Test.YtacdgfojdkppmaaGreatDoorSm2
import Derived.Test.YtacdgfojdkppmaaGreatDoorRq7
import Derived.Test.YtacdgfojdkppmaaGreatDoorKLc
import Derived.Test.YtacdgfojdkppmaaGreatDoorWq1
import Derived.Test.YtacdgfojdkppmaaGreatDoorZb
namespace Go.Proofs.YtacdgfojdkppmaaGreatDoor
open Go.RowKit
set_option linter.unusedVariables false
set_option linter.unusedSimpArgs false
set_option maxRecDepth 10000 in
set_option maxHeartbeats 1000000 in
theorem small_any (w : World) : Calls Tryz.prog 11 #[] w fun e w' => ∃ q c, e = .returned (.slice q 124 c) ∧ Byt w' q 124 c smF ∧ Below w.heap.size w w' := by
 obtain ⟨w1, hw1⟩ : ∃ w1, w1 = (w.alloc (.cells #[.int .u8 115, .int .u8 0, .int .u8 0, .int .u8 0] 5)).alloc (.cells #[.int .u64 0, .int .u32 5, .slice (some ⟨w.heap.size, 0, .none⟩) 4 4, .int .u64 4] 61) := ⟨_, rfl⟩
 have hS : Sm w1 (w.heap.size + 1) w.heap.size := by
  rw [hw1]
  exact ⟨by simp, by simp, by simp, by simp, by simp, by simp, by simp, by simp⟩
 have b1 : Below w.heap.size w w1 := by rw [hw1]; exact ((Below.refl _ _).alloc (Nat.le_refl _) _).alloc (by simp) _
 have c32 := writeS_any hS
 rw [hw1] at c32
 have HB : Hid (Below w.heap.size w w1 ∧ w1 = (w.alloc (.cells #[.int .u8 115, .int .u8 0, .int .u8 0, .int .u8 0] 5)).alloc (.cells #[.int .u64 0, .int .u32 5, .slice (some ⟨w.heap.size, 0, .none⟩) 4 4, .int .u64 4] 61)) := ⟨b1, hw1⟩
 clear hS b1 hw1
 go_enter Tryz.func11, Tryz.ntmps11
 go_wp2_with (go_at_call 32; refine c32.mono ?_; rintro _ w2 ⟨q, c, rfl, h2, b2⟩; rw [← HB.out.2] at b2; have H2 : Hid (Byt w2 q 124 c smF ∧ Below w.heap.size w w2) := ⟨h2, HB.out.1.trans (b2.mono HB.out.1.size)⟩; clear h2 b2 c32)
 go_ret
 have ba : Below w2.heap.size w2 (w2.alloc (.cells #[.slice .none 0 0, .int .i64 0] 86)) := (Below.refl _ _).alloc (Nat.le_refl _) _
 exact ⟨q, c, rfl, bytU H2.out.1 ba, H2.out.2.trans (ba.mono H2.out.2.size)⟩
/-- The file's bytes, by place. -/
def smB : Nat → Int := fun i => smF.getD i 0
theorem smB_bd (i : Nat) : 0 ≤ smB i ∧ smB i < 256 := by
 by_cases h : i < 124
 ·have : ∀ i, i < 124 → 0 ≤ smB i ∧ smB i < 256 := by decide +kernel
  exact this i h
 ·have hl : smF.length = 124 := by decide +kernel
  unfold smB
  rw [List.getD_eq_getElem?_getD, List.getElem?_eq_none (by omega)]
  simp
def smG : Sg := ⟨0, 5, 4, 120, 4⟩
theorem smB_rd : rdF 124 smB 0 0 = ((0, 0), [smG]) := by kernel_rfl
theorem smB_hd : Hd smB 0 0 := by
 refine .inl ⟨rfl, rfl, ?_⟩
 unfold chk
 decide +kernel
end Go.Proofs.YtacdgfojdkppmaaGreatDoor
namespace Go.Proofs.YtacdgfojdkppmaaGreatDoor
open Go.RowKit Go.Shelf
set_option linter.unusedVariables false
set_option linter.unusedSimpArgs false
/-! The laws' memory and small file; Load's refusals. -/
def MeP (w : World) (n : Nat) (e : Ending) (w' : World) : Prop := ∃ p b m B, w.heap.size ≤ p ∧ w.heap.size ≤ b ∧ w.heap.size ≤ m ∧ e = .returned (.tuple #[.pointer (some ⟨p, 0, .none⟩), .int .u64 (Rm.ad (n - 1)), .bool true]) ∧ Rm.Ram w' p b m n B (Rm.down (n - 2)) ∧ Below w.heap.size w w'
set_option maxRecDepth 10000 in
set_option maxHeartbeats 1000000 in
theorem memory_any (n : Nat) (h1 : 2 ≤ n) (h2 : n ≤ 4096) (w : World) : Calls Tryz.prog 9 #[.int .i64 n] w (MeP w n) := by
 have c30 := Rm.new_any n (by omega) h2 w
 have g1 : ¬ ((n : Int) < 2) := by omega
 have g2 : ¬ ((n : Int) > 4096) := by omega
 have hdn : Rm.down (n - 1) = (n - 1) :: Rm.down (n - 2) := by
  obtain ⟨k, rfl⟩ : ∃ k, n = k + 2 := ⟨n - 2, by omega⟩
  rfl
 have HD : Hid (Rm.down (n - 1) = (n - 1) :: Rm.down (n - 2)) := hdn
 clear hdn
 go_enter Tryz.func9, Tryz.ntmps9
 go_upto_region 8 with (go_at_call 30; refine c30.mono ?_; rintro _ w1 ⟨p, b, m, hp, hb, hm, rfl, hR, b1⟩; rw [HD.out] at hR; have H1 : Hid (w.heap.size ≤ p ∧ w.heap.size ≤ b ∧ w.heap.size ≤ m ∧ Rm.Ram w1 p b m n (Rm.newB (n - 1)) ((n - 1) :: Rm.down (n - 2)) ∧ Below w.heap.size w w1) := ⟨hp, hb, hm, hR, b1⟩; clear hp hb hm hR b1 c30)
 have c17 := Rm.alloc_some (n - 1) H1.out.2.2.2.1
 generalize ht : (2147483648 + ((n - 1 : Nat) : Int) * 4096) = t at c17
 have HT : Hid (t = Rm.ad (n - 1)) := ht.symm
 clear ht
 go_wp2_with (go_at_call 17; refine c17.mono ?_; rintro _ w2 ⟨rfl, hR2, hf2⟩; have H2 : Hid (Rm.Ram w2 p b m n (Rm.zer (Rm.newB (n - 1)) (n - 1)) (Rm.down (n - 2)) ∧ Rm.Fra p b m w1 w2) := ⟨hR2, hf2⟩; clear hR2 hf2 c17)
 refine bodyPost_ret (v := .tuple #[.pointer (some ⟨p, 0, .none⟩), .int .u64 t, .bool true]) (by simp [results, Tryz.results9, go_sem]) rfl ?_
 exact ⟨p, b, m, _, H1.out.1, H1.out.2.1, H1.out.2.2.1, by rw [HT.out], H2.out.1, H1.out.2.2.2.2.trans (H2.out.2.toBelow H1.out.2.2.2.2.size H1.out.1 H1.out.2.1 H1.out.2.2.1)⟩
theorem byt_fp {w : World} {fp : Option Addr} {n c : Nat} {xs : List Int} (h : Byt w fp n c xs) : Fp w fp n (fun i => xs.getD i 0) := by
 obtain ⟨h1, h2, h3, h4⟩ := h
 rcases h4 with h4 | ⟨b', o', e, h5, h6⟩
 ·exact .inr h4
 ·refine .inl ⟨b', o', e, fun i hi => ?_, h5⟩
  have hx : xs[i]? = some (xs.getD i 0) := by rw [List.getD_eq_getElem?_getD, List.getElem?_eq_getElem (by omega)]; rfl
  exact h6 i _ hx
set_option maxRecDepth 10000 in
set_option maxHeartbeats 2000000 in
theorem load_refM {W : World} (v : Value) {fp : Option Addr} {fn fc : Nat} {B : Nat → Int} (hL : Laid W) (hF : Fp W fp fn B) (hB : ∀ i, 0 ≤ B i ∧ B i < 256) (hc : fn ≤ fc ∧ fc ≤ 9223372036854775807) (ha hr : Int) (hH : Hd B ha hr)
  {p : Option Addr} {n c : Nat} {xs : List Bs} (hA : Arg W p n c xs) (tr : Int) (hne : dmE (rdF fn B ha hr).1.2 xs ≠ 0) :
  Calls Tryz.prog 8 #[v, .slice fp fn fc, .slice p n c, .int .u64 tr, .int .u64 2147483648] W fun e w' => e = .returned (.tuple #[.pointer .none, .agg #[.int .u64 0, .int .u64 0, .int .u64 0], .int .i64 (dmE (rdF fn B ha hr).1.2 xs)]) ∧ Below W.heap.size W w' := by
 obtain ⟨W1, hW1⟩ : ∃ W1, W1 = W.alloc (.cells #[.int .u64 0, .int .u64 0, .int .u64 0] 34) := ⟨_, rfl⟩
 have b1 : Below W.heap.size W W1 := by rw [hW1]; exact (Below.refl _ _).alloc (Nat.le_refl _) _
 have k0 : W1.cell? ⟨W.heap.size, 0, .none⟩ = some (.int .u64 0) := by rw [hW1]; simp
 have k1 : W1.cell? ⟨W.heap.size, 1, .none⟩ = some (.int .u64 0) := by rw [hW1]; simp
 have k2 : W1.cell? ⟨W.heap.size, 2, .none⟩ = some (.int .u64 0) := by rw [hW1]; simp
 have k4 : ∀ i, W1.frozen? ⟨W.heap.size, i, .none⟩ = false := fun i => by rw [hW1]; exact World.frozen?_alloc_new _ _ _ i
 have hF1 : Fp W1 fp fn B := by
  rcases hF with ⟨b, o, e, h1, h2⟩ | h
  ·exact .inl ⟨b, o, e, h1.keep b1, Nat.lt_of_lt_of_le h2 b1.size⟩
  ·exact .inr h
 have cP := planF_any (hL.below b1) hF1 hB hc ha hr hH (hA.below b1)
 have HU : Hid (True ∧ Below W.heap.size W W1 ∧ ∀ i, W1.frozen? ⟨W.heap.size, i, .none⟩ = false) := ⟨trivial, b1, k4⟩
 generalize (rdF fn B ha hr).1.2 = r at cP hne ⊢
 generalize sgO fn B ha hr = Sg' at cP
 generalize enO fn B ha hr = en9 at cP
 clear hL hF hB hH hA b1 k4 hF1
 unfold PlP at cP
 obtain ⟨x, hx⟩ : ∃ x, x = W.heap.size := ⟨_, rfl⟩
 have HX : Hid (x = W.heap.size) := hx
 have h0 := hne
 clear hne
 generalize dmE r xs = d at h0 cP ⊢
 have hd : (d != 0) = true := by simpa using h0
 go_enter Tryz.func8, Tryz.ntmps8
 go_upto_region 1 with fail
 rw [← hW1, ← hx]
 rw [← hx] at k0 k1 k2
 clear hW1 hx
 go_upto_region 2 with (go_at_call 24; refine cP.mono ?_; rintro _ w2 ⟨b2, h2⟩; obtain rfl : _ = _ := (by rcases h2 with ⟨_, h⟩ | ⟨h, _⟩; exact h; exact absurd h h0); have H2 : Hid (Below W1.heap.size W1 w2) := b2; clear h2 cP b2)
 obtain ⟨w3, hw3⟩ : ∃ w3, w3 = w2.alloc (.cells #[.int .u64 0, .slice .none 0 0, .slice .none 0 0, .int .u64 0] 75) := ⟨_, rfl⟩
 have B3 : Hid (Below W1.heap.size W1 w3) := by rw [hw3]; exact H2.out.alloc H2.out.size _
 rw [← hw3]
 clear hw3 H2
 have l0 := (B3.out.cell (lt_of_cell k0)).trans k0
 have l1 := (B3.out.cell (lt_of_cell k1)).trans k1
 have l2 := (B3.out.cell (lt_of_cell k2)).trans k2
 have f0 : w3.frozen? ⟨x, 0, .none⟩ = false := (B3.out.frozen (p := ⟨x, 0, .none⟩) (lt_of_cell k0)).trans (by rw [HX.out]; exact HU.out.2.2 0)
 have f1 : w3.frozen? ⟨x, 1, .none⟩ = false := (B3.out.frozen (p := ⟨x, 1, .none⟩) (lt_of_cell k1)).trans (by rw [HX.out]; exact HU.out.2.2 1)
 have f2 : w3.frozen? ⟨x, 2, .none⟩ = false := (B3.out.frozen (p := ⟨x, 2, .none⟩) (lt_of_cell k2)).trans (by rw [HX.out]; exact HU.out.2.2 2)
 go_wp2_with fail
 have hxw := HX.out
 refine bodyPost_ret (v := .tuple #[.pointer .none, .agg #[.int .u64 0, .int .u64 0, .int .u64 0], .int .i64 d]) (by simp [results, Tryz.results8, go_sem, l0, l1, l2]) rfl ⟨rfl, ?_⟩
 have hb := HU.out.2.1.trans (B3.out.mono HU.out.2.1.size)
 exact ((hb.setCell (by show W.heap.size ≤ x; omega) _).setCell (by show W.heap.size ≤ x; omega) _).setCell (by show W.heap.size ≤ x; omega) _
/-- The small file's load into a memory of twenty frames. -/
theorem load_20 {W : World} {p b m : Nat} {Bm : Nat → Int} (hR : Rm.Ram W p b m 20 Bm (18 :: Rm.down 17)) (hL : Laid W) (hL3 : Laid3 W) (h3 : 3 < p ∧ 3 < b ∧ 3 < m) {fb fo cq : Nat} (hF : Row W fb fo 124 smB) (hfb : fb < W.heap.size) (hc : 124 ≤ cq ∧ cq ≤ 9223372036854775807) {ap : Option Addr} {an ac : Nat} {xs : List Bs} (hA : Arg W ap an ac xs) (hdm : dmE 0 xs = 0) :
  Calls Tryz.prog 8 #[.pointer (some ⟨p, 0, .none⟩), .slice (some ⟨fb, fo, .none⟩) 124 cq, .slice ap an ac, .int .u64 (Rm.ad 19), .int .u64 2147483648] W (LdM W p b m 20 1 18 [smG] smB xs 0) := by
 have hsg : sgO 124 smB 0 0 = [smG] := by unfold sgO; rw [smB_rd]; rfl
 have hrd : (rdF 124 smB 0 0).1.2 = 0 := by rw [smB_rd]
 have hen : enO 124 smB 0 0 = 0 := by unfold enO; rw [smB_rd]; kernel_rfl
 have := loadM hR (ft := 19) ⟨by omega, by omega, fun h => by have h' : 19 ∈ Rm.down 18 := h; rw [Rm.down_mem] at h'; omega⟩ hL hL3 h3 hF hfb smB_bd hc hA 0 0 smB_hd hrd hdm hsg 0 hen 1 (by decide) (by omega) (by decide) (fun x hx => by
  rw [List.mem_singleton] at hx
  subst hx
  exact ⟨by decide, by decide, by decide⟩) (by rw [Rm.down_len]; omega)
 rw [Rm.down_len] at this
 exact this
end Go.Proofs.YtacdgfojdkppmaaGreatDoor
namespace Go.Proofs.YtacdgfojdkppmaaGreatDoor
open Go.RowKit Go.Shelf
set_option linter.unusedVariables false
set_option linter.unusedSimpArgs false
/-! works: the chapter's second example. -/
/-- The two arguments. -/
def wkX : List Bs := [[97, 98], [99]]
theorem Laid3.lt {w : World} (h : Laid3 w) : 3 < w.heap.size := lt_of_cell h.c0
/-- What the example's stack holds. -/
structure WkR (R : Nat → Int) : Prop where
 a0 : R 4032 = 240
 a1 : R 4033 = 47
 a8 : R 4040 = 224
 a9 : R 4041 = 47
 b0 : R 4048 = 0
 c0 : R 4064 = 99
 c1 : R 4065 = 0
 d0 : R 4080 = 97
 d1 : R 4081 = 98
 d2 : R 4082 = 0
theorem wk_of {R : Nat → Int} (h : StkR 8192 wkX R 4032) : WkR R := by
 obtain ⟨h1, h2, h3, h4⟩ := h
 obtain ⟨p, p0, p1, p2, p3, p4, p5⟩ := h4 0 [97, 98] rfl
 obtain ⟨q, q0, q1, q2, q3, q4, q5⟩ := h4 1 [99] rfl
 have e1 : stx 4096 (wkX.take (0 + 1)) = 4080 := by decide
 have e2 : stx 4096 (wkX.take (1 + 1)) = 4064 := by decide
 rw [e1] at p0
 rw [e2] at q0
 obtain rfl : p = 4080 := by omega
 obtain rfl : q = 4064 := by omega
 exact ⟨(p5 0 (by omega)).trans (by decide), (p5 1 (by omega)).trans (by decide), (q5 0 (by omega)).trans (by decide), (q5 1 (by omega)).trans (by decide), h1 0 (by omega), (q3 0 99 rfl).trans (by decide), q4, (p3 0 97 rfl).trans (by decide), (p3 1 98 rfl).trans (by decide), p4⟩
/-- The pages' rights of the small file's space. -/
def smC : Nat → Int := Rm.upd (cS [smG]) 1 198
def WkP (W : World) (p b m : Nat) (e : Ending) (w' : World) : Prop := ∃ s r Rp K, e = .returned (.tuple #[.pointer (some ⟨s, 0, .none⟩), .agg #[.int .u64 0, .int .u64 12224, .int .u64 12224], .int .i64 0]) ∧ Rm.Fra p b m W w' ∧ Rm.SpM w' s p b m 20 r 3 K (pgM smB [smG] 1 Rp) smC ∧ WkR Rp
theorem wk_load {w2 w4 : World} {p b m : Nat} {Bm : Nat → Int} {q : Option Addr} {cq : Nat} (hR : Rm.Ram w2 p b m 20 Bm (18 :: Rm.down 17)) (hL : Laid w2) (hL3 : Laid3 w2) (h3 : 3 < p ∧ 3 < b ∧ 3 < m) (b4 : Below w2.heap.size w2 w4) (hq : Byt w4 q 124 cq smF) :
  Hid (∀ T, Calls Tryz.prog 8 #[.pointer (some ⟨p, 0, .none⟩), .slice q 124 cq, .slice (some ⟨w4.heap.size, 0, .none⟩) 2 2, .int .u64 (Rm.ad 19), .int .u64 2147483648] (w4.alloc (.cells #[.string ⟨#[97, 98]⟩, .string ⟨#[99]⟩] T)) (WkP (w4.alloc (.cells #[.string ⟨#[97, 98]⟩, .string ⟨#[99]⟩] T)) p b m)) := by
 intro T
 have b5 : Below w4.heap.size w4 (w4.alloc (.cells #[.string ⟨#[97, 98]⟩, .string ⟨#[99]⟩] T)) := (Below.refl _ _).alloc (Nat.le_refl _) _
 have b25 := b4.trans (b5.mono b4.size)
 obtain ⟨fb, fo, rfl, hrow, hfb⟩ : ∃ b o, q = some ⟨b, o, .none⟩ ∧ Row w4 b o 124 smB ∧ b < w4.heap.size := by
  rcases byt_fp hq with h | h
  ·exact h
  ·omega
 have hcq : 124 ≤ cq ∧ cq ≤ 9223372036854775807 := ⟨hq.2.1, hq.2.2.1⟩
 have hA : Arg (w4.alloc (.cells #[.string ⟨#[97, 98]⟩, .string ⟨#[99]⟩] T)) (some ⟨w4.heap.size, 0, .none⟩) 2 2 wkX := by
  refine ⟨⟨rfl, Nat.le_refl _, by decide, .inr ⟨w4.heap.size, 0, rfl, by simp, fun i x hx => ?_⟩⟩, by omega, fun x hx => ?_⟩
  ·match i, hx with
   | 0, hx =>
    simp only [wkX, List.getElem?_cons_zero, Option.some.injEq] at hx
    subst hx
    simp [sv]
   | 1, hx =>
    simp only [wkX, List.getElem?_cons_succ, List.getElem?_cons_zero, Option.some.injEq] at hx
    subst hx
    simp [sv]
   | k + 2, hx => simp [wkX] at hx
  ·simp only [wkX, List.mem_cons, List.not_mem_nil, or_false] at hx
   rcases hx with rfl | rfl <;> decide
 refine (load_20 (hR.below b25) (hL.below b25) (hL3.below b25) h3 (hrow.keep b5) (Nat.lt_of_lt_of_le hfb b5.size) hcq hA (by decide)).mono fun e w' h9 => ?_
 obtain ⟨s, r, Rp, spn, K, rfl, hf, hs, hM, hK, hspn, hstk⟩ := h9
 have e1 : (stx 4096 wkX - 8 * ((wkX.length : Int) + 1)) / 16 * 16 = 4032 := by decide
 have e2 : spn = 4032 := by
  have : (stx 4096 wkX - 8 * ((wkX.length : Int) + 1)) / 16 * 16 = (spn : Int) := hspn
  omega
 subst e2
 have e3 : (((1 : Nat) : Int) + 1) * 4096 = 8192 := by decide
 rw [e3] at hstk
 exact ⟨s, r, Rp, K, by rfl, hf, hM, wk_of hstk⟩
end Go.Proofs.YtacdgfojdkppmaaGreatDoor
namespace Go.Proofs.YtacdgfojdkppmaaGreatDoor
open Go.RowKit Go.Shelf Rg
set_option linter.unusedVariables false
set_option linter.unusedSimpArgs false
set_option maxRecDepth 10000 in
set_option maxHeartbeats 4000000 in
theorem works_any {W : World} (hL : Laid W) (hL3 : Laid3 W) : Calls Tryz.prog 12 #[] W fun e w' => e = .returned (.bool true) ∧ Below W.heap.size W w' := by
 have c9 := memory_any 20 (by omega) (by omega) W
 have HL : Hid (Laid W ∧ Laid3 W) := ⟨hL, hL3⟩
 clear hL hL3
 go_enter Tryz.func12, Tryz.ntmps12
 go_upto_region 4 with (go_at_call 9; refine c9.mono ?_; rintro _ w2 ⟨p, b, m, Bm, hp, hb, hm, rfl, hR2, b2⟩; clear c9)
 have hR : Rm.Ram w2 p b m 20 Bm (18 :: Rm.down 17) := hR2
 have h3 : 3 < p ∧ 3 < b ∧ 3 < m := by have := HL.out.2.lt; omega
 have H2 : Hid (Rm.Ram w2 p b m 20 Bm (18 :: Rm.down 17) ∧ Laid w2 ∧ Laid3 w2 ∧ (3 < p ∧ 3 < b ∧ 3 < m) ∧ Below W.heap.size W w2 ∧ W.heap.size ≤ p ∧ W.heap.size ≤ b ∧ W.heap.size ≤ m) := ⟨hR, HL.out.1.below b2, HL.out.2.below b2, h3, b2, hp, hb, hm⟩
 clear hR hR2 b2 hp hb hm h3
 have ht9 : Rm.ad (20 - 1) = Rm.ad 19 := rfl
 rw [ht9]
 clear ht9
 generalize ht : Rm.ad 19 = t9
 have HT : Hid (Rm.ad 19 = t9) := ht
 clear ht
 go_upto_region 5 with first | (go_at_call 11; refine (small_any _).mono ?_; rintro _ w4 ⟨q, cq, rfl, hq, b4⟩; have HL8 := wk_load H2.out.1 H2.out.2.1 H2.out.2.2.1 H2.out.2.2.2.1 b4 hq; have B4 : Hid (Below w2.heap.size w2 w4) := b4; rw [HT.out] at HL8; clear hq b4) | (go_at_call 8; refine (HL8.out _).mono ?_; rintro _ w6 ⟨s, r, Rp, K, rfl, hf6, hM6, hK6⟩)
 have hz6 : w4.heap.size + 1 ≤ w6.heap.size := by have := hf6.size; simpa using this
 have b7 : Below w6.heap.size w6 (w6.alloc (.cells #[.int .u64 0, .int .u64 12224, .int .u64 12224] 34)) := (Below.refl _ _).alloc (Nat.le_refl _) _
 have c14 := (hM6.below b7).inn 12224 64 (by omega) (by omega)
 have B25 : Below W.heap.size W (w4.alloc (.cells #[.string ⟨#[97, 98]⟩, .string ⟨#[99]⟩] 9)) := (H2.out.2.2.2.2.1.trans (B4.out.mono H2.out.2.2.2.2.1.size)).alloc (Nat.le_trans H2.out.2.2.2.2.1.size B4.out.size) _
 have H7 : Hid (WkR Rp ∧ Below W.heap.size W (w6.alloc (.cells #[.int .u64 0, .int .u64 12224, .int .u64 12224] 34))) := ⟨hK6, (hf6.toBelow B25.size H2.out.2.2.2.2.2.1 H2.out.2.2.2.2.2.2.1 H2.out.2.2.2.2.2.2.2 |> fun h => B25.trans (h.mono (Nat.le_refl _))).alloc (by have := B25.size; have := hf6.size; omega) _⟩
 clear hK6 hf6 hM6 b7 B25
 go_upto_region 7 with fail
 obtain ⟨w7, hw7⟩ : ∃ w7, w7 = w6.alloc (.cells #[.int .u64 0, .int .u64 12224, .int .u64 12224] 34) := ⟨_, rfl⟩
 rw [← hw7] at c14 H7 ⊢
 clear hw7
 have hac : ∀ j, j < 64 → Rm.accU smC 1 (12224 + j) = true := fun j hj => by
  unfold Rm.accU
  rw [show (12224 + j) / 4096 = 2 by omega]
  decide
 have hby : ∀ j, j < 64 → pgM smB [smG] 1 Rp (12224 + j) = Rp (4032 + j) := fun j hj => by
  unfold pgM Rm.wrM
  rw [if_pos (by omega)]
  exact congrArg Rp (by omega)
 go_upto_region 8 with (go_at_call 14; refine c14.mono ?_; rintro _ w9 ⟨b9, ⟨-, g, hg1, hg2, rfl, hg3⟩ | ⟨⟨j, hj, hx⟩, -⟩⟩; all_goals first | (exact absurd hx (by rw [hac j hj]; decide)) | skip)
 have hc : ∀ j, j < 64 → w9.cell? ⟨g, j, .none⟩ = some (.int .u8 (Rp (4032 + j))) := fun j hj => by rw [← hby j hj]; exact hg3 j hj
 have k0 := hc 0 (by omega)
 have k1 := hc 1 (by omega)
 have k8 := hc 8 (by omega)
 have k9 := hc 9 (by omega)
 have k16 := hc 16 (by omega)
 have k32 := hc 32 (by omega)
 have k33 := hc 33 (by omega)
 have k48 := hc 48 (by omega)
 have k49 := hc 49 (by omega)
 have k50 := hc 50 (by omega)
 rw [show 4032 + 0 = 4032 from rfl, H7.out.1.a0] at k0
 rw [show 4032 + 1 = 4033 from rfl, H7.out.1.a1] at k1
 rw [show 4032 + 8 = 4040 from rfl, H7.out.1.a8] at k8
 rw [show 4032 + 9 = 4041 from rfl, H7.out.1.a9] at k9
 rw [show 4032 + 16 = 4048 from rfl, H7.out.1.b0] at k16
 rw [show 4032 + 32 = 4064 from rfl, H7.out.1.c0] at k32
 rw [show 4032 + 33 = 4065 from rfl, H7.out.1.c1] at k33
 rw [show 4032 + 48 = 4080 from rfl, H7.out.1.d0] at k48
 rw [show 4032 + 49 = 4081 from rfl, H7.out.1.d1] at k49
 rw [show 4032 + 50 = 4082 from rfl, H7.out.1.d2] at k50
 have s1 : ∀ X, (Instr.slice 22 (.slice (some ⟨g, 0, .none⟩) 64 64) (some (.int .i64 32)) (some (.int .i64 34)) none).run Tryz.prog X = .ok (.slice (some ⟨g, 32, .none⟩) 2 32) X := fun X => by
  rw [run_slice_lh X 22 (some ⟨g, 0, .none⟩) 64 64 (by kernel_rfl) .i64 .i64 32 34 (by decide) (by decide) (by decide), elem22]
  simp [Result.andThen, sliced, Addr.add]
 have s2 : ∀ X, (Instr.slice 22 (.slice (some ⟨g, 0, .none⟩) 64 64) (some (.int .i64 48)) (some (.int .i64 51)) none).run Tryz.prog X = .ok (.slice (some ⟨g, 48, .none⟩) 3 16) X := fun X => by
  rw [run_slice_lh X 22 (some ⟨g, 0, .none⟩) 64 64 (by kernel_rfl) .i64 .i64 48 51 (by decide) (by decide) (by decide), elem22]
  simp [Result.andThen, sliced, Addr.add]
 have v1 : (convert 22 9 (.slice (some ⟨g, 32, .none⟩) 2 32)).run Tryz.prog w9 = .ok (.string ⟨#[99, 0]⟩) w9 := by
  have := run_convert_bytes_arg w9 22 5 Tryz.underlying22 Tryz.underlying5 g 32 2 32 [99, 0] rfl (fun i hi => by
   match i, hi with
   | 0, _ => exact k32
   | 1, _ => exact k33) 9 Tryz.underlying9
  exact this
 have v2 : (convert 22 9 (.slice (some ⟨g, 48, .none⟩) 3 16)).run Tryz.prog w9 = .ok (.string ⟨#[97, 98, 0]⟩) w9 := by
  have := run_convert_bytes_arg w9 22 5 Tryz.underlying22 Tryz.underlying5 g 48 3 16 [97, 98, 0] rfl (fun i hi => by
   match i, hi with
   | 0, _ => exact k48
   | 1, _ => exact k49
   | 2, _ => exact k50) 9 Tryz.underlying9
  exact this
 have HB : Hid (Below W.heap.size W w9) := H7.out.2.trans (b9.mono H7.out.2.size)
 clear k32 k33 k48 k49 k50 hc hg1 hg2 hg3 b9 hac hby
 go_wp2
 go_ret
 exact ⟨rfl, HB.out⟩
end Go.Proofs.YtacdgfojdkppmaaGreatDoor
namespace Go.Proofs.YtacdgfojdkppmaaGreatDoor
open Go.RowKit Go.Shelf
set_option linter.unusedVariables false
set_option linter.unusedSimpArgs false
/-! An argument, found through its address. -/
theorem num_8 {B : Nat → Int} {V : Int} (h : ∀ l, l < 8 → B l = V / 256 ^ l % 256) (h0 : 0 ≤ V ∧ V < 65536) : num B 0 8 = V := by
 have h2 := h 2 (by omega)
 have h3 := h 3 (by omega)
 have h4 := h 4 (by omega)
 have h5 := h 5 (by omega)
 have h6 := h 6 (by omega)
 have h7 := h 7 (by omega)
 have a0 := h 0 (by omega)
 have a1 := h 1 (by omega)
 simp only [num, Nat.zero_add]
 rw [a0, a1, h2, h3, h4, h5, h6, h7]
 simp only [show (256 : Int) ^ 0 = 1 from rfl, show (256 : Int) ^ 1 = 256 from rfl, show (256 : Int) ^ 2 = 65536 from rfl, show (256 : Int) ^ 3 = 16777216 from rfl, show (256 : Int) ^ 4 = 4294967296 from rfl, show (256 : Int) ^ 5 = 1099511627776 from rfl, show (256 : Int) ^ 6 = 281474976710656 from rfl, show (256 : Int) ^ 7 = 72057594037927936 from rfl]
 omega
theorem num_0 {B : Nat → Int} (h : ∀ l, l < 8 → B l = 0) : num B 0 8 = 0 := num_8 (V := 0) (fun l hl => by rw [h l hl]; simp) ⟨by decide, by decide⟩
theorem pg_at (Rp : Nat → Int) (j : Nat) (h : j < 4096) : pgM smB [smG] 1 Rp (8192 + j) = Rp j := by
 unfold pgM Rm.wrM
 rw [if_pos (by omega)]
 exact congrArg Rp (by omega)
theorem acc_st (j : Nat) (h : j < 4096) : Rm.accU smC 1 (8192 + j) = true := by
 unfold Rm.accU
 rw [show (8192 + j) / 4096 = 2 by omega]
 decide
theorem map_inj : ∀ {t x : List UInt8}, t.map (fun u => (u.toNat : Int)) = x.map (fun u => (u.toNat : Int)) → t = x
 | [], [], _ => rfl
 | [], _ :: _, h => by cases h
 | _ :: _, [], h => by cases h
 | a :: t, b :: x, h => by
  simp only [List.map_cons, List.cons.injEq] at h
  rw [UInt8.toNat_inj.1 (show a.toNat = b.toNat by omega), map_inj h.2]
theorem ag_str {w : World} {s p b m r K : Nat} {Rp : Nat → Int} (h : Rm.SpM w s p b m 20 r 3 K (pgM smB [smG] 1 Rp) smC) {x : Bs} (hz0 : (0 : UInt8) ∉ x) {q : Nat} (hq : q + x.length + 1 ≤ 4096) (hb : ∀ j y, x[j]? = some y → Rp (q + j) = (y.toNat : Int)) (h0 : Rp (q + x.length) = 0) (V : Int) (hV : V = 8192 + (q : Int)) :
  Calls Tryz.prog 15 #[.pointer (some ⟨s, 0, .none⟩), .int .u64 V, .int .i64 4096] w fun e w' => e = .returned (.tuple #[.string ⟨x.toArray⟩, .bool true]) ∧ Below w.heap.size w w' := by
 obtain ⟨B, L, F, lf, fr, hG, hM⟩ := h
 have hMM : ∀ j, j < 4096 → Rm.btU B fr (8192 + j) = Rp j := fun j hj => (hM _ (by omega)).trans (pg_at Rp j hj)
 have hg : ∀ j, j < x.length → ∃ y, x[j]? = some y := fun j hj => ⟨x[j], List.getElem?_eq_getElem hj⟩
 have hat : ∀ j, j ≤ x.length → Rm.btU B fr (8192 + q + j) = Rp (q + j) := fun j hj => by rw [Nat.add_assoc]; exact hMM (q + j) (by omega)
 have := Rm.str_any hG.su (8192 + q) x.length (by omega) (by omega) (acc_st q (by omega)) (by rw [hat _ (Nat.le_refl _)]; exact h0) (fun j hj e => by
  rw [hat j (by omega)] at e
  obtain ⟨y, hy⟩ := hg j hj
  rw [hb j y hy] at e
  have : y = 0 := UInt8.toNat_inj.1 (by simpa using e)
  exact hz0 (by rw [← this]; exact List.mem_of_getElem? hy))
 rw [show ((8192 + q : Nat) : Int) = V by omega] at this
 refine this.mono fun e w' h9 => ?_
 obtain ⟨⟨t, he, ht⟩, hbl⟩ := h9
 refine ⟨?_, hbl⟩
 have e9 : t = x := map_inj (ht.trans (by
  apply List.ext_getElem?
  intro j
  rw [List.getElem?_map, List.getElem?_map]
  by_cases hj : j < x.length
  ·obtain ⟨y, hy⟩ := hg j hj
   rw [List.getElem?_range hj, hy]
   simp only [Option.map_some]
   rw [hat j (by omega), hb j y hy]
  ·rw [List.getElem?_eq_none (by simpa using hj), List.getElem?_eq_none (by simpa using hj)]
   rfl))
 rw [he, e9]
end Go.Proofs.YtacdgfojdkppmaaGreatDoor
