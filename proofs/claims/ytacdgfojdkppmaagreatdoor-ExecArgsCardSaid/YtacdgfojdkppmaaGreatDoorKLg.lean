import Derived.Test.YtacdgfojdkppmaaGreatDoorKLh
namespace Go.Proofs.YtacdgfojdkppmaaGreatDoor
open Go.RowKit Go.Shelf Rg
set_option linter.unusedVariables false
set_option linter.unusedSimpArgs false
theorem ag_ref {w4 : World} (v : Value) {q : Option Addr} {cq : Nat} (hL : Laid w4) (hq : Byt w4 q 124 cq smF) {ap : Option Addr} {an ac : Nat} {xs : List Bs} (hA : Arg w4 ap an ac xs) (tr : Int) (de : Int) (hde : dmE 0 xs = de) (hne : de ≠ 0) :
  Calls Tryz.prog 8 #[v, .slice q 124 cq, .slice ap an ac, .int .u64 tr, .int .u64 2147483648] w4 fun e w' => e = .returned (.tuple #[.pointer .none, .agg #[.int .u64 0, .int .u64 0, .int .u64 0], .int .i64 de]) ∧ Below w4.heap.size w4 w' := by
 have hrd : (rdF 124 smB 0 0).1.2 = 0 := by rw [smB_rd]
 have := load_refM v hL (byt_fp hq) smB_bd ⟨hq.2.1, hq.2.2.1⟩ 0 0 smB_hd hA tr (by
  show dmE (rdF 124 smB 0 0).1.2 xs ≠ 0
  rw [hrd, hde]; exact hne)
 have e9 : dmE (rdF 124 smB 0 0).1.2 xs = de := by rw [hrd, hde]
 rw [show (fun i => smF.getD i 0) = smB from rfl, e9] at this
 exact this
theorem ag_ok {w2 w4 : World} {p b m : Nat} {Bm : Nat → Int} {q : Option Addr} {cq : Nat} (hR : Rm.Ram w2 p b m 20 Bm (18 :: Rm.down 17)) (hL : Laid w2) (hL3 : Laid3 w2) (h3 : 3 < p ∧ 3 < b ∧ 3 < m) (b4 : Below w2.heap.size w2 w4) (hq : Byt w4 q 124 cq smF) {ap : Option Addr} {an ac : Nat} {xs : List Bs} (hA : Arg w4 ap an ac xs) (hdm : dmE 0 xs = 0) :
  Calls Tryz.prog 8 #[.pointer (some ⟨p, 0, .none⟩), .slice q 124 cq, .slice ap an ac, .int .u64 (Rm.ad 19), .int .u64 2147483648] w4 (LdM w4 p b m 20 1 18 [smG] smB xs 0) := by
 obtain ⟨fb, fo, rfl, hrow, hfb⟩ : ∃ b o, q = some ⟨b, o, .none⟩ ∧ Row w4 b o 124 smB ∧ b < w4.heap.size := by
  rcases byt_fp hq with h | h
  ·exact h
  ·omega
 exact load_20 (hR.below b4) (hL.below b4) (hL3.below b4) h3 hrow hfb ⟨hq.2.1, hq.2.2.1⟩ hA hdm
theorem elem23 (W : World) : (sizeOf (Tryz.prog.elem 23)).run Tryz.prog W = .ok 1 W := by kernel_rfl
theorem dm_any {xs : List Bs} (h : dmE 0 xs = 0) : xs.any hz = false := by
 unfold dmE at h
 rw [if_neg (by omega)] at h
 by_cases a : 32 < xs.length
 ·rw [if_pos a] at h; omega
 rw [if_neg a] at h
 cases b : xs.any hz with
 | true => rw [b] at h; simp at h
 | false => rfl
theorem dm_take {xs : List Bs} (h : dmE 0 xs = 0) (k : Nat) : dmE 0 (xs.take k) = 0 := by
 have h1 : xs.length ≤ 32 ∧ xs.any hz = false ∧ rm xs = true := by
  unfold dmE at h
  rw [if_neg (by omega)] at h
  by_cases a : 32 < xs.length
  ·rw [if_pos a] at h; omega
  rw [if_neg a] at h
  cases b : xs.any hz with
  | true => rw [b] at h; simp at h
  | false =>
   rw [b] at h
   cases c : rm xs with
   | false => rw [c] at h; simp at h
   | true => exact ⟨by omega, rfl, rfl⟩
 refine dm_ok rfl (by rw [List.length_take]; omega) ?_ ?_
 ·rw [List.any_eq_false] at h1 ⊢
  exact fun x hx => h1.2.1 x (List.mem_of_mem_take hx)
 ·have h2 := h1.2.2
  unfold rm at h2 ⊢
  simp only [decide_eq_true_eq] at h2 ⊢
  have h3 : stx 4096 xs = stx (stx 4096 (xs.take k)) (xs.drop k) := by
   conv => lhs; rw [← List.take_append_drop k xs]
   simp only [stx, List.foldl_append]
  have h4 := stx_le (xs.drop k) (stx 4096 (xs.take k))
  have h5 : (xs.take k).length ≤ xs.length := by rw [List.length_take]; omega
  omega
theorem ag_dem {w4 : World} {q : Option Addr} {cq : Nat} (hL : Laid w4) (hq : Byt w4 q 124 cq smF) {ap : Option Addr} {an ac : Nat} {xs : List Bs} (hA : Arg w4 ap an ac xs) (hde : dmE 0 xs = 0) :
  Calls Tryz.prog 16 #[.slice q 124 cq, .slice ap an ac] w4 fun e w' => (∃ d, e = .returned (.tuple #[.int .i64 d, .int .i64 0])) ∧ Below w4.heap.size w4 w' := by
 obtain ⟨fb, fo, rfl, hrow, hfb⟩ : ∃ b o, q = some ⟨b, o, .none⟩ ∧ Row w4 b o 124 smB ∧ b < w4.heap.size := by
  rcases byt_fp hq with h | h
  ·exact h
  ·omega
 have hrd : (rdF 124 smB 0 0).1.2 = 0 := by rw [smB_rd]
 have := demand_any hL hrow hfb smB_bd ⟨hq.2.1, hq.2.2.1⟩ 0 0 smB_hd hA
 rw [hrd, hde] at this
 exact this.mono fun e w' h => ⟨⟨_, h.1⟩, h.2⟩
theorem Tex.take {w : World} {p : Option Addr} {n c k : Nat} {xs : List Bs} (h : Tex w p n c xs) (hk : k ≤ n) : Tex w p k c (xs.take k) := by
 obtain ⟨h1, h2, h3, h4⟩ := h
 refine ⟨by rw [List.length_take]; omega, by omega, h3, ?_⟩
 rcases h4 with h4 | ⟨b, o, e, h5, h6⟩
 ·exact .inl (by omega)
 ·refine .inr ⟨b, o, e, h5, fun i x hx => h6 i x ?_⟩
  rw [List.getElem?_take] at hx
  split at hx
  ·exact hx
  ·cases hx
set_option maxRecDepth 10000 in
set_option maxHeartbeats 4000000 in
theorem args_law {W : World} {p : Option Addr} {n c : Nat} {xs : List Bs} (hT : Tex W p n c xs) (hn : n ≤ 140737488351232) (hx : ∀ x ∈ xs, x.length ≤ 140737488351232) (hL : Laid W) (hL3 : Laid3 W) :
  Calls Tryz.prog 4 #[.slice p n c] W fun e w' => e = .returned (.bool true) ∧ Below W.heap.size W w' := by
 have c12 := works_any hL hL3
 have HL : Hid (Laid W ∧ Laid3 W ∧ Tex W p n c xs) := ⟨hL, hL3, hT⟩
 have hcc : n ≤ c ∧ c ≤ 9223372036854775807 := ⟨hT.2.1, hT.2.2.1⟩
 have HX : Hid (∀ x ∈ xs, x.length ≤ 140737488351232) := hx
 clear hL hL3 hT hx
 go_enter Tryz.func4, Tryz.ntmps4
 go_upto_region 3 with (go_at_call 12; refine c12.mono ?_; rintro _ w1 ⟨rfl, b1⟩; have H1 : Hid (Below W.heap.size W w1) := b1; clear b1 c12)
 have c6 := few_any none p 0 0 n c xs w1 (HL.out.2.2.below H1.out) (by omega) hn HX.out
 go_upto_region 5 with (go_at_call 6; refine c6.mono ?_; rintro _ w0 ⟨⟨r, rfl, hr⟩, e0⟩; obtain rfl : w1 = w0 := e0.symm; have HR : Hid (r = true → (0 : Nat) ≤ 400000 ∧ n < 100 ∧ ∀ x ∈ xs, x.length ≤ 400000) := hr; clear hr c6; cases r)
 ·go_wp2
  go_ret
  exact ⟨rfl, H1.out⟩
 obtain ⟨-, hn1, hx4⟩ := HR.out trivial
 have HX4 : Hid (∀ x ∈ xs, x.length ≤ 400000) := hx4
 clear HR hx4 HX hn
 have c9 := memory_any 20 (by omega) (by omega) w1
 go_upto_region 8 with (go_at_call 9; refine c9.mono ?_; rintro _ w2 ⟨pm, b, m, Bm, hp, hb, hm, rfl, hR2, b2⟩; clear c9)
 have hR : Rm.Ram w2 pm b m 20 Bm (18 :: Rm.down 17) := hR2
 have h3 : 3 < pm ∧ 3 < b ∧ 3 < m := by have := (HL.out.2.1.below H1.out).lt; omega
 have hz1 := H1.out.size
 have H2 : Hid (Rm.Ram w2 pm b m 20 Bm (18 :: Rm.down 17) ∧ Laid w2 ∧ Laid3 w2 ∧ (3 < pm ∧ 3 < b ∧ 3 < m) ∧ Below W.heap.size W w2 ∧ W.heap.size ≤ pm ∧ W.heap.size ≤ b ∧ W.heap.size ≤ m) := ⟨hR, (HL.out.1.below H1.out).below b2, (HL.out.2.1.below H1.out).below b2, h3, H1.out.trans (b2.mono hz1), by omega, by omega, by omega⟩
 clear hR hR2 b2 hp hb hm h3 hz1
 rw [show Rm.ad (20 - 1) = Rm.ad 19 from rfl]
 generalize ht : Rm.ad 19 = t9
 have HT9 : Hid (Rm.ad 19 = t9) := ht
 clear ht
 obtain ⟨de, hde⟩ : ∃ de, de = dmE 0 xs := ⟨_, rfl⟩
 have HDE : Hid (dmE 0 xs = de) := hde.symm
 clear hde
 by_cases hd0 : de ≠ 0
 ·have HD0 : Hid (de ≠ 0) := hd0
  have hd1 : (de != 0) = true := by simpa using hd0
  clear hd0
  go_upto_region 9 with first | (go_at_call 11; refine (small_any _).mono ?_; rintro _ w4 ⟨q, cq, rfl, hq, b4⟩; have H4 : Hid (Byt w4 q 124 cq smF ∧ Below w2.heap.size w2 w4) := ⟨hq, b4⟩; have B4 : Hid (Below W.heap.size W w4) := H2.out.2.2.2.2.1.trans (b4.mono H2.out.2.2.2.2.1.size); clear hq b4) | (go_at_call 8; refine (ag_ref _ (HL.out.1.below B4.out) H4.out.1 ⟨HL.out.2.2.below B4.out, hn1, HX4.out⟩ t9 de HDE.out HD0.out).mono ?_; rintro _ w5 ⟨rfl, b5⟩; have H5 : Hid (Below W.heap.size W w5) := B4.out.trans (b5.mono B4.out.size); clear b5)
  go_wp2
  go_ret
  exact ⟨rfl, H5.out.alloc H5.out.size _⟩
 ·obtain rfl : de = 0 := by omega
  clear hd0
  go_upto_region 9 with first | (go_at_call 11; refine (small_any _).mono ?_; rintro _ w4 ⟨q, cq, rfl, hq, b4⟩; have H4 : Hid (Byt w4 q 124 cq smF ∧ Below w2.heap.size w2 w4) := ⟨hq, b4⟩; have B4 : Hid (Below W.heap.size W w4) := H2.out.2.2.2.2.1.trans (b4.mono H2.out.2.2.2.2.1.size); have c8 := ag_ok H2.out.1 H2.out.2.1 H2.out.2.2.1 H2.out.2.2.2.1 H4.out.2 H4.out.1 (⟨HL.out.2.2.below B4.out, hn1, HX4.out⟩ : Arg w4 p n c xs) HDE.out; rw [HT9.out] at c8; clear hq b4) | (go_at_call 8; refine c8.mono ?_; rintro _ w5 ⟨s, r, Rp, spn, K, rfl, hf5, hs5, hM5, hK5, hsp5, hst5⟩)
  obtain ⟨sp, hsp⟩ : ∃ sp : Int, sp = 8192 + (spn : Int) := ⟨_, rfl⟩
  have e8 : (((1 : Nat) : Int) + 1) * 4096 + ((spn : Nat) : Int) = sp := by omega
  have e7 : (8192 : Int) + (spn : Int) = sp := hsp.symm
  try rw [e8]
  try rw [e7]
  have hxl : xs.length = n := HL.out.2.2.1
  have hbd : 0 ≤ sp ∧ 8192 ≤ sp ∧ sp + 8 * n + 8 ≤ 12288 ∧ sp % 16 = 0 := by have h1 := hst5.2.1; have h2 := hst5.2.2.1; rw [hxl] at h1; omega
  obtain ⟨w6, hw6⟩ : ∃ w6, w6 = w5.alloc (.cells #[.int .u64 0, .int .u64 sp, .int .u64 sp] 34) := ⟨_, rfl⟩
  have b6 : Below w5.heap.size w5 w6 := by rw [hw6]; exact (Below.refl _ _).alloc (Nat.le_refl _) _
  have hW5 : Below W.heap.size W w5 := B4.out.trans (hf5.toBelow B4.out.size H2.out.2.2.2.2.2.1 H2.out.2.2.2.2.2.2.1 H2.out.2.2.2.2.2.2.2)
  have H6 : Hid (Rm.SpM w6 s pm b m 20 r 3 K (pgM smB [smG] 1 Rp) smC ∧ StkR 8192 xs Rp spn ∧ Below W.heap.size W w6 ∧ W.heap.size ≤ w5.heap.size) := ⟨hM5.below b6, hst5, hW5.trans (b6.mono hW5.size), hW5.size⟩
  have k1 : w6.cell? ⟨w5.heap.size, 1, .none⟩ = some (.int .u64 sp) := by rw [hw6]; simp
  have k2 : w6.cell? ⟨w5.heap.size, 2, .none⟩ = some (.int .u64 sp) := by rw [hw6]; simp
  obtain ⟨z, hz⟩ : ∃ z, z = w5.heap.size := ⟨_, rfl⟩
  rw [← hw6, ← hz]
  rw [← hz] at k1 k2
  have HZ : Hid (W.heap.size ≤ z) := by rw [hz]; exact hW5.size
  have HSP : Hid (sp = 8192 + (spn : Int) ∧ xs.length = n) := ⟨hsp, hxl⟩
  have HK : Hid (w6.cell? ⟨z, 1, .none⟩ = some (.int .u64 sp) ∧ w6.cell? ⟨z, 2, .none⟩ = some (.int .u64 sp)) := ⟨k1, k2⟩
  have hb0 := hbd.1
  have hb1 := hbd.2.1
  have hb2 := hbd.2.2.1
  have hrm2 : sp.tmod 16 = 0 := by rw [Int.tmod_eq_emod_of_nonneg hb0]; exact hbd.2.2.2
  have hw8 : IntKind.u64.wrap 8192 = 8192 := by decide
  have hrm : IntKind.u64.wrap (sp.tmod 16) = 0 := by rw [Int.tmod_eq_emod_of_nonneg hb0, hbd.2.2.2]; decide
  have c13 := (H6.out.1.below (Below.refl _ w6).drew).size_any
  rw [show (((3 : Nat) : Int) * 4096) = 12288 by decide] at c13
  have g1 : ¬ (sp < 8192) := by omega
  have g2 : ¬ (12288 ≤ sp) := by omega
  clear hsp hxl hbd b6 hW5 hf5 hs5 hM5 hK5 hsp5 hst5 hw6 hz e8 e7 c8
  go_upto_region 11 with fail
  have kS : w6.drew.cell? ⟨z, 1, .none⟩ = some (.int .u64 sp) ∧ w6.drew.cell? ⟨z, 2, .none⟩ = some (.int .u64 sp) := ⟨k1, k2⟩
  refine wp_region_held_drew (S := (fun U => U.cell? ⟨z, 1, .none⟩ = some (.int .u64 sp) ∧ U.cell? ⟨z, 2, .none⟩ = some (.int .u64 sp))) (by kernel_rfl) kS (fun hHeld => ?_)
  refine nT 0 (.pointer (some ⟨s, 0, .none⟩)) rfl ?_ (fun ww hSw => by obtain ⟨q1, q2⟩ := hSw; go_simp)
  simp only [x0,x1,x2,x3,x4,x5,x6]
  refine nT 1 (.bool false) rfl ?_ (fun ww hSw => by obtain ⟨q1, q2⟩ := hSw; go_simp)
  simp only [x0,x1,x2,x3,x4,x5,x6]
  refine nT 2 (.bool false) rfl ?_ (fun ww hSw => by obtain ⟨q1, q2⟩ := hSw; go_simp)
  simp only [x0,x1,x2,x3,x4,x5,x6]
  refine nT 3 (.pointer (some ⟨z, 1, .none⟩)) rfl ?_ (fun ww hSw => by obtain ⟨q1, q2⟩ := hSw; go_simp)
  simp only [x0,x1,x2,x3,x4,x5,x6]
  refine nT 4 (.int .u64 sp) rfl ?_ (fun ww hSw => by obtain ⟨q1, q2⟩ := hSw; go_simp)
  simp only [x0,x1,x2,x3,x4,x5,x6]
  refine nT 5 (.pointer (some ⟨z, 2, .none⟩)) rfl ?_ (fun ww hSw => by obtain ⟨q1, q2⟩ := hSw; go_simp)
  simp only [x0,x1,x2,x3,x4,x5,x6]
  refine nT 6 (.int .u64 sp) rfl ?_ (fun ww hSw => by obtain ⟨q1, q2⟩ := hSw; go_simp)
  simp only [x0,x1,x2,x3,x4,x5,x6]
  refine nT 7 (.bool false) rfl ?_ (fun ww hSw => by obtain ⟨q1, q2⟩ := hSw; go_simp)
  simp only [x0,x1,x2,x3,x4,x5,x6]
  refine nT 8 (.bool false) rfl ?_ (fun ww hSw => by obtain ⟨q1, q2⟩ := hSw; go_simp)
  simp only [x0,x1,x2,x3,x4,x5,x6]
  refine nT 9 (.bool false) rfl ?_ (fun ww hSw => by obtain ⟨q1, q2⟩ := hSw; go_simp)
  simp only [x0,x1,x2,x3,x4,x5,x6]
  refine nT 10 (.pointer (some ⟨z, 1, .none⟩)) rfl ?_ (fun ww hSw => by obtain ⟨q1, q2⟩ := hSw; go_simp)
  simp only [x0,x1,x2,x3,x4,x5,x6]
  refine nT 11 (.int .u64 sp) rfl ?_ (fun ww hSw => by obtain ⟨q1, q2⟩ := hSw; go_simp)
  simp only [x0,x1,x2,x3,x4,x5,x6]
  refine nT 12 (.int .u64 0) rfl ?_ (fun ww hSw => by obtain ⟨q1, q2⟩ := hSw; go_simp)
  simp only [x0,x1,x2,x3,x4,x5,x6]
  refine nT 13 (.bool false) rfl ?_ (fun ww hSw => by obtain ⟨q1, q2⟩ := hSw; go_simp)
  simp only [x0,x1,x2,x3,x4,x5,x6]
  refine nT 14 (.bool false) rfl ?_ (fun ww hSw => by obtain ⟨q1, q2⟩ := hSw; go_simp)
  simp only [x0,x1,x2,x3,x4,x5,x6]
  refine nT 15 (.bool false) rfl ?_ (fun ww hSw => by obtain ⟨q1, q2⟩ := hSw; go_simp)
  simp only [x0,x1,x2,x3,x4,x5,x6]
  refine nT 16 (.pointer (some ⟨z, 1, .none⟩)) rfl ?_ (fun ww hSw => by obtain ⟨q1, q2⟩ := hSw; go_simp)
  simp only [x0,x1,x2,x3,x4,x5,x6]
  refine nT 17 (.int .u64 sp) rfl ?_ (fun ww hSw => by obtain ⟨q1, q2⟩ := hSw; go_simp)
  simp only [x0,x1,x2,x3,x4,x5,x6]
  refine nT 18 (.pointer (some ⟨s, 0, .none⟩)) rfl ?_ (fun ww hSw => by obtain ⟨q1, q2⟩ := hSw; go_simp)
  simp only [x0,x1,x2,x3,x4,x5,x6]
  refine wpAnyH_ready (rs := [19]) (by kernel_rfl) (by simp) ?_
  refine AllReadyH.cons rfl (fun K9 hK => ?_) AllReadyH.nil
  go_simp
  go_at_call 13
  refine c13.mono ?_
  rintro _ x9 ⟨rfl, e9⟩
  obtain rfl : w6.drew = x9 := e9.symm
  refine hK.out _ _ kS (fun hHeld => ?_)
  clear hK K9
  try simp only [x0,x1,x2,x3,x4,x5,x6]
  refine nT 20 (.int .u64 8192) rfl ?_ (fun ww hSw => by obtain ⟨q1, q2⟩ := hSw; go_simp)
  simp only [x0,x1,x2,x3,x4,x5,x6]
  refine nT 21 (.bool false) rfl ?_ (fun ww hSw => by obtain ⟨q1, q2⟩ := hSw; go_simp)
  simp only [x0,x1,x2,x3,x4,x5,x6]
  refine nT 22 (.bool false) rfl ?_ (fun ww hSw => by obtain ⟨q1, q2⟩ := hSw; go_simp)
  simp only [x0,x1,x2,x3,x4,x5,x6]
  refine nT 23 (.bool false) rfl ?_ (fun ww hSw => by obtain ⟨q1, q2⟩ := hSw; go_simp)
  simp only [x0,x1,x2,x3,x4,x5,x6]
  refine nT 24 (.pointer (some ⟨z, 1, .none⟩)) rfl ?_ (fun ww hSw => by obtain ⟨q1, q2⟩ := hSw; go_simp)
  simp only [x0,x1,x2,x3,x4,x5,x6]
  refine nT 25 (.int .u64 sp) rfl ?_ (fun ww hSw => by obtain ⟨q1, q2⟩ := hSw; go_simp)
  simp only [x0,x1,x2,x3,x4,x5,x6]
  refine nT 26 (.pointer (some ⟨s, 0, .none⟩)) rfl ?_ (fun ww hSw => by obtain ⟨q1, q2⟩ := hSw; go_simp)
  simp only [x0,x1,x2,x3,x4,x5,x6]
  refine wpAnyH_ready (rs := [27]) (by kernel_rfl) (by simp) ?_
  refine AllReadyH.cons rfl (fun K9 hK => ?_) AllReadyH.nil
  go_simp
  go_at_call 13
  refine c13.mono ?_
  rintro _ x9 ⟨rfl, e9⟩
  obtain rfl : w6.drew = x9 := e9.symm
  refine hK.out _ _ kS (fun hHeld => ?_)
  clear hK K9
  try simp only [x0,x1,x2,x3,x4,x5,x6]
  refine nT 28 (.bool false) rfl ?_ (fun ww hSw => by obtain ⟨q1, q2⟩ := hSw; go_simp)
  simp only [x0,x1,x2,x3,x4,x5,x6]
  refine nT 29 (.bool false) rfl ?_ (fun ww hSw => by obtain ⟨q1, q2⟩ := hSw; go_simp)
  simp only [x0,x1,x2,x3,x4,x5,x6]
  refine wpAnyH_done (by kernel_rfl) ?_ _
  clear hrm hrm2 hw8 c13 g1 g2 kS
  have HBD : Hid (∀ j, j < 4096 → 0 ≤ Rp j ∧ Rp j < 256) := fun j hj => by
   obtain ⟨B, L, F, lf, fr, hG, hM⟩ := H6.out.1
   have := hM (8192 + j) (by omega)
   rw [pg_at Rp j hj] at this
   rw [← this]
   exact hG.su.ram.mem.bb _
  have hn0 : (0 : Int) ≤ n := by omega
  have hn2 : (n : Int) < 100 := by omega
  go_wp2_with fail
  go_loopw [9] (fun k wr => ∃ i : Nat, i ≤ n + 1 ∧ k = .int .i64 i ∧ Hid (Below w6.heap.size w6 wr)) (fun k _ => (n + 1 - intOf k).toNat)
  case atStart => exact ⟨0, by omega, rfl, (Below.refl _ _).drew⟩
  case round =>
   obtain ⟨i, hi, rfl, HB⟩ := hrel
   by_cases hle : i ≤ n
   ·have g0 : (i : Int) ≤ n := by omega
    have hSM := H6.out.1.below HB.out
    have j1 := (HB.out.cell (lt_of_cell k1)).trans k1
    have j2 := (HB.out.cell (lt_of_cell k2)).trans k2
    have hm1 : IntKind.i64.wrap (8 * (i : Int)) = 8 * i := by rw [IntKind.wrap_i64]; omega
    have hm2 : IntKind.u64.wrap (8 * (i : Int)) = 8 * i := by rw [IntKind.wrap_u64]; omega
    have hm3 : IntKind.u64.wrap (sp + 8 * (i : Int)) = sp + 8 * i := by rw [IntKind.wrap_u64]; omega
    obtain ⟨o, ho⟩ : ∃ o : Nat, o = spn + 8 * i := ⟨_, rfl⟩
    have ho2 : ((8192 + o : Nat) : Int) = sp + 8 * i := by have := HSP.out.1; omega
    have ho3 : o + 8 ≤ 4096 := by omega
    have c14 := hSM.inn (8192 + o) 8 (by omega) (by omega)
    rw [ho2] at c14
    go_upto_region 17 with (go_at_call 14; refine c14.mono ?_; rintro _ w9 ⟨b9, ⟨-, g, hg1, hg2, rfl, hg3⟩ | ⟨⟨j, hj, hx⟩, -⟩⟩; all_goals first | (exact absurd hx (by rw [Nat.add_assoc, acc_st (o + j) (by omega)]; decide)) | skip)
    have HO : Hid (o = spn + 8 * i ∧ o + 8 ≤ 4096) := ⟨ho, ho3⟩
    have HG : Hid (∀ j, j < 8 → w9.cell? ⟨g, j, .none⟩ = some (.int .u8 (Rp (o + j)))) := fun j hj => by
     rw [hg3 j hj, Nat.add_assoc, pg_at Rp (o + j) (by omega)]
    have H9 : Hid (Below w6.heap.size w6 w9) := HB.out.trans (b9.mono HB.out.size)
    clear c14 hg1 hg2 hg3 b9 hSM j1 j2 hm1 hm2 hm3 ho ho2 ho3
    obtain ⟨Mb, hMb⟩ : ∃ Mb : Nat → Int, Mb = fun j => if j < 8 then Rp (o + j) else 0 := ⟨_, rfl⟩
    have HMb : Hid ((∀ j, 0 ≤ Mb j ∧ Mb j < 256) ∧ ∀ j, j < 8 → Mb j = Rp (o + j)) := by
     refine ⟨fun j => ?_, fun j hj => ?_⟩
     ·rw [hMb]
      dsimp only
      by_cases hj : j < 8
      ·rw [if_pos hj]
       exact HBD.out _ (by have := HO.out.2; omega)
      ·rw [if_neg hj]
       exact ⟨by decide, by decide⟩
     ·rw [hMb]
      dsimp only
      rw [if_pos hj]
    clear hMb
    go_upto_region 21 with fail
    go_loopw [12, 13] (fun a k wr => ∃ j : Nat, j ≤ 8 ∧ k = .int .i64 ((j : Int) - 1) ∧ a = .int .u64 (num Mb j (8 - j)) ∧ wr = w9) (fun _ k _ => (intOf k + 1).toNat)
    case atStart => exact ⟨8, by omega, rfl, rfl, rfl⟩
    case round =>
     obtain ⟨j, hj, rfl, rfl, rfl⟩ := hrel
     by_cases hj1 : 1 ≤ j
     ·obtain ⟨j, rfl⟩ : ∃ k, j = k + 1 := ⟨j - 1, by omega⟩
      rw [show ((j + 1 : Nat) : Int) - 1 = (j : Int) by omega]
      have kc := HG.out j (by omega)
      rw [← HMb.out.2 j (by omega)] at kc
      have hof := or_front Mb HMb.out.1 j (8 - (j + 1)) (by omega)
      have hbx := HMb.out.1 j
      have hwx : IntKind.u64.wrap (Mb j) = Mb j := by rw [IntKind.wrap_u64]; omega
      rw [show 8 - (j + 1) + 1 = 8 - j by omega] at hof
      have j0 : (0 : Int) ≤ j := by omega
      have j8 : (j : Int) < 8 := by omega
      generalize num Mb (j + 1) (8 - (j + 1)) = nx at *
      go_wp2_with fail
      exact ⟨⟨j, by omega, rfl, rfl, trivial⟩, by simp only [intOf]; omega⟩
     ·obtain rfl : j = 0 := by omega
      rw [show ((0 : Nat) : Int) - 1 = -1 by decide, show 8 - 0 = 8 from rfl]
      have hxl := HSP.out.2
      have hspn := HSP.out.1
      by_cases hin : i = n
      ·subst hin
       have hv0 : num Mb 0 8 = 0 := num_0 fun l hl => by
        rw [HMb.out.2 l hl, HO.out.1, ← hxl]
        exact H6.out.2.1.1 l hl
       rw [hv0]
       clear hv0 hxl hspn
       go_wp2_with fail
       exact ⟨⟨i + 1, by omega, by simp, H9.out⟩, by simp only [intOf]; omega⟩
      ·have hlt : (i : Int) < n := by omega
       have hne : ((i : Int) == n) = false := by simp; omega
       obtain ⟨b5, o5, x, rfl, hxi, a5⟩ := (HL.out.2.2.below (H6.out.2.2.1.trans (H9.out.mono H6.out.2.2.1.size))).at (show i < n by omega)
       obtain ⟨q5, e5, q1, q2, q3, q4, q6⟩ := H6.out.2.1.2.2.2 i x hxi
       obtain ⟨V, hV⟩ : ∃ V : Int, V = 8192 + (q5 : Int) := ⟨_, rfl⟩
       have hv1 : num Mb 0 8 = V := num_8 (fun l hl => by
        rw [HMb.out.2 l hl, HO.out.1, hV]
        exact q6 l hl) (by omega)
       have hz0 : (0 : UInt8) ∉ x := fun hm => by
        have h9 : xs.any hz = true := List.any_eq_true.2 ⟨x, List.mem_of_getElem? hxi, by simpa [hz] using hm⟩
        exact absurd (dm_any HDE.out) (by rw [h9]; decide)
       have c15 := ag_str (H6.out.1.below H9.out) hz0 q2 q3 q4 V hV
       have m1 : IntKind.i64.wrap (8 * (n : Int)) = 8 * n := by rw [IntKind.wrap_i64]; omega
       have m2 : IntKind.i64.wrap (8 * (n : Int) + 8) = 8 * n + 8 := by rw [IntKind.wrap_i64]; omega
       have m3 : IntKind.u64.wrap (8 * (n : Int) + 8) = 8 * n + 8 := by rw [IntKind.wrap_u64]; omega
       have m4 : IntKind.u64.wrap (sp + (8 * (n : Int) + 8)) = sp + (8 * n + 8) := by rw [IntKind.wrap_u64]; omega
       have gV : ¬ (V < sp + (8 * (n : Int) + 8)) := by rw [hxl] at q1; omega
       have j2 := (H9.out.cell (lt_of_cell k2)).trans k2
       have HAT : Hid (wr.cell? ⟨b5, o5 + i, .none⟩ = some (.string ⟨x.toArray⟩)) := a5
       rw [hv1]
       clear q1 q2 q3 q4 q6 e5 hv1 hV hz0 hxl hspn hxi
       have a5' := a5
       go_upto_region 28 with (go_at_call 15; refine c15.mono ?_; rintro _ wx ⟨rfl, bx⟩; clear c15)
       have a6 := (bx.cell (lt_of_cell a5)).trans a5
       have j3 := (bx.cell (lt_of_cell j2)).trans j2
       have HBX : Hid (Below w6.heap.size w6 wx) := H9.out.trans (bx.mono H9.out.size)
       clear a5 a5' j2 bx
       go_wp2_with fail
       exact ⟨⟨i + 1, by omega, by simp, HBX⟩, by simp only [intOf]; omega⟩
   ·obtain rfl : i = n + 1 := by omega
    clear hi hle
    have hne : ¬ (((n + 1 : Nat) : Int) ≤ n) := by omega
    by_cases h0 : n = 0
    ·subst h0
     go_wp2_with fail
     go_ret
     exact ⟨rfl, H6.out.2.2.1.trans (HB.out.mono H6.out.2.2.1.size)⟩
    ·have hn3 : ((n : Int) == 0) = false := by simp; omega
     have HBW : Hid (Below W.heap.size W wr) := H6.out.2.2.1.trans (HB.out.mono H6.out.2.2.1.size)
     obtain ⟨b5, o5, x, rfl, -, -⟩ := (HL.out.2.2.below HBW.out).at (show 0 < n by omega)
     have hs1 : IntKind.i64.wrap ((n : Int) - 1) = ((n - 1 : Nat) : Int) := by rw [IntKind.wrap_i64]; omega
     have hsl : ∀ X, (Instr.slice 23 (.slice (some ⟨b5, o5, .none⟩) n c) none (some (.int .i64 ((n - 1 : Nat) : Int))) none).run Tryz.prog X = .ok (.slice (some ⟨b5, o5, .none⟩) (n - 1 : Nat) c) X := fun X => by
      rw [run_slice_h X 23 (some ⟨b5, o5, .none⟩) n c (by kernel_rfl) .i64 ((n - 1 : Nat) : Int) (by omega) (by omega), elem23]
      simp [Result.andThen, sliced, Addr.add]
     have HDT := dm_take HDE.out (n - 1)
     have HDD : Hid (dmE 0 (xs.take (n - 1)) = 0) := HDT
     clear HDT
     go_upto_region 32 with fail
     refine wp_region_held_drew (S := (fun _ => True)) (by kernel_rfl) trivial (fun hHeld => ?_)
     refine nT 1 (.slice (some ⟨b5, o5, .none⟩) n c) rfl ?_ (fun ww hSw => by go_simp)
     simp only [x0,x1,x2,x3,x4,x5,x6]
     refine nT 2 (.slice (some ⟨b5, o5, .none⟩) n c) rfl ?_ (fun ww hSw => by go_simp)
     simp only [x0,x1,x2,x3,x4,x5,x6]
     refine nT 3 (.int .i64 n) rfl ?_ (fun ww hSw => by go_simp)
     simp only [x0,x1,x2,x3,x4,x5,x6]
     refine nT 4 (.int .i64 ((n - 1 : Nat) : Int)) rfl ?_ (fun ww hSw => by go_simp)
     simp only [x0,x1,x2,x3,x4,x5,x6]
     refine nT 5 (.slice (some ⟨b5, o5, .none⟩) (n - 1 : Nat) c) rfl ?_ (fun ww hSw => by go_simp)
     simp only [x0,x1,x2,x3,x4,x5,x6]
     refine wpAnyH_ready (rs := [0]) (by kernel_rfl) (by simp) ?_
     refine AllReadyH.cons rfl (fun K9 hK => ?_) AllReadyH.nil
     go_simp
     go_at_call 11
     refine (small_any _).mono ?_
     rintro _ w8 ⟨q8, cq8, rfl, hq8, b8⟩
     have H8 : Hid (Byt w8 q8 124 cq8 smF ∧ Below W.heap.size W w8) := ⟨hq8, HBW.out.trans ((show Below wr.heap.size wr w8 from (Below.refl _ wr).drew.trans (b8.mono (Nat.le_refl _))).mono HBW.out.size)⟩
     clear hq8 b8
     refine hK.out _ _ trivial (fun hHeld => ?_)
     clear hK K9
     try simp only [x0,x1,x2,x3,x4,x5,x6]
     have c16 := ag_dem (HL.out.1.below H8.out.2) H8.out.1 (⟨(HL.out.2.2.below H8.out.2).take (show n - 1 ≤ n by omega), by omega, fun x hx => HX4.out x (List.mem_of_mem_take hx)⟩ : Arg w8 (some ⟨b5, o5, .none⟩) (n - 1) c (xs.take (n - 1))) HDD.out
     refine wpAnyH_ready (rs := [6]) (by kernel_rfl) (by simp) ?_
     refine AllReadyH.cons rfl (fun K9 hK => ?_) AllReadyH.nil
     go_simp
     go_at_call 16
     refine c16.mono ?_
     rintro _ wd ⟨⟨d, rfl⟩, bd⟩
     have HD9 : Hid (Below W.heap.size W wd) := H8.out.2.trans (bd.mono H8.out.2.size)
     clear bd c16
     refine hK.out _ _ trivial (fun hHeld => ?_)
     clear hK K9
     try simp only [x0,x1,x2,x3,x4,x5,x6]
     refine nT 7 (.tuple #[.int .i64 d, .int .i64 0]) rfl ?_ (fun ww hSw => by go_simp)
     simp only [x0,x1,x2,x3,x4,x5,x6]
     refine nT 8 (.int .i64 d) rfl ?_ (fun ww hSw => by go_simp)
     simp only [x0,x1,x2,x3,x4,x5,x6]
     refine nT 9 (.int .i64 0) rfl ?_ (fun ww hSw => by go_simp)
     simp only [x0,x1,x2,x3,x4,x5,x6]
     refine nT 10 (.int .i64 d) rfl ?_ (fun ww hSw => by go_simp)
     simp only [x0,x1,x2,x3,x4,x5,x6]
     refine nT 11 (.int .i64 0) rfl ?_ (fun ww hSw => by go_simp)
     simp only [x0,x1,x2,x3,x4,x5,x6]
     refine wpAnyH_done (by kernel_rfl) ?_ _
     go_wp2_with fail
     go_ret
     exact ⟨rfl, HD9.out⟩
end Go.Proofs.YtacdgfojdkppmaaGreatDoor
