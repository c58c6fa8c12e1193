import Derived.Test.YtabnipbdbnmmpaaGreatDoorTw43
import Derived.Test.YtabnipbdbnmmpaaGreatDoorTw37
import Derived.Test.YtabnipbdbnmmpaaGreatDoorTw48
import Derived.Test.YtabnipbdbnmmpaaGreatDoorTw49
set_option linter.unusedVariables false
set_option linter.unusedSimpArgs false
namespace Go.Proofs.YtabnipbdbnmmpaaGreatDoor
open Go.RowKit Go.Shelf Rg
def tS : Sg := ⟨0, 7, 9000, 120, 4⟩
def tB : Nat → Int := fun k => if k = 120 then 115 else 0
def tF : Nat → Int := fil 0 [tS] tB
theorem t_good : Good 0 [tS] := by
 refine ⟨by decide, by decide, ?_, by decide⟩
 intro i s hi hs
 have : i = 0 := by simpa using hi
 subst this
 simp only [List.getElem?_cons_zero, Option.some.injEq] at hs
 subst hs
 exact ⟨by decide, by decide⟩
theorem t_plc : Plc [tS] := by
 intro i s hs
 have h := (List.getElem?_eq_some_iff.1 hs).1
 have : i = 0 := by simpa using h
 subst this
 simp only [List.getElem?_cons_zero, Option.some.injEq] at hs
 subst hs
 rfl
theorem t_rd : rdF 124 tF 0 0 = ((0, 0), [tS]) := rdF_fil ⟨by decide, by decide⟩ t_good t_plc rfl (by decide) (fun s hs => by rw [List.mem_singleton] at hs; subst hs; decide)
theorem t_bd : ∀ i, 0 ≤ tF i ∧ tF i < 256 := fil_bd _ _ _ (fun i => by unfold tB; split <;> omega)
theorem own_rowT {w : World} {X g n c : Nat} {H : Nat → Int} (h : w.ownsRow X 5 1 (.slice (some ⟨g, 0, .none⟩) n c) n (lst H n)) : Row w g 0 n H := fun i hi => by
 have hk : (lst H n)[i]? = some (.int .u8 (H i)) := by simp [lst, hi]
 obtain ⟨g', e, hc⟩ := own_cell h hk (by omega) (by omega)
 injection e with e
 injection e with e
 rw [Nat.zero_add, e]
 exact hc
def TfP (w : World) (e : Ending) (w' : World) : Prop := ∃ g c, e = .returned (.tuple #[.slice (some ⟨g, 0, .none⟩) 124 c, .nilIface]) ∧ Row w' g 0 124 tF ∧ (124 ≤ c ∧ c ≤ 9223372036854775807) ∧ g < w'.heap.size ∧ w.heap.size ≤ g ∧ Below w.heap.size w w'
set_option maxRecDepth 100000 in
theorem t_file {w0 : World} (hL : Laid w0) : Calls Tryz.prog 10 #[.agg #[.int .u64 0, .slice (some ⟨w0.heap.size + 1, 0, .none⟩) 1 1]] ((w0.alloc (.cells #[.int .u8 115, .int .u8 0, .int .u8 0, .int .u8 0] 5)).alloc (.cells #[.int .u64 0, .int .u32 7, .slice (some ⟨w0.heap.size, 0, .none⟩) 4 4, .int .u64 9000] 38)) (TfP w0) := by
 have s1 : (w0.alloc (.cells #[.int .u8 115, .int .u8 0, .int .u8 0, .int .u8 0] 5)).heap.size = w0.heap.size + 1 := World.size_alloc ..
 have hb : Below w0.heap.size w0 ((w0.alloc (.cells #[.int .u8 115, .int .u8 0, .int .u8 0, .int .u8 0] 5)).alloc (.cells #[.int .u64 0, .int .u32 7, .slice (some ⟨w0.heap.size, 0, .none⟩) 4 4, .int .u64 9000] 38)) := ((Below.refl _ _).alloc (Nat.le_refl _) _).alloc (by rw [s1]; omega) _
 have b1 : ((w0.alloc (.cells #[.int .u8 115, .int .u8 0, .int .u8 0, .int .u8 0] 5)).alloc (.cells #[.int .u64 0, .int .u32 7, .slice (some ⟨w0.heap.size, 0, .none⟩) 4 4, .int .u64 9000] 38)).heap[w0.heap.size]? = some (.cells #[.int .u8 115, .int .u8 0, .int .u8 0, .int .u8 0] 5 (0, 0)) := by
  rw [Below.heap_alloc _ _ _ (by rw [s1]; omega)]
  exact heap_new w0 (.cells #[.int .u8 115, .int .u8 0, .int .u8 0, .int .u8 0] 5)
 have b2 : ((w0.alloc (.cells #[.int .u8 115, .int .u8 0, .int .u8 0, .int .u8 0] 5)).alloc (.cells #[.int .u64 0, .int .u32 7, .slice (some ⟨w0.heap.size, 0, .none⟩) 4 4, .int .u64 9000] 38)).heap[w0.heap.size + 1]? = some (.cells #[.int .u64 0, .int .u32 7, .slice (some ⟨w0.heap.size, 0, .none⟩) 4 4, .int .u64 9000] 38 (0, 0)) := by
  have := heap_new (w0.alloc (.cells #[.int .u8 115, .int .u8 0, .int .u8 0, .int .u8 0] 5)) (.cells #[.int .u64 0, .int .u32 7, .slice (some ⟨w0.heap.size, 0, .none⟩) 4 4, .int .u64 9000] 38)
  rwa [s1] at this
 generalize ((w0.alloc (.cells #[.int .u8 115, .int .u8 0, .int .u8 0, .int .u8 0] 5)).alloc (.cells #[.int .u64 0, .int .u32 7, .slice (some ⟨w0.heap.size, 0, .none⟩) 4 4, .int .u64 9000] 38)) = V9 at *
 have hP : Prs V9 w0.heap.size (.slice (some ⟨w0.heap.size + 1, 0, .none⟩) 1 1) [(tS, .slice (some ⟨w0.heap.size, 0, .none⟩) 4 4)] tB := by
  refine ⟨⟨rfl, .inr ⟨w0.heap.size + 1, 1, _, rfl, by omega, b2, Nat.le_refl 1, (by decide : 1 ≤ maxLen), rfl, rfl⟩⟩, ?_, ?_, ?_, ?_, ?_⟩
  ·intro x hx
   rw [List.mem_singleton] at hx
   subst hx
   exact ⟨rfl, .inr ⟨w0.heap.size, 4, _, rfl, by omega, b1, Nat.le_refl 4, (by decide : 4 ≤ maxLen), rfl, rfl⟩⟩
  all_goals
   intro x hx
   rw [List.mem_singleton] at hx
   subst hx
   first | exact (by decide : 0 ≤ tS.va ∧ tS.va < 18446744073709551616) | exact (by decide : 0 ≤ tS.fl ∧ tS.fl < 4294967296) | exact (by decide : 0 ≤ tS.mem ∧ tS.mem < 18446744073709551616) | exact (by decide : tS.sz ≤ 400000)
 refine (write_any hP (fun x hx => by rw [List.mem_singleton] at hx; subst hx; exact ⟨_, _, rfl⟩) (show 1 ≤ 1000 by decide) t_plc (hL.below hb) 0 ⟨by decide, by decide⟩).mono ?_
 rintro e w' ⟨h1, ⟨_, _, v, rfl, own⟩ | ⟨hn, _⟩⟩
 ·obtain ⟨g, c, rfl⟩ := own_slice own (by omega)
  exact ⟨g, c, rfl, own_rowT own, own_cap own, own_lt own, Nat.le_trans hb.size (own_block own g rfl), hb.trans (h1.mono hb.size)⟩
 ·exact absurd ⟨t_good, (by decide : 64 + 56 * 1 + szs [tS] 1 ≤ 262144)⟩ hn
def tC : Nat → Int := Rm.upd (cS [tS]) 3 198
theorem t_load {ox : Rm.Oxt} {W : World} {p b m i ft fb fc : Nat} {Bm : Nat → Int} {L1 : List Nat} (hR : Rm.Ram W p b m 40 Bm (i :: L1)) (hox : ox.ft = ft ∧ ∀ f, ox.T f → f ∉ i :: L1 ∧ ∀ j, j < 4096 → Bm (f * 4096 + j) = ox.Z (f * 4096 + j)) (hft : 1 ≤ ft ∧ ft < 40 ∧ ft ∉ i :: L1) (hL : Laid W) (hL3 : Laid3 W) (h3 : 2 < p ∧ 2 < b ∧ 2 < m) (hF : Row W fb 0 124 tF) (hfb : fb < W.heap.size) (hc : 124 ≤ fc ∧ fc ≤ 9223372036854775807)
  {ap : Option Addr} {an ac : Nat} {xs : List Bs} (hA : Arg W ap an ac xs) (hdm : dmE 0 xs = 0) (hl : 9 ≤ L1.length) :
  Calls Tryz.prog 11 #[.pointer (some ⟨p, 0, .none⟩), .slice (some ⟨fb, 0, .none⟩) 124 fc, .slice ap an ac, .int .u64 (Rm.ad ft), .int .u64 2147483648] W (LdM ox W p b m 40 3 (L1.length + 1) [tS] tF xs (enO 124 tF 0 0)) :=
 loadM hR hox hft hL hL3 h3 hF hfb t_bd hc hA 0 0 hd_fil (by rw [t_rd]) hdm (S := [tS]) (by unfold sgO; rw [t_rd]; rfl) _ rfl 3 (by decide) (by omega) (by decide) (fun x hx => by rw [List.mem_singleton] at hx; subst hx; exact ⟨by decide, by decide⟩) (by omega)
theorem t_ref {W : World} (v : Value) {fb fc : Nat} (hL : Laid W) (hF : Row W fb 0 124 tF) (hfb : fb < W.heap.size) (hc : 124 ≤ fc ∧ fc ≤ 9223372036854775807) {ap : Option Addr} {an ac : Nat} {xs : List Bs} (hA : Arg W ap an ac xs) (tr : Int) (de : Int) (hde : dmE 0 xs = de) (hne : de ≠ 0) :
  Calls Tryz.prog 11 #[v, .slice (some ⟨fb, 0, .none⟩) 124 fc, .slice ap an ac, .int .u64 tr, .int .u64 2147483648] W fun e w' => e = .returned (.tuple #[.pointer .none, .agg #[.int .u64 0, .int .u64 0, .int .u64 0], .int .i64 de]) ∧ Below W.heap.size W w' := by
 have hrd : (rdF 124 tF 0 0).1.2 = 0 := by rw [t_rd]
 have := load_refM v hL (.inl ⟨fb, 0, rfl, hF, hfb⟩) t_bd hc 0 0 hd_fil hA tr (by
  show dmE (rdF 124 tF 0 0).1.2 xs ≠ 0
  rw [hrd, hde]; exact hne)
 rw [hrd, hde] at this
 exact this
def T1P (W : World) (p b m : Nat) (e : Ending) (w' : World) : Prop := ∃ s r M en sp, e = .returned (.tuple #[.pointer (some ⟨s, 0, .none⟩), .agg #[.int .u64 en, .int .u64 sp, .int .u64 sp], .int .i64 0]) ∧ Rm.Fra p b m W w' ∧ W.heap.size ≤ s ∧ ∃ Z, Rm.SpM ⟨39, fun f => f = 38, Z⟩ w' s p b m 40 r 5 37 M tC
theorem t_one {W : World} {p b m fb fc : Nat} {Bm : Nat → Int} (hR : Rm.Ram W p b m 40 Bm (Rm.down 37)) (hL : Laid W) (hL3 : Laid3 W) (h3 : 2 < p ∧ 2 < b ∧ 2 < m) (hF : Row W fb 0 124 tF) (hfb : fb < W.heap.size) (hc : 124 ≤ fc ∧ fc ≤ 9223372036854775807) {ap : Option Addr} {an ac : Nat} {xs : List Bs} (hA : Arg W ap an ac xs) (hdm : dmE 0 xs = 0) :
  Calls Tryz.prog 11 #[.pointer (some ⟨p, 0, .none⟩), .slice (some ⟨fb, 0, .none⟩) 124 fc, .slice ap an ac, .int .u64 (Rm.ad 39), .int .u64 2147483648] W (T1P W p b m) := by
 have hd : Rm.down 37 = 37 :: Rm.down 36 := rfl
 rw [hd] at hR
 have hn : ∀ k, 37 < k → k ∉ 37 :: Rm.down 36 := fun k hk h => by have h' : k ∈ Rm.down 37 := h; rw [Rm.down_mem] at h'; omega
 refine (t_load (ox := ⟨39, fun f => f = 38, Bm⟩) (ft := 39) hR ⟨rfl, fun f hf => ⟨hn f (by rw [show f = 38 from hf]; omega), fun _ _ => rfl⟩⟩ ⟨by omega, by omega, hn 39 (by omega)⟩ hL hL3 h3 hF hfb hc hA hdm (by rw [Rm.down_len]; omega)).mono fun e w' h9 => ?_
 obtain ⟨s, r, Rp, spn, K, he, hf, hs, hM, hK, _⟩ := h9
 rw [Rm.down_len] at hK
 obtain rfl : K = 37 := by omega
 exact ⟨s, r, _, _, _, he, hf, hs, _, hM⟩
def T2P (W : World) (s p b m r : Nat) (M : Nat → Int) (e : Ending) (w' : World) : Prop := ∃ t r2 M2 en sp, e = .returned (.tuple #[.pointer (some ⟨t, 0, .none⟩), .agg #[.int .u64 en, .int .u64 sp, .int .u64 sp], .int .i64 0]) ∧ Rm.Fra p b m W w' ∧ W.heap.size ≤ t ∧ Rm.Tws w' s t p b m 40 r r2 5 5 M tC M2 tC
theorem t_two {W : World} {s p b m r fb fc : Nat} {M Z : Nat → Int} (hM : Rm.SpM ⟨39, fun f => f = 38, Z⟩ W s p b m 40 r 5 37 M tC) (hL : Laid W) (hL3 : Laid3 W) (h3 : 2 < p ∧ 2 < b ∧ 2 < m) (hF : Row W fb 0 124 tF) (hfb : fb < W.heap.size) (hc : 124 ≤ fc ∧ fc ≤ 9223372036854775807) {ap : Option Addr} {an ac : Nat} {xs : List Bs} (hA : Arg W ap an ac xs) (hdm : dmE 0 xs = 0) :
  Calls Tryz.prog 11 #[.pointer (some ⟨p, 0, .none⟩), .slice (some ⟨fb, 0, .none⟩) 124 fc, .slice ap an ac, .int .u64 (Rm.ad 38), .int .u64 2147483648] W (T2P W s p b m r M) := by
 obtain ⟨B, L, F, fr, hV, hO, hl, hb⟩ := hM.view
 rw [show Rm.ndP ((5 : Nat) : Int) = 5 from rfl] at hl
 have hR := hV.ram
 have h38 : 38 ∉ L := (hO 38 rfl).1
 obtain ⟨i, L1, rfl⟩ : ∃ i L1, L = i :: L1 := by
  cases L with
  | nil => rw [List.length_nil] at hl; omega
  | cons i L1 => exact ⟨i, L1, rfl⟩
 rw [List.length_cons] at hl
 refine (t_load (ox := ⟨38, fun f => f ∉ i :: L1, B⟩) (ft := 38) hR ⟨rfl, fun f hf => ⟨hf, fun _ _ => rfl⟩⟩ ⟨by omega, by omega, h38⟩ hL hL3 h3 hF hfb hc hA hdm (by omega)).mono fun e w' h9 => ?_
 obtain ⟨t, r2, Rp, spn, K, he, hf, ht, hM2, _⟩ := h9
 exact ⟨t, r2, _, _, _, he, hf, ht, hV.two (ox := ⟨38, fun f => f ∉ i :: L1, B⟩) hf hM2⟩
theorem tC_in (t x : Nat) (ht : t = 1 ∨ t = 2) (hx : x < 12288) : Rm.accU tC t x = true := by
 have : x / 4096 = 0 ∨ x / 4096 = 1 ∨ x / 4096 = 2 := by omega
 unfold Rm.accU
 rcases ht with rfl | rfl <;> rcases this with h | h | h <;> rw [h] <;> decide
theorem tC_can (va n : Nat) (hv : va < 8192) (hn : 1 ≤ n) : Rm.canU 5 tC va n ↔ va + n ≤ 12288 := by
 unfold Rm.canU
 constructor
 ·rintro ⟨h1, h2⟩
  by_cases h : va + n ≤ 12288
  ·exact h
  ·have := h2 (12288 - va) (by omega)
   rw [show va + (12288 - va) = 12288 by omega] at this
   exact absurd this (by decide)
 ·intro h
  exact ⟨by omega, fun j hj => tC_in 2 _ (.inr rfl) (by omega)⟩
end Go.Proofs.YtabnipbdbnmmpaaGreatDoor
namespace Go.Proofs.YtabnipbdbnmmpaaGreatDoor
open Go.RowKit Go.Shelf Rg
theorem see_byt {w : World} {q : Option Addr} {n c : Nat} {xs : List Int} (h : Byt w q n c xs) : Rm.Fz.See w .u8 q n (fun i => xs.getD i 0) := by
 obtain ⟨h1, h2, h3, h4 | ⟨b, o, rfl, h5, h6⟩⟩ := h
 ·exact .inl h4
 ·exact .inr ⟨b, o, rfl, h5, fun i hi => h6 i _ (by show xs[i]? = some (xs.getD i 0); rw [List.getD_eq_getElem?_getD, List.getElem?_eq_getElem (by omega)]; rfl)⟩
set_option maxRecDepth 10000 in
set_option maxHeartbeats 4000000 in
theorem twice_law {W : World} {p : Option Addr} {n c : Nat} {xs : List Bs} (hT : Tex W p n c xs) (hn : n ≤ 140737488351232) (hx : ∀ x ∈ xs, x.length ≤ 140737488351232) {at_ : Int} (hat : 0 ≤ at_ ∧ at_ < 18446744073709551616) {bq : Option Addr} {bn bc : Nat} {bs : List Int} (hb : Byt W bq bn bc bs) (hbd : ∀ i, 0 ≤ bs.getD i 0 ∧ bs.getD i 0 < 256) (hbn : bn ≤ 140737488351232) (hL : Laid W) (hL3 : Laid3 W) :
  Calls Tryz.prog 3 #[.slice p n c, .int .u64 at_, .slice bq bn bc] W fun e w' => e = .returned (.bool true) ∧ Below W.heap.size W w' := by
 have c12 := works_any hL hL3
 have HL : Hid (Laid W ∧ Laid3 W ∧ Tex W p n c xs ∧ Byt W bq bn bc bs ∧ ∀ i, 0 ≤ bs.getD i 0 ∧ bs.getD i 0 < 256) := ⟨hL, hL3, hT, hb, hbd⟩
 have hcc : n ≤ c ∧ c ≤ 9223372036854775807 := ⟨hT.2.1, hT.2.2.1⟩
 have hbc : bn ≤ bc ∧ bc ≤ 9223372036854775807 := ⟨hb.2.1, hb.2.2.1⟩
 have HX : Hid (∀ x ∈ xs, x.length ≤ 140737488351232) := hx
 have HAT : Hid (0 ≤ at_ ∧ at_ < 18446744073709551616) := hat
 clear hL hL3 hT hx hb hbd hat
 go_enter Tryz.func3, Tryz.ntmps3
 go_upto_region 3 with (go_at_call 6; refine c12.mono ?_; rintro _ w1 ⟨rfl, b1⟩; have H1 : Hid (Below W.heap.size W w1) := b1; clear b1 c12)
 have c6 := few_any bq p bn bc n c xs w1 (HL.out.2.2.1.below H1.out) hbn hn HX.out
 go_upto_region 5 with (go_at_call 7; refine c6.mono ?_; rintro _ w0 ⟨⟨r, rfl, hr⟩, e0⟩; obtain rfl : w1 = w0 := e0.symm; have HR : Hid (r = true → bn ≤ 400000 ∧ n < 100 ∧ ∀ x ∈ xs, x.length ≤ 400000) := hr; clear hr c6; cases r)
 ·go_wp2
  go_ret
  exact ⟨rfl, H1.out⟩
 obtain ⟨hbn4, hn1, hx4⟩ := HR.out trivial
 have HX4 : Hid (∀ x ∈ xs, x.length ≤ 400000) := hx4
 clear HR hx4 HX hn hbn
 have c9 := memory_any 40 (by omega) (by omega) w1
 go_upto_region 6 with (go_at_call 8; refine c9.mono ?_; rintro _ w2 ⟨pm, b, m, Bm, hp, hb, hm, rfl, hR2, b2, -⟩; clear c9)
 have hR : Rm.Ram w2 pm b m 40 Bm (38 :: Rm.down 37) := hR2
 have h3 : 2 < pm ∧ 2 < b ∧ 2 < m := by have := (HL.out.2.1.below H1.out).lt; omega
 have hz1 := H1.out.size
 have H2 : Hid (Below W.heap.size W w2 ∧ W.heap.size ≤ pm ∧ W.heap.size ≤ b ∧ W.heap.size ≤ m) := ⟨H1.out.trans (b2.mono hz1), by omega, by omega, by omega⟩
 have H3 : Hid (2 < pm ∧ 2 < b ∧ 2 < m) := h3
 have cA := Rm.alloc_some 38 hR
 rw [show Rm.ad (40 - 1) = Rm.ad 39 from rfl]
 rw [show (2147483648 + ((38 : Nat) : Int) * 4096 : Int) = Rm.ad 38 from rfl] at cA
 generalize ht : Rm.ad 39 = t9
 generalize ht8 : Rm.ad 38 = t8 at cA
 have HT9 : Hid (Rm.ad 39 = t9 ∧ Rm.ad 38 = t8) := ⟨ht, ht8⟩
 clear hR hR2 b2 hp hb hm h3 hz1 ht ht8
 go_upto_region 9 with (go_at_call 9; refine cA.mono ?_; rintro _ w3 ⟨rfl, hR3, f3⟩; have H4 : Hid (Rm.Ram w3 pm b m 40 (Rm.zer Bm 38) (Rm.down 37) ∧ Below W.heap.size W w3) := ⟨hR3, H2.out.1.trans (f3.toBelow H2.out.1.size H2.out.2.1 H2.out.2.2.1 H2.out.2.2.2)⟩; clear hR3 f3 cA)
 have cF := t_file (HL.out.1.below H4.out.2)
 go_upto_region 10 with (go_at_call 10; refine cF.mono ?_; rintro _ w4 ⟨g, cf, rfl, hF, hcf, hg, hgn, b4⟩; have H5 : Hid (Row w4 g 0 124 tF ∧ g < w4.heap.size ∧ Rm.Ram w4 pm b m 40 (Rm.zer Bm 38) (Rm.down 37) ∧ Below W.heap.size W w4) := ⟨hF, hg, H4.out.1.below b4, H4.out.2.trans (b4.mono H4.out.2.size)⟩; have HG : Hid (g ≠ pm ∧ g ≠ b ∧ g ≠ m) := (by have h1 := H4.out.1.mem.plt; have h2 := H4.out.1.mem.blt; have h3 := H4.out.1.mem.mlt; exact ⟨by omega, by omega, by omega⟩); clear hF hg hgn b4 cF)
 obtain ⟨de, hde⟩ : ∃ de, de = dmE 0 xs := ⟨_, rfl⟩
 have HDE : Hid (dmE 0 xs = de) := hde.symm
 clear hde
 by_cases hd0 : de ≠ 0
 ·have HD0 : Hid (de ≠ 0) := hd0
  have hd1 : (de != 0) = true := by simpa using hd0
  have HC : Hid (∀ tr w', Below w4.heap.size w4 w' → Calls Tryz.prog 11 #[.pointer (some ⟨pm, 0, .none⟩), .slice (some ⟨g, 0, .none⟩) 124 cf, .slice p n c, .int .u64 tr, .int .u64 2147483648] w' fun e w'' => e = .returned (.tuple #[.pointer .none, .agg #[.int .u64 0, .int .u64 0, .int .u64 0], .int .i64 de]) ∧ Below w'.heap.size w' w'') := fun tr w' k => by
   have kk := H5.out.2.2.2.trans (k.mono H5.out.2.2.2.size)
   exact t_ref _ (HL.out.1.below kk) (H5.out.1.keep k) (Nat.lt_of_lt_of_le H5.out.2.1 k.size) hcf ⟨HL.out.2.2.1.below kk, hn1, HX4.out⟩ tr de HDE.out HD0.out
  clear hd0
  go_upto_region 11 with (go_at_call 11; refine (HC.out t9 w4 (Below.refl _ _)).mono ?_; rintro _ w5 ⟨rfl, b5⟩; have H6 : Hid (Below w4.heap.size w4 w5) := b5; clear b5)
  have H7 : Hid (Below w4.heap.size w4 (w5.alloc (.cells #[.int .u64 0, .int .u64 0, .int .u64 0] 44))) := H6.out.alloc H6.out.size _
  generalize (w5.alloc (.cells #[.int .u64 0, .int .u64 0, .int .u64 0] 44)) = w6 at *
  go_upto_region 12 with (go_at_call 11; refine (HC.out t8 w6 H7.out).mono ?_; rintro _ w7 ⟨rfl, b7⟩; have H8 : Hid (Below W.heap.size W w7) := H5.out.2.2.2.trans ((H7.out.trans (b7.mono H7.out.size)).mono H5.out.2.2.2.size); clear b7)
  go_wp2
  go_ret
  exact ⟨rfl, H8.out.alloc H8.out.size _⟩
 ·obtain rfl : de = 0 := by omega
  clear hd0
  have cL := t_one H5.out.2.2.1 (HL.out.1.below H5.out.2.2.2) (HL.out.2.1.below H5.out.2.2.2) H3.out H5.out.1 H5.out.2.1 hcf ⟨HL.out.2.2.1.below H5.out.2.2.2, hn1, HX4.out⟩ HDE.out
  rw [HT9.out.1] at cL
  go_upto_region 11 with (go_at_call 11; refine cL.mono ?_; rintro _ w5 ⟨s, r, M, en, sp, rfl, f5, hs5, Z, hM5⟩; clear cL)
  have hB5 : Below W.heap.size W w5 := H5.out.2.2.2.trans (f5.toBelow H5.out.2.2.2.size H2.out.2.1 H2.out.2.2.1 H2.out.2.2.2)
  obtain ⟨w6, hw6⟩ : ∃ w6, w6 = w5.alloc (.cells #[.int .u64 en, .int .u64 sp, .int .u64 sp] 44) := ⟨_, rfl⟩
  have b6 : Below w5.heap.size w5 w6 := by rw [hw6]; exact (Below.refl _ _).alloc (Nat.le_refl _) _
  rw [← hw6]
  clear hw6
  have hF6 : Row w6 g 0 124 tF := fun i hi => by
   have h1 := H5.out.1 i hi
   have h2 := (f5.cell (x := ⟨g, 0 + i, .none⟩) H5.out.2.1 HG.out.1 HG.out.2.1 HG.out.2.2).trans h1
   exact (b6.cell (lt_of_cell h2)).trans h2
  have hB6 := hB5.trans (b6.mono hB5.size)
  have cT := t_two (hM5.below b6) (HL.out.1.below hB6) (HL.out.2.1.below hB6) H3.out hF6 (Nat.lt_of_lt_of_le H5.out.2.1 (Nat.le_trans f5.size b6.size)) hcf ⟨HL.out.2.2.1.below hB6, hn1, HX4.out⟩ HDE.out
  rw [HT9.out.2] at cT
  have HB6 : Hid (Below W.heap.size W w6) := hB6
  clear f5 hs5 hM5 hB5 b6 hF6 hB6
  go_upto_region 12 with (go_at_call 11; refine cT.mono ?_; rintro _ w7 ⟨t, r2, M2, en2, sp2, rfl, f7, ht7, hV7⟩; clear cT)
  have hB7 : Below W.heap.size W w7 := HB6.out.trans (f7.toBelow HB6.out.size H2.out.2.1 H2.out.2.2.1 H2.out.2.2.2)
  obtain ⟨w8, hw8⟩ : ∃ w8, w8 = w7.alloc (.cells #[.int .u64 en2, .int .u64 sp2, .int .u64 sp2] 44) := ⟨_, rfl⟩
  have b8 : Below w7.heap.size w7 w8 := by rw [hw8]; exact (Below.refl _ _).alloc (Nat.le_refl _) _
  rw [← hw8]
  clear hw8
  have H8 : Hid (Below W.heap.size W w8 ∧ Rm.Tws w8 s t pm b m 40 r r2 5 5 M tC M2 tC) := ⟨hB7.trans (b8.mono hB7.size), hV7.below b8⟩
  clear f7 ht7 hV7 hB7 b8
  have cI := H8.out.2.in2 0 12288 (by omega) (by omega)
  go_upto_region 19 with (go_at_call 12; refine cI.mono ?_; rintro _ w9 ⟨b9, ⟨-, g1, hg1, hg2, rfl, hg3⟩ | ⟨⟨j, hj, hx⟩, -⟩⟩; all_goals first | (exact absurd hx (by rw [tC_in 1 (0 + j) (.inl rfl) (by omega)]; decide)) | skip)
  have H9 : Hid (Below W.heap.size W w9 ∧ Rm.Tws w9 s t pm b m 40 r r2 5 5 M tC M2 tC ∧ w8.heap.size ≤ g1 ∧ g1 < w9.heap.size ∧ ∀ j, j < 12288 → w9.cell? ⟨g1, j, .none⟩ = some (.int .u8 (M2 (0 + j)))) := ⟨H8.out.1.trans (b9.mono H8.out.1.size), H8.out.2.below b9, hg1, hg2, hg3⟩
  have HGp : Hid (g1 ≠ pm ∧ g1 ≠ b ∧ g1 ≠ m) := by
   obtain ⟨B, L, F, fr, F2, fr2, h1, h2, h3⟩ := H8.out.2
   have h1 := h1.ram.mem.plt
   have h2 := h2.ram.mem.blt
   have h3 := H8.out.2
   obtain ⟨B, L, F, fr, F2, fr2, k1, k2, k3⟩ := h3
   have k4 := k1.ram.mem.mlt
   exact ⟨by omega, by omega, by omega⟩
  clear b9 hg1 hg2 hg3 cI
  obtain ⟨va, hva⟩ : ∃ va : Nat, at_ % 8192 = (va : Int) := ⟨(at_ % 8192).toNat, by have := HAT.out; omega⟩
  have hv8 : va < 8192 := by omega
  go_upto_region 20 with fail
  rw [show at_.tmod 8192 = (va : Int) by rw [Int.tmod_eq_emod_of_nonneg HAT.out.1]; exact hva]
  have hva0 : (0 : Int) ≤ va := by omega
  have hva8 : (va : Int) < 8192 := by omega
  clear hva
  have HBS : Hid (∀ w', Below W.heap.size W w' → Rm.Fz.See w' .u8 bq bn (fun i => bs.getD i 0)) := fun w' k => (see_byt HL.out.2.2.2.1).below k
  by_cases hb0 : bn = 0
  ·subst hb0
   have cO := H9.out.2.1.out0 va bq bc
   go_upto_region 22 with (go_at_call 13; refine cO.mono ?_; rintro _ w10 ⟨rfl, b10⟩; have H10 : Hid (Below w9.heap.size w9 w10) := b10; clear b10 cO)
   have cI := (H9.out.2.1.below H10.out).in2 0 12288 (by omega) (by omega)
   go_upto_region 23 with (go_at_call 12; refine cI.mono ?_; rintro _ w11 ⟨b11, ⟨-, g2, hg1, hg2, rfl, hg3⟩ | ⟨⟨j, hj, hx⟩, -⟩⟩; all_goals first | (exact absurd hx (by rw [tC_in 1 (0 + j) (.inl rfl) (by omega)]; decide)) | skip)
   have H11 : Hid (Below w9.heap.size w9 w11 ∧ w10.heap.size ≤ g2 ∧ g2 < w11.heap.size ∧ ∀ j, j < 12288 → w11.cell? ⟨g2, j, .none⟩ = some (.int .u8 (M2 (0 + j)))) := ⟨H10.out.trans (b11.mono H10.out.size), hg1, hg2, hg3⟩
   clear b11 hg1 hg2 hg3 cI
   have cZ := (H9.out.2.1.below H11.out.1).in0 va
   go_upto_region 24 with (go_at_call 12; refine cZ.mono ?_; rintro _ w12 ⟨rfl, b12⟩; have H12 : Hid (Below w11.heap.size w11 w12) := b12; clear b12 cZ)
   have sA : Rm.Fz.See w12 .u8 (some ⟨g1, 0, .none⟩) 12288 (fun j => M2 (0 + j)) := .inr ⟨g1, 0, rfl, Nat.lt_of_lt_of_le H9.out.2.2.2.1 (Nat.le_trans H11.out.1.size H12.out.size), fun i hi => by
    rw [Nat.zero_add]
    have h1 := H9.out.2.2.2.2 i hi
    have h2 := (H11.out.1.cell (lt_of_cell h1)).trans h1
    exact (H12.out.cell (lt_of_cell h2)).trans h2⟩
   have sB : Rm.Fz.See w12 .u8 (some ⟨g2, 0, .none⟩) 12288 (fun j => M2 (0 + j)) := .inr ⟨g2, 0, rfl, Nat.lt_of_lt_of_le H11.out.2.2.1 H12.out.size, fun i hi => by
    rw [Nat.zero_add]
    have h1 := H11.out.2.2.2 i hi
    exact (H12.out.cell (lt_of_cell h1)).trans h1⟩
   have cA := Rm.bytes_same (ca := 12288) (cb := 12288) (by omega) sA sB
   have cB := fun w' => Rm.bytes_same (w := w') (n := 0) (ca := 0) (cb := bc) (qa := none) (qb := bq) (R := fun _ => 0) (by omega) (.inl rfl) (.inl rfl)
   have HW : Hid (Below W.heap.size W w12) := H9.out.1.trans ((H11.out.1.trans (H12.out.mono H11.out.1.size)).mono H9.out.1.size)
   clear sA sB
   go_wp2_with first | (go_at_call_of 14 (Value.slice (some ⟨g1, 0, .none⟩) 12288 12288); refine cA.mono ?_; rintro _ w13 ⟨rfl, b13⟩; have H13 : Hid (Below w12.heap.size w12 w13) := b13; clear b13) | (go_at_call 14; refine (cB _).mono ?_; rintro _ w14 ⟨rfl, b14⟩)
   go_ret
   exact ⟨rfl, HW.out.trans ((H13.out.trans (b14.mono H13.out.size)).mono HW.out.size)⟩
  ·have hbn1 : 1 ≤ bn := by omega
   obtain ⟨bg, bo, rfl, hbg, hbcell⟩ : ∃ bg bo, bq = some ⟨bg, bo, .none⟩ ∧ bg < W.heap.size ∧ ∀ i, i < bn → W.cell? ⟨bg, bo + i, .none⟩ = some (.int .u8 (bs.getD i 0)) := by
    rcases see_byt HL.out.2.2.2.1 with h | h
    ·exact absurd h hb0
    ·exact h
   have HBC : Hid (bg < W.heap.size ∧ ∀ i, i < bn → W.cell? ⟨bg, bo + i, .none⟩ = some (.int .u8 (bs.getD i 0))) := ⟨hbg, hbcell⟩
   have cO := H9.out.2.1.out va bn hbn1 (by omega) bg bo bc hbc (fun i => bs.getD i 0) HL.out.2.2.2.2 (fun i hi => (H9.out.1.cell (lt_of_cell (hbcell i hi))).trans (hbcell i hi)) (by have := H2.out.2; exact ⟨by omega, by omega, by omega⟩)
   unfold Rm.TwO at cO
   rw [tC_can va bn hv8 hbn1] at cO
   clear hbg hbcell
   by_cases hfit : va + bn ≤ 12288
   ·go_upto_region 22 with (go_at_call 13; refine cO.mono ?_; rintro _ w10 (⟨_, rfl, hV10, f10⟩ | ⟨h, _⟩); rotate_left; exact absurd hfit h; have H10 : Hid (Rm.Fra pm b m w9 w10 ∧ Rm.Tws w10 s t pm b m 40 r r2 5 5 (Rm.wrM M va bn (fun i => bs.getD i 0)) tC M2 tC ∧ Below W.heap.size W w10) := ⟨f10, hV10, H9.out.1.trans (f10.toBelow H9.out.1.size H2.out.2.1 H2.out.2.2.1 H2.out.2.2.2)⟩; clear hV10 f10 cO)
    have cI := H10.out.2.1.in2 0 12288 (by omega) (by omega)
    go_upto_region 23 with (go_at_call 12; refine cI.mono ?_; rintro _ w11 ⟨b11, ⟨-, g2, hg1, hg2, rfl, hg3⟩ | ⟨⟨j, hj, hx⟩, -⟩⟩; all_goals first | (exact absurd hx (by rw [tC_in 1 (0 + j) (.inl rfl) (by omega)]; decide)) | skip)
    have H11 : Hid (Below w10.heap.size w10 w11 ∧ w10.heap.size ≤ g2 ∧ g2 < w11.heap.size ∧ ∀ j, j < 12288 → w11.cell? ⟨g2, j, .none⟩ = some (.int .u8 (M2 (0 + j)))) := ⟨b11, hg1, hg2, hg3⟩
    clear b11 hg1 hg2 hg3 cI
    have cJ := (H10.out.2.1.below H11.out.1).in1 va bn hbn1 (by omega)
    go_upto_region 24 with (go_at_call 12; refine cJ.mono ?_; rintro _ w12 ⟨b12, ⟨-, g3, hg1, hg2, rfl, hg3⟩ | ⟨⟨j, hj, hx⟩, -⟩⟩; all_goals first | (exact absurd hx (by rw [tC_in 1 (va + j) (.inl rfl) (by omega)]; decide)) | skip)
    have H12 : Hid (Below w11.heap.size w11 w12) := b12
    have sA : Rm.Fz.See w12 .u8 (some ⟨g1, 0, .none⟩) 12288 (fun j => M2 (0 + j)) := .inr ⟨g1, 0, rfl, Nat.lt_of_lt_of_le H9.out.2.2.2.1 (Nat.le_trans H10.out.1.size (Nat.le_trans H11.out.1.size b12.size)), fun i hi => by
     rw [Nat.zero_add]
     have h1 := H9.out.2.2.2.2 i hi
     have h2 := (H10.out.1.cell (x := ⟨g1, i, .none⟩) H9.out.2.2.2.1 HGp.out.1 HGp.out.2.1 HGp.out.2.2).trans h1
     have h3 := (H11.out.1.cell (lt_of_cell h2)).trans h2
     exact (b12.cell (lt_of_cell h3)).trans h3⟩
    have sB : Rm.Fz.See w12 .u8 (some ⟨g2, 0, .none⟩) 12288 (fun j => M2 (0 + j)) := .inr ⟨g2, 0, rfl, Nat.lt_of_lt_of_le H11.out.2.2.1 b12.size, fun i hi => by
     rw [Nat.zero_add]
     have h1 := H11.out.2.2.2 i hi
     exact (b12.cell (lt_of_cell h1)).trans h1⟩
    have hW12 : Below W.heap.size W w12 := H10.out.2.2.trans ((H11.out.1.trans (b12.mono H11.out.1.size)).mono H10.out.2.2.size)
    have sC : Rm.Fz.See w12 .u8 (some ⟨g3, 0, .none⟩) bn (fun i => bs.getD i 0) := .inr ⟨g3, 0, rfl, hg2, fun i hi => by
     rw [Nat.zero_add, hg3 i hi]
     unfold Rm.wrM
     rw [if_pos (by omega), show va + i - va = i by omega]⟩
    have sD := HBS.out w12 hW12
    have cA := Rm.bytes_same (ca := 12288) (cb := 12288) (by omega) sA sB
    have HC : Hid (∀ w', Below w12.heap.size w12 w' → Calls Tryz.prog 14 #[.slice (some ⟨g3, 0, .none⟩) bn bn, .slice (some ⟨bg, bo, .none⟩) bn bc] w' fun e w'' => e = .returned (.bool true) ∧ Below w'.heap.size w' w'') := fun w' k => Rm.bytes_same (by omega) (sC.below k) (sD.below k)
    have HW : Hid (Below W.heap.size W w12) := hW12
    clear sA sB sC sD hW12 b12 hg1 hg2 hg3 cJ
    go_wp2_with first | (go_at_call_of 14 (Value.slice (some ⟨g1, 0, .none⟩) 12288 12288); refine cA.mono ?_; rintro _ w13 ⟨rfl, b13⟩; have H13 : Hid (Below w12.heap.size w12 w13) := b13; clear b13) | (go_at_call 14; refine (HC.out _ H13.out).mono ?_; rintro _ w14 ⟨rfl, b14⟩)
    go_ret
    exact ⟨rfl, HW.out.trans ((H13.out.trans (b14.mono H13.out.size)).mono HW.out.size)⟩
   ·have hbig : (bn : Int) > 12288 - va := by omega
    go_wp2_with (go_at_call 13; refine cO.mono ?_; rintro _ w10 (⟨h, _⟩ | ⟨_, rfl, b10⟩); exact absurd h hfit)
    go_ret
    exact ⟨by first | rfl | simp, H9.out.1.trans (b10.mono H9.out.1.size)⟩
end Go.Proofs.YtabnipbdbnmmpaaGreatDoor
