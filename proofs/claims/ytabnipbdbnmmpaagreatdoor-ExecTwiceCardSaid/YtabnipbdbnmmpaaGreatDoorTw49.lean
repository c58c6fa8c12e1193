import Derived.Test.YtabnipbdbnmmpaaGreatDoorTw48
import Derived.Test.YtabnipbdbnmmpaaGreatDoorTw24
import Derived.Test.YtabnipbdbnmmpaaGreatDoorTw16
import Derived.Test.YtabnipbdbnmmpaaGreatDoorTw26
import Derived.Test.YtabnipbdbnmmpaaGreatDoorTw22
set_option linter.unusedVariables false
set_option linter.unusedSimpArgs false
namespace Go.Proofs.YtabnipbdbnmmpaaGreatDoor
open Go.RowKit Go.Shelf Rg
set_option maxRecDepth 10000 in
set_option maxHeartbeats 4000000 in
theorem works_any {W : World} (hL : Laid W) (hL3 : Laid3 W) : Calls Tryz.prog 6 #[] W fun e w' => e = .returned (.bool true) ∧ Below W.heap.size W w' := by
 have c9 := memory_any 20 (by omega) (by omega) W
 have HL : Hid (Laid W ∧ Laid3 W) := ⟨hL, hL3⟩
 clear hL hL3
 go_enter Tryz.func6, Tryz.ntmps6
 go_upto_region 4 with (go_at_call 8; refine c9.mono ?_; rintro _ w2 ⟨p, b, m, Bm, hp, hb, hm, rfl, hR2, b2, -⟩; clear c9)
 have hR : Rm.Ram w2 p b m 20 Bm (18 :: Rm.down 17) := hR2
 have h3 : 2 < p ∧ 2 < b ∧ 2 < m := by have := HL.out.2.lt; omega
 have H2 : Hid (Rm.Ram w2 p b m 20 Bm (18 :: Rm.down 17) ∧ Laid w2 ∧ Laid3 w2 ∧ (2 < p ∧ 2 < b ∧ 2 < m) ∧ Below W.heap.size W w2 ∧ W.heap.size ≤ p ∧ W.heap.size ≤ b ∧ W.heap.size ≤ m) := ⟨hR, HL.out.1.below b2, HL.out.2.below b2, h3, b2, hp, hb, hm⟩
 clear hR hR2 b2 hp hb hm h3
 have ht9 : Rm.ad (20 - 1) = Rm.ad 19 := rfl
 rw [ht9]
 clear ht9
 generalize ht : Rm.ad 19 = t9
 have HT : Hid (Rm.ad 19 = t9) := ht
 clear ht
 go_upto_region 5 with first | (go_at_call 31; refine (small_any _).mono ?_; rintro _ w4 ⟨q, cq, rfl, hq, b4⟩; have HL8 := wk_load H2.out.1 H2.out.2.1 H2.out.2.2.1 H2.out.2.2.2.1 b4 hq; have B4 : Hid (Below w2.heap.size w2 w4) := b4; rw [HT.out] at HL8; clear hq b4) | (go_at_call 11; refine (HL8.out _).mono ?_; rintro _ w6 ⟨s, r, Rp, K, rfl, hf6, hM6, hK6⟩)
 have hz6 : w4.heap.size + 1 ≤ w6.heap.size := by have := hf6.size; simpa using this
 have b7 : Below w6.heap.size w6 (w6.alloc (.cells #[.int .u64 0, .int .u64 12224, .int .u64 12224] 44)) := (Below.refl _ _).alloc (Nat.le_refl _) _
 have c14 := (hM6.below b7).inn 12224 64 (by omega) (by omega)
 have B25 : Below W.heap.size W (w4.alloc (.cells #[.string ⟨#[97, 98]⟩, .string ⟨#[99]⟩] 9)) := (H2.out.2.2.2.2.1.trans (B4.out.mono H2.out.2.2.2.2.1.size)).alloc (Nat.le_trans H2.out.2.2.2.2.1.size B4.out.size) _
 have H7 : Hid (WkR Rp ∧ Below W.heap.size W (w6.alloc (.cells #[.int .u64 0, .int .u64 12224, .int .u64 12224] 44))) := ⟨hK6, (hf6.toBelow B25.size H2.out.2.2.2.2.2.1 H2.out.2.2.2.2.2.2.1 H2.out.2.2.2.2.2.2.2 |> fun h => B25.trans (h.mono (Nat.le_refl _))).alloc (by have := B25.size; have := hf6.size; omega) _⟩
 clear hK6 hf6 hM6 b7 B25
 go_upto_region 7 with fail
 obtain ⟨w7, hw7⟩ : ∃ w7, w7 = w6.alloc (.cells #[.int .u64 0, .int .u64 12224, .int .u64 12224] 44) := ⟨_, rfl⟩
 rw [← hw7] at c14 H7 ⊢
 clear hw7
 have hac : ∀ j, j < 64 → Rm.accU smC 1 (12224 + j) = true := fun j hj => by
  unfold Rm.accU
  rw [show (12224 + j) / 4096 = 2 by omega]
  decide
 have hby : ∀ j, j < 64 → pgM smB [smG] 1 Rp (12224 + j) = Rp (4032 + j) := fun j hj => by
  unfold pgM Rm.wrM
  rw [if_pos (by omega)]
  exact congrArg Rp (by omega)
 go_upto_region 8 with (go_at_call 12; refine c14.mono ?_; rintro _ w9 ⟨b9, ⟨-, g, hg1, hg2, rfl, hg3⟩ | ⟨⟨j, hj, hx⟩, -⟩⟩; all_goals first | (exact absurd hx (by rw [hac j hj]; decide)) | skip)
 have hc : ∀ j, j < 64 → w9.cell? ⟨g, j, .none⟩ = some (.int .u8 (Rp (4032 + j))) := fun j hj => by rw [← hby j hj]; exact hg3 j hj
 have k0 := hc 0 (by omega)
 have k1 := hc 1 (by omega)
 have k8 := hc 8 (by omega)
 have k9 := hc 9 (by omega)
 have k16 := hc 16 (by omega)
 have k32 := hc 32 (by omega)
 have k33 := hc 33 (by omega)
 have k48 := hc 48 (by omega)
 have k49 := hc 49 (by omega)
 have k50 := hc 50 (by omega)
 rw [show 4032 + 0 = 4032 from rfl, H7.out.1.a0] at k0
 rw [show 4032 + 1 = 4033 from rfl, H7.out.1.a1] at k1
 rw [show 4032 + 8 = 4040 from rfl, H7.out.1.a8] at k8
 rw [show 4032 + 9 = 4041 from rfl, H7.out.1.a9] at k9
 rw [show 4032 + 16 = 4048 from rfl, H7.out.1.b0] at k16
 rw [show 4032 + 32 = 4064 from rfl, H7.out.1.c0] at k32
 rw [show 4032 + 33 = 4065 from rfl, H7.out.1.c1] at k33
 rw [show 4032 + 48 = 4080 from rfl, H7.out.1.d0] at k48
 rw [show 4032 + 49 = 4081 from rfl, H7.out.1.d1] at k49
 rw [show 4032 + 50 = 4082 from rfl, H7.out.1.d2] at k50
 have s1 : ∀ X, (Instr.slice 24 (.slice (some ⟨g, 0, .none⟩) 64 64) (some (.int .i64 32)) (some (.int .i64 34)) none).run Tryz.prog X = .ok (.slice (some ⟨g, 32, .none⟩) 2 32) X := fun X => by
  rw [run_slice_lh X 24 (some ⟨g, 0, .none⟩) 64 64 (by kernel_rfl) .i64 .i64 32 34 (by decide) (by decide) (by decide), elem22]
  simp [Result.andThen, sliced, Addr.add]
 have s2 : ∀ X, (Instr.slice 24 (.slice (some ⟨g, 0, .none⟩) 64 64) (some (.int .i64 48)) (some (.int .i64 51)) none).run Tryz.prog X = .ok (.slice (some ⟨g, 48, .none⟩) 3 16) X := fun X => by
  rw [run_slice_lh X 24 (some ⟨g, 0, .none⟩) 64 64 (by kernel_rfl) .i64 .i64 48 51 (by decide) (by decide) (by decide), elem22]
  simp [Result.andThen, sliced, Addr.add]
 have v1 : (convert 24 9 (.slice (some ⟨g, 32, .none⟩) 2 32)).run Tryz.prog w9 = .ok (.string ⟨#[99, 0]⟩) w9 := by
  have := run_convert_bytes_arg w9 24 5 Tryz.underlying24 Tryz.underlying5 g 32 2 32 [99, 0] rfl (fun i hi => by
   match i, hi with
   | 0, _ => exact k32
   | 1, _ => exact k33) 9 Tryz.underlying9
  exact this
 have v2 : (convert 24 9 (.slice (some ⟨g, 48, .none⟩) 3 16)).run Tryz.prog w9 = .ok (.string ⟨#[97, 98, 0]⟩) w9 := by
  have := run_convert_bytes_arg w9 24 5 Tryz.underlying24 Tryz.underlying5 g 48 3 16 [97, 98, 0] rfl (fun i hi => by
   match i, hi with
   | 0, _ => exact k48
   | 1, _ => exact k49
   | 2, _ => exact k50) 9 Tryz.underlying9
  exact this
 have HB : Hid (Below W.heap.size W w9) := H7.out.2.trans (b9.mono H7.out.2.size)
 clear k32 k33 k48 k49 k50 hc hg1 hg2 hg3 b9 hac hby
 go_wp2
 go_ret
 exact ⟨rfl, HB.out⟩
end Go.Proofs.YtabnipbdbnmmpaaGreatDoor
namespace Go.Proofs.YtabnipbdbnmmpaaGreatDoor.Rm
open Go Go.RowKit Fz
set_option maxHeartbeats 1000000 in
theorem bytes_same {w : World} {n ca cb : Nat} {qa qb : Option Addr} {R : Nat → Int} (hn : n ≤ 9223372036854775807) (ha : See w .u8 qa n R) (hb : See w .u8 qb n R) : Calls Tryz.prog 14 #[.slice qa n ca, .slice qb n cb] w fun e w' => e = .returned (.bool true) ∧ Below w.heap.size w w' := by
 go_enter Tryz.func14, Tryz.ntmps14
 go_wp2
 go_loopw [5] (fun k wr => ∃ i : Nat, i ≤ n ∧ k = .int .i64 i ∧ Below w.heap.size w wr) (fun k _ => n - (intOf k).toNat)
 case atStart => exact ⟨0, by omega, rfl, Below.refl _ _⟩
 case round =>
  obtain ⟨i, hi, rfl, hB⟩ := hrel
  have HB : Hid (Below w.heap.size w wr) := hB
  by_cases hin : i < n
  ·rcases ha with h | ⟨g1, o1, rfl, hg1, r1⟩
   ·omega
   rcases hb with h | ⟨g2, o2, rfl, hg2, r2⟩
   ·omega
   have i1 : (i : Int) < n := by omega
   have k0 := (hB.cell (p := ⟨g1, o1 + i, .none⟩) hg1).trans (r1 i hin)
   have k1 := (hB.cell (p := ⟨g2, o2 + i, .none⟩) hg2).trans (r2 i hin)
   clear hB r1 r2
   generalize R i = x at *
   go_wp2
   go_quiet (fail)
   go_wp2
   exact ⟨⟨i + 1, by omega, by simp, below_drewN HB.out _⟩, by simp [intOf]; omega⟩
  ·have i1 : ¬ ((i : Int) < n) := by omega
   clear hB ha hb
   go_wp2
   go_ret
   exact ⟨rfl, HB.out⟩
section
variable {w : World} {s p b m N r P : Nat} {size : Int} {B : Nat → Int} {L : List Nat} {F : Nat → Option Nat} {lf : Nat → Nat → Int} {fr : Nat → Nat} {c : Nat → Int}
set_option maxHeartbeats 1000000 in
theorem in_zero (h : SpU w s p b m N r P size B L F lf fr c) (va : Nat) : Calls Tryz.prog 12 #[.pointer (some ⟨s, 0, .none⟩), .int .u64 va, .int .i64 0] w fun e w' => e = .returned (.tuple #[.slice none 0 0, .bool true]) ∧ Below w.heap.size w w' := by
 obtain ⟨w1, hw1⟩ : ∃ w1, w1 = w.alloc (.cells #[.pointer (some ⟨s, 0, .none⟩)] 42) := ⟨_, rfl⟩
 have b1 : Below w.heap.size w w1 := by rw [hw1]; exact below1 _ _
 have q1 : w1.cell? ⟨w.heap.size, 0, .none⟩ = some (.pointer (some ⟨s, 0, .none⟩)) := by rw [hw1]; simp
 have c43 := made_sp (h.sp.below b1)
 have HB : Hid (Below w.heap.size w w1) := b1
 clear h b1
 go_enter Tryz.func12, Tryz.ntmps12
 go_upto_region 1 with fail
 rw [← hw1]
 clear hw1
 go_wp2_with (go_at_call 46; refine c43.mono ?_; rintro _ x1 ⟨rfl, e1⟩; obtain rfl : w1 = x1 := e1.symm)
 refine bodyPost_ret (v := .tuple #[.slice none 0 0, .bool true]) (by simp [results, Tryz.results12, go_sem]) rfl ⟨rfl, HB.out⟩
set_option maxHeartbeats 1000000 in
theorem can_zero (h : SpU w s p b m N r P size B L F lf fr c) (va : Nat) : Calls Tryz.prog 52 #[.pointer (some ⟨s, 0, .none⟩), .int .u64 va, .int .i64 0] w fun e w' => e = .returned (.bool true) ∧ w' = w := by
 have c43 := made_sp h.sp
 clear h
 go_enter Tryz.func52, Tryz.ntmps52
 go_wp2_with (go_at_call 46; refine c43.mono ?_; rintro _ x1 ⟨rfl, e1⟩; obtain rfl : w = x1 := e1.symm)
 go_ret
 exact ⟨rfl, rfl⟩
end
end Go.Proofs.YtabnipbdbnmmpaaGreatDoor.Rm
namespace Go.Proofs.YtabnipbdbnmmpaaGreatDoor.Rm
open Go Go.RowKit Fz
section
variable {w : World} {s p b m N r P : Nat} {size : Int} {B : Nat → Int} {L : List Nat} {F : Nat → Option Nat} {lf : Nat → Nat → Int} {fr : Nat → Nat} {c : Nat → Int}
set_option maxHeartbeats 1000000 in
theorem out_zero (h : SpU w s p b m N r P size B L F lf fr c) (va : Nat) (q : Option Addr) (cc : Nat) : Calls Tryz.prog 13 #[.pointer (some ⟨s, 0, .none⟩), .int .u64 va, .slice q 0 cc] w fun e w' => e = .returned (.bool true) ∧ Below w.heap.size w w' := by
 have c15 := can_zero h va
 have c53 := forUser_any s 3 w
 obtain ⟨x2, hx2⟩ : ∃ x2, x2 = (w.alloc (.cells #[.pointer (some ⟨s, 0, .none⟩)] 42)).alloc (.cells #[.int .i64 3] 59) := ⟨_, rfl⟩
 have b2 : Below w.heap.size w x2 := by rw [hx2]; exact ((Below.refl _ _).alloc (Nat.le_refl _) _).alloc (by simp) _
 have c57 := fun f : Value => put_zero s va q cc f x2
 rw [← hx2] at c53
 have HB : Hid (Below w.heap.size w x2) := b2
 clear h hx2 b2
 go_enter Tryz.func13, Tryz.ntmps13
 go_wp2_with first | (go_at_call 52; refine c15.mono ?_; rintro _ x1 ⟨rfl, e1⟩; obtain rfl : w = x1 := e1.symm) | (go_at_call 50; refine c53.mono ?_; rintro _ x3 ⟨rfl, e9⟩; obtain rfl : x2 = x3 := e9.symm) | (go_at_call 53; refine (c57 _).mono ?_; rintro _ x4 ⟨rfl, b4⟩; have H4 : Hid (Below w.heap.size w x4) := HB.out.trans (b4.mono HB.out.size); clear b4)
 go_ret
 exact ⟨rfl, H4.out⟩
end
end Go.Proofs.YtabnipbdbnmmpaaGreatDoor.Rm
namespace Go.Proofs.YtabnipbdbnmmpaaGreatDoor.Rm
open Go Go.RowKit
def SpV (w : World) (s p b m N r P : Nat) (M c : Nat → Int) (B : Nat → Int) (L : List Nat) (F : Nat → Option Nat) (fr : Nat → Nat) : Prop := ∃ lf, SpU w s p b m N r P ((P : Int) * 4096) B L F lf fr c ∧ (∀ i j, i < P → j < P → fr i = fr j → i = j) ∧ ∀ a, a < P * 4096 → btU B fr a = M a
def Tws (w : World) (s t p b m N r r2 P Q : Nat) (M c M2 c2 : Nat → Int) : Prop := ∃ B L F fr F2 fr2, SpV w s p b m N r P M c B L F fr ∧ SpV w t p b m N r2 Q M2 c2 B L F2 fr2 ∧ ∀ i, i < P → (∀ x, F2 x ≠ some (fr i)) ∧ ∀ j, j < Q → fr2 j ≠ fr i
section
variable {w w' : World} {s t p b m N r r2 P Q K : Nat} {M c M2 c2 : Nat → Int} {B B' : Nat → Int} {L L' : List Nat} {F F2 : Nat → Option Nat} {fr fr2 : Nat → Nat} {ox : Oxt}
theorem SpV.below (h : SpV w s p b m N r P M c B L F fr) (k : Below w.heap.size w w') : SpV w' s p b m N r P M c B L F fr := by
 obtain ⟨lf, h1, h2, h3⟩ := h
 exact ⟨lf, h1.below k, h2, h3⟩
theorem Tws.below (h : Tws w s t p b m N r r2 P Q M c M2 c2) (k : Below w.heap.size w w') : Tws w' s t p b m N r r2 P Q M c M2 c2 := by
 obtain ⟨B, L, F, fr, F2, fr2, h1, h2, h3⟩ := h
 exact ⟨B, L, F, fr, F2, fr2, h1.below k, h2.below k, h3⟩
theorem SpV.beside (h : SpV w s p b m N r P M c B L F fr) (f : Fra p b m w w') (hr : Ram w' p b m N B' L') (hF : ∀ x f, F x = some f → f ∉ L' ∧ ∀ j, j < 4096 → B' (f * 4096 + j) = B (f * 4096 + j)) (hP : ∀ i, i < P → fr i ∉ L' ∧ ∀ j, j < 4096 → B' (fr i * 4096 + j) = B (fr i * 4096 + j)) : SpV w' s p b m N r P M c B' L' F fr := by
 obtain ⟨lf, h1, h2, h3⟩ := h
 refine ⟨lf, ⟨h1.sp.fra f h1.ne.1 h1.ne.2.1 h1.ne.2.2, h1.sz, h1.pm, hr, h1.pt.keep (fun x f hx => (hF x f hx).2) (fun x f hx => (hF x f hx).1), h1.rt, h1.ne, fun i hi => ?_⟩, h2, fun a ha => ?_⟩
 ·have q := h1.pag i hi
  exact ⟨q.w1, q.w0, q.l, q.k, q.cb, ⟨q.qb.1, (hP i hi).1⟩, q.nn⟩
 ·rw [← h3 a ha]
  unfold btU
  exact (hP _ (by omega)).2 _ (by omega)
theorem SpM.view (h : SpM ox w s p b m N r P K M c) : ∃ B L F fr, SpV w s p b m N r P M c B L F fr ∧ Ots ox L F P fr B ∧ (L.length : Int) + P + ndP P = K ∧ ∀ f, f ∈ L → 1 ≤ f ∧ f < N := by
 obtain ⟨B, L, F, lf, fr, h1, h2, h4, h5⟩ := h
 have hn := h1.tab.nodes h1.pm
 exact ⟨B, L, F, fr, ⟨lf, h1.su, h1.inj, h2⟩, h4, by omega, fun f hf => h1.ram.lt f hf⟩
theorem SpV.ram (h : SpV w s p b m N r P M c B L F fr) : Ram w p b m N B L := by
 obtain ⟨lf, h1, _⟩ := h
 exact h1.ram
theorem SpV.two (h : SpV w s p b m N r P M c B L F fr) (hf : Fra p b m w w') (k : SpM ⟨ox.ft, fun f => f ∉ L, B⟩ w' t p b m N r2 Q K M2 c2) : Tws w' s t p b m N r r2 P Q M c M2 c2 := by
 obtain ⟨B2, L2, F2, fr2, k1, k2, _⟩ := k.view
 have hs := h
 obtain ⟨lf, h1, h2, h3⟩ := hs
 refine ⟨B2, L2, F, fr, F2, fr2, h.beside hf k1.ram (fun x f hx => ?_) (fun i hi => ?_), k1, fun i hi => ?_⟩
 ·obtain ⟨q1, _, _, q4⟩ := k2 f (h1.pt.held x f hx).2.2
  exact ⟨q1, q4⟩
 ·obtain ⟨q1, _, _, q4⟩ := k2 (fr i) (h1.pag i hi).qb.2
  exact ⟨q1, q4⟩
 ·obtain ⟨_, q2, q3, _⟩ := k2 (fr i) (h1.pag i hi).qb.2
  exact ⟨q2, q3⟩
def TwO (w : World) (s t p b m N r r2 P Q : Nat) (M c M2 c2 : Nat → Int) (va n : Nat) (R : Nat → Int) (e : Ending) (w' : World) : Prop := (canU P c va n ∧ e = .returned (.bool true) ∧ Tws w' s t p b m N r r2 P Q (wrM M va n R) c M2 c2 ∧ Fra p b m w w') ∨ (¬ canU P c va n ∧ e = .returned (.bool false) ∧ Below w.heap.size w w')
theorem Tws.out (h : Tws w s t p b m N r r2 P Q M c M2 c2) (va n : Nat) (hn : 1 ≤ n) (hvn : (va : Int) < 18446744073709551616 ∧ (n : Int) < 9223372036854775808) (g k0 cc : Nat) (hcc : n ≤ cc ∧ cc ≤ 9223372036854775807) (R : Nat → Int) (hR : ∀ i, 0 ≤ R i ∧ R i < 256) (hg : ∀ i, i < n → w.cell? ⟨g, k0 + i, .none⟩ = some (.int .u8 (R i))) (hgp : g ≠ p ∧ g ≠ b ∧ g ≠ m) :
  Calls Tryz.prog 13 #[.pointer (some ⟨s, 0, .none⟩), .int .u64 va, .slice (some ⟨g, k0, .none⟩) n cc] w (TwO w s t p b m N r r2 P Q M c M2 c2 va n R) := by
 obtain ⟨B, L, F, fr, F2, fr2, h1, h2, h3⟩ := h
 obtain ⟨lf, k1, k2, k3⟩ := h1
 refine (out_any k1 va n hn hvn g k0 cc hcc R hR hg hgp).mono fun e w' h9 => ?_
 rcases h9 with ⟨hc, he, hu, hf⟩ | h9
 ·have hv := hc.1
  have hoth : ∀ f, (∀ i, i < P → fr i ≠ f) → ∀ j, j < 4096 → wrU B fr va R n (f * 4096 + j) = B (f * 4096 + j) := fun f hf j hj => wrU_else B fr va R f j hj n fun k hk => hf _ (by omega)
  refine .inl ⟨hc, he, ⟨wrU B fr va R n, L, F, fr, F2, fr2, ⟨lf, hu, k2, fun a ha => ?_⟩, h2.beside hf hu.ram (fun x f hx => ?_) (fun i hi => ?_), h3⟩, hf⟩
  ·unfold wrM
   by_cases e : va ≤ a ∧ a < va + n
   ·rw [if_pos e]
    have := wrU_at B fr va R P k2 n hv (a - va) (by omega)
    rw [show va + (a - va) = a by omega] at this
    exact this
   ·rw [if_neg e, wrU_off k2 va R a ha n hv (fun j hj e2 => e ⟨by omega, by omega⟩)]
    exact k3 a ha
  ·obtain ⟨lf2, j1, _⟩ := h2
   exact ⟨(j1.pt.held x f hx).2.2, hoth f fun i hi e => (h3 i hi).1 x (by rw [e]; exact hx)⟩
  ·obtain ⟨lf2, j1, _⟩ := h2
   exact ⟨(j1.pag i hi).qb.2, hoth _ fun k hk e => (h3 k hk).2 i hi e.symm⟩
 ·exact .inr h9
theorem SpV.inn (h : SpV w s p b m N r P M c B L F fr) (va n : Nat) (hn : 1 ≤ n) (hf : va + n ≤ P * 4096) : Calls Tryz.prog 12 #[.pointer (some ⟨s, 0, .none⟩), .int .u64 va, .int .i64 n] w (ImP w va n M c) := by
 obtain ⟨lf, h, _, hM⟩ := h
 refine (in_any h va n hn hf).mono fun e w' h9 => ?_
 obtain ⟨hb, ⟨h1, g, h2, h3, h4, h5⟩ | h1⟩ := h9
 ·exact ⟨hb, .inl ⟨h1, g, h2, h3, h4, fun j hj => by rw [h5 j hj, hM _ (by omega)]⟩⟩
 ·exact ⟨hb, .inr h1⟩
theorem Tws.in1 (h : Tws w s t p b m N r r2 P Q M c M2 c2) (va n : Nat) (hn : 1 ≤ n) (hf : va + n ≤ P * 4096) : Calls Tryz.prog 12 #[.pointer (some ⟨s, 0, .none⟩), .int .u64 va, .int .i64 n] w (ImP w va n M c) := by
 obtain ⟨B, L, F, fr, F2, fr2, h1, h2, h3⟩ := h
 exact h1.inn va n hn hf
theorem Tws.in2 (h : Tws w s t p b m N r r2 P Q M c M2 c2) (va n : Nat) (hn : 1 ≤ n) (hf : va + n ≤ Q * 4096) : Calls Tryz.prog 12 #[.pointer (some ⟨t, 0, .none⟩), .int .u64 va, .int .i64 n] w (ImP w va n M2 c2) := by
 obtain ⟨B, L, F, fr, F2, fr2, h1, h2, h3⟩ := h
 exact h2.inn va n hn hf
theorem Tws.in0 (h : Tws w s t p b m N r r2 P Q M c M2 c2) (va : Nat) : Calls Tryz.prog 12 #[.pointer (some ⟨s, 0, .none⟩), .int .u64 va, .int .i64 0] w fun e w' => e = .returned (.tuple #[.slice none 0 0, .bool true]) ∧ Below w.heap.size w w' := by
 obtain ⟨B, L, F, fr, F2, fr2, ⟨lf, h1, _⟩, h2, h3⟩ := h
 exact in_zero h1 va
theorem Tws.out0 (h : Tws w s t p b m N r r2 P Q M c M2 c2) (va : Nat) (q : Option Addr) (cc : Nat) : Calls Tryz.prog 13 #[.pointer (some ⟨s, 0, .none⟩), .int .u64 va, .slice q 0 cc] w fun e w' => e = .returned (.bool true) ∧ Below w.heap.size w w' := by
 obtain ⟨B, L, F, fr, F2, fr2, ⟨lf, h1, _⟩, h2, h3⟩ := h
 exact out_zero h1 va q cc
end
end Go.Proofs.YtabnipbdbnmmpaaGreatDoor.Rm
