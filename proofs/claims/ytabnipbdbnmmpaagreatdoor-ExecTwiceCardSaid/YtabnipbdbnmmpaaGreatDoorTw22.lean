import Derived.Test.YtabnipbdbnmmpaaGreatDoorTw21
import Derived.Test.YtabnipbdbnmmpaaGreatDoorTw13
import Derived.Test.YtabnipbdbnmmpaaGreatDoorTw18
import Derived.Test.YtabnipbdbnmmpaaGreatDoorTw16
set_option linter.unusedVariables false
set_option linter.unusedSimpArgs false
namespace Go.Proofs.YtabnipbdbnmmpaaGreatDoor.Rm
open Go Go.RowKit
theorem fits_gen (va n en : Int) (hv : 0 ≤ va ∧ va < 18446744073709551616) (hn : 0 ≤ n ∧ n < 9223372036854775808) (he : 0 ≤ en ∧ en < 18446744073709551616) (w : World) : Calls Tryz.prog 47 #[.int .u64 va, .int .i64 n, .int .u64 en] w fun r w' => r = .returned (.bool (decide (va + n ≤ en))) ∧ w' = w := by
 by_cases h1 : va ≤ en
 ·have h2 : IntKind.u64.wrap (en - va) = en - va := by rw [IntKind.wrap_u64]; omega
  have h3 : IntKind.u64.wrap n = n := by rw [IntKind.wrap_u64]; omega
  have h0 : (0 : Int) ≤ n := hn.1
  by_cases h4 : n ≤ en - va
  ·have HD : Hid (decide (va + n ≤ en) = true) := decide_eq_true (by omega)
   go_enter Tryz.func47, Tryz.ntmps47
   go_wp2
   go_ret
   exact ⟨by rw [HD.out]; rfl, rfl⟩
  ·have HD : Hid (decide (va + n ≤ en) = false) := decide_eq_false (by omega)
   go_enter Tryz.func47, Tryz.ntmps47
   go_wp2
   go_ret
   exact ⟨by rw [HD.out]; rfl, rfl⟩
 ·have h0 : (0 : Int) ≤ n := hn.1
  have HD : Hid (decide (va + n ≤ en) = false) := decide_eq_false (by omega)
  go_enter Tryz.func47, Tryz.ntmps47
  go_wp2
  go_ret
  exact ⟨by rw [HD.out]; rfl, rfl⟩
section
variable {w : World} {s p b m N r P : Nat} {size : Int} {B : Nat → Int} {L : List Nat} {F : Nat → Option Nat} {lf : Nat → Nat → Int} {fr : Nat → Nat} {c : Nat → Int}
theorem yes_any (a n : Int) (W : World) : Calls Tryz.prog 101 #[.int .u64 a, .int .i64 n] W fun e w' => e = .returned (.bool true) ∧ w' = W := by
 go_enter Tryz.func101, Tryz.ntmps101
 go_wp2
 go_ret
 exact ⟨rfl, rfl⟩
def canU (P : Nat) (c : Nat → Int) (va n : Nat) : Prop := va + n ≤ P * 4096 ∧ ∀ j, j < n → accU c 2 (va + j) = true
set_option maxHeartbeats 1000000 in
theorem can_any (h : SpU w s p b m N r P size B L F lf fr c) (va n : Nat) (hn : 1 ≤ n) (hvn : (va : Int) < 18446744073709551616 ∧ (n : Int) < 9223372036854775808) : Calls Tryz.prog 52 #[.pointer (some ⟨s, 0, .none⟩), .int .u64 va, .int .i64 n] w fun e w' => ∃ v : Bool, e = .returned (.bool v) ∧ (v = true ↔ canU P c va n) ∧ Below w.heap.size w w' := by
 have hm := h.pm
 have hsz := h.sz
 have c51 := end_any h.sp (by omega)
 rw [hsz.2] at c51
 have c50 := fits_gen (va : Int) n ((P : Int) * 4096) (by omega) (by omega) (by omega) w
 have hn0 : ((n : Int) == 0) = false := by rw [beq_eq_false_iff_ne]; omega
 by_cases hf : va + n ≤ P * 4096
 ·rw [decide_eq_true (by omega)] at c50
  obtain ⟨w1, hw1⟩ : ∃ w1, w1 = (w.alloc (.cells #[.pointer (some ⟨s, 0, .none⟩)] 42)).alloc (.cells #[.int .i64 3] 59) := ⟨_, rfl⟩
  have b1 : Below w.heap.size w w1 := by rw [hw1]; exact ((Below.refl _ _).alloc (Nat.le_refl _) _).alloc (by simp) _
  have e1 : w1.cell? ⟨w.heap.size, 0, .none⟩ = some (.pointer (some ⟨s, 0, .none⟩)) := by rw [hw1]; simp
  have e2 : w1.cell? ⟨w.heap.size + 1, 0, .none⟩ = some (.int .i64 3) := by rw [hw1]; simp
  have c53 := forUser_any s 3 w
  rw [← hw1] at c53
  have c52 := each_can (w := w1) (s := s) (u1 := w.heap.size) (u2 := w.heap.size + 1) (va : Int) n (by omega) (fun k W => Below w1.heap.size w1 W ∧ ∀ j, j < k → accU c 2 (va + j) = true) (fun W => Below w1.heap.size w1 W ∧ ∃ j, j < n ∧ accU c 2 (va + j) = false) (fun k => if accU c 2 (va + k) then ad (fr ((va + k) / 4096)) + ((va + k) % 4096 : Nat) else 0) (fun k => accU c 2 (va + k)) (fun _ => true)
   (fun k W hk hJ => by
    have hS := (h.below b1).below hJ.1
    have := user_any hS.sp ((va + k : Nat) : Int) 3 _ _ ((hJ.1.cell (p := ⟨w.heap.size, 0, .none⟩) (lt_of_cell e1)).trans e1) ((hJ.1.cell (p := ⟨w.heap.size + 1, 0, .none⟩) (lt_of_cell e2)).trans e2) (fun W2 b2 => (hS.below b2).tra (va + k) 2 (by omega) (by omega))
    rw [show ((va + k : Nat) : Int) = (va : Int) + k by omega] at this
    exact this.mono (fun e W2 h2 => ⟨h2.1, hJ.1.trans (h2.2.mono hJ.1.size), hJ.2⟩))
   (fun k W hk hok hJ => ⟨hJ.1, k, hk, hok⟩)
   (fun k W hk hok hJ => (yes_any _ _ W).mono (fun e W2 h2 => ⟨h2.1, fun _ => by
    rw [h2.2]
    have hb := pce_b (va : Int) n k hk
    refine ⟨hJ.1, fun j hj => ?_⟩
    by_cases hjk : j < k
    ·exact hJ.2 j hjk
    ·have : (va + j) / 4096 = (va + k) / 4096 := by omega
     unfold accU at hok ⊢
     rw [this]
     exact hok, fun e => by cases e⟩))
   ⟨Below.refl _ _, fun j hj => by omega⟩
  have c52' := c52.mono (R' := fun e w' => ∃ v : Bool, e = .returned (.bool v) ∧ (v = true ↔ canU P c va n) ∧ Below w1.heap.size w1 w') (fun e w' h => by
   rcases h with ⟨h1, h2⟩ | ⟨h1, h2, j, hj, hx⟩
   ·exact ⟨true, h1, ⟨fun _ => ⟨hf, h2.2⟩, fun _ => rfl⟩, h2.1⟩
   ·exact ⟨false, h1, ⟨fun e => (by cases e), fun e => (by rw [e.2 j hj] at hx; cases hx)⟩, h2⟩)
  have HB : Hid (Below w.heap.size w w1) := b1
  clear c52 h e1 e2 b1 hw1
  go_enter Tryz.func52, Tryz.ntmps52
  go_wp2_with fail
  refine c51.mono ?_
  rintro _ x1 ⟨rfl, e9⟩
  obtain rfl : w = x1 := e9.symm
  clear e9 c51
  go_wp2_with fail
  refine c50.mono ?_
  rintro _ x1 ⟨rfl, e9⟩
  obtain rfl : w = x1 := e9.symm
  clear e9 c50
  go_wp2_with fail
  refine c53.mono ?_
  rintro _ x1 ⟨rfl, e9⟩
  obtain rfl : w1 = x1 := e9.symm
  clear e9 c53
  go_wp2_with fail
  refine c52'.mono ?_
  rintro _ x2 ⟨v, rfl, hv, b2⟩
  have HV : Hid ((v = true ↔ canU P c va n) ∧ Below w.heap.size w x2) := ⟨hv, HB.out.trans (b2.mono HB.out.size)⟩
  clear hv b2 c52'
  go_wp2_with fail
  go_ret
  exact ⟨v, rfl, HV.out⟩
 ·rw [decide_eq_false (by omega)] at c50
  have HV : Hid (false = true ↔ canU P c va n) := ⟨fun e => (by cases e), fun e => absurd e.1 hf⟩
  clear h
  go_enter Tryz.func52, Tryz.ntmps52
  go_wp2_with fail
  refine c51.mono ?_
  rintro _ x1 ⟨rfl, e9⟩
  obtain rfl : w = x1 := e9.symm
  clear e9 c51
  go_wp2_with fail
  refine c50.mono ?_
  rintro _ x1 ⟨rfl, e9⟩
  obtain rfl : w = x1 := e9.symm
  clear e9 c50
  go_wp2_with fail
  go_ret
  exact ⟨false, rfl, HV.out, Below.refl _ _⟩
end
end Go.Proofs.YtabnipbdbnmmpaaGreatDoor.Rm
namespace Go.Proofs.YtabnipbdbnmmpaaGreatDoor.Rm
open Go Go.RowKit
section
variable {w : World} {s p b m N r P : Nat} {size : Int} {B : Nat → Int} {L : List Nat} {F : Nat → Option Nat} {lf : Nat → Nat → Int} {fr : Nat → Nat} {c : Nat → Int}
theorem WrP.from {w1 : World} {va n : Nat} {R : Nat → Int} {e : Ending} {w' : World} (h : WrP w1 s p b m N r P size B L F lf fr c va n R e w') (k : Below w.heap.size w w1) : WrP w s p b m N r P size B L F lf fr c va n R e w' :=
 ⟨h.1, h.2.1, (Fra.below k).trans h.2.2⟩
set_option maxHeartbeats 1000000 in
theorem out_any (h : SpU w s p b m N r P size B L F lf fr c) (va n : Nat) (hn : 1 ≤ n) (hvn : (va : Int) < 18446744073709551616 ∧ (n : Int) < 9223372036854775808) (g k0 cc : Nat) (hcc : n ≤ cc ∧ cc ≤ 9223372036854775807) (R : Nat → Int) (hR : ∀ i, 0 ≤ R i ∧ R i < 256) (hg : ∀ i, i < n → w.cell? ⟨g, k0 + i, .none⟩ = some (.int .u8 (R i))) (hgp : g ≠ p ∧ g ≠ b ∧ g ≠ m) :
  Calls Tryz.prog 13 #[.pointer (some ⟨s, 0, .none⟩), .int .u64 va, .slice (some ⟨g, k0, .none⟩) n cc] w fun e w' => (canU P c va n ∧ WrP w s p b m N r P size B L F lf fr c va n R e w') ∨ (¬ canU P c va n ∧ e = .returned (.bool false) ∧ Below w.heap.size w w') := by
 have c15 := can_any h va n hn hvn
 have hpl := h.ram.mem.plt
 have hbl := h.ram.mem.blt
 have hml := h.ram.mem.mlt
 have HP : Hid (canU P c va n → ∀ x1, Below w.heap.size w x1 → Calls Tryz.prog 53 #[.pointer (some ⟨s, 0, .none⟩), .int .u64 va, .slice (some ⟨g, k0, .none⟩) n cc, .func (.func 100) #[] #[.pointer (some ⟨x1.heap.size, 0, .none⟩), .pointer (some ⟨x1.heap.size + 1, 0, .none⟩)]] ((x1.alloc (.cells #[.pointer (some ⟨s, 0, .none⟩)] 42)).alloc (.cells #[.int .i64 3] 59)) (WrP w s p b m N r P size B L F lf fr c va n R)) := fun hc x1 b1 => by
  have hs := b1.size
  have b2 : Below x1.heap.size x1 ((x1.alloc (.cells #[.pointer (some ⟨s, 0, .none⟩)] 42)).alloc (.cells #[.int .i64 3] 59)) := ((Below.refl _ _).alloc (Nat.le_refl _) _).alloc (by simp) _
  have b3 := b1.trans (b2.mono hs)
  exact (put_user (h.below b3) va n hn hc.1 hc.2 x1.heap.size (x1.heap.size + 1) (by simp) (by simp) ⟨by omega, by omega, by omega, by omega, by omega, by omega⟩ g k0 cc hcc R hR (fun i hi => (b3.cell (p := ⟨g, k0 + i, .none⟩) (lt_of_cell (hg i hi))).trans (hg i hi)) hgp).mono (fun e w' h9 => h9.from b3)
 clear h hg hR
 go_enter Tryz.func13, Tryz.ntmps13
 go_wp2_with fail
 refine c15.mono ?_
 rintro _ x1 ⟨v, rfl, hv, b1⟩
 clear c15
 cases v
 ·have HV : Hid (¬ canU P c va n ∧ Below w.heap.size w x1) := ⟨fun e => (by have := hv.2 e; cases this), b1⟩
  clear hv b1
  go_wp2_with fail
  go_ret
  exact .inr ⟨HV.out.1, rfl, HV.out.2⟩
 ·have hc : canU P c va n := hv.1 rfl
  have c57 := HP.out hc x1 b1
  have c53 := forUser_any s 3 x1
  obtain ⟨x2, hx2⟩ : ∃ x2, x2 = (x1.alloc (.cells #[.pointer (some ⟨s, 0, .none⟩)] 42)).alloc (.cells #[.int .i64 3] 59) := ⟨_, rfl⟩
  rw [← hx2] at c57 c53
  have HC : Hid (canU P c va n) := hc
  clear hc hv b1 hx2
  go_wp2_with fail
  refine c53.mono ?_
  rintro _ x3 ⟨rfl, e9⟩
  obtain rfl : x2 = x3 := e9.symm
  clear e9 c53
  go_wp2_with fail
  refine c57.mono ?_
  rintro _ x4 ⟨rfl, h4, f4⟩
  have H4 : Hid (WrP w s p b m N r P size B L F lf fr c va n R (.returned (.bool true)) x4) := ⟨rfl, h4, f4⟩
  clear h4 f4 c57
  go_wp2_with fail
  go_ret
  exact .inl ⟨HC.out, H4.out⟩
def PkQ (w : World) (s p b m N r P : Nat) (size : Int) (B : Nat → Int) (L : List Nat) (F : Nat → Option Nat) (lf : Nat → Nat → Int) (fr : Nat → Nat) (c : Nat → Int) (va n : Nat) (R : Nat → Int) (e : Ending) (w' : World) : Prop := ((va : Int) + n ≤ size ∧ WrP w s p b m N r P size B L F lf fr c va n R e w') ∨ (¬ (va : Int) + n ≤ size ∧ e = .returned (.bool false) ∧ w' = w)
set_option maxHeartbeats 1000000 in
theorem poke_gen (h : SpU w s p b m N r P size B L F lf fr c) (va n : Nat) (hn : 1 ≤ n) (hvn : (va : Int) < 18446744073709551616 ∧ (n : Int) < 9223372036854775808) (g k0 cc : Nat) (hcc : n ≤ cc ∧ cc ≤ 9223372036854775807) (R : Nat → Int) (hR : ∀ i, 0 ≤ R i ∧ R i < 256) (hg : ∀ i, i < n → w.cell? ⟨g, k0 + i, .none⟩ = some (.int .u8 (R i))) (hgp : g ≠ p ∧ g ≠ b ∧ g ≠ m) :
  Calls Tryz.prog 95 #[.pointer (some ⟨s, 0, .none⟩), .int .u64 va, .slice (some ⟨g, k0, .none⟩) n cc] w (PkQ w s p b m N r P size B L F lf fr c va n R) := by
 have hm := h.pm
 have hsz := h.sz
 have c43 := made_sp h.sp
 have c50 := fits_gen (va : Int) n size (by omega) (by omega) (by omega) w
 have k2 := h.sp.c2
 by_cases hf : (va : Int) + n ≤ size
 ·rw [decide_eq_true hf] at c50
  have c57 := put_kern h va n hn (by omega) g k0 cc hcc R hR hg hgp
  have HF0 := hf
  have HF : Hid ((va : Int) + n ≤ size) := HF0
  clear h hg hR hf HF0
  go_enter Tryz.func95, Tryz.ntmps95
  go_wp2_with fail
  refine c43.mono ?_
  rintro _ x1 ⟨rfl, e9⟩
  obtain rfl : w = x1 := e9.symm
  clear e9 c43
  go_wp2_with fail
  refine c50.mono ?_
  rintro _ x1 ⟨rfl, e9⟩
  obtain rfl : w = x1 := e9.symm
  clear e9 c50
  go_wp2_with fail
  refine c57.mono ?_
  rintro _ x4 ⟨rfl, h4, f4⟩
  have H4 : Hid (WrP w s p b m N r P size B L F lf fr c va n R (.returned (.bool true)) x4) := ⟨rfl, h4, f4⟩
  clear h4 f4 c57
  go_wp2_with fail
  go_ret
  exact .inl ⟨HF.out, H4.out⟩
 ·rw [decide_eq_false hf] at c50
  have HF0 := hf
  have HF : Hid (¬ (va : Int) + n ≤ size) := HF0
  clear h hg hR hf HF0
  go_enter Tryz.func95, Tryz.ntmps95
  go_wp2_with fail
  refine c43.mono ?_
  rintro _ x1 ⟨rfl, e9⟩
  obtain rfl : w = x1 := e9.symm
  clear e9 c43
  go_wp2_with fail
  refine c50.mono ?_
  rintro _ x1 ⟨rfl, e9⟩
  obtain rfl : w = x1 := e9.symm
  clear e9 c50
  go_wp2_with fail
  go_ret
  exact .inr ⟨by have := HF.out; omega, rfl, rfl⟩
end
end Go.Proofs.YtabnipbdbnmmpaaGreatDoor.Rm
namespace Go.Proofs.YtabnipbdbnmmpaaGreatDoor.Rm
open Go Go.RowKit
theorem low_y1 (i : Nat) (h : i < 512) : y1 ((i : Int) * 4096) = 1 := by
 unfold y1 ch i2 ix spn
 simp
 omega
theorem low_y0 (i : Nat) (h : i < 512) : y0 ((i : Int) * 4096) = 513 := by
 unfold y0
 rw [low_y1 i h]
 unfold ch i1 ix spn
 simp
 omega
theorem low_i0 (i : Nat) (h : i < 512) : i0 ((i : Int) * 4096) = i := by
 unfold i0 ix spn
 simp
 omega
def wn1 (j : Nat) : Nat := if j = 0 then 2 else 0
structure SpG (w : World) (s p b m N r P K : Nat) (B : Nat → Int) (L : List Nat) (F : Nat → Option Nat) (lf : Nat → Nat → Int) (fr : Nat → Nat) (c : Nat → Int) : Prop where
 su : SpU w s p b m N r P ((P : Int) * 4096) B L F lf fr c
 zr : ∀ k, P ≤ k → k < 512 → lf 513 k = 0
 nod : P = 0 → F 1 = none
 len : L.length + P + (if P = 0 then 0 else 2) = K
 inj : ∀ i j, i < P → j < P → fr i = fr j → i = j
section
variable {w w' : World} {s p b m N r P K : Nat} {B : Nat → Int} {L : List Nat} {F : Nat → Option Nat} {lf : Nat → Nat → Int} {fr : Nat → Nat} {c : Nat → Int}
theorem SpG.below (h : SpG w s p b m N r P K B L F lf fr c) (k : Below w.heap.size w w') : SpG w' s p b m N r P K B L F lf fr c := ⟨h.su.below k, h.zr, h.nod, h.len, h.inj⟩
theorem SpG.need (h : SpG w s p b m N r P K B L F lf fr c) (hj : P < 512) : needY F ((P : Int) * 4096) = wn1 P := by
 unfold needY wn1
 rw [low_y1 P hj, low_y0 P hj]
 by_cases h0 : P = 0
 ·rw [if_pos (h.nod h0), if_pos h0]
 ·have hq := h.su.pag 0 (by omega)
  obtain ⟨g1, e1⟩ := hq.w1
  obtain ⟨g0, e0⟩ := hq.w0
  have e1' : F 1 = some g1 := by have := low_y1 0 (by omega); rw [← this]; exact e1
  have e0' : F 513 = some g0 := by have := low_y0 0 (by omega); rw [← this]; exact e0
  rw [e1', e0', if_neg h0]
  simp
theorem rgt_b {x : Int} (h : rgt x) : 0 ≤ x + 208 ∧ x + 208 < 256 ∧ (x + 208) % 2 = 0 := by rcases h with rfl | rfl | rfl | rfl | rfl <;> omega
def upd {α : Type} (f : Nat → α) (i : Nat) (x : α) : Nat → α := fun j => if j = i then x else f j
theorem SpG.step {f : Nat} {x : Int} {L1 L' : List Nat} {B' : Nat → Int} {F' : Nat → Option Nat} (h : SpG w s p b m N r P K B (f :: L1) F lf fr c) (hj : P < 512) (hx : rgt x)
  (hp : Sp w' s p (ad r) (((P : Int) + 1) * 4096)) (R : LP N ((P : Int) * 4096) (toP (ad f) (x + 208)) L1 (zer B f) F lf L' B' F') (hlen : L1.length = wn1 P + L'.length) (hr : Ram w' p b m N B' L') :
  SpG w' s p b m N r (P + 1) K B' L' F' (setE lf 513 P (toP (ad f) (x + 208))) (upd fr P f) (upd c P (x + 208)) := by
 have hf := h.su.ram.lt f (List.mem_cons_self ..)
 have hN := h.su.ram.mem.n2
 have hnd := List.nodup_cons.1 h.su.ram.nd
 have hfL' : f ∉ L' := fun hm => hnd.1 (R.sub f hm)
 have hpt := R.pt
 rw [low_y0 P hj, low_i0 P hj] at hpt
 have hfn : ∀ i, i < P → fr i ≠ f := fun i hi e => (h.su.pag i hi).qb.2 (by rw [e]; exact List.mem_cons_self ..)
 refine ⟨⟨by rw [show ((P + 1 : Nat) : Int) = (P : Int) + 1 by omega]; exact hp, by omega, by have := h.su.pm; omega, hr, hpt, R.ext 0 r h.su.rt, h.su.ne, fun i hi => ?_⟩, fun k h1 h2 => ?_, fun e => by omega, ?_, fun i j hi hj e => ?_⟩
 ·by_cases hij : i = P
  ·subst hij
   obtain ⟨g, q, e1, e0⟩ := R.has
   unfold upd
   rw [if_pos rfl, if_pos rfl]
   refine ⟨⟨g, e1⟩, ⟨q, e0⟩, ?_, (rgt_leaf hx hf.2 hN).1, rgt_b hx, ⟨hf.2, hfL'⟩, fun y hy => ?_⟩
   ·rw [low_y0 i hj, low_i0 i hj]
    unfold setE
    rw [if_pos ⟨rfl, rfl⟩]
   ·rcases R.new y f hy with e | ⟨e, _⟩
    ·exact (h.su.pt.held y f e).2.2 (List.mem_cons_self ..)
    ·exact hnd.1 e
  ·have hq := h.su.pag i (by omega)
   obtain ⟨g1, e1⟩ := hq.w1
   obtain ⟨g0, e0⟩ := hq.w0
   unfold upd
   rw [if_neg hij, if_neg hij]
   refine ⟨⟨g1, R.ext _ _ e1⟩, ⟨g0, R.ext _ _ e0⟩, ?_, hq.k, hq.cb, ⟨hq.qb.1, fun hm => hq.qb.2 (List.mem_cons_of_mem _ (R.sub _ hm))⟩, fun y hy => ?_⟩
   ·have := hq.l
    rw [low_y0 i (by omega), low_i0 i (by omega)] at this ⊢
    unfold setE
    rw [if_neg (fun e => hij e.2)]
    exact this
   ·rcases R.new y _ hy with e | ⟨e, _⟩
    ·exact hq.nn y e
    ·exact hq.qb.2 (List.mem_cons_of_mem _ e)
 ·unfold setE
  rw [if_neg (fun e => by omega)]
  exact h.zr k (by omega) h2
 ·have := h.len
  rw [List.length_cons] at this
  unfold wn1 at hlen
  by_cases h0 : P = 0
  ·rw [if_pos h0] at this hlen
   rw [if_neg (by omega)]
   omega
  ·rw [if_neg h0] at this hlen
   rw [if_neg (by omega)]
   omega
 ·unfold upd at e
  by_cases h1 : i = P
  ·by_cases h2 : j = P
   ·omega
   ·rw [if_pos h1, if_neg h2] at e
    exact absurd e.symm (hfn j (by omega))
  ·by_cases h2 : j = P
   ·rw [if_neg h1, if_pos h2] at e
    exact absurd e (hfn i (by omega))
   ·rw [if_neg h1, if_neg h2] at e
    exact h.inj i j (by omega) (by omega) e
def GgP (w : World) (s p b m N r P K : Nat) (fr : Nat → Nat) (c : Nat → Int) (x : Int) (e : Ending) (w' : World) : Prop := e = .returned (.int .i64 0) ∧ (∃ f B' L' F' lf', SpG w' s p b m N r (P + 1) K B' L' F' lf' (upd fr P f) (upd c P (x + 208))) ∧
 w.heap.size ≤ w'.heap.size ∧ w'.os = w.os ∧ w'.tape = w.tape ∧ w'.output = w.output ∧ ∀ k, k < w.heap.size → k ≠ p → k ≠ b → k ≠ m → k ≠ s → w'.heap[k]? = w.heap[k]?
theorem SpG.grow (h : SpG w s p b m N r P K B L F lf fr c) (hP : P < 500) (hK : P + 4 ≤ K) (x : Int) (hx : rgt x) : Calls Tryz.prog 146 #[.pointer (some ⟨s, 0, .none⟩), .int .u64 (((P : Int) + 1) * 4096), .int .u64 x] w (GgP w s p b m N r P K fr c x) := by
 have hlen := h.len
 have hLn : 1 ≤ L.length := by split at hlen <;> omega
 obtain ⟨f, L1, rfl⟩ : ∃ f L1, L = f :: L1 := by
  cases L with
  | nil => simp at hLn
  | cons f L1 => exact ⟨f, L1, rfl⟩
 have hn := h.need (by omega)
 have hw : wn1 P ≤ L1.length := by
  rw [List.length_cons] at hlen
  unfold wn1
  split <;> rename_i h0
  ·rw [if_pos h0] at hlen; omega
  ·omega
 refine (grow_pt h.su.sp h.su.ram h.su.pt h.su.rt h.su.ne (by omega) hx (by rw [low_y0 P (by omega), low_i0 P (by omega)]; exact h.zr P (Nat.le_refl _) (by omega)) (by rw [hn]; exact hw) ?_).mono fun e w' h9 => ?_
 ·unfold ndP
  rw [List.length_cons] at hlen ⊢
  by_cases h0 : P = 0
  ·subst h0
   simp at hlen ⊢
   omega
  ·rw [if_neg (by omega), if_neg (by omega)]
   rw [if_neg h0] at hlen
   omega
 ·obtain ⟨he, hsp, ⟨B', L', F', hR, hL, hr⟩, hrest⟩ := h9
  refine ⟨he, ⟨f, B', L', F', _, h.step (by omega) hx hsp hR ?_ hr⟩, hrest⟩
  have := congrArg List.length hL
  rw [List.length_append, List.length_take, hn, Nat.min_eq_left hw] at this
  exact this
end
end Go.Proofs.YtabnipbdbnmmpaaGreatDoor.Rm
namespace Go.Proofs.YtabnipbdbnmmpaaGreatDoor.Rm
open Go Go.RowKit Go.Shelf
attribute [local go_sem] Oper.semAt_some
attribute [local irreducible] eM evs
structure Sam (V : World) (c4 : Nat) (W : World) : Prop where
 size : V.heap.size ≤ W.heap.size
 os : W.os = V.os
 tape : W.tape = V.tape
 output : W.output = V.output
 block : ∀ k, k < V.heap.size → k ≠ c4 → W.heap[k]? = V.heap[k]?
theorem Sam.keep {V W W' : World} {c4 : Nat} (h : Sam V c4 W) (h1 : W'.os = W.os) (h2 : W'.tape = W.tape) (h3 : W'.output = W.output) (hs : W.heap.size ≤ W'.heap.size) (hb : ∀ k, k < V.heap.size → W'.heap[k]? = W.heap[k]?) : Sam V c4 W' :=
 ⟨Nat.le_trans h.size hs, h1.trans h.os, h2.trans h.tape, h3.trans h.output, fun k hk a => (hb k hk).trans (h.block k hk a)⟩
def FrI (V : World) (c4 : Nat) (pre : List (Int × Int)) (W : World) : Prop := pre = [] ∧ Sam V c4 W ∧ W.heap[c4]? = V.heap[c4]?
def FrX (V : World) (c4 : Nat) (pre : List (Int × Int)) (W : World) : Prop := pre ≠ [] ∧ Sam V c4 W ∧ W.cell? ⟨c4, 0, .none⟩ = some (.int .i64 87)
theorem FrI.gd {V : World} {c4 : Nat} (hc : c4 < V.heap.size) : GdJ (fun k _ => V.heap.size ≤ k) (FrI V c4) :=
 ⟨fun s W W' hs hm => have hb : ∀ k, k < V.heap.size → W'.heap[k]? = W.heap[k]? := fun k hk => hm.block k (Nat.lt_of_lt_of_le hk hs.2.1.size) (by omega)
  ⟨hs.1, hs.2.1.keep hm.os hm.tape hm.output hm.size hb, (hb c4 hc).trans hs.2.2⟩, fun s W W' k hs hm hk => hk, fun s W W' k hs hm hk => Nat.le_trans hs.2.1.size hk⟩
theorem FrI.own {V : World} {c4 : Nat} (hc : c4 < V.heap.size) : OwnFrom V.heap.size (FrI V c4) := fun s W W' row hs hg hr =>
 have hb : ∀ k, k < V.heap.size → W'.heap[k]? = W.heap[k]? := fun k hk => hg.block k (Nat.lt_of_lt_of_le hk hs.2.1.size) (fun e => by have := (hr k e.symm).1; omega)
 ⟨hs.1, hs.2.1.keep hg.os hg.tape hg.output hg.size hb, (hb c4 hc).trans hs.2.2⟩
theorem FrX.put {V : World} {c4 : Nat} (hc : c4 < V.heap.size) {pre : List (Int × Int)} {W : World} {l : Nat} (o' : Obj) (h : FrX V c4 pre W) (hl : V.heap.size ≤ l) : FrX V c4 pre (W.putObj l o') := by
 have hb : ∀ k, k < V.heap.size → (W.putObj l o').heap[k]? = W.heap[k]? := fun k hk => World.putObj_heap_other (by omega)
 exact ⟨h.1, h.2.1.keep rfl rfl rfl (by simp [World.putObj]) hb, (World.cell?_of_block (a := ⟨c4, 0, .none⟩) (hb c4 hc)).trans h.2.2⟩
theorem Sam.below {w V W : World} {c4 : Nat} (h : Sam V c4 W) (b : Below w.heap.size w V) (hc : w.heap.size ≤ c4) : Below w.heap.size w W :=
 ⟨h.os.trans b.os, h.tape.trans b.tape, h.output.trans b.output, Nat.le_trans b.size h.size, fun k hk => (h.block k (Nat.lt_of_lt_of_le hk b.size) (by omega)).trans (b.block k hk)⟩
end Go.Proofs.YtabnipbdbnmmpaaGreatDoor.Rm
namespace Go.Proofs.YtabnipbdbnmmpaaGreatDoor.Rm
open Go Go.RowKit Go.Shelf
attribute [local go_sem] Oper.semAt_some
attribute [local irreducible] eM evs
def Tb (p b m N r K : Nat) (l : List Pg) (W : World) : Prop := (∃ B L F lf, Ram W p b m N B L ∧ PT N L B F lf ∧ F 0 = some r ∧ TL F lf l ∧ L.length + nodesF F = K) ∧ l.Pairwise (fun a b => a.1 ≠ b.1)
section
variable {p b m N r K : Nat} {l : List Pg} {W : World}
theorem Tb.below {W' : World} (h : Tb p b m N r K l W) (k : Below W.heap.size W W') : Tb p b m N r K l W' := by
 obtain ⟨⟨B, L, F, lf, h1, h2⟩, h3⟩ := h
 exact ⟨⟨B, L, F, lf, h1.below k, h2⟩, h3⟩
theorem Tb.lt (h : Tb p b m N r K l W) : p < W.heap.size ∧ b < W.heap.size ∧ m < W.heap.size := by
 obtain ⟨⟨B, L, F, lf, h1, h2⟩, h3⟩ := h
 exact ⟨h1.mem.plt, h1.mem.blt, h1.mem.mlt⟩
theorem Tb.ok (h : Tb p b m N r K l W) : (∀ x ∈ l, okP x) ∧ (∀ x ∈ l, ∀ z ∈ l, x.1 = z.1 → x = z) := by
 obtain ⟨⟨B, L, F, lf, h1, h2, h3, h4, h5⟩, h6⟩ := h
 exact ⟨h4.ok, h4.uniq⟩
end
end Go.Proofs.YtabnipbdbnmmpaaGreatDoor.Rm
