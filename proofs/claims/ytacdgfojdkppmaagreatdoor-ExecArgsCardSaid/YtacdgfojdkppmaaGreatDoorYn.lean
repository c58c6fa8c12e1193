import Derived.Test.YtacdgfojdkppmaaGreatDoorYj
import Derived.Test.YtacdgfojdkppmaaGreatDoorXc
namespace Go.Proofs.YtacdgfojdkppmaaGreatDoor.Rm
open Go.RowKit
set_option linter.unusedVariables false
set_option linter.unusedSimpArgs false
/-- Four blocks may have turned. -/
structure Tch (p b m x : Nat) (w w' : World) : Prop where
 os : w'.os = w.os
 tape : w'.tape = w.tape
 output : w'.output = w.output
 size : w.heap.size ≤ w'.heap.size
 block : ∀ k, k < w.heap.size → k ≠ p → k ≠ b → k ≠ m → k ≠ x → w'.heap[k]? = w.heap[k]?
theorem Tch.trans {p b m x : Nat} {u v w : World} (h : Tch p b m x u v) (k : Tch p b m x v w) : Tch p b m x u w :=
 ⟨k.os.trans h.os, k.tape.trans h.tape, k.output.trans h.output, Nat.le_trans h.size k.size, fun i hi a c d e => (k.block i (Nat.lt_of_lt_of_le hi h.size) a c d e).trans (h.block i hi a c d e)⟩
theorem Tch.of {p b m x : Nat} {w w' : World} (h : Fra p b m w w') : Tch p b m x w w' := ⟨h.os, h.tape, h.output, h.size, fun k hk a c d _ => h.block k hk a c d⟩
theorem Tch.fra {p b m x : Nat} {w v w' : World} (hv : Fra p b m w v) (h : Tch p b m x v w') (hx : w.heap.size ≤ x) : Fra p b m w w' :=
 ⟨h.os.trans hv.os, h.tape.trans hv.tape, h.output.trans hv.output, Nat.le_trans hv.size h.size, fun k hk a c d => (h.block k (Nat.lt_of_lt_of_le hk hv.size) a c d (by omega)).trans (hv.block k hk a c d)⟩
theorem Tch.set {p b m x : Nat} {w : World} (k : Nat) (v : Value) : Tch p b m x w (w.setCell ⟨x, k, .none⟩ v) := ⟨rfl, rfl, rfl, by simp [World.setCell], fun i hi _ _ _ e => Below.heap_setCell _ _ _ _ (fun h => e h)⟩
theorem elemU8 (W : World) : (sizeOf (Tryz.prog.elem 22)).run Tryz.prog W = .ok 1 W := elem22 W
theorem cutTo (g k n c : Nat) (h : n ≤ c) (W : World) : (Instr.slice 22 (.slice (some ⟨g, k, .none⟩) n c) none (some (.int .i64 n)) none).run Tryz.prog W = .ok (.slice (some ⟨g, k, .none⟩) n c) W := by
 rw [run_slice_h W 22 (some ⟨g, k, .none⟩) n c (by kernel_rfl) .i64 n (by omega) (by omega), elemU8]
 simp [Result.andThen, sliced, Addr.add]
theorem cutFrom (g k n c : Nat) (h : n ≤ c) (W : World) : ∃ q, (Instr.slice 22 (.slice (some ⟨g, k, .none⟩) n c) (some (.int .i64 n)) none none).run Tryz.prog W = .ok (.slice q 0 (c - n)) W := by
 rw [run_slice_l W 22 (some ⟨g, k, .none⟩) n c (by kernel_rfl) .i64 n (by omega) (by omega), elemU8]
 refine ⟨if c = n then some ⟨g, k, .none⟩ else some ((⟨g, k, .none⟩ : Addr).add n), ?_⟩
 simp [Result.andThen, sliced]
 try (split <;> rfl)
section
variable {w : World} {s p b m N : Nat} {B : Nat → Int} {L : List Nat} {F : Nat → Option Nat} {lf : Nat → Nat → Int}
def PuP (w : World) (p b m x N : Nat) (B : Nat → Int) (L : List Nat) (q o n : Nat) (R : Nat → Int) (e : Ending) (w' : World) : Prop := e = .returned (.bool true) ∧ Ram w' p b m N (over B (q * 4096 + o) ((List.range n).map R)) L ∧ Tch p b m x w w'
set_option maxHeartbeats 1000000 in
theorem put1_any {root size : Int} (hS : Sp w s p root size) (h : Ram w p b m N B L) (q o n : Nat) (hq : q < N ∧ q ∉ L) (hn : 1 ≤ n) (ho : o + n ≤ 4096) (g k c : Nat) (hc : n ≤ c ∧ c ≤ 9223372036854775807) (R : Nat → Int) (hR : ∀ i, 0 ≤ R i ∧ R i < 256) (hg : ∀ i, i < n → w.cell? ⟨g, k + i, .none⟩ = some (.int .u8 (R i)))
  (bv sv : Nat) (hb : w.cell? ⟨bv, 0, .none⟩ = some (.slice (some ⟨g, k, .none⟩) n c)) (hbf : w.frozen? ⟨bv, 0, .none⟩ = false) (hs : w.cell? ⟨sv, 0, .none⟩ = some (.pointer (some ⟨s, 0, .none⟩))) (hne : bv ≠ p ∧ bv ≠ b ∧ bv ≠ m ∧ bv ≠ g ∧ bv ≠ s ∧ bv ≠ sv) :
  Calls Tryz.prog 91 #[.int .u64 (ad q + o), .int .i64 n, .pointer (some ⟨bv, 0, .none⟩), .pointer (some ⟨sv, 0, .none⟩)] w (PuP w p b m bv N B L q o n R) := by
 have ct := cutTo g k n c hc.1 w
 obtain ⟨q2, cf⟩ := cutFrom g k n c hc.1 w
 obtain ⟨w1, hw1⟩ : ∃ w1, w1 = w.setCell ⟨bv, 0, .none⟩ (.slice q2 0 (c - n)) := ⟨_, rfl⟩
 have R1 : Ram w1 p b m N B L := by rw [hw1]; exact h.beside ⟨bv, 0, .none⟩ _ (fun e => hne.1 e.symm) (fun e => hne.2.1 e.symm) (fun e => hne.2.2.1 e.symm)
 have g1 : ∀ i, i < n → w1.cell? ⟨g, k + i, .none⟩ = some (.int .u8 (R i)) := fun i hi => by rw [hw1]; exact (World.cell?_setCell_other _ _ _ _ (by simp only [ne_eq, Addr.mk.injEq, not_and]; intro e; exact absurd e hne.2.2.2.1)).trans (hg i hi)
 have c92 := write_pg R1 q o n hq hn ho g k c R hR g1
 have s1 : w1.cell? ⟨sv, 0, .none⟩ = some (.pointer (some ⟨s, 0, .none⟩)) := by rw [hw1]; exact (World.cell?_setCell_other _ _ _ _ (by simp only [ne_eq, Addr.mk.injEq, not_and]; intro e; exact absurd e hne.2.2.2.2.2)).trans hs
 have k0 : w1.cell? ⟨s, 0, .none⟩ = some (.pointer (some ⟨p, 0, .none⟩)) := by rw [hw1]; exact (World.cell?_setCell_other _ _ _ _ (by simp only [ne_eq, Addr.mk.injEq, not_and]; intro e; exact absurd e hne.2.2.2.2.1)).trans hS.c0
 have HT : Hid (Tch p b m bv w w1) := by rw [hw1]; exact Tch.set _ _
 clear h hg g1 R1 hS hR
 go_enter Tryz.func91, Tryz.ntmps91
 go_upto_region 3 with fail
 rw [← hw1]
 clear hw1
 go_wp2_with (go_at_call 92; refine c92.mono ?_; rintro _ w2 ⟨rfl, r2, f2⟩)
 go_ret
 exact ⟨rfl, r2, HT.out.trans (Tch.of f2)⟩
end
end Go.Proofs.YtacdgfojdkppmaaGreatDoor.Rm
namespace Go.Proofs.YtacdgfojdkppmaaGreatDoor.Rm
open Go.RowKit
set_option linter.unusedVariables false
set_option linter.unusedSimpArgs false
section
variable {w : World} {s p b m N : Nat} {B : Nat → Int} {L : List Nat} {F : Nat → Option Nat} {lf : Nat → Nat → Int}
set_option maxRecDepth 4000 in
set_option maxHeartbeats 2000000 in
theorem each_one {r q : Nat} {size cc : Int} (hS : Sp w s p (ad r) size) (h : Ram w p b m N B L) (hP : PT N L B F lf) (hr : F 0 = some r) (va : Int) (hv : 0 ≤ va ∧ va < 274877906944) (hq : Pag N L F lf va q cc)
  (o n : Nat) (hov : va % 4096 = o) (hn : 1 ≤ n) (ho : o + n ≤ 4096) (g k c : Nat) (hc : n ≤ c ∧ c ≤ 9223372036854775807) (R : Nat → Int) (hR : ∀ i, 0 ≤ R i ∧ R i < 256) (hg : ∀ i, i < n → w.cell? ⟨g, k + i, .none⟩ = some (.int .u8 (R i)))
  (bv sv : Nat) (hb : w.cell? ⟨bv, 0, .none⟩ = some (.slice (some ⟨g, k, .none⟩) n c)) (hbf : w.frozen? ⟨bv, 0, .none⟩ = false) (hs : w.cell? ⟨sv, 0, .none⟩ = some (.pointer (some ⟨s, 0, .none⟩))) (hne : bv ≠ p ∧ bv ≠ b ∧ bv ≠ m ∧ bv ≠ g ∧ bv ≠ s ∧ bv ≠ sv) :
  Calls Tryz.prog 36 #[.pointer (some ⟨s, 0, .none⟩), .int .u64 va, .int .i64 n, .func (.func 111) #[.pointer (some ⟨s, 0, .none⟩)] #[], .func (.func 91) #[] #[.pointer (some ⟨bv, 0, .none⟩), .pointer (some ⟨sv, 0, .none⟩)]] w (PuP w p b m bv N B L q o n R) := by
 have c111 := kern_pt hS h hP hr va hv hq
 rw [hov] at c111
 have HQ : Hid (q < N ∧ q ∉ L) := hq.qb
 have c91 : ∀ W, Below w.heap.size w W → Calls Tryz.prog 91 #[.int .u64 (ad q + o), .int .i64 n, .pointer (some ⟨bv, 0, .none⟩), .pointer (some ⟨sv, 0, .none⟩)] W (PuP W p b m bv N B L q o n R) := fun W bW =>
  put1_any (hS.below bW) (h.below bW) q o n hq.qb hn ho g k c hc R hR (fun i hi => (bW.cell (p := ⟨g, k + i, .none⟩) (lt_of_cell (hg i hi))).trans (hg i hi)) bv sv ((bW.cell (p := ⟨bv, 0, .none⟩) (lt_of_cell hb)).trans hb) ((bW.frozen (p := ⟨bv, 0, .none⟩) (lt_of_cell hb)).trans hbf) ((bW.cell (p := ⟨sv, 0, .none⟩) (lt_of_cell hs)).trans hs) hne
 have HC : Hid (∀ W, Below w.heap.size w W → Calls Tryz.prog 91 #[.int .u64 (ad q + o), .int .i64 n, .pointer (some ⟨bv, 0, .none⟩), .pointer (some ⟨sv, 0, .none⟩)] W (PuP W p b m bv N B L q o n R)) := c91
 have hmin : (n : Int) ≤ 4096 - o := by omega
 have hw4 : IntKind.u64.wrap (4096 - (o : Int)) = 4096 - o := by rw [IntKind.wrap_u64]; omega
 have hwn : IntKind.u64.wrap (n : Int) = n := by rw [IntKind.wrap_u64]; omega
 have hwv : IntKind.u64.wrap (va + n) = va + n := by rw [IntKind.wrap_u64]; omega
 have hn0 : (0 : Int) < n := by omega
 clear hS h hP hq hR hg hb hbf hs c91
 go_enter Tryz.func36, Tryz.ntmps36
 go_wp2_with fail
 go_loopw [1, 2] (fun v j wr => (v = .int .u64 va ∧ j = .int .i64 n ∧ wr = w) ∨ (j = .int .i64 0 ∧ ∃ v', v = .int .u64 v' ∧ Hid (PuP w p b m bv N B L q o n R (.returned (.bool true)) wr))) (fun _ j _ => (intOf j).toNat)
 case atStart => exact .inl ⟨rfl, rfl, rfl⟩
 case round =>
  rcases hrel with ⟨rfl, rfl, rfl⟩ | ⟨rfl, v', rfl, HZ⟩
  ·go_wp2_with first | (go_at_call 111; refine c111.mono ?_; rintro _ w1 ⟨rfl, b1⟩; have HB1 : Hid (Below wr.heap.size wr w1) := b1; clear b1 c111) | (go_at_call 91; refine (HC.out _ HB1.out).mono ?_; rintro _ w2 ⟨rfl, r2, t2⟩; have HZ : Hid (PuP wr p b m bv N B L q o n R (.returned (.bool true)) w2) := ⟨rfl, r2, (Tch.of (Fra.below HB1.out)).trans t2⟩; clear r2 t2)
   exact ⟨.inr ⟨rfl, _, rfl, HZ⟩, by simp only [intOf]; omega⟩
  ·go_wp2_with fail
   go_ret
   exact HZ.out
def PkP (w : World) (p b m N : Nat) (B : Nat → Int) (L : List Nat) (q o n : Nat) (R : Nat → Int) (e : Ending) (w' : World) : Prop := e = .returned (.bool true) ∧ Ram w' p b m N (over B (q * 4096 + o) ((List.range n).map R)) L ∧ Fra p b m w w'
set_option maxHeartbeats 1000000 in
theorem put_any {r q : Nat} {size cc : Int} (hS : Sp w s p (ad r) size) (h : Ram w p b m N B L) (hP : PT N L B F lf) (hr : F 0 = some r) (va : Int) (hv : 0 ≤ va ∧ va < 274877906944) (hq : Pag N L F lf va q cc)
  (o n : Nat) (hov : va % 4096 = o) (hn : 1 ≤ n) (ho : o + n ≤ 4096) (g k c : Nat) (hc : n ≤ c ∧ c ≤ 9223372036854775807) (R : Nat → Int) (hR : ∀ i, 0 ≤ R i ∧ R i < 256) (hg : ∀ i, i < n → w.cell? ⟨g, k + i, .none⟩ = some (.int .u8 (R i))) :
  Calls Tryz.prog 49 #[.pointer (some ⟨s, 0, .none⟩), .int .u64 va, .slice (some ⟨g, k, .none⟩) n c, .func (.func 111) #[.pointer (some ⟨s, 0, .none⟩)] #[]] w (PkP w p b m N B L q o n R) := by
 obtain ⟨w1, hw1⟩ : ∃ w1, w1 = w.alloc (.cells #[.pointer (some ⟨s, 0, .none⟩)] 32) := ⟨_, rfl⟩
 obtain ⟨w2, hw2⟩ : ∃ w2, w2 = w1.alloc (.cells #[.slice (some ⟨g, k, .none⟩) n c] 22) := ⟨_, rfl⟩
 have z1 : w1.heap.size = w.heap.size + 1 := by rw [hw1]; simp
 have b1 : Below w.heap.size w w1 := by rw [hw1]; exact (Below.refl _ _).alloc (Nat.le_refl _) _
 have b12 : Below w1.heap.size w1 w2 := by rw [hw2]; exact (Below.refl _ _).alloc (Nat.le_refl _) _
 have b2 := b1.trans (b12.mono b1.size)
 have ks : w2.cell? ⟨w.heap.size, 0, .none⟩ = some (.pointer (some ⟨s, 0, .none⟩)) := (b12.cell (p := ⟨w.heap.size, 0, .none⟩) (by show w.heap.size < w1.heap.size; omega)).trans (by rw [hw1]; simp)
 have kb : w2.cell? ⟨w.heap.size + 1, 0, .none⟩ = some (.slice (some ⟨g, k, .none⟩) n c) := by rw [← z1, hw2]; simp
 have kf : w2.frozen? ⟨w.heap.size + 1, 0, .none⟩ = false := by rw [← z1, hw2]; exact World.frozen?_alloc_new _ _ _ _
 have hp : p < w.heap.size := lt_of_cell h.mem.c0
 have hbb : b < w.heap.size := lt_of_cell (h.mem.cb 0 (by have := h.mem.n1; omega))
 have hm : m < w.heap.size := h.mem.mlt
 have hgl : g < w.heap.size := lt_of_cell (hg 0 (by omega))
 have hsl := hS.lt
 have c36 := each_one (hS.below b2) (h.below b2) hP hr va hv hq o n hov hn ho g k c hc R hR (fun i hi => (b2.cell (p := ⟨g, k + i, .none⟩) hgl).trans (hg i hi)) (w.heap.size + 1) w.heap.size kb kf ks ⟨by omega, by omega, by omega, by omega, by omega, by omega⟩
 have HB : Hid (Below w.heap.size w w2) := b2
 clear hS h hP hq hR hg b1 b12 b2 z1 kf hr
 go_enter Tryz.func49, Tryz.ntmps49
 go_upto_region 1 with fail
 rw [← hw1, ← hw2]
 clear hw1 hw2
 go_wp2_with (go_at_call 36; refine c36.mono ?_; rintro _ w3 ⟨rfl, r3, t3⟩)
 go_ret
 exact ⟨rfl, r3, Tch.fra (Fra.below HB.out) t3 (by omega)⟩
set_option maxHeartbeats 1000000 in
theorem poke_any {r q : Nat} {size cc : Int} (hS : Sp w s p (ad r) size) (h : Ram w p b m N B L) (hP : PT N L B F lf) (hr : F 0 = some r) (va : Int) (hv : 0 ≤ va ∧ va < 274877906944) (hq : Pag N L F lf va q cc)
  (o n : Nat) (hov : va % 4096 = o) (hn : 1 ≤ n) (ho : o + n ≤ 4096) (g k c : Nat) (hc : n ≤ c ∧ c ≤ 9223372036854775807) (R : Nat → Int) (hR : ∀ i, 0 ≤ R i ∧ R i < 256) (hg : ∀ i, i < n → w.cell? ⟨g, k + i, .none⟩ = some (.int .u8 (R i))) (hsz : va + n ≤ size ∧ size < 18446744073709551616) :
  Calls Tryz.prog 63 #[.pointer (some ⟨s, 0, .none⟩), .int .u64 va, .slice (some ⟨g, k, .none⟩) n c] w (PkP w p b m N B L q o n R) := by
 have c33 := made_sp hS
 have c34 := fits_any va n size (by omega) (by omega) (by omega) (by omega) w
 have c49 := put_any hS h hP hr va hv hq o n hov hn ho g k c hc R hR hg
 have k2 := hS.c2
 clear hS h hP hq hR hg hr
 go_enter Tryz.func63, Tryz.ntmps63
 go_wp2_with first | (go_at_call 33; refine c33.mono ?_; rintro _ w1 ⟨rfl, e1⟩; obtain rfl : w = w1 := e1.symm) | (go_at_call 34; refine c34.mono ?_; rintro _ w1 ⟨rfl, e1⟩; obtain rfl : w = w1 := e1.symm) | (go_at_call 49; refine c49.mono ?_; rintro _ w3 ⟨rfl, r3, t3⟩)
 go_ret
 exact ⟨rfl, r3, t3⟩
end
end Go.Proofs.YtacdgfojdkppmaaGreatDoor.Rm
namespace Go.Proofs.YtacdgfojdkppmaaGreatDoor.Rm
open Go.RowKit
set_option linter.unusedVariables false
set_option linter.unusedSimpArgs false
theorem ft_le (B : Nat → Int) (i k' : Nat) (hk : hs (B (i * 4096 + k' * 8)) 1 = true) : ∀ k j : Nat, j ≤ k' → k' < j + k → ft B i k j ≤ k'
 | 0, j, h1, h2 => by omega
 | k + 1, j, h1, h2 => by
  simp only [ft]
  split
  ·omega
  ·rename_i hne
   have hjk : j ≠ k' := fun e => hne (by rw [e]; exact hk)
   exact ft_le B i k' hk k (j + 1) (by omega) (by omega)
theorem hs_odd (e : Int) (he : 0 ≤ e ∧ e < 18446744073709551616) : hs e 1 = decide (e % 2 = 1) := by
 unfold hs
 have h1 : bits .and .u64 e ((1 : Nat) : Int) = (((e % 1024).toNat &&& 1 : Nat) : Int) := and_low e he 1 (by omega)
 rw [show ((1 : Nat) : Int) = 1 from rfl] at h1
 rw [h1, Nat.and_one_is_mod]
 by_cases h : e % 2 = 1
 ·have : (e % 1024).toNat % 2 = 1 := by omega
  rw [this]
  simp [h]
 ·have : (e % 1024).toNat % 2 = 0 := by omega
  rw [this]
  simp [h]
theorem num_odd (B : Nat → Int) (o : Nat) : num B o 8 % 2 = B o % 2 := by
 simp only [num, Nat.add_zero]
 omega
theorem kd_odd {e : Int} (h : kd e 0 = 2) : hs e 1 = true := by
 unfold kd at h
 split at h
 ·cases h
 ·rename_i hn
  cases hh : hs e 1
  ·exact absurd hh hn
  ·rfl
/-- A leaf keeps its node taken. -/
theorem ft_leaf {B : Nat → Int} {q k : Nat} {e : Int} (hB : ∀ i, 0 ≤ B i ∧ B i < 256) (he : evn B q k = e) (hk : kd e 0 = 2) (hk5 : k < 512) : ft B q 512 0 < 512 := by
 have h1 := kd_odd hk
 have h0 := num_bd B hB (q * 4096 + k * 8) 8
 have hb : 0 ≤ e ∧ e < 18446744073709551616 := by
  rw [← he]
  unfold evn
  have : (256 : Int) ^ 8 = 18446744073709551616 := by decide
  omega
 rw [hs_odd e hb] at h1
 have h2 := of_decide_eq_true h1
 rw [← he] at h2
 unfold evn at h2
 rw [num_odd] at h2
 have h3 : hs (B (q * 4096 + k * 8)) 1 = true := by
  have := hB (q * 4096 + k * 8)
  rw [hs_odd _ (by omega)]
  exact decide_eq_true h2
 have := ft_le B q k h3 512 0 (by omega) (by omega)
 omega
theorem node0_any (a0 a1 a2 l e k : Int) (h : 0 ≤ a0 ∧ a0 < 18446744073709551616) (w : World) : Calls Tryz.prog 179 #[.agg #[.int .u64 a0, .int .u64 a1, .int .u64 a2, .int .i64 l, .int .u64 e, .int .i64 k], .int .i64 0] w fun r w' => r = .returned (.int .u64 (a0 - a0 % 4096)) ∧ Below w.heap.size w w' := by
 have h1 : IntKind.u64.wrap (a0 - a0 % 4096) = a0 - a0 % 4096 := by rw [IntKind.wrap_u64]; omega
 have HB : Hid (Below w.heap.size w (w.alloc (.cells #[.int .u64 a0, .int .u64 a1, .int .u64 a2, .int .i64 l, .int .u64 e, .int .i64 k] 199))) := (Below.refl _ _).alloc (Nat.le_refl _) _
 go_enter Tryz.func179, Tryz.ntmps179
 go_wp2
 go_region
 go_wp2
 go_ret
 exact ⟨rfl, HB.out.drew⟩
theorem node2_any (a0 a1 a2 l e k : Int) (h : 0 ≤ a2 ∧ a2 < 18446744073709551616) (w : World) : Calls Tryz.prog 179 #[.agg #[.int .u64 a0, .int .u64 a1, .int .u64 a2, .int .i64 l, .int .u64 e, .int .i64 k], .int .i64 2] w fun r w' => r = .returned (.int .u64 (a2 - a2 % 4096)) ∧ Below w.heap.size w w' := by
 have h1 : IntKind.u64.wrap (a2 - a2 % 4096) = a2 - a2 % 4096 := by rw [IntKind.wrap_u64]; omega
 have HB : Hid (Below w.heap.size w (w.alloc (.cells #[.int .u64 a0, .int .u64 a1, .int .u64 a2, .int .i64 l, .int .u64 e, .int .i64 k] 199))) := (Below.refl _ _).alloc (Nat.le_refl _) _
 go_enter Tryz.func179, Tryz.ntmps179
 go_wp2
 go_region
 go_wp2
 go_ret
 exact ⟨rfl, HB.out.drew⟩
end Go.Proofs.YtacdgfojdkppmaaGreatDoor.Rm
namespace Go.Proofs.YtacdgfojdkppmaaGreatDoor.Rm
open Go.RowKit
set_option linter.unusedVariables false
set_option linter.unusedSimpArgs false
/-- A path's six cells. -/
structure P6 (w : World) (x : Nat) (a0 a1 a2 l e k : Int) : Prop where
 c0 : w.cell? ⟨x, 0, .none⟩ = some (.int .u64 a0)
 c1 : w.cell? ⟨x, 1, .none⟩ = some (.int .u64 a1)
 c2 : w.cell? ⟨x, 2, .none⟩ = some (.int .u64 a2)
 c3 : w.cell? ⟨x, 3, .none⟩ = some (.int .i64 l)
 c4 : w.cell? ⟨x, 4, .none⟩ = some (.int .u64 e)
 c5 : w.cell? ⟨x, 5, .none⟩ = some (.int .i64 k)
theorem P6.below {w w' : World} {x : Nat} {a0 a1 a2 l e k : Int} (h : P6 w x a0 a1 a2 l e k) (b : Below w.heap.size w w') : P6 w' x a0 a1 a2 l e k :=
 have hl : x < w.heap.size := lt_of_cell h.c0
 ⟨(b.cell (p := ⟨x, 0, .none⟩) hl).trans h.c0, (b.cell (p := ⟨x, 1, .none⟩) hl).trans h.c1, (b.cell (p := ⟨x, 2, .none⟩) hl).trans h.c2, (b.cell (p := ⟨x, 3, .none⟩) hl).trans h.c3, (b.cell (p := ⟨x, 4, .none⟩) hl).trans h.c4, (b.cell (p := ⟨x, 5, .none⟩) hl).trans h.c5⟩
theorem P6.fra {w w' : World} {x p b m : Nat} {a0 a1 a2 l e k : Int} (h : P6 w x a0 a1 a2 l e k) (f : Fra p b m w w') (h1 : x ≠ p) (h2 : x ≠ b) (h3 : x ≠ m) : P6 w' x a0 a1 a2 l e k :=
 have hl : x < w.heap.size := lt_of_cell h.c0
 ⟨(f.cell (x := ⟨x, 0, .none⟩) hl h1 h2 h3).trans h.c0, (f.cell (x := ⟨x, 1, .none⟩) hl h1 h2 h3).trans h.c1, (f.cell (x := ⟨x, 2, .none⟩) hl h1 h2 h3).trans h.c2, (f.cell (x := ⟨x, 3, .none⟩) hl h1 h2 h3).trans h.c3, (f.cell (x := ⟨x, 4, .none⟩) hl h1 h2 h3).trans h.c4, (f.cell (x := ⟨x, 5, .none⟩) hl h1 h2 h3).trans h.c5⟩
theorem P6.new (w : World) (a0 a1 a2 l e k : Int) (t : TypeId) : P6 (w.alloc (.cells #[.int .u64 a0, .int .u64 a1, .int .u64 a2, .int .i64 l, .int .u64 e, .int .i64 k] t)) w.heap.size a0 a1 a2 l e k := ⟨by simp, by simp, by simp, by simp, by simp, by simp⟩
section
variable {w : World} {s p b m N : Nat} {B : Nat → Int} {L : List Nat} {F : Nat → Option Nat} {lf : Nat → Nat → Int}
set_option maxRecDepth 4000 in
set_option maxHeartbeats 1000000 in
theorem prune_keep (h : Ram w p b m N B L) (q r : Nat) (a0 a1 a2 l e k : Int) (hq : ndB N L (ad q) = true) (hqb : 0 ≤ ad q ∧ ad q < 72057594037927936) (h0 : a0 - a0 % 4096 = ad q ∧ 0 ≤ a0 ∧ a0 < 18446744073709551616) (h2 : a2 - a2 % 4096 = ad r ∧ 0 ≤ a2 ∧ a2 < 18446744073709551616) (hne : q ≠ r) (hf : ft B q 512 0 < 512) :
  Calls Tryz.prog 175 #[.pointer (some ⟨p, 0, .none⟩), .agg #[.int .u64 a0, .int .u64 a1, .int .u64 a2, .int .i64 l, .int .u64 e, .int .i64 k]] w fun x w' => x = .returned (.tuple #[]) ∧ Below w.heap.size w w' := by
 obtain ⟨w1, hw1⟩ : ∃ w1, w1 = w.alloc (.cells #[.int .u64 a0, .int .u64 a1, .int .u64 a2, .int .i64 l, .int .u64 e, .int .i64 k] 199) := ⟨_, rfl⟩
 have b1 : Below w.heap.size w w1 := by rw [hw1]; exact (Below.refl _ _).alloc (Nat.le_refl _) _
 have P1 : P6 w1 w.heap.size a0 a1 a2 l e k := by rw [hw1]; exact P6.new _ _ _ _ _ _ _ _
 have c0 := node0_any a0 a1 a2 l e k h0.2 w1
 rw [h0.1] at c0
 have HW : Hid (Below w.heap.size w w1 ∧ P6 w1 w.heap.size a0 a1 a2 l e k ∧ Ram w p b m N B L) := ⟨b1, P1, h⟩
 have c2 : ∀ W, Calls Tryz.prog 179 #[.agg #[.int .u64 a0, .int .u64 a1, .int .u64 a2, .int .i64 l, .int .u64 e, .int .i64 k], .int .i64 2] W fun r' w' => r' = .returned (.int .u64 (ad r)) ∧ Below W.heap.size W w' := fun W => by
  have := node2_any a0 a1 a2 l e k h2.2 W
  rwa [h2.1] at this
 have hneq : (ad q == ad r) = false := by
  have : ad q ≠ ad r := by unfold ad; omega
  simpa using this
 have c180 : ∀ W, Below w.heap.size w W → Calls Tryz.prog 180 #[.pointer (some ⟨p, 0, .none⟩), .int .u64 (ad q), .int .u64 0] W fun r w' => r = .returned (.int .u64 (ft B q 512 0)) ∧ Below W.heap.size W w' := fun W bW => by
  have := firstTaken_any (h.below bW) (ad q) hq 0 (by omega)
  rw [show fi (ad q) = q from fi_adr q] at this
  exact this
 have HC : Hid (∀ W, Below w.heap.size w W → Calls Tryz.prog 180 #[.pointer (some ⟨p, 0, .none⟩), .int .u64 (ad q), .int .u64 0] W fun r w' => r = .returned (.int .u64 (ft B q 512 0)) ∧ Below W.heap.size W w') := c180
 have hfb := ft_b B q 512 0 (by omega)
 generalize ft B q 512 0 = fv at *
 have hf0 : 0 ≤ fv := by omega
 clear hfb
 clear h c180 b1 P1 hq hqb h0 h2 hne
 go_enter Tryz.func175, Tryz.ntmps175
 go_upto_region 1 with fail
 rw [← hw1]
 clear hw1
 go_wp2_with fail
 go_loopw [6] (fun j wr => j = .int .i64 0 ∧ wr = w1) (fun _ _ => 0)
 case atStart => exact ⟨rfl, rfl⟩
 case round =>
  obtain ⟨rfl, rfl⟩ := hrel
  have k0 := HW.out.2.1.c0
  have k1 := HW.out.2.1.c1
  have k2 := HW.out.2.1.c2
  have k3 := HW.out.2.1.c3
  have k4 := HW.out.2.1.c4
  have k5 := HW.out.2.1.c5
  go_upto_region 5 with (go_at_call 179; refine c0.mono ?_; rintro _ w2 ⟨rfl, b2⟩; have H2 : Hid (Below w.heap.size w w2 ∧ P6 w2 w.heap.size a0 a1 a2 l e k) := ⟨HW.out.1.trans (b2.mono HW.out.1.size), HW.out.2.1.below b2⟩; clear b2 c0)
  clear k0 k1 k2 k3 k4 k5
  have k0 := H2.out.2.c0
  have k1 := H2.out.2.c1
  have k2 := H2.out.2.c2
  have k3 := H2.out.2.c3
  have k4 := H2.out.2.c4
  have k5 := H2.out.2.c5
  go_wp2_with first | (go_at_call 179; refine (c2 _).mono ?_; rintro _ w3 ⟨rfl, b3⟩; have H3 : Hid (Below w.heap.size w w3) := H2.out.1.trans (b3.mono H2.out.1.size); clear b3 c2) | (go_at_call 180; refine (HC.out _ H3.out).mono ?_; rintro _ w4 ⟨rfl, b4⟩)
  refine bodyPost_ret (v := .tuple #[]) (by simp [results, Tryz.results175, go_sem]) rfl ⟨rfl, H3.out.trans (b4.mono H3.out.size)⟩
end
end Go.Proofs.YtacdgfojdkppmaaGreatDoor.Rm
