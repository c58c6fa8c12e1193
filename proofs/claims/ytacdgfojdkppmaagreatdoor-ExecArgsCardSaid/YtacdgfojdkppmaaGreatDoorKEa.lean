import Derived.Test.YtacdgfojdkppmaaGreatDoorYn
import Derived.Test.YtacdgfojdkppmaaGreatDoorMem
namespace Go.Proofs.YtacdgfojdkppmaaGreatDoor.Rm
open Go.RowKit
set_option linter.unusedVariables false
set_option linter.unusedSimpArgs false
section
variable {w : World} {s p b m N : Nat} {B : Nat → Int} {L : List Nat} {F : Nat → Option Nat} {lf : Nat → Nat → Int}
/-- What taking a page away comes to, where its node stays. -/
def UnP (w : World) (p b m N : Nat) (L : List Nat) (F : Nat → Option Nat) (lf : Nat → Nat → Int) (va tp : Int) (e : Ending) (w' : World) : Prop := e = .returned (.tuple #[.int .u64 tp, .int .i64 0]) ∧ Fra p b m w w' ∧ ∃ B', Ram w' p b m N B' L ∧ PT N L B' F (setE lf (y0 va) (i0 va) 0)
set_option maxRecDepth 4000 in
set_option maxHeartbeats 2000000 in
theorem unmap_pt {r q : Nat} {c : Int} (h : Ram w p b m N B L) (hP : PT N L B F lf) (hr : F 0 = some r) (va : Int) (hv : 0 ≤ va ∧ va < 274877906944 ∧ va % 4096 = 0) (hq : Pag N L F lf va q c) (k' : Nat) (hk' : k' < 512 ∧ k' ≠ i0 va ∧ kd (lf (y0 va) k') 0 = 2) :
  Calls Tryz.prog 153 #[.pointer (some ⟨p, 0, .none⟩), .int .u64 (ad r), .int .u64 va] w (UnP w p b m N L F lf va (toP (ad q) c)) := by
 have hN := h.mem.n2
 obtain ⟨g1, e1⟩ := hq.w1
 obtain ⟨q0, e0⟩ := hq.w0
 have hrN := hP.held 0 r hr
 have hrb := ad_b r N hrN.2.1 hN
 have hqN := hP.held _ _ e0
 have hqb := ad_b q0 N hqN.2.1 hN
 have hgb := ad_b g1 N (hP.held _ _ e1).2.1 hN
 have c140 := isMade_any h
 have c142 := userPage_any va ⟨hv.1, by omega⟩ w
 rw [show decide (va % 4096 = 0 ∧ va < 274877906944) = true by simpa using ⟨hv.2.2, hv.2.1⟩] at c142
 have c144 := isNode_any h (ad r) ⟨hrb.1, by omega⟩
 rw [hP.ndB hr] at c144
 have c141 : ∀ W, Below w.heap.size w W → Calls Tryz.prog 141 #[.pointer (some ⟨p, 0, .none⟩), .int .u64 (ad r), .int .u64 va, .agg #[]] W fun e w' => e = .returned (.agg #[.int .u64 (st (ad q0) va 0), .int .u64 (st (ad g1) va 1), .int .u64 (st (ad r) va 2), .int .i64 0, .int .u64 (toP (ad q) c), .int .i64 2]) ∧ Below W.heap.size W w' := fun W bW => by
  have := look_any (h.below bW) (ad r) va ⟨hrb.1, by omega⟩ ⟨hv.1, by omega⟩
  rw [look_0 hP hN hr va e1 e0, hq.l, hq.k] at this
  exact this
 have hi0 := ix_b va 0
 have hi2 := ix_b va 2
 have c174 : ∀ W, Below w.heap.size w W → Calls Tryz.prog 174 #[.pointer (some ⟨p, 0, .none⟩), .int .u64 (st (ad q0) va 0), .int .i64 8, .int .u64 0] W fun e w' => e = .returned (.bool true) ∧ Ram w' p b m N (over B (q0 * 4096 + i0 va * 8) (le 0 8)) L ∧ Fra p b m W w' := fun W bW => by
  have := store_nd (h.below bW) (ad q0) va 0 0 (hP.ndB e0) (by omega)
  rw [show fi (ad q0) = q0 from fi_adr q0] at this
  exact this
 have hP2 := hP.leaf (v := 0) (y0_ge va) e0 (i0_lt va) (.inl rfl)
 have hne : q0 ≠ r := fun e => by
  have := hP.inj (y0 va) 0 q0 e0 (by rw [e]; exact hr)
  have := y0_ge va
  omega
 have c175 : ∀ W, Ram W p b m N (over B (q0 * 4096 + i0 va * 8) (le 0 8)) L → Calls Tryz.prog 175 #[.pointer (some ⟨p, 0, .none⟩), .agg #[.int .u64 (st (ad q0) va 0), .int .u64 (st (ad g1) va 1), .int .u64 (st (ad r) va 2), .int .i64 0, .int .u64 (toP (ad q) c), .int .i64 2]] W fun x w' => x = .returned (.tuple #[]) ∧ Below W.heap.size W w' := fun W hW =>
  prune_keep hW q0 r _ _ _ _ _ _ (hP.ndB e0) ⟨hqb.1, hqb.2.1⟩ (by unfold st; omega) (by unfold st; omega) hne (ft_leaf hW.mem.bb (hP2.el (y0 va) q0 (y0_ge va) e0 k' hk'.1) (by unfold setE; rw [if_neg (fun e => hk'.2.1 e.2)]; exact hk'.2.2) hk'.1)
 have hp : p < w.heap.size := lt_of_cell h.mem.c0
 have hbb : b < w.heap.size := lt_of_cell (h.mem.cb 0 (by have := h.mem.n1; omega))
 have hm : m < w.heap.size := h.mem.mlt
 have H141 : Hid (∀ W, Below w.heap.size w W → Calls Tryz.prog 141 #[.pointer (some ⟨p, 0, .none⟩), .int .u64 (ad r), .int .u64 va, .agg #[]] W fun e w' => e = .returned (.agg #[.int .u64 (st (ad q0) va 0), .int .u64 (st (ad g1) va 1), .int .u64 (st (ad r) va 2), .int .i64 0, .int .u64 (toP (ad q) c), .int .i64 2]) ∧ Below W.heap.size W w') := c141
 have H174 : Hid (∀ W, Below w.heap.size w W → Calls Tryz.prog 174 #[.pointer (some ⟨p, 0, .none⟩), .int .u64 (st (ad q0) va 0), .int .i64 8, .int .u64 0] W fun e w' => e = .returned (.bool true) ∧ Ram w' p b m N (over B (q0 * 4096 + i0 va * 8) (le 0 8)) L ∧ Fra p b m W w') := c174
 have H175 : Hid (∀ W, Ram W p b m N (over B (q0 * 4096 + i0 va * 8) (le 0 8)) L → Calls Tryz.prog 175 #[.pointer (some ⟨p, 0, .none⟩), .agg #[.int .u64 (st (ad q0) va 0), .int .u64 (st (ad g1) va 1), .int .u64 (st (ad r) va 2), .int .i64 0, .int .u64 (toP (ad q) c), .int .i64 2]] W fun x w' => x = .returned (.tuple #[]) ∧ Below W.heap.size W w') := c175
 have HP2 : Hid (PT N L (over B (q0 * 4096 + i0 va * 8) (le 0 8)) F (setE lf (y0 va) (i0 va) 0)) := hP2
 clear h hP hP2 c141 c174 c175 hq hk' hrN hqN hgb hrb hqb hi0 hi2 e1 e0 hr
 generalize st (ad q0) va 0 = a0 at *
 generalize st (ad g1) va 1 = a1 at *
 generalize st (ad r) va 2 = a2 at *
 generalize toP (ad q) c = tp at *
 go_enter Tryz.func153, Tryz.ntmps153
 go_upto_region 7 with first | (go_at_call 140; refine c140.mono ?_; rintro _ w1 ⟨rfl, e1⟩; obtain rfl : w = w1 := e1.symm) | (go_at_call 142; refine c142.mono ?_; rintro _ w1 ⟨rfl, e1⟩; obtain rfl : w = w1 := e1.symm) | (go_at_call 144; refine c144.mono ?_; rintro _ w1 ⟨rfl, b1⟩; have H1 : Hid (Below w.heap.size w w1) := b1; clear b1 c144)
 go_upto_region 8 with (go_at_call 141; refine (H141.out _ H1.out).mono ?_; rintro _ w2 ⟨rfl, b2⟩; have H2 : Hid (Below w.heap.size w w2) := H1.out.trans (b2.mono H1.out.size); clear b2)
 obtain ⟨w3, hw3⟩ : ∃ w3, w3 = w2.alloc (.cells #[.int .u64 a0, .int .u64 a1, .int .u64 a2, .int .i64 0, .int .u64 tp, .int .i64 2] 199) := ⟨_, rfl⟩
 have b3 : Below w2.heap.size w2 w3 := by rw [hw3]; exact (Below.refl _ _).alloc (Nat.le_refl _) _
 have P3 : P6 w3 w2.heap.size a0 a1 a2 0 tp 2 := by rw [hw3]; exact P6.new _ _ _ _ _ _ _ _
 have H3 : Hid (Below w.heap.size w w3 ∧ P6 w3 w2.heap.size a0 a1 a2 0 tp 2 ∧ w.heap.size ≤ w2.heap.size) := ⟨H2.out.trans (b3.mono H2.out.size), P3, H2.out.size⟩
 rw [← hw3]
 clear hw3 b3
 have k0 := P3.c0
 have k3 := P3.c3
 have k5 := P3.c5
 clear P3
 go_upto_region 11 with (go_at_call 174; refine (H174.out _ H3.out.1).mono ?_; rintro _ w4 ⟨rfl, r4, f4⟩; have H4 : Hid (Ram w4 p b m N (over B (q0 * 4096 + i0 va * 8) (le 0 8)) L ∧ Fra p b m w w4 ∧ P6 w4 w2.heap.size a0 a1 a2 0 tp 2) := ⟨r4, (Fra.below H3.out.1).trans f4, H3.out.2.1.fra f4 (by have := H3.out.2.2; omega) (by have := H3.out.2.2; omega) (by have := H3.out.2.2; omega)⟩; clear r4 f4)
 clear k0 k3 k5
 have k0 := H4.out.2.2.c0
 have k1 := H4.out.2.2.c1
 have k2 := H4.out.2.2.c2
 have k3 := H4.out.2.2.c3
 have k4 := H4.out.2.2.c4
 have k5 := H4.out.2.2.c5
 go_upto_region 12 with (go_at_call 175; refine (H175.out _ H4.out.1).mono ?_; rintro _ w5 ⟨rfl, b5⟩; have H5 : Hid (Below w4.heap.size w4 w5) := b5; clear b5)
 clear k0 k1 k2 k3 k4 k5
 have k4 := (H4.out.2.2.below H5.out).c4
 go_wp2_with fail
 refine bodyPost_ret (v := .tuple #[.int .u64 tp, .int .i64 0]) (by simp [results, Tryz.results153, go_sem]) rfl ⟨rfl, H4.out.2.1.trans (Fra.below H5.out), _, H4.out.1.below H5.out, HP2.out⟩
end
end Go.Proofs.YtacdgfojdkppmaaGreatDoor.Rm
namespace Go.Proofs.YtacdgfojdkppmaaGreatDoor.Rm
open Go Go.RowKit
set_option linter.unusedVariables false
set_option linter.unusedSimpArgs false
/-- How long a piece is that begins behind k bytes. -/
def pce (va : Int) (n k : Nat) : Nat := min (n - k) (4096 - ((va + k) % 4096).toNat)
theorem pce_b (va : Int) (n k : Nat) (h : k < n) : 1 ≤ pce va n k ∧ k + pce va n k ≤ n ∧ ((va + k) % 4096).toNat + pce va n k ≤ 4096 := by
 unfold pce
 omega
/-- What each comes to: all pieces, or none behind the first that was refused. -/
def EaP (n : Nat) (J : Nat → World → Prop) (Jf : World → Prop) (e : Ending) (w' : World) : Prop := (e = .returned (.bool true) ∧ J n w') ∨ (e = .returned (.bool false) ∧ Jf w')
set_option maxHeartbeats 2000000 in
theorem each_rd {w : World} {s : Nat} {u1 u2 d1 d2 : Nat} (va : Int) (n : Nat) (hv : 0 ≤ va ∧ va + n ≤ 274877906944) (J : Nat → World → Prop) (Jf : World → Prop) (pa : Nat → Int) (ok dok : Nat → Bool)
  (hat : ∀ k W, k < n → J k W → Calls Tryz.prog 78 #[.int .u64 (va + k), .pointer (some ⟨u1, 0, .none⟩), .pointer (some ⟨u2, 0, .none⟩)] W fun e W' => e = .returned (.tuple #[.int .u64 (pa k), .bool (ok k)]) ∧ J k W')
  (hno : ∀ k W, k < n → ok k = false → J k W → Jf W)
  (hdo : ∀ k W, k < n → ok k = true → J k W → Calls Tryz.prog 38 #[.int .u64 (pa k), .int .i64 (pce va n k), .pointer (some ⟨d1, 0, .none⟩), .pointer (some ⟨d2, 0, .none⟩)] W fun e W' => e = .returned (.bool (dok k)) ∧ (dok k = true → J (k + pce va n k) W') ∧ (dok k = false → Jf W')) (h0 : J 0 w) :
  Calls Tryz.prog 36 #[.pointer (some ⟨s, 0, .none⟩), .int .u64 va, .int .i64 n, .func (.func 78) #[] #[.pointer (some ⟨u1, 0, .none⟩), .pointer (some ⟨u2, 0, .none⟩)], .func (.func 38) #[] #[.pointer (some ⟨d1, 0, .none⟩), .pointer (some ⟨d2, 0, .none⟩)]] w (EaP n J Jf) := by
 have HA : Hid (∀ k W, k < n → J k W → Calls Tryz.prog 78 #[.int .u64 (va + k), .pointer (some ⟨u1, 0, .none⟩), .pointer (some ⟨u2, 0, .none⟩)] W fun e W' => e = .returned (.tuple #[.int .u64 (pa k), .bool (ok k)]) ∧ J k W') := hat
 have HN : Hid (∀ k W, k < n → ok k = false → J k W → Jf W) := hno
 have HD : Hid (∀ k W, k < n → ok k = true → J k W → Calls Tryz.prog 38 #[.int .u64 (pa k), .int .i64 (pce va n k), .pointer (some ⟨d1, 0, .none⟩), .pointer (some ⟨d2, 0, .none⟩)] W fun e W' => e = .returned (.bool (dok k)) ∧ (dok k = true → J (k + pce va n k) W') ∧ (dok k = false → Jf W')) := hdo
 have H0 : Hid (J 0 w) := h0
 clear hat hno hdo h0
 go_enter Tryz.func36, Tryz.ntmps36
 go_wp2_with fail
 go_loopw [1, 2] (fun v j wr => ∃ k : Nat, k ≤ n ∧ v = .int .u64 (va + k) ∧ j = .int .i64 (n - k) ∧ Hid (J k wr)) (fun _ j _ => (intOf j).toNat)
 case atStart => exact ⟨0, by omega, by simp, by simp, H0⟩
 case round =>
  clear H0
  obtain ⟨k, hk, rfl, rfl, HJ⟩ := hrel
  by_cases hkn : k < n
  ·have hpos : (0 : Int) < n - k := by omega
   have ca := HA.out k wr hkn HJ.out
   have hb := pce_b va n k hkn
   have hrem : IntKind.u64.wrap ((va + k).tmod 4096) = (va + k) % 4096 := by rw [Int.tmod_eq_emod_of_nonneg (by omega), IntKind.wrap_u64]; omega
   have hsub : IntKind.u64.wrap (4096 - (va + k) % 4096) = 4096 - (va + k) % 4096 := by rw [IntKind.wrap_u64]; omega
   have hcv : IntKind.i64.wrap (4096 - (va + k) % 4096) = 4096 - (va + k) % 4096 := by rw [IntKind.wrap_i64]; omega
   have hpu : IntKind.u64.wrap (pce va n k : Int) = pce va n k := by rw [IntKind.wrap_u64]; omega
   have hva2 : IntKind.u64.wrap (va + k + pce va n k) = va + k + pce va n k := by rw [IntKind.wrap_u64]; omega
   by_cases hm : (n : Int) - k ≤ 4096 - (va + k) % 4096
   ·have hm2 : ¬ 4096 - (va + k) % 4096 < (n : Int) - k := by omega
    obtain ⟨pc, hpc⟩ : ∃ pc, pc = pce va n k := ⟨_, rfl⟩
    have e9 : (n : Int) - k = (pc : Int) := by rw [hpc]; unfold pce; omega
    rw [← hpc] at hb hpu hva2
    have HPC : Hid (pc = pce va n k) := hpc
    clear hpc
    have hnx : IntKind.i64.wrap ((n : Int) - k - pc) = n - k - pc := by rw [IntKind.wrap_i64]; omega
    go_wp2_with fail
    refine ca.mono ?_
    rintro _ w1 ⟨rfl, j1⟩
    have HJ1 : Hid (J k w1) := j1
    clear j1 ca HJ
    cases hok : ok k
    ·have HF : Hid (Jf w1) := HN.out k w1 hkn hok HJ1.out
     go_wp2_with fail
     go_ret
     exact .inr ⟨rfl, HF.out⟩
    ·have cd := HD.out k w1 hkn hok HJ1.out
     rw [← HPC.out] at cd
     cases hdk : dok k
     ·rw [hdk] at cd
      go_wp2_with fail
      refine cd.mono ?_
      rintro _ w2 ⟨rfl, _, hf⟩
      have HF : Hid (Jf w2) := hf (by first | rfl | trivial)
      clear hf cd
      go_wp2_with fail
      go_ret
      exact .inr ⟨rfl, HF.out⟩
     ·rw [hdk] at cd
      go_wp2_with fail
      refine cd.mono ?_
      rintro _ w2 ⟨rfl, ht, _⟩
      have HT : Hid (J (k + pc) w2) := ht (by first | rfl | trivial)
      clear ht cd
      go_wp2_with fail
      exact ⟨⟨k + pc, by omega, by congr 1; omega, by congr 1; omega, HT⟩, by simp only [intOf]; omega⟩
   ·have hm2 : 4096 - (va + k) % 4096 < (n : Int) - k := by omega
    obtain ⟨pc, hpc⟩ : ∃ pc, pc = pce va n k := ⟨_, rfl⟩
    have e9 : 4096 - (va + k) % 4096 = (pc : Int) := by rw [hpc]; unfold pce; omega
    rw [← hpc] at hb hpu hva2
    have HPC : Hid (pc = pce va n k) := hpc
    clear hpc
    have hnx : IntKind.i64.wrap ((n : Int) - k - pc) = n - k - pc := by rw [IntKind.wrap_i64]; omega
    go_wp2_with fail
    refine ca.mono ?_
    rintro _ w1 ⟨rfl, j1⟩
    have HJ1 : Hid (J k w1) := j1
    clear j1 ca HJ
    cases hok : ok k
    ·have HF : Hid (Jf w1) := HN.out k w1 hkn hok HJ1.out
     go_wp2_with fail
     go_ret
     exact .inr ⟨rfl, HF.out⟩
    ·have cd := HD.out k w1 hkn hok HJ1.out
     rw [← HPC.out] at cd
     cases hdk : dok k
     ·rw [hdk] at cd
      go_wp2_with fail
      refine cd.mono ?_
      rintro _ w2 ⟨rfl, _, hf⟩
      have HF : Hid (Jf w2) := hf (by first | rfl | trivial)
      clear hf cd
      go_wp2_with fail
      go_ret
      exact .inr ⟨rfl, HF.out⟩
     ·rw [hdk] at cd
      go_wp2_with fail
      refine cd.mono ?_
      rintro _ w2 ⟨rfl, ht, _⟩
      have HT : Hid (J (k + pc) w2) := ht (by first | rfl | trivial)
      clear ht cd
      go_wp2_with fail
      exact ⟨⟨k + pc, by omega, by congr 1; omega, by congr 1; omega, HT⟩, by simp only [intOf]; omega⟩
  ·obtain rfl : k = n := by omega
   go_wp2_with fail
   go_ret
   exact .inl ⟨rfl, HJ.out⟩
end Go.Proofs.YtacdgfojdkppmaaGreatDoor.Rm
