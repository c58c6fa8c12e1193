import Derived.Test.YthopgmmodldljabAq
import Derived.Test.YthopgmmodldljabAp
namespace Go.Proofs.Ythopgmmodldljab
open Go Go.RowKit
set_option linter.unusedVariables false
set_option linter.unusedSimpArgs false
/-! The document's fds, names and frame. -/
def fdC (p : Pc) (f : Int) (j : Nat) : Nat := ((List.range j).filter fun k => p.c (46 + k) == f).length
def fdN (l : List Pc) (f : Int) : Nat := (l.map fun p => fdC p f 16).sum
theorem fdC_succ (p : Pc) (f : Int) (j : Nat) : fdC p f (j + 1) = fdC p f j + (if p.c (46 + j) == f then 1 else 0) := by
 unfold fdC
 rw [List.range_succ, List.filter_append, List.length_append]
 congr 1
 by_cases h : (p.c (46 + j) == f) = true
 ·simp [h]
 ·simp [h]
theorem fdC_le (p : Pc) (f : Int) (j : Nat) : fdC p f j ≤ j := by
 unfold fdC
 have := List.length_filter_le (fun k => p.c (46 + k) == f) (List.range j)
 rw [List.length_range] at this
 exact this
theorem fdN_app (l : List Pc) (p : Pc) (f : Int) : fdN (l ++ [p]) f = fdN l f + fdC p f 16 := by
 unfold fdN
 simp
theorem fdN_le (l : List Pc) (f : Int) : fdN l f ≤ 16 * l.length := by
 induction l with
 | nil => simp [fdN]
 | cons p l ih =>
  have h1 := fdC_le p f 16
  have : fdN (p :: l) f = fdC p f 16 + fdN l f := by simp [fdN]
  rw [this, List.length_cons]
  omega
theorem fd_at (x : Pc) (nv gv : Value) (k : Nat) (hk : k < 16) : (x.l nv gv)[46 + k]? = some (.int .i64 (x.c (46 + k))) := by
 have : k = 0 ∨ k = 1 ∨ k = 2 ∨ k = 3 ∨ k = 4 ∨ k = 5 ∨ k = 6 ∨ k = 7 ∨ k = 8 ∨ k = 9 ∨ k = 10 ∨ k = 11 ∨ k = 12 ∨ k = 13 ∨ k = 14 ∨ k = 15 := by omega
 rcases this with rfl | rfl | rfl | rfl | rfl | rfl | rfl | rfl | rfl | rfl | rfl | rfl | rfl | rfl | rfl | rfl <;> rfl
set_option maxRecDepth 100000 in
set_option maxHeartbeats 2000000 in
theorem dfds_any {w : World} {X : Nat} {pv fv iv qv rv lv : Value} {L : Lk} (h : Ps w X pv L.procs) (hX : X ≤ w.heap.size) (hs : L.procs.length ≤ 1048576) (f : Int) : Calls Try.prog 21 #[.agg (lkL L.tramp pv fv iv qv rv lv L.ticks L.next L.free).toArray, .int .i64 f] w fun e w' => e = .returned (.int .i64 (fdN L.procs f)) ∧ Below w.heap.size w w' := by
 obtain ⟨pp, pc, rfl⟩ := h.form
 obtain ⟨np, hnp⟩ : ∃ n, n = L.procs.length := ⟨_, rfl⟩
 rw [← hnp] at h hs ⊢
 have HP : Hid (Ps w X (.slice pp np pc) L.procs ∧ np = L.procs.length ∧ X ≤ w.heap.size) := ⟨h, hnp, hX⟩
 clear h hnp hX
 obtain ⟨lc, hlc⟩ : ∃ lc, lc = lkL L.tramp (.slice pp np pc) fv iv qv rv lv L.ticks L.next L.free := ⟨_, rfl⟩
 rw [← hlc]
 have HL : Hid (lc[1]? = some (.slice pp np pc) ∧ lc.length = 10) := by rw [hlc]; exact ⟨rfl, rfl⟩
 clear hlc
 go_enter Try.func21, Try.ntmps21
 go_wp2_with (first
  | (refine wpList_is (.box 31 (.tmp 0)) rfl ?_; refine wpList_boxG 31 lc 2 (.tmp 0) _ rfl rfl rfl rfl ?_; intro W1 hW1 hB1 hs1; have d1 := cell_heap (o := 1) hW1; rw [List.getElem?_toArray, HL.out.1] at d1)
  | fail)
 have HB1 : Hid (Below w.heap.size w W1) := hB1
 clear hW1 hB1 hs1
 go_loopw [5, 6] (fun v k wr => ∃ i : Nat, i ≤ np ∧ k = .int .i64 i ∧ wr = W1 ∧ ∃ m : Nat, v = .int .i64 m ∧ Hid (m = fdN (L.procs.take i) f)) (fun _ v _ => (np - intOf v).toNat)
 case atStart => exact ⟨0, by omega, rfl, rfl, 0, rfl, by show _ = _; simp [fdN]⟩
 case round =>
  obtain ⟨i, hi, rfl, rfl, m, rfl, HB⟩ := hrel
  by_cases hin : i < np
  ·have i1 : (i : Int) < np := by omega
   have bm : m ≤ 16777216 := by
    have h1 := fdN_le (L.procs.take i) f
    rw [List.length_take] at h1
    have := HB.out
    omega
   obtain ⟨-, b, o, x, cs, rfl, hbX, hx, ⟨nv, gv, rfl, hN, hG⟩, hcl, hr⟩ := HP.out.1.at hin
   have HR : Hid (wr.rangeAt b (o + i * 70) (x.l nv gv)) := range_keep hr HB1.out (by have := HP.out.2.2; omega)
   have HE : Hid (fdN (L.procs.take (i + 1)) f = m + fdC x f 16) := by
    show _ = _
    rw [List.take_add_one, hx, HB.out]
    exact fdN_app _ _ _
   clear hr hcl hbX hx hN hG HB
   go_wp2
   go_loopw [5, 7] (fun v k wq => ∃ j : Nat, j ≤ 16 ∧ k = .int .i64 j ∧ wq = wr ∧ ∃ q : Nat, v = .int .i64 q ∧ Hid (q = m + fdC x f j)) (fun _ v _ => (16 - intOf v).toNat)
   case atStart => exact ⟨0, by omega, rfl, rfl, m, rfl, by show _ = _; simp [fdC]⟩
   case round =>
    obtain ⟨j, hj, rfl, rfl, q, rfl, HC⟩ := hrel
    by_cases hjn : j < 16
    ·have j1 : (j : Int) < 16 := by omega
     have bq : q ≤ 33554432 := by have h1 := fdC_le x f j; have := HC.out; omega
     have a0 := HR.out (46 + j) _ (fd_at x nv gv j hjn)
     rw [← Nat.add_assoc] at a0
     have hw : IntKind.i64.wrap ((q : Int) + 1) = (q : Int) + 1 := by rw [IntKind.wrap_i64]; omega
     cases hb : (x.c (46 + j) == f)
     ·have HF : Hid (fdC x f (j + 1) = fdC x f j) := by show _ = _; rw [fdC_succ, hb]; simp
      go_wp2
      exact ⟨⟨j + 1, by omega, by go_num, by first | rfl | trivial, q, rfl, by show _ = _; rw [HF.out]; exact HC.out⟩, by simp [intOf]; omega⟩
     ·have HF : Hid (fdC x f (j + 1) = fdC x f j + 1) := by show _ = _; rw [fdC_succ, hb]; simp
      go_wp2
      exact ⟨⟨j + 1, by omega, by go_num, by first | rfl | trivial, q + 1, by go_num, by show _ = _; rw [HF.out]; have := HC.out; omega⟩, by simp [intOf]; omega⟩
    ·have j1 : ¬ (j : Int) < 16 := by omega
     obtain rfl : j = 16 := by omega
     go_wp2
     exact ⟨⟨i + 1, by omega, by go_num, by first | rfl | trivial, q, rfl, by show _ = _; rw [HE.out]; exact HC.out⟩, by simp [intOf]; omega⟩
  ·have i1 : ¬ (i : Int) < np := by omega
   have HT : Hid (m = fdN L.procs f) := by
    have h1 := HB.out
    rw [List.take_of_length_le (by have := HP.out.2.1; omega)] at h1
    exact h1
   go_wp2
   go_ret
   exact ⟨by rw [← HT.out]; rfl, HB1.out⟩
def nFl (l : List Fi) (ino : Int) : Nat := (l.filter fun f => f.kind == 1 && f.ino == ino).length
def nPc (l : List Pc) (ino : Int) : Nat := (l.filter fun p => p.c 2 != 3 && p.c 62 == ino).length
theorem nFl_app (l : List Fi) (f : Fi) (ino : Int) : nFl (l ++ [f]) ino = nFl l ino + (if f.kind == 1 && f.ino == ino then 1 else 0) := by
 unfold nFl
 rw [List.filter_append, List.length_append]
 congr 1
 by_cases h : (f.kind == 1 && f.ino == ino) = true
 ·rw [List.filter_cons, if_pos h, if_pos h]; rfl
 ·rw [List.filter_cons, if_neg h, if_neg h]; rfl
theorem nPc_app (l : List Pc) (p : Pc) (ino : Int) : nPc (l ++ [p]) ino = nPc l ino + (if p.c 2 != 3 && p.c 62 == ino then 1 else 0) := by
 unfold nPc
 rw [List.filter_append, List.length_append]
 congr 1
 by_cases h : (p.c 2 != 3 && p.c 62 == ino) = true
 ·rw [List.filter_cons, if_pos h, if_pos h]; rfl
 ·rw [List.filter_cons, if_neg h, if_neg h]; rfl
theorem nFl_le (l : List Fi) (ino : Int) : nFl l ino ≤ l.length := List.length_filter_le _ _
theorem nPc_le (l : List Pc) (ino : Int) : nPc l ino ≤ l.length := List.length_filter_le _ _
set_option maxRecDepth 100000 in
set_option maxHeartbeats 2000000 in
theorem dnames_any {w : World} {X : Nat} {pv fv iv qv rv lv : Value} {L : Lk} (h : Ps w X pv L.procs) (h2 : Fs w X fv L.files) (hX : X ≤ w.heap.size) (hs : L.procs.length ≤ 1048576) (hs2 : L.files.length ≤ 1048576) (ino : Int) : Calls Try.prog 22 #[.agg (lkL L.tramp pv fv iv qv rv lv L.ticks L.next L.free).toArray, .int .i64 ino] w fun e w' => e = .returned (.int .i64 ((nFl L.files ino + nPc L.procs ino : Nat) : Int)) ∧ Below w.heap.size w w' := by
 obtain ⟨pp, pc, rfl⟩ := h.form
 obtain ⟨fp, fc, rfl⟩ := h2.form
 obtain ⟨np, hnp⟩ : ∃ n, n = L.procs.length := ⟨_, rfl⟩
 obtain ⟨nf, hnf⟩ : ∃ n, n = L.files.length := ⟨_, rfl⟩
 rw [← hnp] at h hs ⊢
 rw [← hnf] at h2 hs2 ⊢
 have HP : Hid (Ps w X (.slice pp np pc) L.procs ∧ np = L.procs.length ∧ X ≤ w.heap.size) := ⟨h, hnp, hX⟩
 have HF : Hid (Fs w X (.slice fp nf fc) L.files ∧ nf = L.files.length) := ⟨h2, hnf⟩
 clear h hnp hX h2 hnf
 obtain ⟨lc, hlc⟩ : ∃ lc, lc = lkL L.tramp (.slice pp np pc) (.slice fp nf fc) iv qv rv lv L.ticks L.next L.free := ⟨_, rfl⟩
 rw [← hlc]
 have HL : Hid (lc[1]? = some (.slice pp np pc) ∧ lc[2]? = some (.slice fp nf fc) ∧ lc.length = 10) := by rw [hlc]; exact ⟨rfl, rfl, rfl⟩
 clear hlc
 go_enter Try.func22, Try.ntmps22
 go_wp2_with (first
  | (refine wpList_is (.box 31 (.tmp 0)) rfl ?_; refine wpList_boxG 31 lc 2 (.tmp 0) _ rfl rfl rfl rfl ?_; intro W1 hW1 hB1 hs1; have d1 := cell_heap (o := 1) hW1; rw [List.getElem?_toArray, HL.out.1] at d1; have d2 := cell_heap (o := 2) hW1; rw [List.getElem?_toArray, HL.out.2.1] at d2)
  | fail)
 have HB1 : Hid (Below w.heap.size w W1) := hB1
 clear hW1 hB1 hs1
 go_loopw [5, 6] (fun v k wr => ∃ i : Nat, i ≤ nf ∧ k = .int .i64 i ∧ wr = W1 ∧ ∃ m : Nat, v = .int .i64 m ∧ Hid (m = nFl (L.files.take i) ino)) (fun _ v _ => (nf - intOf v).toNat)
 case atStart => exact ⟨0, by omega, rfl, rfl, 0, rfl, by show _ = _; simp [nFl]⟩
 case round =>
  obtain ⟨i, hi, rfl, rfl, m, rfl, HB⟩ := hrel
  have bm : m ≤ 1048576 := by
   have h1 := nFl_le (L.files.take i) ino
   rw [List.length_take] at h1
   have := HB.out
   omega
  by_cases hin : i < nf
  ·have i1 : (i : Int) < nf := by omega
   obtain ⟨-, b, o, x, cs, rfl, hbX, hx, rfl, hcl, hr⟩ := HF.out.1.at hin
   have hr' := range_keep hr HB1.out (by have := HP.out.2.2; omega)
   have a1 := hr' 1 _ rfl
   have a5 := hr' 5 _ rfl
   have HE : Hid (nFl (L.files.take (i + 1)) ino = m + (if x.kind == 1 && x.ino == ino then 1 else 0)) := by
    show _ = _
    rw [List.take_add_one, hx, HB.out]
    exact nFl_app _ _ _
   clear hr hr' hcl hbX hx HB
   have hw : IntKind.i64.wrap ((m : Int) + 1) = (m : Int) + 1 := by rw [IntKind.wrap_i64]; omega
   cases hb : (x.kind == 1)
   ·have HN : Hid ((x.kind == 1 && x.ino == ino) = false) := by show _ = _; rw [hb]; rfl
    go_wp2
    exact ⟨⟨i + 1, by omega, by go_num, by first | rfl | trivial, m, rfl, by show _ = _; rw [HE.out, HN.out]; simp⟩, by simp [intOf]; omega⟩
   ·cases hb2 : (x.ino == ino)
    ·have HN : Hid ((x.kind == 1 && x.ino == ino) = false) := by show _ = _; rw [hb, hb2]; rfl
     go_wp2
     exact ⟨⟨i + 1, by omega, by go_num, by first | rfl | trivial, m, rfl, by show _ = _; rw [HE.out, HN.out]; simp⟩, by simp [intOf]; omega⟩
    ·have HN : Hid ((x.kind == 1 && x.ino == ino) = true) := by show _ = _; rw [hb, hb2]; rfl
     go_wp2
     exact ⟨⟨i + 1, by omega, by go_num, by first | rfl | trivial, m + 1, by go_num, by show _ = _; rw [HE.out, HN.out]; simp⟩, by simp [intOf]; omega⟩
  ·have i1 : ¬ (i : Int) < nf := by omega
   have HT : Hid (m = nFl L.files ino) := by
    have h1 := HB.out
    rw [List.take_of_length_le (by have := HF.out.2; omega)] at h1
    exact h1
   go_wp2
   go_loopw [5, 7] (fun v k wq => ∃ j : Nat, j ≤ np ∧ k = .int .i64 j ∧ wq = wr ∧ ∃ q : Nat, v = .int .i64 q ∧ Hid (q = m + nPc (L.procs.take j) ino)) (fun _ v _ => (np - intOf v).toNat)
   case atStart => exact ⟨0, by omega, rfl, rfl, m, rfl, by show _ = _; simp [nPc]⟩
   case round =>
    obtain ⟨j, hj, rfl, rfl, q, rfl, HC⟩ := hrel
    by_cases hjn : j < np
    ·have j1 : (j : Int) < np := by omega
     have bq : q ≤ 33554432 := by
      have h1 := nPc_le (L.procs.take j) ino
      rw [List.length_take] at h1
      have := HC.out
      omega
     obtain ⟨-, b, o, x, cs, rfl, hbX, hx, ⟨nv, gv, rfl, hN, hG⟩, hcl, hr⟩ := HP.out.1.at hjn
     have hr' := range_keep hr HB1.out (by have := HP.out.2.2; omega)
     have a2 := hr' 2 _ rfl
     have a62 := hr' 62 _ rfl
     have HE : Hid (m + nPc (L.procs.take (j + 1)) ino = q + (if x.c 2 != 3 && x.c 62 == ino then 1 else 0)) := by
      show _ = _
      rw [List.take_add_one, hx, HC.out]
      show m + nPc (L.procs.take j ++ [x]) ino = _
      rw [nPc_app]
      omega
     clear hr hr' hcl hbX hx hN hG HC
     have hw : IntKind.i64.wrap ((q : Int) + 1) = (q : Int) + 1 := by rw [IntKind.wrap_i64]; omega
     cases hb : (x.c 2 != 3)
     ·have HN : Hid ((x.c 2 != 3 && x.c 62 == ino) = false) := by show _ = _; rw [hb]; rfl
      go_wp2
      exact ⟨⟨j + 1, by omega, by go_num, by first | rfl | trivial, q, rfl, by show _ = _; rw [HE.out, HN.out]; simp⟩, by simp [intOf]; omega⟩
     ·cases hb2 : (x.c 62 == ino)
      ·have HN : Hid ((x.c 2 != 3 && x.c 62 == ino) = false) := by show _ = _; rw [hb, hb2]; rfl
       go_wp2
       exact ⟨⟨j + 1, by omega, by go_num, by first | rfl | trivial, q, rfl, by show _ = _; rw [HE.out, HN.out]; simp⟩, by simp [intOf]; omega⟩
      ·have HN : Hid ((x.c 2 != 3 && x.c 62 == ino) = true) := by show _ = _; rw [hb, hb2]; rfl
       go_wp2
       exact ⟨⟨j + 1, by omega, by go_num, by first | rfl | trivial, q + 1, by go_num, by show _ = _; rw [HE.out, HN.out]; simp⟩, by simp [intOf]; omega⟩
    ·have j1 : ¬ (j : Int) < np := by omega
     have HQ : Hid (q = nFl L.files ino + nPc L.procs ino) := by
      have h1 := HC.out
      rw [List.take_of_length_le (by have := HP.out.2.1; omega), HT.out] at h1
      exact h1
     go_wp2
     go_ret
     exact ⟨by rw [show ((nFl L.files ino : Int) + (nPc L.procs ino : Int)) = (q : Int) by have := HQ.out; omega]; rfl, HB1.out⟩
end Go.Proofs.Ythopgmmodldljab
