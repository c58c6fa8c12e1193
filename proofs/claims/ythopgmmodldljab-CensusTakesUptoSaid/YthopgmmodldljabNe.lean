import Derived.Test.YthopgmmodldljabNb
import Derived.Test.YthopgmmodldljabEp
namespace Go.Proofs.Ythopgmmodldljab
open Go Go.RowKit
set_option linter.unusedVariables false
set_option linter.unusedSimpArgs false
/-! The document's pipeNo. -/
set_option maxRecDepth 100000 in
set_option maxHeartbeats 8000000 in
theorem pipeNo_any {w : World} {X : Nat} {pv fv iv qv rv lv : Value} {L : Lk} (h : LkW w X pv fv iv qv rv lv L) (hX : X ≤ w.heap.size) (hR : LkR L) (i : Nat) (x : Pp) (hx : L.pipes[i]? = some x) : Calls Try.prog 38 #[.agg (lkL L.tramp pv fv iv qv rv lv L.ticks L.next L.free).toArray, .int .i64 i] w fun e w' => e = .returned (.bool (!okQ L (nfA L) i x)) ∧ Below w.heap.size w w' := by
 obtain ⟨pp, pc, rfl⟩ := h.qs.form
 obtain ⟨fp, fc, rfl⟩ := h.fs.form
 have hin : i < L.pipes.length := (List.getElem?_eq_some_iff.1 hx).1
 obtain ⟨n, hn⟩ : ∃ n, n = L.pipes.length := ⟨_, rfl⟩
 obtain ⟨nf, hnf⟩ : ∃ n, n = L.files.length := ⟨_, rfl⟩
 have bn : n ≤ 1048576 := by have := hR.ql; omega
 have bf : nf ≤ 1048576 := by have := hR.fl; omega
 rw [← hn, ← hnf] at h
 rw [← hn] at hin ⊢
 rw [← hnf]
 have HH : Hid (∀ V, Below w.heap.size w V → Qs V X (.slice pp n pc) L.pipes ∧ Fs V X (.slice fp nf fc) L.files) := fun V hV => ⟨(h.keep (Nat.le_refl _) (hV.mono hX)).qs, (h.keep (Nat.le_refl _) (hV.mono hX)).fs⟩
 have HNF : Hid (nf = L.files.length) := hnf
 obtain ⟨-, b, o, y, cs, hpe, hbX, hy, ⟨bv2, rfl, hN2⟩, hcl, hr⟩ := h.qs.at hin
 obtain rfl : x = y := by rw [hx] at hy; injection hy
 subst hpe
 have i1 : (i : Int) < n := by omega
 have HX1 : Hid (∀ u ∈ x.l bv2, u.oneCell' = true) := ppl_one x hN2.one
 obtain ⟨lc, hlc⟩ : ∃ lc, lc = lkL L.tramp pv (.slice fp nf fc) iv (.slice (some ⟨b, o, .none⟩) n pc) rv lv L.ticks L.next L.free := ⟨_, rfl⟩
 rw [← hlc]
 have HL : Hid (lc[4]? = some (.slice (some ⟨b, o, .none⟩) n pc) ∧ lc[2]? = some (.slice fp nf fc) ∧ lc.length = 10) := by rw [hlc]; exact ⟨rfl, rfl, rfl⟩
 obtain ⟨nb, hnb⟩ : ∃ nb, nb = numB (fun f : Pp => f.num) L.pipes i 0 31 := ⟨_, rfl⟩
 obtain ⟨num, hnum⟩ : ∃ num, num = x.num := ⟨_, rfl⟩
 have HNB : Hid (nb = (decide (0 ≤ num) && (decide (num ≤ 31) && (decide (i = 0) || ltO ((L.pipes[i - 1]?).map fun p : Pp => p.num) num)))) := by show _ = _; rw [hnb]; exact numB_of _ hx hnum 0 31
 obtain ⟨rd, hrd⟩ : ∃ st, st = x.rd := ⟨_, rfl⟩
 obtain ⟨wt, hwt⟩ : ∃ st, st = x.wr := ⟨_, rfl⟩
 obtain ⟨n6, hn6⟩ : ∃ q, q = (L.files.any fun y => y.pipe == num && y.kind == 2) := ⟨_, rfl⟩
 obtain ⟨n7, hn7⟩ : ∃ q, q = (L.files.any fun y => y.pipe == num && y.kind == 3) := ⟨_, rfl⟩
 have HQ : Hid (okQ L (nfA L) i x = (nb && ((rd == n6) && ((wt == n7) && (rd || wt))))) := by
  show _ = _
  rw [hn6, hn7, hrd, hwt, hnb, ← nf_pos L 6 num 2 (.inl ⟨rfl, rfl⟩), ← nf_pos L 7 num 3 (.inr ⟨rfl, rfl⟩), hnum]
  rfl
 have HN6 : Hid (n6 = (L.files.any fun y => y.pipe == num && y.kind == 2) ∧ n7 = (L.files.any fun y => y.pipe == num && y.kind == 3)) := ⟨hn6, hn7⟩
 have HXX : Hid (X ≤ w.heap.size) := hX
 clear hX h hx hy hcl hlc hn hN2 hR hnb hn6 hn7 hnf
 go_enter Try.func38, Try.ntmps38
 go_upto_region 2 with (first
  | (refine wpList_is (.box 31 (.tmp 0)) rfl ?_; refine wpList_boxG 31 lc 2 (.tmp 0) _ rfl rfl rfl rfl ?_; intro W1 hW1 hB1 hs1; have d1 := cell_heap (o := 4) hW1; rw [List.getElem?_toArray, HL.out.1] at d1; have r1 := range_keep hr hB1 (by have := HXX.out; omega))
  | (refine wpList_is (.load 72 (.tmp 12)) rfl ?_; refine wpList_loadG 72 6 48 info98 _ Try.underlying72 rfl (x.l bv2) rfl b (o + i * 6) (.tmp 12) rfl rfl rfl r1 (some 13) rfl ?_)
  | (refine wpList_is (.alloc 72) rfl ?_; refine wpList_laidG 72 6 48 info98 (x.l bv2) rfl HX1.out 5 (.tmp 13) _ _ rfl rfl rfl rfl rfl rfl rfl rfl ?_; intro W2 hW2 hB2 hs2)
  | fail)
 obtain ⟨g, hg⟩ : ∃ g, g = W1.heap.size := ⟨_, rfl⟩
 rw [← hg] at hW2
 have HB2 : Hid (Below w.heap.size w W2) := hB1.trans (hB2.mono (by omega))
 have hgl : g < W2.heap.size := by omega
 have hzg : w.heap.size < W2.heap.size := by omega
 have HW2 : Hid (∀ V, Below W2.heap.size W2 V → V.heap[w.heap.size]? = some (.cells lc.toArray 31) ∧ V.heap[g]? = some (.cells (x.l bv2).toArray 72)) := fun V hV => ⟨(hV.block _ hzg).trans ((hB2.block _ (by omega)).trans hW1), (hV.block _ hgl).trans hW2⟩
 have kl : W2.cell? ⟨w.heap.size, 4, .none⟩ = some (.slice (some ⟨b, o, .none⟩) n pc) := by have := cell_heap (o := 4) (HW2.out _ (Below.refl _ _)).1; rw [List.getElem?_toArray, HL.out.1] at this; exact this
 have k0 : W2.cell? ⟨g, 0, .none⟩ = some (.int .i64 num) := by rw [hnum]; exact cell_heap (o := 0) (HW2.out _ (Below.refl _ _)).2
 have HPR : Hid (i ≠ 0 → ∃ pr, ((L.pipes[i - 1]?).map fun p : Pp => p.num) = some pr ∧ W2.cell? ⟨b, o + (i - 1) * 6, .none⟩ = some (.int .i64 pr)) := fun hi => prev_at (fun p : Pp => p.num) (by rintro x cs ⟨bv, rfl, _⟩; rfl) (HH.out _ HB2.out).1 rfl hi hin
 clear d1 r1 hr hW1 hW2 hB1 hB2
 try rw [← hg]
 have HV : Hid (num = x.num ∧ rd = x.rd ∧ wt = x.wr) := ⟨hnum, hrd, hwt⟩
 clear hg hs1 hs2 hgl hzg hnum hrd hwt hbX
 simp only [x0,x1,x2,x3]
 go_cut [37] (fun s wc => s = .bool (!nb) ∧ Hid (Below W2.heap.size W2 wc))
 case first => as_aux_lemma =>
  by_cases g1 : num < 0
  ·obtain rfl : nb = false := by rw [HNB.out, decide_eq_false (by omega)]; rfl
   refine wp_region_held_drew (S := (fun V => V.cell? ⟨w.heap.size, 4, .none⟩ = some (.slice (some ⟨b, o, .none⟩) n pc) ∧ V.cell? ⟨g, 0, .none⟩ = some (.int .i64 num))) (by kernel_rfl) ⟨kl, k0⟩ (fun hHeld => ?_)
   refine hT 0 14 (.pointer (some ⟨g, 0, .none⟩)) ?_
   simp only [x0,x1,x2,x3]
   refine hT 1 15 (.int .i64 num) ?_
   simp only [x0,x1,x2,x3]
   refine hT 2 16 (.bool true) ?_
   simp only [x0,x1,x2,x3]
   refine hT 3 17 (.bool true) ?_
   simp only [x0,x1,x2,x3]
   refine hU 4 18 ?_
   simp only [x0,x1,x2,x3]
   refine hU 5 19 ?_
   simp only [x0,x1,x2,x3]
   refine hU 6 20 ?_
   simp only [x0,x1,x2,x3]
   refine hT 7 21 (.bool true) ?_
   simp only [x0,x1,x2,x3]
   refine hT 8 22 (.bool true) ?_
   simp only [x0,x1,x2,x3]
   refine hU 9 23 ?_
   simp only [x0,x1,x2,x3]
   refine hU 10 24 ?_
   simp only [x0,x1,x2,x3]
   refine hU 11 25 ?_
   simp only [x0,x1,x2,x3]
   refine hU 12 26 ?_
   simp only [x0,x1,x2,x3]
   refine hU 13 27 ?_
   simp only [x0,x1,x2,x3]
   refine hU 14 28 ?_
   simp only [x0,x1,x2,x3]
   refine hU 15 29 ?_
   simp only [x0,x1,x2,x3]
   refine hU 16 30 ?_
   simp only [x0,x1,x2,x3]
   refine hU 17 31 ?_
   simp only [x0,x1,x2,x3]
   refine hU 18 32 ?_
   simp only [x0,x1,x2,x3]
   refine hU 19 33 ?_
   simp only [x0,x1,x2,x3]
   refine hU 20 34 ?_
   simp only [x0,x1,x2,x3]
   refine hU 21 35 ?_
   simp only [x0,x1,x2,x3]
   refine hU 22 36 ?_
   simp only [x0,x1,x2,x3]
   refine hT 23 37 (.bool true) ?_
   simp only [x0,x1,x2,x3]
   refine wpAnyH_done (by kernel_rfl) ?_ _
   go_wp2_with fail
   go_meet
   exact ⟨rfl, (Below.refl _ _).drew⟩
  by_cases g2 : 32 ≤ num
  ·obtain rfl : nb = false := by rw [HNB.out, decide_eq_false (show ¬ num ≤ 31 by omega)]; simp
   refine wp_region_held_drew (S := (fun V => V.cell? ⟨w.heap.size, 4, .none⟩ = some (.slice (some ⟨b, o, .none⟩) n pc) ∧ V.cell? ⟨g, 0, .none⟩ = some (.int .i64 num))) (by kernel_rfl) ⟨kl, k0⟩ (fun hHeld => ?_)
   refine hT 0 14 (.pointer (some ⟨g, 0, .none⟩)) ?_
   simp only [x0,x1,x2,x3]
   refine hT 1 15 (.int .i64 num) ?_
   simp only [x0,x1,x2,x3]
   refine hT 2 16 (.bool false) ?_
   simp only [x0,x1,x2,x3]
   refine hT 3 17 (.bool false) ?_
   simp only [x0,x1,x2,x3]
   refine hT 4 18 (.pointer (some ⟨g, 0, .none⟩)) ?_
   simp only [x0,x1,x2,x3]
   refine hT 5 19 (.int .i64 num) ?_
   simp only [x0,x1,x2,x3]
   refine hT 6 20 (.bool true) ?_
   simp only [x0,x1,x2,x3]
   refine hT 7 21 (.bool true) ?_
   simp only [x0,x1,x2,x3]
   refine hT 8 22 (.bool true) ?_
   simp only [x0,x1,x2,x3]
   refine hU 9 23 ?_
   simp only [x0,x1,x2,x3]
   refine hU 10 24 ?_
   simp only [x0,x1,x2,x3]
   refine hU 11 25 ?_
   simp only [x0,x1,x2,x3]
   refine hU 12 26 ?_
   simp only [x0,x1,x2,x3]
   refine hU 13 27 ?_
   simp only [x0,x1,x2,x3]
   refine hU 14 28 ?_
   simp only [x0,x1,x2,x3]
   refine hU 15 29 ?_
   simp only [x0,x1,x2,x3]
   refine hU 16 30 ?_
   simp only [x0,x1,x2,x3]
   refine hU 17 31 ?_
   simp only [x0,x1,x2,x3]
   refine hU 18 32 ?_
   simp only [x0,x1,x2,x3]
   refine hU 19 33 ?_
   simp only [x0,x1,x2,x3]
   refine hU 20 34 ?_
   simp only [x0,x1,x2,x3]
   refine hU 21 35 ?_
   simp only [x0,x1,x2,x3]
   refine hU 22 36 ?_
   simp only [x0,x1,x2,x3]
   refine hT 23 37 (.bool true) ?_
   simp only [x0,x1,x2,x3]
   refine wpAnyH_done (by kernel_rfl) ?_ _
   go_wp2_with fail
   go_meet
   exact ⟨rfl, (Below.refl _ _).drew⟩
  by_cases g3 : i = 0
  ·obtain rfl : nb = true := by rw [HNB.out, decide_eq_true (show 0 ≤ num by omega), decide_eq_true (show num ≤ 31 by omega), decide_eq_true g3]; rfl
   have g4 : ¬ (0 : Int) < i := by omega
   have HG3 : Hid (i = 0) := g3
   clear g3
   refine wp_region_held_drew (S := (fun V => V.cell? ⟨w.heap.size, 4, .none⟩ = some (.slice (some ⟨b, o, .none⟩) n pc) ∧ V.cell? ⟨g, 0, .none⟩ = some (.int .i64 num))) (by kernel_rfl) ⟨kl, k0⟩ (fun hHeld => ?_)
   refine hT 0 14 (.pointer (some ⟨g, 0, .none⟩)) ?_ (hy := fun _ _ => by go_simp <;> exact HG3.out)
   simp only [x0,x1,x2,x3]
   refine hT 1 15 (.int .i64 num) ?_ (hy := fun ww hSw => by go_simp <;> exact HG3.out)
   simp only [x0,x1,x2,x3]
   refine hT 2 16 (.bool false) ?_ (hy := fun _ _ => by go_simp <;> exact HG3.out)
   simp only [x0,x1,x2,x3]
   refine hT 3 17 (.bool false) ?_ (hy := fun _ _ => by go_simp <;> exact HG3.out)
   simp only [x0,x1,x2,x3]
   refine hT 4 18 (.pointer (some ⟨g, 0, .none⟩)) ?_ (hy := fun _ _ => by go_simp <;> exact HG3.out)
   simp only [x0,x1,x2,x3]
   refine hT 5 19 (.int .i64 num) ?_ (hy := fun ww hSw => by go_simp <;> exact HG3.out)
   simp only [x0,x1,x2,x3]
   refine hT 6 20 (.bool false) ?_ (hy := fun _ _ => by go_simp <;> exact HG3.out)
   simp only [x0,x1,x2,x3]
   refine hT 7 21 (.bool false) ?_ (hy := fun _ _ => by go_simp <;> exact HG3.out)
   simp only [x0,x1,x2,x3]
   refine hT 8 22 (.bool false) ?_ (hy := fun _ _ => by go_simp <;> exact HG3.out)
   simp only [x0,x1,x2,x3]
   refine hT 9 23 (.int .i64 i) ?_ (hy := fun _ _ => by go_simp <;> exact HG3.out)
   simp only [x0,x1,x2,x3]
   refine hT 10 24 (.bool false) ?_ (hy := fun _ _ => by go_simp <;> exact HG3.out)
   simp only [x0,x1,x2,x3]
   refine hT 11 25 (.bool false) ?_ (hy := fun _ _ => by go_simp <;> exact HG3.out)
   simp only [x0,x1,x2,x3]
   refine hU 12 26 ?_
   simp only [x0,x1,x2,x3]
   refine hU 13 27 ?_
   simp only [x0,x1,x2,x3]
   refine hU 14 28 ?_
   simp only [x0,x1,x2,x3]
   refine hU 15 29 ?_
   simp only [x0,x1,x2,x3]
   refine hU 16 30 ?_
   simp only [x0,x1,x2,x3]
   refine hU 17 31 ?_
   simp only [x0,x1,x2,x3]
   refine hU 18 32 ?_
   simp only [x0,x1,x2,x3]
   refine hU 19 33 ?_
   simp only [x0,x1,x2,x3]
   refine hU 20 34 ?_
   simp only [x0,x1,x2,x3]
   refine hU 21 35 ?_
   simp only [x0,x1,x2,x3]
   refine hT 22 36 (.bool false) ?_ (hy := fun _ _ => by go_simp <;> exact HG3.out)
   simp only [x0,x1,x2,x3]
   refine hT 23 37 (.bool false) ?_ (hy := fun _ _ => by go_simp <;> exact HG3.out)
   simp only [x0,x1,x2,x3]
   refine wpAnyH_done (by kernel_rfl) ?_ _
   go_wp2_with fail
   go_meet
   exact ⟨rfl, (Below.refl _ _).drew⟩
  obtain ⟨pr, hpr, hpc⟩ := HPR.out g3
  have HPP : Hid (nb = decide (pr < num)) := by show _ = _; rw [HNB.out, hpr, decide_eq_true (show 0 ≤ num by omega), decide_eq_true (show num ≤ 31 by omega), decide_eq_false g3]; rfl
  obtain ⟨j, rfl⟩ : ∃ j, i = j + 1 := ⟨i - 1, by omega⟩
  rw [Nat.add_sub_cancel] at hpc
  clear HNB HQ HPR hpr g3
  have g4 : (0 : Int) < ((j + 1 : Nat) : Int) := by omega
  have g6 : IntKind.i64.wrap (j : Int) = j := by rw [IntKind.wrap_i64]; omega
  have g7 : ¬ n ≤ j := by omega
  by_cases g5 : num ≤ pr
  ·obtain rfl : nb = false := by rw [HPP.out, decide_eq_false (by omega)]
   refine wp_region_held_drew (S := (fun V => V.cell? ⟨w.heap.size, 4, .none⟩ = some (.slice (some ⟨b, o, .none⟩) n pc) ∧ V.cell? ⟨g, 0, .none⟩ = some (.int .i64 num) ∧ V.cell? ⟨b, o + j * 6, .none⟩ = some (.int .i64 pr))) (by kernel_rfl) ⟨kl, k0, hpc⟩ (fun hHeld => ?_)
   refine hT 0 14 (.pointer (some ⟨g, 0, .none⟩)) ?_
   simp only [x0,x1,x2,x3]
   refine hT 1 15 (.int .i64 num) ?_
   simp only [x0,x1,x2,x3]
   refine hT 2 16 (.bool false) ?_
   simp only [x0,x1,x2,x3]
   refine hT 3 17 (.bool false) ?_
   simp only [x0,x1,x2,x3]
   refine hT 4 18 (.pointer (some ⟨g, 0, .none⟩)) ?_
   simp only [x0,x1,x2,x3]
   refine hT 5 19 (.int .i64 num) ?_
   simp only [x0,x1,x2,x3]
   refine hT 6 20 (.bool false) ?_
   simp only [x0,x1,x2,x3]
   refine hT 7 21 (.bool false) ?_
   simp only [x0,x1,x2,x3]
   refine hT 8 22 (.bool false) ?_
   simp only [x0,x1,x2,x3]
   refine hT 9 23 (.int .i64 ((j + 1 : Nat) : Int)) ?_
   simp only [x0,x1,x2,x3]
   refine hT 10 24 (.bool true) ?_
   simp only [x0,x1,x2,x3]
   refine hT 11 25 (.bool true) ?_
   simp only [x0,x1,x2,x3]
   refine hT 12 26 (.pointer (some ⟨g, 0, .none⟩)) ?_
   simp only [x0,x1,x2,x3]
   refine hT 13 27 (.int .i64 num) ?_
   simp only [x0,x1,x2,x3]
   refine hT 14 28 (.pointer (some ⟨w.heap.size, 4, .none⟩)) ?_
   simp only [x0,x1,x2,x3]
   refine hT 15 29 (.slice (some ⟨b, o, .none⟩) n pc) ?_
   simp only [x0,x1,x2,x3]
   refine hT 16 30 (.int .i64 ((j + 1 : Nat) : Int)) ?_
   simp only [x0,x1,x2,x3]
   refine hT 17 31 (.int .i64 j) ?_
   simp only [x0,x1,x2,x3]
   refine hT 18 32 (.pointer (some ⟨b, o + j * 6, .none⟩)) ?_
   simp only [x0,x1,x2,x3]
   refine hT 19 33 (.pointer (some ⟨b, o + j * 6, .none⟩)) ?_
   simp only [x0,x1,x2,x3]
   refine hT 20 34 (.int .i64 pr) ?_
   simp only [x0,x1,x2,x3]
   refine hT 21 35 (.bool true) ?_
   simp only [x0,x1,x2,x3]
   refine hT 22 36 (.bool true) ?_
   simp only [x0,x1,x2,x3]
   refine hT 23 37 (.bool true) ?_
   simp only [x0,x1,x2,x3]
   refine wpAnyH_done (by kernel_rfl) ?_ _
   go_wp2_with fail
   go_meet
   exact ⟨rfl, (Below.refl _ _).drew⟩
  ·obtain rfl : nb = true := by rw [HPP.out, decide_eq_true (by omega)]
   refine wp_region_held_drew (S := (fun V => V.cell? ⟨w.heap.size, 4, .none⟩ = some (.slice (some ⟨b, o, .none⟩) n pc) ∧ V.cell? ⟨g, 0, .none⟩ = some (.int .i64 num) ∧ V.cell? ⟨b, o + j * 6, .none⟩ = some (.int .i64 pr))) (by kernel_rfl) ⟨kl, k0, hpc⟩ (fun hHeld => ?_)
   refine hT 0 14 (.pointer (some ⟨g, 0, .none⟩)) ?_
   simp only [x0,x1,x2,x3]
   refine hT 1 15 (.int .i64 num) ?_
   simp only [x0,x1,x2,x3]
   refine hT 2 16 (.bool false) ?_
   simp only [x0,x1,x2,x3]
   refine hT 3 17 (.bool false) ?_
   simp only [x0,x1,x2,x3]
   refine hT 4 18 (.pointer (some ⟨g, 0, .none⟩)) ?_
   simp only [x0,x1,x2,x3]
   refine hT 5 19 (.int .i64 num) ?_
   simp only [x0,x1,x2,x3]
   refine hT 6 20 (.bool false) ?_
   simp only [x0,x1,x2,x3]
   refine hT 7 21 (.bool false) ?_
   simp only [x0,x1,x2,x3]
   refine hT 8 22 (.bool false) ?_
   simp only [x0,x1,x2,x3]
   refine hT 9 23 (.int .i64 ((j + 1 : Nat) : Int)) ?_
   simp only [x0,x1,x2,x3]
   refine hT 10 24 (.bool true) ?_
   simp only [x0,x1,x2,x3]
   refine hT 11 25 (.bool true) ?_
   simp only [x0,x1,x2,x3]
   refine hT 12 26 (.pointer (some ⟨g, 0, .none⟩)) ?_
   simp only [x0,x1,x2,x3]
   refine hT 13 27 (.int .i64 num) ?_
   simp only [x0,x1,x2,x3]
   refine hT 14 28 (.pointer (some ⟨w.heap.size, 4, .none⟩)) ?_
   simp only [x0,x1,x2,x3]
   refine hT 15 29 (.slice (some ⟨b, o, .none⟩) n pc) ?_
   simp only [x0,x1,x2,x3]
   refine hT 16 30 (.int .i64 ((j + 1 : Nat) : Int)) ?_
   simp only [x0,x1,x2,x3]
   refine hT 17 31 (.int .i64 j) ?_
   simp only [x0,x1,x2,x3]
   refine hT 18 32 (.pointer (some ⟨b, o + j * 6, .none⟩)) ?_
   simp only [x0,x1,x2,x3]
   refine hT 19 33 (.pointer (some ⟨b, o + j * 6, .none⟩)) ?_
   simp only [x0,x1,x2,x3]
   refine hT 20 34 (.int .i64 pr) ?_
   simp only [x0,x1,x2,x3]
   refine hT 21 35 (.bool false) ?_
   simp only [x0,x1,x2,x3]
   refine hT 22 36 (.bool false) ?_
   simp only [x0,x1,x2,x3]
   refine hT 23 37 (.bool false) ?_
   simp only [x0,x1,x2,x3]
   refine wpAnyH_done (by kernel_rfl) ?_ _
   go_wp2_with fail
   go_meet
   exact ⟨rfl, (Below.refl _ _).drew⟩
 case rest =>
  obtain ⟨rfl, HC⟩ := hcut
  have HBC : Hid (Below w.heap.size w wc) := HB2.out.trans (HC.out.mono HB2.out.size)
  have hw0 := HW2.out _ HC.out
  have kl : wc.cell? ⟨w.heap.size, 2, .none⟩ = some (.slice fp nf fc) := by have := cell_heap (o := 2) hw0.1; rw [List.getElem?_toArray, HL.out.2.1] at this; exact this
  obtain ⟨kp, k4, k5⟩ : wc.cell? ⟨g, 0, .none⟩ = some (.int .i64 num) ∧ wc.cell? ⟨g, 4, .none⟩ = some (.bool rd) ∧ wc.cell? ⟨g, 5, .none⟩ = some (.bool wt) := by
   rw [HV.out.1, HV.out.2.1, HV.out.2.2]
   exact ⟨cell_heap (o := 0) hw0.2, cell_heap (o := 4) hw0.2, cell_heap (o := 5) hw0.2⟩
  clear k0 HPR HNB HC HW2 HB2 hw0
  cases nb
  ·have HF : Hid (okQ L (nfA L) i x = false) := by show _ = _; rw [HQ.out]; rfl
   go_wp2
   go_ret
   exact ⟨by rw [HF.out]; rfl, HBC.out⟩
  go_wp2
  go_loopw [6, 7, 8] (fun v6 v7 v wr => ∃ k : Nat, k ≤ nf ∧ v = .int .i64 k ∧ (∃ q, wr = wc.drewN q) ∧ ∃ r6 r7 : Bool, v6 = .bool r6 ∧ v7 = .bool r7 ∧ Hid (r6 = ((L.files.take k).any fun y => y.pipe == num && y.kind == 2) ∧ r7 = ((L.files.take k).any fun y => y.pipe == num && y.kind == 3))) (fun _ _ v _ => (nf - intOf v).toNat)
  case atStart => exact ⟨0, by omega, rfl, ⟨0, rfl⟩, false, false, rfl, rfl, by constructor <;> simp⟩
  case round =>
   obtain ⟨k, hk, rfl, ⟨q, rfl⟩, r6, r7, rfl, rfl, HB⟩ := hrel
   by_cases hki : k < nf
   ·as_aux_lemma =>
     have i3 : (k : Int) < nf := by omega
     obtain ⟨-, b3, o3, y, cs, rfl, hbX, hy, rfl, hcl, hr⟩ := (HH.out wc HBC.out).2.at hki
     have a7 := hr 7 _ rfl
     have a1 := hr 1 _ rfl
     obtain ⟨c0, hc0⟩ : ∃ c, (y.pipe == num) = c := ⟨_, rfl⟩
     obtain ⟨c2, hc2⟩ : ∃ c, (y.kind == 2) = c := ⟨_, rfl⟩
     obtain ⟨c3, hc3⟩ : ∃ c, (y.kind == 3) = c := ⟨_, rfl⟩
     have HE6 : Hid (((L.files.take (k + 1)).any fun y => y.pipe == num && y.kind == 2) = (r6 || (c0 && c2))) := by
      show _ = _
      rw [List.take_add_one, hy, List.any_append, ← HB.out.1, ← hc0, ← hc2]
      simp
     have HE7 : Hid (((L.files.take (k + 1)).any fun y => y.pipe == num && y.kind == 3) = (r7 || (c0 && c3))) := by
      show _ = _
      rw [List.take_add_one, hy, List.any_append, ← HB.out.2, ← hc0, ← hc3]
      simp
     clear hr hcl hbX hy HB
     cases c0
     ·go_upto_region 9 with fail
      refine wp_region_held_drew (S := (fun V => V.cell? ⟨w.heap.size, 2, .none⟩ = some (.slice (some ⟨b3, o3, .none⟩) nf fc) ∧ V.cell? ⟨g, 0, .none⟩ = some (.int .i64 num) ∧ V.cell? ⟨b3, o3 + k * 8 + 7, .none⟩ = some (.int .i64 y.pipe))) (by kernel_rfl) ⟨kl, kp, a7⟩ (fun hHeld => ?_)
      refine hT 0 45 (.pointer (some ⟨w.heap.size, 2, .none⟩)) ?_
      simp only [x0,x1,x2,x3]
      refine hT 1 46 (.slice (some ⟨b3, o3, .none⟩) nf fc) ?_
      simp only [x0,x1,x2,x3]
      refine hT 2 47 (.int .i64 k) ?_
      simp only [x0,x1,x2,x3]
      refine hT 3 48 (.pointer (some ⟨b3, o3 + k * 8, .none⟩)) ?_
      simp only [x0,x1,x2,x3]
      refine hT 4 49 (.pointer (some ⟨b3, o3 + k * 8 + 7, .none⟩)) ?_
      simp only [x0,x1,x2,x3]
      refine hT 5 50 (.int .i64 y.pipe) ?_
      simp only [x0,x1,x2,x3]
      refine hT 6 51 (.pointer (some ⟨g, 0, .none⟩)) ?_
      simp only [x0,x1,x2,x3]
      refine hT 7 52 (.int .i64 num) ?_
      simp only [x0,x1,x2,x3]
      refine hT 8 53 (.bool false) ?_
      simp only [x0,x1,x2,x3]
      refine wpAnyH_done (by kernel_rfl) ?_ _
      go_wp2
      exact ⟨⟨k + 1, by omega, by go_num, ⟨q + 1, rfl⟩, r6, r7, rfl, rfl, by rw [HE6.out]; simp, by rw [HE7.out]; simp⟩, by simp [intOf]; omega⟩
     ·go_upto_region 9 with fail
      refine wp_region_held_drew (S := (fun V => V.cell? ⟨w.heap.size, 2, .none⟩ = some (.slice (some ⟨b3, o3, .none⟩) nf fc) ∧ V.cell? ⟨g, 0, .none⟩ = some (.int .i64 num) ∧ V.cell? ⟨b3, o3 + k * 8 + 7, .none⟩ = some (.int .i64 y.pipe))) (by kernel_rfl) ⟨kl, kp, a7⟩ (fun hHeld => ?_)
      refine hT 0 45 (.pointer (some ⟨w.heap.size, 2, .none⟩)) ?_
      simp only [x0,x1,x2,x3]
      refine hT 1 46 (.slice (some ⟨b3, o3, .none⟩) nf fc) ?_
      simp only [x0,x1,x2,x3]
      refine hT 2 47 (.int .i64 k) ?_
      simp only [x0,x1,x2,x3]
      refine hT 3 48 (.pointer (some ⟨b3, o3 + k * 8, .none⟩)) ?_
      simp only [x0,x1,x2,x3]
      refine hT 4 49 (.pointer (some ⟨b3, o3 + k * 8 + 7, .none⟩)) ?_
      simp only [x0,x1,x2,x3]
      refine hT 5 50 (.int .i64 y.pipe) ?_
      simp only [x0,x1,x2,x3]
      refine hT 6 51 (.pointer (some ⟨g, 0, .none⟩)) ?_
      simp only [x0,x1,x2,x3]
      refine hT 7 52 (.int .i64 num) ?_
      simp only [x0,x1,x2,x3]
      refine hT 8 53 (.bool true) ?_
      simp only [x0,x1,x2,x3]
      refine wpAnyH_done (by kernel_rfl) ?_ _
      cases r6 <;> cases r7 <;> cases c2 <;> cases c3 <;> (go_wp2; exact ⟨⟨k + 1, by omega, by go_num, ⟨q + 1, rfl⟩, _, _, rfl, rfl, HE6.out.symm, HE7.out.symm⟩, by simp [intOf]; omega⟩)
   ·as_aux_lemma =>
     have i2 : ¬ (k : Int) < nf := by omega
     obtain ⟨rfl, rfl⟩ : r6 = n6 ∧ r7 = n7 := by
      have h1 := HB.out
      rw [List.take_of_length_le (by have := HNF.out; omega)] at h1
      rw [HN6.out.1, HN6.out.2]
      exact h1
     cases rd <;> cases wt <;> cases r6 <;> cases r7 <;> (go_wp2; go_ret; exact ⟨by rw [HQ.out]; rfl, HBC.out.trans ((Go.Proofs.below_drewN _ _).mono HBC.out.size)⟩)
end Go.Proofs.Ythopgmmodldljab
