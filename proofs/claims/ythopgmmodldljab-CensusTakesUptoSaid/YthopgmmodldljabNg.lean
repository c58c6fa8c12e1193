import Derived.Test.YthopgmmodldljabNb
import Derived.Test.YthopgmmodldljabEv
namespace Go.Proofs.Ythopgmmodldljab
open Go Go.RowKit
set_option linter.unusedVariables false
set_option linter.unusedSimpArgs false
/-! The document's fileNo. -/
set_option maxRecDepth 100000 in
set_option maxHeartbeats 8000000 in
theorem fileNo_any {w : World} {X : Nat} {pv fv iv qv rv lv : Value} {L : Lk} (h : LkW w X pv fv iv qv rv lv L) (hX : X ≤ w.heap.size) (hR : LkR L) {fv1 cv fv3 : Value} (r : Int × Int) (hc : Sl w w.heap.size 3 (fun x cs => cs = owL x) cv (L.files.map (cfF (nfA L)))) (i : Nat) (x : Fi) (hx : L.files[i]? = some x) : Calls Try.prog 36 #[.agg (cwL fv1 cv fv3 r).toArray, .agg (lkL L.tramp pv fv iv qv rv lv L.ticks L.next L.free).toArray, .int .i64 i] w fun e w' => e = .returned (.bool (!okF L (pfA L) (nfA L) i x)) ∧ Below w.heap.size w w' := by
 obtain ⟨pp, pc, rfl⟩ := h.fs.form
 obtain ⟨cp, cc, rfl⟩ := hc.form
 rw [List.length_map] at hc ⊢
 have hin : i < L.files.length := (List.getElem?_eq_some_iff.1 hx).1
 obtain ⟨n, hn⟩ : ∃ n, n = L.files.length := ⟨_, rfl⟩
 have bn : n ≤ 1048576 := by have := hR.fl; omega
 rw [← hn] at h hin hc ⊢
 have HLK : Hid (∀ V, Below w.heap.size w V → LkW V X pv (.slice pp n pc) iv qv rv lv L ∧ X ≤ V.heap.size) := fun V hV => ⟨h.keep (Nat.le_refl _) (hV.mono hX), Nat.le_trans hX hV.size⟩
 have HRR : Hid (LkR L) := hR
 obtain ⟨-, b, o, y, cs, hpe, hbX, hy, rfl, hcl, hr⟩ := h.fs.at hin
 obtain rfl : x = y := by rw [hx] at hy; injection hy
 subst hpe
 obtain ⟨-, bc, oc, oy, cs2, rfl, hbc, hyc, rfl, hcl2, hrc⟩ := hc.at hin
 obtain rfl : oy = cfF (nfA L) x := by rw [List.getElem?_map, hx] at hyc; injection hyc with hyc; exact hyc.symm
 have i1 : (i : Int) < n := by omega
 have HX1 : Hid (∀ u ∈ x.l, u.oneCell' = true) := List.all_eq_true.1 (show x.l.all (fun u => u.oneCell') = true from rfl)
 obtain ⟨lc, hlc⟩ : ∃ lc, lc = lkL L.tramp pv (.slice (some ⟨b, o, .none⟩) n pc) iv qv rv lv L.ticks L.next L.free := ⟨_, rfl⟩
 rw [← hlc]
 obtain ⟨wc0, hwc0⟩ : ∃ wc0, wc0 = cwL fv1 (.slice (some ⟨bc, oc, .none⟩) n cc) fv3 r := ⟨_, rfl⟩
 rw [← hwc0]
 have HL : Hid (lc[2]? = some (.slice (some ⟨b, o, .none⟩) n pc) ∧ lc.length = 10 ∧ wc0[1]? = some (.slice (some ⟨bc, oc, .none⟩) n cc) ∧ wc0.length = 5) := by rw [hlc, hwc0]; exact ⟨rfl, rfl, rfl, rfl⟩
 have HLE : Hid (lc = lkL L.tramp pv (.slice (some ⟨b, o, .none⟩) n pc) iv qv rv lv L.ticks L.next L.free) := hlc
 obtain ⟨nb, hnb⟩ : ∃ nb, nb = numB (fun f : Fi => f.num) L.files i 0 99 := ⟨_, rfl⟩
 obtain ⟨num, hnum⟩ : ∃ num, num = x.num := ⟨_, rfl⟩
 have HNB : Hid (nb = (decide (0 ≤ num) && (decide (num ≤ 99) && (decide (i = 0) || ltO ((L.files[i - 1]?).map fun p : Fi => p.num) num)))) := by show _ = _; rw [hnb]; exact numB_of _ hx hnum 0 99
 obtain ⟨refs, hrefs⟩ : ∃ v, v = x.refs := ⟨_, rfl⟩
 obtain ⟨kind, hkind⟩ : ∃ v, v = x.kind := ⟨_, rfl⟩
 obtain ⟨ino, hino⟩ : ∃ v, v = x.ino := ⟨_, rfl⟩
 obtain ⟨pi, hpi⟩ : ∃ v, v = x.pipe := ⟨_, rfl⟩
 obtain ⟨nm, hnm⟩ : ∃ v, v = ((nfA L) (2, x.num)).getD 0 := ⟨_, rfl⟩
 obtain ⟨bh, hbh⟩ : ∃ v, v = bhB (pfA L) x := ⟨_, rfl⟩
 have HQ : Hid (okF L (pfA L) (nfA L) i x = (nb && (decide (1 ≤ refs) && ((refs == nm) && bh)))) := by show _ = _; rw [hnb, hrefs, hnm, hbh]; rfl
 have HV : Hid (refs = x.refs ∧ kind = x.kind ∧ ino = x.ino ∧ pi = x.pipe ∧ nm = ((nfA L) (2, x.num)).getD 0) := ⟨hrefs, hkind, hino, hpi, hnm⟩
 have HBH : Hid (bh = if kind = 1 then (L.inos.any fun p => p.ino == ino) else if kind = 2 then (L.pipes.any fun p => p.num == pi) else if kind = 3 then (L.pipes.any fun p => p.num == pi) else false) := by show _ = _; rw [hbh, hkind, hino, hpi, ← pf_ino, ← pf_pipe]; rfl
 have HXX : Hid (X ≤ w.heap.size) := hX
 have HBCC : Hid (bc < w.heap.size) := hbc
 have HRC : Hid (w.rangeAt bc (oc + i * 3) (owL (cfF (nfA L) x))) := hrc
 clear hX h hx hy hcl hlc hn hR hnb hcl2 hbc hrc hyc hwc0 hc hrefs hkind hino hpi hnm hbh
 go_enter Try.func36, Try.ntmps36
 go_upto_region 2 with (first
  | (refine wpList_is (.box 41 (.tmp 0)) rfl ?_; refine wpList_boxG 41 wc0 3 (.tmp 0) _ rfl rfl rfl rfl ?_; intro W0 hW0 hB0 hs0)
  | (refine wpList_is (.box 31 (.tmp 1)) rfl ?_; refine wpList_boxG 31 lc 4 (.tmp 1) _ rfl rfl rfl rfl ?_; intro W1 hW1 hB1 hs1; have d1 := cell_heap (o := 2) hW1; rw [List.getElem?_toArray, HL.out.1] at d1; rw [hs0] at d1; have r1 := range_keep hr (hB0.trans (hB1.mono (by omega))) (by have := HXX.out; omega))
  | (refine wpList_is (.load 67 (.tmp 12)) rfl ?_; refine wpList_loadG 67 8 56 info94 _ Try.underlying67 rfl (x.l) rfl b (o + i * 8) (.tmp 12) rfl rfl rfl r1 (some 13) rfl ?_)
  | (refine wpList_is (.alloc 67) rfl ?_; refine wpList_laidG 67 8 56 info94 (x.l) rfl HX1.out 7 (.tmp 13) _ _ rfl rfl rfl rfl rfl rfl rfl rfl ?_; intro W2 hW2 hB2 hs2)
  | fail)
 obtain ⟨g, hg⟩ : ∃ g, g = W1.heap.size := ⟨_, rfl⟩
 obtain ⟨zl, hzl⟩ : ∃ zl, zl = W0.heap.size := ⟨_, rfl⟩
 rw [← hg] at hW2
 rw [← hzl] at hW1
 have HB2 : Hid (Below w.heap.size w W2) := hB0.trans ((hB1.trans (hB2.mono (by omega))).mono (by omega))
 have hgl : g < W2.heap.size := by omega
 have hzll : zl < W2.heap.size := by omega
 have hzg : w.heap.size < W2.heap.size := by omega
 have HW2 : Hid (∀ V, Below W2.heap.size W2 V → V.heap[zl]? = some (.cells lc.toArray 31) ∧ V.heap[g]? = some (.cells (x.l).toArray 67) ∧ V.heap[w.heap.size]? = some (.cells wc0.toArray 41)) := fun V hV => ⟨(hV.block _ hzll).trans ((hB2.block _ (by omega)).trans hW1), (hV.block _ hgl).trans hW2, (hV.block _ hzg).trans ((hB2.block _ (by omega)).trans ((hB1.block _ (by omega)).trans hW0))⟩
 have kl : W2.cell? ⟨zl, 2, .none⟩ = some (.slice (some ⟨b, o, .none⟩) n pc) := by have := cell_heap (o := 2) (HW2.out _ (Below.refl _ _)).1; rw [List.getElem?_toArray, HL.out.1] at this; exact this
 have k0 : W2.cell? ⟨g, 0, .none⟩ = some (.int .i64 num) := by rw [hnum]; exact cell_heap (o := 0) (HW2.out _ (Below.refl _ _)).2.1
 have HPR : Hid (i ≠ 0 → ∃ pr, ((L.files[i - 1]?).map fun p : Fi => p.num) = some pr ∧ W2.cell? ⟨b, o + (i - 1) * 8, .none⟩ = some (.int .i64 pr)) := fun hi => prev_at (fun p : Fi => p.num) (by rintro x cs rfl; rfl) (HLK.out _ HB2.out).1.fs rfl hi hin
 clear d1 r1 hr hW1 hW2 hB1 hB2 hW0 hB0
 try rw [← hs0]
 try rw [← hzl]
 try rw [← hg]
 clear hg hs1 hs2 hgl hzg hnum hbX hzl hs0 hzll
 simp only [x0,x1,x2,x3]
 go_cut [37] (fun s wc => s = .bool (!nb) ∧ Hid (Below W2.heap.size W2 wc))
 case first => as_aux_lemma =>
  by_cases g1 : num < 0
  ·obtain rfl : nb = false := by rw [HNB.out, decide_eq_false (by omega)]; rfl
   refine wp_region_held_drew (S := (fun V => V.cell? ⟨zl, 2, .none⟩ = some (.slice (some ⟨b, o, .none⟩) n pc) ∧ V.cell? ⟨g, 0, .none⟩ = some (.int .i64 num))) (by kernel_rfl) ⟨kl, k0⟩ (fun hHeld => ?_)
   refine hT 0 14 (.pointer (some ⟨g, 0, .none⟩)) ?_
   simp only [x0,x1,x2,x3]
   refine hT 1 15 (.int .i64 num) ?_
   simp only [x0,x1,x2,x3]
   refine hT 2 16 (.bool true) ?_
   simp only [x0,x1,x2,x3]
   refine hT 3 17 (.bool true) ?_
   simp only [x0,x1,x2,x3]
   refine hU 4 18 ?_
   simp only [x0,x1,x2,x3]
   refine hU 5 19 ?_
   simp only [x0,x1,x2,x3]
   refine hU 6 20 ?_
   simp only [x0,x1,x2,x3]
   refine hT 7 21 (.bool true) ?_
   simp only [x0,x1,x2,x3]
   refine hT 8 22 (.bool true) ?_
   simp only [x0,x1,x2,x3]
   refine hU 9 23 ?_
   simp only [x0,x1,x2,x3]
   refine hU 10 24 ?_
   simp only [x0,x1,x2,x3]
   refine hU 11 25 ?_
   simp only [x0,x1,x2,x3]
   refine hU 12 26 ?_
   simp only [x0,x1,x2,x3]
   refine hU 13 27 ?_
   simp only [x0,x1,x2,x3]
   refine hU 14 28 ?_
   simp only [x0,x1,x2,x3]
   refine hU 15 29 ?_
   simp only [x0,x1,x2,x3]
   refine hU 16 30 ?_
   simp only [x0,x1,x2,x3]
   refine hU 17 31 ?_
   simp only [x0,x1,x2,x3]
   refine hU 18 32 ?_
   simp only [x0,x1,x2,x3]
   refine hU 19 33 ?_
   simp only [x0,x1,x2,x3]
   refine hU 20 34 ?_
   simp only [x0,x1,x2,x3]
   refine hU 21 35 ?_
   simp only [x0,x1,x2,x3]
   refine hU 22 36 ?_
   simp only [x0,x1,x2,x3]
   refine hT 23 37 (.bool true) ?_
   simp only [x0,x1,x2,x3]
   refine wpAnyH_done (by kernel_rfl) ?_ _
   go_wp2_with fail
   go_meet
   exact ⟨rfl, (Below.refl _ _).drew⟩
  by_cases g2 : 100 ≤ num
  ·obtain rfl : nb = false := by rw [HNB.out, decide_eq_false (show ¬ num ≤ 99 by omega)]; simp
   refine wp_region_held_drew (S := (fun V => V.cell? ⟨zl, 2, .none⟩ = some (.slice (some ⟨b, o, .none⟩) n pc) ∧ V.cell? ⟨g, 0, .none⟩ = some (.int .i64 num))) (by kernel_rfl) ⟨kl, k0⟩ (fun hHeld => ?_)
   refine hT 0 14 (.pointer (some ⟨g, 0, .none⟩)) ?_
   simp only [x0,x1,x2,x3]
   refine hT 1 15 (.int .i64 num) ?_
   simp only [x0,x1,x2,x3]
   refine hT 2 16 (.bool false) ?_
   simp only [x0,x1,x2,x3]
   refine hT 3 17 (.bool false) ?_
   simp only [x0,x1,x2,x3]
   refine hT 4 18 (.pointer (some ⟨g, 0, .none⟩)) ?_
   simp only [x0,x1,x2,x3]
   refine hT 5 19 (.int .i64 num) ?_
   simp only [x0,x1,x2,x3]
   refine hT 6 20 (.bool true) ?_
   simp only [x0,x1,x2,x3]
   refine hT 7 21 (.bool true) ?_
   simp only [x0,x1,x2,x3]
   refine hT 8 22 (.bool true) ?_
   simp only [x0,x1,x2,x3]
   refine hU 9 23 ?_
   simp only [x0,x1,x2,x3]
   refine hU 10 24 ?_
   simp only [x0,x1,x2,x3]
   refine hU 11 25 ?_
   simp only [x0,x1,x2,x3]
   refine hU 12 26 ?_
   simp only [x0,x1,x2,x3]
   refine hU 13 27 ?_
   simp only [x0,x1,x2,x3]
   refine hU 14 28 ?_
   simp only [x0,x1,x2,x3]
   refine hU 15 29 ?_
   simp only [x0,x1,x2,x3]
   refine hU 16 30 ?_
   simp only [x0,x1,x2,x3]
   refine hU 17 31 ?_
   simp only [x0,x1,x2,x3]
   refine hU 18 32 ?_
   simp only [x0,x1,x2,x3]
   refine hU 19 33 ?_
   simp only [x0,x1,x2,x3]
   refine hU 20 34 ?_
   simp only [x0,x1,x2,x3]
   refine hU 21 35 ?_
   simp only [x0,x1,x2,x3]
   refine hU 22 36 ?_
   simp only [x0,x1,x2,x3]
   refine hT 23 37 (.bool true) ?_
   simp only [x0,x1,x2,x3]
   refine wpAnyH_done (by kernel_rfl) ?_ _
   go_wp2_with fail
   go_meet
   exact ⟨rfl, (Below.refl _ _).drew⟩
  by_cases g3 : i = 0
  ·obtain rfl : nb = true := by rw [HNB.out, decide_eq_true (show 0 ≤ num by omega), decide_eq_true (show num ≤ 99 by omega), decide_eq_true g3]; rfl
   have g4 : ¬ (0 : Int) < i := by omega
   have HG3 : Hid (i = 0) := g3
   clear g3
   refine wp_region_held_drew (S := (fun V => V.cell? ⟨zl, 2, .none⟩ = some (.slice (some ⟨b, o, .none⟩) n pc) ∧ V.cell? ⟨g, 0, .none⟩ = some (.int .i64 num))) (by kernel_rfl) ⟨kl, k0⟩ (fun hHeld => ?_)
   refine hT 0 14 (.pointer (some ⟨g, 0, .none⟩)) ?_ (hy := fun _ _ => by go_simp <;> exact HG3.out)
   simp only [x0,x1,x2,x3]
   refine hT 1 15 (.int .i64 num) ?_ (hy := fun ww hSw => by go_simp <;> exact HG3.out)
   simp only [x0,x1,x2,x3]
   refine hT 2 16 (.bool false) ?_ (hy := fun _ _ => by go_simp <;> exact HG3.out)
   simp only [x0,x1,x2,x3]
   refine hT 3 17 (.bool false) ?_ (hy := fun _ _ => by go_simp <;> exact HG3.out)
   simp only [x0,x1,x2,x3]
   refine hT 4 18 (.pointer (some ⟨g, 0, .none⟩)) ?_ (hy := fun _ _ => by go_simp <;> exact HG3.out)
   simp only [x0,x1,x2,x3]
   refine hT 5 19 (.int .i64 num) ?_ (hy := fun ww hSw => by go_simp <;> exact HG3.out)
   simp only [x0,x1,x2,x3]
   refine hT 6 20 (.bool false) ?_ (hy := fun _ _ => by go_simp <;> exact HG3.out)
   simp only [x0,x1,x2,x3]
   refine hT 7 21 (.bool false) ?_ (hy := fun _ _ => by go_simp <;> exact HG3.out)
   simp only [x0,x1,x2,x3]
   refine hT 8 22 (.bool false) ?_ (hy := fun _ _ => by go_simp <;> exact HG3.out)
   simp only [x0,x1,x2,x3]
   refine hT 9 23 (.int .i64 i) ?_ (hy := fun _ _ => by go_simp <;> exact HG3.out)
   simp only [x0,x1,x2,x3]
   refine hT 10 24 (.bool false) ?_ (hy := fun _ _ => by go_simp <;> exact HG3.out)
   simp only [x0,x1,x2,x3]
   refine hT 11 25 (.bool false) ?_ (hy := fun _ _ => by go_simp <;> exact HG3.out)
   simp only [x0,x1,x2,x3]
   refine hU 12 26 ?_
   simp only [x0,x1,x2,x3]
   refine hU 13 27 ?_
   simp only [x0,x1,x2,x3]
   refine hU 14 28 ?_
   simp only [x0,x1,x2,x3]
   refine hU 15 29 ?_
   simp only [x0,x1,x2,x3]
   refine hU 16 30 ?_
   simp only [x0,x1,x2,x3]
   refine hU 17 31 ?_
   simp only [x0,x1,x2,x3]
   refine hU 18 32 ?_
   simp only [x0,x1,x2,x3]
   refine hU 19 33 ?_
   simp only [x0,x1,x2,x3]
   refine hU 20 34 ?_
   simp only [x0,x1,x2,x3]
   refine hU 21 35 ?_
   simp only [x0,x1,x2,x3]
   refine hT 22 36 (.bool false) ?_ (hy := fun _ _ => by go_simp <;> exact HG3.out)
   simp only [x0,x1,x2,x3]
   refine hT 23 37 (.bool false) ?_ (hy := fun _ _ => by go_simp <;> exact HG3.out)
   simp only [x0,x1,x2,x3]
   refine wpAnyH_done (by kernel_rfl) ?_ _
   go_wp2_with fail
   go_meet
   exact ⟨rfl, (Below.refl _ _).drew⟩
  obtain ⟨pr, hpr, hpc⟩ := HPR.out g3
  have HPP : Hid (nb = decide (pr < num)) := by show _ = _; rw [HNB.out, hpr, decide_eq_true (show 0 ≤ num by omega), decide_eq_true (show num ≤ 99 by omega), decide_eq_false g3]; rfl
  obtain ⟨j, rfl⟩ : ∃ j, i = j + 1 := ⟨i - 1, by omega⟩
  rw [Nat.add_sub_cancel] at hpc
  clear HNB HQ HPR hpr g3 HRC
  have g4 : (0 : Int) < ((j + 1 : Nat) : Int) := by omega
  have g6 : IntKind.i64.wrap (j : Int) = j := by rw [IntKind.wrap_i64]; omega
  have g7 : ¬ n ≤ j := by omega
  by_cases g5 : num ≤ pr
  ·obtain rfl : nb = false := by rw [HPP.out, decide_eq_false (by omega)]
   refine wp_region_held_drew (S := (fun V => V.cell? ⟨zl, 2, .none⟩ = some (.slice (some ⟨b, o, .none⟩) n pc) ∧ V.cell? ⟨g, 0, .none⟩ = some (.int .i64 num) ∧ V.cell? ⟨b, o + j * 8, .none⟩ = some (.int .i64 pr))) (by kernel_rfl) ⟨kl, k0, hpc⟩ (fun hHeld => ?_)
   refine hT 0 14 (.pointer (some ⟨g, 0, .none⟩)) ?_
   simp only [x0,x1,x2,x3]
   refine hT 1 15 (.int .i64 num) ?_
   simp only [x0,x1,x2,x3]
   refine hT 2 16 (.bool false) ?_
   simp only [x0,x1,x2,x3]
   refine hT 3 17 (.bool false) ?_
   simp only [x0,x1,x2,x3]
   refine hT 4 18 (.pointer (some ⟨g, 0, .none⟩)) ?_
   simp only [x0,x1,x2,x3]
   refine hT 5 19 (.int .i64 num) ?_
   simp only [x0,x1,x2,x3]
   refine hT 6 20 (.bool false) ?_
   simp only [x0,x1,x2,x3]
   refine hT 7 21 (.bool false) ?_
   simp only [x0,x1,x2,x3]
   refine hT 8 22 (.bool false) ?_
   simp only [x0,x1,x2,x3]
   refine hT 9 23 (.int .i64 ((j + 1 : Nat) : Int)) ?_
   simp only [x0,x1,x2,x3]
   refine hT 10 24 (.bool true) ?_
   simp only [x0,x1,x2,x3]
   refine hT 11 25 (.bool true) ?_
   simp only [x0,x1,x2,x3]
   refine hT 12 26 (.pointer (some ⟨g, 0, .none⟩)) ?_
   simp only [x0,x1,x2,x3]
   refine hT 13 27 (.int .i64 num) ?_
   simp only [x0,x1,x2,x3]
   refine hT 14 28 (.pointer (some ⟨zl, 2, .none⟩)) ?_
   simp only [x0,x1,x2,x3]
   refine hT 15 29 (.slice (some ⟨b, o, .none⟩) n pc) ?_
   simp only [x0,x1,x2,x3]
   refine hT 16 30 (.int .i64 ((j + 1 : Nat) : Int)) ?_
   simp only [x0,x1,x2,x3]
   refine hT 17 31 (.int .i64 j) ?_
   simp only [x0,x1,x2,x3]
   refine hT 18 32 (.pointer (some ⟨b, o + j * 8, .none⟩)) ?_
   simp only [x0,x1,x2,x3]
   refine hT 19 33 (.pointer (some ⟨b, o + j * 8, .none⟩)) ?_
   simp only [x0,x1,x2,x3]
   refine hT 20 34 (.int .i64 pr) ?_
   simp only [x0,x1,x2,x3]
   refine hT 21 35 (.bool true) ?_
   simp only [x0,x1,x2,x3]
   refine hT 22 36 (.bool true) ?_
   simp only [x0,x1,x2,x3]
   refine hT 23 37 (.bool true) ?_
   simp only [x0,x1,x2,x3]
   refine wpAnyH_done (by kernel_rfl) ?_ _
   go_wp2_with fail
   go_meet
   exact ⟨rfl, (Below.refl _ _).drew⟩
  ·obtain rfl : nb = true := by rw [HPP.out, decide_eq_true (by omega)]
   refine wp_region_held_drew (S := (fun V => V.cell? ⟨zl, 2, .none⟩ = some (.slice (some ⟨b, o, .none⟩) n pc) ∧ V.cell? ⟨g, 0, .none⟩ = some (.int .i64 num) ∧ V.cell? ⟨b, o + j * 8, .none⟩ = some (.int .i64 pr))) (by kernel_rfl) ⟨kl, k0, hpc⟩ (fun hHeld => ?_)
   refine hT 0 14 (.pointer (some ⟨g, 0, .none⟩)) ?_
   simp only [x0,x1,x2,x3]
   refine hT 1 15 (.int .i64 num) ?_
   simp only [x0,x1,x2,x3]
   refine hT 2 16 (.bool false) ?_
   simp only [x0,x1,x2,x3]
   refine hT 3 17 (.bool false) ?_
   simp only [x0,x1,x2,x3]
   refine hT 4 18 (.pointer (some ⟨g, 0, .none⟩)) ?_
   simp only [x0,x1,x2,x3]
   refine hT 5 19 (.int .i64 num) ?_
   simp only [x0,x1,x2,x3]
   refine hT 6 20 (.bool false) ?_
   simp only [x0,x1,x2,x3]
   refine hT 7 21 (.bool false) ?_
   simp only [x0,x1,x2,x3]
   refine hT 8 22 (.bool false) ?_
   simp only [x0,x1,x2,x3]
   refine hT 9 23 (.int .i64 ((j + 1 : Nat) : Int)) ?_
   simp only [x0,x1,x2,x3]
   refine hT 10 24 (.bool true) ?_
   simp only [x0,x1,x2,x3]
   refine hT 11 25 (.bool true) ?_
   simp only [x0,x1,x2,x3]
   refine hT 12 26 (.pointer (some ⟨g, 0, .none⟩)) ?_
   simp only [x0,x1,x2,x3]
   refine hT 13 27 (.int .i64 num) ?_
   simp only [x0,x1,x2,x3]
   refine hT 14 28 (.pointer (some ⟨zl, 2, .none⟩)) ?_
   simp only [x0,x1,x2,x3]
   refine hT 15 29 (.slice (some ⟨b, o, .none⟩) n pc) ?_
   simp only [x0,x1,x2,x3]
   refine hT 16 30 (.int .i64 ((j + 1 : Nat) : Int)) ?_
   simp only [x0,x1,x2,x3]
   refine hT 17 31 (.int .i64 j) ?_
   simp only [x0,x1,x2,x3]
   refine hT 18 32 (.pointer (some ⟨b, o + j * 8, .none⟩)) ?_
   simp only [x0,x1,x2,x3]
   refine hT 19 33 (.pointer (some ⟨b, o + j * 8, .none⟩)) ?_
   simp only [x0,x1,x2,x3]
   refine hT 20 34 (.int .i64 pr) ?_
   simp only [x0,x1,x2,x3]
   refine hT 21 35 (.bool false) ?_
   simp only [x0,x1,x2,x3]
   refine hT 22 36 (.bool false) ?_
   simp only [x0,x1,x2,x3]
   refine hT 23 37 (.bool false) ?_
   simp only [x0,x1,x2,x3]
   refine wpAnyH_done (by kernel_rfl) ?_ _
   go_wp2_with fail
   go_meet
   exact ⟨rfl, (Below.refl _ _).drew⟩
 case rest =>
  rename World => wa
  obtain ⟨rfl, HC⟩ := hcut
  have HBC : Hid (Below w.heap.size w wa) := HB2.out.trans (HC.out.mono HB2.out.size)
  have HWC : Hid (∀ V, Below wa.heap.size wa V → V.heap[zl]? = some (.cells lc.toArray 31) ∧ V.heap[g]? = some (.cells (x.l).toArray 67) ∧ V.heap[w.heap.size]? = some (.cells wc0.toArray 41)) := fun V hV => HW2.out V (HC.out.trans (hV.mono HC.out.size))
  clear k0 HPR HNB HC HW2 HB2 kl
  cases nb
  ·have HF : Hid (okF L (pfA L) (nfA L) i x = false) := by show _ = _; rw [HQ.out]; rfl
   go_wp2
   go_ret
   exact ⟨by rw [HF.out]; rfl, HBC.out⟩
  have k2 : wa.cell? ⟨g, 2, .none⟩ = some (.int .i64 refs) := by rw [HV.out.1]; exact cell_heap (o := 2) (HWC.out _ (Below.refl _ _)).2.1
  have kc : wa.cell? ⟨w.heap.size, 1, .none⟩ = some (.slice (some ⟨bc, oc, .none⟩) n cc) := by have := cell_heap (o := 1) (HWC.out _ (Below.refl _ _)).2.2; rw [List.getElem?_toArray, HL.out.2.2.1] at this; exact this
  have kn : wa.cell? ⟨bc, oc + i * 3 + 2, .none⟩ = some (.int .i64 nm) := by rw [HV.out.2.2.2.2]; exact range_keep HRC.out HBC.out HBCC.out 2 _ rfl
  obtain ⟨mb, hmb⟩ : ∃ mb, mb = (decide (1 ≤ refs) && (refs == nm)) := ⟨_, rfl⟩
  have HMB : Hid (mb = (decide (1 ≤ refs) && (refs == nm))) := hmb
  have HQ2 : Hid (okF L (pfA L) (nfA L) i x = (mb && bh)) := by show _ = _; rw [HQ.out, hmb, Bool.true_and, Bool.and_assoc]
  clear hmb HQ
  go_upto_region 4 with fail
  go_cut [51] (fun s wd => s = .bool (!mb) ∧ Hid (Below wa.heap.size wa wd))
  case first => as_aux_lemma =>
   by_cases g1 : refs = nm
   ·have e1 : (refs != nm) = false := by simp [g1]
    have e2 : (refs == nm) = true := by simp [g1]
    have HE2 : Hid ((refs == nm) = true) := e2
    clear g1 e2
    by_cases g2 : refs < 1
    ·obtain rfl : mb = false := by rw [HMB.out, decide_eq_false (by omega)]; rfl
     refine wp_region_held_drew (S := (fun V => V.cell? ⟨g, 2, .none⟩ = some (.int .i64 refs) ∧ V.cell? ⟨w.heap.size, 1, .none⟩ = some (.slice (some ⟨bc, oc, .none⟩) n cc) ∧ V.cell? ⟨bc, oc + i * 3 + 2, .none⟩ = some (.int .i64 nm))) (by kernel_rfl) ⟨k2, kc, kn⟩ (fun hHeld => ?_)
     refine hT 0 38 (.pointer (some ⟨g, 2, .none⟩)) ?_
     simp only [x0,x1,x2,x3]
     refine hT 1 39 (.int .i64 refs) ?_
     simp only [x0,x1,x2,x3]
     refine hT 2 40 (.pointer (some ⟨w.heap.size, 1, .none⟩)) ?_
     simp only [x0,x1,x2,x3]
     refine hT 3 41 (.slice (some ⟨bc, oc, .none⟩) n cc) ?_
     simp only [x0,x1,x2,x3]
     refine hT 4 42 (.int .i64 i) ?_
     simp only [x0,x1,x2,x3]
     refine hT 5 43 (.pointer (some ⟨bc, oc + i * 3, .none⟩)) ?_
     simp only [x0,x1,x2,x3]
     refine hT 6 44 (.pointer (some ⟨bc, oc + i * 3 + 2, .none⟩)) ?_
     simp only [x0,x1,x2,x3]
     refine hT 7 45 (.int .i64 nm) ?_
     simp only [x0,x1,x2,x3]
     refine hT 8 46 (.bool false) ?_
     simp only [x0,x1,x2,x3]
     refine hT 9 47 (.bool false) ?_
     simp only [x0,x1,x2,x3]
     refine hT 10 48 (.pointer (some ⟨g, 2, .none⟩)) ?_
     simp only [x0,x1,x2,x3]
     refine hT 11 49 (.int .i64 refs) ?_
     simp only [x0,x1,x2,x3]
     refine hT 12 50 (.bool true) ?_
     simp only [x0,x1,x2,x3]
     refine hT 13 51 (.bool true) ?_
     simp only [x0,x1,x2,x3]
     refine wpAnyH_done (by kernel_rfl) ?_ _
     go_wp2_with fail
     go_meet
     exact ⟨rfl, (Below.refl _ _).drew⟩
    ·obtain rfl : mb = true := by rw [HMB.out, decide_eq_true (by omega), HE2.out]; rfl
     refine wp_region_held_drew (S := (fun V => V.cell? ⟨g, 2, .none⟩ = some (.int .i64 refs) ∧ V.cell? ⟨w.heap.size, 1, .none⟩ = some (.slice (some ⟨bc, oc, .none⟩) n cc) ∧ V.cell? ⟨bc, oc + i * 3 + 2, .none⟩ = some (.int .i64 nm))) (by kernel_rfl) ⟨k2, kc, kn⟩ (fun hHeld => ?_)
     refine hT 0 38 (.pointer (some ⟨g, 2, .none⟩)) ?_
     simp only [x0,x1,x2,x3]
     refine hT 1 39 (.int .i64 refs) ?_
     simp only [x0,x1,x2,x3]
     refine hT 2 40 (.pointer (some ⟨w.heap.size, 1, .none⟩)) ?_
     simp only [x0,x1,x2,x3]
     refine hT 3 41 (.slice (some ⟨bc, oc, .none⟩) n cc) ?_
     simp only [x0,x1,x2,x3]
     refine hT 4 42 (.int .i64 i) ?_
     simp only [x0,x1,x2,x3]
     refine hT 5 43 (.pointer (some ⟨bc, oc + i * 3, .none⟩)) ?_
     simp only [x0,x1,x2,x3]
     refine hT 6 44 (.pointer (some ⟨bc, oc + i * 3 + 2, .none⟩)) ?_
     simp only [x0,x1,x2,x3]
     refine hT 7 45 (.int .i64 nm) ?_
     simp only [x0,x1,x2,x3]
     refine hT 8 46 (.bool false) ?_
     simp only [x0,x1,x2,x3]
     refine hT 9 47 (.bool false) ?_
     simp only [x0,x1,x2,x3]
     refine hT 10 48 (.pointer (some ⟨g, 2, .none⟩)) ?_
     simp only [x0,x1,x2,x3]
     refine hT 11 49 (.int .i64 refs) ?_
     simp only [x0,x1,x2,x3]
     refine hT 12 50 (.bool false) ?_
     simp only [x0,x1,x2,x3]
     refine hT 13 51 (.bool false) ?_
     simp only [x0,x1,x2,x3]
     refine wpAnyH_done (by kernel_rfl) ?_ _
     go_wp2_with fail
     go_meet
     exact ⟨rfl, (Below.refl _ _).drew⟩
   ·have e1 : (refs != nm) = true := by simp [g1]
    obtain rfl : mb = false := by rw [HMB.out, show (refs == nm) = false by simp [g1]]; simp
    clear g1
    refine wp_region_held_drew (S := (fun V => V.cell? ⟨g, 2, .none⟩ = some (.int .i64 refs) ∧ V.cell? ⟨w.heap.size, 1, .none⟩ = some (.slice (some ⟨bc, oc, .none⟩) n cc) ∧ V.cell? ⟨bc, oc + i * 3 + 2, .none⟩ = some (.int .i64 nm))) (by kernel_rfl) ⟨k2, kc, kn⟩ (fun hHeld => ?_)
    refine hT 0 38 (.pointer (some ⟨g, 2, .none⟩)) ?_
    simp only [x0,x1,x2,x3]
    refine hT 1 39 (.int .i64 refs) ?_
    simp only [x0,x1,x2,x3]
    refine hT 2 40 (.pointer (some ⟨w.heap.size, 1, .none⟩)) ?_
    simp only [x0,x1,x2,x3]
    refine hT 3 41 (.slice (some ⟨bc, oc, .none⟩) n cc) ?_
    simp only [x0,x1,x2,x3]
    refine hT 4 42 (.int .i64 i) ?_
    simp only [x0,x1,x2,x3]
    refine hT 5 43 (.pointer (some ⟨bc, oc + i * 3, .none⟩)) ?_
    simp only [x0,x1,x2,x3]
    refine hT 6 44 (.pointer (some ⟨bc, oc + i * 3 + 2, .none⟩)) ?_
    simp only [x0,x1,x2,x3]
    refine hT 7 45 (.int .i64 nm) ?_
    simp only [x0,x1,x2,x3]
    refine hT 8 46 (.bool true) ?_
    simp only [x0,x1,x2,x3]
    refine hT 9 47 (.bool true) ?_
    simp only [x0,x1,x2,x3]
    refine hU 10 48 ?_
    simp only [x0,x1,x2,x3]
    refine hU 11 49 ?_
    simp only [x0,x1,x2,x3]
    refine hU 12 50 ?_
    simp only [x0,x1,x2,x3]
    refine hT 13 51 (.bool true) ?_
    simp only [x0,x1,x2,x3]
    refine wpAnyH_done (by kernel_rfl) ?_ _
    go_wp2_with fail
    go_meet
    exact ⟨rfl, (Below.refl _ _).drew⟩
  case rest =>
   rename World => wd
   obtain ⟨rfl, HD⟩ := hcut
   have HBD : Hid (Below w.heap.size w wd) := HBC.out.trans (HD.out.mono HBC.out.size)
   have hw0 := HWC.out _ HD.out
   clear k2 kc kn HRC HWC HMB
   cases mb
   ·have HF : Hid (okF L (pfA L) (nfA L) i x = false) := by show _ = _; rw [HQ2.out]; rfl
    go_wp2
    go_ret
    exact ⟨by rw [HF.out]; rfl, HBD.out⟩
   have HQ3 : Hid (okF L (pfA L) (nfA L) i x = bh) := by show _ = _; rw [HQ2.out, Bool.true_and]
   obtain ⟨k1, k5, k7⟩ : wd.cell? ⟨g, 1, .none⟩ = some (.int .i64 kind) ∧ wd.cell? ⟨g, 5, .none⟩ = some (.int .i64 ino) ∧ wd.cell? ⟨g, 7, .none⟩ = some (.int .i64 pi) := by
    rw [HV.out.2.1, HV.out.2.2.1, HV.out.2.2.2.1]
    exact ⟨cell_heap (o := 1) hw0.2.1, cell_heap (o := 5) hw0.2.1, cell_heap (o := 7) hw0.2.1⟩
   have rl : wd.rangeAt zl 0 lc := range_heap hw0.1
   obtain ⟨qp, qc, hqv⟩ := (HLK.out wd HBD.out).1.qs.form
   obtain ⟨nq, hnq⟩ : ∃ n, n = L.pipes.length := ⟨_, rfl⟩
   have bq : nq ≤ 1048576 := by have := HRR.out.ql; omega
   rw [← hnq] at hqv
   subst hqv
   have HNQ : Hid (nq = L.pipes.length) := hnq
   have kq : wd.cell? ⟨zl, 4, .none⟩ = some (.slice qp nq qc) := by have := cell_heap (o := 4) hw0.1; rw [HLE.out] at this; exact this
   have c67 := dinode_any (pv := pv) (fv := .slice (some ⟨b, o, .none⟩) n pc) (qv := .slice qp nq qc) (rv := rv) (lv := lv) (L := L) (HLK.out wd HBD.out).1.is (HLK.out wd HBD.out).2 HRR.out.il ino
   rw [← HLE.out] at c67
   clear hw0 hnq HQ2
   by_cases g1 : kind = 1
   ·as_aux_lemma =>
     have e1 : (kind == 1) = true := by simp [g1]
     have HQK : Hid (okF L (pfA L) (nfA L) i x = (L.inos.any fun p => p.ino == ino)) := by show _ = _; rw [HQ3.out, HBH.out, if_pos g1]
     clear g1 k7 kq
     go_wp2_with (first
      | (refine wpList_is (.load 31 (.tmp 4)) rfl ?_; refine wpList_loadG 31 10 176 info33 _ Try.underlying31 rfl lc HL.out.2.1 zl 0 (.tmp 4) rfl rfl rfl rl (some 56) rfl ?_; clear rl)
      | (go_at_call 67; refine c67.mono ?_; rintro e W4 ⟨⟨kk, rfl, hk1, hk2, hk3⟩, hB4⟩; clear c67 k1 k5)
      | fail)
     all_goals go_ret
     all_goals exact ⟨by rw [HQK.out, ← hk3]; simp_all, HBD.out.trans (hB4.mono HBD.out.size)⟩
   have e1 : (kind == 1) = false := by simp [g1]
   by_cases g2 : kind = 2
   ·as_aux_lemma =>
     have e2 : (kind == 2) = true := by simp [g2]
     have HQK : Hid (okF L (pfA L) (nfA L) i x = (L.pipes.any fun p => p.num == pi)) := by show _ = _; rw [HQ3.out, HBH.out, if_neg g1, if_pos g2]
     clear g1 g2 k5 c67 rl
     go_wp2
     go_loopw [8] (fun v wr => ∃ k : Nat, k ≤ nq ∧ v = .int .i64 k ∧ (∃ q, wr = wd.drewN q) ∧ Hid (((L.pipes.take k).any fun p => p.num == pi) = false)) (fun v _ => (nq - intOf v).toNat)
     case atStart => exact ⟨0, by omega, rfl, ⟨0, rfl⟩, by show _ = _; simp⟩
     case round =>
      obtain ⟨k, hk, rfl, ⟨q, rfl⟩, HC⟩ := hrel
      by_cases hki : k < nq
      ·as_aux_lemma =>
        have i3 : (k : Int) < nq := by omega
        obtain ⟨-, b3, o3, y, cs, rfl, hbX, hy, ⟨bv, rfl, hN⟩, hcl, hr⟩ := (HLK.out wd HBD.out).1.qs.at hki
        have a0 := hr 0 _ rfl
        rw [Nat.add_zero] at a0
        obtain ⟨c1, hc1⟩ : ∃ c, (y.num == pi) = c := ⟨_, rfl⟩
        have HE : Hid (((L.pipes.take (k + 1)).any fun p => p.num == pi) = c1) := by
         show _ = _
         rw [List.take_add_one, hy, List.any_append, HC.out, ← hc1]
         simp
        have HY : Hid (y ∈ L.pipes ∧ (y.num == pi) = c1) := ⟨List.mem_of_getElem? hy, hc1⟩
        clear hr hcl hbX hy hN
        cases c1
        ·go_upto_region 14 with fail
         refine wp_region_held_drew (S := (fun V => V.cell? ⟨zl, 4, .none⟩ = some (.slice (some ⟨b3, o3, .none⟩) nq qc) ∧ V.cell? ⟨g, 7, .none⟩ = some (.int .i64 pi) ∧ V.cell? ⟨b3, o3 + k * 6, .none⟩ = some (.int .i64 y.num))) (by kernel_rfl) ⟨kq, k7, a0⟩ (fun hHeld => ?_)
         refine hT 0 71 (.pointer (some ⟨zl, 4, .none⟩)) ?_
         simp only [x0,x1,x2,x3]
         refine hT 1 72 (.slice (some ⟨b3, o3, .none⟩) nq qc) ?_
         simp only [x0,x1,x2,x3]
         refine hT 2 73 (.int .i64 k) ?_
         simp only [x0,x1,x2,x3]
         refine hT 3 74 (.pointer (some ⟨b3, o3 + k * 6, .none⟩)) ?_
         simp only [x0,x1,x2,x3]
         refine hT 4 75 (.pointer (some ⟨b3, o3 + k * 6, .none⟩)) ?_
         simp only [x0,x1,x2,x3]
         refine hT 5 76 (.int .i64 y.num) ?_
         simp only [x0,x1,x2,x3]
         refine hT 6 77 (.pointer (some ⟨g, 7, .none⟩)) ?_
         simp only [x0,x1,x2,x3]
         refine hT 7 78 (.int .i64 pi) ?_
         simp only [x0,x1,x2,x3]
         refine hT 8 79 (.bool false) ?_
         simp only [x0,x1,x2,x3]
         refine wpAnyH_done (by kernel_rfl) ?_ _
         go_wp2
         exact ⟨⟨k + 1, by omega, by go_num, ⟨q + 1, rfl⟩, by show _ = _; rw [HE.out]⟩, by simp [intOf]; omega⟩
        ·have HF : Hid ((L.pipes.any fun p => p.num == pi) = true) := by show _ = _; rw [List.any_eq_true]; exact ⟨y, HY.out.1, HY.out.2⟩
         go_upto_region 14 with fail
         refine wp_region_held_drew (S := (fun V => V.cell? ⟨zl, 4, .none⟩ = some (.slice (some ⟨b3, o3, .none⟩) nq qc) ∧ V.cell? ⟨g, 7, .none⟩ = some (.int .i64 pi) ∧ V.cell? ⟨b3, o3 + k * 6, .none⟩ = some (.int .i64 y.num))) (by kernel_rfl) ⟨kq, k7, a0⟩ (fun hHeld => ?_)
         refine hT 0 71 (.pointer (some ⟨zl, 4, .none⟩)) ?_
         simp only [x0,x1,x2,x3]
         refine hT 1 72 (.slice (some ⟨b3, o3, .none⟩) nq qc) ?_
         simp only [x0,x1,x2,x3]
         refine hT 2 73 (.int .i64 k) ?_
         simp only [x0,x1,x2,x3]
         refine hT 3 74 (.pointer (some ⟨b3, o3 + k * 6, .none⟩)) ?_
         simp only [x0,x1,x2,x3]
         refine hT 4 75 (.pointer (some ⟨b3, o3 + k * 6, .none⟩)) ?_
         simp only [x0,x1,x2,x3]
         refine hT 5 76 (.int .i64 y.num) ?_
         simp only [x0,x1,x2,x3]
         refine hT 6 77 (.pointer (some ⟨g, 7, .none⟩)) ?_
         simp only [x0,x1,x2,x3]
         refine hT 7 78 (.int .i64 pi) ?_
         simp only [x0,x1,x2,x3]
         refine hT 8 79 (.bool true) ?_
         simp only [x0,x1,x2,x3]
         refine wpAnyH_done (by kernel_rfl) ?_ _
         go_wp2
         go_ret
         exact ⟨by rw [HQK.out, HF.out]; rfl, HBD.out.trans ((Go.Proofs.below_drewN _ (q + 1)).mono HBD.out.size)⟩
      ·as_aux_lemma =>
        have i3 : ¬ (k : Int) < nq := by omega
        have HF : Hid ((L.pipes.any fun p => p.num == pi) = false) := by
         have h1 := HC.out
         rw [List.take_of_length_le (by have := HNQ.out; omega)] at h1
         exact h1
        go_wp2
        go_ret
        exact ⟨by rw [HQK.out, HF.out]; rfl, HBD.out.trans ((Go.Proofs.below_drewN _ _).mono HBD.out.size)⟩
   have e2 : (kind == 2) = false := by simp [g2]
   by_cases g3 : kind = 3
   ·as_aux_lemma =>
     have e3 : (kind == 3) = true := by simp [g3]
     have HQK : Hid (okF L (pfA L) (nfA L) i x = (L.pipes.any fun p => p.num == pi)) := by show _ = _; rw [HQ3.out, HBH.out, if_neg g1, if_neg g2, if_pos g3]
     clear g1 g2 g3 k5 c67 rl
     go_wp2
     go_loopw [8] (fun v wr => ∃ k : Nat, k ≤ nq ∧ v = .int .i64 k ∧ (∃ q, wr = wd.drewN q) ∧ Hid (((L.pipes.take k).any fun p => p.num == pi) = false)) (fun v _ => (nq - intOf v).toNat)
     case atStart => exact ⟨0, by omega, rfl, ⟨0, rfl⟩, by show _ = _; simp⟩
     case round =>
      obtain ⟨k, hk, rfl, ⟨q, rfl⟩, HC⟩ := hrel
      by_cases hki : k < nq
      ·as_aux_lemma =>
        have i3 : (k : Int) < nq := by omega
        obtain ⟨-, b3, o3, y, cs, rfl, hbX, hy, ⟨bv, rfl, hN⟩, hcl, hr⟩ := (HLK.out wd HBD.out).1.qs.at hki
        have a0 := hr 0 _ rfl
        rw [Nat.add_zero] at a0
        obtain ⟨c1, hc1⟩ : ∃ c, (y.num == pi) = c := ⟨_, rfl⟩
        have HE : Hid (((L.pipes.take (k + 1)).any fun p => p.num == pi) = c1) := by
         show _ = _
         rw [List.take_add_one, hy, List.any_append, HC.out, ← hc1]
         simp
        have HY : Hid (y ∈ L.pipes ∧ (y.num == pi) = c1) := ⟨List.mem_of_getElem? hy, hc1⟩
        clear hr hcl hbX hy hN
        cases c1
        ·go_upto_region 14 with fail
         refine wp_region_held_drew (S := (fun V => V.cell? ⟨zl, 4, .none⟩ = some (.slice (some ⟨b3, o3, .none⟩) nq qc) ∧ V.cell? ⟨g, 7, .none⟩ = some (.int .i64 pi) ∧ V.cell? ⟨b3, o3 + k * 6, .none⟩ = some (.int .i64 y.num))) (by kernel_rfl) ⟨kq, k7, a0⟩ (fun hHeld => ?_)
         refine hT 0 71 (.pointer (some ⟨zl, 4, .none⟩)) ?_
         simp only [x0,x1,x2,x3]
         refine hT 1 72 (.slice (some ⟨b3, o3, .none⟩) nq qc) ?_
         simp only [x0,x1,x2,x3]
         refine hT 2 73 (.int .i64 k) ?_
         simp only [x0,x1,x2,x3]
         refine hT 3 74 (.pointer (some ⟨b3, o3 + k * 6, .none⟩)) ?_
         simp only [x0,x1,x2,x3]
         refine hT 4 75 (.pointer (some ⟨b3, o3 + k * 6, .none⟩)) ?_
         simp only [x0,x1,x2,x3]
         refine hT 5 76 (.int .i64 y.num) ?_
         simp only [x0,x1,x2,x3]
         refine hT 6 77 (.pointer (some ⟨g, 7, .none⟩)) ?_
         simp only [x0,x1,x2,x3]
         refine hT 7 78 (.int .i64 pi) ?_
         simp only [x0,x1,x2,x3]
         refine hT 8 79 (.bool false) ?_
         simp only [x0,x1,x2,x3]
         refine wpAnyH_done (by kernel_rfl) ?_ _
         go_wp2
         exact ⟨⟨k + 1, by omega, by go_num, ⟨q + 1, rfl⟩, by show _ = _; rw [HE.out]⟩, by simp [intOf]; omega⟩
        ·have HF : Hid ((L.pipes.any fun p => p.num == pi) = true) := by show _ = _; rw [List.any_eq_true]; exact ⟨y, HY.out.1, HY.out.2⟩
         go_upto_region 14 with fail
         refine wp_region_held_drew (S := (fun V => V.cell? ⟨zl, 4, .none⟩ = some (.slice (some ⟨b3, o3, .none⟩) nq qc) ∧ V.cell? ⟨g, 7, .none⟩ = some (.int .i64 pi) ∧ V.cell? ⟨b3, o3 + k * 6, .none⟩ = some (.int .i64 y.num))) (by kernel_rfl) ⟨kq, k7, a0⟩ (fun hHeld => ?_)
         refine hT 0 71 (.pointer (some ⟨zl, 4, .none⟩)) ?_
         simp only [x0,x1,x2,x3]
         refine hT 1 72 (.slice (some ⟨b3, o3, .none⟩) nq qc) ?_
         simp only [x0,x1,x2,x3]
         refine hT 2 73 (.int .i64 k) ?_
         simp only [x0,x1,x2,x3]
         refine hT 3 74 (.pointer (some ⟨b3, o3 + k * 6, .none⟩)) ?_
         simp only [x0,x1,x2,x3]
         refine hT 4 75 (.pointer (some ⟨b3, o3 + k * 6, .none⟩)) ?_
         simp only [x0,x1,x2,x3]
         refine hT 5 76 (.int .i64 y.num) ?_
         simp only [x0,x1,x2,x3]
         refine hT 6 77 (.pointer (some ⟨g, 7, .none⟩)) ?_
         simp only [x0,x1,x2,x3]
         refine hT 7 78 (.int .i64 pi) ?_
         simp only [x0,x1,x2,x3]
         refine hT 8 79 (.bool true) ?_
         simp only [x0,x1,x2,x3]
         refine wpAnyH_done (by kernel_rfl) ?_ _
         go_wp2
         go_ret
         exact ⟨by rw [HQK.out, HF.out]; rfl, HBD.out.trans ((Go.Proofs.below_drewN _ (q + 1)).mono HBD.out.size)⟩
      ·as_aux_lemma =>
        have i3 : ¬ (k : Int) < nq := by omega
        have HF : Hid ((L.pipes.any fun p => p.num == pi) = false) := by
         have h1 := HC.out
         rw [List.take_of_length_le (by have := HNQ.out; omega)] at h1
         exact h1
        go_wp2
        go_ret
        exact ⟨by rw [HQK.out, HF.out]; rfl, HBD.out.trans ((Go.Proofs.below_drewN _ _).mono HBD.out.size)⟩
   have e3 : (kind == 3) = false := by simp [g3]
   have HF : Hid (okF L (pfA L) (nfA L) i x = false) := by show _ = _; rw [HQ3.out, HBH.out, if_neg g1, if_neg g2, if_neg g3]
   clear g1 g2 g3 k5 c67 rl
   go_wp2
   go_ret
   exact ⟨by rw [HF.out]; rfl, HBD.out⟩
end Go.Proofs.Ythopgmmodldljab
