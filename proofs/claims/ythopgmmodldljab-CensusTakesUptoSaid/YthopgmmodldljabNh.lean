import Derived.Test.YthopgmmodldljabNb
import Derived.Test.YthopgmmodldljabEv
namespace Go.Proofs.Ythopgmmodldljab
open Go Go.RowKit
set_option linter.unusedVariables false
set_option linter.unusedSimpArgs false
/-! The document's inodeNo. -/
set_option maxRecDepth 100000 in
set_option maxHeartbeats 8000000 in
theorem inodeNo_any {w : World} {X : Nat} {pv fv iv qv rv lv : Value} {L : Lk} (h : LkW w X pv fv iv qv rv lv L) (hX : X ≤ w.heap.size) (hR : LkR L) {fv1 fv2 cv : Value} (r : Int × Int) (hc : Sl w w.heap.size 3 (fun x cs => cs = owL x) cv (L.inos.map (cfI (nfA L)))) (i : Nat) (x : In) (hx : L.inos[i]? = some x) : Calls Try.prog 37 #[.agg (cwL fv1 fv2 cv r).toArray, .agg (lkL L.tramp pv fv iv qv rv lv L.ticks L.next L.free).toArray, .int .i64 i] w fun e w' => e = .returned (.bool (!okI L (nfA L) i x)) ∧ Below w.heap.size w w' := by
 obtain ⟨pp, pc, rfl⟩ := h.is.form
 obtain ⟨cp, cc, rfl⟩ := hc.form
 rw [List.length_map] at hc ⊢
 have hin : i < L.inos.length := (List.getElem?_eq_some_iff.1 hx).1
 obtain ⟨n, hn⟩ : ∃ n, n = L.inos.length := ⟨_, rfl⟩
 have bn : n ≤ 1048576 := by have := hR.il; omega
 rw [← hn] at h hin hc ⊢
 have HLK : Hid (∀ V, Below w.heap.size w V → LkW V X pv fv (.slice pp n pc) qv rv lv L ∧ X ≤ V.heap.size) := fun V hV => ⟨h.keep (Nat.le_refl _) (hV.mono hX), Nat.le_trans hX hV.size⟩
 have HRR : Hid (LkR L) := hR
 obtain ⟨-, b, o, y, cs, hpe, hbX, hy, ⟨bv2, rfl, hN2⟩, hcl, hr⟩ := h.is.at hin
 obtain rfl : x = y := by rw [hx] at hy; injection hy
 subst hpe
 obtain ⟨-, bc, oc, oy, cs2, rfl, hbc, hyc, rfl, hcl2, hrc⟩ := hc.at hin
 obtain rfl : oy = cfI (nfA L) x := by rw [List.getElem?_map, hx] at hyc; injection hyc with hyc; exact hyc.symm
 have i1 : (i : Int) < n := by omega
 have HX1 : Hid (∀ u ∈ x.l bv2, u.oneCell' = true) := inl_one x hN2.one
 obtain ⟨lc, hlc⟩ : ∃ lc, lc = lkL L.tramp pv fv (.slice (some ⟨b, o, .none⟩) n pc) qv rv lv L.ticks L.next L.free := ⟨_, rfl⟩
 rw [← hlc]
 obtain ⟨wc0, hwc0⟩ : ∃ wc0, wc0 = cwL fv1 fv2 (.slice (some ⟨bc, oc, .none⟩) n cc) r := ⟨_, rfl⟩
 rw [← hwc0]
 have HL : Hid (lc[3]? = some (.slice (some ⟨b, o, .none⟩) n pc) ∧ lc.length = 10 ∧ wc0[2]? = some (.slice (some ⟨bc, oc, .none⟩) n cc) ∧ wc0.length = 5) := by rw [hlc, hwc0]; exact ⟨rfl, rfl, rfl, rfl⟩
 have HLE : Hid (lc = lkL L.tramp pv fv (.slice (some ⟨b, o, .none⟩) n pc) qv rv lv L.ticks L.next L.free) := hlc
 obtain ⟨nb, hnb⟩ : ∃ nb, nb = numB (fun f : In => f.ino) L.inos i 1 199 := ⟨_, rfl⟩
 obtain ⟨num, hnum⟩ : ∃ num, num = x.ino := ⟨_, rfl⟩
 have HNB : Hid (nb = (decide (1 ≤ num) && (decide (num ≤ 199) && (decide (i = 0) || ltO ((L.inos[i - 1]?).map fun p : In => p.ino) num)))) := by show _ = _; rw [hnb]; exact numB_of _ hx hnum 1 199
 obtain ⟨refs, hrefs⟩ : ∃ v, v = x.refs := ⟨_, rfl⟩
 obtain ⟨links, hlinks⟩ : ∃ v, v = x.links := ⟨_, rfl⟩
 obtain ⟨size, hsize⟩ : ∃ v, v = x.size := ⟨_, rfl⟩
 obtain ⟨nm, hnm⟩ : ∃ v, v = ((nfA L) (3, x.ino)).getD 0 := ⟨_, rfl⟩
 obtain ⟨bp, bcap, rfl⟩ := hN2.form
 obtain ⟨bn2, hbn2⟩ : ∃ v, v = x.bl.length := ⟨_, rfl⟩
 rw [← hbn2] at hr HX1
 have hsb := bounds_i64 (hR.i x (List.mem_of_getElem? hx)).size
 rw [← hsize] at hsb
 have HQ : Hid (okI L (nfA L) i x = (nb && ((refs == nm) && ((links != 0 || (refs != 0 || num == 1)) && (decide (0 ≤ size) && ((bn2 : Int) == bg size 4096)))))) := by show _ = _; rw [hnb, hrefs, hnm, hlinks, hsize, hbn2, hnum]; rfl
 have HV : Hid (refs = x.refs ∧ links = x.links ∧ size = x.size ∧ nm = ((nfA L) (3, x.ino)).getD 0 ∧ num = x.ino) := ⟨hrefs, hlinks, hsize, hnm, hnum⟩
 have HXX : Hid (X ≤ w.heap.size) := hX
 have HBCC : Hid (bc < w.heap.size) := hbc
 have HRC : Hid (w.rangeAt bc (oc + i * 3) (owL (cfI (nfA L) x))) := hrc
 clear hX h hx hy hcl hlc hn hR hnb hcl2 hbc hrc hyc hwc0 hc hrefs hlinks hsize hnm hbn2 hN2
 go_enter Try.func37, Try.ntmps37
 go_upto_region 2 with (first
  | (refine wpList_is (.box 41 (.tmp 0)) rfl ?_; refine wpList_boxG 41 wc0 3 (.tmp 0) _ rfl rfl rfl rfl ?_; intro W0 hW0 hB0 hs0)
  | (refine wpList_is (.box 31 (.tmp 1)) rfl ?_; refine wpList_boxG 31 lc 4 (.tmp 1) _ rfl rfl rfl rfl ?_; intro W1 hW1 hB1 hs1; have d1 := cell_heap (o := 3) hW1; rw [List.getElem?_toArray, HL.out.1] at d1; rw [hs0] at d1; have r1 := range_keep hr (hB0.trans (hB1.mono (by omega))) (by have := HXX.out; omega))
  | (refine wpList_is (.load 63 (.tmp 12)) rfl ?_; refine wpList_loadG 63 8 72 info66 _ Try.underlying63 rfl (x.l (.slice bp bn2 bcap)) rfl b (o + i * 8) (.tmp 12) rfl rfl rfl r1 (some 13) rfl ?_)
  | (refine wpList_is (.alloc 63) rfl ?_; refine wpList_laidG 63 8 72 info66 (x.l (.slice bp bn2 bcap)) rfl HX1.out 7 (.tmp 13) _ _ rfl rfl rfl rfl rfl rfl rfl rfl ?_; intro W2 hW2 hB2 hs2)
  | fail)
 obtain ⟨g, hg⟩ : ∃ g, g = W1.heap.size := ⟨_, rfl⟩
 obtain ⟨zl, hzl⟩ : ∃ zl, zl = W0.heap.size := ⟨_, rfl⟩
 rw [← hg] at hW2
 rw [← hzl] at hW1
 have HB2 : Hid (Below w.heap.size w W2) := hB0.trans ((hB1.trans (hB2.mono (by omega))).mono (by omega))
 have hgl : g < W2.heap.size := by omega
 have hzll : zl < W2.heap.size := by omega
 have hzg : w.heap.size < W2.heap.size := by omega
 have HW2 : Hid (∀ V, Below W2.heap.size W2 V → V.heap[zl]? = some (.cells lc.toArray 31) ∧ V.heap[g]? = some (.cells (x.l (.slice bp bn2 bcap)).toArray 63) ∧ V.heap[w.heap.size]? = some (.cells wc0.toArray 41)) := fun V hV => ⟨(hV.block _ hzll).trans ((hB2.block _ (by omega)).trans hW1), (hV.block _ hgl).trans hW2, (hV.block _ hzg).trans ((hB2.block _ (by omega)).trans ((hB1.block _ (by omega)).trans hW0))⟩
 have kl : W2.cell? ⟨zl, 3, .none⟩ = some (.slice (some ⟨b, o, .none⟩) n pc) := by have := cell_heap (o := 3) (HW2.out _ (Below.refl _ _)).1; rw [List.getElem?_toArray, HL.out.1] at this; exact this
 have k0 : W2.cell? ⟨g, 0, .none⟩ = some (.int .i64 num) := by rw [hnum]; exact cell_heap (o := 0) (HW2.out _ (Below.refl _ _)).2.1
 have HPR : Hid (i ≠ 0 → ∃ pr, ((L.inos[i - 1]?).map fun p : In => p.ino) = some pr ∧ W2.cell? ⟨b, o + (i - 1) * 8, .none⟩ = some (.int .i64 pr)) := fun hi => prev_at (fun p : In => p.ino) (by rintro x cs ⟨bv, rfl, _⟩; rfl) (HLK.out _ HB2.out).1.is rfl hi hin
 clear d1 r1 hr hW1 hW2 hB1 hB2 hW0 hB0
 try rw [← hs0]
 try rw [← hzl]
 try rw [← hg]
 clear hg hs1 hs2 hgl hzg hnum hbX hzl hs0 hzll
 simp only [x0,x1,x2,x3]
 go_cut [37] (fun s wc => s = .bool (!nb) ∧ Hid (Below W2.heap.size W2 wc))
 case first => as_aux_lemma =>
  by_cases g1 : num < 1
  ·obtain rfl : nb = false := by rw [HNB.out, decide_eq_false (by omega)]; rfl
   refine wp_region_held_drew (S := (fun V => V.cell? ⟨zl, 3, .none⟩ = some (.slice (some ⟨b, o, .none⟩) n pc) ∧ V.cell? ⟨g, 0, .none⟩ = some (.int .i64 num))) (by kernel_rfl) ⟨kl, k0⟩ (fun hHeld => ?_)
   refine nT 0 (.pointer (some ⟨g, 0, .none⟩)) rfl ?_
   simp only [x0,x1,x2,x3,x4,x5,x6]
   refine nT 1 (.int .i64 num) rfl ?_
   simp only [x0,x1,x2,x3,x4,x5,x6]
   refine nT 2 (.bool true) rfl ?_
   simp only [x0,x1,x2,x3,x4,x5,x6]
   refine nT 3 (.bool true) rfl ?_
   simp only [x0,x1,x2,x3,x4,x5,x6]
   refine nU 4 rfl ?_
   simp only [x0,x1,x2,x3,x4,x5,x6]
   refine nU 5 rfl ?_
   simp only [x0,x1,x2,x3,x4,x5,x6]
   refine nU 6 rfl ?_
   simp only [x0,x1,x2,x3,x4,x5,x6]
   refine nT 7 (.bool true) rfl ?_
   simp only [x0,x1,x2,x3,x4,x5,x6]
   refine nT 8 (.bool true) rfl ?_
   simp only [x0,x1,x2,x3,x4,x5,x6]
   refine nU 9 rfl ?_
   simp only [x0,x1,x2,x3,x4,x5,x6]
   refine nU 10 rfl ?_
   simp only [x0,x1,x2,x3,x4,x5,x6]
   refine nU 11 rfl ?_
   simp only [x0,x1,x2,x3,x4,x5,x6]
   refine nU 12 rfl ?_
   simp only [x0,x1,x2,x3,x4,x5,x6]
   refine nU 13 rfl ?_
   simp only [x0,x1,x2,x3,x4,x5,x6]
   refine nU 14 rfl ?_
   simp only [x0,x1,x2,x3,x4,x5,x6]
   refine nU 15 rfl ?_
   simp only [x0,x1,x2,x3,x4,x5,x6]
   refine nU 16 rfl ?_
   simp only [x0,x1,x2,x3,x4,x5,x6]
   refine nU 17 rfl ?_
   simp only [x0,x1,x2,x3,x4,x5,x6]
   refine nU 18 rfl ?_
   simp only [x0,x1,x2,x3,x4,x5,x6]
   refine nU 19 rfl ?_
   simp only [x0,x1,x2,x3,x4,x5,x6]
   refine nU 20 rfl ?_
   simp only [x0,x1,x2,x3,x4,x5,x6]
   refine nU 21 rfl ?_
   simp only [x0,x1,x2,x3,x4,x5,x6]
   refine nU 22 rfl ?_
   simp only [x0,x1,x2,x3,x4,x5,x6]
   refine nT 23 (.bool true) rfl ?_
   simp only [x0,x1,x2,x3,x4,x5,x6]
   refine wpAnyH_done (by kernel_rfl) ?_ _
   go_wp2_with fail
   go_meet
   exact ⟨rfl, (Below.refl _ _).drew⟩
  by_cases g2 : 200 ≤ num
  ·obtain rfl : nb = false := by rw [HNB.out, decide_eq_false (show ¬ num ≤ 199 by omega)]; simp
   refine wp_region_held_drew (S := (fun V => V.cell? ⟨zl, 3, .none⟩ = some (.slice (some ⟨b, o, .none⟩) n pc) ∧ V.cell? ⟨g, 0, .none⟩ = some (.int .i64 num))) (by kernel_rfl) ⟨kl, k0⟩ (fun hHeld => ?_)
   refine nT 0 (.pointer (some ⟨g, 0, .none⟩)) rfl ?_
   simp only [x0,x1,x2,x3,x4,x5,x6]
   refine nT 1 (.int .i64 num) rfl ?_
   simp only [x0,x1,x2,x3,x4,x5,x6]
   refine nT 2 (.bool false) rfl ?_
   simp only [x0,x1,x2,x3,x4,x5,x6]
   refine nT 3 (.bool false) rfl ?_
   simp only [x0,x1,x2,x3,x4,x5,x6]
   refine nT 4 (.pointer (some ⟨g, 0, .none⟩)) rfl ?_
   simp only [x0,x1,x2,x3,x4,x5,x6]
   refine nT 5 (.int .i64 num) rfl ?_
   simp only [x0,x1,x2,x3,x4,x5,x6]
   refine nT 6 (.bool true) rfl ?_
   simp only [x0,x1,x2,x3,x4,x5,x6]
   refine nT 7 (.bool true) rfl ?_
   simp only [x0,x1,x2,x3,x4,x5,x6]
   refine nT 8 (.bool true) rfl ?_
   simp only [x0,x1,x2,x3,x4,x5,x6]
   refine nU 9 rfl ?_
   simp only [x0,x1,x2,x3,x4,x5,x6]
   refine nU 10 rfl ?_
   simp only [x0,x1,x2,x3,x4,x5,x6]
   refine nU 11 rfl ?_
   simp only [x0,x1,x2,x3,x4,x5,x6]
   refine nU 12 rfl ?_
   simp only [x0,x1,x2,x3,x4,x5,x6]
   refine nU 13 rfl ?_
   simp only [x0,x1,x2,x3,x4,x5,x6]
   refine nU 14 rfl ?_
   simp only [x0,x1,x2,x3,x4,x5,x6]
   refine nU 15 rfl ?_
   simp only [x0,x1,x2,x3,x4,x5,x6]
   refine nU 16 rfl ?_
   simp only [x0,x1,x2,x3,x4,x5,x6]
   refine nU 17 rfl ?_
   simp only [x0,x1,x2,x3,x4,x5,x6]
   refine nU 18 rfl ?_
   simp only [x0,x1,x2,x3,x4,x5,x6]
   refine nU 19 rfl ?_
   simp only [x0,x1,x2,x3,x4,x5,x6]
   refine nU 20 rfl ?_
   simp only [x0,x1,x2,x3,x4,x5,x6]
   refine nU 21 rfl ?_
   simp only [x0,x1,x2,x3,x4,x5,x6]
   refine nU 22 rfl ?_
   simp only [x0,x1,x2,x3,x4,x5,x6]
   refine nT 23 (.bool true) rfl ?_
   simp only [x0,x1,x2,x3,x4,x5,x6]
   refine wpAnyH_done (by kernel_rfl) ?_ _
   go_wp2_with fail
   go_meet
   exact ⟨rfl, (Below.refl _ _).drew⟩
  by_cases g3 : i = 0
  ·obtain rfl : nb = true := by rw [HNB.out, decide_eq_true (show 1 ≤ num by omega), decide_eq_true (show num ≤ 199 by omega), decide_eq_true g3]; rfl
   have g4 : ¬ (0 : Int) < i := by omega
   have HG3 : Hid (i = 0) := g3
   clear g3
   refine wp_region_held_drew (S := (fun V => V.cell? ⟨zl, 3, .none⟩ = some (.slice (some ⟨b, o, .none⟩) n pc) ∧ V.cell? ⟨g, 0, .none⟩ = some (.int .i64 num))) (by kernel_rfl) ⟨kl, k0⟩ (fun hHeld => ?_)
   refine nT 0 (.pointer (some ⟨g, 0, .none⟩)) rfl ?_ (fun ww hSw => by (try dsimp only at hSw); go_simp <;> exact HG3.out)
   simp only [x0,x1,x2,x3,x4,x5,x6]
   refine nT 1 (.int .i64 num) rfl ?_ (fun ww hSw => by (try dsimp only at hSw); go_simp <;> exact HG3.out)
   simp only [x0,x1,x2,x3,x4,x5,x6]
   refine nT 2 (.bool false) rfl ?_ (fun ww hSw => by (try dsimp only at hSw); go_simp <;> exact HG3.out)
   simp only [x0,x1,x2,x3,x4,x5,x6]
   refine nT 3 (.bool false) rfl ?_ (fun ww hSw => by (try dsimp only at hSw); go_simp <;> exact HG3.out)
   simp only [x0,x1,x2,x3,x4,x5,x6]
   refine nT 4 (.pointer (some ⟨g, 0, .none⟩)) rfl ?_ (fun ww hSw => by (try dsimp only at hSw); go_simp <;> exact HG3.out)
   simp only [x0,x1,x2,x3,x4,x5,x6]
   refine nT 5 (.int .i64 num) rfl ?_ (fun ww hSw => by (try dsimp only at hSw); go_simp <;> exact HG3.out)
   simp only [x0,x1,x2,x3,x4,x5,x6]
   refine nT 6 (.bool false) rfl ?_ (fun ww hSw => by (try dsimp only at hSw); go_simp <;> exact HG3.out)
   simp only [x0,x1,x2,x3,x4,x5,x6]
   refine nT 7 (.bool false) rfl ?_ (fun ww hSw => by (try dsimp only at hSw); go_simp <;> exact HG3.out)
   simp only [x0,x1,x2,x3,x4,x5,x6]
   refine nT 8 (.bool false) rfl ?_ (fun ww hSw => by (try dsimp only at hSw); go_simp <;> exact HG3.out)
   simp only [x0,x1,x2,x3,x4,x5,x6]
   refine nT 9 (.int .i64 i) rfl ?_ (fun ww hSw => by (try dsimp only at hSw); go_simp <;> exact HG3.out)
   simp only [x0,x1,x2,x3,x4,x5,x6]
   refine nT 10 (.bool false) rfl ?_ (fun ww hSw => by (try dsimp only at hSw); go_simp <;> exact HG3.out)
   simp only [x0,x1,x2,x3,x4,x5,x6]
   refine nT 11 (.bool false) rfl ?_ (fun ww hSw => by (try dsimp only at hSw); go_simp <;> exact HG3.out)
   simp only [x0,x1,x2,x3,x4,x5,x6]
   refine nU 12 rfl ?_
   simp only [x0,x1,x2,x3,x4,x5,x6]
   refine nU 13 rfl ?_
   simp only [x0,x1,x2,x3,x4,x5,x6]
   refine nU 14 rfl ?_
   simp only [x0,x1,x2,x3,x4,x5,x6]
   refine nU 15 rfl ?_
   simp only [x0,x1,x2,x3,x4,x5,x6]
   refine nU 16 rfl ?_
   simp only [x0,x1,x2,x3,x4,x5,x6]
   refine nU 17 rfl ?_
   simp only [x0,x1,x2,x3,x4,x5,x6]
   refine nU 18 rfl ?_
   simp only [x0,x1,x2,x3,x4,x5,x6]
   refine nU 19 rfl ?_
   simp only [x0,x1,x2,x3,x4,x5,x6]
   refine nU 20 rfl ?_
   simp only [x0,x1,x2,x3,x4,x5,x6]
   refine nU 21 rfl ?_
   simp only [x0,x1,x2,x3,x4,x5,x6]
   refine nT 22 (.bool false) rfl ?_ (fun ww hSw => by (try dsimp only at hSw); go_simp <;> exact HG3.out)
   simp only [x0,x1,x2,x3,x4,x5,x6]
   refine nT 23 (.bool false) rfl ?_ (fun ww hSw => by (try dsimp only at hSw); go_simp <;> exact HG3.out)
   simp only [x0,x1,x2,x3,x4,x5,x6]
   refine wpAnyH_done (by kernel_rfl) ?_ _
   go_wp2_with fail
   go_meet
   exact ⟨rfl, (Below.refl _ _).drew⟩
  obtain ⟨pr, hpr, hpc⟩ := HPR.out g3
  have HPP : Hid (nb = decide (pr < num)) := by show _ = _; rw [HNB.out, hpr, decide_eq_true (show 1 ≤ num by omega), decide_eq_true (show num ≤ 199 by omega), decide_eq_false g3]; rfl
  obtain ⟨j, rfl⟩ : ∃ j, i = j + 1 := ⟨i - 1, by omega⟩
  rw [Nat.add_sub_cancel] at hpc
  clear HNB HQ HPR hpr g3 HRC
  have g4 : (0 : Int) < ((j + 1 : Nat) : Int) := by omega
  have g6 : IntKind.i64.wrap (j : Int) = j := by rw [IntKind.wrap_i64]; omega
  have g7 : ¬ n ≤ j := by omega
  by_cases g5 : num ≤ pr
  ·obtain rfl : nb = false := by rw [HPP.out, decide_eq_false (by omega)]
   refine wp_region_held_drew (S := (fun V => V.cell? ⟨zl, 3, .none⟩ = some (.slice (some ⟨b, o, .none⟩) n pc) ∧ V.cell? ⟨g, 0, .none⟩ = some (.int .i64 num) ∧ V.cell? ⟨b, o + j * 8, .none⟩ = some (.int .i64 pr))) (by kernel_rfl) ⟨kl, k0, hpc⟩ (fun hHeld => ?_)
   refine nT 0 (.pointer (some ⟨g, 0, .none⟩)) rfl ?_
   simp only [x0,x1,x2,x3,x4,x5,x6]
   refine nT 1 (.int .i64 num) rfl ?_
   simp only [x0,x1,x2,x3,x4,x5,x6]
   refine nT 2 (.bool false) rfl ?_
   simp only [x0,x1,x2,x3,x4,x5,x6]
   refine nT 3 (.bool false) rfl ?_
   simp only [x0,x1,x2,x3,x4,x5,x6]
   refine nT 4 (.pointer (some ⟨g, 0, .none⟩)) rfl ?_
   simp only [x0,x1,x2,x3,x4,x5,x6]
   refine nT 5 (.int .i64 num) rfl ?_
   simp only [x0,x1,x2,x3,x4,x5,x6]
   refine nT 6 (.bool false) rfl ?_
   simp only [x0,x1,x2,x3,x4,x5,x6]
   refine nT 7 (.bool false) rfl ?_
   simp only [x0,x1,x2,x3,x4,x5,x6]
   refine nT 8 (.bool false) rfl ?_
   simp only [x0,x1,x2,x3,x4,x5,x6]
   refine nT 9 (.int .i64 ((j + 1 : Nat) : Int)) rfl ?_
   simp only [x0,x1,x2,x3,x4,x5,x6]
   refine nT 10 (.bool true) rfl ?_
   simp only [x0,x1,x2,x3,x4,x5,x6]
   refine nT 11 (.bool true) rfl ?_
   simp only [x0,x1,x2,x3,x4,x5,x6]
   refine nT 12 (.pointer (some ⟨g, 0, .none⟩)) rfl ?_
   simp only [x0,x1,x2,x3,x4,x5,x6]
   refine nT 13 (.int .i64 num) rfl ?_
   simp only [x0,x1,x2,x3,x4,x5,x6]
   refine nT 14 (.pointer (some ⟨zl, 3, .none⟩)) rfl ?_
   simp only [x0,x1,x2,x3,x4,x5,x6]
   refine nT 15 (.slice (some ⟨b, o, .none⟩) n pc) rfl ?_
   simp only [x0,x1,x2,x3,x4,x5,x6]
   refine nT 16 (.int .i64 ((j + 1 : Nat) : Int)) rfl ?_
   simp only [x0,x1,x2,x3,x4,x5,x6]
   refine nT 17 (.int .i64 j) rfl ?_
   simp only [x0,x1,x2,x3,x4,x5,x6]
   refine nT 18 (.pointer (some ⟨b, o + j * 8, .none⟩)) rfl ?_
   simp only [x0,x1,x2,x3,x4,x5,x6]
   refine nT 19 (.pointer (some ⟨b, o + j * 8, .none⟩)) rfl ?_
   simp only [x0,x1,x2,x3,x4,x5,x6]
   refine nT 20 (.int .i64 pr) rfl ?_
   simp only [x0,x1,x2,x3,x4,x5,x6]
   refine nT 21 (.bool true) rfl ?_
   simp only [x0,x1,x2,x3,x4,x5,x6]
   refine nT 22 (.bool true) rfl ?_
   simp only [x0,x1,x2,x3,x4,x5,x6]
   refine nT 23 (.bool true) rfl ?_
   simp only [x0,x1,x2,x3,x4,x5,x6]
   refine wpAnyH_done (by kernel_rfl) ?_ _
   go_wp2_with fail
   go_meet
   exact ⟨rfl, (Below.refl _ _).drew⟩
  ·obtain rfl : nb = true := by rw [HPP.out, decide_eq_true (by omega)]
   refine wp_region_held_drew (S := (fun V => V.cell? ⟨zl, 3, .none⟩ = some (.slice (some ⟨b, o, .none⟩) n pc) ∧ V.cell? ⟨g, 0, .none⟩ = some (.int .i64 num) ∧ V.cell? ⟨b, o + j * 8, .none⟩ = some (.int .i64 pr))) (by kernel_rfl) ⟨kl, k0, hpc⟩ (fun hHeld => ?_)
   refine nT 0 (.pointer (some ⟨g, 0, .none⟩)) rfl ?_
   simp only [x0,x1,x2,x3,x4,x5,x6]
   refine nT 1 (.int .i64 num) rfl ?_
   simp only [x0,x1,x2,x3,x4,x5,x6]
   refine nT 2 (.bool false) rfl ?_
   simp only [x0,x1,x2,x3,x4,x5,x6]
   refine nT 3 (.bool false) rfl ?_
   simp only [x0,x1,x2,x3,x4,x5,x6]
   refine nT 4 (.pointer (some ⟨g, 0, .none⟩)) rfl ?_
   simp only [x0,x1,x2,x3,x4,x5,x6]
   refine nT 5 (.int .i64 num) rfl ?_
   simp only [x0,x1,x2,x3,x4,x5,x6]
   refine nT 6 (.bool false) rfl ?_
   simp only [x0,x1,x2,x3,x4,x5,x6]
   refine nT 7 (.bool false) rfl ?_
   simp only [x0,x1,x2,x3,x4,x5,x6]
   refine nT 8 (.bool false) rfl ?_
   simp only [x0,x1,x2,x3,x4,x5,x6]
   refine nT 9 (.int .i64 ((j + 1 : Nat) : Int)) rfl ?_
   simp only [x0,x1,x2,x3,x4,x5,x6]
   refine nT 10 (.bool true) rfl ?_
   simp only [x0,x1,x2,x3,x4,x5,x6]
   refine nT 11 (.bool true) rfl ?_
   simp only [x0,x1,x2,x3,x4,x5,x6]
   refine nT 12 (.pointer (some ⟨g, 0, .none⟩)) rfl ?_
   simp only [x0,x1,x2,x3,x4,x5,x6]
   refine nT 13 (.int .i64 num) rfl ?_
   simp only [x0,x1,x2,x3,x4,x5,x6]
   refine nT 14 (.pointer (some ⟨zl, 3, .none⟩)) rfl ?_
   simp only [x0,x1,x2,x3,x4,x5,x6]
   refine nT 15 (.slice (some ⟨b, o, .none⟩) n pc) rfl ?_
   simp only [x0,x1,x2,x3,x4,x5,x6]
   refine nT 16 (.int .i64 ((j + 1 : Nat) : Int)) rfl ?_
   simp only [x0,x1,x2,x3,x4,x5,x6]
   refine nT 17 (.int .i64 j) rfl ?_
   simp only [x0,x1,x2,x3,x4,x5,x6]
   refine nT 18 (.pointer (some ⟨b, o + j * 8, .none⟩)) rfl ?_
   simp only [x0,x1,x2,x3,x4,x5,x6]
   refine nT 19 (.pointer (some ⟨b, o + j * 8, .none⟩)) rfl ?_
   simp only [x0,x1,x2,x3,x4,x5,x6]
   refine nT 20 (.int .i64 pr) rfl ?_
   simp only [x0,x1,x2,x3,x4,x5,x6]
   refine nT 21 (.bool false) rfl ?_
   simp only [x0,x1,x2,x3,x4,x5,x6]
   refine nT 22 (.bool false) rfl ?_
   simp only [x0,x1,x2,x3,x4,x5,x6]
   refine nT 23 (.bool false) rfl ?_
   simp only [x0,x1,x2,x3,x4,x5,x6]
   refine wpAnyH_done (by kernel_rfl) ?_ _
   go_wp2_with fail
   go_meet
   exact ⟨rfl, (Below.refl _ _).drew⟩
 case rest =>
  rename World => wa
  obtain ⟨rfl, HC⟩ := hcut
  have HBC : Hid (Below w.heap.size w wa) := HB2.out.trans (HC.out.mono HB2.out.size)
  have HWC : Hid (∀ V, Below wa.heap.size wa V → V.heap[zl]? = some (.cells lc.toArray 31) ∧ V.heap[g]? = some (.cells (x.l (.slice bp bn2 bcap)).toArray 63) ∧ V.heap[w.heap.size]? = some (.cells wc0.toArray 41)) := fun V hV => HW2.out V (HC.out.trans (hV.mono HC.out.size))
  clear k0 HPR HNB HC HW2 HB2 kl
  cases nb
  ·have HF : Hid (okI L (nfA L) i x = false) := by show _ = _; rw [HQ.out]; rfl
   go_wp2
   go_ret
   exact ⟨by rw [HF.out]; rfl, HBC.out⟩
  obtain ⟨k5, k4, k6, k0⟩ : wa.cell? ⟨g, 5, .none⟩ = some (.int .i64 refs) ∧ wa.cell? ⟨g, 4, .none⟩ = some (.int .i64 links) ∧ wa.cell? ⟨g, 6, .none⟩ = some (.int .i64 size) ∧ wa.cell? ⟨g, 0, .none⟩ = some (.int .i64 num) := by
   have h2 := (HWC.out _ (Below.refl _ _)).2.1
   rw [HV.out.1, HV.out.2.1, HV.out.2.2.1, HV.out.2.2.2.2]
   exact ⟨cell_heap (o := 5) h2, cell_heap (o := 4) h2, cell_heap (o := 6) h2, cell_heap (o := 0) h2⟩
  have kc : wa.cell? ⟨w.heap.size, 2, .none⟩ = some (.slice (some ⟨bc, oc, .none⟩) n cc) := by have := cell_heap (o := 2) (HWC.out _ (Below.refl _ _)).2.2; rw [List.getElem?_toArray, HL.out.2.2.1] at this; exact this
  have kn : wa.cell? ⟨bc, oc + i * 3 + 2, .none⟩ = some (.int .i64 nm) := by rw [HV.out.2.2.2.1]; exact range_keep HRC.out HBC.out HBCC.out 2 _ rfl
  obtain ⟨mb, hmb⟩ : ∃ mb, mb = ((refs == nm) && ((links != 0 || (refs != 0 || num == 1)) && decide (0 ≤ size))) := ⟨_, rfl⟩
  have HMB : Hid (mb = ((refs == nm) && ((links != 0 || (refs != 0 || num == 1)) && decide (0 ≤ size)))) := hmb
  have HQ2 : Hid (okI L (nfA L) i x = (mb && ((bn2 : Int) == bg size 4096))) := by show _ = _; rw [HQ.out, hmb, Bool.true_and, Bool.and_assoc, Bool.and_assoc]
  have HSZ : Hid (mb = true → 0 ≤ size) := fun e => by
   rw [hmb] at e
   simp at e
   exact e.2.2
  clear hmb HQ
  go_upto_region 4 with fail
  go_cut [66] (fun s wd => s = .bool (!mb) ∧ Hid (Below wa.heap.size wa wd))
  case first => as_aux_lemma =>
   by_cases g1 : refs = nm
   case neg =>
    have e1 : (refs != nm) = true := by simp [g1]
    obtain rfl : mb = false := by rw [HMB.out, show (refs == nm) = false by simp [g1]]; rfl
    clear g1
    refine wp_region_held_drew (S := (fun V => V.cell? ⟨g, 5, .none⟩ = some (.int .i64 refs) ∧ V.cell? ⟨w.heap.size, 2, .none⟩ = some (.slice (some ⟨bc, oc, .none⟩) n cc) ∧ V.cell? ⟨bc, oc + i * 3 + 2, .none⟩ = some (.int .i64 nm) ∧ V.cell? ⟨g, 4, .none⟩ = some (.int .i64 links) ∧ V.cell? ⟨g, 0, .none⟩ = some (.int .i64 num) ∧ V.cell? ⟨g, 6, .none⟩ = some (.int .i64 size))) (by kernel_rfl) ⟨k5, kc, kn, k4, k0, k6⟩ (fun hHeld => ?_)
    refine nT 0 (.pointer (some ⟨g, 5, .none⟩)) rfl ?_
    simp only [x0,x1,x2,x3,x4,x5,x6]
    refine nT 1 (.int .i64 refs) rfl ?_
    simp only [x0,x1,x2,x3,x4,x5,x6]
    refine nT 2 (.pointer (some ⟨w.heap.size, 2, .none⟩)) rfl ?_
    simp only [x0,x1,x2,x3,x4,x5,x6]
    refine nT 3 (.slice (some ⟨bc, oc, .none⟩) n cc) rfl ?_
    simp only [x0,x1,x2,x3,x4,x5,x6]
    refine nT 4 (.int .i64 i) rfl ?_
    simp only [x0,x1,x2,x3,x4,x5,x6]
    refine nT 5 (.pointer (some ⟨bc, oc + i * 3, .none⟩)) rfl ?_
    simp only [x0,x1,x2,x3,x4,x5,x6]
    refine nT 6 (.pointer (some ⟨bc, oc + i * 3 + 2, .none⟩)) rfl ?_
    simp only [x0,x1,x2,x3,x4,x5,x6]
    refine nT 7 (.int .i64 nm) rfl ?_
    simp only [x0,x1,x2,x3,x4,x5,x6]
    refine nT 8 (.bool true) rfl ?_
    simp only [x0,x1,x2,x3,x4,x5,x6]
    refine nT 9 (.bool true) rfl ?_
    simp only [x0,x1,x2,x3,x4,x5,x6]
    refine nU 10 rfl ?_
    simp only [x0,x1,x2,x3,x4,x5,x6]
    refine nU 11 rfl ?_
    simp only [x0,x1,x2,x3,x4,x5,x6]
    refine nU 12 rfl ?_
    simp only [x0,x1,x2,x3,x4,x5,x6]
    refine nU 13 rfl ?_
    simp only [x0,x1,x2,x3,x4,x5,x6]
    refine nU 14 rfl ?_
    simp only [x0,x1,x2,x3,x4,x5,x6]
    refine nU 15 rfl ?_
    simp only [x0,x1,x2,x3,x4,x5,x6]
    refine nU 16 rfl ?_
    simp only [x0,x1,x2,x3,x4,x5,x6]
    refine nU 17 rfl ?_
    simp only [x0,x1,x2,x3,x4,x5,x6]
    refine nU 18 rfl ?_
    simp only [x0,x1,x2,x3,x4,x5,x6]
    refine nU 19 rfl ?_
    simp only [x0,x1,x2,x3,x4,x5,x6]
    refine nU 20 rfl ?_
    simp only [x0,x1,x2,x3,x4,x5,x6]
    refine nU 21 rfl ?_
    simp only [x0,x1,x2,x3,x4,x5,x6]
    refine nU 22 rfl ?_
    simp only [x0,x1,x2,x3,x4,x5,x6]
    refine nT 23 (.bool true) rfl ?_
    simp only [x0,x1,x2,x3,x4,x5,x6]
    refine nT 24 (.bool true) rfl ?_
    simp only [x0,x1,x2,x3,x4,x5,x6]
    refine nU 25 rfl ?_
    simp only [x0,x1,x2,x3,x4,x5,x6]
    refine nU 26 rfl ?_
    simp only [x0,x1,x2,x3,x4,x5,x6]
    refine nU 27 rfl ?_
    simp only [x0,x1,x2,x3,x4,x5,x6]
    refine nT 28 (.bool true) rfl ?_
    simp only [x0,x1,x2,x3,x4,x5,x6]
    refine wpAnyH_done (by kernel_rfl) ?_ _
    go_wp2_with fail
    go_meet
    exact ⟨rfl, (Below.refl _ _).drew⟩
   have e1 : (refs != nm) = false := by simp [g1]
   have HE1 : Hid ((refs == nm) = true) := by show _ = _; simp [g1]
   clear g1
   obtain ⟨c2, hc2⟩ : ∃ c, (links == 0) = c := ⟨_, rfl⟩
   obtain ⟨c3, hc3⟩ : ∃ c, (refs == 0) = c := ⟨_, rfl⟩
   obtain ⟨c4, hc4⟩ : ∃ c, (num != 1) = c := ⟨_, rfl⟩
   have HM2 : Hid (mb = ((!c2 || (!c3 || !c4)) && decide (0 ≤ size))) := by
    show _ = _
    rw [HMB.out, HE1.out, ← hc2, ← hc3, ← hc4]
    simp [bne]
   by_cases g5 : size < 0
   ·obtain rfl : mb = false := by rw [HM2.out, decide_eq_false (by omega)]; simp
    clear HMB HM2 HE1 HQ2 HSZ
    cases c2
    ·as_aux_lemma =>
      refine wp_region_held_drew (S := (fun V => V.cell? ⟨g, 5, .none⟩ = some (.int .i64 refs) ∧ V.cell? ⟨w.heap.size, 2, .none⟩ = some (.slice (some ⟨bc, oc, .none⟩) n cc) ∧ V.cell? ⟨bc, oc + i * 3 + 2, .none⟩ = some (.int .i64 nm) ∧ V.cell? ⟨g, 4, .none⟩ = some (.int .i64 links) ∧ V.cell? ⟨g, 0, .none⟩ = some (.int .i64 num) ∧ V.cell? ⟨g, 6, .none⟩ = some (.int .i64 size))) (by kernel_rfl) ⟨k5, kc, kn, k4, k0, k6⟩ (fun hHeld => ?_)
      refine nT 0 (.pointer (some ⟨g, 5, .none⟩)) rfl ?_
      simp only [x0,x1,x2,x3,x4,x5,x6]
      refine nT 1 (.int .i64 refs) rfl ?_
      simp only [x0,x1,x2,x3,x4,x5,x6]
      refine nT 2 (.pointer (some ⟨w.heap.size, 2, .none⟩)) rfl ?_
      simp only [x0,x1,x2,x3,x4,x5,x6]
      refine nT 3 (.slice (some ⟨bc, oc, .none⟩) n cc) rfl ?_
      simp only [x0,x1,x2,x3,x4,x5,x6]
      refine nT 4 (.int .i64 i) rfl ?_
      simp only [x0,x1,x2,x3,x4,x5,x6]
      refine nT 5 (.pointer (some ⟨bc, oc + i * 3, .none⟩)) rfl ?_
      simp only [x0,x1,x2,x3,x4,x5,x6]
      refine nT 6 (.pointer (some ⟨bc, oc + i * 3 + 2, .none⟩)) rfl ?_
      simp only [x0,x1,x2,x3,x4,x5,x6]
      refine nT 7 (.int .i64 nm) rfl ?_
      simp only [x0,x1,x2,x3,x4,x5,x6]
      refine nT 8 (.bool false) rfl ?_
      simp only [x0,x1,x2,x3,x4,x5,x6]
      refine nT 9 (.bool false) rfl ?_
      simp only [x0,x1,x2,x3,x4,x5,x6]
      refine nT 10 (.pointer (some ⟨g, 4, .none⟩)) rfl ?_
      simp only [x0,x1,x2,x3,x4,x5,x6]
      refine nT 11 (.int .i64 links) rfl ?_
      simp only [x0,x1,x2,x3,x4,x5,x6]
      refine nT 12 (.bool false) rfl ?_
      simp only [x0,x1,x2,x3,x4,x5,x6]
      refine nT 13 (.bool false) rfl ?_
      simp only [x0,x1,x2,x3,x4,x5,x6]
      refine nU 14 rfl ?_
      simp only [x0,x1,x2,x3,x4,x5,x6]
      refine nU 15 rfl ?_
      simp only [x0,x1,x2,x3,x4,x5,x6]
      refine nU 16 rfl ?_
      simp only [x0,x1,x2,x3,x4,x5,x6]
      refine nT 17 (.bool false) rfl ?_
      simp only [x0,x1,x2,x3,x4,x5,x6]
      refine nT 18 (.bool false) rfl ?_
      simp only [x0,x1,x2,x3,x4,x5,x6]
      refine nU 19 rfl ?_
      simp only [x0,x1,x2,x3,x4,x5,x6]
      refine nU 20 rfl ?_
      simp only [x0,x1,x2,x3,x4,x5,x6]
      refine nU 21 rfl ?_
      simp only [x0,x1,x2,x3,x4,x5,x6]
      refine nT 22 (.bool false) rfl ?_
      simp only [x0,x1,x2,x3,x4,x5,x6]
      refine nT 23 (.bool false) rfl ?_
      simp only [x0,x1,x2,x3,x4,x5,x6]
      refine nT 24 (.bool false) rfl ?_
      simp only [x0,x1,x2,x3,x4,x5,x6]
      refine nT 25 (.pointer (some ⟨g, 6, .none⟩)) rfl ?_
      simp only [x0,x1,x2,x3,x4,x5,x6]
      refine nT 26 (.int .i64 size) rfl ?_
      simp only [x0,x1,x2,x3,x4,x5,x6]
      refine nT 27 (.bool true) rfl ?_
      simp only [x0,x1,x2,x3,x4,x5,x6]
      refine nT 28 (.bool true) rfl ?_
      simp only [x0,x1,x2,x3,x4,x5,x6]
      refine wpAnyH_done (by kernel_rfl) ?_ _
      go_wp2_with fail
      go_meet
      exact ⟨rfl, (Below.refl _ _).drew⟩
    cases c3
    ·as_aux_lemma =>
      refine wp_region_held_drew (S := (fun V => V.cell? ⟨g, 5, .none⟩ = some (.int .i64 refs) ∧ V.cell? ⟨w.heap.size, 2, .none⟩ = some (.slice (some ⟨bc, oc, .none⟩) n cc) ∧ V.cell? ⟨bc, oc + i * 3 + 2, .none⟩ = some (.int .i64 nm) ∧ V.cell? ⟨g, 4, .none⟩ = some (.int .i64 links) ∧ V.cell? ⟨g, 0, .none⟩ = some (.int .i64 num) ∧ V.cell? ⟨g, 6, .none⟩ = some (.int .i64 size))) (by kernel_rfl) ⟨k5, kc, kn, k4, k0, k6⟩ (fun hHeld => ?_)
      refine nT 0 (.pointer (some ⟨g, 5, .none⟩)) rfl ?_
      simp only [x0,x1,x2,x3,x4,x5,x6]
      refine nT 1 (.int .i64 refs) rfl ?_
      simp only [x0,x1,x2,x3,x4,x5,x6]
      refine nT 2 (.pointer (some ⟨w.heap.size, 2, .none⟩)) rfl ?_
      simp only [x0,x1,x2,x3,x4,x5,x6]
      refine nT 3 (.slice (some ⟨bc, oc, .none⟩) n cc) rfl ?_
      simp only [x0,x1,x2,x3,x4,x5,x6]
      refine nT 4 (.int .i64 i) rfl ?_
      simp only [x0,x1,x2,x3,x4,x5,x6]
      refine nT 5 (.pointer (some ⟨bc, oc + i * 3, .none⟩)) rfl ?_
      simp only [x0,x1,x2,x3,x4,x5,x6]
      refine nT 6 (.pointer (some ⟨bc, oc + i * 3 + 2, .none⟩)) rfl ?_
      simp only [x0,x1,x2,x3,x4,x5,x6]
      refine nT 7 (.int .i64 nm) rfl ?_
      simp only [x0,x1,x2,x3,x4,x5,x6]
      refine nT 8 (.bool false) rfl ?_
      simp only [x0,x1,x2,x3,x4,x5,x6]
      refine nT 9 (.bool false) rfl ?_
      simp only [x0,x1,x2,x3,x4,x5,x6]
      refine nT 10 (.pointer (some ⟨g, 4, .none⟩)) rfl ?_
      simp only [x0,x1,x2,x3,x4,x5,x6]
      refine nT 11 (.int .i64 links) rfl ?_
      simp only [x0,x1,x2,x3,x4,x5,x6]
      refine nT 12 (.bool true) rfl ?_
      simp only [x0,x1,x2,x3,x4,x5,x6]
      refine nT 13 (.bool true) rfl ?_
      simp only [x0,x1,x2,x3,x4,x5,x6]
      refine nT 14 (.pointer (some ⟨g, 5, .none⟩)) rfl ?_
      simp only [x0,x1,x2,x3,x4,x5,x6]
      refine nT 15 (.int .i64 refs) rfl ?_
      simp only [x0,x1,x2,x3,x4,x5,x6]
      refine nT 16 (.bool false) rfl ?_
      simp only [x0,x1,x2,x3,x4,x5,x6]
      refine nT 17 (.bool false) rfl ?_
      simp only [x0,x1,x2,x3,x4,x5,x6]
      refine nT 18 (.bool false) rfl ?_
      simp only [x0,x1,x2,x3,x4,x5,x6]
      refine nU 19 rfl ?_
      simp only [x0,x1,x2,x3,x4,x5,x6]
      refine nU 20 rfl ?_
      simp only [x0,x1,x2,x3,x4,x5,x6]
      refine nU 21 rfl ?_
      simp only [x0,x1,x2,x3,x4,x5,x6]
      refine nT 22 (.bool false) rfl ?_
      simp only [x0,x1,x2,x3,x4,x5,x6]
      refine nT 23 (.bool false) rfl ?_
      simp only [x0,x1,x2,x3,x4,x5,x6]
      refine nT 24 (.bool false) rfl ?_
      simp only [x0,x1,x2,x3,x4,x5,x6]
      refine nT 25 (.pointer (some ⟨g, 6, .none⟩)) rfl ?_
      simp only [x0,x1,x2,x3,x4,x5,x6]
      refine nT 26 (.int .i64 size) rfl ?_
      simp only [x0,x1,x2,x3,x4,x5,x6]
      refine nT 27 (.bool true) rfl ?_
      simp only [x0,x1,x2,x3,x4,x5,x6]
      refine nT 28 (.bool true) rfl ?_
      simp only [x0,x1,x2,x3,x4,x5,x6]
      refine wpAnyH_done (by kernel_rfl) ?_ _
      go_wp2_with fail
      go_meet
      exact ⟨rfl, (Below.refl _ _).drew⟩
    cases c4
    ·as_aux_lemma =>
      refine wp_region_held_drew (S := (fun V => V.cell? ⟨g, 5, .none⟩ = some (.int .i64 refs) ∧ V.cell? ⟨w.heap.size, 2, .none⟩ = some (.slice (some ⟨bc, oc, .none⟩) n cc) ∧ V.cell? ⟨bc, oc + i * 3 + 2, .none⟩ = some (.int .i64 nm) ∧ V.cell? ⟨g, 4, .none⟩ = some (.int .i64 links) ∧ V.cell? ⟨g, 0, .none⟩ = some (.int .i64 num) ∧ V.cell? ⟨g, 6, .none⟩ = some (.int .i64 size))) (by kernel_rfl) ⟨k5, kc, kn, k4, k0, k6⟩ (fun hHeld => ?_)
      refine nT 0 (.pointer (some ⟨g, 5, .none⟩)) rfl ?_
      simp only [x0,x1,x2,x3,x4,x5,x6]
      refine nT 1 (.int .i64 refs) rfl ?_
      simp only [x0,x1,x2,x3,x4,x5,x6]
      refine nT 2 (.pointer (some ⟨w.heap.size, 2, .none⟩)) rfl ?_
      simp only [x0,x1,x2,x3,x4,x5,x6]
      refine nT 3 (.slice (some ⟨bc, oc, .none⟩) n cc) rfl ?_
      simp only [x0,x1,x2,x3,x4,x5,x6]
      refine nT 4 (.int .i64 i) rfl ?_
      simp only [x0,x1,x2,x3,x4,x5,x6]
      refine nT 5 (.pointer (some ⟨bc, oc + i * 3, .none⟩)) rfl ?_
      simp only [x0,x1,x2,x3,x4,x5,x6]
      refine nT 6 (.pointer (some ⟨bc, oc + i * 3 + 2, .none⟩)) rfl ?_
      simp only [x0,x1,x2,x3,x4,x5,x6]
      refine nT 7 (.int .i64 nm) rfl ?_
      simp only [x0,x1,x2,x3,x4,x5,x6]
      refine nT 8 (.bool false) rfl ?_
      simp only [x0,x1,x2,x3,x4,x5,x6]
      refine nT 9 (.bool false) rfl ?_
      simp only [x0,x1,x2,x3,x4,x5,x6]
      refine nT 10 (.pointer (some ⟨g, 4, .none⟩)) rfl ?_
      simp only [x0,x1,x2,x3,x4,x5,x6]
      refine nT 11 (.int .i64 links) rfl ?_
      simp only [x0,x1,x2,x3,x4,x5,x6]
      refine nT 12 (.bool true) rfl ?_
      simp only [x0,x1,x2,x3,x4,x5,x6]
      refine nT 13 (.bool true) rfl ?_
      simp only [x0,x1,x2,x3,x4,x5,x6]
      refine nT 14 (.pointer (some ⟨g, 5, .none⟩)) rfl ?_
      simp only [x0,x1,x2,x3,x4,x5,x6]
      refine nT 15 (.int .i64 refs) rfl ?_
      simp only [x0,x1,x2,x3,x4,x5,x6]
      refine nT 16 (.bool true) rfl ?_
      simp only [x0,x1,x2,x3,x4,x5,x6]
      refine nT 17 (.bool true) rfl ?_
      simp only [x0,x1,x2,x3,x4,x5,x6]
      refine nT 18 (.bool true) rfl ?_
      simp only [x0,x1,x2,x3,x4,x5,x6]
      refine nT 19 (.pointer (some ⟨g, 0, .none⟩)) rfl ?_
      simp only [x0,x1,x2,x3,x4,x5,x6]
      refine nT 20 (.int .i64 num) rfl ?_
      simp only [x0,x1,x2,x3,x4,x5,x6]
      refine nT 21 (.bool false) rfl ?_
      simp only [x0,x1,x2,x3,x4,x5,x6]
      refine nT 22 (.bool false) rfl ?_
      simp only [x0,x1,x2,x3,x4,x5,x6]
      refine nT 23 (.bool false) rfl ?_
      simp only [x0,x1,x2,x3,x4,x5,x6]
      refine nT 24 (.bool false) rfl ?_
      simp only [x0,x1,x2,x3,x4,x5,x6]
      refine nT 25 (.pointer (some ⟨g, 6, .none⟩)) rfl ?_
      simp only [x0,x1,x2,x3,x4,x5,x6]
      refine nT 26 (.int .i64 size) rfl ?_
      simp only [x0,x1,x2,x3,x4,x5,x6]
      refine nT 27 (.bool true) rfl ?_
      simp only [x0,x1,x2,x3,x4,x5,x6]
      refine nT 28 (.bool true) rfl ?_
      simp only [x0,x1,x2,x3,x4,x5,x6]
      refine wpAnyH_done (by kernel_rfl) ?_ _
      go_wp2_with fail
      go_meet
      exact ⟨rfl, (Below.refl _ _).drew⟩
    ·as_aux_lemma =>
      refine wp_region_held_drew (S := (fun V => V.cell? ⟨g, 5, .none⟩ = some (.int .i64 refs) ∧ V.cell? ⟨w.heap.size, 2, .none⟩ = some (.slice (some ⟨bc, oc, .none⟩) n cc) ∧ V.cell? ⟨bc, oc + i * 3 + 2, .none⟩ = some (.int .i64 nm) ∧ V.cell? ⟨g, 4, .none⟩ = some (.int .i64 links) ∧ V.cell? ⟨g, 0, .none⟩ = some (.int .i64 num) ∧ V.cell? ⟨g, 6, .none⟩ = some (.int .i64 size))) (by kernel_rfl) ⟨k5, kc, kn, k4, k0, k6⟩ (fun hHeld => ?_)
      refine nT 0 (.pointer (some ⟨g, 5, .none⟩)) rfl ?_
      simp only [x0,x1,x2,x3,x4,x5,x6]
      refine nT 1 (.int .i64 refs) rfl ?_
      simp only [x0,x1,x2,x3,x4,x5,x6]
      refine nT 2 (.pointer (some ⟨w.heap.size, 2, .none⟩)) rfl ?_
      simp only [x0,x1,x2,x3,x4,x5,x6]
      refine nT 3 (.slice (some ⟨bc, oc, .none⟩) n cc) rfl ?_
      simp only [x0,x1,x2,x3,x4,x5,x6]
      refine nT 4 (.int .i64 i) rfl ?_
      simp only [x0,x1,x2,x3,x4,x5,x6]
      refine nT 5 (.pointer (some ⟨bc, oc + i * 3, .none⟩)) rfl ?_
      simp only [x0,x1,x2,x3,x4,x5,x6]
      refine nT 6 (.pointer (some ⟨bc, oc + i * 3 + 2, .none⟩)) rfl ?_
      simp only [x0,x1,x2,x3,x4,x5,x6]
      refine nT 7 (.int .i64 nm) rfl ?_
      simp only [x0,x1,x2,x3,x4,x5,x6]
      refine nT 8 (.bool false) rfl ?_
      simp only [x0,x1,x2,x3,x4,x5,x6]
      refine nT 9 (.bool false) rfl ?_
      simp only [x0,x1,x2,x3,x4,x5,x6]
      refine nT 10 (.pointer (some ⟨g, 4, .none⟩)) rfl ?_
      simp only [x0,x1,x2,x3,x4,x5,x6]
      refine nT 11 (.int .i64 links) rfl ?_
      simp only [x0,x1,x2,x3,x4,x5,x6]
      refine nT 12 (.bool true) rfl ?_
      simp only [x0,x1,x2,x3,x4,x5,x6]
      refine nT 13 (.bool true) rfl ?_
      simp only [x0,x1,x2,x3,x4,x5,x6]
      refine nT 14 (.pointer (some ⟨g, 5, .none⟩)) rfl ?_
      simp only [x0,x1,x2,x3,x4,x5,x6]
      refine nT 15 (.int .i64 refs) rfl ?_
      simp only [x0,x1,x2,x3,x4,x5,x6]
      refine nT 16 (.bool true) rfl ?_
      simp only [x0,x1,x2,x3,x4,x5,x6]
      refine nT 17 (.bool true) rfl ?_
      simp only [x0,x1,x2,x3,x4,x5,x6]
      refine nT 18 (.bool true) rfl ?_
      simp only [x0,x1,x2,x3,x4,x5,x6]
      refine nT 19 (.pointer (some ⟨g, 0, .none⟩)) rfl ?_
      simp only [x0,x1,x2,x3,x4,x5,x6]
      refine nT 20 (.int .i64 num) rfl ?_
      simp only [x0,x1,x2,x3,x4,x5,x6]
      refine nT 21 (.bool true) rfl ?_
      simp only [x0,x1,x2,x3,x4,x5,x6]
      refine nT 22 (.bool true) rfl ?_
      simp only [x0,x1,x2,x3,x4,x5,x6]
      refine nT 23 (.bool true) rfl ?_
      simp only [x0,x1,x2,x3,x4,x5,x6]
      refine nT 24 (.bool true) rfl ?_
      simp only [x0,x1,x2,x3,x4,x5,x6]
      refine nU 25 rfl ?_
      simp only [x0,x1,x2,x3,x4,x5,x6]
      refine nU 26 rfl ?_
      simp only [x0,x1,x2,x3,x4,x5,x6]
      refine nU 27 rfl ?_
      simp only [x0,x1,x2,x3,x4,x5,x6]
      refine nT 28 (.bool true) rfl ?_
      simp only [x0,x1,x2,x3,x4,x5,x6]
      refine wpAnyH_done (by kernel_rfl) ?_ _
      go_wp2_with fail
      go_meet
      exact ⟨rfl, (Below.refl _ _).drew⟩
   ·have HM3 : Hid (mb = (!c2 || (!c3 || !c4))) := by show _ = _; rw [HM2.out, decide_eq_true (by omega), Bool.and_true]
    clear HMB HM2 HE1 HQ2 HSZ
    cases c2
    ·as_aux_lemma =>
      obtain rfl : mb = true := HM3.out
      refine wp_region_held_drew (S := (fun V => V.cell? ⟨g, 5, .none⟩ = some (.int .i64 refs) ∧ V.cell? ⟨w.heap.size, 2, .none⟩ = some (.slice (some ⟨bc, oc, .none⟩) n cc) ∧ V.cell? ⟨bc, oc + i * 3 + 2, .none⟩ = some (.int .i64 nm) ∧ V.cell? ⟨g, 4, .none⟩ = some (.int .i64 links) ∧ V.cell? ⟨g, 0, .none⟩ = some (.int .i64 num) ∧ V.cell? ⟨g, 6, .none⟩ = some (.int .i64 size))) (by kernel_rfl) ⟨k5, kc, kn, k4, k0, k6⟩ (fun hHeld => ?_)
      refine nT 0 (.pointer (some ⟨g, 5, .none⟩)) rfl ?_
      simp only [x0,x1,x2,x3,x4,x5,x6]
      refine nT 1 (.int .i64 refs) rfl ?_
      simp only [x0,x1,x2,x3,x4,x5,x6]
      refine nT 2 (.pointer (some ⟨w.heap.size, 2, .none⟩)) rfl ?_
      simp only [x0,x1,x2,x3,x4,x5,x6]
      refine nT 3 (.slice (some ⟨bc, oc, .none⟩) n cc) rfl ?_
      simp only [x0,x1,x2,x3,x4,x5,x6]
      refine nT 4 (.int .i64 i) rfl ?_
      simp only [x0,x1,x2,x3,x4,x5,x6]
      refine nT 5 (.pointer (some ⟨bc, oc + i * 3, .none⟩)) rfl ?_
      simp only [x0,x1,x2,x3,x4,x5,x6]
      refine nT 6 (.pointer (some ⟨bc, oc + i * 3 + 2, .none⟩)) rfl ?_
      simp only [x0,x1,x2,x3,x4,x5,x6]
      refine nT 7 (.int .i64 nm) rfl ?_
      simp only [x0,x1,x2,x3,x4,x5,x6]
      refine nT 8 (.bool false) rfl ?_
      simp only [x0,x1,x2,x3,x4,x5,x6]
      refine nT 9 (.bool false) rfl ?_
      simp only [x0,x1,x2,x3,x4,x5,x6]
      refine nT 10 (.pointer (some ⟨g, 4, .none⟩)) rfl ?_
      simp only [x0,x1,x2,x3,x4,x5,x6]
      refine nT 11 (.int .i64 links) rfl ?_
      simp only [x0,x1,x2,x3,x4,x5,x6]
      refine nT 12 (.bool false) rfl ?_
      simp only [x0,x1,x2,x3,x4,x5,x6]
      refine nT 13 (.bool false) rfl ?_
      simp only [x0,x1,x2,x3,x4,x5,x6]
      refine nU 14 rfl ?_
      simp only [x0,x1,x2,x3,x4,x5,x6]
      refine nU 15 rfl ?_
      simp only [x0,x1,x2,x3,x4,x5,x6]
      refine nU 16 rfl ?_
      simp only [x0,x1,x2,x3,x4,x5,x6]
      refine nT 17 (.bool false) rfl ?_
      simp only [x0,x1,x2,x3,x4,x5,x6]
      refine nT 18 (.bool false) rfl ?_
      simp only [x0,x1,x2,x3,x4,x5,x6]
      refine nU 19 rfl ?_
      simp only [x0,x1,x2,x3,x4,x5,x6]
      refine nU 20 rfl ?_
      simp only [x0,x1,x2,x3,x4,x5,x6]
      refine nU 21 rfl ?_
      simp only [x0,x1,x2,x3,x4,x5,x6]
      refine nT 22 (.bool false) rfl ?_
      simp only [x0,x1,x2,x3,x4,x5,x6]
      refine nT 23 (.bool false) rfl ?_
      simp only [x0,x1,x2,x3,x4,x5,x6]
      refine nT 24 (.bool false) rfl ?_
      simp only [x0,x1,x2,x3,x4,x5,x6]
      refine nT 25 (.pointer (some ⟨g, 6, .none⟩)) rfl ?_
      simp only [x0,x1,x2,x3,x4,x5,x6]
      refine nT 26 (.int .i64 size) rfl ?_
      simp only [x0,x1,x2,x3,x4,x5,x6]
      refine nT 27 (.bool false) rfl ?_
      simp only [x0,x1,x2,x3,x4,x5,x6]
      refine nT 28 (.bool false) rfl ?_
      simp only [x0,x1,x2,x3,x4,x5,x6]
      refine wpAnyH_done (by kernel_rfl) ?_ _
      go_wp2_with fail
      go_meet
      exact ⟨rfl, (Below.refl _ _).drew⟩
    cases c3
    ·as_aux_lemma =>
      obtain rfl : mb = true := HM3.out
      refine wp_region_held_drew (S := (fun V => V.cell? ⟨g, 5, .none⟩ = some (.int .i64 refs) ∧ V.cell? ⟨w.heap.size, 2, .none⟩ = some (.slice (some ⟨bc, oc, .none⟩) n cc) ∧ V.cell? ⟨bc, oc + i * 3 + 2, .none⟩ = some (.int .i64 nm) ∧ V.cell? ⟨g, 4, .none⟩ = some (.int .i64 links) ∧ V.cell? ⟨g, 0, .none⟩ = some (.int .i64 num) ∧ V.cell? ⟨g, 6, .none⟩ = some (.int .i64 size))) (by kernel_rfl) ⟨k5, kc, kn, k4, k0, k6⟩ (fun hHeld => ?_)
      refine nT 0 (.pointer (some ⟨g, 5, .none⟩)) rfl ?_
      simp only [x0,x1,x2,x3,x4,x5,x6]
      refine nT 1 (.int .i64 refs) rfl ?_
      simp only [x0,x1,x2,x3,x4,x5,x6]
      refine nT 2 (.pointer (some ⟨w.heap.size, 2, .none⟩)) rfl ?_
      simp only [x0,x1,x2,x3,x4,x5,x6]
      refine nT 3 (.slice (some ⟨bc, oc, .none⟩) n cc) rfl ?_
      simp only [x0,x1,x2,x3,x4,x5,x6]
      refine nT 4 (.int .i64 i) rfl ?_
      simp only [x0,x1,x2,x3,x4,x5,x6]
      refine nT 5 (.pointer (some ⟨bc, oc + i * 3, .none⟩)) rfl ?_
      simp only [x0,x1,x2,x3,x4,x5,x6]
      refine nT 6 (.pointer (some ⟨bc, oc + i * 3 + 2, .none⟩)) rfl ?_
      simp only [x0,x1,x2,x3,x4,x5,x6]
      refine nT 7 (.int .i64 nm) rfl ?_
      simp only [x0,x1,x2,x3,x4,x5,x6]
      refine nT 8 (.bool false) rfl ?_
      simp only [x0,x1,x2,x3,x4,x5,x6]
      refine nT 9 (.bool false) rfl ?_
      simp only [x0,x1,x2,x3,x4,x5,x6]
      refine nT 10 (.pointer (some ⟨g, 4, .none⟩)) rfl ?_
      simp only [x0,x1,x2,x3,x4,x5,x6]
      refine nT 11 (.int .i64 links) rfl ?_
      simp only [x0,x1,x2,x3,x4,x5,x6]
      refine nT 12 (.bool true) rfl ?_
      simp only [x0,x1,x2,x3,x4,x5,x6]
      refine nT 13 (.bool true) rfl ?_
      simp only [x0,x1,x2,x3,x4,x5,x6]
      refine nT 14 (.pointer (some ⟨g, 5, .none⟩)) rfl ?_
      simp only [x0,x1,x2,x3,x4,x5,x6]
      refine nT 15 (.int .i64 refs) rfl ?_
      simp only [x0,x1,x2,x3,x4,x5,x6]
      refine nT 16 (.bool false) rfl ?_
      simp only [x0,x1,x2,x3,x4,x5,x6]
      refine nT 17 (.bool false) rfl ?_
      simp only [x0,x1,x2,x3,x4,x5,x6]
      refine nT 18 (.bool false) rfl ?_
      simp only [x0,x1,x2,x3,x4,x5,x6]
      refine nU 19 rfl ?_
      simp only [x0,x1,x2,x3,x4,x5,x6]
      refine nU 20 rfl ?_
      simp only [x0,x1,x2,x3,x4,x5,x6]
      refine nU 21 rfl ?_
      simp only [x0,x1,x2,x3,x4,x5,x6]
      refine nT 22 (.bool false) rfl ?_
      simp only [x0,x1,x2,x3,x4,x5,x6]
      refine nT 23 (.bool false) rfl ?_
      simp only [x0,x1,x2,x3,x4,x5,x6]
      refine nT 24 (.bool false) rfl ?_
      simp only [x0,x1,x2,x3,x4,x5,x6]
      refine nT 25 (.pointer (some ⟨g, 6, .none⟩)) rfl ?_
      simp only [x0,x1,x2,x3,x4,x5,x6]
      refine nT 26 (.int .i64 size) rfl ?_
      simp only [x0,x1,x2,x3,x4,x5,x6]
      refine nT 27 (.bool false) rfl ?_
      simp only [x0,x1,x2,x3,x4,x5,x6]
      refine nT 28 (.bool false) rfl ?_
      simp only [x0,x1,x2,x3,x4,x5,x6]
      refine wpAnyH_done (by kernel_rfl) ?_ _
      go_wp2_with fail
      go_meet
      exact ⟨rfl, (Below.refl _ _).drew⟩
    cases c4
    ·as_aux_lemma =>
      obtain rfl : mb = true := HM3.out
      refine wp_region_held_drew (S := (fun V => V.cell? ⟨g, 5, .none⟩ = some (.int .i64 refs) ∧ V.cell? ⟨w.heap.size, 2, .none⟩ = some (.slice (some ⟨bc, oc, .none⟩) n cc) ∧ V.cell? ⟨bc, oc + i * 3 + 2, .none⟩ = some (.int .i64 nm) ∧ V.cell? ⟨g, 4, .none⟩ = some (.int .i64 links) ∧ V.cell? ⟨g, 0, .none⟩ = some (.int .i64 num) ∧ V.cell? ⟨g, 6, .none⟩ = some (.int .i64 size))) (by kernel_rfl) ⟨k5, kc, kn, k4, k0, k6⟩ (fun hHeld => ?_)
      refine nT 0 (.pointer (some ⟨g, 5, .none⟩)) rfl ?_
      simp only [x0,x1,x2,x3,x4,x5,x6]
      refine nT 1 (.int .i64 refs) rfl ?_
      simp only [x0,x1,x2,x3,x4,x5,x6]
      refine nT 2 (.pointer (some ⟨w.heap.size, 2, .none⟩)) rfl ?_
      simp only [x0,x1,x2,x3,x4,x5,x6]
      refine nT 3 (.slice (some ⟨bc, oc, .none⟩) n cc) rfl ?_
      simp only [x0,x1,x2,x3,x4,x5,x6]
      refine nT 4 (.int .i64 i) rfl ?_
      simp only [x0,x1,x2,x3,x4,x5,x6]
      refine nT 5 (.pointer (some ⟨bc, oc + i * 3, .none⟩)) rfl ?_
      simp only [x0,x1,x2,x3,x4,x5,x6]
      refine nT 6 (.pointer (some ⟨bc, oc + i * 3 + 2, .none⟩)) rfl ?_
      simp only [x0,x1,x2,x3,x4,x5,x6]
      refine nT 7 (.int .i64 nm) rfl ?_
      simp only [x0,x1,x2,x3,x4,x5,x6]
      refine nT 8 (.bool false) rfl ?_
      simp only [x0,x1,x2,x3,x4,x5,x6]
      refine nT 9 (.bool false) rfl ?_
      simp only [x0,x1,x2,x3,x4,x5,x6]
      refine nT 10 (.pointer (some ⟨g, 4, .none⟩)) rfl ?_
      simp only [x0,x1,x2,x3,x4,x5,x6]
      refine nT 11 (.int .i64 links) rfl ?_
      simp only [x0,x1,x2,x3,x4,x5,x6]
      refine nT 12 (.bool true) rfl ?_
      simp only [x0,x1,x2,x3,x4,x5,x6]
      refine nT 13 (.bool true) rfl ?_
      simp only [x0,x1,x2,x3,x4,x5,x6]
      refine nT 14 (.pointer (some ⟨g, 5, .none⟩)) rfl ?_
      simp only [x0,x1,x2,x3,x4,x5,x6]
      refine nT 15 (.int .i64 refs) rfl ?_
      simp only [x0,x1,x2,x3,x4,x5,x6]
      refine nT 16 (.bool true) rfl ?_
      simp only [x0,x1,x2,x3,x4,x5,x6]
      refine nT 17 (.bool true) rfl ?_
      simp only [x0,x1,x2,x3,x4,x5,x6]
      refine nT 18 (.bool true) rfl ?_
      simp only [x0,x1,x2,x3,x4,x5,x6]
      refine nT 19 (.pointer (some ⟨g, 0, .none⟩)) rfl ?_
      simp only [x0,x1,x2,x3,x4,x5,x6]
      refine nT 20 (.int .i64 num) rfl ?_
      simp only [x0,x1,x2,x3,x4,x5,x6]
      refine nT 21 (.bool false) rfl ?_
      simp only [x0,x1,x2,x3,x4,x5,x6]
      refine nT 22 (.bool false) rfl ?_
      simp only [x0,x1,x2,x3,x4,x5,x6]
      refine nT 23 (.bool false) rfl ?_
      simp only [x0,x1,x2,x3,x4,x5,x6]
      refine nT 24 (.bool false) rfl ?_
      simp only [x0,x1,x2,x3,x4,x5,x6]
      refine nT 25 (.pointer (some ⟨g, 6, .none⟩)) rfl ?_
      simp only [x0,x1,x2,x3,x4,x5,x6]
      refine nT 26 (.int .i64 size) rfl ?_
      simp only [x0,x1,x2,x3,x4,x5,x6]
      refine nT 27 (.bool false) rfl ?_
      simp only [x0,x1,x2,x3,x4,x5,x6]
      refine nT 28 (.bool false) rfl ?_
      simp only [x0,x1,x2,x3,x4,x5,x6]
      refine wpAnyH_done (by kernel_rfl) ?_ _
      go_wp2_with fail
      go_meet
      exact ⟨rfl, (Below.refl _ _).drew⟩
    ·as_aux_lemma =>
      obtain rfl : mb = false := HM3.out
      refine wp_region_held_drew (S := (fun V => V.cell? ⟨g, 5, .none⟩ = some (.int .i64 refs) ∧ V.cell? ⟨w.heap.size, 2, .none⟩ = some (.slice (some ⟨bc, oc, .none⟩) n cc) ∧ V.cell? ⟨bc, oc + i * 3 + 2, .none⟩ = some (.int .i64 nm) ∧ V.cell? ⟨g, 4, .none⟩ = some (.int .i64 links) ∧ V.cell? ⟨g, 0, .none⟩ = some (.int .i64 num) ∧ V.cell? ⟨g, 6, .none⟩ = some (.int .i64 size))) (by kernel_rfl) ⟨k5, kc, kn, k4, k0, k6⟩ (fun hHeld => ?_)
      refine nT 0 (.pointer (some ⟨g, 5, .none⟩)) rfl ?_
      simp only [x0,x1,x2,x3,x4,x5,x6]
      refine nT 1 (.int .i64 refs) rfl ?_
      simp only [x0,x1,x2,x3,x4,x5,x6]
      refine nT 2 (.pointer (some ⟨w.heap.size, 2, .none⟩)) rfl ?_
      simp only [x0,x1,x2,x3,x4,x5,x6]
      refine nT 3 (.slice (some ⟨bc, oc, .none⟩) n cc) rfl ?_
      simp only [x0,x1,x2,x3,x4,x5,x6]
      refine nT 4 (.int .i64 i) rfl ?_
      simp only [x0,x1,x2,x3,x4,x5,x6]
      refine nT 5 (.pointer (some ⟨bc, oc + i * 3, .none⟩)) rfl ?_
      simp only [x0,x1,x2,x3,x4,x5,x6]
      refine nT 6 (.pointer (some ⟨bc, oc + i * 3 + 2, .none⟩)) rfl ?_
      simp only [x0,x1,x2,x3,x4,x5,x6]
      refine nT 7 (.int .i64 nm) rfl ?_
      simp only [x0,x1,x2,x3,x4,x5,x6]
      refine nT 8 (.bool false) rfl ?_
      simp only [x0,x1,x2,x3,x4,x5,x6]
      refine nT 9 (.bool false) rfl ?_
      simp only [x0,x1,x2,x3,x4,x5,x6]
      refine nT 10 (.pointer (some ⟨g, 4, .none⟩)) rfl ?_
      simp only [x0,x1,x2,x3,x4,x5,x6]
      refine nT 11 (.int .i64 links) rfl ?_
      simp only [x0,x1,x2,x3,x4,x5,x6]
      refine nT 12 (.bool true) rfl ?_
      simp only [x0,x1,x2,x3,x4,x5,x6]
      refine nT 13 (.bool true) rfl ?_
      simp only [x0,x1,x2,x3,x4,x5,x6]
      refine nT 14 (.pointer (some ⟨g, 5, .none⟩)) rfl ?_
      simp only [x0,x1,x2,x3,x4,x5,x6]
      refine nT 15 (.int .i64 refs) rfl ?_
      simp only [x0,x1,x2,x3,x4,x5,x6]
      refine nT 16 (.bool true) rfl ?_
      simp only [x0,x1,x2,x3,x4,x5,x6]
      refine nT 17 (.bool true) rfl ?_
      simp only [x0,x1,x2,x3,x4,x5,x6]
      refine nT 18 (.bool true) rfl ?_
      simp only [x0,x1,x2,x3,x4,x5,x6]
      refine nT 19 (.pointer (some ⟨g, 0, .none⟩)) rfl ?_
      simp only [x0,x1,x2,x3,x4,x5,x6]
      refine nT 20 (.int .i64 num) rfl ?_
      simp only [x0,x1,x2,x3,x4,x5,x6]
      refine nT 21 (.bool true) rfl ?_
      simp only [x0,x1,x2,x3,x4,x5,x6]
      refine nT 22 (.bool true) rfl ?_
      simp only [x0,x1,x2,x3,x4,x5,x6]
      refine nT 23 (.bool true) rfl ?_
      simp only [x0,x1,x2,x3,x4,x5,x6]
      refine nT 24 (.bool true) rfl ?_
      simp only [x0,x1,x2,x3,x4,x5,x6]
      refine nU 25 rfl ?_
      simp only [x0,x1,x2,x3,x4,x5,x6]
      refine nU 26 rfl ?_
      simp only [x0,x1,x2,x3,x4,x5,x6]
      refine nU 27 rfl ?_
      simp only [x0,x1,x2,x3,x4,x5,x6]
      refine nT 28 (.bool true) rfl ?_
      simp only [x0,x1,x2,x3,x4,x5,x6]
      refine wpAnyH_done (by kernel_rfl) ?_ _
      go_wp2_with fail
      go_meet
      exact ⟨rfl, (Below.refl _ _).drew⟩
  case rest =>
   rename World => wd
   obtain ⟨rfl, HD⟩ := hcut
   have HBD : Hid (Below w.heap.size w wd) := HBC.out.trans (HD.out.mono HBC.out.size)
   have hw0 := HWC.out _ HD.out
   clear k0 k4 k5 k6 kc kn HRC HWC HMB
   cases mb
   ·have HF : Hid (okI L (nfA L) i x = false) := by show _ = _; rw [HQ2.out]; rfl
    go_wp2
    go_ret
    exact ⟨by rw [HF.out]; rfl, HBD.out⟩
   have HQ3 : Hid (okI L (nfA L) i x = ((bn2 : Int) == bg size 4096)) := by show _ = _; rw [HQ2.out, Bool.true_and]
   have s0 : 0 ≤ size := HSZ.out rfl
   obtain ⟨k6, k7⟩ : wd.cell? ⟨g, 6, .none⟩ = some (.int .i64 size) ∧ wd.cell? ⟨g, 7, .none⟩ = some (.slice bp bn2 bcap) := by
    rw [HV.out.2.2.1]
    exact ⟨cell_heap (o := 6) hw0.2.1, cell_heap (o := 7) hw0.2.1⟩
   have ht : size.tmod 4096 = size % 4096 := Int.tmod_eq_emod_of_nonneg s0
   have hd : size.tdiv 4096 = size / 4096 := Int.tdiv_eq_ediv_of_nonneg s0
   have HBG : Hid (bg size 4096 = if size % 4096 = 0 then size / 4096 else size / 4096 + 1) := rfl
   obtain ⟨rr, hrr⟩ : ∃ r, r = size % 4096 := ⟨_, rfl⟩
   obtain ⟨qq, hqq⟩ : ∃ q, q = size / 4096 := ⟨_, rfl⟩
   have q0 : 0 ≤ qq ∧ qq ≤ 9007199254740992 := by omega
   rw [← hrr] at ht HBG
   rw [← hqq] at hd HBG
   have hwq : IntKind.i64.wrap qq = qq := by rw [IntKind.wrap_i64]; omega
   have hwq1 : IntKind.i64.wrap (qq + 1) = qq + 1 := by rw [IntKind.wrap_i64]; omega
   obtain ⟨gb, hgb⟩ : ∃ g, g = bg size 4096 := ⟨_, rfl⟩
   rw [← hgb] at HQ3 HBG
   clear hw0 HQ2 hrr hqq hgb HSZ
   by_cases e : rr = 0
   ·have e1 : (rr != 0) = false := by simp [e]
    obtain rfl : gb = qq := by rw [HBG.out, if_pos e]
    clear e HBG
    go_wp2
    go_ret
    exact ⟨by rw [HQ3.out, show ((bn2 : Int) == gb) = (gb == (bn2 : Int)) from Bool.beq_comm]; rfl, HBD.out⟩
   ·have e1 : (rr != 0) = true := by simp [e]
    obtain rfl : gb = qq + 1 := by rw [HBG.out, if_neg e]
    clear e HBG
    go_wp2
    go_ret
    exact ⟨by rw [HQ3.out, show ((bn2 : Int) == qq + 1) = (qq + 1 == (bn2 : Int)) from Bool.beq_comm]; rfl, HBD.out⟩
end Go.Proofs.Ythopgmmodldljab
