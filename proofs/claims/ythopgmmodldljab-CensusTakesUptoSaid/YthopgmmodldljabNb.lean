import Derived.Test.YthopgmmodldljabNa
import Derived.Test.YthopgmmodldljabNy
namespace Go.Proofs.Ythopgmmodldljab
open Go Go.RowKit
set_option linter.unusedVariables false
set_option linter.unusedSimpArgs false
/-! The document's procNo. -/
theorem prev_at {w : World} {X sz : Nat} {α : Type} {Q : α → List Value → Prop} {p : Option Addr} {n c : Nat} {l : List α} (f : α → Int) (hf : ∀ x cs, Q x cs → cs[0]? = some (.int .i64 (f x))) (h : Sl w X sz Q (.slice p n c) l) {b o : Nat} (hp : p = some ⟨b, o, .none⟩) {i : Nat} (hi : i ≠ 0) (hin : i < n) : ∃ pr, (l[i - 1]?).map f = some pr ∧ w.cell? ⟨b, o + (i - 1) * sz, .none⟩ = some (.int .i64 pr) := by
 obtain ⟨-, b2, o2, x, cs, hp2, hbX, hx, hq, hcl, hr⟩ := h.at (show i - 1 < n by omega)
 rw [hp] at hp2
 injection hp2 with hp2
 injection hp2 with h1 h2 h3
 subst h1
 subst h2
 refine ⟨f x, by rw [hx]; rfl, ?_⟩
 have := hr 0 _ (hf x cs hq)
 rw [Nat.add_zero] at this
 exact this
set_option maxRecDepth 100000 in
set_option maxHeartbeats 8000000 in
theorem procNo_any {w : World} {X : Nat} {pv fv iv qv rv lv : Value} {L : Lk} (h : LkW w X pv fv iv qv rv lv L) (hX : X ≤ w.heap.size) (hR : LkR L) (i : Nat) (x : Pc) (hx : L.procs[i]? = some x) : Calls Try.prog 33 #[.agg (lkL L.tramp pv fv iv qv rv lv L.ticks L.next L.free).toArray, .int .i64 i] w fun e w' => e = .returned (.bool (!okP L (pfA L) i x)) ∧ Below w.heap.size w w' := by
 obtain ⟨pp, pc, rfl⟩ := h.ps.form
 have hin : i < L.procs.length := (List.getElem?_eq_some_iff.1 hx).1
 obtain ⟨n, hn⟩ : ∃ n, n = L.procs.length := ⟨_, rfl⟩
 have bn : n ≤ 1048576 := by have := hR.pl; omega
 rw [← hn] at h hin ⊢
 have HH : Hid (∀ V, Below w.heap.size w V → Ps V X (.slice pp n pc) L.procs) := fun V hV => (h.keep (Nat.le_refl _) (hV.mono hX)).ps
 obtain ⟨-, b, o, y, cs, hpe, hbX, hy, ⟨nv2, gv2, rfl, hN2, hG2⟩, hcl, hr⟩ := h.ps.at hin
 obtain rfl : x = y := by rw [hx] at hy; injection hy
 subst hpe
 have i1 : (i : Int) < n := by omega
 have HX1 : Hid (∀ u ∈ x.l nv2 gv2, u.oneCell' = true) := pcl_one x hN2.one hG2.one
 have HHAS : Hid (∀ V (s : Int), Below w.heap.size w V → Calls Try.prog 64 #[.agg (lkL L.tramp (.slice (some ⟨b, o, .none⟩) n pc) fv iv qv rv lv L.ticks L.next L.free).toArray, .int .i64 s] V fun e w' => e = .returned (.bool (L.procs.any fun p => p.c 0 == s)) ∧ Below V.heap.size V w') := fun V s hV => by
  have h2 := HH.out V hV
  have := dhas_any (fv := fv) (iv := iv) (qv := qv) (rv := rv) (lv := lv) (L := L) h2 (Nat.le_trans hX hV.size) (by omega) s
  exact this
 obtain ⟨lc, hlc⟩ : ∃ lc, lc = lkL L.tramp (.slice (some ⟨b, o, .none⟩) n pc) fv iv qv rv lv L.ticks L.next L.free := ⟨_, rfl⟩
 rw [← hlc] at HHAS ⊢
 have HL : Hid (lc[1]? = some (.slice (some ⟨b, o, .none⟩) n pc) ∧ lc[8]? = some (.int .i64 L.next) ∧ lc.length = 10) := by rw [hlc]; exact ⟨rfl, rfl, rfl⟩
 obtain ⟨nb, hnb⟩ : ∃ nb, nb = numB (fun p : Pc => p.c 0) L.procs i 0 63 := ⟨_, rfl⟩
 obtain ⟨num, hnum⟩ : ∃ num, num = x.c 0 := ⟨_, rfl⟩
 have HNB : Hid (nb = (decide (0 ≤ num) && (decide (num ≤ 63) && (decide (i = 0) || ltO ((L.procs[i - 1]?).map fun p : Pc => p.c 0) num)))) := by show _ = _; rw [hnb]; exact numB_of _ hx hnum 0 63
 obtain ⟨st, hst⟩ : ∃ st, st = x.c 2 := ⟨_, rfl⟩
 obtain ⟨pid, hpid⟩ : ∃ pid, pid = x.c 1 := ⟨_, rfl⟩
 obtain ⟨par, hpar⟩ : ∃ par, par = x.c 3 := ⟨_, rfl⟩
 obtain ⟨nx, hnx⟩ : ∃ nx, nx = L.next := ⟨_, rfl⟩
 rw [← hnx] at HL
 obtain ⟨hb, hhb⟩ : ∃ hb, hb = (L.procs.any fun p => p.c 0 == par) := ⟨_, rfl⟩
 obtain ⟨al, hal⟩ : ∃ al, al = ((L.procs.take i).all fun p => p.c 1 != pid) := ⟨_, rfl⟩
 have HQ : Hid (okP L (pfA L) i x = (nb && ((st == 1 || (st == 2 || st == 3)) && (decide (1 ≤ pid) && (decide (pid < nx) && (al && hb)))))) := by
  show _ = _
  rw [hhb, hal, hnx, hpar, hpid, hst, hnb, ← pid_first hx, ← pf_slot]
  rfl
 have HHB : Hid (hb = (L.procs.any fun p => p.c 0 == par)) := hhb
 have HAL : Hid (al = ((L.procs.take i).all fun p => p.c 1 != pid)) := hal
 obtain ⟨z, hz⟩ : ∃ z, z = w.heap.size := ⟨_, rfl⟩
 have HZ : Hid (z = w.heap.size) := hz
 have HXX : Hid (X ≤ w.heap.size) := hX
 clear hX h hx hy hcl hlc hn hN2 hG2 hR hnx hhb hal hnb
 go_enter Try.func33, Try.ntmps33
 go_upto_region 2 with (first
  | (refine wpList_is (.box 31 (.tmp 0)) rfl ?_; refine wpList_boxG 31 lc 2 (.tmp 0) _ rfl rfl rfl rfl ?_; intro W1 hW1 hB1 hs1; have d1 := cell_heap (o := 1) hW1; rw [List.getElem?_toArray, HL.out.1] at d1; have r1 := range_keep hr hB1 (by have := HXX.out; omega))
  | (refine wpList_is (.load 60 (.tmp 10)) rfl ?_; refine wpList_loadG 60 70 584 info55 _ Try.underlying60 rfl (x.l nv2 gv2) rfl b (o + i * 70) (.tmp 10) rfl rfl rfl r1 (some 11) rfl ?_)
  | (refine wpList_is (.alloc 60) rfl ?_; refine wpList_laidG 60 70 584 info55 (x.l nv2 gv2) rfl HX1.out 5 (.tmp 11) _ _ rfl rfl rfl rfl rfl rfl rfl rfl ?_; intro W2 hW2 hB2 hs2)
  | fail)
 obtain ⟨g, hg⟩ : ∃ g, g = W1.heap.size := ⟨_, rfl⟩
 rw [← hg] at hW2
 have HB2 : Hid (Below w.heap.size w W2) := hB1.trans (hB2.mono (by omega))
 have hgl : g < W2.heap.size := by omega
 have hzg : w.heap.size < W2.heap.size := by omega
 have HW2 : Hid (∀ V, Below W2.heap.size W2 V → V.heap[w.heap.size]? = some (.cells lc.toArray 31) ∧ V.heap[g]? = some (.cells (x.l nv2 gv2).toArray 60)) := fun V hV => ⟨(hV.block _ hzg).trans ((hB2.block _ (by omega)).trans hW1), (hV.block _ hgl).trans hW2⟩
 have kl : W2.cell? ⟨w.heap.size, 1, .none⟩ = some (.slice (some ⟨b, o, .none⟩) n pc) := by have := cell_heap (o := 1) (HW2.out _ (Below.refl _ _)).1; rw [List.getElem?_toArray, HL.out.1] at this; exact this
 have k0 : W2.cell? ⟨g, 0, .none⟩ = some (.int .i64 num) := by rw [hnum]; exact cell_heap (o := 0) (HW2.out _ (Below.refl _ _)).2
 have HPR : Hid (i ≠ 0 → ∃ pr, ((L.procs[i - 1]?).map fun p : Pc => p.c 0) = some pr ∧ W2.cell? ⟨b, o + (i - 1) * 70, .none⟩ = some (.int .i64 pr)) := fun hi => prev_at (fun p : Pc => p.c 0) (by rintro x cs ⟨nv, gv, rfl, _, _⟩; rfl) (HH.out _ HB2.out) rfl hi hin
 clear d1 r1 hr hW1 hW2 hB1 hB2
 try rw [← hg]
 have HV : Hid (st = x.c 2 ∧ pid = x.c 1 ∧ par = x.c 3) := ⟨hst, hpid, hpar⟩
 clear hg hs1 hs2 hgl hzg hz hnum hst hpid hpar hbX
 simp only [x0,x1,x2,x3]
 go_cut [35] (fun s wc => s = .bool (!nb) ∧ Hid (Below W2.heap.size W2 wc))
 case first => as_aux_lemma =>
  by_cases g1 : num < 0
  ·obtain rfl : nb = false := by rw [HNB.out, decide_eq_false (by omega)]; rfl
   refine wp_region_held_drew (S := (fun V => V.cell? ⟨w.heap.size, 1, .none⟩ = some (.slice (some ⟨b, o, .none⟩) n pc) ∧ V.cell? ⟨g, 0, .none⟩ = some (.int .i64 num))) (by kernel_rfl) ⟨kl, k0⟩ (fun hHeld => ?_)
   refine hT 0 12 (.pointer (some ⟨g, 0, .none⟩)) ?_
   simp only [x0,x1,x2,x3]
   refine hT 1 13 (.int .i64 num) ?_
   simp only [x0,x1,x2,x3]
   refine hT 2 14 (.bool true) ?_
   simp only [x0,x1,x2,x3]
   refine hT 3 15 (.bool true) ?_
   simp only [x0,x1,x2,x3]
   refine hU 4 16 ?_
   simp only [x0,x1,x2,x3]
   refine hU 5 17 ?_
   simp only [x0,x1,x2,x3]
   refine hU 6 18 ?_
   simp only [x0,x1,x2,x3]
   refine hT 7 19 (.bool true) ?_
   simp only [x0,x1,x2,x3]
   refine hT 8 20 (.bool true) ?_
   simp only [x0,x1,x2,x3]
   refine hU 9 21 ?_
   simp only [x0,x1,x2,x3]
   refine hU 10 22 ?_
   simp only [x0,x1,x2,x3]
   refine hU 11 23 ?_
   simp only [x0,x1,x2,x3]
   refine hU 12 24 ?_
   simp only [x0,x1,x2,x3]
   refine hU 13 25 ?_
   simp only [x0,x1,x2,x3]
   refine hU 14 26 ?_
   simp only [x0,x1,x2,x3]
   refine hU 15 27 ?_
   simp only [x0,x1,x2,x3]
   refine hU 16 28 ?_
   simp only [x0,x1,x2,x3]
   refine hU 17 29 ?_
   simp only [x0,x1,x2,x3]
   refine hU 18 30 ?_
   simp only [x0,x1,x2,x3]
   refine hU 19 31 ?_
   simp only [x0,x1,x2,x3]
   refine hU 20 32 ?_
   simp only [x0,x1,x2,x3]
   refine hU 21 33 ?_
   simp only [x0,x1,x2,x3]
   refine hU 22 34 ?_
   simp only [x0,x1,x2,x3]
   refine hT 23 35 (.bool true) ?_
   simp only [x0,x1,x2,x3]
   refine wpAnyH_done (by kernel_rfl) ?_ _
   go_wp2_with fail
   go_meet
   exact ⟨rfl, (Below.refl _ _).drew⟩
  by_cases g2 : 64 ≤ num
  ·obtain rfl : nb = false := by rw [HNB.out, decide_eq_false (show ¬ num ≤ 63 by omega)]; simp
   refine wp_region_held_drew (S := (fun V => V.cell? ⟨w.heap.size, 1, .none⟩ = some (.slice (some ⟨b, o, .none⟩) n pc) ∧ V.cell? ⟨g, 0, .none⟩ = some (.int .i64 num))) (by kernel_rfl) ⟨kl, k0⟩ (fun hHeld => ?_)
   refine hT 0 12 (.pointer (some ⟨g, 0, .none⟩)) ?_
   simp only [x0,x1,x2,x3]
   refine hT 1 13 (.int .i64 num) ?_
   simp only [x0,x1,x2,x3]
   refine hT 2 14 (.bool false) ?_
   simp only [x0,x1,x2,x3]
   refine hT 3 15 (.bool false) ?_
   simp only [x0,x1,x2,x3]
   refine hT 4 16 (.pointer (some ⟨g, 0, .none⟩)) ?_
   simp only [x0,x1,x2,x3]
   refine hT 5 17 (.int .i64 num) ?_
   simp only [x0,x1,x2,x3]
   refine hT 6 18 (.bool true) ?_
   simp only [x0,x1,x2,x3]
   refine hT 7 19 (.bool true) ?_
   simp only [x0,x1,x2,x3]
   refine hT 8 20 (.bool true) ?_
   simp only [x0,x1,x2,x3]
   refine hU 9 21 ?_
   simp only [x0,x1,x2,x3]
   refine hU 10 22 ?_
   simp only [x0,x1,x2,x3]
   refine hU 11 23 ?_
   simp only [x0,x1,x2,x3]
   refine hU 12 24 ?_
   simp only [x0,x1,x2,x3]
   refine hU 13 25 ?_
   simp only [x0,x1,x2,x3]
   refine hU 14 26 ?_
   simp only [x0,x1,x2,x3]
   refine hU 15 27 ?_
   simp only [x0,x1,x2,x3]
   refine hU 16 28 ?_
   simp only [x0,x1,x2,x3]
   refine hU 17 29 ?_
   simp only [x0,x1,x2,x3]
   refine hU 18 30 ?_
   simp only [x0,x1,x2,x3]
   refine hU 19 31 ?_
   simp only [x0,x1,x2,x3]
   refine hU 20 32 ?_
   simp only [x0,x1,x2,x3]
   refine hU 21 33 ?_
   simp only [x0,x1,x2,x3]
   refine hU 22 34 ?_
   simp only [x0,x1,x2,x3]
   refine hT 23 35 (.bool true) ?_
   simp only [x0,x1,x2,x3]
   refine wpAnyH_done (by kernel_rfl) ?_ _
   go_wp2_with fail
   go_meet
   exact ⟨rfl, (Below.refl _ _).drew⟩
  by_cases g3 : i = 0
  ·obtain rfl : nb = true := by rw [HNB.out, decide_eq_true (show 0 ≤ num by omega), decide_eq_true (show num ≤ 63 by omega), decide_eq_true g3]; rfl
   have g4 : ¬ (0 : Int) < i := by omega
   have HG3 : Hid (i = 0) := g3
   clear g3
   refine wp_region_held_drew (S := (fun V => V.cell? ⟨w.heap.size, 1, .none⟩ = some (.slice (some ⟨b, o, .none⟩) n pc) ∧ V.cell? ⟨g, 0, .none⟩ = some (.int .i64 num))) (by kernel_rfl) ⟨kl, k0⟩ (fun hHeld => ?_)
   refine hT 0 12 (.pointer (some ⟨g, 0, .none⟩)) ?_ (hy := fun _ _ => by go_simp <;> exact HG3.out)
   simp only [x0,x1,x2,x3]
   refine hT 1 13 (.int .i64 num) ?_ (hy := fun ww hSw => by go_simp <;> exact HG3.out)
   simp only [x0,x1,x2,x3]
   refine hT 2 14 (.bool false) ?_ (hy := fun _ _ => by go_simp <;> exact HG3.out)
   simp only [x0,x1,x2,x3]
   refine hT 3 15 (.bool false) ?_ (hy := fun _ _ => by go_simp <;> exact HG3.out)
   simp only [x0,x1,x2,x3]
   refine hT 4 16 (.pointer (some ⟨g, 0, .none⟩)) ?_ (hy := fun _ _ => by go_simp <;> exact HG3.out)
   simp only [x0,x1,x2,x3]
   refine hT 5 17 (.int .i64 num) ?_ (hy := fun ww hSw => by go_simp <;> exact HG3.out)
   simp only [x0,x1,x2,x3]
   refine hT 6 18 (.bool false) ?_ (hy := fun _ _ => by go_simp <;> exact HG3.out)
   simp only [x0,x1,x2,x3]
   refine hT 7 19 (.bool false) ?_ (hy := fun _ _ => by go_simp <;> exact HG3.out)
   simp only [x0,x1,x2,x3]
   refine hT 8 20 (.bool false) ?_ (hy := fun _ _ => by go_simp <;> exact HG3.out)
   simp only [x0,x1,x2,x3]
   refine hT 9 21 (.int .i64 i) ?_ (hy := fun _ _ => by go_simp <;> exact HG3.out)
   simp only [x0,x1,x2,x3]
   refine hT 10 22 (.bool false) ?_ (hy := fun _ _ => by go_simp <;> exact HG3.out)
   simp only [x0,x1,x2,x3]
   refine hT 11 23 (.bool false) ?_ (hy := fun _ _ => by go_simp <;> exact HG3.out)
   simp only [x0,x1,x2,x3]
   refine hU 12 24 ?_
   simp only [x0,x1,x2,x3]
   refine hU 13 25 ?_
   simp only [x0,x1,x2,x3]
   refine hU 14 26 ?_
   simp only [x0,x1,x2,x3]
   refine hU 15 27 ?_
   simp only [x0,x1,x2,x3]
   refine hU 16 28 ?_
   simp only [x0,x1,x2,x3]
   refine hU 17 29 ?_
   simp only [x0,x1,x2,x3]
   refine hU 18 30 ?_
   simp only [x0,x1,x2,x3]
   refine hU 19 31 ?_
   simp only [x0,x1,x2,x3]
   refine hU 20 32 ?_
   simp only [x0,x1,x2,x3]
   refine hU 21 33 ?_
   simp only [x0,x1,x2,x3]
   refine hT 22 34 (.bool false) ?_ (hy := fun _ _ => by go_simp <;> exact HG3.out)
   simp only [x0,x1,x2,x3]
   refine hT 23 35 (.bool false) ?_ (hy := fun _ _ => by go_simp <;> exact HG3.out)
   simp only [x0,x1,x2,x3]
   refine wpAnyH_done (by kernel_rfl) ?_ _
   go_wp2_with fail
   go_meet
   exact ⟨rfl, (Below.refl _ _).drew⟩
  obtain ⟨pr, hpr, hpc⟩ := HPR.out g3
  have HPP : Hid (nb = decide (pr < num)) := by show _ = _; rw [HNB.out, hpr, decide_eq_true (show 0 ≤ num by omega), decide_eq_true (show num ≤ 63 by omega), decide_eq_false g3]; rfl
  obtain ⟨j, rfl⟩ : ∃ j, i = j + 1 := ⟨i - 1, by omega⟩
  rw [Nat.add_sub_cancel] at hpc
  clear HNB HQ HPR HAL hpr g3
  have g4 : (0 : Int) < ((j + 1 : Nat) : Int) := by omega
  have g6 : IntKind.i64.wrap (j : Int) = j := by rw [IntKind.wrap_i64]; omega
  have g7 : ¬ n ≤ j := by omega
  by_cases g5 : num ≤ pr
  ·obtain rfl : nb = false := by rw [HPP.out, decide_eq_false (by omega)]
   refine wp_region_held_drew (S := (fun V => V.cell? ⟨w.heap.size, 1, .none⟩ = some (.slice (some ⟨b, o, .none⟩) n pc) ∧ V.cell? ⟨g, 0, .none⟩ = some (.int .i64 num) ∧ V.cell? ⟨b, o + j * 70, .none⟩ = some (.int .i64 pr))) (by kernel_rfl) ⟨kl, k0, hpc⟩ (fun hHeld => ?_)
   refine hT 0 12 (.pointer (some ⟨g, 0, .none⟩)) ?_
   simp only [x0,x1,x2,x3]
   refine hT 1 13 (.int .i64 num) ?_
   simp only [x0,x1,x2,x3]
   refine hT 2 14 (.bool false) ?_
   simp only [x0,x1,x2,x3]
   refine hT 3 15 (.bool false) ?_
   simp only [x0,x1,x2,x3]
   refine hT 4 16 (.pointer (some ⟨g, 0, .none⟩)) ?_
   simp only [x0,x1,x2,x3]
   refine hT 5 17 (.int .i64 num) ?_
   simp only [x0,x1,x2,x3]
   refine hT 6 18 (.bool false) ?_
   simp only [x0,x1,x2,x3]
   refine hT 7 19 (.bool false) ?_
   simp only [x0,x1,x2,x3]
   refine hT 8 20 (.bool false) ?_
   simp only [x0,x1,x2,x3]
   refine hT 9 21 (.int .i64 ((j + 1 : Nat) : Int)) ?_
   simp only [x0,x1,x2,x3]
   refine hT 10 22 (.bool true) ?_
   simp only [x0,x1,x2,x3]
   refine hT 11 23 (.bool true) ?_
   simp only [x0,x1,x2,x3]
   refine hT 12 24 (.pointer (some ⟨g, 0, .none⟩)) ?_
   simp only [x0,x1,x2,x3]
   refine hT 13 25 (.int .i64 num) ?_
   simp only [x0,x1,x2,x3]
   refine hT 14 26 (.pointer (some ⟨w.heap.size, 1, .none⟩)) ?_
   simp only [x0,x1,x2,x3]
   refine hT 15 27 (.slice (some ⟨b, o, .none⟩) n pc) ?_
   simp only [x0,x1,x2,x3]
   refine hT 16 28 (.int .i64 ((j + 1 : Nat) : Int)) ?_
   simp only [x0,x1,x2,x3]
   refine hT 17 29 (.int .i64 j) ?_
   simp only [x0,x1,x2,x3]
   refine hT 18 30 (.pointer (some ⟨b, o + j * 70, .none⟩)) ?_
   simp only [x0,x1,x2,x3]
   refine hT 19 31 (.pointer (some ⟨b, o + j * 70, .none⟩)) ?_
   simp only [x0,x1,x2,x3]
   refine hT 20 32 (.int .i64 pr) ?_
   simp only [x0,x1,x2,x3]
   refine hT 21 33 (.bool true) ?_
   simp only [x0,x1,x2,x3]
   refine hT 22 34 (.bool true) ?_
   simp only [x0,x1,x2,x3]
   refine hT 23 35 (.bool true) ?_
   simp only [x0,x1,x2,x3]
   refine wpAnyH_done (by kernel_rfl) ?_ _
   go_wp2_with fail
   go_meet
   exact ⟨rfl, (Below.refl _ _).drew⟩
  ·obtain rfl : nb = true := by rw [HPP.out, decide_eq_true (by omega)]
   refine wp_region_held_drew (S := (fun V => V.cell? ⟨w.heap.size, 1, .none⟩ = some (.slice (some ⟨b, o, .none⟩) n pc) ∧ V.cell? ⟨g, 0, .none⟩ = some (.int .i64 num) ∧ V.cell? ⟨b, o + j * 70, .none⟩ = some (.int .i64 pr))) (by kernel_rfl) ⟨kl, k0, hpc⟩ (fun hHeld => ?_)
   refine hT 0 12 (.pointer (some ⟨g, 0, .none⟩)) ?_
   simp only [x0,x1,x2,x3]
   refine hT 1 13 (.int .i64 num) ?_
   simp only [x0,x1,x2,x3]
   refine hT 2 14 (.bool false) ?_
   simp only [x0,x1,x2,x3]
   refine hT 3 15 (.bool false) ?_
   simp only [x0,x1,x2,x3]
   refine hT 4 16 (.pointer (some ⟨g, 0, .none⟩)) ?_
   simp only [x0,x1,x2,x3]
   refine hT 5 17 (.int .i64 num) ?_
   simp only [x0,x1,x2,x3]
   refine hT 6 18 (.bool false) ?_
   simp only [x0,x1,x2,x3]
   refine hT 7 19 (.bool false) ?_
   simp only [x0,x1,x2,x3]
   refine hT 8 20 (.bool false) ?_
   simp only [x0,x1,x2,x3]
   refine hT 9 21 (.int .i64 ((j + 1 : Nat) : Int)) ?_
   simp only [x0,x1,x2,x3]
   refine hT 10 22 (.bool true) ?_
   simp only [x0,x1,x2,x3]
   refine hT 11 23 (.bool true) ?_
   simp only [x0,x1,x2,x3]
   refine hT 12 24 (.pointer (some ⟨g, 0, .none⟩)) ?_
   simp only [x0,x1,x2,x3]
   refine hT 13 25 (.int .i64 num) ?_
   simp only [x0,x1,x2,x3]
   refine hT 14 26 (.pointer (some ⟨w.heap.size, 1, .none⟩)) ?_
   simp only [x0,x1,x2,x3]
   refine hT 15 27 (.slice (some ⟨b, o, .none⟩) n pc) ?_
   simp only [x0,x1,x2,x3]
   refine hT 16 28 (.int .i64 ((j + 1 : Nat) : Int)) ?_
   simp only [x0,x1,x2,x3]
   refine hT 17 29 (.int .i64 j) ?_
   simp only [x0,x1,x2,x3]
   refine hT 18 30 (.pointer (some ⟨b, o + j * 70, .none⟩)) ?_
   simp only [x0,x1,x2,x3]
   refine hT 19 31 (.pointer (some ⟨b, o + j * 70, .none⟩)) ?_
   simp only [x0,x1,x2,x3]
   refine hT 20 32 (.int .i64 pr) ?_
   simp only [x0,x1,x2,x3]
   refine hT 21 33 (.bool false) ?_
   simp only [x0,x1,x2,x3]
   refine hT 22 34 (.bool false) ?_
   simp only [x0,x1,x2,x3]
   refine hT 23 35 (.bool false) ?_
   simp only [x0,x1,x2,x3]
   refine wpAnyH_done (by kernel_rfl) ?_ _
   go_wp2_with fail
   go_meet
   exact ⟨rfl, (Below.refl _ _).drew⟩
 case rest =>
  obtain ⟨rfl, HC⟩ := hcut
  have HBC : Hid (Below w.heap.size w wc) := HB2.out.trans (HC.out.mono HB2.out.size)
  have HWC : Hid (∀ V, Below wc.heap.size wc V → V.heap[w.heap.size]? = some (.cells lc.toArray 31) ∧ V.heap[g]? = some (.cells (x.l nv2 gv2).toArray 60)) := fun V hV => HW2.out V (HC.out.trans (hV.mono HC.out.size))
  clear kl k0 HPR HNB HC HW2 HB2
  cases nb
  ·have HF : Hid (okP L (pfA L) i x = false) := by show _ = _; rw [HQ.out]; rfl
   go_wp2
   go_ret
   exact ⟨by rw [HF.out]; rfl, HBC.out⟩
  obtain ⟨k1, k2, k3⟩ : wc.cell? ⟨g, 1, .none⟩ = some (.int .i64 pid) ∧ wc.cell? ⟨g, 2, .none⟩ = some (.int .i64 st) ∧ wc.cell? ⟨g, 3, .none⟩ = some (.int .i64 par) := by
   have h2 := (HWC.out _ (Below.refl _ _)).2
   rw [HV.out.2.1, HV.out.1, HV.out.2.2]
   exact ⟨cell_heap (o := 1) h2, cell_heap (o := 2) h2, cell_heap (o := 3) h2⟩
  have k8 : wc.cell? ⟨w.heap.size, 8, .none⟩ = some (.int .i64 nx) := by have := cell_heap (o := 8) (HWC.out _ (Below.refl _ _)).1; rw [List.getElem?_toArray, HL.out.2.1] at this; exact this
  have rl : wc.rangeAt w.heap.size 0 lc := range_heap (HWC.out _ (Below.refl _ _)).1
  by_cases a1 : st < 1
  ·as_aux_lemma =>
    have HF : Hid (okP L (pfA L) i x = false) := by show _ = _; rw [HQ.out, show (st == 1 || (st == 2 || st == 3)) = false by simp; omega]; rfl
    go_wp2
    go_ret
    exact ⟨by rw [HF.out]; rfl, HBC.out⟩
  by_cases a2 : 3 < st
  ·as_aux_lemma =>
    have HF : Hid (okP L (pfA L) i x = false) := by show _ = _; rw [HQ.out, show (st == 1 || (st == 2 || st == 3)) = false by simp; omega]; rfl
    go_wp2
    go_ret
    exact ⟨by rw [HF.out]; rfl, HBC.out⟩
  have HQ2 : Hid (okP L (pfA L) i x = (decide (1 ≤ pid) && (decide (pid < nx) && (al && hb)))) := by show _ = _; rw [HQ.out, show (st == 1 || (st == 2 || st == 3)) = true by simp; omega]; rfl
  by_cases a3 : pid < 1
  ·as_aux_lemma =>
    have HF : Hid (okP L (pfA L) i x = false) := by show _ = _; rw [HQ2.out, decide_eq_false (show ¬ 1 ≤ pid by omega)]; rfl
    go_wp2
    go_ret
    exact ⟨by rw [HF.out]; rfl, HBC.out⟩
  by_cases a4 : nx ≤ pid
  ·as_aux_lemma =>
    have HF : Hid (okP L (pfA L) i x = false) := by show _ = _; rw [HQ2.out, decide_eq_false (show ¬ pid < nx by omega)]; simp
    go_wp2
    go_ret
    exact ⟨by rw [HF.out]; rfl, HBC.out⟩
  have HQ3 : Hid (okP L (pfA L) i x = (al && hb)) := by show _ = _; rw [HQ2.out, decide_eq_true (show 1 ≤ pid by omega), decide_eq_true (show pid < nx by omega)]; rfl
  have c64 := HHAS.out wc par HBC.out
  rw [← HHB.out] at c64
  clear HQ HQ2 HHAS
  cases hb
  ·as_aux_lemma =>
    have HF : Hid (okP L (pfA L) i x = false) := by show _ = _; rw [HQ3.out]; simp
    go_wp2_with (first
     | (refine wpList_is (.load 31 (.tmp 2)) rfl ?_; refine wpList_loadGG 31 10 176 info33 _ Try.underlying31 rfl lc HL.out.2.2 w.heap.size 0 (.tmp 2) rfl rfl rfl rl (some 57) rfl ?_; clear rl)
     | (go_at_call 64; refine c64.mono ?_; rintro e W4 ⟨rfl, hB4⟩; clear c64 k1 k2 k3 k8)
     | fail)
    go_ret
    exact ⟨by rw [HF.out]; rfl, HBC.out.trans (hB4.mono HBC.out.size)⟩
  have HQ4 : Hid (okP L (pfA L) i x = al) := by show _ = _; rw [HQ3.out, Bool.and_true]
  clear HQ3
  go_wp2_with (first
   | (refine wpList_is (.load 31 (.tmp 2)) rfl ?_; refine wpList_loadGG 31 10 176 info33 _ Try.underlying31 rfl lc HL.out.2.2 w.heap.size 0 (.tmp 2) rfl rfl rfl rl (some 57) rfl ?_; clear rl)
   | (go_at_call 64; refine c64.mono ?_; rintro e W4 ⟨rfl, hB4⟩; clear c64 k1 k2 k3 k8)
   | fail)
  have HB4 : Hid (Below w.heap.size w W4) := HBC.out.trans (hB4.mono HBC.out.size)
  have kl : W4.cell? ⟨w.heap.size, 1, .none⟩ = some (.slice (some ⟨b, o, .none⟩) n pc) := by have := cell_heap (o := 1) (HWC.out _ hB4).1; rw [List.getElem?_toArray, HL.out.1] at this; exact this
  have kp : W4.cell? ⟨g, 1, .none⟩ = some (.int .i64 pid) := by rw [HV.out.2.1]; exact cell_heap (o := 1) (HWC.out _ hB4).2
  clear hB4 a1 a2 a3 a4 HBC HWC
  go_loopw [6] (fun v wr => ∃ k : Nat, k ≤ i ∧ v = .int .i64 k ∧ (∃ q, wr = W4.drewN q) ∧ Hid ((L.procs.take k).all (fun p => p.c 1 != pid) = true)) (fun v _ => (i - intOf v).toNat)
  case atStart => exact ⟨0, by omega, rfl, ⟨0, rfl⟩, by show _ = _; simp⟩
  case round =>
   obtain ⟨k, hk, rfl, ⟨q, rfl⟩, HB⟩ := hrel
   by_cases hki : k < i
   ·as_aux_lemma =>
     have i2 : (k : Int) < i := by omega
     have i3 : (k : Int) < n := by omega
     obtain ⟨-, b3, o3, y, cs, hp3, hbX, hy, ⟨nv, gv, rfl, hN, hG⟩, hcl, hr⟩ := (HH.out W4 HB4.out).at (show k < n by omega)
     injection hp3 with hp3
     injection hp3 with h1 h2 h3
     subst h1
     subst h2
     have a1 := hr 1 _ rfl
     have HE : Hid ((L.procs.take (k + 1)).all (fun p => p.c 1 != pid) = (y.c 1 != pid)) := by
      show _ = _
      rw [List.take_add_one, hy, List.all_append, HB.out]
      simp
     have HY : Hid (L.procs[k]? = some y) := hy
     clear hr hcl hbX hy hN hG h3
     cases hb : (y.c 1 == pid)
     ·have HN : Hid ((y.c 1 != pid) = true) := by show _ = _; unfold bne; rw [hb]; rfl
      go_upto_region 9 with fail
      refine wp_region_held_drew (S := (fun V => V.cell? ⟨w.heap.size, 1, .none⟩ = some (.slice (some ⟨b, o, .none⟩) n pc) ∧ V.cell? ⟨g, 1, .none⟩ = some (.int .i64 pid) ∧ V.cell? ⟨b, o + k * 70 + 1, .none⟩ = some (.int .i64 (y.c 1)))) (by kernel_rfl) ⟨kl, kp, a1⟩ (fun hHeld => ?_)
      refine hT 0 68 (.pointer (some ⟨w.heap.size, 1, .none⟩)) ?_
      simp only [x0,x1,x2,x3]
      refine hT 1 69 (.slice (some ⟨b, o, .none⟩) n pc) ?_
      simp only [x0,x1,x2,x3]
      refine hT 2 70 (.int .i64 k) ?_
      simp only [x0,x1,x2,x3]
      refine hT 3 71 (.pointer (some ⟨b, o + k * 70, .none⟩)) ?_
      simp only [x0,x1,x2,x3]
      refine hT 4 72 (.pointer (some ⟨b, o + k * 70 + 1, .none⟩)) ?_
      simp only [x0,x1,x2,x3]
      refine hT 5 73 (.int .i64 (y.c 1)) ?_
      simp only [x0,x1,x2,x3]
      refine hT 6 74 (.pointer (some ⟨g, 1, .none⟩)) ?_
      simp only [x0,x1,x2,x3]
      refine hT 7 75 (.int .i64 pid) ?_
      simp only [x0,x1,x2,x3]
      refine hT 8 76 (.bool false) ?_
      simp only [x0,x1,x2,x3]
      refine wpAnyH_done (by kernel_rfl) ?_ _
      go_wp2
      exact ⟨⟨k + 1, by omega, by go_num, ⟨q + 1, rfl⟩, by show _ = _; rw [HE.out, HN.out]⟩, by simp [intOf]; omega⟩
     ·have HF : Hid (okP L (pfA L) i x = false) := by
       show _ = _
       rw [HQ4.out, HAL.out, List.all_eq_false]
       exact ⟨y, List.mem_of_getElem? (i := k) (by rw [List.getElem?_take, if_pos hki]; exact HY.out), by unfold bne; rw [hb]; simp⟩
      go_upto_region 9 with fail
      refine wp_region_held_drew (S := (fun V => V.cell? ⟨w.heap.size, 1, .none⟩ = some (.slice (some ⟨b, o, .none⟩) n pc) ∧ V.cell? ⟨g, 1, .none⟩ = some (.int .i64 pid) ∧ V.cell? ⟨b, o + k * 70 + 1, .none⟩ = some (.int .i64 (y.c 1)))) (by kernel_rfl) ⟨kl, kp, a1⟩ (fun hHeld => ?_)
      refine hT 0 68 (.pointer (some ⟨w.heap.size, 1, .none⟩)) ?_
      simp only [x0,x1,x2,x3]
      refine hT 1 69 (.slice (some ⟨b, o, .none⟩) n pc) ?_
      simp only [x0,x1,x2,x3]
      refine hT 2 70 (.int .i64 k) ?_
      simp only [x0,x1,x2,x3]
      refine hT 3 71 (.pointer (some ⟨b, o + k * 70, .none⟩)) ?_
      simp only [x0,x1,x2,x3]
      refine hT 4 72 (.pointer (some ⟨b, o + k * 70 + 1, .none⟩)) ?_
      simp only [x0,x1,x2,x3]
      refine hT 5 73 (.int .i64 (y.c 1)) ?_
      simp only [x0,x1,x2,x3]
      refine hT 6 74 (.pointer (some ⟨g, 1, .none⟩)) ?_
      simp only [x0,x1,x2,x3]
      refine hT 7 75 (.int .i64 pid) ?_
      simp only [x0,x1,x2,x3]
      refine hT 8 76 (.bool true) ?_
      simp only [x0,x1,x2,x3]
      refine wpAnyH_done (by kernel_rfl) ?_ _
      go_wp2
      go_ret
      exact ⟨by rw [HF.out]; rfl, HB4.out.trans ((Go.Proofs.below_drewN _ (q + 1)).mono HB4.out.size)⟩
   ·as_aux_lemma =>
     have i2 : ¬ (k : Int) < i := by omega
     obtain rfl : k = i := by omega
     have HF : Hid (okP L (pfA L) k x = true) := by show _ = _; rw [HQ4.out, HAL.out]; exact HB.out
     go_wp2
     go_ret
     exact ⟨by rw [HF.out]; rfl, HB4.out.trans ((Go.Proofs.below_drewN _ _).mono HB4.out.size)⟩
end Go.Proofs.Ythopgmmodldljab
