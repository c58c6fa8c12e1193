import Derived.Test.YthopgmmodldljabNb
import Derived.Test.YthopgmmodldljabEr
import Derived.Test.YthopgmmodldljabEo
namespace Go.Proofs.Ythopgmmodldljab
open Go Go.RowKit
set_option linter.unusedVariables false
set_option linter.unusedSimpArgs false
/-! The document's fdNo. -/
set_option maxRecDepth 100000 in
set_option maxHeartbeats 8000000 in
theorem fdNo_any {w : World} {X : Nat} {pv fv iv qv rv lv : Value} {L : Lk} (h : LkW w X pv fv iv qv rv lv L) (hX : X ≤ w.heap.size) (hR : LkR L) (x : Pc) (nv gv : Value) : Calls Try.prog 35 #[.agg (lkL L.tramp pv fv iv qv rv lv L.ticks L.next L.free).toArray, .agg (x.l nv gv).toArray] w fun e w' => e = .returned (.bool (!okD (pfA L) x)) ∧ Below w.heap.size w w' := by
 obtain ⟨ip, ic, rfl⟩ := h.is.form
 obtain ⟨ni, hni⟩ : ∃ n, n = L.inos.length := ⟨_, rfl⟩
 have bi : ni ≤ 1048576 := by have := hR.il; omega
 rw [← hni] at h ⊢
 have HI : Hid (∀ V, Below w.heap.size w V → Is V X (.slice ip ni ic) L.inos) := fun V hV => (h.keep (Nat.le_refl _) (hV.mono hX)).is
 have HNI : Hid (ni = L.inos.length) := hni
 have HOP : Hid (∀ V (s : Int), Below w.heap.size w V → Calls Try.prog 66 #[.agg (lkL L.tramp pv fv (.slice ip ni ic) qv rv lv L.ticks L.next L.free).toArray, .int .i64 s] V fun e w' => e = .returned (.bool (L.files.any fun p => p.num == s)) ∧ Below V.heap.size V w') := fun V s hV => dopen_any (pv := pv) (iv := .slice ip ni ic) (qv := qv) (rv := rv) (lv := lv) (L := L) (h.keep (Nat.le_refl _) (hV.mono hX)).fs (Nat.le_trans hX hV.size) hR.fl s
 obtain ⟨lc, hlc⟩ : ∃ lc, lc = lkL L.tramp pv fv (.slice ip ni ic) qv rv lv L.ticks L.next L.free := ⟨_, rfl⟩
 rw [← hlc] at HOP ⊢
 have HL : Hid (lc[3]? = some (.slice ip ni ic) ∧ lc.length = 10) := by rw [hlc]; exact ⟨rfl, rfl⟩
 obtain ⟨en, hen⟩ : ∃ en, (x.c 2 == 3) = en := ⟨_, rfl⟩
 obtain ⟨cwd, hcw⟩ : ∃ c, c = x.c 62 := ⟨_, rfl⟩
 have HQ : Hid (okD (pfA L) x = (((List.range 16).all fun k => fdOk (pfA L) en (x.c (46 + k))) && (en || (L.inos.any fun p => p.ino == cwd && p.ty == 1)))) := by show _ = _; unfold okD; rw [hen, pf_dir, hcw]
 have HXX : Hid (X ≤ w.heap.size) := hX
 clear hX h hlc hni hR
 go_enter Try.func35, Try.ntmps35
 go_wp2_with (first
  | (refine wpList_is (.box 31 (.tmp 0)) rfl ?_; refine wpList_boxG 31 lc 2 (.tmp 0) _ rfl rfl rfl rfl ?_; intro W1 hW1 hB1 hs1)
  | (refine wpList_is (.box 60 (.tmp 1)) rfl ?_; refine wpList_boxG 60 (x.l nv gv) 3 (.tmp 1) _ rfl rfl rfl rfl ?_; intro W2 hW2 hB2 hs2; have k2 : W2.cell? ⟨W1.heap.size, 2, .none⟩ = some (.int .i64 (x.c 2)) := cell_heap (o := 2) hW2; rw [hs1] at k2)
  | fail)
 obtain ⟨g, hg⟩ : ∃ g, g = W1.heap.size := ⟨_, rfl⟩
 rw [← hg] at hW2
 have HB2 : Hid (Below w.heap.size w W2) := hB1.trans (hB2.mono (by omega))
 have hgl : g < W2.heap.size := by omega
 have hzg : w.heap.size < W2.heap.size := by omega
 have HW2 : Hid (∀ V, Below W2.heap.size W2 V → V.heap[w.heap.size]? = some (.cells lc.toArray 31) ∧ V.heap[g]? = some (.cells (x.l nv gv).toArray 60)) := fun V hV => ⟨(hV.block _ hzg).trans ((hB2.block _ (by omega)).trans hW1), (hV.block _ hgl).trans hW2⟩
 have HG0 : Hid (g < W2.heap.size ∧ w.heap.size < W2.heap.size) := ⟨hgl, hzg⟩
 clear k2
 try rw [← hs1]
 try rw [← hg]
 have HCW : Hid (cwd = x.c 62) := hcw
 clear hW1 hW2 hB1 hB2 hg hs1 hs2 hgl hzg hcw
 clear hen
 go_loopw [6] (fun v wr => ∃ k : Nat, k ≤ 16 ∧ v = .int .i64 k ∧ Hid (Below W2.heap.size W2 wr ∧ ∀ j, j < k → fdOk (pfA L) en (x.c (46 + j)) = true)) (fun v _ => (16 - intOf v).toNat)
 case atStart => exact ⟨0, by omega, rfl, Below.refl _ _, fun j h => by omega⟩
 case round =>
  obtain ⟨k, hk, rfl, HB⟩ := hrel
  by_cases hki : k < 16
  ·as_aux_lemma =>
    have i3 : (k : Int) < 16 := by omega
    have HK : Hid (k < 16) := hki
    obtain ⟨fd, hfd⟩ : ∃ fd, fd = x.c (46 + k) := ⟨_, rfl⟩
    have HFD : Hid (fd = x.c (46 + k)) := hfd
    have kf : wr.cell? ⟨g, 46 + k, .none⟩ = some (.int .i64 fd) := by
     have := range_heap (HW2.out _ HB.out.1).2 (46 + k) _ (fd_at x nv gv k hki)
     rw [Nat.zero_add] at this
     rw [hfd]
     exact this
    have HBW : Hid (Below w.heap.size w wr) := HB2.out.trans (HB.out.1.mono HB2.out.size)
    have HG : Hid (g < wr.heap.size ∧ w.heap.size < wr.heap.size) := by have := HG0.out; have := HB.out.1.size; exact ⟨by omega, by omega⟩
    clear hfd hki
    by_cases g1 : fd = -1
    ·have e1 : (fd != -1) = false := by simp [g1]
     have HF : Hid (fdOk (pfA L) en fd = true) := by show _ = _; unfold fdOk; simp [g1]
     clear g1
     go_upto_region 5 with fail
     refine wp_region_held_drew (S := (fun V => V.cell? ⟨g, 46 + k, .none⟩ = some (.int .i64 fd) ∧ True)) (by kernel_rfl) ⟨kf, trivial⟩ (fun hHeld => ?_)
     refine hT 0 15 (.int .i64 k) ?_
     simp only [x0,x1,x2,x3]
     refine hT 1 16 (.pointer (some ⟨g, 46, .none⟩)) ?_
     simp only [x0,x1,x2,x3]
     refine hT 2 17 (.pointer (some ⟨g, 46 + k, .none⟩)) ?_
     simp only [x0,x1,x2,x3]
     refine hT 3 18 (.int .i64 fd) ?_
     simp only [x0,x1,x2,x3]
     refine hT 4 19 (.bool false) ?_
     simp only [x0,x1,x2,x3]
     refine hT 5 20 (.bool false) ?_
     simp only [x0,x1,x2,x3]
     refine hU 6 21 ?_
     simp only [x0,x1,x2,x3]
     refine hU 7 22 ?_
     simp only [x0,x1,x2,x3]
     refine hU 8 23 ?_
     simp only [x0,x1,x2,x3]
     refine hU 9 24 ?_
     simp only [x0,x1,x2,x3]
     refine hU 10 25 ?_
     simp only [x0,x1,x2,x3]
     refine hU 11 26 ?_
     simp only [x0,x1,x2,x3]
     refine hU 12 27 ?_
     simp only [x0,x1,x2,x3]
     refine hU 13 28 ?_
     simp only [x0,x1,x2,x3]
     refine hU 14 29 ?_
     simp only [x0,x1,x2,x3]
     refine hU 15 30 ?_
     simp only [x0,x1,x2,x3]
     refine hT 16 31 (.bool false) ?_
     simp only [x0,x1,x2,x3]
     refine wpAnyH_done (by kernel_rfl) ?_ _
     go_wp2
     exact ⟨⟨k + 1, by omega, by go_num, HB.out.1.drew, fun j hj => by
      by_cases e : j = k
      ·subst e; rw [← HFD.out]; exact HF.out
      ·exact HB.out.2 j (by omega)⟩, by simp [intOf]; omega⟩
    have e1 : (fd != -1) = true := by simp [g1]
    have e2 : (fd == -1) = false := by simp [g1]
    have HE2 : Hid ((fd == -1) = false) := e2
    clear g1 e2
    cases en
    ·have rl : wr.rangeAt w.heap.size 0 lc := range_heap (HW2.out _ HB.out.1).1
     have c66 := HOP.out wr.drew fd HBW.out.drew
     obtain ⟨op, hop⟩ : ∃ op, op = (L.files.any fun p => p.num == fd) := ⟨_, rfl⟩
     have HF : Hid (fdOk (pfA L) false fd = op) := by show _ = _; unfold fdOk; rw [HE2.out, pf_file, hop]; rfl
     rw [← hop] at c66
     clear hop
     go_upto_region 5 with fail
     refine wp_region_held_drew (S := (fun V => V.cell? ⟨g, 46 + k, .none⟩ = some (.int .i64 fd) ∧ V.rangeAt w.heap.size 0 lc)) (by kernel_rfl) ⟨kf, rl⟩ (fun hHeld => ?_)
     refine hT 0 15 (.int .i64 k) ?_
     simp only [x0,x1,x2,x3]
     refine hT 1 16 (.pointer (some ⟨g, 46, .none⟩)) ?_
     simp only [x0,x1,x2,x3]
     refine hT 2 17 (.pointer (some ⟨g, 46 + k, .none⟩)) ?_
     simp only [x0,x1,x2,x3]
     refine hT 3 18 (.int .i64 fd) ?_
     simp only [x0,x1,x2,x3]
     refine hT 4 19 (.bool true) ?_
     simp only [x0,x1,x2,x3]
     refine hT 5 20 (.bool true) ?_
     simp only [x0,x1,x2,x3]
     refine hT 6 21 (.bool false) ?_
     simp only [x0,x1,x2,x3]
     refine hT 7 22 (.bool false) ?_
     simp only [x0,x1,x2,x3]
     refine hV 8 23 (.agg lc.toArray) hHeld rfl (by kernel_rfl) (yieldsIf_load_mid (by rfl) 31 (.tmp 2) rfl (w.heap.size) (0) rfl lc _ (fun ww hSw => hSw.2) Try.underlying31 rfl (by rw [HL.out.2]; kernel_rfl)) ?_
     simp only [x0,x1,x2,x3]
     refine hT 9 24 (.int .i64 k) ?_
     simp only [x0,x1,x2,x3]
     refine hT 10 25 (.pointer (some ⟨g, 46, .none⟩)) ?_
     simp only [x0,x1,x2,x3]
     refine hT 11 26 (.pointer (some ⟨g, 46 + k, .none⟩)) ?_
     simp only [x0,x1,x2,x3]
     refine hT 12 27 (.int .i64 fd) ?_
     simp only [x0,x1,x2,x3]
     refine wpAnyH_ready (rs := [13]) (by kernel_rfl) (by simp) ?_
     refine AllReadyH.cons rfl (fun K hK => ?_) AllReadyH.nil
     go_simp
     go_at_call 66
     refine (c66).mono ?_
     rintro _ W3 ⟨rfl, hB3⟩
     have HB3 : Hid (Below wr.heap.size wr W3) := (Below.refl _ _).drew.trans hB3
     have kf3 : W3.cell? ⟨g, 46 + k, .none⟩ = some (.int .i64 fd) ∧ W3.rangeAt w.heap.size 0 lc := ⟨(HB3.out.cell (p := ⟨g, 46 + k, .none⟩) (by have := HG.out; show g < _; omega)).trans kf, range_keep rl HB3.out (by have := HG.out; omega)⟩
     clear c66 hB3
     refine hK.out _ _ kf3 (fun hHeld => ?_)
     clear hK K
     try simp only [x0,x1,x2,x3,x4,x5,x6]
     refine hT 14 29 (.bool (!op)) ?_
     simp only [x0,x1,x2,x3]
     refine hT 15 30 (.bool (!op)) ?_
     simp only [x0,x1,x2,x3]
     refine hT 16 31 (.bool (!op)) ?_
     simp only [x0,x1,x2,x3]
     refine wpAnyH_done (by kernel_rfl) ?_ _
     clear kf3 hHeld kf rl
     cases op
     ·have HF2 : Hid (okD (pfA L) x = false) := by show _ = _; rw [HQ.out, all16_false HK.out (by rw [← HFD.out]; exact HF.out)]; rfl
      go_wp2
      go_ret
      exact ⟨by rw [HF2.out]; rfl, HBW.out.trans (HB3.out.mono HBW.out.size)⟩
     ·go_wp2
      exact ⟨⟨k + 1, by omega, by go_num, HB.out.1.trans (HB3.out.mono HB.out.1.size), fun j hj => by
       by_cases e : j = k
       ·subst e; rw [← HFD.out]; exact HF.out
       ·exact HB.out.2 j (by omega)⟩, by simp [intOf]; omega⟩
    ·have HF : Hid (fdOk (pfA L) true fd = false) := by show _ = _; unfold fdOk; rw [HE2.out]; rfl
     have HF2 : Hid (okD (pfA L) x = false) := by show _ = _; rw [HQ.out, all16_false HK.out (by rw [← HFD.out]; exact HF.out)]; rfl
     go_upto_region 5 with fail
     refine wp_region_held_drew (S := (fun V => V.cell? ⟨g, 46 + k, .none⟩ = some (.int .i64 fd) ∧ True)) (by kernel_rfl) ⟨kf, trivial⟩ (fun hHeld => ?_)
     refine hT 0 15 (.int .i64 k) ?_
     simp only [x0,x1,x2,x3]
     refine hT 1 16 (.pointer (some ⟨g, 46, .none⟩)) ?_
     simp only [x0,x1,x2,x3]
     refine hT 2 17 (.pointer (some ⟨g, 46 + k, .none⟩)) ?_
     simp only [x0,x1,x2,x3]
     refine hT 3 18 (.int .i64 fd) ?_
     simp only [x0,x1,x2,x3]
     refine hT 4 19 (.bool true) ?_
     simp only [x0,x1,x2,x3]
     refine hT 5 20 (.bool true) ?_
     simp only [x0,x1,x2,x3]
     refine hT 6 21 (.bool true) ?_
     simp only [x0,x1,x2,x3]
     refine hT 7 22 (.bool true) ?_
     simp only [x0,x1,x2,x3]
     refine hU 8 23 ?_
     simp only [x0,x1,x2,x3]
     refine hU 9 24 ?_
     simp only [x0,x1,x2,x3]
     refine hU 10 25 ?_
     simp only [x0,x1,x2,x3]
     refine hU 11 26 ?_
     simp only [x0,x1,x2,x3]
     refine hU 12 27 ?_
     simp only [x0,x1,x2,x3]
     refine hU 13 28 ?_
     simp only [x0,x1,x2,x3]
     refine hU 14 29 ?_
     simp only [x0,x1,x2,x3]
     refine hT 15 30 (.bool true) ?_
     simp only [x0,x1,x2,x3]
     refine hT 16 31 (.bool true) ?_
     simp only [x0,x1,x2,x3]
     refine wpAnyH_done (by kernel_rfl) ?_ _
     go_wp2
     go_ret
     exact ⟨by rw [HF2.out]; rfl, HBW.out.drew⟩
  ·as_aux_lemma =>
    have i3 : ¬ (k : Int) < 16 := by omega
    obtain rfl : k = 16 := by omega
    clear hki
    have HA : Hid (((List.range 16).all fun k => fdOk (pfA L) en (x.c (46 + k))) = true) := all16_true HB.out.2
    have HBW : Hid (Below w.heap.size w wr) := HB2.out.trans (HB.out.1.mono HB2.out.size)
    have HQ2 : Hid (okD (pfA L) x = (en || (L.inos.any fun p => p.ino == cwd && p.ty == 1))) := by show _ = _; rw [HQ.out, HA.out]; rfl
    cases en
    ·have kl : wr.cell? ⟨w.heap.size, 3, .none⟩ = some (.slice ip ni ic) := by have := cell_heap (o := 3) (HW2.out _ HB.out.1).1; rw [List.getElem?_toArray, HL.out.1] at this; exact this
     have k62 : wr.cell? ⟨g, 62, .none⟩ = some (.int .i64 cwd) := by rw [HCW.out]; exact cell_heap (o := 62) (HW2.out _ HB.out.1).2
     go_wp2
     go_loopw [7] (fun v wq => ∃ k : Nat, k ≤ ni ∧ v = .int .i64 k ∧ (∃ q, wq = wr.drewN q) ∧ Hid (((L.inos.take k).any fun p => p.ino == cwd && p.ty == 1) = false)) (fun v _ => (ni - intOf v).toNat)
     case atStart => exact ⟨0, by omega, rfl, ⟨0, rfl⟩, by show _ = _; simp⟩
     case round =>
      obtain ⟨k, hk, rfl, ⟨q, rfl⟩, HC⟩ := hrel
      by_cases hki : k < ni
      ·as_aux_lemma =>
        have i3 : (k : Int) < ni := by omega
        obtain ⟨-, b3, o3, y, cs, rfl, hbX, hy, ⟨bv, rfl, hN⟩, hcl, hr⟩ := (HI.out wr HBW.out).at hki
        have a0 := hr 0 _ rfl
        have a1 := hr 1 _ rfl
        rw [Nat.add_zero] at a0
        obtain ⟨c1, hc1⟩ : ∃ c, (y.ino == cwd) = c := ⟨_, rfl⟩
        obtain ⟨c2, hc2⟩ : ∃ c, (y.ty == 1) = c := ⟨_, rfl⟩
        have HE : Hid (((L.inos.take (k + 1)).any fun p => p.ino == cwd && p.ty == 1) = (c1 && c2)) := by
         show _ = _
         rw [List.take_add_one, hy, List.any_append, HC.out, ← hc1, ← hc2]
         simp
        have HY : Hid (y ∈ L.inos ∧ (y.ino == cwd && y.ty == 1) = (c1 && c2)) := ⟨List.mem_of_getElem? hy, by rw [hc1, hc2]⟩
        clear hr hcl hbX hy hN
        cases c1
        ·go_upto_region 12 with fail
         refine wp_region_held_drew (S := (fun V => V.cell? ⟨w.heap.size, 3, .none⟩ = some (.slice (some ⟨b3, o3, .none⟩) ni ic) ∧ V.cell? ⟨g, 62, .none⟩ = some (.int .i64 cwd) ∧ V.cell? ⟨b3, o3 + k * 8, .none⟩ = some (.int .i64 y.ino) ∧ V.cell? ⟨b3, o3 + k * 8 + 1, .none⟩ = some (.int .i64 y.ty))) (by kernel_rfl) ⟨kl, k62, a0, a1⟩ (fun hHeld => ?_)
         refine hT 0 40 (.pointer (some ⟨w.heap.size, 3, .none⟩)) ?_
         simp only [x0,x1,x2,x3]
         refine hT 1 41 (.slice (some ⟨b3, o3, .none⟩) ni ic) ?_
         simp only [x0,x1,x2,x3]
         refine hT 2 42 (.int .i64 k) ?_
         simp only [x0,x1,x2,x3]
         refine hT 3 43 (.pointer (some ⟨b3, o3 + k * 8, .none⟩)) ?_
         simp only [x0,x1,x2,x3]
         refine hT 4 44 (.pointer (some ⟨b3, o3 + k * 8, .none⟩)) ?_
         simp only [x0,x1,x2,x3]
         refine hT 5 45 (.int .i64 y.ino) ?_
         simp only [x0,x1,x2,x3]
         refine hT 6 46 (.pointer (some ⟨g, 62, .none⟩)) ?_
         simp only [x0,x1,x2,x3]
         refine hT 7 47 (.int .i64 cwd) ?_
         simp only [x0,x1,x2,x3]
         refine hT 8 48 (.bool false) ?_
         simp only [x0,x1,x2,x3]
         refine hT 9 49 (.bool false) ?_
         simp only [x0,x1,x2,x3]
         refine hU 10 50 ?_
         simp only [x0,x1,x2,x3]
         refine hU 11 51 ?_
         simp only [x0,x1,x2,x3]
         refine hU 12 52 ?_
         simp only [x0,x1,x2,x3]
         refine hU 13 53 ?_
         simp only [x0,x1,x2,x3]
         refine hU 14 54 ?_
         simp only [x0,x1,x2,x3]
         refine hU 15 55 ?_
         simp only [x0,x1,x2,x3]
         refine hU 16 56 ?_
         simp only [x0,x1,x2,x3]
         refine hT 17 57 (.bool false) ?_
         simp only [x0,x1,x2,x3]
         refine wpAnyH_done (by kernel_rfl) ?_ _
         go_wp2
         exact ⟨⟨k + 1, by omega, by go_num, ⟨q + 1, rfl⟩, by show _ = _; rw [HE.out]; rfl⟩, by simp [intOf]; omega⟩
        ·cases c2
         ·go_upto_region 12 with fail
          refine wp_region_held_drew (S := (fun V => V.cell? ⟨w.heap.size, 3, .none⟩ = some (.slice (some ⟨b3, o3, .none⟩) ni ic) ∧ V.cell? ⟨g, 62, .none⟩ = some (.int .i64 cwd) ∧ V.cell? ⟨b3, o3 + k * 8, .none⟩ = some (.int .i64 y.ino) ∧ V.cell? ⟨b3, o3 + k * 8 + 1, .none⟩ = some (.int .i64 y.ty))) (by kernel_rfl) ⟨kl, k62, a0, a1⟩ (fun hHeld => ?_)
          refine hT 0 40 (.pointer (some ⟨w.heap.size, 3, .none⟩)) ?_
          simp only [x0,x1,x2,x3]
          refine hT 1 41 (.slice (some ⟨b3, o3, .none⟩) ni ic) ?_
          simp only [x0,x1,x2,x3]
          refine hT 2 42 (.int .i64 k) ?_
          simp only [x0,x1,x2,x3]
          refine hT 3 43 (.pointer (some ⟨b3, o3 + k * 8, .none⟩)) ?_
          simp only [x0,x1,x2,x3]
          refine hT 4 44 (.pointer (some ⟨b3, o3 + k * 8, .none⟩)) ?_
          simp only [x0,x1,x2,x3]
          refine hT 5 45 (.int .i64 y.ino) ?_
          simp only [x0,x1,x2,x3]
          refine hT 6 46 (.pointer (some ⟨g, 62, .none⟩)) ?_
          simp only [x0,x1,x2,x3]
          refine hT 7 47 (.int .i64 cwd) ?_
          simp only [x0,x1,x2,x3]
          refine hT 8 48 (.bool true) ?_
          simp only [x0,x1,x2,x3]
          refine hT 9 49 (.bool true) ?_
          simp only [x0,x1,x2,x3]
          refine hT 10 50 (.pointer (some ⟨w.heap.size, 3, .none⟩)) ?_
          simp only [x0,x1,x2,x3]
          refine hT 11 51 (.slice (some ⟨b3, o3, .none⟩) ni ic) ?_
          simp only [x0,x1,x2,x3]
          refine hT 12 52 (.int .i64 k) ?_
          simp only [x0,x1,x2,x3]
          refine hT 13 53 (.pointer (some ⟨b3, o3 + k * 8, .none⟩)) ?_
          simp only [x0,x1,x2,x3]
          refine hT 14 54 (.pointer (some ⟨b3, o3 + k * 8 + 1, .none⟩)) ?_
          simp only [x0,x1,x2,x3]
          refine hT 15 55 (.int .i64 y.ty) ?_
          simp only [x0,x1,x2,x3]
          refine hT 16 56 (.bool false) ?_
          simp only [x0,x1,x2,x3]
          refine hT 17 57 (.bool false) ?_
          simp only [x0,x1,x2,x3]
          refine wpAnyH_done (by kernel_rfl) ?_ _
          go_wp2
          exact ⟨⟨k + 1, by omega, by go_num, ⟨q + 1, rfl⟩, by show _ = _; rw [HE.out]; rfl⟩, by simp [intOf]; omega⟩
         ·have HF2 : Hid (okD (pfA L) x = true) := by
           show _ = _
           rw [HQ2.out]
           show (false || _) = true
           rw [Bool.false_or, List.any_eq_true]
           exact ⟨y, HY.out.1, HY.out.2⟩
          go_upto_region 12 with fail
          refine wp_region_held_drew (S := (fun V => V.cell? ⟨w.heap.size, 3, .none⟩ = some (.slice (some ⟨b3, o3, .none⟩) ni ic) ∧ V.cell? ⟨g, 62, .none⟩ = some (.int .i64 cwd) ∧ V.cell? ⟨b3, o3 + k * 8, .none⟩ = some (.int .i64 y.ino) ∧ V.cell? ⟨b3, o3 + k * 8 + 1, .none⟩ = some (.int .i64 y.ty))) (by kernel_rfl) ⟨kl, k62, a0, a1⟩ (fun hHeld => ?_)
          refine hT 0 40 (.pointer (some ⟨w.heap.size, 3, .none⟩)) ?_
          simp only [x0,x1,x2,x3]
          refine hT 1 41 (.slice (some ⟨b3, o3, .none⟩) ni ic) ?_
          simp only [x0,x1,x2,x3]
          refine hT 2 42 (.int .i64 k) ?_
          simp only [x0,x1,x2,x3]
          refine hT 3 43 (.pointer (some ⟨b3, o3 + k * 8, .none⟩)) ?_
          simp only [x0,x1,x2,x3]
          refine hT 4 44 (.pointer (some ⟨b3, o3 + k * 8, .none⟩)) ?_
          simp only [x0,x1,x2,x3]
          refine hT 5 45 (.int .i64 y.ino) ?_
          simp only [x0,x1,x2,x3]
          refine hT 6 46 (.pointer (some ⟨g, 62, .none⟩)) ?_
          simp only [x0,x1,x2,x3]
          refine hT 7 47 (.int .i64 cwd) ?_
          simp only [x0,x1,x2,x3]
          refine hT 8 48 (.bool true) ?_
          simp only [x0,x1,x2,x3]
          refine hT 9 49 (.bool true) ?_
          simp only [x0,x1,x2,x3]
          refine hT 10 50 (.pointer (some ⟨w.heap.size, 3, .none⟩)) ?_
          simp only [x0,x1,x2,x3]
          refine hT 11 51 (.slice (some ⟨b3, o3, .none⟩) ni ic) ?_
          simp only [x0,x1,x2,x3]
          refine hT 12 52 (.int .i64 k) ?_
          simp only [x0,x1,x2,x3]
          refine hT 13 53 (.pointer (some ⟨b3, o3 + k * 8, .none⟩)) ?_
          simp only [x0,x1,x2,x3]
          refine hT 14 54 (.pointer (some ⟨b3, o3 + k * 8 + 1, .none⟩)) ?_
          simp only [x0,x1,x2,x3]
          refine hT 15 55 (.int .i64 y.ty) ?_
          simp only [x0,x1,x2,x3]
          refine hT 16 56 (.bool true) ?_
          simp only [x0,x1,x2,x3]
          refine hT 17 57 (.bool true) ?_
          simp only [x0,x1,x2,x3]
          refine wpAnyH_done (by kernel_rfl) ?_ _
          go_wp2
          go_ret
          exact ⟨by rw [HF2.out]; rfl, HBW.out.trans ((Go.Proofs.below_drewN _ (q + 1)).mono HBW.out.size)⟩
      ·as_aux_lemma =>
        have i3 : ¬ (k : Int) < ni := by omega
        have HF2 : Hid (okD (pfA L) x = false) := by
         have h1 := HC.out
         rw [List.take_of_length_le (by have := HNI.out; omega)] at h1
         show _ = _
         rw [HQ2.out, h1]
         rfl
        go_wp2
        go_ret
        exact ⟨by rw [HF2.out]; rfl, HBW.out.trans ((Go.Proofs.below_drewN _ _).mono HBW.out.size)⟩
    ·have HF2 : Hid (okD (pfA L) x = true) := by show _ = _; rw [HQ2.out]; rfl
     go_wp2
     go_ret
     exact ⟨by rw [HF2.out]; rfl, HBW.out⟩
end Go.Proofs.Ythopgmmodldljab
