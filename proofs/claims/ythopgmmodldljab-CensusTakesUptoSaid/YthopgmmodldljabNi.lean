import Derived.Test.YthopgmmodldljabNb
import Derived.Test.YthopgmmodldljabNd
import Derived.Test.YthopgmmodldljabNe
import Derived.Test.YthopgmmodldljabNf
import Derived.Test.YthopgmmodldljabNg
import Derived.Test.YthopgmmodldljabNh
namespace Go.Proofs.Ythopgmmodldljab
open Go Go.RowKit
set_option linter.unusedVariables false
set_option linter.unusedSimpArgs false
/-! The document's wrong. -/
def Zs (res : List (List (Int × Int))) (k : Nat) : Prop := ∀ (k' : Nat), k' < k → ∀ l', res[k']? = some l' → ∀ (j : Nat) q, l'[j]? = some q → q = (0, 0)
theorem Zs.succ {res : List (List (Int × Int))} {k : Nat} {l : List (Int × Int)} (h : Zs res k) (hl : res[k]? = some l) (h1 : ∀ (j : Nat) q, l[j]? = some q → q = (0, 0)) : Zs res (k + 1) := by
 intro k' hk l' hl' j q hq
 by_cases e : k' = k
 ·subst e
  rw [hl] at hl'
  injection hl' with hl'
  subst hl'
  exact h1 j q hq
 ·exact h k' (by omega) l' hl' j q hq
def PlP (N : Nat) (A : List Nm) (p : Int) : Prop := (p = -1 ∧ ∀ (j : Nat) x, A[j]? = some x → isF N x.1) ∨ ∃ (k : Nat) (x : Nm), p = (k : Int) ∧ A[k]? = some x ∧ ¬ isF N x.1 ∧ ∀ (j : Nat) y, j < k → A[j]? = some y → isF N y.1
theorem ow_nonneg (A : List Nm) (a : Int) : 0 ≤ ((owF A a).getD (0, 0, 0)).2.2 := by
 unfold owF
 split
 ·simp
 ·simp
theorem frL_nonneg {N : Nat} {A : List Nm} {i : Nat} {x : Ow} (h : (frL N A)[i]? = some x) : 0 ≤ x.2.2 := by
 unfold frL at h
 rw [List.getElem?_map] at h
 cases hk : (List.range N)[i]? with
 | none => rw [hk] at h; cases h
 | some k =>
  rw [hk] at h
  injection h with h
  rw [← h]
  exact ow_nonneg _ _
theorem zip_get {α β : Type} (g : α × Nat → β) {l : List α} {i : Nat} {x : α} (h : l[i]? = some x) : (l.zipIdx.map g)[i]? = some (g (x, i)) := by
 rw [List.getElem?_map, List.getElem?_zipIdx, h]
 simp
theorem map_get {α β : Type} (g : α → β) {l : List α} {i : Nat} {x : α} (h : l[i]? = some x) : (l.map g)[i]? = some (g x) := by
 rw [List.getElem?_map, h]
 rfl
theorem unW_f (k n : Int) : unW false k n = (k, n) := rfl
theorem unW_t (k n : Int) : unW true k n = (0, 0) := rfl
set_option maxRecDepth 100000 in
set_option maxHeartbeats 16000000 in
theorem dwrong_any {w : World} {X : Nat} {pv fv iv qv rv lv : Value} {L : Lk} (h : LkW w X pv fv iv qv rv lv L) (hX : X ≤ w.heap.size) (hR : LkR L) {ev : Value} {fr : List Int} (hf : Wd w X ev fr) (hfr : fr.length ≤ 1000000) (N : Nat) (hN : N ≤ 4096) {gv cv dv : Value} (hg : Sl w w.heap.size 3 (fun x cs => cs = owL x) gv (frL N (allL L fr))) (hc : Sl w w.heap.size 3 (fun x cs => cs = owL x) cv (L.files.map (cfF (nfA L)))) (hd : Sl w w.heap.size 3 (fun x cs => cs = owL x) dv (L.inos.map (cfI (nfA L)))) (r : Int × Int) (place : Int) (hp : PlP N (allL L fr) place) : Calls Try.prog 23 #[.agg (cwL gv cv dv r).toArray, .agg (lkL L.tramp pv fv iv qv rv lv L.ticks L.next L.free).toArray, ev, .int .i64 place] w (WrP w (tkW N L fr)) := by
 obtain ⟨pp, pc, rfl⟩ := h.ps.form
 obtain ⟨fp, fc, rfl⟩ := h.fs.form
 obtain ⟨ip, ic, rfl⟩ := h.is.form
 obtain ⟨qp, qc, rfl⟩ := h.qs.form
 obtain ⟨ep, ec, rfl⟩ := hf.form
 obtain ⟨gp, gc, rfl⟩ := hg.form
 obtain ⟨np, hnp⟩ : ∃ n, n = L.procs.length := ⟨_, rfl⟩
 obtain ⟨nf, hnf⟩ : ∃ n, n = L.files.length := ⟨_, rfl⟩
 obtain ⟨ni, hni⟩ : ∃ n, n = L.inos.length := ⟨_, rfl⟩
 obtain ⟨nq, hnq⟩ : ∃ n, n = L.pipes.length := ⟨_, rfl⟩
 obtain ⟨ne, hne⟩ : ∃ n, n = fr.length := ⟨_, rfl⟩
 have hgn : (frL N (allL L fr)).length = N := by simp [frL]
 have bp : np ≤ 1048576 := by have := hR.pl; omega
 have bf : nf ≤ 1048576 := by have := hR.fl; omega
 have bi : ni ≤ 1048576 := by have := hR.il; omega
 have bq : nq ≤ 1048576 := by have := hR.ql; omega
 have be : ne ≤ 1000000 := by omega
 rw [hgn] at hg ⊢
 rw [← hnp, ← hnf, ← hni, ← hnq] at h ⊢
 rw [← hne]
 have HNN : Hid (np = L.procs.length ∧ nf = L.files.length ∧ ni = L.inos.length ∧ nq = L.pipes.length ∧ (frL N (allL L fr)).length = N) := ⟨hnp, hnf, hni, hnq, hgn⟩
 have HLK : Hid (∀ V, Below w.heap.size w V → LkW V X (.slice pp np pc) (.slice fp nf fc) (.slice ip ni ic) (.slice qp nq qc) rv lv L ∧ X ≤ V.heap.size) := fun V hV => ⟨h.keep (Nat.le_refl _) (hV.mono hX), Nat.le_trans hX hV.size⟩
 have HGR : Hid (∀ V, Below w.heap.size w V → Sl V V.heap.size 3 (fun x cs => cs = owL x) (.slice gp N gc) (frL N (allL L fr))) := fun V hV => hg.mono hV.size hV (fun _ _ _ q => q)
 obtain ⟨lc, hlc⟩ : ∃ lc, lc = lkL L.tramp (.slice pp np pc) (.slice fp nf fc) (.slice ip ni ic) (.slice qp nq qc) rv lv L.ticks L.next L.free := ⟨_, rfl⟩
 obtain ⟨wc0, hwc0⟩ : ∃ wc0, wc0 = cwL (.slice gp N gc) cv dv r := ⟨_, rfl⟩
 have C33 : Hid (∀ V i x, Below w.heap.size w V → L.procs[i]? = some x → Calls Try.prog 33 #[.agg lc.toArray, .int .i64 (i : Nat)] V fun e w' => e = .returned (.bool (!okP L (pfA L) i x)) ∧ Below V.heap.size V w') := fun V i x hV hx => by rw [hlc]; exact procNo_any (HLK.out V hV).1 (HLK.out V hV).2 hR i x hx
 have C34 : Hid (∀ V i x nv gv, Below w.heap.size w V → L.procs[i]? = some x → Wd V X nv x.nodes → Gs V X gv x.pages → Calls Try.prog 34 #[.agg (x.l nv gv).toArray] V fun e w' => e = .returned (.bool (!okG x)) ∧ Below V.heap.size V w') := fun V i x nv gv hV hx h1 h2 => dpages_any x nv gv h1 h2 (HLK.out V hV).2 (hR.p x (List.mem_of_getElem? hx))
 have C35 : Hid (∀ V (x : Pc) nv gv, Below w.heap.size w V → Calls Try.prog 35 #[.agg lc.toArray, .agg (x.l nv gv).toArray] V fun e w' => e = .returned (.bool (!okD (pfA L) x)) ∧ Below V.heap.size V w') := fun V x nv gv hV => by rw [hlc]; exact fdNo_any (HLK.out V hV).1 (HLK.out V hV).2 hR x nv gv
 have C36 : Hid (∀ V i x, Below w.heap.size w V → L.files[i]? = some x → Calls Try.prog 36 #[.agg wc0.toArray, .agg lc.toArray, .int .i64 (i : Nat)] V fun e w' => e = .returned (.bool (!okF L (pfA L) (nfA L) i x)) ∧ Below V.heap.size V w') := fun V i x hV hx => by rw [hlc, hwc0]; exact fileNo_any (HLK.out V hV).1 (HLK.out V hV).2 hR r (hc.mono hV.size hV (fun _ _ _ q => q)) i x hx
 have C37 : Hid (∀ V i x, Below w.heap.size w V → L.inos[i]? = some x → Calls Try.prog 37 #[.agg wc0.toArray, .agg lc.toArray, .int .i64 (i : Nat)] V fun e w' => e = .returned (.bool (!okI L (nfA L) i x)) ∧ Below V.heap.size V w') := fun V i x hV hx => by rw [hlc, hwc0]; exact inodeNo_any (HLK.out V hV).1 (HLK.out V hV).2 hR r (hd.mono hV.size hV (fun _ _ _ q => q)) i x hx
 have C38 : Hid (∀ V i x, Below w.heap.size w V → L.pipes[i]? = some x → Calls Try.prog 38 #[.agg lc.toArray, .int .i64 (i : Nat)] V fun e w' => e = .returned (.bool (!okQ L (nfA L) i x)) ∧ Below V.heap.size V w') := fun V i x hV hx => by rw [hlc]; exact pipeNo_any (HLK.out V hV).1 (HLK.out V hV).2 hR i x hx
 rw [← hlc, ← hwc0]
 have HL : Hid (lc[1]? = some (.slice pp np pc) ∧ lc[2]? = some (.slice fp nf fc) ∧ lc[3]? = some (.slice ip ni ic) ∧ lc[4]? = some (.slice qp nq qc) ∧ lc[9]? = some (.int .i64 L.free) ∧ lc.length = 10 ∧ wc0[0]? = some (.slice gp N gc) ∧ wc0.length = 5) := by rw [hlc, hwc0]; exact ⟨rfl, rfl, rfl, rfl, rfl, rfl, rfl, rfl⟩
 obtain ⟨lf, hlf⟩ : ∃ v, v = L.free := ⟨_, rfl⟩
 rw [← hlf] at HL
 obtain ⟨res, hres⟩ : ∃ res, res = wrAll N L fr (pfA L) (nfA L) := ⟨_, rfl⟩
 have HT : Hid (tkW N L fr = firstB res.flatten) := by show _ = _; rw [hres]; rfl
 obtain ⟨l0, hl0⟩ : ∃ l, l = (allL L fr).zipIdx.map fun x => unW (decide (isF N x.1.1)) 2 x.2 := ⟨_, rfl⟩
 have HR0 : Hid (res[0]? = some l0) := by show _ = _; rw [hres, hl0]; rfl
 have HR1 : Hid (res[1]? = some ((frL N (allL L fr)).zipIdx.map fun x => wfW x.1.2.2 x.2)) := by show _ = _; rw [hres]; rfl
 have HR2 : Hid (res[2]? = some [unW (lf == (ne : Int)) 5 0]) := by show _ = _; rw [hres, hlf, hne]; rfl
 have HR3 : Hid (res[3]? = some (L.procs.zipIdx.map fun x => unW (okP L (pfA L) x.2 x.1) 10 (x.1.c 0))) := by show _ = _; rw [hres]; rfl
 have HR4 : Hid (res[4]? = some (L.procs.map fun x => unW (okG x) 11 (x.c 0))) := by show _ = _; rw [hres]; rfl
 have HR5 : Hid (res[5]? = some (L.procs.map fun x => unW (okD (pfA L) x) 6 (x.c 0))) := by show _ = _; rw [hres]; rfl
 have HR6 : Hid (res[6]? = some (L.files.zipIdx.map fun x => unW (okF L (pfA L) (nfA L) x.2 x.1) 7 x.1.num)) := by show _ = _; rw [hres]; rfl
 have HR7 : Hid (res[7]? = some (L.inos.zipIdx.map fun x => unW (okI L (nfA L) x.2 x.1) 8 x.1.ino)) := by show _ = _; rw [hres]; rfl
 have HR8 : Hid (res[8]? = some (L.pipes.zipIdx.map fun x => unW (okQ L (nfA L) x.2 x.1) 9 x.1.num)) := by show _ = _; rw [hres]; rfl
 have HR9 : Hid (res.length = 9) := by show _ = _; rw [hres]; rfl
 have HPL : Hid (PlP N (allL L fr) place) := hp
 have HL0 : Hid (l0 = (allL L fr).zipIdx.map fun x => unW (decide (isF N x.1.1)) 2 x.2) := hl0
 clear h hX hR hf hfr hg hc hd hp hnp hnf hni hnq hne hgn hlc hwc0 hlf hres hl0
 go_enter Try.func23, Try.ntmps23
 go_upto_region 1 with (first
  | (refine wpList_is (.box 41 (.tmp 0)) rfl ?_; refine wpList_boxG 41 wc0 4 (.tmp 0) _ rfl rfl rfl rfl ?_; intro W0 hW0 hB0 hs0)
  | (refine wpList_is (.box 31 (.tmp 1)) rfl ?_; refine wpList_boxG 31 lc 5 (.tmp 1) _ rfl rfl rfl rfl ?_; intro W1 hW1 hB1 hs1)
  | (refine wpList_is (.alloc 39) rfl ?_; refine wpList_allocG 39 2 16 info39 8 _ rfl rfl rfl ?_; intro W3 zs hzs hW3 hB3 hs3)
  | fail)
 obtain ⟨z0, hz0⟩ : ∃ z, z = w.heap.size := ⟨_, rfl⟩
 obtain ⟨z1, hz1⟩ : ∃ z, z = W0.heap.size := ⟨_, rfl⟩
 obtain ⟨z2, hz2⟩ : ∃ z, z = W1.heap.size := ⟨_, rfl⟩
 rw [← hz0] at hW0
 rw [← hz1] at hW1
 rw [← hz2] at hW3
 have HB3 : Hid (Below w.heap.size w W3) := hB0.trans ((hB1.trans (hB3.mono (by omega))).mono (by omega))
 have HZZ : Hid (w.heap.size ≤ z2) := by show _ ≤ _; omega
 have HKK : Hid (∀ V, Below W3.heap.size W3 V → V.heap[z0]? = some (.cells wc0.toArray 41) ∧ V.heap[z1]? = some (.cells lc.toArray 31) ∧ V.heap[z2]? = some (.cells zs.toArray 39 (0, 0)) ∧ Below w.heap.size w V) := fun V hV => ⟨(hV.block _ (by omega)).trans ((hB3.block _ (by omega)).trans ((hB1.block _ (by omega)).trans hW0)), (hV.block _ (by omega)).trans ((hB3.block _ (by omega)).trans hW1), (hV.block _ (by omega)).trans hW3, HB3.out.trans (hV.mono HB3.out.size)⟩
 try rw [← hs0]
 try rw [← hz1]
 try rw [← hz2]
 try rw [← hz0]
 simp only [x0,x1,x2,x3]
 clear hW0 hW1 hW3 hB0 hB1 hB3 hs0 hs1 hs3 hz0 hz1 hz2
 by_cases p0 : 0 ≤ place
 ·as_aux_lemma =>
   have hWz := (HKK.out W3 (Below.refl _ _)).2.2.1
   have HF : Hid (tkW N L fr = (2, place)) := by
    show _ = _
    rcases HPL.out with ⟨e, _⟩ | ⟨k, x, e, hk, hx, h0⟩
    ·omega
    ·rw [HT.out, e]
     exact firstB_hit (k := 0) (i := k) HR0.out (by rw [HL0.out]; exact (zip_get _ hk).trans (by rw [decide_eq_false hx]; rfl)) (by intro c; injection c with c _; omega) (fun k' hk' => by omega) (fun j hj q hq => by
      rw [HL0.out] at hq
      obtain ⟨y, hy, rfl⟩ := zip_at hq
      show unW (decide (isF N y.1)) 2 j = _
      rw [decide_eq_true (h0 j y hj hy)]
      rfl)
   go_wp2_with (first
    | (refine wpList_is (.build 39 #[(0, .const (.int .i64 2)), (1, .tmp 18)]) rfl ?_; refine wpList_buildTo rfl 39 _ rfl (some 19) rfl (wrL (2, place)).toArray (by kernel_rfl) ?_)
    | (refine wpList_is (.store 39 (.tmp 8) (.tmp 19)) rfl ?_; refine wpList_storeG 39 2 16 z2 info39 (wrL (2, place)) zs rfl hzs (List.all_eq_true.1 (show (wrL (2, place)).all (fun u => u.oneCell') = true from rfl)) (.tmp 8) (.tmp 19) _ rfl rfl rfl rfl rfl hWz ?_; intro W6 hW6 hg6 hs6)
    | fail)
   refine bodyPost_ret (results_cell_any (p := 8) (ty := 39) rfl _ _ ⟨z2, 0, .none⟩ _ rfl (run_loadVar_mid (P := Try.prog) _ z2 0 39 (wrL (2, place)) _ (range_heap hW6) Try.underlying39 rfl (by kernel_rfl))) rfl ?_
   exact ⟨by rw [HF.out], (HB3.out).grown hg6 (HB3.out).size (fun k hk => by injection hk with hk; have := HZZ.out; omega)⟩
 have Z1 : Hid (Zs res 1) := by
  show Zs res 1
  refine Zs.succ (k := 0) (fun k' h => by omega) HR0.out (fun j q hq => ?_)
  rw [HL0.out] at hq
  obtain ⟨y, hy, rfl⟩ := zip_at hq
  rcases HPL.out with ⟨_, ha⟩ | ⟨k, x, e, _⟩
  ·show unW (decide (isF N y.1)) 2 j = _
   rw [decide_eq_true (ha j y hy)]
   rfl
  ·omega
 clear HPL HL0 HR0
 go_wp2
 go_loopw [9] (fun v wr => ∃ i : Nat, i ≤ N ∧ v = .int .i64 i ∧ wr = W3 ∧ Hid (∀ j q, j < i → ((frL N (allL L fr)).zipIdx.map fun x => wfW x.1.2.2 x.2)[j]? = some q → q = (0, 0))) (fun v _ => (N - intOf v).toNat)
 case atStart => exact ⟨0, by omega, rfl, rfl, fun j q h => by omega⟩
 case round =>
  obtain ⟨i, hi, rfl, rfl, HI⟩ := hrel
  obtain ⟨hc0, hc1, hWz, hBw⟩ := HKK.out wr (Below.refl _ _)
  have kg : wr.cell? ⟨z0, 0, .none⟩ = some (.slice gp N gc) := by have := cell_heap (o := 0) hc0; rw [List.getElem?_toArray, HL.out.2.2.2.2.2.2.1] at this; exact this
  clear hc0 hc1
  by_cases hin : i < N
  ·as_aux_lemma =>
    have i1 : (i : Int) < N := by omega
    obtain ⟨-, b, o, x, cs, rfl, hbX, hx, rfl, hcl, hr⟩ := (HGR.out wr hBw).at hin
    have a2 := hr 2 _ rfl
    have HX : Hid (((frL N (allL L fr)).zipIdx.map fun x => wfW x.1.2.2 x.2)[i]? = some (wfW x.2.2 i)) := zip_get _ hx
    have hx0 := frL_nonneg hx
    obtain ⟨tm, htm⟩ : ∃ t, t = x.2.2 := ⟨_, rfl⟩
    rw [← htm] at a2 HX hx0
    have HBW : Hid (Below w.heap.size w wr) := hBw
    clear hr hcl hbX hx htm hBw
    by_cases g0 : tm = 0
    ·have e0 : (tm == 0) = true := by simp [g0]
     have HW : Hid (wfW tm i = (3, (i : Int))) := by show _ = _; unfold wfW; rw [if_pos g0]
     clear g0
     have HF : Hid (tkW N L fr = (3, (i : Int))) := by
      show _ = _
      rw [HT.out]
      exact firstB_hit (k := 1) (i := i) HR1.out (HX.out.trans (by rw [HW.out])) (by intro c; injection c with c _; omega) Z1.out (fun j hj q hq => HI.out j q hj hq)
     go_wp2_with (first
      | (refine wpList_is (.build 39 #[(0, .const (.int .i64 3)), (1, .tmp 34)]) rfl ?_; refine wpList_buildTo rfl 39 _ rfl (some 35) rfl (wrL (3, (i : Int))).toArray (by kernel_rfl) ?_)
      | (refine wpList_is (.store 39 (.tmp 8) (.tmp 35)) rfl ?_; refine wpList_storeG 39 2 16 z2 info39 (wrL (3, (i : Int))) zs rfl hzs (List.all_eq_true.1 (show (wrL (3, (i : Int))).all (fun u => u.oneCell') = true from rfl)) (.tmp 8) (.tmp 35) _ rfl rfl rfl rfl rfl hWz ?_; intro W6 hW6 hg6 hs6)
      | fail)
     refine bodyPost_ret (results_cell_any (p := 8) (ty := 39) rfl _ _ ⟨z2, 0, .none⟩ _ rfl (run_loadVar_mid (P := Try.prog) _ z2 0 39 (wrL (3, (i : Int))) _ (range_heap hW6) Try.underlying39 rfl (by kernel_rfl))) rfl ?_
     exact ⟨by rw [HF.out], (HBW.out).grown hg6 (HBW.out).size (fun k hk => by injection hk with hk; have := HZZ.out; omega)⟩
    have e0 : (tm == 0) = false := by simp [g0]
    by_cases g1 : 1 < tm
    ·have HW : Hid (wfW tm i = (4, (i : Int))) := by show _ = _; unfold wfW; rw [if_neg g0, if_neg (by omega)]
     clear g0
     have HF : Hid (tkW N L fr = (4, (i : Int))) := by
      show _ = _
      rw [HT.out]
      exact firstB_hit (k := 1) (i := i) HR1.out (HX.out.trans (by rw [HW.out])) (by intro c; injection c with c _; omega) Z1.out (fun j hj q hq => HI.out j q hj hq)
     go_wp2_with (first
      | (refine wpList_is (.build 39 #[(0, .const (.int .i64 4)), (1, .tmp 43)]) rfl ?_; refine wpList_buildTo rfl 39 _ rfl (some 44) rfl (wrL (4, (i : Int))).toArray (by kernel_rfl) ?_)
      | (refine wpList_is (.store 39 (.tmp 8) (.tmp 44)) rfl ?_; refine wpList_storeG 39 2 16 z2 info39 (wrL (4, (i : Int))) zs rfl hzs (List.all_eq_true.1 (show (wrL (4, (i : Int))).all (fun u => u.oneCell') = true from rfl)) (.tmp 8) (.tmp 44) _ rfl rfl rfl rfl rfl hWz ?_; intro W6 hW6 hg6 hs6)
      | fail)
     refine bodyPost_ret (results_cell_any (p := 8) (ty := 39) rfl _ _ ⟨z2, 0, .none⟩ _ rfl (run_loadVar_mid (P := Try.prog) _ z2 0 39 (wrL (4, (i : Int))) _ (range_heap hW6) Try.underlying39 rfl (by kernel_rfl))) rfl ?_
     exact ⟨by rw [HF.out], (HBW.out).grown hg6 (HBW.out).size (fun k hk => by injection hk with hk; have := HZZ.out; omega)⟩
    ·have HW : Hid (wfW tm i = (0, 0)) := by show _ = _; unfold wfW; rw [if_neg g0, if_pos (by omega)]
     clear g0
     go_wp2
     exact ⟨⟨i + 1, by omega, by go_num, by first | rfl | trivial, fun j q hj hq => by
      by_cases e : j = i
      ·subst e
       rw [HX.out] at hq
       injection hq with hq
       rw [← hq]
       exact HW.out
      ·exact HI.out j q (by omega) hq⟩, by simp [intOf]; omega⟩
  have i1 : ¬ (i : Int) < N := by omega
  have Z2 : Hid (Zs res 2) := Zs.succ Z1.out HR1.out (fun j q hq => HI.out j q (by
   have h1 := (List.getElem?_eq_some_iff.1 hq).1
   rw [List.length_map, List.length_zipIdx, HNN.out.2.2.2.2] at h1
   omega) hq)
  have HBW : Hid (Below w.heap.size w wr) := hBw
  clear HI hBw
  have k9 : wr.cell? ⟨z1, 9, .none⟩ = some (.int .i64 lf) := by have := cell_heap (o := 9) (HKK.out wr (Below.refl _ _)).2.1; rw [List.getElem?_toArray, HL.out.2.2.2.2.1] at this; exact this
  by_cases g2 : lf = (ne : Int)
  case neg => as_aux_lemma =>
   have e2 : (lf != (ne : Int)) = true := by simp [g2]
   have HE2 : Hid ((lf == (ne : Int)) = false) := by show _ = _; simp [g2]
   clear g2
   have HF : Hid (tkW N L fr = (5, 0)) := by
    show _ = _
    rw [HT.out]
    exact firstB_hit (k := 2) (i := 0) HR2.out (show [unW (lf == (ne : Int)) 5 0][0]? = _ by rw [HE2.out]; rfl) (by intro c; injection c with c _; omega) Z2.out (fun j hj q hq => by omega)
   go_wp2_with (first
    | (refine wpList_is (.build 39 #[(0, .const (.int .i64 5))]) rfl ?_; refine wpList_buildTo rfl 39 _ rfl (some 50) rfl (wrL (5, 0)).toArray (by kernel_rfl) ?_)
    | (refine wpList_is (.store 39 (.tmp 8) (.tmp 50)) rfl ?_; refine wpList_storeG 39 2 16 z2 info39 (wrL (5, 0)) zs rfl hzs (List.all_eq_true.1 (show (wrL (5, 0)).all (fun u => u.oneCell') = true from rfl)) (.tmp 8) (.tmp 50) _ rfl rfl rfl rfl rfl hWz ?_; intro W6 hW6 hg6 hs6)
    | fail)
   refine bodyPost_ret (results_cell_any (p := 8) (ty := 39) rfl _ _ ⟨z2, 0, .none⟩ _ rfl (run_loadVar_mid (P := Try.prog) _ z2 0 39 (wrL (5, 0)) _ (range_heap hW6) Try.underlying39 rfl (by kernel_rfl))) rfl ?_
   exact ⟨by rw [HF.out], (HBW.out).grown hg6 (HBW.out).size (fun k hk => by injection hk with hk; have := HZZ.out; omega)⟩
  have e2 : (lf != (ne : Int)) = false := by simp [g2]
  have Z3 : Hid (Zs res 3) := Zs.succ Z2.out HR2.out (fun j q hq => by
   have h1 := (List.getElem?_eq_some_iff.1 hq).1
   simp at h1
   subst h1
   simp at hq
   rw [← hq, show (lf == (ne : Int)) = true by simp [g2]]
   rfl)
  clear g2
  clear hWz
  have HE : Hid (Below wr.heap.size wr wr) := Below.refl _ _
  go_wp2
  go_loopw [10] (fun v v3 => ∃ i : Nat, i ≤ np ∧ v = .int .i64 i ∧ Hid (Below wr.heap.size wr v3 ∧ ∀ j q, j < i → (L.procs.zipIdx.map (fun x : Pc × Nat => unW (okP L (pfA L) x.2 x.1) 10 (x.1.c 0)))[j]? = some q → q = (0, 0))) (fun v _ => (np - intOf v).toNat)
  case atStart => exact ⟨0, by omega, rfl, HE.out, fun j q h => by omega⟩
  case round =>
   obtain ⟨i, hi, rfl, HI⟩ := hrel
   rename World => v3
   clear HE HBW
   obtain ⟨hc0, hc1, hWz, hBw⟩ := HKK.out v3 HI.out.1
   have HBV : Hid (Below w.heap.size w v3) := hBw
   have kl : v3.cell? ⟨z1, 1, .none⟩ = some (.slice pp np pc) := by have := cell_heap (o := 1) hc1; rw [List.getElem?_toArray, HL.out.1] at this; exact this
   by_cases hin : i < np
   ·as_aux_lemma =>
     have i1 : (i : Int) < np := by omega
     obtain ⟨-, b, o, x, cs, rfl, hbX, hx, ⟨nv, xv, rfl, hNw, hGw⟩, hcl, hr⟩ := (HLK.out v3 HBV.out).1.ps.at hin
     have cc := C33.out v3 i x HBV.out hx
     have HX : Hid ((L.procs.zipIdx.map (fun x : Pc × Nat => unW (okP L (pfA L) x.2 x.1) 10 (x.1.c 0)))[i]? = some (unW (okP L (pfA L) i x) 10 (x.c 0))) := zip_get _ hx
     have rl : v3.rangeAt z1 0 lc := range_heap hc1
     have rc : v3.rangeAt z0 0 wc0 := range_heap hc0
     obtain ⟨ob, hob⟩ : ∃ ob, ob = okP L (pfA L) i x := ⟨_, rfl⟩
     rw [← hob] at cc HX
     have HRX : Hid (∀ U, Below v3.heap.size v3 U → U.cell? ⟨b, o + i * 70, .none⟩ = some (.int .i64 (x.c 0))) := fun U hU => by
      have h1 := range_keep hr hU (by have := (HLK.out v3 HBV.out).2; omega) 0 _ rfl
      rw [Nat.add_zero] at h1
      exact h1
     have HKL : Hid (∀ U, Below v3.heap.size v3 U → U.cell? ⟨z1, 1, .none⟩ = some (.slice (some ⟨b, o, .none⟩) np pc)) := fun U hU => (hU.cell (p := ⟨z1, 1, .none⟩) (Array.getElem?_eq_some_iff.1 hc1).1).trans kl
     clear hcl hbX hx hob hc0 hc1 hr hWz hBw
     go_upto_if 60 with (first
      | (refine wpList_is (.load 31 (.tmp 5)) rfl ?_; refine wpList_loadG 31 10 176 info33 _ Try.underlying31 rfl lc HL.out.2.2.2.2.2.1 z1 0 (.tmp 5) rfl rfl rfl rl (some 58) rfl ?_; clear rl)
      | (go_at_call 33; refine cc.mono ?_; rintro e W5 ⟨rfl, hB5⟩; clear cc)
      | fail)
     have HB5 : Hid (Below wr.heap.size wr W5 ∧ Below w.heap.size w W5) := ⟨HI.out.1.trans (hB5.mono HI.out.1.size), HBV.out.trans (hB5.mono HBV.out.size)⟩
     clear kl
     cases ob
     ·have kl := HKL.out _ hB5
      have k0 := HRX.out _ hB5
      have hWz := (HKK.out W5 HB5.out.1).2.2.1
      clear hB5
      have HF : Hid (tkW N L fr = (10, x.c 0)) := by
       show _ = _
       rw [HT.out]
       exact firstB_hit (k := 3) (i := i) HR3.out HX.out (by intro c; injection c with c _; omega) Z3.out (fun j hj q hq => HI.out.2 j q hj hq)
      go_wp2_with (first
       | (refine wpList_is (.build 39 #[(0, .const (.int .i64 10)), (1, .tmp 66)]) rfl ?_; refine wpList_buildTo rfl 39 _ rfl (some 67) rfl (wrL (10, x.c 0)).toArray (by kernel_rfl) ?_)
       | (refine wpList_is (.store 39 (.tmp 8) (.tmp 67)) rfl ?_; refine wpList_storeG 39 2 16 z2 info39 (wrL (10, x.c 0)) zs rfl hzs (List.all_eq_true.1 (show (wrL (10, x.c 0)).all (fun u => u.oneCell') = true from rfl)) (.tmp 8) (.tmp 67) _ rfl rfl rfl rfl rfl hWz ?_; intro W6 hW6 hg6 hs6)
       | fail)
      refine bodyPost_ret (results_cell_any (p := 8) (ty := 39) rfl _ _ ⟨z2, 0, .none⟩ _ rfl (run_loadVar_mid (P := Try.prog) _ z2 0 39 (wrL (10, x.c 0)) _ (range_heap hW6) Try.underlying39 rfl (by kernel_rfl))) rfl ?_
      exact ⟨by rw [HF.out], (HB5.out.2).grown hg6 (HB5.out.2).size (fun k hk => by injection hk with hk; have := HZZ.out; omega)⟩
     ·clear hB5
      go_wp2
      exact ⟨⟨i + 1, by omega, by go_num, HB5.out.1, fun j q hj hq => by
       by_cases e : j = i
       ·subst e
        rw [HX.out] at hq
        injection hq with hq
        rw [← hq]
        rfl
       ·exact HI.out.2 j q (by omega) hq⟩, by simp [intOf]; omega⟩
   have i1 : ¬ (i : Int) < np := by omega
   have Z4 : Hid (Zs res 4) := Zs.succ Z3.out HR3.out (fun j q hq => HI.out.2 j q (by
    have h1 := (List.getElem?_eq_some_iff.1 hq).1
    simp only [List.length_map, List.length_zipIdx] at h1
    have := HNN.out.1
    omega) hq)
   have HE : Hid (Below wr.heap.size wr v3) := HI.out.1
   have HBW : Hid (Below w.heap.size w v3) := hBw
   clear HI hBw hc0 hc1 HBV hWz Z3 HR3
   go_wp2
   go_loopw [11] (fun v v4 => ∃ i : Nat, i ≤ np ∧ v = .int .i64 i ∧ Hid (Below wr.heap.size wr v4 ∧ ∀ j q, j < i → (L.procs.map (fun x : Pc => unW (okG x) 11 (x.c 0)))[j]? = some q → q = (0, 0))) (fun v _ => (np - intOf v).toNat)
   case atStart => exact ⟨0, by omega, rfl, HE.out, fun j q h => by omega⟩
   case round =>
    obtain ⟨i, hi, rfl, HI⟩ := hrel
    rename World => v4
    clear HE HBW
    obtain ⟨hc0, hc1, hWz, hBw⟩ := HKK.out v4 HI.out.1
    have HBV : Hid (Below w.heap.size w v4) := hBw
    have kl : v4.cell? ⟨z1, 1, .none⟩ = some (.slice pp np pc) := by have := cell_heap (o := 1) hc1; rw [List.getElem?_toArray, HL.out.1] at this; exact this
    by_cases hin : i < np
    ·as_aux_lemma =>
      have i1 : (i : Int) < np := by omega
      obtain ⟨-, b, o, x, cs, rfl, hbX, hx, ⟨nv, xv, rfl, hNw, hGw⟩, hcl, hr⟩ := (HLK.out v4 HBV.out).1.ps.at hin
      have cc := C34.out v4 i x nv xv HBV.out hx hNw hGw
      have HX : Hid ((L.procs.map (fun x : Pc => unW (okG x) 11 (x.c 0)))[i]? = some (unW (okG x) 11 (x.c 0))) := map_get _ hx
      have rl : v4.rangeAt z1 0 lc := range_heap hc1
      have rc : v4.rangeAt z0 0 wc0 := range_heap hc0
      have rx := hr
      have hz1l : z1 < v4.heap.size := (Array.getElem?_eq_some_iff.1 hc1).1
      have hbl : b < v4.heap.size := by have := (HLK.out v4 HBV.out).2; omega
      obtain ⟨ob, hob⟩ : ∃ ob, ob = okG x := ⟨_, rfl⟩
      rw [← hob] at cc HX
      have HRX : Hid (∀ U, Below v4.heap.size v4 U → U.cell? ⟨b, o + i * 70, .none⟩ = some (.int .i64 (x.c 0))) := fun U hU => by
       have h1 := range_keep hr hU (by have := (HLK.out v4 HBV.out).2; omega) 0 _ rfl
       rw [Nat.add_zero] at h1
       exact h1
      have HKL : Hid (∀ U, Below v4.heap.size v4 U → U.cell? ⟨z1, 1, .none⟩ = some (.slice (some ⟨b, o, .none⟩) np pc)) := fun U hU => (hU.cell (p := ⟨z1, 1, .none⟩) (Array.getElem?_eq_some_iff.1 hc1).1).trans kl
      clear hcl hbX hx hob hc0 hc1 hr hWz hBw
      go_upto_if 80 with (first
       | (refine wpList_is (.load 60 (.tmp 78)) rfl ?_; refine wpList_loadG 60 70 584 info55 _ Try.underlying60 rfl (x.l nv xv) rfl b (o + i * 70) (.tmp 78) rfl rfl rfl rx (some 79) rfl ?_; clear rx)
       | (go_at_call 34; refine cc.mono ?_; rintro e W5 ⟨rfl, hB5⟩; clear cc)
       | fail)
      have HB5 : Hid (Below wr.heap.size wr W5 ∧ Below w.heap.size w W5) := ⟨HI.out.1.trans (hB5.mono HI.out.1.size), HBV.out.trans (hB5.mono HBV.out.size)⟩
      clear kl
      cases ob
      ·have kl := HKL.out _ hB5
       have k0 := HRX.out _ hB5
       have hWz := (HKK.out W5 HB5.out.1).2.2.1
       clear hB5
       have HF : Hid (tkW N L fr = (11, x.c 0)) := by
        show _ = _
        rw [HT.out]
        exact firstB_hit (k := 4) (i := i) HR4.out HX.out (by intro c; injection c with c _; omega) Z4.out (fun j hj q hq => HI.out.2 j q hj hq)
       go_wp2_with (first
        | (refine wpList_is (.build 39 #[(0, .const (.int .i64 11)), (1, .tmp 86)]) rfl ?_; refine wpList_buildTo rfl 39 _ rfl (some 87) rfl (wrL (11, x.c 0)).toArray (by kernel_rfl) ?_)
        | (refine wpList_is (.store 39 (.tmp 8) (.tmp 87)) rfl ?_; refine wpList_storeG 39 2 16 z2 info39 (wrL (11, x.c 0)) zs rfl hzs (List.all_eq_true.1 (show (wrL (11, x.c 0)).all (fun u => u.oneCell') = true from rfl)) (.tmp 8) (.tmp 87) _ rfl rfl rfl rfl rfl hWz ?_; intro W6 hW6 hg6 hs6)
        | fail)
       refine bodyPost_ret (results_cell_any (p := 8) (ty := 39) rfl _ _ ⟨z2, 0, .none⟩ _ rfl (run_loadVar_mid (P := Try.prog) _ z2 0 39 (wrL (11, x.c 0)) _ (range_heap hW6) Try.underlying39 rfl (by kernel_rfl))) rfl ?_
       exact ⟨by rw [HF.out], (HB5.out.2).grown hg6 (HB5.out.2).size (fun k hk => by injection hk with hk; have := HZZ.out; omega)⟩
      ·clear hB5
       go_wp2
       exact ⟨⟨i + 1, by omega, by go_num, HB5.out.1, fun j q hj hq => by
        by_cases e : j = i
        ·subst e
         rw [HX.out] at hq
         injection hq with hq
         rw [← hq]
         rfl
        ·exact HI.out.2 j q (by omega) hq⟩, by simp [intOf]; omega⟩
    have i1 : ¬ (i : Int) < np := by omega
    have Z5 : Hid (Zs res 5) := Zs.succ Z4.out HR4.out (fun j q hq => HI.out.2 j q (by
     have h1 := (List.getElem?_eq_some_iff.1 hq).1
     simp only [List.length_map, List.length_zipIdx] at h1
     have := HNN.out.1
     omega) hq)
    have HE : Hid (Below wr.heap.size wr v4) := HI.out.1
    have HBW : Hid (Below w.heap.size w v4) := hBw
    clear HI hBw hc0 hc1 HBV hWz Z4 HR4
    go_wp2
    go_loopw [12] (fun v v5 => ∃ i : Nat, i ≤ np ∧ v = .int .i64 i ∧ Hid (Below wr.heap.size wr v5 ∧ ∀ j q, j < i → (L.procs.map (fun x : Pc => unW (okD (pfA L) x) 6 (x.c 0)))[j]? = some q → q = (0, 0))) (fun v _ => (np - intOf v).toNat)
    case atStart => exact ⟨0, by omega, rfl, HE.out, fun j q h => by omega⟩
    case round =>
     obtain ⟨i, hi, rfl, HI⟩ := hrel
     rename World => v5
     clear HE HBW
     obtain ⟨hc0, hc1, hWz, hBw⟩ := HKK.out v5 HI.out.1
     have HBV : Hid (Below w.heap.size w v5) := hBw
     have kl : v5.cell? ⟨z1, 1, .none⟩ = some (.slice pp np pc) := by have := cell_heap (o := 1) hc1; rw [List.getElem?_toArray, HL.out.1] at this; exact this
     by_cases hin : i < np
     ·as_aux_lemma =>
       have i1 : (i : Int) < np := by omega
       obtain ⟨-, b, o, x, cs, rfl, hbX, hx, ⟨nv, xv, rfl, hNw, hGw⟩, hcl, hr⟩ := (HLK.out v5 HBV.out).1.ps.at hin
       have cc := C35.out v5.drew x nv xv HBV.out.drew
       have HX : Hid ((L.procs.map (fun x : Pc => unW (okD (pfA L) x) 6 (x.c 0)))[i]? = some (unW (okD (pfA L) x) 6 (x.c 0))) := map_get _ hx
       have rl : v5.rangeAt z1 0 lc := range_heap hc1
       have rc : v5.rangeAt z0 0 wc0 := range_heap hc0
       have rx := hr
       have hz1l : z1 < v5.heap.size := (Array.getElem?_eq_some_iff.1 hc1).1
       have hbl : b < v5.heap.size := by have := (HLK.out v5 HBV.out).2; omega
       obtain ⟨ob, hob⟩ : ∃ ob, ob = okD (pfA L) x := ⟨_, rfl⟩
       rw [← hob] at cc HX
       have HRX : Hid (∀ U, Below v5.heap.size v5 U → U.cell? ⟨b, o + i * 70, .none⟩ = some (.int .i64 (x.c 0))) := fun U hU => by
        have h1 := range_keep hr hU (by have := (HLK.out v5 HBV.out).2; omega) 0 _ rfl
        rw [Nat.add_zero] at h1
        exact h1
       have HKL : Hid (∀ U, Below v5.heap.size v5 U → U.cell? ⟨z1, 1, .none⟩ = some (.slice (some ⟨b, o, .none⟩) np pc)) := fun U hU => (hU.cell (p := ⟨z1, 1, .none⟩) (Array.getElem?_eq_some_iff.1 hc1).1).trans kl
       clear hcl hbX hx hob hc0 hc1 hr hWz hBw
       go_upto_region 25 with fail
       refine wp_region_held_drew (S := (fun U => U.rangeAt z1 0 lc ∧ U.cell? ⟨z1, 1, .none⟩ = some (.slice (some ⟨b, o, .none⟩) np pc) ∧ U.rangeAt b (o + i * 70) (x.l nv xv))) (by kernel_rfl) ⟨rl, kl, rx⟩ (fun hHeld => ?_)
       refine nV 0 (.agg lc.toArray) rfl ?_ (yieldsIf_load_mid (by rfl) 31 (.tmp 5) rfl (z1) (0) rfl lc _ (fun ww hSw => hSw.1) Try.underlying31 rfl (by rw [HL.out.2.2.2.2.2.1]; kernel_rfl))
       simp only [x0,x1,x2,x3,x4,x5,x6]
       refine nT 1 (.pointer (some ⟨z1, 1, .none⟩)) rfl ?_
       simp only [x0,x1,x2,x3,x4,x5,x6]
       refine nT 2 (.slice (some ⟨b, o, .none⟩) np pc) rfl ?_
       simp only [x0,x1,x2,x3,x4,x5,x6]
       refine nT 3 (.int .i64 i) rfl ?_
       simp only [x0,x1,x2,x3,x4,x5,x6]
       refine nT 4 (.pointer (some ⟨b, o + i * 70, .none⟩)) rfl ?_
       simp only [x0,x1,x2,x3,x4,x5,x6]
       refine nV 5 (.agg (x.l nv xv).toArray) rfl ?_ (yieldsIf_load_mid (by rfl) 60 (.tmp 99) rfl (b) (o + i * 70) rfl (x.l nv xv) _ (fun ww hSw => hSw.2.2) Try.underlying60 rfl (by first | kernel_rfl | (rw [rfl]; kernel_rfl)))
       simp only [x0,x1,x2,x3,x4,x5,x6]
       refine wpAnyH_ready (rs := [6]) (by kernel_rfl) (by simp) ?_
       refine AllReadyH.cons rfl (fun K hK => ?_) AllReadyH.nil
       go_simp
       go_at_call 35
       refine (cc).mono ?_
       rintro _ W5 ⟨rfl, hB5⟩
       have hB5 : Below v5.heap.size v5 W5 := (Below.refl _ _).drew.trans hB5
       have kS5 : W5.rangeAt z1 0 lc ∧ W5.cell? ⟨z1, 1, .none⟩ = some (.slice (some ⟨b, o, .none⟩) np pc) ∧ W5.rangeAt b (o + i * 70) (x.l nv xv) := ⟨range_keep rl hB5 hz1l, (hB5.cell (p := ⟨z1, 1, .none⟩) hz1l).trans kl, range_keep rx hB5 hbl⟩
       clear cc
       refine hK.out _ _ kS5 (fun hHeld => ?_)
       clear hK K
       try simp only [x0,x1,x2,x3,x4,x5,x6]
       refine wpAnyH_done (by kernel_rfl) ?_ _
       clear kS5 hHeld
       have HB5 : Hid (Below wr.heap.size wr W5 ∧ Below w.heap.size w W5) := ⟨HI.out.1.trans (hB5.mono HI.out.1.size), HBV.out.trans (hB5.mono HBV.out.size)⟩
       clear kl
       cases ob
       ·have kl := HKL.out _ hB5
        have k0 := HRX.out _ hB5
        have hWz := (HKK.out W5 HB5.out.1).2.2.1
        clear hB5
        have HF : Hid (tkW N L fr = (6, x.c 0)) := by
         show _ = _
         rw [HT.out]
         exact firstB_hit (k := 5) (i := i) HR5.out HX.out (by intro c; injection c with c _; omega) Z5.out (fun j hj q hq => HI.out.2 j q hj hq)
        go_wp2_with (first
         | (refine wpList_is (.build 39 #[(0, .const (.int .i64 6)), (1, .tmp 107)]) rfl ?_; refine wpList_buildTo rfl 39 _ rfl (some 108) rfl (wrL (6, x.c 0)).toArray (by kernel_rfl) ?_)
         | (refine wpList_is (.store 39 (.tmp 8) (.tmp 108)) rfl ?_; refine wpList_storeG 39 2 16 z2 info39 (wrL (6, x.c 0)) zs rfl hzs (List.all_eq_true.1 (show (wrL (6, x.c 0)).all (fun u => u.oneCell') = true from rfl)) (.tmp 8) (.tmp 108) _ rfl rfl rfl rfl rfl hWz ?_; intro W6 hW6 hg6 hs6)
         | fail)
        refine bodyPost_ret (results_cell_any (p := 8) (ty := 39) rfl _ _ ⟨z2, 0, .none⟩ _ rfl (run_loadVar_mid (P := Try.prog) _ z2 0 39 (wrL (6, x.c 0)) _ (range_heap hW6) Try.underlying39 rfl (by kernel_rfl))) rfl ?_
        exact ⟨by rw [HF.out], (HB5.out.2).grown hg6 (HB5.out.2).size (fun k hk => by injection hk with hk; have := HZZ.out; omega)⟩
       ·clear hB5
        go_wp2
        exact ⟨⟨i + 1, by omega, by go_num, HB5.out.1, fun j q hj hq => by
         by_cases e : j = i
         ·subst e
          rw [HX.out] at hq
          injection hq with hq
          rw [← hq]
          rfl
         ·exact HI.out.2 j q (by omega) hq⟩, by simp [intOf]; omega⟩
     have i1 : ¬ (i : Int) < np := by omega
     have Z6 : Hid (Zs res 6) := Zs.succ Z5.out HR5.out (fun j q hq => HI.out.2 j q (by
      have h1 := (List.getElem?_eq_some_iff.1 hq).1
      simp only [List.length_map, List.length_zipIdx] at h1
      have := HNN.out.1
      omega) hq)
     have HE : Hid (Below wr.heap.size wr v5) := HI.out.1
     have HBW : Hid (Below w.heap.size w v5) := hBw
     clear HI hBw hc0 hc1 HBV hWz Z5 HR5
     go_wp2
     go_loopw [13] (fun v v6 => ∃ i : Nat, i ≤ nf ∧ v = .int .i64 i ∧ Hid (Below wr.heap.size wr v6 ∧ ∀ j q, j < i → (L.files.zipIdx.map (fun x : Fi × Nat => unW (okF L (pfA L) (nfA L) x.2 x.1) 7 x.1.num))[j]? = some q → q = (0, 0))) (fun v _ => (nf - intOf v).toNat)
     case atStart => exact ⟨0, by omega, rfl, HE.out, fun j q h => by omega⟩
     case round =>
      obtain ⟨i, hi, rfl, HI⟩ := hrel
      rename World => v6
      clear HE HBW
      obtain ⟨hc0, hc1, hWz, hBw⟩ := HKK.out v6 HI.out.1
      have HBV : Hid (Below w.heap.size w v6) := hBw
      have kl : v6.cell? ⟨z1, 2, .none⟩ = some (.slice fp nf fc) := by have := cell_heap (o := 2) hc1; rw [List.getElem?_toArray, HL.out.2.1] at this; exact this
      by_cases hin : i < nf
      ·as_aux_lemma =>
        have i1 : (i : Int) < nf := by omega
        obtain ⟨-, b, o, x, cs, rfl, hbX, hx, rfl, hcl, hr⟩ := (HLK.out v6 HBV.out).1.fs.at hin
        have cc := C36.out v6 i x HBV.out hx
        have HX : Hid ((L.files.zipIdx.map (fun x : Fi × Nat => unW (okF L (pfA L) (nfA L) x.2 x.1) 7 x.1.num))[i]? = some (unW (okF L (pfA L) (nfA L) i x) 7 (x.num))) := zip_get _ hx
        have rl : v6.rangeAt z1 0 lc := range_heap hc1
        have rc : v6.rangeAt z0 0 wc0 := range_heap hc0
        obtain ⟨ob, hob⟩ : ∃ ob, ob = okF L (pfA L) (nfA L) i x := ⟨_, rfl⟩
        rw [← hob] at cc HX
        have HRX : Hid (∀ U, Below v6.heap.size v6 U → U.cell? ⟨b, o + i * 8, .none⟩ = some (.int .i64 (x.num))) := fun U hU => by
         have h1 := range_keep hr hU (by have := (HLK.out v6 HBV.out).2; omega) 0 _ rfl
         rw [Nat.add_zero] at h1
         exact h1
        have HKL : Hid (∀ U, Below v6.heap.size v6 U → U.cell? ⟨z1, 2, .none⟩ = some (.slice (some ⟨b, o, .none⟩) nf fc)) := fun U hU => (hU.cell (p := ⟨z1, 2, .none⟩) (Array.getElem?_eq_some_iff.1 hc1).1).trans kl
        clear hcl hbX hx hob hc0 hc1 hr hWz hBw
        go_upto_if 119 with (first
         | (refine wpList_is (.load 41 (.tmp 4)) rfl ?_; refine wpList_loadG 41 5 88 info41 _ Try.underlying41 rfl wc0 HL.out.2.2.2.2.2.2.2 z0 0 (.tmp 4) rfl rfl rfl rc (some 116) rfl ?_; clear rc)
         | (refine wpList_is (.load 31 (.tmp 5)) rfl ?_; refine wpList_loadG 31 10 176 info33 _ Try.underlying31 rfl lc HL.out.2.2.2.2.2.1 z1 0 (.tmp 5) rfl rfl rfl rl (some 117) rfl ?_; clear rl)
         | (go_at_call 36; refine cc.mono ?_; rintro e W5 ⟨rfl, hB5⟩; clear cc)
         | fail)
        have HB5 : Hid (Below wr.heap.size wr W5 ∧ Below w.heap.size w W5) := ⟨HI.out.1.trans (hB5.mono HI.out.1.size), HBV.out.trans (hB5.mono HBV.out.size)⟩
        clear kl
        cases ob
        ·have kl := HKL.out _ hB5
         have k0 := HRX.out _ hB5
         have hWz := (HKK.out W5 HB5.out.1).2.2.1
         clear hB5
         have HF : Hid (tkW N L fr = (7, x.num)) := by
          show _ = _
          rw [HT.out]
          exact firstB_hit (k := 6) (i := i) HR6.out HX.out (by intro c; injection c with c _; omega) Z6.out (fun j hj q hq => HI.out.2 j q hj hq)
         go_wp2_with (first
          | (refine wpList_is (.build 39 #[(0, .const (.int .i64 7)), (1, .tmp 125)]) rfl ?_; refine wpList_buildTo rfl 39 _ rfl (some 126) rfl (wrL (7, x.num)).toArray (by kernel_rfl) ?_)
          | (refine wpList_is (.store 39 (.tmp 8) (.tmp 126)) rfl ?_; refine wpList_storeG 39 2 16 z2 info39 (wrL (7, x.num)) zs rfl hzs (List.all_eq_true.1 (show (wrL (7, x.num)).all (fun u => u.oneCell') = true from rfl)) (.tmp 8) (.tmp 126) _ rfl rfl rfl rfl rfl hWz ?_; intro W6 hW6 hg6 hs6)
          | fail)
         refine bodyPost_ret (results_cell_any (p := 8) (ty := 39) rfl _ _ ⟨z2, 0, .none⟩ _ rfl (run_loadVar_mid (P := Try.prog) _ z2 0 39 (wrL (7, x.num)) _ (range_heap hW6) Try.underlying39 rfl (by kernel_rfl))) rfl ?_
         exact ⟨by rw [HF.out], (HB5.out.2).grown hg6 (HB5.out.2).size (fun k hk => by injection hk with hk; have := HZZ.out; omega)⟩
        ·clear hB5
         go_wp2
         exact ⟨⟨i + 1, by omega, by go_num, HB5.out.1, fun j q hj hq => by
          by_cases e : j = i
          ·subst e
           rw [HX.out] at hq
           injection hq with hq
           rw [← hq]
           rfl
          ·exact HI.out.2 j q (by omega) hq⟩, by simp [intOf]; omega⟩
      have i1 : ¬ (i : Int) < nf := by omega
      have Z7 : Hid (Zs res 7) := Zs.succ Z6.out HR6.out (fun j q hq => HI.out.2 j q (by
       have h1 := (List.getElem?_eq_some_iff.1 hq).1
       simp only [List.length_map, List.length_zipIdx] at h1
       have := HNN.out.2.1
       omega) hq)
      have HE : Hid (Below wr.heap.size wr v6) := HI.out.1
      have HBW : Hid (Below w.heap.size w v6) := hBw
      clear HI hBw hc0 hc1 HBV hWz Z6 HR6
      go_wp2
      go_loopw [14] (fun v v7 => ∃ i : Nat, i ≤ ni ∧ v = .int .i64 i ∧ Hid (Below wr.heap.size wr v7 ∧ ∀ j q, j < i → (L.inos.zipIdx.map (fun x : In × Nat => unW (okI L (nfA L) x.2 x.1) 8 x.1.ino))[j]? = some q → q = (0, 0))) (fun v _ => (ni - intOf v).toNat)
      case atStart => exact ⟨0, by omega, rfl, HE.out, fun j q h => by omega⟩
      case round =>
       obtain ⟨i, hi, rfl, HI⟩ := hrel
       rename World => v7
       clear HE HBW
       obtain ⟨hc0, hc1, hWz, hBw⟩ := HKK.out v7 HI.out.1
       have HBV : Hid (Below w.heap.size w v7) := hBw
       have kl : v7.cell? ⟨z1, 3, .none⟩ = some (.slice ip ni ic) := by have := cell_heap (o := 3) hc1; rw [List.getElem?_toArray, HL.out.2.2.1] at this; exact this
       by_cases hin : i < ni
       ·as_aux_lemma =>
         have i1 : (i : Int) < ni := by omega
         obtain ⟨-, b, o, x, cs, rfl, hbX, hx, ⟨bv, rfl, hNw⟩, hcl, hr⟩ := (HLK.out v7 HBV.out).1.is.at hin
         have cc := C37.out v7 i x HBV.out hx
         have HX : Hid ((L.inos.zipIdx.map (fun x : In × Nat => unW (okI L (nfA L) x.2 x.1) 8 x.1.ino))[i]? = some (unW (okI L (nfA L) i x) 8 (x.ino))) := zip_get _ hx
         have rl : v7.rangeAt z1 0 lc := range_heap hc1
         have rc : v7.rangeAt z0 0 wc0 := range_heap hc0
         obtain ⟨ob, hob⟩ : ∃ ob, ob = okI L (nfA L) i x := ⟨_, rfl⟩
         rw [← hob] at cc HX
         have HRX : Hid (∀ U, Below v7.heap.size v7 U → U.cell? ⟨b, o + i * 8, .none⟩ = some (.int .i64 (x.ino))) := fun U hU => by
          have h1 := range_keep hr hU (by have := (HLK.out v7 HBV.out).2; omega) 0 _ rfl
          rw [Nat.add_zero] at h1
          exact h1
         have HKL : Hid (∀ U, Below v7.heap.size v7 U → U.cell? ⟨z1, 3, .none⟩ = some (.slice (some ⟨b, o, .none⟩) ni ic)) := fun U hU => (hU.cell (p := ⟨z1, 3, .none⟩) (Array.getElem?_eq_some_iff.1 hc1).1).trans kl
         clear hcl hbX hx hob hc0 hc1 hr hWz hBw
         go_upto_if 137 with (first
          | (refine wpList_is (.load 41 (.tmp 4)) rfl ?_; refine wpList_loadG 41 5 88 info41 _ Try.underlying41 rfl wc0 HL.out.2.2.2.2.2.2.2 z0 0 (.tmp 4) rfl rfl rfl rc (some 134) rfl ?_; clear rc)
          | (refine wpList_is (.load 31 (.tmp 5)) rfl ?_; refine wpList_loadG 31 10 176 info33 _ Try.underlying31 rfl lc HL.out.2.2.2.2.2.1 z1 0 (.tmp 5) rfl rfl rfl rl (some 135) rfl ?_; clear rl)
          | (go_at_call 37; refine cc.mono ?_; rintro e W5 ⟨rfl, hB5⟩; clear cc)
          | fail)
         have HB5 : Hid (Below wr.heap.size wr W5 ∧ Below w.heap.size w W5) := ⟨HI.out.1.trans (hB5.mono HI.out.1.size), HBV.out.trans (hB5.mono HBV.out.size)⟩
         clear kl
         cases ob
         ·have kl := HKL.out _ hB5
          have k0 := HRX.out _ hB5
          have hWz := (HKK.out W5 HB5.out.1).2.2.1
          clear hB5
          have HF : Hid (tkW N L fr = (8, x.ino)) := by
           show _ = _
           rw [HT.out]
           exact firstB_hit (k := 7) (i := i) HR7.out HX.out (by intro c; injection c with c _; omega) Z7.out (fun j hj q hq => HI.out.2 j q hj hq)
          go_wp2_with (first
           | (refine wpList_is (.build 39 #[(0, .const (.int .i64 8)), (1, .tmp 143)]) rfl ?_; refine wpList_buildTo rfl 39 _ rfl (some 144) rfl (wrL (8, x.ino)).toArray (by kernel_rfl) ?_)
           | (refine wpList_is (.store 39 (.tmp 8) (.tmp 144)) rfl ?_; refine wpList_storeG 39 2 16 z2 info39 (wrL (8, x.ino)) zs rfl hzs (List.all_eq_true.1 (show (wrL (8, x.ino)).all (fun u => u.oneCell') = true from rfl)) (.tmp 8) (.tmp 144) _ rfl rfl rfl rfl rfl hWz ?_; intro W6 hW6 hg6 hs6)
           | fail)
          refine bodyPost_ret (results_cell_any (p := 8) (ty := 39) rfl _ _ ⟨z2, 0, .none⟩ _ rfl (run_loadVar_mid (P := Try.prog) _ z2 0 39 (wrL (8, x.ino)) _ (range_heap hW6) Try.underlying39 rfl (by kernel_rfl))) rfl ?_
          exact ⟨by rw [HF.out], (HB5.out.2).grown hg6 (HB5.out.2).size (fun k hk => by injection hk with hk; have := HZZ.out; omega)⟩
         ·clear hB5
          go_wp2
          exact ⟨⟨i + 1, by omega, by go_num, HB5.out.1, fun j q hj hq => by
           by_cases e : j = i
           ·subst e
            rw [HX.out] at hq
            injection hq with hq
            rw [← hq]
            rfl
           ·exact HI.out.2 j q (by omega) hq⟩, by simp [intOf]; omega⟩
       have i1 : ¬ (i : Int) < ni := by omega
       have Z8 : Hid (Zs res 8) := Zs.succ Z7.out HR7.out (fun j q hq => HI.out.2 j q (by
        have h1 := (List.getElem?_eq_some_iff.1 hq).1
        simp only [List.length_map, List.length_zipIdx] at h1
        have := HNN.out.2.2.1
        omega) hq)
       have HE : Hid (Below wr.heap.size wr v7) := HI.out.1
       have HBW : Hid (Below w.heap.size w v7) := hBw
       clear HI hBw hc0 hc1 HBV hWz Z7 HR7
       go_wp2
       go_loopw [15] (fun v v8 => ∃ i : Nat, i ≤ nq ∧ v = .int .i64 i ∧ Hid (Below wr.heap.size wr v8 ∧ ∀ j q, j < i → (L.pipes.zipIdx.map (fun x : Pp × Nat => unW (okQ L (nfA L) x.2 x.1) 9 x.1.num))[j]? = some q → q = (0, 0))) (fun v _ => (nq - intOf v).toNat)
       case atStart => exact ⟨0, by omega, rfl, HE.out, fun j q h => by omega⟩
       case round =>
        obtain ⟨i, hi, rfl, HI⟩ := hrel
        rename World => v8
        clear HE HBW
        obtain ⟨hc0, hc1, hWz, hBw⟩ := HKK.out v8 HI.out.1
        have HBV : Hid (Below w.heap.size w v8) := hBw
        have kl : v8.cell? ⟨z1, 4, .none⟩ = some (.slice qp nq qc) := by have := cell_heap (o := 4) hc1; rw [List.getElem?_toArray, HL.out.2.2.2.1] at this; exact this
        by_cases hin : i < nq
        ·as_aux_lemma =>
          have i1 : (i : Int) < nq := by omega
          obtain ⟨-, b, o, x, cs, rfl, hbX, hx, ⟨bv, rfl, hNw⟩, hcl, hr⟩ := (HLK.out v8 HBV.out).1.qs.at hin
          have cc := C38.out v8 i x HBV.out hx
          have HX : Hid ((L.pipes.zipIdx.map (fun x : Pp × Nat => unW (okQ L (nfA L) x.2 x.1) 9 x.1.num))[i]? = some (unW (okQ L (nfA L) i x) 9 (x.num))) := zip_get _ hx
          have rl : v8.rangeAt z1 0 lc := range_heap hc1
          have rc : v8.rangeAt z0 0 wc0 := range_heap hc0
          obtain ⟨ob, hob⟩ : ∃ ob, ob = okQ L (nfA L) i x := ⟨_, rfl⟩
          rw [← hob] at cc HX
          have HRX : Hid (∀ U, Below v8.heap.size v8 U → U.cell? ⟨b, o + i * 6, .none⟩ = some (.int .i64 (x.num))) := fun U hU => by
           have h1 := range_keep hr hU (by have := (HLK.out v8 HBV.out).2; omega) 0 _ rfl
           rw [Nat.add_zero] at h1
           exact h1
          have HKL : Hid (∀ U, Below v8.heap.size v8 U → U.cell? ⟨z1, 4, .none⟩ = some (.slice (some ⟨b, o, .none⟩) nq qc)) := fun U hU => (hU.cell (p := ⟨z1, 4, .none⟩) (Array.getElem?_eq_some_iff.1 hc1).1).trans kl
          clear hcl hbX hx hob hc0 hc1 hr hWz hBw
          go_upto_if 154 with (first
           | (refine wpList_is (.load 31 (.tmp 5)) rfl ?_; refine wpList_loadG 31 10 176 info33 _ Try.underlying31 rfl lc HL.out.2.2.2.2.2.1 z1 0 (.tmp 5) rfl rfl rfl rl (some 152) rfl ?_; clear rl)
           | (go_at_call 38; refine cc.mono ?_; rintro e W5 ⟨rfl, hB5⟩; clear cc)
           | fail)
          have HB5 : Hid (Below wr.heap.size wr W5 ∧ Below w.heap.size w W5) := ⟨HI.out.1.trans (hB5.mono HI.out.1.size), HBV.out.trans (hB5.mono HBV.out.size)⟩
          clear kl
          cases ob
          ·have kl := HKL.out _ hB5
           have k0 := HRX.out _ hB5
           have hWz := (HKK.out W5 HB5.out.1).2.2.1
           clear hB5
           have HF : Hid (tkW N L fr = (9, x.num)) := by
            show _ = _
            rw [HT.out]
            exact firstB_hit (k := 8) (i := i) HR8.out HX.out (by intro c; injection c with c _; omega) Z8.out (fun j hj q hq => HI.out.2 j q hj hq)
           go_wp2_with (first
            | (refine wpList_is (.build 39 #[(0, .const (.int .i64 9)), (1, .tmp 160)]) rfl ?_; refine wpList_buildTo rfl 39 _ rfl (some 161) rfl (wrL (9, x.num)).toArray (by kernel_rfl) ?_)
            | (refine wpList_is (.store 39 (.tmp 8) (.tmp 161)) rfl ?_; refine wpList_storeG 39 2 16 z2 info39 (wrL (9, x.num)) zs rfl hzs (List.all_eq_true.1 (show (wrL (9, x.num)).all (fun u => u.oneCell') = true from rfl)) (.tmp 8) (.tmp 161) _ rfl rfl rfl rfl rfl hWz ?_; intro W6 hW6 hg6 hs6)
            | fail)
           refine bodyPost_ret (results_cell_any (p := 8) (ty := 39) rfl _ _ ⟨z2, 0, .none⟩ _ rfl (run_loadVar_mid (P := Try.prog) _ z2 0 39 (wrL (9, x.num)) _ (range_heap hW6) Try.underlying39 rfl (by kernel_rfl))) rfl ?_
           exact ⟨by rw [HF.out], (HB5.out.2).grown hg6 (HB5.out.2).size (fun k hk => by injection hk with hk; have := HZZ.out; omega)⟩
          ·clear hB5
           go_wp2
           exact ⟨⟨i + 1, by omega, by go_num, HB5.out.1, fun j q hj hq => by
            by_cases e : j = i
            ·subst e
             rw [HX.out] at hq
             injection hq with hq
             rw [← hq]
             rfl
            ·exact HI.out.2 j q (by omega) hq⟩, by simp [intOf]; omega⟩
        have i1 : ¬ (i : Int) < nq := by omega
        have Z9 : Hid (Zs res 9) := Zs.succ Z8.out HR8.out (fun j q hq => HI.out.2 j q (by
         have h1 := (List.getElem?_eq_some_iff.1 hq).1
         simp only [List.length_map, List.length_zipIdx] at h1
         have := HNN.out.2.2.2.1
         omega) hq)
        have HE : Hid (Below wr.heap.size wr v8) := HI.out.1
        have HBW : Hid (Below w.heap.size w v8) := hBw
        clear HI hBw hc0 hc1 HBV Z8 HR8
        have HF : Hid (tkW N L fr = (0, 0)) := by
         show _ = _
         rw [HT.out]
         exact firstB_zero (fun k l hl j q hq => Z9.out k (by have := (List.getElem?_eq_some_iff.1 hl).1; have := HR9.out; omega) l hl j q hq)
        go_wp2_with (first
         | (refine wpList_is (.build 39 #[]) rfl ?_; refine wpList_buildTo rfl 39 _ rfl (some 162) rfl (wrL (0, 0)).toArray (by kernel_rfl) ?_)
         | (refine wpList_is (.store 39 (.tmp 8) (.tmp 162)) rfl ?_; refine wpList_storeG 39 2 16 z2 info39 (wrL (0, 0)) zs rfl hzs (List.all_eq_true.1 (show (wrL (0, 0)).all (fun u => u.oneCell') = true from rfl)) (.tmp 8) (.tmp 162) _ rfl rfl rfl rfl rfl hWz ?_; intro W6 hW6 hg6 hs6)
         | fail)
        refine bodyPost_ret (results_cell_any (p := 8) (ty := 39) rfl _ _ ⟨z2, 0, .none⟩ _ rfl (run_loadVar_mid (P := Try.prog) _ z2 0 39 (wrL (0, 0)) _ (range_heap hW6) Try.underlying39 rfl (by kernel_rfl))) rfl ?_
        exact ⟨by rw [HF.out], (HBW.out).grown hg6 (HBW.out).size (fun k hk => by injection hk with hk; have := HZZ.out; omega)⟩
end Go.Proofs.Ythopgmmodldljab
