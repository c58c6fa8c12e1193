import Derived.Test.YthopgmmodldljaaDf
import Derived.Test.YthopgmmodldljaaDgp
namespace Go.Proofs.Ythopgmmodldljaa
open Go Go.RowKit
set_option linter.unusedVariables false
set_option linter.unusedSimpArgs false
set_option maxRecDepth 100000 in
set_option maxHeartbeats 8000000 in
theorem alike18_any {w : World} {X Y : Nat} {pv fv iv qv rv lv pv' fv' iv' qv' rv' lv' : Value} {L M : Lk} (t1 t2 : Int) (h1 : LkW w X pv fv iv qv rv lv L) (h2 : LkW w Y pv' fv' iv' qv' rv' lv' M) (hX : X ≤ w.heap.size) (hY : Y ≤ w.heap.size) (hL : Cb L) (hM : Cb M) :
    Calls Try.prog 18 #[.agg (lkL t1 pv fv iv qv rv lv L.ticks L.next L.free).toArray, .agg (lkL t2 pv' fv' iv' qv' rv' lv' M.ticks M.next M.free).toArray] w fun e w' => e = .returned (.bool (alk L M)) ∧ Below w.heap.size w w' := by
  have HC5 : Hid (∀ V, Below w.heap.size w V → Calls Try.prog 49 #[rv, rv'] V fun e w' => e = .returned (.bool (allB cmB L.ready M.ready)) ∧ Below V.heap.size V w') := fun V hV => bytes49_any (Wd.keep h1.rd (X' := X) (Nat.le_refl _) (hV.mono hX)) (Wd.keep h2.rd (X' := Y) (Nat.le_refl _) (hV.mono hY)) (Nat.le_trans hX hV.size) (Nat.le_trans hY hV.size) hL.r hM.r
  have HC6 : Hid (∀ V, Below w.heap.size w V → Calls Try.prog 49 #[lv, lv'] V fun e w' => e = .returned (.bool (allB cmB L.line M.line)) ∧ Below V.heap.size V w') := fun V hV => bytes49_any (Wd.keep h1.ln (X' := X) (Nat.le_refl _) (hV.mono hX)) (Wd.keep h2.ln (X' := Y) (Nat.le_refl _) (hV.mono hY)) (Nat.le_trans hX hV.size) (Nat.le_trans hY hV.size) hL.l hM.l
  have HL : Hid (LkW w X pv fv iv qv rv lv L ∧ LkW w Y pv' fv' iv' qv' rv' lv' M) := ⟨h1, h2⟩
  obtain ⟨pp, pc, rfl⟩ := h1.ps.form
  obtain ⟨pp', pc', rfl⟩ := h2.ps.form
  obtain ⟨fp, fc, rfl⟩ := h1.fs.form
  obtain ⟨fp', fc', rfl⟩ := h2.fs.form
  obtain ⟨ip, ic, rfl⟩ := h1.is.form
  obtain ⟨ip', ic', rfl⟩ := h2.is.form
  obtain ⟨qp, qc, rfl⟩ := h1.qs.form
  obtain ⟨qp', qc', rfl⟩ := h2.qs.form
  obtain ⟨rp, rc, rfl⟩ := h1.rd.form
  obtain ⟨rp', rc', rfl⟩ := h2.rd.form
  obtain ⟨lp, lc, rfl⟩ := h1.ln.form
  obtain ⟨lp', lc', rfl⟩ := h2.ln.form
  have HCB : Hid (Cb L ∧ Cb M) := ⟨hL, hM⟩
  have HXY : Hid (X ≤ w.heap.size ∧ Y ≤ w.heap.size) := ⟨hX, hY⟩
  obtain ⟨cb, hcb⟩ : ∃ b, b = alk L M := ⟨_, rfl⟩
  rw [← hcb]
  obtain ⟨np, hnp⟩ : ∃ n, n = L.procs.length := ⟨_, rfl⟩
  obtain ⟨np', hnp'⟩ : ∃ n, n = M.procs.length := ⟨_, rfl⟩
  obtain ⟨nf, hnf⟩ : ∃ n, n = L.files.length := ⟨_, rfl⟩
  obtain ⟨nf', hnf'⟩ : ∃ n, n = M.files.length := ⟨_, rfl⟩
  obtain ⟨ni, hni⟩ : ∃ n, n = L.inos.length := ⟨_, rfl⟩
  obtain ⟨ni', hni'⟩ : ∃ n, n = M.inos.length := ⟨_, rfl⟩
  obtain ⟨nq, hnq⟩ : ∃ n, n = L.pipes.length := ⟨_, rfl⟩
  obtain ⟨nq', hnq'⟩ : ∃ n, n = M.pipes.length := ⟨_, rfl⟩
  obtain ⟨nr, hnr⟩ : ∃ n, n = L.ready.length := ⟨_, rfl⟩
  obtain ⟨nr', hnr'⟩ : ∃ n, n = M.ready.length := ⟨_, rfl⟩
  obtain ⟨nl, hnl⟩ : ∃ n, n = L.line.length := ⟨_, rfl⟩
  obtain ⟨nl', hnl'⟩ : ∃ n, n = M.line.length := ⟨_, rfl⟩
  obtain ⟨ti, hti⟩ : ∃ n, n = L.ticks := ⟨_, rfl⟩
  obtain ⟨ti', hti'⟩ : ∃ n, n = M.ticks := ⟨_, rfl⟩
  obtain ⟨nx, hnx⟩ : ∃ n, n = L.next := ⟨_, rfl⟩
  obtain ⟨nx', hnx'⟩ : ∃ n, n = M.next := ⟨_, rfl⟩
  obtain ⟨fr, hfr⟩ : ∃ n, n = L.free := ⟨_, rfl⟩
  obtain ⟨fr', hfr'⟩ : ∃ n, n = M.free := ⟨_, rfl⟩
  have HFF : Hid ((allB cmP L.procs M.procs = false → cb = false) ∧ (allB cmF L.files M.files = false → cb = false) ∧ (allB cmI L.inos M.inos = false → cb = false) ∧ (allB cmQ L.pipes M.pipes = false → cb = false) ∧ (allB cmB L.ready M.ready = false → cb = false) ∧ (allB cmB L.line M.line = false → cb = false)) := by
    rw [hcb]
    unfold alk
    refine ⟨?_, ?_, ?_, ?_, ?_, ?_⟩ <;> (intro h; rw [h]; simp)
  have HTT : Hid ((((ti == ti') = false ∨ (nx == nx') = false ∨ (fr == fr') = false) → cb = false)) := by
    intro h
    rw [hcb]
    unfold alk
    rw [← hti, ← hti', ← hnx, ← hnx', ← hfr, ← hfr']
    rcases h with h | h | h <;> (rw [h]; simp)
  have HAA : Hid (((ti == ti') = true → (nx == nx') = true → (fr == fr') = true → allB cmP L.procs M.procs = true → allB cmF L.files M.files = true → allB cmI L.inos M.inos = true → allB cmQ L.pipes M.pipes = true → allB cmB L.ready M.ready = true → allB cmB L.line M.line = true → cb = true)) := by
    intro k1 k2 k3 k4 k5 k6 k7 k8 k9
    rw [hcb]
    unfold alk
    rw [← hti, ← hti', ← hnx, ← hnx', ← hfr, ← hfr', k1, k2, k3, k4, k5, k6, k7, k8, k9]
    rfl
  rw [← hnp, ← hnp', ← hnf, ← hnf', ← hni, ← hni', ← hnq, ← hnq', ← hnr, ← hnr', ← hnl, ← hnl'] at HL
  rw [← hnr, ← hnr'] at HC5
  rw [← hnl, ← hnl'] at HC6
  rw [← hnp, ← hnp', ← hnf, ← hnf', ← hni, ← hni', ← hnq, ← hnq', ← hnr, ← hnr', ← hnl, ← hnl', ← hti, ← hti', ← hnx, ← hnx', ← hfr, ← hfr']
  have HN : Hid (np = L.procs.length ∧ np' = M.procs.length ∧ nf = L.files.length ∧ nf' = M.files.length ∧ ni = L.inos.length ∧ ni' = M.inos.length ∧ nq = L.pipes.length ∧ nq' = M.pipes.length) := ⟨hnp, hnp', hnf, hnf', hni, hni', hnq, hnq'⟩
  have bnp : np ≤ 1048576 := by have := hL.p; omega
  have bnf : nf ≤ 1048576 := by have := hL.f; omega
  have bni : ni ≤ 1048576 := by have := hL.i; omega
  have bnq : nq ≤ 1048576 := by have := hL.q; omega
  clear h1 h2 hL hM hX hY hcb hnp hnp' hnf hnf' hni hni' hnq hnq' hnr hnr' hnl hnl' hti hti' hnx hnx' hfr hfr'
  go_enter Try.func18, Try.ntmps18
  go_upto_region 1 with (first
    | (refine wpList_is (.box 33 (.tmp 0)) rfl ?_; refine wpList_boxG 33 (lkL t1 (.slice pp np pc) (.slice fp nf fc) (.slice ip ni ic) (.slice qp nq qc) (.slice rp nr rc) (.slice lp nl lc) ti nx fr) 2 (.tmp 0) _ rfl rfl rfl rfl ?_; intro W1 hW1 hB1 hs1)
    | (refine wpList_is (.box 33 (.tmp 1)) rfl ?_; refine wpList_boxG 33 (lkL t2 (.slice pp' np' pc') (.slice fp' nf' fc') (.slice ip' ni' ic') (.slice qp' nq' qc') (.slice rp' nr' rc') (.slice lp' nl' lc') ti' nx' fr') 3 (.tmp 1) _ rfl rfl rfl rfl ?_; intro W2 hW2 hB2 hs2; rw [hs1] at hW2 hs2 ⊢)
    | fail)
  have HK : Hid (AK w (lkL t1 (.slice pp np pc) (.slice fp nf fc) (.slice ip ni ic) (.slice qp nq qc) (.slice rp nr rc) (.slice lp nl lc) ti nx fr) (lkL t2 (.slice pp' np' pc') (.slice fp' nf' fc') (.slice ip' ni' ic') (.slice qp' nq' qc') (.slice rp' nr' rc') (.slice lp' nl' lc') ti' nx' fr') W2) := ⟨(hB2.block _ (by omega)).trans hW1, hW2, by omega, hB1.trans (hB2.mono (by omega))⟩
  clear hW1 hW2 hB1 hB2 hs1 hs2
  have x1 := cell_heap (o := 1) HK.out.1; rw [show (lkL t1 (.slice pp np pc) (.slice fp nf fc) (.slice ip ni ic) (.slice qp nq qc) (.slice rp nr rc) (.slice lp nl lc) ti nx fr).toArray[1]? = some (.slice pp np pc) from rfl] at x1; have y1 := cell_heap (o := 1) HK.out.2.1; rw [show (lkL t2 (.slice pp' np' pc') (.slice fp' nf' fc') (.slice ip' ni' ic') (.slice qp' nq' qc') (.slice rp' nr' rc') (.slice lp' nl' lc') ti' nx' fr').toArray[1]? = some (.slice pp' np' pc') from rfl] at y1
  have x2 := cell_heap (o := 2) HK.out.1; rw [show (lkL t1 (.slice pp np pc) (.slice fp nf fc) (.slice ip ni ic) (.slice qp nq qc) (.slice rp nr rc) (.slice lp nl lc) ti nx fr).toArray[2]? = some (.slice fp nf fc) from rfl] at x2; have y2 := cell_heap (o := 2) HK.out.2.1; rw [show (lkL t2 (.slice pp' np' pc') (.slice fp' nf' fc') (.slice ip' ni' ic') (.slice qp' nq' qc') (.slice rp' nr' rc') (.slice lp' nl' lc') ti' nx' fr').toArray[2]? = some (.slice fp' nf' fc') from rfl] at y2
  have x3 := cell_heap (o := 3) HK.out.1; rw [show (lkL t1 (.slice pp np pc) (.slice fp nf fc) (.slice ip ni ic) (.slice qp nq qc) (.slice rp nr rc) (.slice lp nl lc) ti nx fr).toArray[3]? = some (.slice ip ni ic) from rfl] at x3; have y3 := cell_heap (o := 3) HK.out.2.1; rw [show (lkL t2 (.slice pp' np' pc') (.slice fp' nf' fc') (.slice ip' ni' ic') (.slice qp' nq' qc') (.slice rp' nr' rc') (.slice lp' nl' lc') ti' nx' fr').toArray[3]? = some (.slice ip' ni' ic') from rfl] at y3
  have x4 := cell_heap (o := 4) HK.out.1; rw [show (lkL t1 (.slice pp np pc) (.slice fp nf fc) (.slice ip ni ic) (.slice qp nq qc) (.slice rp nr rc) (.slice lp nl lc) ti nx fr).toArray[4]? = some (.slice qp nq qc) from rfl] at x4; have y4 := cell_heap (o := 4) HK.out.2.1; rw [show (lkL t2 (.slice pp' np' pc') (.slice fp' nf' fc') (.slice ip' ni' ic') (.slice qp' nq' qc') (.slice rp' nr' rc') (.slice lp' nl' lc') ti' nx' fr').toArray[4]? = some (.slice qp' nq' qc') from rfl] at y4
  have x5 := cell_heap (o := 5) HK.out.1; rw [show (lkL t1 (.slice pp np pc) (.slice fp nf fc) (.slice ip ni ic) (.slice qp nq qc) (.slice rp nr rc) (.slice lp nl lc) ti nx fr).toArray[5]? = some (.slice rp nr rc) from rfl] at x5; have y5 := cell_heap (o := 5) HK.out.2.1; rw [show (lkL t2 (.slice pp' np' pc') (.slice fp' nf' fc') (.slice ip' ni' ic') (.slice qp' nq' qc') (.slice rp' nr' rc') (.slice lp' nl' lc') ti' nx' fr').toArray[5]? = some (.slice rp' nr' rc') from rfl] at y5
  have x6 := cell_heap (o := 6) HK.out.1; rw [show (lkL t1 (.slice pp np pc) (.slice fp nf fc) (.slice ip ni ic) (.slice qp nq qc) (.slice rp nr rc) (.slice lp nl lc) ti nx fr).toArray[6]? = some (.slice lp nl lc) from rfl] at x6; have y6 := cell_heap (o := 6) HK.out.2.1; rw [show (lkL t2 (.slice pp' np' pc') (.slice fp' nf' fc') (.slice ip' ni' ic') (.slice qp' nq' qc') (.slice rp' nr' rc') (.slice lp' nl' lc') ti' nx' fr').toArray[6]? = some (.slice lp' nl' lc') from rfl] at y6
  have x7 := cell_heap (o := 7) HK.out.1; rw [show (lkL t1 (.slice pp np pc) (.slice fp nf fc) (.slice ip ni ic) (.slice qp nq qc) (.slice rp nr rc) (.slice lp nl lc) ti nx fr).toArray[7]? = some (.int .u64 ti) from rfl] at x7; have y7 := cell_heap (o := 7) HK.out.2.1; rw [show (lkL t2 (.slice pp' np' pc') (.slice fp' nf' fc') (.slice ip' ni' ic') (.slice qp' nq' qc') (.slice rp' nr' rc') (.slice lp' nl' lc') ti' nx' fr').toArray[7]? = some (.int .u64 ti') from rfl] at y7
  have x8 := cell_heap (o := 8) HK.out.1; rw [show (lkL t1 (.slice pp np pc) (.slice fp nf fc) (.slice ip ni ic) (.slice qp nq qc) (.slice rp nr rc) (.slice lp nl lc) ti nx fr).toArray[8]? = some (.int .i64 nx) from rfl] at x8; have y8 := cell_heap (o := 8) HK.out.2.1; rw [show (lkL t2 (.slice pp' np' pc') (.slice fp' nf' fc') (.slice ip' ni' ic') (.slice qp' nq' qc') (.slice rp' nr' rc') (.slice lp' nl' lc') ti' nx' fr').toArray[8]? = some (.int .i64 nx') from rfl] at y8
  have x9 := cell_heap (o := 9) HK.out.1; rw [show (lkL t1 (.slice pp np pc) (.slice fp nf fc) (.slice ip ni ic) (.slice qp nq qc) (.slice rp nr rc) (.slice lp nl lc) ti nx fr).toArray[9]? = some (.int .i64 fr) from rfl] at x9; have y9 := cell_heap (o := 9) HK.out.2.1; rw [show (lkL t2 (.slice pp' np' pc') (.slice fp' nf' fc') (.slice ip' ni' ic') (.slice qp' nq' qc') (.slice rp' nr' rc') (.slice lp' nl' lc') ti' nx' fr').toArray[9]? = some (.int .i64 fr') from rfl] at y9
  cases l0 : ((np : Int) == (np' : Int))
  · as_aux_lemma =>
      have m0 : ((np : Int) != (np' : Int)) = true := by simp [bne, l0]
      have hne : ¬ np = np' := by have h0 := l0; simp only [beq_eq_false_iff_ne, ne_eq] at h0; omega
      have HR : Hid (cb = false) := HFF.out.1 (allB_len (by have := HN.out; omega))
      go_wp2
      go_ret
      exact ⟨by rw [HR.out]; rfl, HK.out.2.2.2⟩
  · have m0 : ((np : Int) != (np' : Int)) = false := by simp [bne, l0]
    cases l1 : ((nf : Int) == (nf' : Int))
    · as_aux_lemma =>
        have m1 : ((nf : Int) != (nf' : Int)) = true := by simp [bne, l1]
        have hne : ¬ nf = nf' := by have h0 := l1; simp only [beq_eq_false_iff_ne, ne_eq] at h0; omega
        have HR : Hid (cb = false) := HFF.out.2.1 (allB_len (by have := HN.out; omega))
        go_wp2
        go_ret
        exact ⟨by rw [HR.out]; rfl, HK.out.2.2.2⟩
    · have m1 : ((nf : Int) != (nf' : Int)) = false := by simp [bne, l1]
      cases l2 : ((ni : Int) == (ni' : Int))
      · as_aux_lemma =>
          have m2 : ((ni : Int) != (ni' : Int)) = true := by simp [bne, l2]
          have hne : ¬ ni = ni' := by have h0 := l2; simp only [beq_eq_false_iff_ne, ne_eq] at h0; omega
          have HR : Hid (cb = false) := HFF.out.2.2.1 (allB_len (by have := HN.out; omega))
          go_wp2
          go_ret
          exact ⟨by rw [HR.out]; rfl, HK.out.2.2.2⟩
      · have m2 : ((ni : Int) != (ni' : Int)) = false := by simp [bne, l2]
        cases l3 : ((nq : Int) == (nq' : Int))
        · as_aux_lemma =>
            have m3 : ((nq : Int) != (nq' : Int)) = true := by simp [bne, l3]
            have hne : ¬ nq = nq' := by have h0 := l3; simp only [beq_eq_false_iff_ne, ne_eq] at h0; omega
            have HR : Hid (cb = false) := HFF.out.2.2.2.1 (allB_len (by have := HN.out; omega))
            go_wp2
            go_ret
            exact ⟨by rw [HR.out]; rfl, HK.out.2.2.2⟩
        · have m3 : ((nq : Int) != (nq' : Int)) = false := by simp [bne, l3]
          have enp : np = np' := by have h0 := l0; simp only [beq_iff_eq] at h0; omega
          have enf : nf = nf' := by have h0 := l1; simp only [beq_iff_eq] at h0; omega
          have eni : ni = ni' := by have h0 := l2; simp only [beq_iff_eq] at h0; omega
          have enq : nq = nq' := by have h0 := l3; simp only [beq_iff_eq] at h0; omega
          subst enp
          subst enf
          subst eni
          subst enq
          clear l0 l1 l2 l3
          go_upto_region 3 with fail
          clear m0 m1 m2 m3
          cases c0 : allB cmB L.ready M.ready
          · as_aux_lemma =>
              have HRR : Hid (cb = false) := HFF.out.2.2.2.2.1 c0
              go_wp2_with fail
              clear x1 y1 x2 y2 x3 y3 x4 y4 x5 y5 x6 y6 x7 y7 x8 y8 x9 y9
              go_at_call 49
              refine (HC5.out _ HK.out.2.2.2).mono ?_
              rintro e V1 ⟨rfl, z1⟩
              have HK1 : Hid (AK w (lkL t1 (.slice pp np pc) (.slice fp nf fc) (.slice ip ni ic) (.slice qp nq qc) (.slice rp nr rc) (.slice lp nl lc) ti nx fr) (lkL t2 (.slice pp' np pc') (.slice fp' nf fc') (.slice ip' ni ic') (.slice qp' nq qc') (.slice rp' nr' rc') (.slice lp' nl' lc') ti' nx' fr') V1) := HK.out.step z1
              clear z1
              rw [c0]
              have x1 := cell_heap (o := 1) HK1.out.1; rw [show (lkL t1 (.slice pp np pc) (.slice fp nf fc) (.slice ip ni ic) (.slice qp nq qc) (.slice rp nr rc) (.slice lp nl lc) ti nx fr).toArray[1]? = some (.slice pp np pc) from rfl] at x1; have y1 := cell_heap (o := 1) HK1.out.2.1; rw [show (lkL t2 (.slice pp' np pc') (.slice fp' nf fc') (.slice ip' ni ic') (.slice qp' nq qc') (.slice rp' nr' rc') (.slice lp' nl' lc') ti' nx' fr').toArray[1]? = some (.slice pp' np pc') from rfl] at y1
              have x2 := cell_heap (o := 2) HK1.out.1; rw [show (lkL t1 (.slice pp np pc) (.slice fp nf fc) (.slice ip ni ic) (.slice qp nq qc) (.slice rp nr rc) (.slice lp nl lc) ti nx fr).toArray[2]? = some (.slice fp nf fc) from rfl] at x2; have y2 := cell_heap (o := 2) HK1.out.2.1; rw [show (lkL t2 (.slice pp' np pc') (.slice fp' nf fc') (.slice ip' ni ic') (.slice qp' nq qc') (.slice rp' nr' rc') (.slice lp' nl' lc') ti' nx' fr').toArray[2]? = some (.slice fp' nf fc') from rfl] at y2
              have x3 := cell_heap (o := 3) HK1.out.1; rw [show (lkL t1 (.slice pp np pc) (.slice fp nf fc) (.slice ip ni ic) (.slice qp nq qc) (.slice rp nr rc) (.slice lp nl lc) ti nx fr).toArray[3]? = some (.slice ip ni ic) from rfl] at x3; have y3 := cell_heap (o := 3) HK1.out.2.1; rw [show (lkL t2 (.slice pp' np pc') (.slice fp' nf fc') (.slice ip' ni ic') (.slice qp' nq qc') (.slice rp' nr' rc') (.slice lp' nl' lc') ti' nx' fr').toArray[3]? = some (.slice ip' ni ic') from rfl] at y3
              have x4 := cell_heap (o := 4) HK1.out.1; rw [show (lkL t1 (.slice pp np pc) (.slice fp nf fc) (.slice ip ni ic) (.slice qp nq qc) (.slice rp nr rc) (.slice lp nl lc) ti nx fr).toArray[4]? = some (.slice qp nq qc) from rfl] at x4; have y4 := cell_heap (o := 4) HK1.out.2.1; rw [show (lkL t2 (.slice pp' np pc') (.slice fp' nf fc') (.slice ip' ni ic') (.slice qp' nq qc') (.slice rp' nr' rc') (.slice lp' nl' lc') ti' nx' fr').toArray[4]? = some (.slice qp' nq qc') from rfl] at y4
              have x5 := cell_heap (o := 5) HK1.out.1; rw [show (lkL t1 (.slice pp np pc) (.slice fp nf fc) (.slice ip ni ic) (.slice qp nq qc) (.slice rp nr rc) (.slice lp nl lc) ti nx fr).toArray[5]? = some (.slice rp nr rc) from rfl] at x5; have y5 := cell_heap (o := 5) HK1.out.2.1; rw [show (lkL t2 (.slice pp' np pc') (.slice fp' nf fc') (.slice ip' ni ic') (.slice qp' nq qc') (.slice rp' nr' rc') (.slice lp' nl' lc') ti' nx' fr').toArray[5]? = some (.slice rp' nr' rc') from rfl] at y5
              have x6 := cell_heap (o := 6) HK1.out.1; rw [show (lkL t1 (.slice pp np pc) (.slice fp nf fc) (.slice ip ni ic) (.slice qp nq qc) (.slice rp nr rc) (.slice lp nl lc) ti nx fr).toArray[6]? = some (.slice lp nl lc) from rfl] at x6; have y6 := cell_heap (o := 6) HK1.out.2.1; rw [show (lkL t2 (.slice pp' np pc') (.slice fp' nf fc') (.slice ip' ni ic') (.slice qp' nq qc') (.slice rp' nr' rc') (.slice lp' nl' lc') ti' nx' fr').toArray[6]? = some (.slice lp' nl' lc') from rfl] at y6
              have x7 := cell_heap (o := 7) HK1.out.1; rw [show (lkL t1 (.slice pp np pc) (.slice fp nf fc) (.slice ip ni ic) (.slice qp nq qc) (.slice rp nr rc) (.slice lp nl lc) ti nx fr).toArray[7]? = some (.int .u64 ti) from rfl] at x7; have y7 := cell_heap (o := 7) HK1.out.2.1; rw [show (lkL t2 (.slice pp' np pc') (.slice fp' nf fc') (.slice ip' ni ic') (.slice qp' nq qc') (.slice rp' nr' rc') (.slice lp' nl' lc') ti' nx' fr').toArray[7]? = some (.int .u64 ti') from rfl] at y7
              have x8 := cell_heap (o := 8) HK1.out.1; rw [show (lkL t1 (.slice pp np pc) (.slice fp nf fc) (.slice ip ni ic) (.slice qp nq qc) (.slice rp nr rc) (.slice lp nl lc) ti nx fr).toArray[8]? = some (.int .i64 nx) from rfl] at x8; have y8 := cell_heap (o := 8) HK1.out.2.1; rw [show (lkL t2 (.slice pp' np pc') (.slice fp' nf fc') (.slice ip' ni ic') (.slice qp' nq qc') (.slice rp' nr' rc') (.slice lp' nl' lc') ti' nx' fr').toArray[8]? = some (.int .i64 nx') from rfl] at y8
              have x9 := cell_heap (o := 9) HK1.out.1; rw [show (lkL t1 (.slice pp np pc) (.slice fp nf fc) (.slice ip ni ic) (.slice qp nq qc) (.slice rp nr rc) (.slice lp nl lc) ti nx fr).toArray[9]? = some (.int .i64 fr) from rfl] at x9; have y9 := cell_heap (o := 9) HK1.out.2.1; rw [show (lkL t2 (.slice pp' np pc') (.slice fp' nf fc') (.slice ip' ni ic') (.slice qp' nq qc') (.slice rp' nr' rc') (.slice lp' nl' lc') ti' nx' fr').toArray[9]? = some (.int .i64 fr') from rfl] at y9
              have HR : Hid (cb = false) := HRR.out
              go_wp2
              go_ret
              exact ⟨by rw [HR.out]; rfl, HK1.out.2.2.2⟩
          · skip
            cases c1 : allB cmB L.line M.line
            · as_aux_lemma =>
                have HRR : Hid (cb = false) := HFF.out.2.2.2.2.2 c1
                go_wp2_with fail
                clear x1 y1 x2 y2 x3 y3 x4 y4 x5 y5 x6 y6 x7 y7 x8 y8 x9 y9
                go_at_call 49
                refine (HC5.out _ HK.out.2.2.2).mono ?_
                rintro e V1 ⟨rfl, z1⟩
                have HK1 : Hid (AK w (lkL t1 (.slice pp np pc) (.slice fp nf fc) (.slice ip ni ic) (.slice qp nq qc) (.slice rp nr rc) (.slice lp nl lc) ti nx fr) (lkL t2 (.slice pp' np pc') (.slice fp' nf fc') (.slice ip' ni ic') (.slice qp' nq qc') (.slice rp' nr' rc') (.slice lp' nl' lc') ti' nx' fr') V1) := HK.out.step z1
                clear z1
                rw [c0]
                have x1 := cell_heap (o := 1) HK1.out.1; rw [show (lkL t1 (.slice pp np pc) (.slice fp nf fc) (.slice ip ni ic) (.slice qp nq qc) (.slice rp nr rc) (.slice lp nl lc) ti nx fr).toArray[1]? = some (.slice pp np pc) from rfl] at x1; have y1 := cell_heap (o := 1) HK1.out.2.1; rw [show (lkL t2 (.slice pp' np pc') (.slice fp' nf fc') (.slice ip' ni ic') (.slice qp' nq qc') (.slice rp' nr' rc') (.slice lp' nl' lc') ti' nx' fr').toArray[1]? = some (.slice pp' np pc') from rfl] at y1
                have x2 := cell_heap (o := 2) HK1.out.1; rw [show (lkL t1 (.slice pp np pc) (.slice fp nf fc) (.slice ip ni ic) (.slice qp nq qc) (.slice rp nr rc) (.slice lp nl lc) ti nx fr).toArray[2]? = some (.slice fp nf fc) from rfl] at x2; have y2 := cell_heap (o := 2) HK1.out.2.1; rw [show (lkL t2 (.slice pp' np pc') (.slice fp' nf fc') (.slice ip' ni ic') (.slice qp' nq qc') (.slice rp' nr' rc') (.slice lp' nl' lc') ti' nx' fr').toArray[2]? = some (.slice fp' nf fc') from rfl] at y2
                have x3 := cell_heap (o := 3) HK1.out.1; rw [show (lkL t1 (.slice pp np pc) (.slice fp nf fc) (.slice ip ni ic) (.slice qp nq qc) (.slice rp nr rc) (.slice lp nl lc) ti nx fr).toArray[3]? = some (.slice ip ni ic) from rfl] at x3; have y3 := cell_heap (o := 3) HK1.out.2.1; rw [show (lkL t2 (.slice pp' np pc') (.slice fp' nf fc') (.slice ip' ni ic') (.slice qp' nq qc') (.slice rp' nr' rc') (.slice lp' nl' lc') ti' nx' fr').toArray[3]? = some (.slice ip' ni ic') from rfl] at y3
                have x4 := cell_heap (o := 4) HK1.out.1; rw [show (lkL t1 (.slice pp np pc) (.slice fp nf fc) (.slice ip ni ic) (.slice qp nq qc) (.slice rp nr rc) (.slice lp nl lc) ti nx fr).toArray[4]? = some (.slice qp nq qc) from rfl] at x4; have y4 := cell_heap (o := 4) HK1.out.2.1; rw [show (lkL t2 (.slice pp' np pc') (.slice fp' nf fc') (.slice ip' ni ic') (.slice qp' nq qc') (.slice rp' nr' rc') (.slice lp' nl' lc') ti' nx' fr').toArray[4]? = some (.slice qp' nq qc') from rfl] at y4
                have x5 := cell_heap (o := 5) HK1.out.1; rw [show (lkL t1 (.slice pp np pc) (.slice fp nf fc) (.slice ip ni ic) (.slice qp nq qc) (.slice rp nr rc) (.slice lp nl lc) ti nx fr).toArray[5]? = some (.slice rp nr rc) from rfl] at x5; have y5 := cell_heap (o := 5) HK1.out.2.1; rw [show (lkL t2 (.slice pp' np pc') (.slice fp' nf fc') (.slice ip' ni ic') (.slice qp' nq qc') (.slice rp' nr' rc') (.slice lp' nl' lc') ti' nx' fr').toArray[5]? = some (.slice rp' nr' rc') from rfl] at y5
                have x6 := cell_heap (o := 6) HK1.out.1; rw [show (lkL t1 (.slice pp np pc) (.slice fp nf fc) (.slice ip ni ic) (.slice qp nq qc) (.slice rp nr rc) (.slice lp nl lc) ti nx fr).toArray[6]? = some (.slice lp nl lc) from rfl] at x6; have y6 := cell_heap (o := 6) HK1.out.2.1; rw [show (lkL t2 (.slice pp' np pc') (.slice fp' nf fc') (.slice ip' ni ic') (.slice qp' nq qc') (.slice rp' nr' rc') (.slice lp' nl' lc') ti' nx' fr').toArray[6]? = some (.slice lp' nl' lc') from rfl] at y6
                have x7 := cell_heap (o := 7) HK1.out.1; rw [show (lkL t1 (.slice pp np pc) (.slice fp nf fc) (.slice ip ni ic) (.slice qp nq qc) (.slice rp nr rc) (.slice lp nl lc) ti nx fr).toArray[7]? = some (.int .u64 ti) from rfl] at x7; have y7 := cell_heap (o := 7) HK1.out.2.1; rw [show (lkL t2 (.slice pp' np pc') (.slice fp' nf fc') (.slice ip' ni ic') (.slice qp' nq qc') (.slice rp' nr' rc') (.slice lp' nl' lc') ti' nx' fr').toArray[7]? = some (.int .u64 ti') from rfl] at y7
                have x8 := cell_heap (o := 8) HK1.out.1; rw [show (lkL t1 (.slice pp np pc) (.slice fp nf fc) (.slice ip ni ic) (.slice qp nq qc) (.slice rp nr rc) (.slice lp nl lc) ti nx fr).toArray[8]? = some (.int .i64 nx) from rfl] at x8; have y8 := cell_heap (o := 8) HK1.out.2.1; rw [show (lkL t2 (.slice pp' np pc') (.slice fp' nf fc') (.slice ip' ni ic') (.slice qp' nq qc') (.slice rp' nr' rc') (.slice lp' nl' lc') ti' nx' fr').toArray[8]? = some (.int .i64 nx') from rfl] at y8
                have x9 := cell_heap (o := 9) HK1.out.1; rw [show (lkL t1 (.slice pp np pc) (.slice fp nf fc) (.slice ip ni ic) (.slice qp nq qc) (.slice rp nr rc) (.slice lp nl lc) ti nx fr).toArray[9]? = some (.int .i64 fr) from rfl] at x9; have y9 := cell_heap (o := 9) HK1.out.2.1; rw [show (lkL t2 (.slice pp' np pc') (.slice fp' nf fc') (.slice ip' ni ic') (.slice qp' nq qc') (.slice rp' nr' rc') (.slice lp' nl' lc') ti' nx' fr').toArray[9]? = some (.int .i64 fr') from rfl] at y9
                go_wp2_with fail
                clear x1 y1 x2 y2 x3 y3 x4 y4 x5 y5 x6 y6 x7 y7 x8 y8 x9 y9
                go_at_call 49
                refine (HC6.out _ HK1.out.2.2.2).mono ?_
                rintro e V2 ⟨rfl, z2⟩
                have HK2 : Hid (AK w (lkL t1 (.slice pp np pc) (.slice fp nf fc) (.slice ip ni ic) (.slice qp nq qc) (.slice rp nr rc) (.slice lp nl lc) ti nx fr) (lkL t2 (.slice pp' np pc') (.slice fp' nf fc') (.slice ip' ni ic') (.slice qp' nq qc') (.slice rp' nr' rc') (.slice lp' nl' lc') ti' nx' fr') V2) := HK1.out.step z2
                clear z2
                rw [c1]
                have x1 := cell_heap (o := 1) HK2.out.1; rw [show (lkL t1 (.slice pp np pc) (.slice fp nf fc) (.slice ip ni ic) (.slice qp nq qc) (.slice rp nr rc) (.slice lp nl lc) ti nx fr).toArray[1]? = some (.slice pp np pc) from rfl] at x1; have y1 := cell_heap (o := 1) HK2.out.2.1; rw [show (lkL t2 (.slice pp' np pc') (.slice fp' nf fc') (.slice ip' ni ic') (.slice qp' nq qc') (.slice rp' nr' rc') (.slice lp' nl' lc') ti' nx' fr').toArray[1]? = some (.slice pp' np pc') from rfl] at y1
                have x2 := cell_heap (o := 2) HK2.out.1; rw [show (lkL t1 (.slice pp np pc) (.slice fp nf fc) (.slice ip ni ic) (.slice qp nq qc) (.slice rp nr rc) (.slice lp nl lc) ti nx fr).toArray[2]? = some (.slice fp nf fc) from rfl] at x2; have y2 := cell_heap (o := 2) HK2.out.2.1; rw [show (lkL t2 (.slice pp' np pc') (.slice fp' nf fc') (.slice ip' ni ic') (.slice qp' nq qc') (.slice rp' nr' rc') (.slice lp' nl' lc') ti' nx' fr').toArray[2]? = some (.slice fp' nf fc') from rfl] at y2
                have x3 := cell_heap (o := 3) HK2.out.1; rw [show (lkL t1 (.slice pp np pc) (.slice fp nf fc) (.slice ip ni ic) (.slice qp nq qc) (.slice rp nr rc) (.slice lp nl lc) ti nx fr).toArray[3]? = some (.slice ip ni ic) from rfl] at x3; have y3 := cell_heap (o := 3) HK2.out.2.1; rw [show (lkL t2 (.slice pp' np pc') (.slice fp' nf fc') (.slice ip' ni ic') (.slice qp' nq qc') (.slice rp' nr' rc') (.slice lp' nl' lc') ti' nx' fr').toArray[3]? = some (.slice ip' ni ic') from rfl] at y3
                have x4 := cell_heap (o := 4) HK2.out.1; rw [show (lkL t1 (.slice pp np pc) (.slice fp nf fc) (.slice ip ni ic) (.slice qp nq qc) (.slice rp nr rc) (.slice lp nl lc) ti nx fr).toArray[4]? = some (.slice qp nq qc) from rfl] at x4; have y4 := cell_heap (o := 4) HK2.out.2.1; rw [show (lkL t2 (.slice pp' np pc') (.slice fp' nf fc') (.slice ip' ni ic') (.slice qp' nq qc') (.slice rp' nr' rc') (.slice lp' nl' lc') ti' nx' fr').toArray[4]? = some (.slice qp' nq qc') from rfl] at y4
                have x5 := cell_heap (o := 5) HK2.out.1; rw [show (lkL t1 (.slice pp np pc) (.slice fp nf fc) (.slice ip ni ic) (.slice qp nq qc) (.slice rp nr rc) (.slice lp nl lc) ti nx fr).toArray[5]? = some (.slice rp nr rc) from rfl] at x5; have y5 := cell_heap (o := 5) HK2.out.2.1; rw [show (lkL t2 (.slice pp' np pc') (.slice fp' nf fc') (.slice ip' ni ic') (.slice qp' nq qc') (.slice rp' nr' rc') (.slice lp' nl' lc') ti' nx' fr').toArray[5]? = some (.slice rp' nr' rc') from rfl] at y5
                have x6 := cell_heap (o := 6) HK2.out.1; rw [show (lkL t1 (.slice pp np pc) (.slice fp nf fc) (.slice ip ni ic) (.slice qp nq qc) (.slice rp nr rc) (.slice lp nl lc) ti nx fr).toArray[6]? = some (.slice lp nl lc) from rfl] at x6; have y6 := cell_heap (o := 6) HK2.out.2.1; rw [show (lkL t2 (.slice pp' np pc') (.slice fp' nf fc') (.slice ip' ni ic') (.slice qp' nq qc') (.slice rp' nr' rc') (.slice lp' nl' lc') ti' nx' fr').toArray[6]? = some (.slice lp' nl' lc') from rfl] at y6
                have x7 := cell_heap (o := 7) HK2.out.1; rw [show (lkL t1 (.slice pp np pc) (.slice fp nf fc) (.slice ip ni ic) (.slice qp nq qc) (.slice rp nr rc) (.slice lp nl lc) ti nx fr).toArray[7]? = some (.int .u64 ti) from rfl] at x7; have y7 := cell_heap (o := 7) HK2.out.2.1; rw [show (lkL t2 (.slice pp' np pc') (.slice fp' nf fc') (.slice ip' ni ic') (.slice qp' nq qc') (.slice rp' nr' rc') (.slice lp' nl' lc') ti' nx' fr').toArray[7]? = some (.int .u64 ti') from rfl] at y7
                have x8 := cell_heap (o := 8) HK2.out.1; rw [show (lkL t1 (.slice pp np pc) (.slice fp nf fc) (.slice ip ni ic) (.slice qp nq qc) (.slice rp nr rc) (.slice lp nl lc) ti nx fr).toArray[8]? = some (.int .i64 nx) from rfl] at x8; have y8 := cell_heap (o := 8) HK2.out.2.1; rw [show (lkL t2 (.slice pp' np pc') (.slice fp' nf fc') (.slice ip' ni ic') (.slice qp' nq qc') (.slice rp' nr' rc') (.slice lp' nl' lc') ti' nx' fr').toArray[8]? = some (.int .i64 nx') from rfl] at y8
                have x9 := cell_heap (o := 9) HK2.out.1; rw [show (lkL t1 (.slice pp np pc) (.slice fp nf fc) (.slice ip ni ic) (.slice qp nq qc) (.slice rp nr rc) (.slice lp nl lc) ti nx fr).toArray[9]? = some (.int .i64 fr) from rfl] at x9; have y9 := cell_heap (o := 9) HK2.out.2.1; rw [show (lkL t2 (.slice pp' np pc') (.slice fp' nf fc') (.slice ip' ni ic') (.slice qp' nq qc') (.slice rp' nr' rc') (.slice lp' nl' lc') ti' nx' fr').toArray[9]? = some (.int .i64 fr') from rfl] at y9
                have HR : Hid (cb = false) := HRR.out
                go_wp2
                go_ret
                exact ⟨by rw [HR.out]; rfl, HK2.out.2.2.2⟩
            · skip
              cases c2 : (ti == ti')
              · as_aux_lemma =>
                  have HRR : Hid (cb = false) := HTT.out (.inl c2)
                  have m2 : (ti != ti') = true := by simp [bne, c2]
                  go_wp2_with fail
                  clear x1 y1 x2 y2 x3 y3 x4 y4 x5 y5 x6 y6 x7 y7 x8 y8 x9 y9
                  go_at_call 49
                  refine (HC5.out _ HK.out.2.2.2).mono ?_
                  rintro e V1 ⟨rfl, z1⟩
                  have HK1 : Hid (AK w (lkL t1 (.slice pp np pc) (.slice fp nf fc) (.slice ip ni ic) (.slice qp nq qc) (.slice rp nr rc) (.slice lp nl lc) ti nx fr) (lkL t2 (.slice pp' np pc') (.slice fp' nf fc') (.slice ip' ni ic') (.slice qp' nq qc') (.slice rp' nr' rc') (.slice lp' nl' lc') ti' nx' fr') V1) := HK.out.step z1
                  clear z1
                  rw [c0]
                  have x1 := cell_heap (o := 1) HK1.out.1; rw [show (lkL t1 (.slice pp np pc) (.slice fp nf fc) (.slice ip ni ic) (.slice qp nq qc) (.slice rp nr rc) (.slice lp nl lc) ti nx fr).toArray[1]? = some (.slice pp np pc) from rfl] at x1; have y1 := cell_heap (o := 1) HK1.out.2.1; rw [show (lkL t2 (.slice pp' np pc') (.slice fp' nf fc') (.slice ip' ni ic') (.slice qp' nq qc') (.slice rp' nr' rc') (.slice lp' nl' lc') ti' nx' fr').toArray[1]? = some (.slice pp' np pc') from rfl] at y1
                  have x2 := cell_heap (o := 2) HK1.out.1; rw [show (lkL t1 (.slice pp np pc) (.slice fp nf fc) (.slice ip ni ic) (.slice qp nq qc) (.slice rp nr rc) (.slice lp nl lc) ti nx fr).toArray[2]? = some (.slice fp nf fc) from rfl] at x2; have y2 := cell_heap (o := 2) HK1.out.2.1; rw [show (lkL t2 (.slice pp' np pc') (.slice fp' nf fc') (.slice ip' ni ic') (.slice qp' nq qc') (.slice rp' nr' rc') (.slice lp' nl' lc') ti' nx' fr').toArray[2]? = some (.slice fp' nf fc') from rfl] at y2
                  have x3 := cell_heap (o := 3) HK1.out.1; rw [show (lkL t1 (.slice pp np pc) (.slice fp nf fc) (.slice ip ni ic) (.slice qp nq qc) (.slice rp nr rc) (.slice lp nl lc) ti nx fr).toArray[3]? = some (.slice ip ni ic) from rfl] at x3; have y3 := cell_heap (o := 3) HK1.out.2.1; rw [show (lkL t2 (.slice pp' np pc') (.slice fp' nf fc') (.slice ip' ni ic') (.slice qp' nq qc') (.slice rp' nr' rc') (.slice lp' nl' lc') ti' nx' fr').toArray[3]? = some (.slice ip' ni ic') from rfl] at y3
                  have x4 := cell_heap (o := 4) HK1.out.1; rw [show (lkL t1 (.slice pp np pc) (.slice fp nf fc) (.slice ip ni ic) (.slice qp nq qc) (.slice rp nr rc) (.slice lp nl lc) ti nx fr).toArray[4]? = some (.slice qp nq qc) from rfl] at x4; have y4 := cell_heap (o := 4) HK1.out.2.1; rw [show (lkL t2 (.slice pp' np pc') (.slice fp' nf fc') (.slice ip' ni ic') (.slice qp' nq qc') (.slice rp' nr' rc') (.slice lp' nl' lc') ti' nx' fr').toArray[4]? = some (.slice qp' nq qc') from rfl] at y4
                  have x5 := cell_heap (o := 5) HK1.out.1; rw [show (lkL t1 (.slice pp np pc) (.slice fp nf fc) (.slice ip ni ic) (.slice qp nq qc) (.slice rp nr rc) (.slice lp nl lc) ti nx fr).toArray[5]? = some (.slice rp nr rc) from rfl] at x5; have y5 := cell_heap (o := 5) HK1.out.2.1; rw [show (lkL t2 (.slice pp' np pc') (.slice fp' nf fc') (.slice ip' ni ic') (.slice qp' nq qc') (.slice rp' nr' rc') (.slice lp' nl' lc') ti' nx' fr').toArray[5]? = some (.slice rp' nr' rc') from rfl] at y5
                  have x6 := cell_heap (o := 6) HK1.out.1; rw [show (lkL t1 (.slice pp np pc) (.slice fp nf fc) (.slice ip ni ic) (.slice qp nq qc) (.slice rp nr rc) (.slice lp nl lc) ti nx fr).toArray[6]? = some (.slice lp nl lc) from rfl] at x6; have y6 := cell_heap (o := 6) HK1.out.2.1; rw [show (lkL t2 (.slice pp' np pc') (.slice fp' nf fc') (.slice ip' ni ic') (.slice qp' nq qc') (.slice rp' nr' rc') (.slice lp' nl' lc') ti' nx' fr').toArray[6]? = some (.slice lp' nl' lc') from rfl] at y6
                  have x7 := cell_heap (o := 7) HK1.out.1; rw [show (lkL t1 (.slice pp np pc) (.slice fp nf fc) (.slice ip ni ic) (.slice qp nq qc) (.slice rp nr rc) (.slice lp nl lc) ti nx fr).toArray[7]? = some (.int .u64 ti) from rfl] at x7; have y7 := cell_heap (o := 7) HK1.out.2.1; rw [show (lkL t2 (.slice pp' np pc') (.slice fp' nf fc') (.slice ip' ni ic') (.slice qp' nq qc') (.slice rp' nr' rc') (.slice lp' nl' lc') ti' nx' fr').toArray[7]? = some (.int .u64 ti') from rfl] at y7
                  have x8 := cell_heap (o := 8) HK1.out.1; rw [show (lkL t1 (.slice pp np pc) (.slice fp nf fc) (.slice ip ni ic) (.slice qp nq qc) (.slice rp nr rc) (.slice lp nl lc) ti nx fr).toArray[8]? = some (.int .i64 nx) from rfl] at x8; have y8 := cell_heap (o := 8) HK1.out.2.1; rw [show (lkL t2 (.slice pp' np pc') (.slice fp' nf fc') (.slice ip' ni ic') (.slice qp' nq qc') (.slice rp' nr' rc') (.slice lp' nl' lc') ti' nx' fr').toArray[8]? = some (.int .i64 nx') from rfl] at y8
                  have x9 := cell_heap (o := 9) HK1.out.1; rw [show (lkL t1 (.slice pp np pc) (.slice fp nf fc) (.slice ip ni ic) (.slice qp nq qc) (.slice rp nr rc) (.slice lp nl lc) ti nx fr).toArray[9]? = some (.int .i64 fr) from rfl] at x9; have y9 := cell_heap (o := 9) HK1.out.2.1; rw [show (lkL t2 (.slice pp' np pc') (.slice fp' nf fc') (.slice ip' ni ic') (.slice qp' nq qc') (.slice rp' nr' rc') (.slice lp' nl' lc') ti' nx' fr').toArray[9]? = some (.int .i64 fr') from rfl] at y9
                  go_wp2_with fail
                  clear x1 y1 x2 y2 x3 y3 x4 y4 x5 y5 x6 y6 x7 y7 x8 y8 x9 y9
                  go_at_call 49
                  refine (HC6.out _ HK1.out.2.2.2).mono ?_
                  rintro e V2 ⟨rfl, z2⟩
                  have HK2 : Hid (AK w (lkL t1 (.slice pp np pc) (.slice fp nf fc) (.slice ip ni ic) (.slice qp nq qc) (.slice rp nr rc) (.slice lp nl lc) ti nx fr) (lkL t2 (.slice pp' np pc') (.slice fp' nf fc') (.slice ip' ni ic') (.slice qp' nq qc') (.slice rp' nr' rc') (.slice lp' nl' lc') ti' nx' fr') V2) := HK1.out.step z2
                  clear z2
                  rw [c1]
                  have x1 := cell_heap (o := 1) HK2.out.1; rw [show (lkL t1 (.slice pp np pc) (.slice fp nf fc) (.slice ip ni ic) (.slice qp nq qc) (.slice rp nr rc) (.slice lp nl lc) ti nx fr).toArray[1]? = some (.slice pp np pc) from rfl] at x1; have y1 := cell_heap (o := 1) HK2.out.2.1; rw [show (lkL t2 (.slice pp' np pc') (.slice fp' nf fc') (.slice ip' ni ic') (.slice qp' nq qc') (.slice rp' nr' rc') (.slice lp' nl' lc') ti' nx' fr').toArray[1]? = some (.slice pp' np pc') from rfl] at y1
                  have x2 := cell_heap (o := 2) HK2.out.1; rw [show (lkL t1 (.slice pp np pc) (.slice fp nf fc) (.slice ip ni ic) (.slice qp nq qc) (.slice rp nr rc) (.slice lp nl lc) ti nx fr).toArray[2]? = some (.slice fp nf fc) from rfl] at x2; have y2 := cell_heap (o := 2) HK2.out.2.1; rw [show (lkL t2 (.slice pp' np pc') (.slice fp' nf fc') (.slice ip' ni ic') (.slice qp' nq qc') (.slice rp' nr' rc') (.slice lp' nl' lc') ti' nx' fr').toArray[2]? = some (.slice fp' nf fc') from rfl] at y2
                  have x3 := cell_heap (o := 3) HK2.out.1; rw [show (lkL t1 (.slice pp np pc) (.slice fp nf fc) (.slice ip ni ic) (.slice qp nq qc) (.slice rp nr rc) (.slice lp nl lc) ti nx fr).toArray[3]? = some (.slice ip ni ic) from rfl] at x3; have y3 := cell_heap (o := 3) HK2.out.2.1; rw [show (lkL t2 (.slice pp' np pc') (.slice fp' nf fc') (.slice ip' ni ic') (.slice qp' nq qc') (.slice rp' nr' rc') (.slice lp' nl' lc') ti' nx' fr').toArray[3]? = some (.slice ip' ni ic') from rfl] at y3
                  have x4 := cell_heap (o := 4) HK2.out.1; rw [show (lkL t1 (.slice pp np pc) (.slice fp nf fc) (.slice ip ni ic) (.slice qp nq qc) (.slice rp nr rc) (.slice lp nl lc) ti nx fr).toArray[4]? = some (.slice qp nq qc) from rfl] at x4; have y4 := cell_heap (o := 4) HK2.out.2.1; rw [show (lkL t2 (.slice pp' np pc') (.slice fp' nf fc') (.slice ip' ni ic') (.slice qp' nq qc') (.slice rp' nr' rc') (.slice lp' nl' lc') ti' nx' fr').toArray[4]? = some (.slice qp' nq qc') from rfl] at y4
                  have x5 := cell_heap (o := 5) HK2.out.1; rw [show (lkL t1 (.slice pp np pc) (.slice fp nf fc) (.slice ip ni ic) (.slice qp nq qc) (.slice rp nr rc) (.slice lp nl lc) ti nx fr).toArray[5]? = some (.slice rp nr rc) from rfl] at x5; have y5 := cell_heap (o := 5) HK2.out.2.1; rw [show (lkL t2 (.slice pp' np pc') (.slice fp' nf fc') (.slice ip' ni ic') (.slice qp' nq qc') (.slice rp' nr' rc') (.slice lp' nl' lc') ti' nx' fr').toArray[5]? = some (.slice rp' nr' rc') from rfl] at y5
                  have x6 := cell_heap (o := 6) HK2.out.1; rw [show (lkL t1 (.slice pp np pc) (.slice fp nf fc) (.slice ip ni ic) (.slice qp nq qc) (.slice rp nr rc) (.slice lp nl lc) ti nx fr).toArray[6]? = some (.slice lp nl lc) from rfl] at x6; have y6 := cell_heap (o := 6) HK2.out.2.1; rw [show (lkL t2 (.slice pp' np pc') (.slice fp' nf fc') (.slice ip' ni ic') (.slice qp' nq qc') (.slice rp' nr' rc') (.slice lp' nl' lc') ti' nx' fr').toArray[6]? = some (.slice lp' nl' lc') from rfl] at y6
                  have x7 := cell_heap (o := 7) HK2.out.1; rw [show (lkL t1 (.slice pp np pc) (.slice fp nf fc) (.slice ip ni ic) (.slice qp nq qc) (.slice rp nr rc) (.slice lp nl lc) ti nx fr).toArray[7]? = some (.int .u64 ti) from rfl] at x7; have y7 := cell_heap (o := 7) HK2.out.2.1; rw [show (lkL t2 (.slice pp' np pc') (.slice fp' nf fc') (.slice ip' ni ic') (.slice qp' nq qc') (.slice rp' nr' rc') (.slice lp' nl' lc') ti' nx' fr').toArray[7]? = some (.int .u64 ti') from rfl] at y7
                  have x8 := cell_heap (o := 8) HK2.out.1; rw [show (lkL t1 (.slice pp np pc) (.slice fp nf fc) (.slice ip ni ic) (.slice qp nq qc) (.slice rp nr rc) (.slice lp nl lc) ti nx fr).toArray[8]? = some (.int .i64 nx) from rfl] at x8; have y8 := cell_heap (o := 8) HK2.out.2.1; rw [show (lkL t2 (.slice pp' np pc') (.slice fp' nf fc') (.slice ip' ni ic') (.slice qp' nq qc') (.slice rp' nr' rc') (.slice lp' nl' lc') ti' nx' fr').toArray[8]? = some (.int .i64 nx') from rfl] at y8
                  have x9 := cell_heap (o := 9) HK2.out.1; rw [show (lkL t1 (.slice pp np pc) (.slice fp nf fc) (.slice ip ni ic) (.slice qp nq qc) (.slice rp nr rc) (.slice lp nl lc) ti nx fr).toArray[9]? = some (.int .i64 fr) from rfl] at x9; have y9 := cell_heap (o := 9) HK2.out.2.1; rw [show (lkL t2 (.slice pp' np pc') (.slice fp' nf fc') (.slice ip' ni ic') (.slice qp' nq qc') (.slice rp' nr' rc') (.slice lp' nl' lc') ti' nx' fr').toArray[9]? = some (.int .i64 fr') from rfl] at y9
                  have HR : Hid (cb = false) := HRR.out
                  go_wp2
                  go_ret
                  exact ⟨by rw [HR.out]; rfl, HK2.out.2.2.2⟩
              · have m2 : (ti != ti') = false := by simp [bne, c2]
                cases c3 : (nx == nx')
                · as_aux_lemma =>
                    have HRR : Hid (cb = false) := HTT.out (.inr (.inl c3))
                    have m3 : (nx != nx') = true := by simp [bne, c3]
                    go_wp2_with fail
                    clear x1 y1 x2 y2 x3 y3 x4 y4 x5 y5 x6 y6 x7 y7 x8 y8 x9 y9
                    go_at_call 49
                    refine (HC5.out _ HK.out.2.2.2).mono ?_
                    rintro e V1 ⟨rfl, z1⟩
                    have HK1 : Hid (AK w (lkL t1 (.slice pp np pc) (.slice fp nf fc) (.slice ip ni ic) (.slice qp nq qc) (.slice rp nr rc) (.slice lp nl lc) ti nx fr) (lkL t2 (.slice pp' np pc') (.slice fp' nf fc') (.slice ip' ni ic') (.slice qp' nq qc') (.slice rp' nr' rc') (.slice lp' nl' lc') ti' nx' fr') V1) := HK.out.step z1
                    clear z1
                    rw [c0]
                    have x1 := cell_heap (o := 1) HK1.out.1; rw [show (lkL t1 (.slice pp np pc) (.slice fp nf fc) (.slice ip ni ic) (.slice qp nq qc) (.slice rp nr rc) (.slice lp nl lc) ti nx fr).toArray[1]? = some (.slice pp np pc) from rfl] at x1; have y1 := cell_heap (o := 1) HK1.out.2.1; rw [show (lkL t2 (.slice pp' np pc') (.slice fp' nf fc') (.slice ip' ni ic') (.slice qp' nq qc') (.slice rp' nr' rc') (.slice lp' nl' lc') ti' nx' fr').toArray[1]? = some (.slice pp' np pc') from rfl] at y1
                    have x2 := cell_heap (o := 2) HK1.out.1; rw [show (lkL t1 (.slice pp np pc) (.slice fp nf fc) (.slice ip ni ic) (.slice qp nq qc) (.slice rp nr rc) (.slice lp nl lc) ti nx fr).toArray[2]? = some (.slice fp nf fc) from rfl] at x2; have y2 := cell_heap (o := 2) HK1.out.2.1; rw [show (lkL t2 (.slice pp' np pc') (.slice fp' nf fc') (.slice ip' ni ic') (.slice qp' nq qc') (.slice rp' nr' rc') (.slice lp' nl' lc') ti' nx' fr').toArray[2]? = some (.slice fp' nf fc') from rfl] at y2
                    have x3 := cell_heap (o := 3) HK1.out.1; rw [show (lkL t1 (.slice pp np pc) (.slice fp nf fc) (.slice ip ni ic) (.slice qp nq qc) (.slice rp nr rc) (.slice lp nl lc) ti nx fr).toArray[3]? = some (.slice ip ni ic) from rfl] at x3; have y3 := cell_heap (o := 3) HK1.out.2.1; rw [show (lkL t2 (.slice pp' np pc') (.slice fp' nf fc') (.slice ip' ni ic') (.slice qp' nq qc') (.slice rp' nr' rc') (.slice lp' nl' lc') ti' nx' fr').toArray[3]? = some (.slice ip' ni ic') from rfl] at y3
                    have x4 := cell_heap (o := 4) HK1.out.1; rw [show (lkL t1 (.slice pp np pc) (.slice fp nf fc) (.slice ip ni ic) (.slice qp nq qc) (.slice rp nr rc) (.slice lp nl lc) ti nx fr).toArray[4]? = some (.slice qp nq qc) from rfl] at x4; have y4 := cell_heap (o := 4) HK1.out.2.1; rw [show (lkL t2 (.slice pp' np pc') (.slice fp' nf fc') (.slice ip' ni ic') (.slice qp' nq qc') (.slice rp' nr' rc') (.slice lp' nl' lc') ti' nx' fr').toArray[4]? = some (.slice qp' nq qc') from rfl] at y4
                    have x5 := cell_heap (o := 5) HK1.out.1; rw [show (lkL t1 (.slice pp np pc) (.slice fp nf fc) (.slice ip ni ic) (.slice qp nq qc) (.slice rp nr rc) (.slice lp nl lc) ti nx fr).toArray[5]? = some (.slice rp nr rc) from rfl] at x5; have y5 := cell_heap (o := 5) HK1.out.2.1; rw [show (lkL t2 (.slice pp' np pc') (.slice fp' nf fc') (.slice ip' ni ic') (.slice qp' nq qc') (.slice rp' nr' rc') (.slice lp' nl' lc') ti' nx' fr').toArray[5]? = some (.slice rp' nr' rc') from rfl] at y5
                    have x6 := cell_heap (o := 6) HK1.out.1; rw [show (lkL t1 (.slice pp np pc) (.slice fp nf fc) (.slice ip ni ic) (.slice qp nq qc) (.slice rp nr rc) (.slice lp nl lc) ti nx fr).toArray[6]? = some (.slice lp nl lc) from rfl] at x6; have y6 := cell_heap (o := 6) HK1.out.2.1; rw [show (lkL t2 (.slice pp' np pc') (.slice fp' nf fc') (.slice ip' ni ic') (.slice qp' nq qc') (.slice rp' nr' rc') (.slice lp' nl' lc') ti' nx' fr').toArray[6]? = some (.slice lp' nl' lc') from rfl] at y6
                    have x7 := cell_heap (o := 7) HK1.out.1; rw [show (lkL t1 (.slice pp np pc) (.slice fp nf fc) (.slice ip ni ic) (.slice qp nq qc) (.slice rp nr rc) (.slice lp nl lc) ti nx fr).toArray[7]? = some (.int .u64 ti) from rfl] at x7; have y7 := cell_heap (o := 7) HK1.out.2.1; rw [show (lkL t2 (.slice pp' np pc') (.slice fp' nf fc') (.slice ip' ni ic') (.slice qp' nq qc') (.slice rp' nr' rc') (.slice lp' nl' lc') ti' nx' fr').toArray[7]? = some (.int .u64 ti') from rfl] at y7
                    have x8 := cell_heap (o := 8) HK1.out.1; rw [show (lkL t1 (.slice pp np pc) (.slice fp nf fc) (.slice ip ni ic) (.slice qp nq qc) (.slice rp nr rc) (.slice lp nl lc) ti nx fr).toArray[8]? = some (.int .i64 nx) from rfl] at x8; have y8 := cell_heap (o := 8) HK1.out.2.1; rw [show (lkL t2 (.slice pp' np pc') (.slice fp' nf fc') (.slice ip' ni ic') (.slice qp' nq qc') (.slice rp' nr' rc') (.slice lp' nl' lc') ti' nx' fr').toArray[8]? = some (.int .i64 nx') from rfl] at y8
                    have x9 := cell_heap (o := 9) HK1.out.1; rw [show (lkL t1 (.slice pp np pc) (.slice fp nf fc) (.slice ip ni ic) (.slice qp nq qc) (.slice rp nr rc) (.slice lp nl lc) ti nx fr).toArray[9]? = some (.int .i64 fr) from rfl] at x9; have y9 := cell_heap (o := 9) HK1.out.2.1; rw [show (lkL t2 (.slice pp' np pc') (.slice fp' nf fc') (.slice ip' ni ic') (.slice qp' nq qc') (.slice rp' nr' rc') (.slice lp' nl' lc') ti' nx' fr').toArray[9]? = some (.int .i64 fr') from rfl] at y9
                    go_wp2_with fail
                    clear x1 y1 x2 y2 x3 y3 x4 y4 x5 y5 x6 y6 x7 y7 x8 y8 x9 y9
                    go_at_call 49
                    refine (HC6.out _ HK1.out.2.2.2).mono ?_
                    rintro e V2 ⟨rfl, z2⟩
                    have HK2 : Hid (AK w (lkL t1 (.slice pp np pc) (.slice fp nf fc) (.slice ip ni ic) (.slice qp nq qc) (.slice rp nr rc) (.slice lp nl lc) ti nx fr) (lkL t2 (.slice pp' np pc') (.slice fp' nf fc') (.slice ip' ni ic') (.slice qp' nq qc') (.slice rp' nr' rc') (.slice lp' nl' lc') ti' nx' fr') V2) := HK1.out.step z2
                    clear z2
                    rw [c1]
                    have x1 := cell_heap (o := 1) HK2.out.1; rw [show (lkL t1 (.slice pp np pc) (.slice fp nf fc) (.slice ip ni ic) (.slice qp nq qc) (.slice rp nr rc) (.slice lp nl lc) ti nx fr).toArray[1]? = some (.slice pp np pc) from rfl] at x1; have y1 := cell_heap (o := 1) HK2.out.2.1; rw [show (lkL t2 (.slice pp' np pc') (.slice fp' nf fc') (.slice ip' ni ic') (.slice qp' nq qc') (.slice rp' nr' rc') (.slice lp' nl' lc') ti' nx' fr').toArray[1]? = some (.slice pp' np pc') from rfl] at y1
                    have x2 := cell_heap (o := 2) HK2.out.1; rw [show (lkL t1 (.slice pp np pc) (.slice fp nf fc) (.slice ip ni ic) (.slice qp nq qc) (.slice rp nr rc) (.slice lp nl lc) ti nx fr).toArray[2]? = some (.slice fp nf fc) from rfl] at x2; have y2 := cell_heap (o := 2) HK2.out.2.1; rw [show (lkL t2 (.slice pp' np pc') (.slice fp' nf fc') (.slice ip' ni ic') (.slice qp' nq qc') (.slice rp' nr' rc') (.slice lp' nl' lc') ti' nx' fr').toArray[2]? = some (.slice fp' nf fc') from rfl] at y2
                    have x3 := cell_heap (o := 3) HK2.out.1; rw [show (lkL t1 (.slice pp np pc) (.slice fp nf fc) (.slice ip ni ic) (.slice qp nq qc) (.slice rp nr rc) (.slice lp nl lc) ti nx fr).toArray[3]? = some (.slice ip ni ic) from rfl] at x3; have y3 := cell_heap (o := 3) HK2.out.2.1; rw [show (lkL t2 (.slice pp' np pc') (.slice fp' nf fc') (.slice ip' ni ic') (.slice qp' nq qc') (.slice rp' nr' rc') (.slice lp' nl' lc') ti' nx' fr').toArray[3]? = some (.slice ip' ni ic') from rfl] at y3
                    have x4 := cell_heap (o := 4) HK2.out.1; rw [show (lkL t1 (.slice pp np pc) (.slice fp nf fc) (.slice ip ni ic) (.slice qp nq qc) (.slice rp nr rc) (.slice lp nl lc) ti nx fr).toArray[4]? = some (.slice qp nq qc) from rfl] at x4; have y4 := cell_heap (o := 4) HK2.out.2.1; rw [show (lkL t2 (.slice pp' np pc') (.slice fp' nf fc') (.slice ip' ni ic') (.slice qp' nq qc') (.slice rp' nr' rc') (.slice lp' nl' lc') ti' nx' fr').toArray[4]? = some (.slice qp' nq qc') from rfl] at y4
                    have x5 := cell_heap (o := 5) HK2.out.1; rw [show (lkL t1 (.slice pp np pc) (.slice fp nf fc) (.slice ip ni ic) (.slice qp nq qc) (.slice rp nr rc) (.slice lp nl lc) ti nx fr).toArray[5]? = some (.slice rp nr rc) from rfl] at x5; have y5 := cell_heap (o := 5) HK2.out.2.1; rw [show (lkL t2 (.slice pp' np pc') (.slice fp' nf fc') (.slice ip' ni ic') (.slice qp' nq qc') (.slice rp' nr' rc') (.slice lp' nl' lc') ti' nx' fr').toArray[5]? = some (.slice rp' nr' rc') from rfl] at y5
                    have x6 := cell_heap (o := 6) HK2.out.1; rw [show (lkL t1 (.slice pp np pc) (.slice fp nf fc) (.slice ip ni ic) (.slice qp nq qc) (.slice rp nr rc) (.slice lp nl lc) ti nx fr).toArray[6]? = some (.slice lp nl lc) from rfl] at x6; have y6 := cell_heap (o := 6) HK2.out.2.1; rw [show (lkL t2 (.slice pp' np pc') (.slice fp' nf fc') (.slice ip' ni ic') (.slice qp' nq qc') (.slice rp' nr' rc') (.slice lp' nl' lc') ti' nx' fr').toArray[6]? = some (.slice lp' nl' lc') from rfl] at y6
                    have x7 := cell_heap (o := 7) HK2.out.1; rw [show (lkL t1 (.slice pp np pc) (.slice fp nf fc) (.slice ip ni ic) (.slice qp nq qc) (.slice rp nr rc) (.slice lp nl lc) ti nx fr).toArray[7]? = some (.int .u64 ti) from rfl] at x7; have y7 := cell_heap (o := 7) HK2.out.2.1; rw [show (lkL t2 (.slice pp' np pc') (.slice fp' nf fc') (.slice ip' ni ic') (.slice qp' nq qc') (.slice rp' nr' rc') (.slice lp' nl' lc') ti' nx' fr').toArray[7]? = some (.int .u64 ti') from rfl] at y7
                    have x8 := cell_heap (o := 8) HK2.out.1; rw [show (lkL t1 (.slice pp np pc) (.slice fp nf fc) (.slice ip ni ic) (.slice qp nq qc) (.slice rp nr rc) (.slice lp nl lc) ti nx fr).toArray[8]? = some (.int .i64 nx) from rfl] at x8; have y8 := cell_heap (o := 8) HK2.out.2.1; rw [show (lkL t2 (.slice pp' np pc') (.slice fp' nf fc') (.slice ip' ni ic') (.slice qp' nq qc') (.slice rp' nr' rc') (.slice lp' nl' lc') ti' nx' fr').toArray[8]? = some (.int .i64 nx') from rfl] at y8
                    have x9 := cell_heap (o := 9) HK2.out.1; rw [show (lkL t1 (.slice pp np pc) (.slice fp nf fc) (.slice ip ni ic) (.slice qp nq qc) (.slice rp nr rc) (.slice lp nl lc) ti nx fr).toArray[9]? = some (.int .i64 fr) from rfl] at x9; have y9 := cell_heap (o := 9) HK2.out.2.1; rw [show (lkL t2 (.slice pp' np pc') (.slice fp' nf fc') (.slice ip' ni ic') (.slice qp' nq qc') (.slice rp' nr' rc') (.slice lp' nl' lc') ti' nx' fr').toArray[9]? = some (.int .i64 fr') from rfl] at y9
                    have HR : Hid (cb = false) := HRR.out
                    go_wp2
                    go_ret
                    exact ⟨by rw [HR.out]; rfl, HK2.out.2.2.2⟩
                · have m3 : (nx != nx') = false := by simp [bne, c3]
                  cases c4 : (fr == fr')
                  · as_aux_lemma =>
                      have HRR : Hid (cb = false) := HTT.out (.inr (.inr c4))
                      have m4 : (fr != fr') = true := by simp [bne, c4]
                      go_wp2_with fail
                      clear x1 y1 x2 y2 x3 y3 x4 y4 x5 y5 x6 y6 x7 y7 x8 y8 x9 y9
                      go_at_call 49
                      refine (HC5.out _ HK.out.2.2.2).mono ?_
                      rintro e V1 ⟨rfl, z1⟩
                      have HK1 : Hid (AK w (lkL t1 (.slice pp np pc) (.slice fp nf fc) (.slice ip ni ic) (.slice qp nq qc) (.slice rp nr rc) (.slice lp nl lc) ti nx fr) (lkL t2 (.slice pp' np pc') (.slice fp' nf fc') (.slice ip' ni ic') (.slice qp' nq qc') (.slice rp' nr' rc') (.slice lp' nl' lc') ti' nx' fr') V1) := HK.out.step z1
                      clear z1
                      rw [c0]
                      have x1 := cell_heap (o := 1) HK1.out.1; rw [show (lkL t1 (.slice pp np pc) (.slice fp nf fc) (.slice ip ni ic) (.slice qp nq qc) (.slice rp nr rc) (.slice lp nl lc) ti nx fr).toArray[1]? = some (.slice pp np pc) from rfl] at x1; have y1 := cell_heap (o := 1) HK1.out.2.1; rw [show (lkL t2 (.slice pp' np pc') (.slice fp' nf fc') (.slice ip' ni ic') (.slice qp' nq qc') (.slice rp' nr' rc') (.slice lp' nl' lc') ti' nx' fr').toArray[1]? = some (.slice pp' np pc') from rfl] at y1
                      have x2 := cell_heap (o := 2) HK1.out.1; rw [show (lkL t1 (.slice pp np pc) (.slice fp nf fc) (.slice ip ni ic) (.slice qp nq qc) (.slice rp nr rc) (.slice lp nl lc) ti nx fr).toArray[2]? = some (.slice fp nf fc) from rfl] at x2; have y2 := cell_heap (o := 2) HK1.out.2.1; rw [show (lkL t2 (.slice pp' np pc') (.slice fp' nf fc') (.slice ip' ni ic') (.slice qp' nq qc') (.slice rp' nr' rc') (.slice lp' nl' lc') ti' nx' fr').toArray[2]? = some (.slice fp' nf fc') from rfl] at y2
                      have x3 := cell_heap (o := 3) HK1.out.1; rw [show (lkL t1 (.slice pp np pc) (.slice fp nf fc) (.slice ip ni ic) (.slice qp nq qc) (.slice rp nr rc) (.slice lp nl lc) ti nx fr).toArray[3]? = some (.slice ip ni ic) from rfl] at x3; have y3 := cell_heap (o := 3) HK1.out.2.1; rw [show (lkL t2 (.slice pp' np pc') (.slice fp' nf fc') (.slice ip' ni ic') (.slice qp' nq qc') (.slice rp' nr' rc') (.slice lp' nl' lc') ti' nx' fr').toArray[3]? = some (.slice ip' ni ic') from rfl] at y3
                      have x4 := cell_heap (o := 4) HK1.out.1; rw [show (lkL t1 (.slice pp np pc) (.slice fp nf fc) (.slice ip ni ic) (.slice qp nq qc) (.slice rp nr rc) (.slice lp nl lc) ti nx fr).toArray[4]? = some (.slice qp nq qc) from rfl] at x4; have y4 := cell_heap (o := 4) HK1.out.2.1; rw [show (lkL t2 (.slice pp' np pc') (.slice fp' nf fc') (.slice ip' ni ic') (.slice qp' nq qc') (.slice rp' nr' rc') (.slice lp' nl' lc') ti' nx' fr').toArray[4]? = some (.slice qp' nq qc') from rfl] at y4
                      have x5 := cell_heap (o := 5) HK1.out.1; rw [show (lkL t1 (.slice pp np pc) (.slice fp nf fc) (.slice ip ni ic) (.slice qp nq qc) (.slice rp nr rc) (.slice lp nl lc) ti nx fr).toArray[5]? = some (.slice rp nr rc) from rfl] at x5; have y5 := cell_heap (o := 5) HK1.out.2.1; rw [show (lkL t2 (.slice pp' np pc') (.slice fp' nf fc') (.slice ip' ni ic') (.slice qp' nq qc') (.slice rp' nr' rc') (.slice lp' nl' lc') ti' nx' fr').toArray[5]? = some (.slice rp' nr' rc') from rfl] at y5
                      have x6 := cell_heap (o := 6) HK1.out.1; rw [show (lkL t1 (.slice pp np pc) (.slice fp nf fc) (.slice ip ni ic) (.slice qp nq qc) (.slice rp nr rc) (.slice lp nl lc) ti nx fr).toArray[6]? = some (.slice lp nl lc) from rfl] at x6; have y6 := cell_heap (o := 6) HK1.out.2.1; rw [show (lkL t2 (.slice pp' np pc') (.slice fp' nf fc') (.slice ip' ni ic') (.slice qp' nq qc') (.slice rp' nr' rc') (.slice lp' nl' lc') ti' nx' fr').toArray[6]? = some (.slice lp' nl' lc') from rfl] at y6
                      have x7 := cell_heap (o := 7) HK1.out.1; rw [show (lkL t1 (.slice pp np pc) (.slice fp nf fc) (.slice ip ni ic) (.slice qp nq qc) (.slice rp nr rc) (.slice lp nl lc) ti nx fr).toArray[7]? = some (.int .u64 ti) from rfl] at x7; have y7 := cell_heap (o := 7) HK1.out.2.1; rw [show (lkL t2 (.slice pp' np pc') (.slice fp' nf fc') (.slice ip' ni ic') (.slice qp' nq qc') (.slice rp' nr' rc') (.slice lp' nl' lc') ti' nx' fr').toArray[7]? = some (.int .u64 ti') from rfl] at y7
                      have x8 := cell_heap (o := 8) HK1.out.1; rw [show (lkL t1 (.slice pp np pc) (.slice fp nf fc) (.slice ip ni ic) (.slice qp nq qc) (.slice rp nr rc) (.slice lp nl lc) ti nx fr).toArray[8]? = some (.int .i64 nx) from rfl] at x8; have y8 := cell_heap (o := 8) HK1.out.2.1; rw [show (lkL t2 (.slice pp' np pc') (.slice fp' nf fc') (.slice ip' ni ic') (.slice qp' nq qc') (.slice rp' nr' rc') (.slice lp' nl' lc') ti' nx' fr').toArray[8]? = some (.int .i64 nx') from rfl] at y8
                      have x9 := cell_heap (o := 9) HK1.out.1; rw [show (lkL t1 (.slice pp np pc) (.slice fp nf fc) (.slice ip ni ic) (.slice qp nq qc) (.slice rp nr rc) (.slice lp nl lc) ti nx fr).toArray[9]? = some (.int .i64 fr) from rfl] at x9; have y9 := cell_heap (o := 9) HK1.out.2.1; rw [show (lkL t2 (.slice pp' np pc') (.slice fp' nf fc') (.slice ip' ni ic') (.slice qp' nq qc') (.slice rp' nr' rc') (.slice lp' nl' lc') ti' nx' fr').toArray[9]? = some (.int .i64 fr') from rfl] at y9
                      go_wp2_with fail
                      clear x1 y1 x2 y2 x3 y3 x4 y4 x5 y5 x6 y6 x7 y7 x8 y8 x9 y9
                      go_at_call 49
                      refine (HC6.out _ HK1.out.2.2.2).mono ?_
                      rintro e V2 ⟨rfl, z2⟩
                      have HK2 : Hid (AK w (lkL t1 (.slice pp np pc) (.slice fp nf fc) (.slice ip ni ic) (.slice qp nq qc) (.slice rp nr rc) (.slice lp nl lc) ti nx fr) (lkL t2 (.slice pp' np pc') (.slice fp' nf fc') (.slice ip' ni ic') (.slice qp' nq qc') (.slice rp' nr' rc') (.slice lp' nl' lc') ti' nx' fr') V2) := HK1.out.step z2
                      clear z2
                      rw [c1]
                      have x1 := cell_heap (o := 1) HK2.out.1; rw [show (lkL t1 (.slice pp np pc) (.slice fp nf fc) (.slice ip ni ic) (.slice qp nq qc) (.slice rp nr rc) (.slice lp nl lc) ti nx fr).toArray[1]? = some (.slice pp np pc) from rfl] at x1; have y1 := cell_heap (o := 1) HK2.out.2.1; rw [show (lkL t2 (.slice pp' np pc') (.slice fp' nf fc') (.slice ip' ni ic') (.slice qp' nq qc') (.slice rp' nr' rc') (.slice lp' nl' lc') ti' nx' fr').toArray[1]? = some (.slice pp' np pc') from rfl] at y1
                      have x2 := cell_heap (o := 2) HK2.out.1; rw [show (lkL t1 (.slice pp np pc) (.slice fp nf fc) (.slice ip ni ic) (.slice qp nq qc) (.slice rp nr rc) (.slice lp nl lc) ti nx fr).toArray[2]? = some (.slice fp nf fc) from rfl] at x2; have y2 := cell_heap (o := 2) HK2.out.2.1; rw [show (lkL t2 (.slice pp' np pc') (.slice fp' nf fc') (.slice ip' ni ic') (.slice qp' nq qc') (.slice rp' nr' rc') (.slice lp' nl' lc') ti' nx' fr').toArray[2]? = some (.slice fp' nf fc') from rfl] at y2
                      have x3 := cell_heap (o := 3) HK2.out.1; rw [show (lkL t1 (.slice pp np pc) (.slice fp nf fc) (.slice ip ni ic) (.slice qp nq qc) (.slice rp nr rc) (.slice lp nl lc) ti nx fr).toArray[3]? = some (.slice ip ni ic) from rfl] at x3; have y3 := cell_heap (o := 3) HK2.out.2.1; rw [show (lkL t2 (.slice pp' np pc') (.slice fp' nf fc') (.slice ip' ni ic') (.slice qp' nq qc') (.slice rp' nr' rc') (.slice lp' nl' lc') ti' nx' fr').toArray[3]? = some (.slice ip' ni ic') from rfl] at y3
                      have x4 := cell_heap (o := 4) HK2.out.1; rw [show (lkL t1 (.slice pp np pc) (.slice fp nf fc) (.slice ip ni ic) (.slice qp nq qc) (.slice rp nr rc) (.slice lp nl lc) ti nx fr).toArray[4]? = some (.slice qp nq qc) from rfl] at x4; have y4 := cell_heap (o := 4) HK2.out.2.1; rw [show (lkL t2 (.slice pp' np pc') (.slice fp' nf fc') (.slice ip' ni ic') (.slice qp' nq qc') (.slice rp' nr' rc') (.slice lp' nl' lc') ti' nx' fr').toArray[4]? = some (.slice qp' nq qc') from rfl] at y4
                      have x5 := cell_heap (o := 5) HK2.out.1; rw [show (lkL t1 (.slice pp np pc) (.slice fp nf fc) (.slice ip ni ic) (.slice qp nq qc) (.slice rp nr rc) (.slice lp nl lc) ti nx fr).toArray[5]? = some (.slice rp nr rc) from rfl] at x5; have y5 := cell_heap (o := 5) HK2.out.2.1; rw [show (lkL t2 (.slice pp' np pc') (.slice fp' nf fc') (.slice ip' ni ic') (.slice qp' nq qc') (.slice rp' nr' rc') (.slice lp' nl' lc') ti' nx' fr').toArray[5]? = some (.slice rp' nr' rc') from rfl] at y5
                      have x6 := cell_heap (o := 6) HK2.out.1; rw [show (lkL t1 (.slice pp np pc) (.slice fp nf fc) (.slice ip ni ic) (.slice qp nq qc) (.slice rp nr rc) (.slice lp nl lc) ti nx fr).toArray[6]? = some (.slice lp nl lc) from rfl] at x6; have y6 := cell_heap (o := 6) HK2.out.2.1; rw [show (lkL t2 (.slice pp' np pc') (.slice fp' nf fc') (.slice ip' ni ic') (.slice qp' nq qc') (.slice rp' nr' rc') (.slice lp' nl' lc') ti' nx' fr').toArray[6]? = some (.slice lp' nl' lc') from rfl] at y6
                      have x7 := cell_heap (o := 7) HK2.out.1; rw [show (lkL t1 (.slice pp np pc) (.slice fp nf fc) (.slice ip ni ic) (.slice qp nq qc) (.slice rp nr rc) (.slice lp nl lc) ti nx fr).toArray[7]? = some (.int .u64 ti) from rfl] at x7; have y7 := cell_heap (o := 7) HK2.out.2.1; rw [show (lkL t2 (.slice pp' np pc') (.slice fp' nf fc') (.slice ip' ni ic') (.slice qp' nq qc') (.slice rp' nr' rc') (.slice lp' nl' lc') ti' nx' fr').toArray[7]? = some (.int .u64 ti') from rfl] at y7
                      have x8 := cell_heap (o := 8) HK2.out.1; rw [show (lkL t1 (.slice pp np pc) (.slice fp nf fc) (.slice ip ni ic) (.slice qp nq qc) (.slice rp nr rc) (.slice lp nl lc) ti nx fr).toArray[8]? = some (.int .i64 nx) from rfl] at x8; have y8 := cell_heap (o := 8) HK2.out.2.1; rw [show (lkL t2 (.slice pp' np pc') (.slice fp' nf fc') (.slice ip' ni ic') (.slice qp' nq qc') (.slice rp' nr' rc') (.slice lp' nl' lc') ti' nx' fr').toArray[8]? = some (.int .i64 nx') from rfl] at y8
                      have x9 := cell_heap (o := 9) HK2.out.1; rw [show (lkL t1 (.slice pp np pc) (.slice fp nf fc) (.slice ip ni ic) (.slice qp nq qc) (.slice rp nr rc) (.slice lp nl lc) ti nx fr).toArray[9]? = some (.int .i64 fr) from rfl] at x9; have y9 := cell_heap (o := 9) HK2.out.2.1; rw [show (lkL t2 (.slice pp' np pc') (.slice fp' nf fc') (.slice ip' ni ic') (.slice qp' nq qc') (.slice rp' nr' rc') (.slice lp' nl' lc') ti' nx' fr').toArray[9]? = some (.int .i64 fr') from rfl] at y9
                      have HR : Hid (cb = false) := HRR.out
                      go_wp2
                      go_ret
                      exact ⟨by rw [HR.out]; rfl, HK2.out.2.2.2⟩
                  · have m4 : (fr != fr') = false := by simp [bne, c4]
                    go_wp2_with fail
                    clear x1 y1 x2 y2 x3 y3 x4 y4 x5 y5 x6 y6 x7 y7 x8 y8 x9 y9
                    go_at_call 49
                    refine (HC5.out _ HK.out.2.2.2).mono ?_
                    rintro e V1 ⟨rfl, z1⟩
                    have HK1 : Hid (AK w (lkL t1 (.slice pp np pc) (.slice fp nf fc) (.slice ip ni ic) (.slice qp nq qc) (.slice rp nr rc) (.slice lp nl lc) ti nx fr) (lkL t2 (.slice pp' np pc') (.slice fp' nf fc') (.slice ip' ni ic') (.slice qp' nq qc') (.slice rp' nr' rc') (.slice lp' nl' lc') ti' nx' fr') V1) := HK.out.step z1
                    clear z1
                    rw [c0]
                    have x1 := cell_heap (o := 1) HK1.out.1; rw [show (lkL t1 (.slice pp np pc) (.slice fp nf fc) (.slice ip ni ic) (.slice qp nq qc) (.slice rp nr rc) (.slice lp nl lc) ti nx fr).toArray[1]? = some (.slice pp np pc) from rfl] at x1; have y1 := cell_heap (o := 1) HK1.out.2.1; rw [show (lkL t2 (.slice pp' np pc') (.slice fp' nf fc') (.slice ip' ni ic') (.slice qp' nq qc') (.slice rp' nr' rc') (.slice lp' nl' lc') ti' nx' fr').toArray[1]? = some (.slice pp' np pc') from rfl] at y1
                    have x2 := cell_heap (o := 2) HK1.out.1; rw [show (lkL t1 (.slice pp np pc) (.slice fp nf fc) (.slice ip ni ic) (.slice qp nq qc) (.slice rp nr rc) (.slice lp nl lc) ti nx fr).toArray[2]? = some (.slice fp nf fc) from rfl] at x2; have y2 := cell_heap (o := 2) HK1.out.2.1; rw [show (lkL t2 (.slice pp' np pc') (.slice fp' nf fc') (.slice ip' ni ic') (.slice qp' nq qc') (.slice rp' nr' rc') (.slice lp' nl' lc') ti' nx' fr').toArray[2]? = some (.slice fp' nf fc') from rfl] at y2
                    have x3 := cell_heap (o := 3) HK1.out.1; rw [show (lkL t1 (.slice pp np pc) (.slice fp nf fc) (.slice ip ni ic) (.slice qp nq qc) (.slice rp nr rc) (.slice lp nl lc) ti nx fr).toArray[3]? = some (.slice ip ni ic) from rfl] at x3; have y3 := cell_heap (o := 3) HK1.out.2.1; rw [show (lkL t2 (.slice pp' np pc') (.slice fp' nf fc') (.slice ip' ni ic') (.slice qp' nq qc') (.slice rp' nr' rc') (.slice lp' nl' lc') ti' nx' fr').toArray[3]? = some (.slice ip' ni ic') from rfl] at y3
                    have x4 := cell_heap (o := 4) HK1.out.1; rw [show (lkL t1 (.slice pp np pc) (.slice fp nf fc) (.slice ip ni ic) (.slice qp nq qc) (.slice rp nr rc) (.slice lp nl lc) ti nx fr).toArray[4]? = some (.slice qp nq qc) from rfl] at x4; have y4 := cell_heap (o := 4) HK1.out.2.1; rw [show (lkL t2 (.slice pp' np pc') (.slice fp' nf fc') (.slice ip' ni ic') (.slice qp' nq qc') (.slice rp' nr' rc') (.slice lp' nl' lc') ti' nx' fr').toArray[4]? = some (.slice qp' nq qc') from rfl] at y4
                    have x5 := cell_heap (o := 5) HK1.out.1; rw [show (lkL t1 (.slice pp np pc) (.slice fp nf fc) (.slice ip ni ic) (.slice qp nq qc) (.slice rp nr rc) (.slice lp nl lc) ti nx fr).toArray[5]? = some (.slice rp nr rc) from rfl] at x5; have y5 := cell_heap (o := 5) HK1.out.2.1; rw [show (lkL t2 (.slice pp' np pc') (.slice fp' nf fc') (.slice ip' ni ic') (.slice qp' nq qc') (.slice rp' nr' rc') (.slice lp' nl' lc') ti' nx' fr').toArray[5]? = some (.slice rp' nr' rc') from rfl] at y5
                    have x6 := cell_heap (o := 6) HK1.out.1; rw [show (lkL t1 (.slice pp np pc) (.slice fp nf fc) (.slice ip ni ic) (.slice qp nq qc) (.slice rp nr rc) (.slice lp nl lc) ti nx fr).toArray[6]? = some (.slice lp nl lc) from rfl] at x6; have y6 := cell_heap (o := 6) HK1.out.2.1; rw [show (lkL t2 (.slice pp' np pc') (.slice fp' nf fc') (.slice ip' ni ic') (.slice qp' nq qc') (.slice rp' nr' rc') (.slice lp' nl' lc') ti' nx' fr').toArray[6]? = some (.slice lp' nl' lc') from rfl] at y6
                    have x7 := cell_heap (o := 7) HK1.out.1; rw [show (lkL t1 (.slice pp np pc) (.slice fp nf fc) (.slice ip ni ic) (.slice qp nq qc) (.slice rp nr rc) (.slice lp nl lc) ti nx fr).toArray[7]? = some (.int .u64 ti) from rfl] at x7; have y7 := cell_heap (o := 7) HK1.out.2.1; rw [show (lkL t2 (.slice pp' np pc') (.slice fp' nf fc') (.slice ip' ni ic') (.slice qp' nq qc') (.slice rp' nr' rc') (.slice lp' nl' lc') ti' nx' fr').toArray[7]? = some (.int .u64 ti') from rfl] at y7
                    have x8 := cell_heap (o := 8) HK1.out.1; rw [show (lkL t1 (.slice pp np pc) (.slice fp nf fc) (.slice ip ni ic) (.slice qp nq qc) (.slice rp nr rc) (.slice lp nl lc) ti nx fr).toArray[8]? = some (.int .i64 nx) from rfl] at x8; have y8 := cell_heap (o := 8) HK1.out.2.1; rw [show (lkL t2 (.slice pp' np pc') (.slice fp' nf fc') (.slice ip' ni ic') (.slice qp' nq qc') (.slice rp' nr' rc') (.slice lp' nl' lc') ti' nx' fr').toArray[8]? = some (.int .i64 nx') from rfl] at y8
                    have x9 := cell_heap (o := 9) HK1.out.1; rw [show (lkL t1 (.slice pp np pc) (.slice fp nf fc) (.slice ip ni ic) (.slice qp nq qc) (.slice rp nr rc) (.slice lp nl lc) ti nx fr).toArray[9]? = some (.int .i64 fr) from rfl] at x9; have y9 := cell_heap (o := 9) HK1.out.2.1; rw [show (lkL t2 (.slice pp' np pc') (.slice fp' nf fc') (.slice ip' ni ic') (.slice qp' nq qc') (.slice rp' nr' rc') (.slice lp' nl' lc') ti' nx' fr').toArray[9]? = some (.int .i64 fr') from rfl] at y9
                    go_wp2_with fail
                    clear x1 y1 x2 y2 x3 y3 x4 y4 x5 y5 x6 y6 x7 y7 x8 y8 x9 y9
                    go_at_call 49
                    refine (HC6.out _ HK1.out.2.2.2).mono ?_
                    rintro e V2 ⟨rfl, z2⟩
                    have HK2 : Hid (AK w (lkL t1 (.slice pp np pc) (.slice fp nf fc) (.slice ip ni ic) (.slice qp nq qc) (.slice rp nr rc) (.slice lp nl lc) ti nx fr) (lkL t2 (.slice pp' np pc') (.slice fp' nf fc') (.slice ip' ni ic') (.slice qp' nq qc') (.slice rp' nr' rc') (.slice lp' nl' lc') ti' nx' fr') V2) := HK1.out.step z2
                    clear z2
                    rw [c1]
                    have x1 := cell_heap (o := 1) HK2.out.1; rw [show (lkL t1 (.slice pp np pc) (.slice fp nf fc) (.slice ip ni ic) (.slice qp nq qc) (.slice rp nr rc) (.slice lp nl lc) ti nx fr).toArray[1]? = some (.slice pp np pc) from rfl] at x1; have y1 := cell_heap (o := 1) HK2.out.2.1; rw [show (lkL t2 (.slice pp' np pc') (.slice fp' nf fc') (.slice ip' ni ic') (.slice qp' nq qc') (.slice rp' nr' rc') (.slice lp' nl' lc') ti' nx' fr').toArray[1]? = some (.slice pp' np pc') from rfl] at y1
                    have x2 := cell_heap (o := 2) HK2.out.1; rw [show (lkL t1 (.slice pp np pc) (.slice fp nf fc) (.slice ip ni ic) (.slice qp nq qc) (.slice rp nr rc) (.slice lp nl lc) ti nx fr).toArray[2]? = some (.slice fp nf fc) from rfl] at x2; have y2 := cell_heap (o := 2) HK2.out.2.1; rw [show (lkL t2 (.slice pp' np pc') (.slice fp' nf fc') (.slice ip' ni ic') (.slice qp' nq qc') (.slice rp' nr' rc') (.slice lp' nl' lc') ti' nx' fr').toArray[2]? = some (.slice fp' nf fc') from rfl] at y2
                    have x3 := cell_heap (o := 3) HK2.out.1; rw [show (lkL t1 (.slice pp np pc) (.slice fp nf fc) (.slice ip ni ic) (.slice qp nq qc) (.slice rp nr rc) (.slice lp nl lc) ti nx fr).toArray[3]? = some (.slice ip ni ic) from rfl] at x3; have y3 := cell_heap (o := 3) HK2.out.2.1; rw [show (lkL t2 (.slice pp' np pc') (.slice fp' nf fc') (.slice ip' ni ic') (.slice qp' nq qc') (.slice rp' nr' rc') (.slice lp' nl' lc') ti' nx' fr').toArray[3]? = some (.slice ip' ni ic') from rfl] at y3
                    have x4 := cell_heap (o := 4) HK2.out.1; rw [show (lkL t1 (.slice pp np pc) (.slice fp nf fc) (.slice ip ni ic) (.slice qp nq qc) (.slice rp nr rc) (.slice lp nl lc) ti nx fr).toArray[4]? = some (.slice qp nq qc) from rfl] at x4; have y4 := cell_heap (o := 4) HK2.out.2.1; rw [show (lkL t2 (.slice pp' np pc') (.slice fp' nf fc') (.slice ip' ni ic') (.slice qp' nq qc') (.slice rp' nr' rc') (.slice lp' nl' lc') ti' nx' fr').toArray[4]? = some (.slice qp' nq qc') from rfl] at y4
                    have x5 := cell_heap (o := 5) HK2.out.1; rw [show (lkL t1 (.slice pp np pc) (.slice fp nf fc) (.slice ip ni ic) (.slice qp nq qc) (.slice rp nr rc) (.slice lp nl lc) ti nx fr).toArray[5]? = some (.slice rp nr rc) from rfl] at x5; have y5 := cell_heap (o := 5) HK2.out.2.1; rw [show (lkL t2 (.slice pp' np pc') (.slice fp' nf fc') (.slice ip' ni ic') (.slice qp' nq qc') (.slice rp' nr' rc') (.slice lp' nl' lc') ti' nx' fr').toArray[5]? = some (.slice rp' nr' rc') from rfl] at y5
                    have x6 := cell_heap (o := 6) HK2.out.1; rw [show (lkL t1 (.slice pp np pc) (.slice fp nf fc) (.slice ip ni ic) (.slice qp nq qc) (.slice rp nr rc) (.slice lp nl lc) ti nx fr).toArray[6]? = some (.slice lp nl lc) from rfl] at x6; have y6 := cell_heap (o := 6) HK2.out.2.1; rw [show (lkL t2 (.slice pp' np pc') (.slice fp' nf fc') (.slice ip' ni ic') (.slice qp' nq qc') (.slice rp' nr' rc') (.slice lp' nl' lc') ti' nx' fr').toArray[6]? = some (.slice lp' nl' lc') from rfl] at y6
                    have x7 := cell_heap (o := 7) HK2.out.1; rw [show (lkL t1 (.slice pp np pc) (.slice fp nf fc) (.slice ip ni ic) (.slice qp nq qc) (.slice rp nr rc) (.slice lp nl lc) ti nx fr).toArray[7]? = some (.int .u64 ti) from rfl] at x7; have y7 := cell_heap (o := 7) HK2.out.2.1; rw [show (lkL t2 (.slice pp' np pc') (.slice fp' nf fc') (.slice ip' ni ic') (.slice qp' nq qc') (.slice rp' nr' rc') (.slice lp' nl' lc') ti' nx' fr').toArray[7]? = some (.int .u64 ti') from rfl] at y7
                    have x8 := cell_heap (o := 8) HK2.out.1; rw [show (lkL t1 (.slice pp np pc) (.slice fp nf fc) (.slice ip ni ic) (.slice qp nq qc) (.slice rp nr rc) (.slice lp nl lc) ti nx fr).toArray[8]? = some (.int .i64 nx) from rfl] at x8; have y8 := cell_heap (o := 8) HK2.out.2.1; rw [show (lkL t2 (.slice pp' np pc') (.slice fp' nf fc') (.slice ip' ni ic') (.slice qp' nq qc') (.slice rp' nr' rc') (.slice lp' nl' lc') ti' nx' fr').toArray[8]? = some (.int .i64 nx') from rfl] at y8
                    have x9 := cell_heap (o := 9) HK2.out.1; rw [show (lkL t1 (.slice pp np pc) (.slice fp nf fc) (.slice ip ni ic) (.slice qp nq qc) (.slice rp nr rc) (.slice lp nl lc) ti nx fr).toArray[9]? = some (.int .i64 fr) from rfl] at x9; have y9 := cell_heap (o := 9) HK2.out.2.1; rw [show (lkL t2 (.slice pp' np pc') (.slice fp' nf fc') (.slice ip' ni ic') (.slice qp' nq qc') (.slice rp' nr' rc') (.slice lp' nl' lc') ti' nx' fr').toArray[9]? = some (.int .i64 fr') from rfl] at y9
                    go_wp2
                    have HTr : Hid (allB cmB L.ready M.ready = true) := c0
                    have HTl : Hid (allB cmB L.line M.line = true) := c1
                    have HTN : Hid ((ti == ti') = true ∧ (nx == nx') = true ∧ (fr == fr') = true) := ⟨c2, c3, c4⟩
                    clear HK HK1
                    have HK : Hid (AK w (lkL t1 (.slice pp np pc) (.slice fp nf fc) (.slice ip ni ic) (.slice qp nq qc) (.slice rp nr rc) (.slice lp nl lc) ti nx fr) (lkL t2 (.slice pp' np pc') (.slice fp' nf fc') (.slice ip' ni ic') (.slice qp' nq qc') (.slice rp' nr' rc') (.slice lp' nl' lc') ti' nx' fr') V2) := HK2.out
                    clear HK2
                    clear x1 y1 x2 y2 x3 y3 x4 y4 x5 y5 x6 y6 x7 y7 x8 y8 x9 y9
                    clear c0 c1 c2 c3 c4 m2 m3 m4
                    go_loopw [5] (fun k wr => ∃ i : Nat, i ≤ np ∧ k = .int .i64 i ∧ Hid (AK w (lkL t1 (.slice pp np pc) (.slice fp nf fc) (.slice ip ni ic) (.slice qp nq qc) (.slice rp nr rc) (.slice lp nl lc) ti nx fr) (lkL t2 (.slice pp' np pc') (.slice fp' nf fc') (.slice ip' ni ic') (.slice qp' nq qc') (.slice rp' nr' rc') (.slice lp' nl' lc') ti' nx' fr') wr ∧ ∀ j, j < i → ∀ x y, L.procs[j]? = some x → M.procs[j]? = some y → cmP x y = true)) (fun v _ => (np - intOf v).toNat)
                    case atStart => exact ⟨0, by omega, rfl, HK.out, fun j h => by omega⟩
                    case round =>
                      clear HK
                      obtain ⟨i, hi, rfl, HB⟩ := hrel
                      have a1 := cell_heap (o := 1) HB.out.1.1
                      rw [show (lkL t1 (.slice pp np pc) (.slice fp nf fc) (.slice ip ni ic) (.slice qp nq qc) (.slice rp nr rc) (.slice lp nl lc) ti nx fr).toArray[1]? = some (.slice pp np pc) from rfl] at a1
                      by_cases hin : i < np
                      · as_aux_lemma =>
                          have i1 : (i : Int) < np := by omega
                          have b1' := cell_heap (o := 1) HB.out.1.2.1
                          rw [show (lkL t2 (.slice pp' np pc') (.slice fp' nf fc') (.slice ip' ni ic') (.slice qp' nq qc') (.slice rp' nr' rc') (.slice lp' nl' lc') ti' nx' fr').toArray[1]? = some (.slice pp' np pc') from rfl] at b1'
                          obtain ⟨-, b1, o1, x, cs, rfl, hbX, hx, ⟨nv, gv, rfl, hN, hG⟩, hcl, hr⟩ := HL.out.1.ps.at hin
                          obtain ⟨-, b2, o2, y, cs2, rfl, hbY, hy, ⟨nv2, gv2, rfl, hN2, hG2⟩, hcl2, hr2⟩ := HL.out.2.ps.at hin
                          obtain ⟨np1, nc1, rfl⟩ := hN.form
                          obtain ⟨gp1, gc1, rfl⟩ := hG.form
                          obtain ⟨np2, nc2, rfl⟩ := hN2.form
                          obtain ⟨gp2, gc2, rfl⟩ := hG2.form
                          obtain ⟨n1, hn1⟩ : ∃ n, n = x.nodes.length := ⟨_, rfl⟩
                          obtain ⟨n2, hn2⟩ : ∃ n, n = y.nodes.length := ⟨_, rfl⟩
                          obtain ⟨g1, hg1⟩ : ∃ n, n = x.pages.length := ⟨_, rfl⟩
                          obtain ⟨g2, hg2⟩ : ∃ n, n = y.pages.length := ⟨_, rfl⟩
                          rw [← hg1] at hG
                          rw [← hg2] at hG2
                          rw [← hn1, ← hg1] at hr
                          rw [← hn2, ← hg2] at hr2
                          have HCC : Hid (∀ V, Below w.heap.size w V → Calls Try.prog 50 #[.agg (x.l (.slice np1 n1 nc1) (.slice gp1 g1 gc1)).toArray, .agg (y.l (.slice np2 n2 nc2) (.slice gp2 g2 gc2)).toArray] V fun e w' => e = .returned (.bool (cmP x y)) ∧ Below V.heap.size V w') := fun V hV => proc50_any (Nat.le_trans HXY.out.1 hV.size) (Nat.le_trans HXY.out.2 hV.size) x y np1 gp1 np2 gp2 n1 n2 g1 g2 nc1 gc1 nc2 gc2 hn1 hn2 (HCB.out.1.pg x (List.mem_of_getElem? hx)) (HCB.out.2.pg y (List.mem_of_getElem? hy)) (hG.keep (Nat.le_refl _) (hV.mono HXY.out.1)) (hG2.keep (Nat.le_refl _) (hV.mono HXY.out.2))
                          clear hN hN2 hG hG2 hn1 hn2 hg1 hg2
                          have r1 := range_keep hr HB.out.1.2.2.2 (by have := HXY.out; omega : b1 < w.heap.size)
                          have r2 := range_keep hr2 HB.out.1.2.2.2 (by have := HXY.out; omega : b2 < w.heap.size)
                          have hS : (fun w' : World => w'.cell? ⟨w.heap.size, 1, .none⟩ = some (.slice (some ⟨b1, o1, .none⟩) np pc) ∧ w'.cell? ⟨w.heap.size + 1, 1, .none⟩ = some (.slice (some ⟨b2, o2, .none⟩) np pc') ∧ w'.rangeAt b1 (o1 + i * 70) (x.l (.slice np1 n1 nc1) (.slice gp1 g1 gc1)) ∧ w'.rangeAt b2 (o2 + i * 70) (y.l (.slice np2 n2 nc2) (.slice gp2 g2 gc2))) wr.drew := ⟨a1, b1', r1, r2⟩
                          have HD : Hid (AK w (lkL t1 (.slice (some ⟨b1, o1, .none⟩) np pc) (.slice fp nf fc) (.slice ip ni ic) (.slice qp nq qc) (.slice rp nr rc) (.slice lp nl lc) ti nx fr) (lkL t2 (.slice (some ⟨b2, o2, .none⟩) np pc') (.slice fp' nf fc') (.slice ip' ni ic') (.slice qp' nq qc') (.slice rp' nr' rc') (.slice lp' nl' lc') ti' nx' fr') wr.drew) := HB.out.1.step (Below.refl _ _).drew
                          have HX : Hid (L.procs[i]? = some x ∧ M.procs[i]? = some y) := ⟨hx, hy⟩
                          have HJ : Hid (∀ j, j < i → ∀ x y, L.procs[j]? = some x → M.procs[j]? = some y → cmP x y = true) := HB.out.2
                          clear hr hr2 hcl hcl2 hbX hbY hx hy HB
                          go_upto_region 8 with fail
                          clear a1 b1' r1 r2
                          refine region_set (fun w' => w'.cell? ⟨w.heap.size, 1, .none⟩ = some (.slice (some ⟨b1, o1, .none⟩) np pc) ∧ w'.cell? ⟨w.heap.size + 1, 1, .none⟩ = some (.slice (some ⟨b2, o2, .none⟩) np pc') ∧ w'.rangeAt b1 (o1 + i * 70) (x.l (.slice np1 n1 nc1) (.slice gp1 g1 gc1)) ∧ w'.rangeAt b2 (o2 + i * 70) (y.l (.slice np2 n2 nc2) (.slice gp2 g2 gc2))) 10 [0, 5, 2, 7] (by kernel_rfl) ?_
                          refine set_pure (i := 0) (v := .pointer (some ⟨w.heap.size, 1, .none⟩)) rfl (by kernel_rfl) (by kernel_rfl) (by kernel_rfl) (by kernel_rfl) (fun _ _ _ h => h) (Or.inl ⟨by rfl, fun ww hSw => by go_simp⟩) ?_
                          simp only [Act.put, List.setIfInBounds_toArray, List.set_cons_zero, List.set_cons_succ, List.getElem_toArray, List.getElem_cons_succ, List.getElem_cons_zero]
                          refine set_pure (i := 2) (v := .int .i64 i) rfl (by kernel_rfl) (by kernel_rfl) (by kernel_rfl) (by kernel_rfl) (fun _ _ _ h => h) (Or.inl ⟨by rfl, fun ww hSw => by go_simp⟩) ?_
                          simp only [Act.put, List.setIfInBounds_toArray, List.set_cons_zero, List.set_cons_succ, List.getElem_toArray, List.getElem_cons_succ, List.getElem_cons_zero]
                          refine set_pure (i := 5) (v := .pointer (some ⟨w.heap.size + 1, 1, .none⟩)) rfl (by kernel_rfl) (by kernel_rfl) (by kernel_rfl) (by kernel_rfl) (fun _ _ _ h => h) (Or.inl ⟨by rfl, fun ww hSw => by go_simp⟩) ?_
                          simp only [Act.put, List.setIfInBounds_toArray, List.set_cons_zero, List.set_cons_succ, List.getElem_toArray, List.getElem_cons_succ, List.getElem_cons_zero]
                          refine set_pure (i := 7) (v := .int .i64 i) rfl (by kernel_rfl) (by kernel_rfl) (by kernel_rfl) (by kernel_rfl) (fun _ _ _ h => h) (Or.inl ⟨by rfl, fun ww hSw => by go_simp⟩) ?_
                          simp only [Act.put, List.setIfInBounds_toArray, List.set_cons_zero, List.set_cons_succ, List.getElem_toArray, List.getElem_cons_succ, List.getElem_cons_zero]
                          refine set_take (i := 1) (v := .slice (some ⟨b1, o1, .none⟩) np pc) rfl (by kernel_rfl) (by kernel_rfl) (by kernel_rfl) (by kernel_rfl) (fun _ _ _ h => h) (Or.inl ⟨by rfl, fun ww hSw => by obtain ⟨hs1, hs2, hs3, hs4⟩ := hSw; go_simp⟩) hS ?_
                          simp only [Act.put, List.setIfInBounds_toArray, List.set_cons_zero, List.set_cons_succ, List.getElem_toArray, List.getElem_cons_succ, List.getElem_cons_zero]
                          refine set_take (i := 3) (v := .pointer (some ⟨b1, o1 + i * 70, .none⟩)) rfl (by kernel_rfl) (by kernel_rfl) (by kernel_rfl) (by kernel_rfl) (fun _ _ _ h => h) (Or.inl ⟨by rfl, fun ww hSw => by obtain ⟨hs1, hs2, hs3, hs4⟩ := hSw; go_simp⟩) hS ?_
                          simp only [Act.put, List.setIfInBounds_toArray, List.set_cons_zero, List.set_cons_succ, List.getElem_toArray, List.getElem_cons_succ, List.getElem_cons_zero]
                          refine set_take (i := 4) (v := .agg ((x.l (.slice np1 n1 nc1) (.slice gp1 g1 gc1))).toArray) rfl (by kernel_rfl) (by kernel_rfl) (by kernel_rfl) (by kernel_rfl) (fun _ _ _ h => h) (yieldsIf_load_mid (by rfl) 55 (.tmp 92) rfl (b1) (o1 + i * 70) rfl ((x.l (.slice np1 n1 nc1) (.slice gp1 g1 gc1))) _ (fun ww hSw => hSw.2.2.1) Try.underlying55 rfl (by first | kernel_rfl | (rw [rfl]; kernel_rfl))) hS ?_
                          simp only [Act.put, List.setIfInBounds_toArray, List.set_cons_zero, List.set_cons_succ, List.getElem_toArray, List.getElem_cons_succ, List.getElem_cons_zero]
                          refine set_take (i := 6) (v := .slice (some ⟨b2, o2, .none⟩) np pc') rfl (by kernel_rfl) (by kernel_rfl) (by kernel_rfl) (by kernel_rfl) (fun _ _ _ h => h) (Or.inl ⟨by rfl, fun ww hSw => by obtain ⟨hs1, hs2, hs3, hs4⟩ := hSw; go_simp⟩) hS ?_
                          simp only [Act.put, List.setIfInBounds_toArray, List.set_cons_zero, List.set_cons_succ, List.getElem_toArray, List.getElem_cons_succ, List.getElem_cons_zero]
                          refine set_take (i := 8) (v := .pointer (some ⟨b2, o2 + i * 70, .none⟩)) rfl (by kernel_rfl) (by kernel_rfl) (by kernel_rfl) (by kernel_rfl) (fun _ _ _ h => h) (Or.inl ⟨by rfl, fun ww hSw => by obtain ⟨hs1, hs2, hs3, hs4⟩ := hSw; go_simp⟩) hS ?_
                          simp only [Act.put, List.setIfInBounds_toArray, List.set_cons_zero, List.set_cons_succ, List.getElem_toArray, List.getElem_cons_succ, List.getElem_cons_zero]
                          refine set_take (i := 9) (v := .agg ((y.l (.slice np2 n2 nc2) (.slice gp2 g2 gc2))).toArray) rfl (by kernel_rfl) (by kernel_rfl) (by kernel_rfl) (by kernel_rfl) (fun _ _ _ h => h) (yieldsIf_load_mid (by rfl) 55 (.tmp 97) rfl (b2) (o2 + i * 70) rfl ((y.l (.slice np2 n2 nc2) (.slice gp2 g2 gc2))) _ (fun ww hSw => hSw.2.2.2) Try.underlying55 rfl (by first | kernel_rfl | (rw [rfl]; kernel_rfl))) hS ?_
                          simp only [Act.put, List.setIfInBounds_toArray, List.set_cons_zero, List.set_cons_succ, List.getElem_toArray, List.getElem_cons_succ, List.getElem_cons_zero]
                          refine set_tail 2 10 _ _ _ _ (by kernel_rfl) (by decide) ?_
                          simp only [List.toList_toArray, List.drop_succ_cons, List.drop_zero]
                          clear hS
                          generalize wr.drew = WD at *
                          go_wp2_with fail
                          go_at_call 50
                          refine (HCC.out _ HD.out.2.2.2).mono ?_
                          rintro e W7 ⟨rfl, hB7⟩
                          have HE : Hid (AK w (lkL t1 (.slice (some ⟨b1, o1, .none⟩) np pc) (.slice fp nf fc) (.slice ip ni ic) (.slice qp nq qc) (.slice rp nr rc) (.slice lp nl lc) ti nx fr) (lkL t2 (.slice (some ⟨b2, o2, .none⟩) np pc') (.slice fp' nf fc') (.slice ip' ni ic') (.slice qp' nq qc') (.slice rp' nr' rc') (.slice lp' nl' lc') ti' nx' fr') W7) := HD.out.step hB7
                          clear hB7 HD HCC
                          cases hfb : cmP x y
                          · skip
                            have HR : Hid (cb = false) := HFF.out.1 (allB_false HX.out.1 HX.out.2 hfb)
                            clear hfb
                            go_wp2
                            go_ret
                            exact ⟨by rw [HR.out]; rfl, HE.out.2.2.2⟩
                          · skip
                            have HFB : Hid (cmP x y = true) := hfb
                            clear hfb
                            go_wp2
                            refine ⟨⟨i + 1, by omega, by go_num, HE.out, fun j hj a b ha hb => ?_⟩, by simp [intOf]; omega⟩
                            by_cases hji : j = i
                            · subst hji
                              rw [HX.out.1] at ha
                              rw [HX.out.2] at hb
                              cases ha
                              cases hb
                              exact HFB.out
                            · exact HJ.out j (by omega) a b ha hb
                      · have hnn : i = np := by omega
                        subst i
                        have g0 : ¬ (np : Int) < np := by omega
                        have HTp : Hid (allB cmP L.procs M.procs = true) := allB_true (by have := HN.out; omega) (fun k x y hx hy => HB.out.2 k (by have := (List.getElem?_eq_some_iff.1 hx).1; have := HN.out; omega) x y hx hy)
                        have HK : Hid (AK w (lkL t1 (.slice pp np pc) (.slice fp nf fc) (.slice ip ni ic) (.slice qp nq qc) (.slice rp nr rc) (.slice lp nl lc) ti nx fr) (lkL t2 (.slice pp' np pc') (.slice fp' nf fc') (.slice ip' ni ic') (.slice qp' nq qc') (.slice rp' nr' rc') (.slice lp' nl' lc') ti' nx' fr') wr) := HB.out.1
                        clear hi hin HB
                        go_wp2
                        clear a1 g0
                        go_loopw [6] (fun k wr => ∃ i : Nat, i ≤ nf ∧ k = .int .i64 i ∧ Hid (AK w (lkL t1 (.slice pp np pc) (.slice fp nf fc) (.slice ip ni ic) (.slice qp nq qc) (.slice rp nr rc) (.slice lp nl lc) ti nx fr) (lkL t2 (.slice pp' np pc') (.slice fp' nf fc') (.slice ip' ni ic') (.slice qp' nq qc') (.slice rp' nr' rc') (.slice lp' nl' lc') ti' nx' fr') wr ∧ ∀ j, j < i → ∀ x y, L.files[j]? = some x → M.files[j]? = some y → cmF x y = true)) (fun v _ => (nf - intOf v).toNat)
                        case atStart => exact ⟨0, by omega, rfl, HK.out, fun j h => by omega⟩
                        case round =>
                          clear HK
                          obtain ⟨i, hi, rfl, HB⟩ := hrel
                          have a1 := cell_heap (o := 2) HB.out.1.1
                          rw [show (lkL t1 (.slice pp np pc) (.slice fp nf fc) (.slice ip ni ic) (.slice qp nq qc) (.slice rp nr rc) (.slice lp nl lc) ti nx fr).toArray[2]? = some (.slice fp nf fc) from rfl] at a1
                          by_cases hin : i < nf
                          · as_aux_lemma =>
                              have i1 : (i : Int) < nf := by omega
                              have b1' := cell_heap (o := 2) HB.out.1.2.1
                              rw [show (lkL t2 (.slice pp' np pc') (.slice fp' nf fc') (.slice ip' ni ic') (.slice qp' nq qc') (.slice rp' nr' rc') (.slice lp' nl' lc') ti' nx' fr').toArray[2]? = some (.slice fp' nf fc') from rfl] at b1'
                              obtain ⟨-, b1, o1, x, cs, rfl, hbX, hx, rfl, hcl, hr⟩ := HL.out.1.fs.at hin
                              obtain ⟨-, b2, o2, y, cs2, rfl, hbY, hy, rfl, hcl2, hr2⟩ := HL.out.2.fs.at hin
                              have g94 : ∀ op u v xs ys (w : World), (eqGuard op 94 u v (.agg xs) (.agg ys)).run Try.prog w = .ok () w := fun op u v xs ys w => run_eqGuard_agg w op 94 u v xs ys (by kernel_rfl)
                              have r1 := range_keep hr HB.out.1.2.2.2 (by have := HXY.out; omega : b1 < w.heap.size)
                              have r2 := range_keep hr2 HB.out.1.2.2.2 (by have := HXY.out; omega : b2 < w.heap.size)
                              have hS : (fun w' : World => w'.cell? ⟨w.heap.size, 2, .none⟩ = some (.slice (some ⟨b1, o1, .none⟩) nf fc) ∧ w'.cell? ⟨w.heap.size + 1, 2, .none⟩ = some (.slice (some ⟨b2, o2, .none⟩) nf fc') ∧ w'.rangeAt b1 (o1 + i * 8) x.l ∧ w'.rangeAt b2 (o2 + i * 8) y.l) wr.drew := ⟨a1, b1', r1, r2⟩
                              have HD : Hid (AK w (lkL t1 (.slice pp np pc) (.slice (some ⟨b1, o1, .none⟩) nf fc) (.slice ip ni ic) (.slice qp nq qc) (.slice rp nr rc) (.slice lp nl lc) ti nx fr) (lkL t2 (.slice pp' np pc') (.slice (some ⟨b2, o2, .none⟩) nf fc') (.slice ip' ni ic') (.slice qp' nq qc') (.slice rp' nr' rc') (.slice lp' nl' lc') ti' nx' fr') wr.drew) := HB.out.1.step (Below.refl _ _).drew
                              have HX : Hid (L.files[i]? = some x ∧ M.files[i]? = some y) := ⟨hx, hy⟩
                              have HJ : Hid (∀ j, j < i → ∀ x y, L.files[j]? = some x → M.files[j]? = some y → cmF x y = true) := HB.out.2
                              clear hr hr2 hcl hcl2 hbX hbY hx hy HB
                              go_upto_region 13 with fail
                              clear a1 b1' r1 r2
                              refine region_set (fun w' => w'.cell? ⟨w.heap.size, 2, .none⟩ = some (.slice (some ⟨b1, o1, .none⟩) nf fc) ∧ w'.cell? ⟨w.heap.size + 1, 2, .none⟩ = some (.slice (some ⟨b2, o2, .none⟩) nf fc') ∧ w'.rangeAt b1 (o1 + i * 8) x.l ∧ w'.rangeAt b2 (o2 + i * 8) y.l) 10 [0, 5, 2, 7] (by kernel_rfl) ?_
                              refine set_pure (i := 0) (v := .pointer (some ⟨w.heap.size, 2, .none⟩)) rfl (by kernel_rfl) (by kernel_rfl) (by kernel_rfl) (by kernel_rfl) (fun _ _ _ h => h) (Or.inl ⟨by rfl, fun ww hSw => by go_simp⟩) ?_
                              simp only [Act.put, List.setIfInBounds_toArray, List.set_cons_zero, List.set_cons_succ, List.getElem_toArray, List.getElem_cons_succ, List.getElem_cons_zero]
                              refine set_pure (i := 2) (v := .int .i64 i) rfl (by kernel_rfl) (by kernel_rfl) (by kernel_rfl) (by kernel_rfl) (fun _ _ _ h => h) (Or.inl ⟨by rfl, fun ww hSw => by go_simp⟩) ?_
                              simp only [Act.put, List.setIfInBounds_toArray, List.set_cons_zero, List.set_cons_succ, List.getElem_toArray, List.getElem_cons_succ, List.getElem_cons_zero]
                              refine set_pure (i := 5) (v := .pointer (some ⟨w.heap.size + 1, 2, .none⟩)) rfl (by kernel_rfl) (by kernel_rfl) (by kernel_rfl) (by kernel_rfl) (fun _ _ _ h => h) (Or.inl ⟨by rfl, fun ww hSw => by go_simp⟩) ?_
                              simp only [Act.put, List.setIfInBounds_toArray, List.set_cons_zero, List.set_cons_succ, List.getElem_toArray, List.getElem_cons_succ, List.getElem_cons_zero]
                              refine set_pure (i := 7) (v := .int .i64 i) rfl (by kernel_rfl) (by kernel_rfl) (by kernel_rfl) (by kernel_rfl) (fun _ _ _ h => h) (Or.inl ⟨by rfl, fun ww hSw => by go_simp⟩) ?_
                              simp only [Act.put, List.setIfInBounds_toArray, List.set_cons_zero, List.set_cons_succ, List.getElem_toArray, List.getElem_cons_succ, List.getElem_cons_zero]
                              refine set_take (i := 1) (v := .slice (some ⟨b1, o1, .none⟩) nf fc) rfl (by kernel_rfl) (by kernel_rfl) (by kernel_rfl) (by kernel_rfl) (fun _ _ _ h => h) (Or.inl ⟨by rfl, fun ww hSw => by obtain ⟨hs1, hs2, hs3, hs4⟩ := hSw; go_simp⟩) hS ?_
                              simp only [Act.put, List.setIfInBounds_toArray, List.set_cons_zero, List.set_cons_succ, List.getElem_toArray, List.getElem_cons_succ, List.getElem_cons_zero]
                              refine set_take (i := 3) (v := .pointer (some ⟨b1, o1 + i * 8, .none⟩)) rfl (by kernel_rfl) (by kernel_rfl) (by kernel_rfl) (by kernel_rfl) (fun _ _ _ h => h) (Or.inl ⟨by rfl, fun ww hSw => by obtain ⟨hs1, hs2, hs3, hs4⟩ := hSw; go_simp⟩) hS ?_
                              simp only [Act.put, List.setIfInBounds_toArray, List.set_cons_zero, List.set_cons_succ, List.getElem_toArray, List.getElem_cons_succ, List.getElem_cons_zero]
                              refine set_take (i := 4) (v := .agg (x.l).toArray) rfl (by kernel_rfl) (by kernel_rfl) (by kernel_rfl) (by kernel_rfl) (fun _ _ _ h => h) (yieldsIf_load_mid (by rfl) 94 (.tmp 111) rfl (b1) (o1 + i * 8) rfl (x.l) _ (fun ww hSw => hSw.2.2.1) Try.underlying94 rfl (by first | kernel_rfl | (rw [rfl]; kernel_rfl))) hS ?_
                              simp only [Act.put, List.setIfInBounds_toArray, List.set_cons_zero, List.set_cons_succ, List.getElem_toArray, List.getElem_cons_succ, List.getElem_cons_zero]
                              refine set_take (i := 6) (v := .slice (some ⟨b2, o2, .none⟩) nf fc') rfl (by kernel_rfl) (by kernel_rfl) (by kernel_rfl) (by kernel_rfl) (fun _ _ _ h => h) (Or.inl ⟨by rfl, fun ww hSw => by obtain ⟨hs1, hs2, hs3, hs4⟩ := hSw; go_simp⟩) hS ?_
                              simp only [Act.put, List.setIfInBounds_toArray, List.set_cons_zero, List.set_cons_succ, List.getElem_toArray, List.getElem_cons_succ, List.getElem_cons_zero]
                              refine set_take (i := 8) (v := .pointer (some ⟨b2, o2 + i * 8, .none⟩)) rfl (by kernel_rfl) (by kernel_rfl) (by kernel_rfl) (by kernel_rfl) (fun _ _ _ h => h) (Or.inl ⟨by rfl, fun ww hSw => by obtain ⟨hs1, hs2, hs3, hs4⟩ := hSw; go_simp⟩) hS ?_
                              simp only [Act.put, List.setIfInBounds_toArray, List.set_cons_zero, List.set_cons_succ, List.getElem_toArray, List.getElem_cons_succ, List.getElem_cons_zero]
                              refine set_take (i := 9) (v := .agg (y.l).toArray) rfl (by kernel_rfl) (by kernel_rfl) (by kernel_rfl) (by kernel_rfl) (fun _ _ _ h => h) (yieldsIf_load_mid (by rfl) 94 (.tmp 116) rfl (b2) (o2 + i * 8) rfl (y.l) _ (fun ww hSw => hSw.2.2.2) Try.underlying94 rfl (by first | kernel_rfl | (rw [rfl]; kernel_rfl))) hS ?_
                              simp only [Act.put, List.setIfInBounds_toArray, List.set_cons_zero, List.set_cons_succ, List.getElem_toArray, List.getElem_cons_succ, List.getElem_cons_zero]
                              refine set_tail 1 10 _ _ _ _ (by kernel_rfl) (by decide) ?_
                              simp only [List.toList_toArray, List.drop_succ_cons, List.drop_zero]
                              clear hS
                              generalize wr.drew = WD at *
                              have HE : Hid (AK w (lkL t1 (.slice pp np pc) (.slice (some ⟨b1, o1, .none⟩) nf fc) (.slice ip ni ic) (.slice qp nq qc) (.slice rp nr rc) (.slice lp nl lc) ti nx fr) (lkL t2 (.slice pp' np pc') (.slice (some ⟨b2, o2, .none⟩) nf fc') (.slice ip' ni ic') (.slice qp' nq qc') (.slice rp' nr' rc') (.slice lp' nl' lc') ti' nx' fr') WD) := HD.out
                              clear HD
                              cases hfb : cmF x y
                              · have q94 : ∀ w : World, (binOp .neq 94 (.agg x.l.toArray) (.agg y.l.toArray)).run Try.prog w = .ok (.bool true) w := fun w => by have := eqv_neq (eq_file 9997 x y) w; rw [show (((x.num == y.num) && ((x.kind == y.kind) && ((x.refs == y.refs) && ((x.rd == y.rd) && ((x.wr == y.wr) && ((x.ino == y.ino) && ((x.off == y.off) && ((x.pipe == y.pipe) && true)))))))) : Bool) = false from hfb] at this; exact this
                                have HR : Hid (cb = false) := HFF.out.2.1 (allB_false HX.out.1 HX.out.2 hfb)
                                clear hfb
                                go_wp2
                                go_ret
                                exact ⟨by rw [HR.out]; rfl, HE.out.2.2.2⟩
                              · have q94 : ∀ w : World, (binOp .neq 94 (.agg x.l.toArray) (.agg y.l.toArray)).run Try.prog w = .ok (.bool false) w := fun w => by have := eqv_neq (eq_file 9997 x y) w; rw [show (((x.num == y.num) && ((x.kind == y.kind) && ((x.refs == y.refs) && ((x.rd == y.rd) && ((x.wr == y.wr) && ((x.ino == y.ino) && ((x.off == y.off) && ((x.pipe == y.pipe) && true)))))))) : Bool) = true from hfb] at this; exact this
                                have HFB : Hid (cmF x y = true) := hfb
                                clear hfb
                                go_wp2
                                refine ⟨⟨i + 1, by omega, by go_num, HE.out, fun j hj a b ha hb => ?_⟩, by simp [intOf]; omega⟩
                                by_cases hji : j = i
                                · subst hji
                                  rw [HX.out.1] at ha
                                  rw [HX.out.2] at hb
                                  cases ha
                                  cases hb
                                  exact HFB.out
                                · exact HJ.out j (by omega) a b ha hb
                          · have hnn : i = nf := by omega
                            subst i
                            have g0 : ¬ (nf : Int) < nf := by omega
                            have HTf : Hid (allB cmF L.files M.files = true) := allB_true (by have := HN.out; omega) (fun k x y hx hy => HB.out.2 k (by have := (List.getElem?_eq_some_iff.1 hx).1; have := HN.out; omega) x y hx hy)
                            have HK : Hid (AK w (lkL t1 (.slice pp np pc) (.slice fp nf fc) (.slice ip ni ic) (.slice qp nq qc) (.slice rp nr rc) (.slice lp nl lc) ti nx fr) (lkL t2 (.slice pp' np pc') (.slice fp' nf fc') (.slice ip' ni ic') (.slice qp' nq qc') (.slice rp' nr' rc') (.slice lp' nl' lc') ti' nx' fr') wr) := HB.out.1
                            clear hi hin HB
                            go_wp2
                            clear a1 g0
                            go_loopw [7] (fun k wr => ∃ i : Nat, i ≤ ni ∧ k = .int .i64 i ∧ Hid (AK w (lkL t1 (.slice pp np pc) (.slice fp nf fc) (.slice ip ni ic) (.slice qp nq qc) (.slice rp nr rc) (.slice lp nl lc) ti nx fr) (lkL t2 (.slice pp' np pc') (.slice fp' nf fc') (.slice ip' ni ic') (.slice qp' nq qc') (.slice rp' nr' rc') (.slice lp' nl' lc') ti' nx' fr') wr ∧ ∀ j, j < i → ∀ x y, L.inos[j]? = some x → M.inos[j]? = some y → cmI x y = true)) (fun v _ => (ni - intOf v).toNat)
                            case atStart => exact ⟨0, by omega, rfl, HK.out, fun j h => by omega⟩
                            case round =>
                              clear HK
                              obtain ⟨i, hi, rfl, HB⟩ := hrel
                              have a1 := cell_heap (o := 3) HB.out.1.1
                              rw [show (lkL t1 (.slice pp np pc) (.slice fp nf fc) (.slice ip ni ic) (.slice qp nq qc) (.slice rp nr rc) (.slice lp nl lc) ti nx fr).toArray[3]? = some (.slice ip ni ic) from rfl] at a1
                              by_cases hin : i < ni
                              · as_aux_lemma =>
                                  have i1 : (i : Int) < ni := by omega
                                  have b1' := cell_heap (o := 3) HB.out.1.2.1
                                  rw [show (lkL t2 (.slice pp' np pc') (.slice fp' nf fc') (.slice ip' ni ic') (.slice qp' nq qc') (.slice rp' nr' rc') (.slice lp' nl' lc') ti' nx' fr').toArray[3]? = some (.slice ip' ni ic') from rfl] at b1'
                                  obtain ⟨-, b1, o1, x, cs, rfl, hbX, hx, ⟨nv, rfl, hN⟩, hcl, hr⟩ := HL.out.1.is.at hin
                                  obtain ⟨-, b2, o2, y, cs2, rfl, hbY, hy, ⟨nv2, rfl, hN2⟩, hcl2, hr2⟩ := HL.out.2.is.at hin
                                  obtain ⟨np1, nc1, rfl⟩ := hN.form
                                  obtain ⟨np2, nc2, rfl⟩ := hN2.form
                                  have HCC : Hid (∀ V, Below w.heap.size w V → Calls Try.prog 51 #[.agg (x.l (.slice np1 x.bl.length nc1)).toArray, .agg (y.l (.slice np2 y.bl.length nc2)).toArray] V fun e w' => e = .returned (.bool (cmI x y)) ∧ Below V.heap.size V w') := fun V hV => inode51_any x y np1 np2 nc1 nc2 V
                                  clear hN hN2
                                  have r1 := range_keep hr HB.out.1.2.2.2 (by have := HXY.out; omega : b1 < w.heap.size)
                                  have r2 := range_keep hr2 HB.out.1.2.2.2 (by have := HXY.out; omega : b2 < w.heap.size)
                                  have hS : (fun w' : World => w'.cell? ⟨w.heap.size, 3, .none⟩ = some (.slice (some ⟨b1, o1, .none⟩) ni ic) ∧ w'.cell? ⟨w.heap.size + 1, 3, .none⟩ = some (.slice (some ⟨b2, o2, .none⟩) ni ic') ∧ w'.rangeAt b1 (o1 + i * 8) (x.l (.slice np1 x.bl.length nc1)) ∧ w'.rangeAt b2 (o2 + i * 8) (y.l (.slice np2 y.bl.length nc2))) wr.drew := ⟨a1, b1', r1, r2⟩
                                  have HD : Hid (AK w (lkL t1 (.slice pp np pc) (.slice fp nf fc) (.slice (some ⟨b1, o1, .none⟩) ni ic) (.slice qp nq qc) (.slice rp nr rc) (.slice lp nl lc) ti nx fr) (lkL t2 (.slice pp' np pc') (.slice fp' nf fc') (.slice (some ⟨b2, o2, .none⟩) ni ic') (.slice qp' nq qc') (.slice rp' nr' rc') (.slice lp' nl' lc') ti' nx' fr') wr.drew) := HB.out.1.step (Below.refl _ _).drew
                                  have HX : Hid (L.inos[i]? = some x ∧ M.inos[i]? = some y) := ⟨hx, hy⟩
                                  have HJ : Hid (∀ j, j < i → ∀ x y, L.inos[j]? = some x → M.inos[j]? = some y → cmI x y = true) := HB.out.2
                                  clear hr hr2 hcl hcl2 hbX hbY hx hy HB
                                  go_upto_region 18 with fail
                                  clear a1 b1' r1 r2
                                  refine region_set (fun w' => w'.cell? ⟨w.heap.size, 3, .none⟩ = some (.slice (some ⟨b1, o1, .none⟩) ni ic) ∧ w'.cell? ⟨w.heap.size + 1, 3, .none⟩ = some (.slice (some ⟨b2, o2, .none⟩) ni ic') ∧ w'.rangeAt b1 (o1 + i * 8) (x.l (.slice np1 x.bl.length nc1)) ∧ w'.rangeAt b2 (o2 + i * 8) (y.l (.slice np2 y.bl.length nc2))) 10 [0, 5, 2, 7] (by kernel_rfl) ?_
                                  refine set_pure (i := 0) (v := .pointer (some ⟨w.heap.size, 3, .none⟩)) rfl (by kernel_rfl) (by kernel_rfl) (by kernel_rfl) (by kernel_rfl) (fun _ _ _ h => h) (Or.inl ⟨by rfl, fun ww hSw => by go_simp⟩) ?_
                                  simp only [Act.put, List.setIfInBounds_toArray, List.set_cons_zero, List.set_cons_succ, List.getElem_toArray, List.getElem_cons_succ, List.getElem_cons_zero]
                                  refine set_pure (i := 2) (v := .int .i64 i) rfl (by kernel_rfl) (by kernel_rfl) (by kernel_rfl) (by kernel_rfl) (fun _ _ _ h => h) (Or.inl ⟨by rfl, fun ww hSw => by go_simp⟩) ?_
                                  simp only [Act.put, List.setIfInBounds_toArray, List.set_cons_zero, List.set_cons_succ, List.getElem_toArray, List.getElem_cons_succ, List.getElem_cons_zero]
                                  refine set_pure (i := 5) (v := .pointer (some ⟨w.heap.size + 1, 3, .none⟩)) rfl (by kernel_rfl) (by kernel_rfl) (by kernel_rfl) (by kernel_rfl) (fun _ _ _ h => h) (Or.inl ⟨by rfl, fun ww hSw => by go_simp⟩) ?_
                                  simp only [Act.put, List.setIfInBounds_toArray, List.set_cons_zero, List.set_cons_succ, List.getElem_toArray, List.getElem_cons_succ, List.getElem_cons_zero]
                                  refine set_pure (i := 7) (v := .int .i64 i) rfl (by kernel_rfl) (by kernel_rfl) (by kernel_rfl) (by kernel_rfl) (fun _ _ _ h => h) (Or.inl ⟨by rfl, fun ww hSw => by go_simp⟩) ?_
                                  simp only [Act.put, List.setIfInBounds_toArray, List.set_cons_zero, List.set_cons_succ, List.getElem_toArray, List.getElem_cons_succ, List.getElem_cons_zero]
                                  refine set_take (i := 1) (v := .slice (some ⟨b1, o1, .none⟩) ni ic) rfl (by kernel_rfl) (by kernel_rfl) (by kernel_rfl) (by kernel_rfl) (fun _ _ _ h => h) (Or.inl ⟨by rfl, fun ww hSw => by obtain ⟨hs1, hs2, hs3, hs4⟩ := hSw; go_simp⟩) hS ?_
                                  simp only [Act.put, List.setIfInBounds_toArray, List.set_cons_zero, List.set_cons_succ, List.getElem_toArray, List.getElem_cons_succ, List.getElem_cons_zero]
                                  refine set_take (i := 3) (v := .pointer (some ⟨b1, o1 + i * 8, .none⟩)) rfl (by kernel_rfl) (by kernel_rfl) (by kernel_rfl) (by kernel_rfl) (fun _ _ _ h => h) (Or.inl ⟨by rfl, fun ww hSw => by obtain ⟨hs1, hs2, hs3, hs4⟩ := hSw; go_simp⟩) hS ?_
                                  simp only [Act.put, List.setIfInBounds_toArray, List.set_cons_zero, List.set_cons_succ, List.getElem_toArray, List.getElem_cons_succ, List.getElem_cons_zero]
                                  refine set_take (i := 4) (v := .agg ((x.l (.slice np1 x.bl.length nc1))).toArray) rfl (by kernel_rfl) (by kernel_rfl) (by kernel_rfl) (by kernel_rfl) (fun _ _ _ h => h) (yieldsIf_load_mid (by rfl) 66 (.tmp 129) rfl (b1) (o1 + i * 8) rfl ((x.l (.slice np1 x.bl.length nc1))) _ (fun ww hSw => hSw.2.2.1) Try.underlying66 rfl (by first | kernel_rfl | (rw [rfl]; kernel_rfl))) hS ?_
                                  simp only [Act.put, List.setIfInBounds_toArray, List.set_cons_zero, List.set_cons_succ, List.getElem_toArray, List.getElem_cons_succ, List.getElem_cons_zero]
                                  refine set_take (i := 6) (v := .slice (some ⟨b2, o2, .none⟩) ni ic') rfl (by kernel_rfl) (by kernel_rfl) (by kernel_rfl) (by kernel_rfl) (fun _ _ _ h => h) (Or.inl ⟨by rfl, fun ww hSw => by obtain ⟨hs1, hs2, hs3, hs4⟩ := hSw; go_simp⟩) hS ?_
                                  simp only [Act.put, List.setIfInBounds_toArray, List.set_cons_zero, List.set_cons_succ, List.getElem_toArray, List.getElem_cons_succ, List.getElem_cons_zero]
                                  refine set_take (i := 8) (v := .pointer (some ⟨b2, o2 + i * 8, .none⟩)) rfl (by kernel_rfl) (by kernel_rfl) (by kernel_rfl) (by kernel_rfl) (fun _ _ _ h => h) (Or.inl ⟨by rfl, fun ww hSw => by obtain ⟨hs1, hs2, hs3, hs4⟩ := hSw; go_simp⟩) hS ?_
                                  simp only [Act.put, List.setIfInBounds_toArray, List.set_cons_zero, List.set_cons_succ, List.getElem_toArray, List.getElem_cons_succ, List.getElem_cons_zero]
                                  refine set_take (i := 9) (v := .agg ((y.l (.slice np2 y.bl.length nc2))).toArray) rfl (by kernel_rfl) (by kernel_rfl) (by kernel_rfl) (by kernel_rfl) (fun _ _ _ h => h) (yieldsIf_load_mid (by rfl) 66 (.tmp 134) rfl (b2) (o2 + i * 8) rfl ((y.l (.slice np2 y.bl.length nc2))) _ (fun ww hSw => hSw.2.2.2) Try.underlying66 rfl (by first | kernel_rfl | (rw [rfl]; kernel_rfl))) hS ?_
                                  simp only [Act.put, List.setIfInBounds_toArray, List.set_cons_zero, List.set_cons_succ, List.getElem_toArray, List.getElem_cons_succ, List.getElem_cons_zero]
                                  refine set_tail 2 10 _ _ _ _ (by kernel_rfl) (by decide) ?_
                                  simp only [List.toList_toArray, List.drop_succ_cons, List.drop_zero]
                                  clear hS
                                  generalize wr.drew = WD at *
                                  go_wp2_with fail
                                  go_at_call 51
                                  refine (HCC.out _ HD.out.2.2.2).mono ?_
                                  rintro e W7 ⟨rfl, hB7⟩
                                  have HE : Hid (AK w (lkL t1 (.slice pp np pc) (.slice fp nf fc) (.slice (some ⟨b1, o1, .none⟩) ni ic) (.slice qp nq qc) (.slice rp nr rc) (.slice lp nl lc) ti nx fr) (lkL t2 (.slice pp' np pc') (.slice fp' nf fc') (.slice (some ⟨b2, o2, .none⟩) ni ic') (.slice qp' nq qc') (.slice rp' nr' rc') (.slice lp' nl' lc') ti' nx' fr') W7) := HD.out.step hB7
                                  clear hB7 HD HCC
                                  cases hfb : cmI x y
                                  · skip
                                    have HR : Hid (cb = false) := HFF.out.2.2.1 (allB_false HX.out.1 HX.out.2 hfb)
                                    clear hfb
                                    go_wp2
                                    go_ret
                                    exact ⟨by rw [HR.out]; rfl, HE.out.2.2.2⟩
                                  · skip
                                    have HFB : Hid (cmI x y = true) := hfb
                                    clear hfb
                                    go_wp2
                                    refine ⟨⟨i + 1, by omega, by go_num, HE.out, fun j hj a b ha hb => ?_⟩, by simp [intOf]; omega⟩
                                    by_cases hji : j = i
                                    · subst hji
                                      rw [HX.out.1] at ha
                                      rw [HX.out.2] at hb
                                      cases ha
                                      cases hb
                                      exact HFB.out
                                    · exact HJ.out j (by omega) a b ha hb
                              · have hnn : i = ni := by omega
                                subst i
                                have g0 : ¬ (ni : Int) < ni := by omega
                                have HTi : Hid (allB cmI L.inos M.inos = true) := allB_true (by have := HN.out; omega) (fun k x y hx hy => HB.out.2 k (by have := (List.getElem?_eq_some_iff.1 hx).1; have := HN.out; omega) x y hx hy)
                                have HK : Hid (AK w (lkL t1 (.slice pp np pc) (.slice fp nf fc) (.slice ip ni ic) (.slice qp nq qc) (.slice rp nr rc) (.slice lp nl lc) ti nx fr) (lkL t2 (.slice pp' np pc') (.slice fp' nf fc') (.slice ip' ni ic') (.slice qp' nq qc') (.slice rp' nr' rc') (.slice lp' nl' lc') ti' nx' fr') wr) := HB.out.1
                                clear hi hin HB
                                go_wp2
                                clear a1 g0
                                go_loopw [8] (fun k wr => ∃ i : Nat, i ≤ nq ∧ k = .int .i64 i ∧ Hid (AK w (lkL t1 (.slice pp np pc) (.slice fp nf fc) (.slice ip ni ic) (.slice qp nq qc) (.slice rp nr rc) (.slice lp nl lc) ti nx fr) (lkL t2 (.slice pp' np pc') (.slice fp' nf fc') (.slice ip' ni ic') (.slice qp' nq qc') (.slice rp' nr' rc') (.slice lp' nl' lc') ti' nx' fr') wr ∧ ∀ j, j < i → ∀ x y, L.pipes[j]? = some x → M.pipes[j]? = some y → cmQ x y = true)) (fun v _ => (nq - intOf v).toNat)
                                case atStart => exact ⟨0, by omega, rfl, HK.out, fun j h => by omega⟩
                                case round =>
                                  clear HK
                                  obtain ⟨i, hi, rfl, HB⟩ := hrel
                                  have a1 := cell_heap (o := 4) HB.out.1.1
                                  rw [show (lkL t1 (.slice pp np pc) (.slice fp nf fc) (.slice ip ni ic) (.slice qp nq qc) (.slice rp nr rc) (.slice lp nl lc) ti nx fr).toArray[4]? = some (.slice qp nq qc) from rfl] at a1
                                  by_cases hin : i < nq
                                  · as_aux_lemma =>
                                      have i1 : (i : Int) < nq := by omega
                                      have b1' := cell_heap (o := 4) HB.out.1.2.1
                                      rw [show (lkL t2 (.slice pp' np pc') (.slice fp' nf fc') (.slice ip' ni ic') (.slice qp' nq qc') (.slice rp' nr' rc') (.slice lp' nl' lc') ti' nx' fr').toArray[4]? = some (.slice qp' nq qc') from rfl] at b1'
                                      obtain ⟨-, b1, o1, x, cs, rfl, hbX, hx, ⟨nv, rfl, hN⟩, hcl, hr⟩ := HL.out.1.qs.at hin
                                      obtain ⟨-, b2, o2, y, cs2, rfl, hbY, hy, ⟨nv2, rfl, hN2⟩, hcl2, hr2⟩ := HL.out.2.qs.at hin
                                      obtain ⟨np1, nc1, rfl⟩ := hN.form
                                      obtain ⟨np2, nc2, rfl⟩ := hN2.form
                                      have HCC : Hid (∀ V, Below w.heap.size w V → Calls Try.prog 52 #[.agg (x.l (.slice np1 x.bs.length nc1)).toArray, .agg (y.l (.slice np2 y.bs.length nc2)).toArray] V fun e w' => e = .returned (.bool (cmQ x y)) ∧ Below V.heap.size V w') := fun V hV => pipe52_any (Nat.le_trans HXY.out.1 hV.size) (Nat.le_trans HXY.out.2 hV.size) x y np1 np2 nc1 nc2 (Wd.keep hN (Nat.le_refl _) (hV.mono HXY.out.1)) (Wd.keep hN2 (Nat.le_refl _) (hV.mono HXY.out.2)) (HCB.out.1.qb x (List.mem_of_getElem? hx)) (HCB.out.2.qb y (List.mem_of_getElem? hy))
                                      clear hN hN2
                                      have r1 := range_keep hr HB.out.1.2.2.2 (by have := HXY.out; omega : b1 < w.heap.size)
                                      have r2 := range_keep hr2 HB.out.1.2.2.2 (by have := HXY.out; omega : b2 < w.heap.size)
                                      have hS : (fun w' : World => w'.cell? ⟨w.heap.size, 4, .none⟩ = some (.slice (some ⟨b1, o1, .none⟩) nq qc) ∧ w'.cell? ⟨w.heap.size + 1, 4, .none⟩ = some (.slice (some ⟨b2, o2, .none⟩) nq qc') ∧ w'.rangeAt b1 (o1 + i * 6) (x.l (.slice np1 x.bs.length nc1)) ∧ w'.rangeAt b2 (o2 + i * 6) (y.l (.slice np2 y.bs.length nc2))) wr.drew := ⟨a1, b1', r1, r2⟩
                                      have HD : Hid (AK w (lkL t1 (.slice pp np pc) (.slice fp nf fc) (.slice ip ni ic) (.slice (some ⟨b1, o1, .none⟩) nq qc) (.slice rp nr rc) (.slice lp nl lc) ti nx fr) (lkL t2 (.slice pp' np pc') (.slice fp' nf fc') (.slice ip' ni ic') (.slice (some ⟨b2, o2, .none⟩) nq qc') (.slice rp' nr' rc') (.slice lp' nl' lc') ti' nx' fr') wr.drew) := HB.out.1.step (Below.refl _ _).drew
                                      have HX : Hid (L.pipes[i]? = some x ∧ M.pipes[i]? = some y) := ⟨hx, hy⟩
                                      have HJ : Hid (∀ j, j < i → ∀ x y, L.pipes[j]? = some x → M.pipes[j]? = some y → cmQ x y = true) := HB.out.2
                                      clear hr hr2 hcl hcl2 hbX hbY hx hy HB
                                      go_upto_region 23 with fail
                                      clear a1 b1' r1 r2
                                      refine region_set (fun w' => w'.cell? ⟨w.heap.size, 4, .none⟩ = some (.slice (some ⟨b1, o1, .none⟩) nq qc) ∧ w'.cell? ⟨w.heap.size + 1, 4, .none⟩ = some (.slice (some ⟨b2, o2, .none⟩) nq qc') ∧ w'.rangeAt b1 (o1 + i * 6) (x.l (.slice np1 x.bs.length nc1)) ∧ w'.rangeAt b2 (o2 + i * 6) (y.l (.slice np2 y.bs.length nc2))) 10 [0, 5, 2, 7] (by kernel_rfl) ?_
                                      refine set_pure (i := 0) (v := .pointer (some ⟨w.heap.size, 4, .none⟩)) rfl (by kernel_rfl) (by kernel_rfl) (by kernel_rfl) (by kernel_rfl) (fun _ _ _ h => h) (Or.inl ⟨by rfl, fun ww hSw => by go_simp⟩) ?_
                                      simp only [Act.put, List.setIfInBounds_toArray, List.set_cons_zero, List.set_cons_succ, List.getElem_toArray, List.getElem_cons_succ, List.getElem_cons_zero]
                                      refine set_pure (i := 2) (v := .int .i64 i) rfl (by kernel_rfl) (by kernel_rfl) (by kernel_rfl) (by kernel_rfl) (fun _ _ _ h => h) (Or.inl ⟨by rfl, fun ww hSw => by go_simp⟩) ?_
                                      simp only [Act.put, List.setIfInBounds_toArray, List.set_cons_zero, List.set_cons_succ, List.getElem_toArray, List.getElem_cons_succ, List.getElem_cons_zero]
                                      refine set_pure (i := 5) (v := .pointer (some ⟨w.heap.size + 1, 4, .none⟩)) rfl (by kernel_rfl) (by kernel_rfl) (by kernel_rfl) (by kernel_rfl) (fun _ _ _ h => h) (Or.inl ⟨by rfl, fun ww hSw => by go_simp⟩) ?_
                                      simp only [Act.put, List.setIfInBounds_toArray, List.set_cons_zero, List.set_cons_succ, List.getElem_toArray, List.getElem_cons_succ, List.getElem_cons_zero]
                                      refine set_pure (i := 7) (v := .int .i64 i) rfl (by kernel_rfl) (by kernel_rfl) (by kernel_rfl) (by kernel_rfl) (fun _ _ _ h => h) (Or.inl ⟨by rfl, fun ww hSw => by go_simp⟩) ?_
                                      simp only [Act.put, List.setIfInBounds_toArray, List.set_cons_zero, List.set_cons_succ, List.getElem_toArray, List.getElem_cons_succ, List.getElem_cons_zero]
                                      refine set_take (i := 1) (v := .slice (some ⟨b1, o1, .none⟩) nq qc) rfl (by kernel_rfl) (by kernel_rfl) (by kernel_rfl) (by kernel_rfl) (fun _ _ _ h => h) (Or.inl ⟨by rfl, fun ww hSw => by obtain ⟨hs1, hs2, hs3, hs4⟩ := hSw; go_simp⟩) hS ?_
                                      simp only [Act.put, List.setIfInBounds_toArray, List.set_cons_zero, List.set_cons_succ, List.getElem_toArray, List.getElem_cons_succ, List.getElem_cons_zero]
                                      refine set_take (i := 3) (v := .pointer (some ⟨b1, o1 + i * 6, .none⟩)) rfl (by kernel_rfl) (by kernel_rfl) (by kernel_rfl) (by kernel_rfl) (fun _ _ _ h => h) (Or.inl ⟨by rfl, fun ww hSw => by obtain ⟨hs1, hs2, hs3, hs4⟩ := hSw; go_simp⟩) hS ?_
                                      simp only [Act.put, List.setIfInBounds_toArray, List.set_cons_zero, List.set_cons_succ, List.getElem_toArray, List.getElem_cons_succ, List.getElem_cons_zero]
                                      refine set_take (i := 4) (v := .agg ((x.l (.slice np1 x.bs.length nc1))).toArray) rfl (by kernel_rfl) (by kernel_rfl) (by kernel_rfl) (by kernel_rfl) (fun _ _ _ h => h) (yieldsIf_load_mid (by rfl) 98 (.tmp 148) rfl (b1) (o1 + i * 6) rfl ((x.l (.slice np1 x.bs.length nc1))) _ (fun ww hSw => hSw.2.2.1) Try.underlying98 rfl (by first | kernel_rfl | (rw [rfl]; kernel_rfl))) hS ?_
                                      simp only [Act.put, List.setIfInBounds_toArray, List.set_cons_zero, List.set_cons_succ, List.getElem_toArray, List.getElem_cons_succ, List.getElem_cons_zero]
                                      refine set_take (i := 6) (v := .slice (some ⟨b2, o2, .none⟩) nq qc') rfl (by kernel_rfl) (by kernel_rfl) (by kernel_rfl) (by kernel_rfl) (fun _ _ _ h => h) (Or.inl ⟨by rfl, fun ww hSw => by obtain ⟨hs1, hs2, hs3, hs4⟩ := hSw; go_simp⟩) hS ?_
                                      simp only [Act.put, List.setIfInBounds_toArray, List.set_cons_zero, List.set_cons_succ, List.getElem_toArray, List.getElem_cons_succ, List.getElem_cons_zero]
                                      refine set_take (i := 8) (v := .pointer (some ⟨b2, o2 + i * 6, .none⟩)) rfl (by kernel_rfl) (by kernel_rfl) (by kernel_rfl) (by kernel_rfl) (fun _ _ _ h => h) (Or.inl ⟨by rfl, fun ww hSw => by obtain ⟨hs1, hs2, hs3, hs4⟩ := hSw; go_simp⟩) hS ?_
                                      simp only [Act.put, List.setIfInBounds_toArray, List.set_cons_zero, List.set_cons_succ, List.getElem_toArray, List.getElem_cons_succ, List.getElem_cons_zero]
                                      refine set_take (i := 9) (v := .agg ((y.l (.slice np2 y.bs.length nc2))).toArray) rfl (by kernel_rfl) (by kernel_rfl) (by kernel_rfl) (by kernel_rfl) (fun _ _ _ h => h) (yieldsIf_load_mid (by rfl) 98 (.tmp 153) rfl (b2) (o2 + i * 6) rfl ((y.l (.slice np2 y.bs.length nc2))) _ (fun ww hSw => hSw.2.2.2) Try.underlying98 rfl (by first | kernel_rfl | (rw [rfl]; kernel_rfl))) hS ?_
                                      simp only [Act.put, List.setIfInBounds_toArray, List.set_cons_zero, List.set_cons_succ, List.getElem_toArray, List.getElem_cons_succ, List.getElem_cons_zero]
                                      refine set_tail 2 10 _ _ _ _ (by kernel_rfl) (by decide) ?_
                                      simp only [List.toList_toArray, List.drop_succ_cons, List.drop_zero]
                                      clear hS
                                      generalize wr.drew = WD at *
                                      go_wp2_with fail
                                      go_at_call 52
                                      refine (HCC.out _ HD.out.2.2.2).mono ?_
                                      rintro e W7 ⟨rfl, hB7⟩
                                      have HE : Hid (AK w (lkL t1 (.slice pp np pc) (.slice fp nf fc) (.slice ip ni ic) (.slice (some ⟨b1, o1, .none⟩) nq qc) (.slice rp nr rc) (.slice lp nl lc) ti nx fr) (lkL t2 (.slice pp' np pc') (.slice fp' nf fc') (.slice ip' ni ic') (.slice (some ⟨b2, o2, .none⟩) nq qc') (.slice rp' nr' rc') (.slice lp' nl' lc') ti' nx' fr') W7) := HD.out.step hB7
                                      clear hB7 HD HCC
                                      cases hfb : cmQ x y
                                      · skip
                                        have HR : Hid (cb = false) := HFF.out.2.2.2.1 (allB_false HX.out.1 HX.out.2 hfb)
                                        clear hfb
                                        go_wp2
                                        go_ret
                                        exact ⟨by rw [HR.out]; rfl, HE.out.2.2.2⟩
                                      · skip
                                        have HFB : Hid (cmQ x y = true) := hfb
                                        clear hfb
                                        go_wp2
                                        refine ⟨⟨i + 1, by omega, by go_num, HE.out, fun j hj a b ha hb => ?_⟩, by simp [intOf]; omega⟩
                                        by_cases hji : j = i
                                        · subst hji
                                          rw [HX.out.1] at ha
                                          rw [HX.out.2] at hb
                                          cases ha
                                          cases hb
                                          exact HFB.out
                                        · exact HJ.out j (by omega) a b ha hb
                                  · have hnn : i = nq := by omega
                                    subst i
                                    have g0 : ¬ (nq : Int) < nq := by omega
                                    have HTq : Hid (allB cmQ L.pipes M.pipes = true) := allB_true (by have := HN.out; omega) (fun k x y hx hy => HB.out.2 k (by have := (List.getElem?_eq_some_iff.1 hx).1; have := HN.out; omega) x y hx hy)
                                    have HK : Hid (AK w (lkL t1 (.slice pp np pc) (.slice fp nf fc) (.slice ip ni ic) (.slice qp nq qc) (.slice rp nr rc) (.slice lp nl lc) ti nx fr) (lkL t2 (.slice pp' np pc') (.slice fp' nf fc') (.slice ip' ni ic') (.slice qp' nq qc') (.slice rp' nr' rc') (.slice lp' nl' lc') ti' nx' fr') wr) := HB.out.1
                                    clear hi hin HB
                                    go_wp2
                                    clear a1 g0
                                    go_ret
                                    exact ⟨by rw [HAA.out HTN.out.1 HTN.out.2.1 HTN.out.2.2 HTp.out HTf.out HTi.out HTq.out HTr.out HTl.out]; rfl, HK.out.2.2.2⟩
end Go.Proofs.Ythopgmmodldljaa
