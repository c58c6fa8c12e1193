import Derived.Test.YthopgmmodldljabCh
import Derived.Test.YthopgmmodldljabBb
namespace Go.Proofs.Ythopgmmodldljab
open Go Go.RowKit
set_option linter.unusedVariables false
set_option linter.unusedSimpArgs false
def AK (w : World) (A B : List Value) (wr : World) : Prop := wr.heap[w.heap.size]? = some (.cells A.toArray 31) ∧ wr.heap[w.heap.size + 1]? = some (.cells B.toArray 31) ∧ w.heap.size + 2 ≤ wr.heap.size ∧ Below w.heap.size w wr
theorem AK.step {w wr wr' : World} {A B : List Value} (h : AK w A B wr) (hb : Below wr.heap.size wr wr') : AK w A B wr' :=
 ⟨(hb.block _ (by have := h.2.2.1; omega)).trans h.1, (hb.block _ (by have := h.2.2.1; omega)).trans h.2.1, Nat.le_trans h.2.2.1 hb.size, h.2.2.2.trans (hb.mono (by have := h.2.2.1; omega))⟩
set_option maxRecDepth 100000 in
set_option maxHeartbeats 2000000 in
theorem alike_eq {w : World} {X Y : Nat} {pv fv iv qv rv lv pv' fv' iv' qv' rv' lv' : Value} {L : Lk} (t t' : Int) (h1 : LkW w X pv fv iv qv rv lv L) (h2 : LkW w Y pv' fv' iv' qv' rv' lv' L) (hX : X ≤ w.heap.size) (hY : Y ≤ w.heap.size) (hr : L.ready.length ≤ 10000000) (hl : L.line.length ≤ 10000000) (hPG : ∀ x ∈ L.procs, x.pages.length ≤ 10000000) (hPB : ∀ x ∈ L.pipes, x.bs.length ≤ 10000000) (hBS : L.procs.length ≤ 1048576 ∧ L.files.length ≤ 1048576 ∧ L.inos.length ≤ 1048576 ∧ L.pipes.length ≤ 1048576) :
  Calls Try.prog 25 #[.agg (lkL t pv fv iv qv rv lv L.ticks L.next L.free).toArray, .agg (lkL t' pv' fv' iv' qv' rv' lv' L.ticks L.next L.free).toArray] w fun e w' => e = .returned (.bool true) ∧ Below w.heap.size w w' := by
 have HL : Hid (LkW w X pv fv iv qv rv lv L ∧ LkW w Y pv' fv' iv' qv' rv' lv' L ∧ L.ready.length ≤ 10000000 ∧ L.line.length ≤ 10000000) := ⟨h1, h2, hr, hl⟩
 obtain ⟨pp, pc, rfl⟩ := h1.ps.form
 obtain ⟨fp, fc, rfl⟩ := h1.fs.form
 obtain ⟨ip, ic, rfl⟩ := h1.is.form
 obtain ⟨qp, qc, rfl⟩ := h1.qs.form
 obtain ⟨pp', pc', rfl⟩ := h2.ps.form
 obtain ⟨fp', fc', rfl⟩ := h2.fs.form
 obtain ⟨ip', ic', rfl⟩ := h2.is.form
 obtain ⟨qp', qc', rfl⟩ := h2.qs.form
 obtain ⟨rp, rc, rfl⟩ := h1.rd.form
 obtain ⟨rp', rc', rfl⟩ := h2.rd.form
 obtain ⟨lp, lc, rfl⟩ := h1.ln.form
 obtain ⟨lp', lc', rfl⟩ := h2.ln.form
 clear h1 h2 hr hl
 obtain ⟨np, hnp⟩ : ∃ n, n = L.procs.length := ⟨_, rfl⟩
 obtain ⟨nf, hnf⟩ : ∃ n, n = L.files.length := ⟨_, rfl⟩
 obtain ⟨ni, hni⟩ : ∃ n, n = L.inos.length := ⟨_, rfl⟩
 obtain ⟨nq, hnq⟩ : ∃ n, n = L.pipes.length := ⟨_, rfl⟩
 obtain ⟨nr, hnr⟩ : ∃ n, n = L.ready.length := ⟨_, rfl⟩
 obtain ⟨nl, hnl⟩ : ∃ n, n = L.line.length := ⟨_, rfl⟩
 obtain ⟨ti, hti⟩ : ∃ n, n = L.ticks := ⟨_, rfl⟩
 obtain ⟨nx, hnx⟩ : ∃ n, n = L.next := ⟨_, rfl⟩
 obtain ⟨fr, hfr⟩ : ∃ n, n = L.free := ⟨_, rfl⟩
 rw [← hnp, ← hnf, ← hni, ← hnq, ← hnr, ← hnl] at HL
 rw [← hnp, ← hnf, ← hni, ← hnq, ← hnr, ← hnl, ← hti, ← hnx, ← hfr]
 obtain ⟨bs1, bs2, bs3, bs4⟩ := hBS
 have HN : Hid (np = L.procs.length ∧ nf = L.files.length ∧ ni = L.inos.length ∧ nq = L.pipes.length) := ⟨hnp, hnf, hni, hnq⟩
 have bnp : np ≤ 1048576 := by omega
 have bnf : nf ≤ 1048576 := by omega
 have bni : ni ≤ 1048576 := by omega
 have bnq : nq ≤ 1048576 := by omega
 clear bs1 bs2 bs3 bs4 hnp hnf hni hnq hnr hnl hti hnx hfr
 go_enter Try.func25, Try.ntmps25
 go_wp2_with (first
  | (refine wpList_is (.box 31 (.tmp 0)) rfl ?_; refine wpList_boxG 31 (lkL t (.slice pp np pc) (.slice fp nf fc) (.slice ip ni ic) (.slice qp nq qc) (.slice rp nr rc) (.slice lp nl lc) ti nx fr) 2 (.tmp 0) _ rfl rfl rfl rfl ?_; intro W1 hW1 hB1 hs1)
  | (refine wpList_is (.box 31 (.tmp 1)) rfl ?_; refine wpList_boxG 31 (lkL t' (.slice pp' np pc') (.slice fp' nf fc') (.slice ip' ni ic') (.slice qp' nq qc') (.slice rp' nr rc') (.slice lp' nl lc') ti nx fr) 3 (.tmp 1) _ rfl rfl rfl rfl ?_; intro W2 hW2 hB2 hs2; rw [hs1] at hW2 hs2; have hW3 := (hB2.block _ (by omega)).trans hW1; have a1 := cell_heap (o := 1) hW3; rw [show (lkL t (.slice pp np pc) (.slice fp nf fc) (.slice ip ni ic) (.slice qp nq qc) (.slice rp nr rc) (.slice lp nl lc) ti nx fr).toArray[1]? = some (.slice pp np pc) from rfl] at a1; have b1 := cell_heap (o := 1) hW2; rw [show (lkL t' (.slice pp' np pc') (.slice fp' nf fc') (.slice ip' ni ic') (.slice qp' nq qc') (.slice rp' nr rc') (.slice lp' nl lc') ti nx fr).toArray[1]? = some (.slice pp' np pc') from rfl] at b1; have a2 := cell_heap (o := 2) hW3; rw [show (lkL t (.slice pp np pc) (.slice fp nf fc) (.slice ip ni ic) (.slice qp nq qc) (.slice rp nr rc) (.slice lp nl lc) ti nx fr).toArray[2]? = some (.slice fp nf fc) from rfl] at a2; have b2 := cell_heap (o := 2) hW2; rw [show (lkL t' (.slice pp' np pc') (.slice fp' nf fc') (.slice ip' ni ic') (.slice qp' nq qc') (.slice rp' nr rc') (.slice lp' nl lc') ti nx fr).toArray[2]? = some (.slice fp' nf fc') from rfl] at b2; have a3 := cell_heap (o := 3) hW3; rw [show (lkL t (.slice pp np pc) (.slice fp nf fc) (.slice ip ni ic) (.slice qp nq qc) (.slice rp nr rc) (.slice lp nl lc) ti nx fr).toArray[3]? = some (.slice ip ni ic) from rfl] at a3; have b3 := cell_heap (o := 3) hW2; rw [show (lkL t' (.slice pp' np pc') (.slice fp' nf fc') (.slice ip' ni ic') (.slice qp' nq qc') (.slice rp' nr rc') (.slice lp' nl lc') ti nx fr).toArray[3]? = some (.slice ip' ni ic') from rfl] at b3; have a4 := cell_heap (o := 4) hW3; rw [show (lkL t (.slice pp np pc) (.slice fp nf fc) (.slice ip ni ic) (.slice qp nq qc) (.slice rp nr rc) (.slice lp nl lc) ti nx fr).toArray[4]? = some (.slice qp nq qc) from rfl] at a4; have b4 := cell_heap (o := 4) hW2; rw [show (lkL t' (.slice pp' np pc') (.slice fp' nf fc') (.slice ip' ni ic') (.slice qp' nq qc') (.slice rp' nr rc') (.slice lp' nl lc') ti nx fr).toArray[4]? = some (.slice qp' nq qc') from rfl] at b4; have a5 := cell_heap (o := 5) hW3; rw [show (lkL t (.slice pp np pc) (.slice fp nf fc) (.slice ip ni ic) (.slice qp nq qc) (.slice rp nr rc) (.slice lp nl lc) ti nx fr).toArray[5]? = some (.slice rp nr rc) from rfl] at a5; have b5 := cell_heap (o := 5) hW2; rw [show (lkL t' (.slice pp' np pc') (.slice fp' nf fc') (.slice ip' ni ic') (.slice qp' nq qc') (.slice rp' nr rc') (.slice lp' nl lc') ti nx fr).toArray[5]? = some (.slice rp' nr rc') from rfl] at b5; have a6 := cell_heap (o := 6) hW3; rw [show (lkL t (.slice pp np pc) (.slice fp nf fc) (.slice ip ni ic) (.slice qp nq qc) (.slice rp nr rc) (.slice lp nl lc) ti nx fr).toArray[6]? = some (.slice lp nl lc) from rfl] at a6; have b6 := cell_heap (o := 6) hW2; rw [show (lkL t' (.slice pp' np pc') (.slice fp' nf fc') (.slice ip' ni ic') (.slice qp' nq qc') (.slice rp' nr rc') (.slice lp' nl lc') ti nx fr).toArray[6]? = some (.slice lp' nl lc') from rfl] at b6; have a7 := cell_heap (o := 7) hW3; rw [show (lkL t (.slice pp np pc) (.slice fp nf fc) (.slice ip ni ic) (.slice qp nq qc) (.slice rp nr rc) (.slice lp nl lc) ti nx fr).toArray[7]? = some (.int .u64 ti) from rfl] at a7; have b7 := cell_heap (o := 7) hW2; rw [show (lkL t' (.slice pp' np pc') (.slice fp' nf fc') (.slice ip' ni ic') (.slice qp' nq qc') (.slice rp' nr rc') (.slice lp' nl lc') ti nx fr).toArray[7]? = some (.int .u64 ti) from rfl] at b7; have a8 := cell_heap (o := 8) hW3; rw [show (lkL t (.slice pp np pc) (.slice fp nf fc) (.slice ip ni ic) (.slice qp nq qc) (.slice rp nr rc) (.slice lp nl lc) ti nx fr).toArray[8]? = some (.int .i64 nx) from rfl] at a8; have b8 := cell_heap (o := 8) hW2; rw [show (lkL t' (.slice pp' np pc') (.slice fp' nf fc') (.slice ip' ni ic') (.slice qp' nq qc') (.slice rp' nr rc') (.slice lp' nl lc') ti nx fr).toArray[8]? = some (.int .i64 nx) from rfl] at b8; have a9 := cell_heap (o := 9) hW3; rw [show (lkL t (.slice pp np pc) (.slice fp nf fc) (.slice ip ni ic) (.slice qp nq qc) (.slice rp nr rc) (.slice lp nl lc) ti nx fr).toArray[9]? = some (.int .i64 fr) from rfl] at a9; have b9 := cell_heap (o := 9) hW2; rw [show (lkL t' (.slice pp' np pc') (.slice fp' nf fc') (.slice ip' ni ic') (.slice qp' nq qc') (.slice rp' nr rc') (.slice lp' nl lc') ti nx fr).toArray[9]? = some (.int .i64 fr) from rfl] at b9)
  | fail)
 have bW2 : Below w.heap.size w W2 := hB1.trans (hB2.mono (by omega))
 have HB2 : Hid (W2.heap[w.heap.size]? = some (.cells (lkL t (.slice pp np pc) (.slice fp nf fc) (.slice ip ni ic) (.slice qp nq qc) (.slice rp nr rc) (.slice lp nl lc) ti nx fr).toArray 31) ∧ W2.heap[w.heap.size + 1]? = some (.cells (lkL t' (.slice pp' np pc') (.slice fp' nf fc') (.slice ip' ni ic') (.slice qp' nq qc') (.slice rp' nr rc') (.slice lp' nl lc') ti nx fr).toArray 31) ∧ W2.heap.size = w.heap.size + 2 ∧ Below w.heap.size w W2) := ⟨hW3, hW2, by omega, bW2⟩
 clear a1 a2 a3 a4 a5 a6 a7 a8 a9 b1 b2 b3 b4 b5 b6 b7 b8 b9
 refine (sameBytes_eq (Wd.keep HL.out.1.rd (X' := X) (by omega) (bW2.mono (by omega))) (Wd.keep HL.out.2.1.rd (X' := Y) (by omega) (bW2.mono (by omega))) (by have := HL.out; obtain ⟨_, _, r, _⟩ := this; obtain ⟨_, _, e⟩ := HL.out.1.rd.form; injection e; omega)).mono ?_
 rintro e W5 ⟨rfl, hB5⟩
 have k1 := (hB5.block _ (by omega)).trans hW3
 have k2 := (hB5.block _ (by omega)).trans hW2
 have a1 := cell_heap (o := 1) k1; rw [show (lkL t (.slice pp np pc) (.slice fp nf fc) (.slice ip ni ic) (.slice qp nq qc) (.slice rp nr rc) (.slice lp nl lc) ti nx fr).toArray[1]? = some (.slice pp np pc) from rfl] at a1; have b1 := cell_heap (o := 1) k2; rw [show (lkL t' (.slice pp' np pc') (.slice fp' nf fc') (.slice ip' ni ic') (.slice qp' nq qc') (.slice rp' nr rc') (.slice lp' nl lc') ti nx fr).toArray[1]? = some (.slice pp' np pc') from rfl] at b1
 have a2 := cell_heap (o := 2) k1; rw [show (lkL t (.slice pp np pc) (.slice fp nf fc) (.slice ip ni ic) (.slice qp nq qc) (.slice rp nr rc) (.slice lp nl lc) ti nx fr).toArray[2]? = some (.slice fp nf fc) from rfl] at a2; have b2 := cell_heap (o := 2) k2; rw [show (lkL t' (.slice pp' np pc') (.slice fp' nf fc') (.slice ip' ni ic') (.slice qp' nq qc') (.slice rp' nr rc') (.slice lp' nl lc') ti nx fr).toArray[2]? = some (.slice fp' nf fc') from rfl] at b2
 have a3 := cell_heap (o := 3) k1; rw [show (lkL t (.slice pp np pc) (.slice fp nf fc) (.slice ip ni ic) (.slice qp nq qc) (.slice rp nr rc) (.slice lp nl lc) ti nx fr).toArray[3]? = some (.slice ip ni ic) from rfl] at a3; have b3 := cell_heap (o := 3) k2; rw [show (lkL t' (.slice pp' np pc') (.slice fp' nf fc') (.slice ip' ni ic') (.slice qp' nq qc') (.slice rp' nr rc') (.slice lp' nl lc') ti nx fr).toArray[3]? = some (.slice ip' ni ic') from rfl] at b3
 have a4 := cell_heap (o := 4) k1; rw [show (lkL t (.slice pp np pc) (.slice fp nf fc) (.slice ip ni ic) (.slice qp nq qc) (.slice rp nr rc) (.slice lp nl lc) ti nx fr).toArray[4]? = some (.slice qp nq qc) from rfl] at a4; have b4 := cell_heap (o := 4) k2; rw [show (lkL t' (.slice pp' np pc') (.slice fp' nf fc') (.slice ip' ni ic') (.slice qp' nq qc') (.slice rp' nr rc') (.slice lp' nl lc') ti nx fr).toArray[4]? = some (.slice qp' nq qc') from rfl] at b4
 have a5 := cell_heap (o := 5) k1; rw [show (lkL t (.slice pp np pc) (.slice fp nf fc) (.slice ip ni ic) (.slice qp nq qc) (.slice rp nr rc) (.slice lp nl lc) ti nx fr).toArray[5]? = some (.slice rp nr rc) from rfl] at a5; have b5 := cell_heap (o := 5) k2; rw [show (lkL t' (.slice pp' np pc') (.slice fp' nf fc') (.slice ip' ni ic') (.slice qp' nq qc') (.slice rp' nr rc') (.slice lp' nl lc') ti nx fr).toArray[5]? = some (.slice rp' nr rc') from rfl] at b5
 have a6 := cell_heap (o := 6) k1; rw [show (lkL t (.slice pp np pc) (.slice fp nf fc) (.slice ip ni ic) (.slice qp nq qc) (.slice rp nr rc) (.slice lp nl lc) ti nx fr).toArray[6]? = some (.slice lp nl lc) from rfl] at a6; have b6 := cell_heap (o := 6) k2; rw [show (lkL t' (.slice pp' np pc') (.slice fp' nf fc') (.slice ip' ni ic') (.slice qp' nq qc') (.slice rp' nr rc') (.slice lp' nl lc') ti nx fr).toArray[6]? = some (.slice lp' nl lc') from rfl] at b6
 have a7 := cell_heap (o := 7) k1; rw [show (lkL t (.slice pp np pc) (.slice fp nf fc) (.slice ip ni ic) (.slice qp nq qc) (.slice rp nr rc) (.slice lp nl lc) ti nx fr).toArray[7]? = some (.int .u64 ti) from rfl] at a7; have b7 := cell_heap (o := 7) k2; rw [show (lkL t' (.slice pp' np pc') (.slice fp' nf fc') (.slice ip' ni ic') (.slice qp' nq qc') (.slice rp' nr rc') (.slice lp' nl lc') ti nx fr).toArray[7]? = some (.int .u64 ti) from rfl] at b7
 have a8 := cell_heap (o := 8) k1; rw [show (lkL t (.slice pp np pc) (.slice fp nf fc) (.slice ip ni ic) (.slice qp nq qc) (.slice rp nr rc) (.slice lp nl lc) ti nx fr).toArray[8]? = some (.int .i64 nx) from rfl] at a8; have b8 := cell_heap (o := 8) k2; rw [show (lkL t' (.slice pp' np pc') (.slice fp' nf fc') (.slice ip' ni ic') (.slice qp' nq qc') (.slice rp' nr rc') (.slice lp' nl lc') ti nx fr).toArray[8]? = some (.int .i64 nx) from rfl] at b8
 have a9 := cell_heap (o := 9) k1; rw [show (lkL t (.slice pp np pc) (.slice fp nf fc) (.slice ip ni ic) (.slice qp nq qc) (.slice rp nr rc) (.slice lp nl lc) ti nx fr).toArray[9]? = some (.int .i64 fr) from rfl] at a9; have b9 := cell_heap (o := 9) k2; rw [show (lkL t' (.slice pp' np pc') (.slice fp' nf fc') (.slice ip' ni ic') (.slice qp' nq qc') (.slice rp' nr rc') (.slice lp' nl lc') ti nx fr).toArray[9]? = some (.int .i64 fr) from rfl] at b9

 have hs5 := hB5.size
 go_wp2_with fail
 go_at_call 39
 refine (sameBytes_eq (Wd.keep HL.out.1.ln (X' := X) (by omega) ((bW2.trans (hB5.mono (by omega))).mono (by omega))) (Wd.keep HL.out.2.1.ln (X' := Y) (by omega) ((bW2.trans (hB5.mono (by omega))).mono (by omega))) (by have := HL.out; obtain ⟨_, _, _, r⟩ := this; obtain ⟨_, _, e⟩ := HL.out.1.ln.form; injection e; omega)).mono ?_
 rintro e W6 ⟨rfl, hB6⟩
 have k3 := (hB6.block _ (by omega)).trans k1
 have k4 := (hB6.block _ (by omega)).trans k2
 clear a1 a2 a3 a4 a5 a6 a7 a8 a9 b1 b2 b3 b4 b5 b6 b7 b8 b9
 have a1 := cell_heap (o := 1) k3; rw [show (lkL t (.slice pp np pc) (.slice fp nf fc) (.slice ip ni ic) (.slice qp nq qc) (.slice rp nr rc) (.slice lp nl lc) ti nx fr).toArray[1]? = some (.slice pp np pc) from rfl] at a1; have b1 := cell_heap (o := 1) k4; rw [show (lkL t' (.slice pp' np pc') (.slice fp' nf fc') (.slice ip' ni ic') (.slice qp' nq qc') (.slice rp' nr rc') (.slice lp' nl lc') ti nx fr).toArray[1]? = some (.slice pp' np pc') from rfl] at b1
 have a2 := cell_heap (o := 2) k3; rw [show (lkL t (.slice pp np pc) (.slice fp nf fc) (.slice ip ni ic) (.slice qp nq qc) (.slice rp nr rc) (.slice lp nl lc) ti nx fr).toArray[2]? = some (.slice fp nf fc) from rfl] at a2; have b2 := cell_heap (o := 2) k4; rw [show (lkL t' (.slice pp' np pc') (.slice fp' nf fc') (.slice ip' ni ic') (.slice qp' nq qc') (.slice rp' nr rc') (.slice lp' nl lc') ti nx fr).toArray[2]? = some (.slice fp' nf fc') from rfl] at b2
 have a3 := cell_heap (o := 3) k3; rw [show (lkL t (.slice pp np pc) (.slice fp nf fc) (.slice ip ni ic) (.slice qp nq qc) (.slice rp nr rc) (.slice lp nl lc) ti nx fr).toArray[3]? = some (.slice ip ni ic) from rfl] at a3; have b3 := cell_heap (o := 3) k4; rw [show (lkL t' (.slice pp' np pc') (.slice fp' nf fc') (.slice ip' ni ic') (.slice qp' nq qc') (.slice rp' nr rc') (.slice lp' nl lc') ti nx fr).toArray[3]? = some (.slice ip' ni ic') from rfl] at b3
 have a4 := cell_heap (o := 4) k3; rw [show (lkL t (.slice pp np pc) (.slice fp nf fc) (.slice ip ni ic) (.slice qp nq qc) (.slice rp nr rc) (.slice lp nl lc) ti nx fr).toArray[4]? = some (.slice qp nq qc) from rfl] at a4; have b4 := cell_heap (o := 4) k4; rw [show (lkL t' (.slice pp' np pc') (.slice fp' nf fc') (.slice ip' ni ic') (.slice qp' nq qc') (.slice rp' nr rc') (.slice lp' nl lc') ti nx fr).toArray[4]? = some (.slice qp' nq qc') from rfl] at b4
 have a5 := cell_heap (o := 5) k3; rw [show (lkL t (.slice pp np pc) (.slice fp nf fc) (.slice ip ni ic) (.slice qp nq qc) (.slice rp nr rc) (.slice lp nl lc) ti nx fr).toArray[5]? = some (.slice rp nr rc) from rfl] at a5; have b5 := cell_heap (o := 5) k4; rw [show (lkL t' (.slice pp' np pc') (.slice fp' nf fc') (.slice ip' ni ic') (.slice qp' nq qc') (.slice rp' nr rc') (.slice lp' nl lc') ti nx fr).toArray[5]? = some (.slice rp' nr rc') from rfl] at b5
 have a6 := cell_heap (o := 6) k3; rw [show (lkL t (.slice pp np pc) (.slice fp nf fc) (.slice ip ni ic) (.slice qp nq qc) (.slice rp nr rc) (.slice lp nl lc) ti nx fr).toArray[6]? = some (.slice lp nl lc) from rfl] at a6; have b6 := cell_heap (o := 6) k4; rw [show (lkL t' (.slice pp' np pc') (.slice fp' nf fc') (.slice ip' ni ic') (.slice qp' nq qc') (.slice rp' nr rc') (.slice lp' nl lc') ti nx fr).toArray[6]? = some (.slice lp' nl lc') from rfl] at b6
 have a7 := cell_heap (o := 7) k3; rw [show (lkL t (.slice pp np pc) (.slice fp nf fc) (.slice ip ni ic) (.slice qp nq qc) (.slice rp nr rc) (.slice lp nl lc) ti nx fr).toArray[7]? = some (.int .u64 ti) from rfl] at a7; have b7 := cell_heap (o := 7) k4; rw [show (lkL t' (.slice pp' np pc') (.slice fp' nf fc') (.slice ip' ni ic') (.slice qp' nq qc') (.slice rp' nr rc') (.slice lp' nl lc') ti nx fr).toArray[7]? = some (.int .u64 ti) from rfl] at b7
 have a8 := cell_heap (o := 8) k3; rw [show (lkL t (.slice pp np pc) (.slice fp nf fc) (.slice ip ni ic) (.slice qp nq qc) (.slice rp nr rc) (.slice lp nl lc) ti nx fr).toArray[8]? = some (.int .i64 nx) from rfl] at a8; have b8 := cell_heap (o := 8) k4; rw [show (lkL t' (.slice pp' np pc') (.slice fp' nf fc') (.slice ip' ni ic') (.slice qp' nq qc') (.slice rp' nr rc') (.slice lp' nl lc') ti nx fr).toArray[8]? = some (.int .i64 nx) from rfl] at b8
 have a9 := cell_heap (o := 9) k3; rw [show (lkL t (.slice pp np pc) (.slice fp nf fc) (.slice ip ni ic) (.slice qp nq qc) (.slice rp nr rc) (.slice lp nl lc) ti nx fr).toArray[9]? = some (.int .i64 fr) from rfl] at a9; have b9 := cell_heap (o := 9) k4; rw [show (lkL t' (.slice pp' np pc') (.slice fp' nf fc') (.slice ip' ni ic') (.slice qp' nq qc') (.slice rp' nr rc') (.slice lp' nl lc') ti nx fr).toArray[9]? = some (.int .i64 fr) from rfl] at b9

 go_wp2
 have HK : Hid (AK w (lkL t (.slice pp np pc) (.slice fp nf fc) (.slice ip ni ic) (.slice qp nq qc) (.slice rp nr rc) (.slice lp nl lc) ti nx fr) (lkL t' (.slice pp' np pc') (.slice fp' nf fc') (.slice ip' ni ic') (.slice qp' nq qc') (.slice rp' nr rc') (.slice lp' nl lc') ti nx fr) W6) := ⟨k3, k4, by have := hB6.size; omega, (bW2.trans (hB5.mono (by omega))).trans (hB6.mono (by omega))⟩
 clear a1 a2 a3 a4 a5 a6 a7 a8 a9 b1 b2 b3 b4 b5 b6 b7 b8 b9 k1 k2 k3 k4 hB5 hB6 bW2 hs5 HB2 hW1 hW2 hW3 hB1 hB2 hs1 hs2
 have HXY : Hid (X ≤ w.heap.size ∧ Y ≤ w.heap.size) := ⟨hX, hY⟩
 clear hX hY
 go_loopw [5] (fun k wr => ∃ i : Nat, i ≤ np ∧ k = .int .i64 i ∧ Hid (AK w (lkL t (.slice pp np pc) (.slice fp nf fc) (.slice ip ni ic) (.slice qp nq qc) (.slice rp nr rc) (.slice lp nl lc) ti nx fr) (lkL t' (.slice pp' np pc') (.slice fp' nf fc') (.slice ip' ni ic') (.slice qp' nq qc') (.slice rp' nr rc') (.slice lp' nl lc') ti nx fr) wr)) (fun v _ => (np - intOf v).toNat)
 case atStart => exact ⟨0, by omega, rfl, HK.out⟩
 case round =>
  clear HK
  obtain ⟨i, hi, rfl, HB⟩ := hrel
  have a1 := cell_heap (o := 1) HB.out.1
  rw [show (lkL t (.slice pp np pc) (.slice fp nf fc) (.slice ip ni ic) (.slice qp nq qc) (.slice rp nr rc) (.slice lp nl lc) ti nx fr).toArray[1]? = some (.slice pp np pc) from rfl] at a1
  by_cases hin : i < np
  ·as_aux_lemma =>
    have i1 : (i : Int) < np := by omega
    have b1' := cell_heap (o := 1) HB.out.2.1
    rw [show (lkL t' (.slice pp' np pc') (.slice fp' nf fc') (.slice ip' ni ic') (.slice qp' nq qc') (.slice rp' nr rc') (.slice lp' nl lc') ti nx fr).toArray[1]? = some (.slice pp' np pc') from rfl] at b1'
    obtain ⟨-, b1, o1, x, cs, rfl, hbX, hx, ⟨nv, gv, rfl, hN, hG⟩, hcl, hr⟩ := HL.out.1.ps.at hin
    obtain ⟨-, b2, o2, x2, cs2, rfl, hbY, hx2, ⟨nv2, gv2, rfl, hN2, hG2⟩, hcl2, hr2⟩ := HL.out.2.1.ps.at hin
    rw [hx] at hx2
    injection hx2 with hx2
    subst hx2
    obtain ⟨np1, nc1, rfl⟩ := hN.form
    obtain ⟨gp1, gc1, rfl⟩ := hG.form
    obtain ⟨np2, nc2, rfl⟩ := hN2.form
    obtain ⟨gp2, gc2, rfl⟩ := hG2.form
    have bg : x.pages.length ≤ 10000000 := hPG x (List.mem_of_getElem? hx)
    generalize hn1 : x.nodes.length = n1 at *
    generalize hg1 : x.pages.length = g1 at *
    have HGG : Hid (Gs w X (.slice gp1 g1 gc1) x.pages ∧ Gs w Y (.slice gp2 g1 gc2) x.pages ∧ g1 = x.pages.length ∧ g1 ≤ 10000000) := ⟨hG, hG2, hg1.symm, bg⟩
    clear hN hN2 hG hG2 hn1 hg1 bg
    have r1 := range_keep hr HB.out.2.2.2 (by have := HXY.out; omega : b1 < w.heap.size)
    have r2 := range_keep hr2 HB.out.2.2.2 (by have := HXY.out; omega : b2 < w.heap.size)
    have hS : (fun w' : World => w'.cell? ⟨w.heap.size, 1, .none⟩ = some (.slice (some ⟨b1, o1, .none⟩) np pc) ∧ w'.cell? ⟨w.heap.size + 1, 1, .none⟩ = some (.slice (some ⟨b2, o2, .none⟩) np pc') ∧ w'.rangeAt b1 (o1 + i * 70) (x.l (.slice np1 n1 nc1) (.slice gp1 g1 gc1)) ∧ w'.rangeAt b2 (o2 + i * 70) (x.l (.slice np2 n1 nc2) (.slice gp2 g1 gc2))) wr.drew := ⟨a1, b1', r1, r2⟩
    have HD : Hid (AK w (lkL t (.slice (some ⟨b1, o1, .none⟩) np pc) (.slice fp nf fc) (.slice ip ni ic) (.slice qp nq qc) (.slice rp nr rc) (.slice lp nl lc) ti nx fr) (lkL t' (.slice (some ⟨b2, o2, .none⟩) np pc') (.slice fp' nf fc') (.slice ip' ni ic') (.slice qp' nq qc') (.slice rp' nr rc') (.slice lp' nl lc') ti nx fr) wr.drew) := HB.out.step (Below.refl _ _).drew
    clear hr hr2 hcl hcl2 hbX hbY hx HB
    go_upto_region 8 with fail
    clear a1 b1' r1 r2
    refine region_set (fun w' => w'.cell? ⟨w.heap.size, 1, .none⟩ = some (.slice (some ⟨b1, o1, .none⟩) np pc) ∧ w'.cell? ⟨w.heap.size + 1, 1, .none⟩ = some (.slice (some ⟨b2, o2, .none⟩) np pc') ∧ w'.rangeAt b1 (o1 + i * 70) (x.l (.slice np1 n1 nc1) (.slice gp1 g1 gc1)) ∧ w'.rangeAt b2 (o2 + i * 70) (x.l (.slice np2 n1 nc2) (.slice gp2 g1 gc2))) 10 [0, 5, 2, 7] (by kernel_rfl) ?_
    refine set_pure (i := 0) (v := .pointer (some ⟨w.heap.size, 1, .none⟩)) rfl (by kernel_rfl) (by kernel_rfl) (by kernel_rfl) (by kernel_rfl) (fun _ _ _ h => h) (Or.inl ⟨by rfl, fun ww hSw => by go_simp⟩) ?_
    simp only [x0,x1,x2,x3,x4,x5,x6]
    refine set_pure (i := 2) (v := .int .i64 i) rfl (by kernel_rfl) (by kernel_rfl) (by kernel_rfl) (by kernel_rfl) (fun _ _ _ h => h) (Or.inl ⟨by rfl, fun ww hSw => by go_simp⟩) ?_
    simp only [x0,x1,x2,x3,x4,x5,x6]
    refine set_pure (i := 5) (v := .pointer (some ⟨w.heap.size + 1, 1, .none⟩)) rfl (by kernel_rfl) (by kernel_rfl) (by kernel_rfl) (by kernel_rfl) (fun _ _ _ h => h) (Or.inl ⟨by rfl, fun ww hSw => by go_simp⟩) ?_
    simp only [x0,x1,x2,x3,x4,x5,x6]
    refine set_pure (i := 7) (v := .int .i64 i) rfl (by kernel_rfl) (by kernel_rfl) (by kernel_rfl) (by kernel_rfl) (fun _ _ _ h => h) (Or.inl ⟨by rfl, fun ww hSw => by go_simp⟩) ?_
    simp only [x0,x1,x2,x3,x4,x5,x6]
    refine sT 1 (.slice (some ⟨b1, o1, .none⟩) np pc) rfl (fun ww hSw => by obtain ⟨hs1, hs2, hs3, hs4⟩ := hSw; go_simp) hS ?_
    simp only [x0,x1,x2,x3,x4,x5,x6]
    refine sT 3 (.pointer (some ⟨b1, o1 + i * 70, .none⟩)) rfl (fun ww hSw => by obtain ⟨hs1, hs2, hs3, hs4⟩ := hSw; go_simp) hS ?_
    simp only [x0,x1,x2,x3,x4,x5,x6]
    refine sV (i := 4) (v := .agg ((x.l (.slice np1 n1 nc1) (.slice gp1 g1 gc1))).toArray) rfl (yieldsIf_load_mid (by rfl) 60 (.tmp 92) rfl (b1) (o1 + i * 70) rfl ((x.l (.slice np1 n1 nc1) (.slice gp1 g1 gc1))) _ (fun ww hSw => hSw.2.2.1) Try.underlying60 rfl (by first | kernel_rfl | (rw [rfl]; kernel_rfl))) hS ?_
    simp only [x0,x1,x2,x3,x4,x5,x6]
    refine sT 6 (.slice (some ⟨b2, o2, .none⟩) np pc') rfl (fun ww hSw => by obtain ⟨hs1, hs2, hs3, hs4⟩ := hSw; go_simp) hS ?_
    simp only [x0,x1,x2,x3,x4,x5,x6]
    refine sT 8 (.pointer (some ⟨b2, o2 + i * 70, .none⟩)) rfl (fun ww hSw => by obtain ⟨hs1, hs2, hs3, hs4⟩ := hSw; go_simp) hS ?_
    simp only [x0,x1,x2,x3,x4,x5,x6]
    refine sV (i := 9) (v := .agg ((x.l (.slice np2 n1 nc2) (.slice gp2 g1 gc2))).toArray) rfl (yieldsIf_load_mid (by rfl) 60 (.tmp 97) rfl (b2) (o2 + i * 70) rfl ((x.l (.slice np2 n1 nc2) (.slice gp2 g1 gc2))) _ (fun ww hSw => hSw.2.2.2) Try.underlying60 rfl (by first | kernel_rfl | (rw [rfl]; kernel_rfl))) hS ?_
    simp only [x0,x1,x2,x3,x4,x5,x6]
    refine set_tail 2 10 _ _ _ _ (by kernel_rfl) (by decide) ?_
    simp only [List.toList_toArray, List.drop_succ_cons, List.drop_zero]
    clear hS
    generalize wr.drew = WD at *
    go_wp2_with fail
    go_at_call 40
    refine (sameProc_eq (X := X) (Y := Y) (by have := HXY.out; have := HD.out.2.2.1; omega) (by have := HXY.out; have := HD.out.2.2.1; omega) x np1 gp1 np2 gp2 n1 nc1 g1 gc1 nc2 gc2 (by have := HGG.out; omega) (Gs.keep HGG.out.1 (Nat.le_refl _) (HD.out.2.2.2.mono HXY.out.1)) (Gs.keep HGG.out.2.1 (Nat.le_refl _) (HD.out.2.2.2.mono HXY.out.2))).mono ?_
    rintro e W7 ⟨rfl, hB7⟩
    go_wp2
    exact ⟨⟨i + 1, by omega, by go_num, HD.out.step hB7⟩, by simp [intOf]; omega⟩
  ·have hnn : i = np := by omega
   subst i
   have g0 : ¬ (np : Int) < np := by omega
   clear hi hin
   go_wp2
   have HK : Hid (AK w (lkL t (.slice pp np pc) (.slice fp nf fc) (.slice ip ni ic) (.slice qp nq qc) (.slice rp nr rc) (.slice lp nl lc) ti nx fr) (lkL t' (.slice pp' np pc') (.slice fp' nf fc') (.slice ip' ni ic') (.slice qp' nq qc') (.slice rp' nr rc') (.slice lp' nl lc') ti nx fr) wr) := HB.out
   clear HB a1 g0
   go_loopw [6] (fun k wr => ∃ i : Nat, i ≤ nf ∧ k = .int .i64 i ∧ Hid (AK w (lkL t (.slice pp np pc) (.slice fp nf fc) (.slice ip ni ic) (.slice qp nq qc) (.slice rp nr rc) (.slice lp nl lc) ti nx fr) (lkL t' (.slice pp' np pc') (.slice fp' nf fc') (.slice ip' ni ic') (.slice qp' nq qc') (.slice rp' nr rc') (.slice lp' nl lc') ti nx fr) wr)) (fun v _ => (nf - intOf v).toNat)
   case atStart => exact ⟨0, by omega, rfl, HK.out⟩
   case round =>
    clear HK
    obtain ⟨i, hi, rfl, HB⟩ := hrel
    have a1 := cell_heap (o := 2) HB.out.1
    rw [show (lkL t (.slice pp np pc) (.slice fp nf fc) (.slice ip ni ic) (.slice qp nq qc) (.slice rp nr rc) (.slice lp nl lc) ti nx fr).toArray[2]? = some (.slice fp nf fc) from rfl] at a1
    by_cases hin : i < nf
    ·as_aux_lemma =>
      have i1 : (i : Int) < nf := by omega
      have b1' := cell_heap (o := 2) HB.out.2.1
      rw [show (lkL t' (.slice pp' np pc') (.slice fp' nf fc') (.slice ip' ni ic') (.slice qp' nq qc') (.slice rp' nr rc') (.slice lp' nl lc') ti nx fr).toArray[2]? = some (.slice fp' nf fc') from rfl] at b1'
      obtain ⟨-, b1, o1, x, cs, rfl, hbX, hx, rfl, hcl, hr⟩ := HL.out.1.fs.at hin
      obtain ⟨-, b2, o2, x2, cs2, rfl, hbY, hx2, rfl, hcl2, hr2⟩ := HL.out.2.1.fs.at hin
      rw [hx] at hx2
      injection hx2 with hx2
      subst hx2
      have g94 : ∀ op u v xs ys (w : World), (eqGuard op 67 u v (.agg xs) (.agg ys)).run Try.prog w = .ok () w := fun op u v xs ys w => run_eqGuard_agg w op 67 u v xs ys (by kernel_rfl)
      have q94 : ∀ w : World, (binOp .neq 67 (.agg x.l.toArray) (.agg x.l.toArray)).run Try.prog w = .ok (.bool false) w := fun w => by have := eqv_neq (eq_file 9997 x x) w; simpa using this
      have r1 := range_keep hr HB.out.2.2.2 (by have := HXY.out; omega : b1 < w.heap.size)
      have r2 := range_keep hr2 HB.out.2.2.2 (by have := HXY.out; omega : b2 < w.heap.size)
      have hS : (fun w' : World => w'.cell? ⟨w.heap.size, 2, .none⟩ = some (.slice (some ⟨b1, o1, .none⟩) nf fc) ∧ w'.cell? ⟨w.heap.size + 1, 2, .none⟩ = some (.slice (some ⟨b2, o2, .none⟩) nf fc') ∧ w'.rangeAt b1 (o1 + i * 8) x.l ∧ w'.rangeAt b2 (o2 + i * 8) x.l) wr.drew := ⟨a1, b1', r1, r2⟩
      have HD : Hid (AK w (lkL t (.slice pp np pc) (.slice (some ⟨b1, o1, .none⟩) nf fc) (.slice ip ni ic) (.slice qp nq qc) (.slice rp nr rc) (.slice lp nl lc) ti nx fr) (lkL t' (.slice pp' np pc') (.slice (some ⟨b2, o2, .none⟩) nf fc') (.slice ip' ni ic') (.slice qp' nq qc') (.slice rp' nr rc') (.slice lp' nl lc') ti nx fr) wr.drew) := HB.out.step (Below.refl _ _).drew
      clear hr hr2 hcl hcl2 hbX hbY hx HB
      go_upto_region 13 with fail
      clear a1 b1' r1 r2
      refine region_set (fun w' => w'.cell? ⟨w.heap.size, 2, .none⟩ = some (.slice (some ⟨b1, o1, .none⟩) nf fc) ∧ w'.cell? ⟨w.heap.size + 1, 2, .none⟩ = some (.slice (some ⟨b2, o2, .none⟩) nf fc') ∧ w'.rangeAt b1 (o1 + i * 8) x.l ∧ w'.rangeAt b2 (o2 + i * 8) x.l) 10 [0, 5, 2, 7] (by kernel_rfl) ?_
      refine set_pure (i := 0) (v := .pointer (some ⟨w.heap.size, 2, .none⟩)) rfl (by kernel_rfl) (by kernel_rfl) (by kernel_rfl) (by kernel_rfl) (fun _ _ _ h => h) (Or.inl ⟨by rfl, fun ww hSw => by go_simp⟩) ?_
      simp only [x0,x1,x2,x3,x4,x5,x6]
      refine set_pure (i := 2) (v := .int .i64 i) rfl (by kernel_rfl) (by kernel_rfl) (by kernel_rfl) (by kernel_rfl) (fun _ _ _ h => h) (Or.inl ⟨by rfl, fun ww hSw => by go_simp⟩) ?_
      simp only [x0,x1,x2,x3,x4,x5,x6]
      refine set_pure (i := 5) (v := .pointer (some ⟨w.heap.size + 1, 2, .none⟩)) rfl (by kernel_rfl) (by kernel_rfl) (by kernel_rfl) (by kernel_rfl) (fun _ _ _ h => h) (Or.inl ⟨by rfl, fun ww hSw => by go_simp⟩) ?_
      simp only [x0,x1,x2,x3,x4,x5,x6]
      refine set_pure (i := 7) (v := .int .i64 i) rfl (by kernel_rfl) (by kernel_rfl) (by kernel_rfl) (by kernel_rfl) (fun _ _ _ h => h) (Or.inl ⟨by rfl, fun ww hSw => by go_simp⟩) ?_
      simp only [x0,x1,x2,x3,x4,x5,x6]
      refine sT 1 (.slice (some ⟨b1, o1, .none⟩) nf fc) rfl (fun ww hSw => by obtain ⟨hs1, hs2, hs3, hs4⟩ := hSw; go_simp) hS ?_
      simp only [x0,x1,x2,x3,x4,x5,x6]
      refine sT 3 (.pointer (some ⟨b1, o1 + i * 8, .none⟩)) rfl (fun ww hSw => by obtain ⟨hs1, hs2, hs3, hs4⟩ := hSw; go_simp) hS ?_
      simp only [x0,x1,x2,x3,x4,x5,x6]
      refine sV (i := 4) (v := .agg (x.l).toArray) rfl (yieldsIf_load_mid (by rfl) 67 (.tmp 111) rfl (b1) (o1 + i * 8) rfl (x.l) _ (fun ww hSw => hSw.2.2.1) Try.underlying67 rfl (by first | kernel_rfl | (rw [rfl]; kernel_rfl))) hS ?_
      simp only [x0,x1,x2,x3,x4,x5,x6]
      refine sT 6 (.slice (some ⟨b2, o2, .none⟩) nf fc') rfl (fun ww hSw => by obtain ⟨hs1, hs2, hs3, hs4⟩ := hSw; go_simp) hS ?_
      simp only [x0,x1,x2,x3,x4,x5,x6]
      refine sT 8 (.pointer (some ⟨b2, o2 + i * 8, .none⟩)) rfl (fun ww hSw => by obtain ⟨hs1, hs2, hs3, hs4⟩ := hSw; go_simp) hS ?_
      simp only [x0,x1,x2,x3,x4,x5,x6]
      refine sV (i := 9) (v := .agg (x.l).toArray) rfl (yieldsIf_load_mid (by rfl) 67 (.tmp 116) rfl (b2) (o2 + i * 8) rfl (x.l) _ (fun ww hSw => hSw.2.2.2) Try.underlying67 rfl (by first | kernel_rfl | (rw [rfl]; kernel_rfl))) hS ?_
      simp only [x0,x1,x2,x3,x4,x5,x6]
      refine set_tail 1 10 _ _ _ _ (by kernel_rfl) (by decide) ?_
      simp only [List.toList_toArray, List.drop_succ_cons, List.drop_zero]
      clear hS
      generalize wr.drew = WD at *
      go_wp2
      exact ⟨⟨i + 1, by omega, by go_num, HD.out⟩, by simp [intOf]; omega⟩
    ·have hnn : i = nf := by omega
     subst i
     have g0 : ¬ (nf : Int) < nf := by omega
     clear hi hin
     go_wp2
     have HK : Hid (AK w (lkL t (.slice pp np pc) (.slice fp nf fc) (.slice ip ni ic) (.slice qp nq qc) (.slice rp nr rc) (.slice lp nl lc) ti nx fr) (lkL t' (.slice pp' np pc') (.slice fp' nf fc') (.slice ip' ni ic') (.slice qp' nq qc') (.slice rp' nr rc') (.slice lp' nl lc') ti nx fr) wr) := HB.out
     clear HB a1 g0
     go_loopw [7] (fun k wr => ∃ i : Nat, i ≤ ni ∧ k = .int .i64 i ∧ Hid (AK w (lkL t (.slice pp np pc) (.slice fp nf fc) (.slice ip ni ic) (.slice qp nq qc) (.slice rp nr rc) (.slice lp nl lc) ti nx fr) (lkL t' (.slice pp' np pc') (.slice fp' nf fc') (.slice ip' ni ic') (.slice qp' nq qc') (.slice rp' nr rc') (.slice lp' nl lc') ti nx fr) wr)) (fun v _ => (ni - intOf v).toNat)
     case atStart => exact ⟨0, by omega, rfl, HK.out⟩
     case round =>
      clear HK
      obtain ⟨i, hi, rfl, HB⟩ := hrel
      have a1 := cell_heap (o := 3) HB.out.1
      rw [show (lkL t (.slice pp np pc) (.slice fp nf fc) (.slice ip ni ic) (.slice qp nq qc) (.slice rp nr rc) (.slice lp nl lc) ti nx fr).toArray[3]? = some (.slice ip ni ic) from rfl] at a1
      by_cases hin : i < ni
      ·as_aux_lemma =>
        have i1 : (i : Int) < ni := by omega
        have b1' := cell_heap (o := 3) HB.out.2.1
        rw [show (lkL t' (.slice pp' np pc') (.slice fp' nf fc') (.slice ip' ni ic') (.slice qp' nq qc') (.slice rp' nr rc') (.slice lp' nl lc') ti nx fr).toArray[3]? = some (.slice ip' ni ic') from rfl] at b1'
        obtain ⟨-, b1, o1, x, cs, rfl, hbX, hx, ⟨nv, rfl, hN⟩, hcl, hr⟩ := HL.out.1.is.at hin
        obtain ⟨-, b2, o2, x2, cs2, rfl, hbY, hx2, ⟨nv2, rfl, hN2⟩, hcl2, hr2⟩ := HL.out.2.1.is.at hin
        rw [hx] at hx2
        injection hx2 with hx2
        subst hx2
        obtain ⟨np1, nc1, rfl⟩ := hN.form
        obtain ⟨np2, nc2, rfl⟩ := hN2.form
        generalize hn1 : x.bl.length = n1 at *
        clear hN hN2 hn1
        have r1 := range_keep hr HB.out.2.2.2 (by have := HXY.out; omega : b1 < w.heap.size)
        have r2 := range_keep hr2 HB.out.2.2.2 (by have := HXY.out; omega : b2 < w.heap.size)
        have hS : (fun w' : World => w'.cell? ⟨w.heap.size, 3, .none⟩ = some (.slice (some ⟨b1, o1, .none⟩) ni ic) ∧ w'.cell? ⟨w.heap.size + 1, 3, .none⟩ = some (.slice (some ⟨b2, o2, .none⟩) ni ic') ∧ w'.rangeAt b1 (o1 + i * 8) (x.l (.slice np1 n1 nc1)) ∧ w'.rangeAt b2 (o2 + i * 8) (x.l (.slice np2 n1 nc2))) wr.drew := ⟨a1, b1', r1, r2⟩
        have HD : Hid (AK w (lkL t (.slice pp np pc) (.slice fp nf fc) (.slice (some ⟨b1, o1, .none⟩) ni ic) (.slice qp nq qc) (.slice rp nr rc) (.slice lp nl lc) ti nx fr) (lkL t' (.slice pp' np pc') (.slice fp' nf fc') (.slice (some ⟨b2, o2, .none⟩) ni ic') (.slice qp' nq qc') (.slice rp' nr rc') (.slice lp' nl lc') ti nx fr) wr.drew) := HB.out.step (Below.refl _ _).drew
        clear hr hr2 hcl hcl2 hbX hbY hx HB
        go_upto_region 18 with fail
        clear a1 b1' r1 r2
        refine region_set (fun w' => w'.cell? ⟨w.heap.size, 3, .none⟩ = some (.slice (some ⟨b1, o1, .none⟩) ni ic) ∧ w'.cell? ⟨w.heap.size + 1, 3, .none⟩ = some (.slice (some ⟨b2, o2, .none⟩) ni ic') ∧ w'.rangeAt b1 (o1 + i * 8) (x.l (.slice np1 n1 nc1)) ∧ w'.rangeAt b2 (o2 + i * 8) (x.l (.slice np2 n1 nc2))) 10 [0, 5, 2, 7] (by kernel_rfl) ?_
        refine set_pure (i := 0) (v := .pointer (some ⟨w.heap.size, 3, .none⟩)) rfl (by kernel_rfl) (by kernel_rfl) (by kernel_rfl) (by kernel_rfl) (fun _ _ _ h => h) (Or.inl ⟨by rfl, fun ww hSw => by go_simp⟩) ?_
        simp only [x0,x1,x2,x3,x4,x5,x6]
        refine set_pure (i := 2) (v := .int .i64 i) rfl (by kernel_rfl) (by kernel_rfl) (by kernel_rfl) (by kernel_rfl) (fun _ _ _ h => h) (Or.inl ⟨by rfl, fun ww hSw => by go_simp⟩) ?_
        simp only [x0,x1,x2,x3,x4,x5,x6]
        refine set_pure (i := 5) (v := .pointer (some ⟨w.heap.size + 1, 3, .none⟩)) rfl (by kernel_rfl) (by kernel_rfl) (by kernel_rfl) (by kernel_rfl) (fun _ _ _ h => h) (Or.inl ⟨by rfl, fun ww hSw => by go_simp⟩) ?_
        simp only [x0,x1,x2,x3,x4,x5,x6]
        refine set_pure (i := 7) (v := .int .i64 i) rfl (by kernel_rfl) (by kernel_rfl) (by kernel_rfl) (by kernel_rfl) (fun _ _ _ h => h) (Or.inl ⟨by rfl, fun ww hSw => by go_simp⟩) ?_
        simp only [x0,x1,x2,x3,x4,x5,x6]
        refine sT 1 (.slice (some ⟨b1, o1, .none⟩) ni ic) rfl (fun ww hSw => by obtain ⟨hs1, hs2, hs3, hs4⟩ := hSw; go_simp) hS ?_
        simp only [x0,x1,x2,x3,x4,x5,x6]
        refine sT 3 (.pointer (some ⟨b1, o1 + i * 8, .none⟩)) rfl (fun ww hSw => by obtain ⟨hs1, hs2, hs3, hs4⟩ := hSw; go_simp) hS ?_
        simp only [x0,x1,x2,x3,x4,x5,x6]
        refine sV (i := 4) (v := .agg ((x.l (.slice np1 n1 nc1))).toArray) rfl (yieldsIf_load_mid (by rfl) 63 (.tmp 129) rfl (b1) (o1 + i * 8) rfl ((x.l (.slice np1 n1 nc1))) _ (fun ww hSw => hSw.2.2.1) Try.underlying63 rfl (by first | kernel_rfl | (rw [rfl]; kernel_rfl))) hS ?_
        simp only [x0,x1,x2,x3,x4,x5,x6]
        refine sT 6 (.slice (some ⟨b2, o2, .none⟩) ni ic') rfl (fun ww hSw => by obtain ⟨hs1, hs2, hs3, hs4⟩ := hSw; go_simp) hS ?_
        simp only [x0,x1,x2,x3,x4,x5,x6]
        refine sT 8 (.pointer (some ⟨b2, o2 + i * 8, .none⟩)) rfl (fun ww hSw => by obtain ⟨hs1, hs2, hs3, hs4⟩ := hSw; go_simp) hS ?_
        simp only [x0,x1,x2,x3,x4,x5,x6]
        refine sV (i := 9) (v := .agg ((x.l (.slice np2 n1 nc2))).toArray) rfl (yieldsIf_load_mid (by rfl) 63 (.tmp 134) rfl (b2) (o2 + i * 8) rfl ((x.l (.slice np2 n1 nc2))) _ (fun ww hSw => hSw.2.2.2) Try.underlying63 rfl (by first | kernel_rfl | (rw [rfl]; kernel_rfl))) hS ?_
        simp only [x0,x1,x2,x3,x4,x5,x6]
        refine set_tail 2 10 _ _ _ _ (by kernel_rfl) (by decide) ?_
        simp only [List.toList_toArray, List.drop_succ_cons, List.drop_zero]
        clear hS
        generalize wr.drew = WD at *
        go_wp2_with fail
        go_at_call 41
        refine (sameInode_eq x np1 np2 n1 nc1 nc2 _).mono ?_
        rintro e W7 ⟨rfl, hB7⟩
        go_wp2
        exact ⟨⟨i + 1, by omega, by go_num, HD.out.step hB7⟩, by simp [intOf]; omega⟩
      ·have hnn : i = ni := by omega
       subst i
       have g0 : ¬ (ni : Int) < ni := by omega
       clear hi hin
       go_wp2
       have HK : Hid (AK w (lkL t (.slice pp np pc) (.slice fp nf fc) (.slice ip ni ic) (.slice qp nq qc) (.slice rp nr rc) (.slice lp nl lc) ti nx fr) (lkL t' (.slice pp' np pc') (.slice fp' nf fc') (.slice ip' ni ic') (.slice qp' nq qc') (.slice rp' nr rc') (.slice lp' nl lc') ti nx fr) wr) := HB.out
       clear HB a1 g0
       go_loopw [8] (fun k wr => ∃ i : Nat, i ≤ nq ∧ k = .int .i64 i ∧ Hid (AK w (lkL t (.slice pp np pc) (.slice fp nf fc) (.slice ip ni ic) (.slice qp nq qc) (.slice rp nr rc) (.slice lp nl lc) ti nx fr) (lkL t' (.slice pp' np pc') (.slice fp' nf fc') (.slice ip' ni ic') (.slice qp' nq qc') (.slice rp' nr rc') (.slice lp' nl lc') ti nx fr) wr)) (fun v _ => (nq - intOf v).toNat)
       case atStart => exact ⟨0, by omega, rfl, HK.out⟩
       case round =>
        clear HK
        obtain ⟨i, hi, rfl, HB⟩ := hrel
        have a1 := cell_heap (o := 4) HB.out.1
        rw [show (lkL t (.slice pp np pc) (.slice fp nf fc) (.slice ip ni ic) (.slice qp nq qc) (.slice rp nr rc) (.slice lp nl lc) ti nx fr).toArray[4]? = some (.slice qp nq qc) from rfl] at a1
        by_cases hin : i < nq
        ·as_aux_lemma =>
          have i1 : (i : Int) < nq := by omega
          have b1' := cell_heap (o := 4) HB.out.2.1
          rw [show (lkL t' (.slice pp' np pc') (.slice fp' nf fc') (.slice ip' ni ic') (.slice qp' nq qc') (.slice rp' nr rc') (.slice lp' nl lc') ti nx fr).toArray[4]? = some (.slice qp' nq qc') from rfl] at b1'
          obtain ⟨-, b1, o1, x, cs, rfl, hbX, hx, ⟨nv, rfl, hN⟩, hcl, hr⟩ := HL.out.1.qs.at hin
          obtain ⟨-, b2, o2, x2, cs2, rfl, hbY, hx2, ⟨nv2, rfl, hN2⟩, hcl2, hr2⟩ := HL.out.2.1.qs.at hin
          rw [hx] at hx2
          injection hx2 with hx2
          subst hx2
          obtain ⟨np1, nc1, rfl⟩ := hN.form
          obtain ⟨np2, nc2, rfl⟩ := hN2.form
          have bg : x.bs.length ≤ 10000000 := hPB x (List.mem_of_getElem? hx)
          obtain ⟨n1, hn1⟩ : ∃ n, n = x.bs.length := ⟨_, rfl⟩
          rw [← hn1] at hN hN2 hr hr2
          have HGG : Hid (Bt w X (.slice np1 n1 nc1) x.bs ∧ Bt w Y (.slice np2 n1 nc2) x.bs ∧ x.bs.length ≤ 10000000) := ⟨hN, hN2, bg⟩
          clear hN hN2 hn1 bg
          have r1 := range_keep hr HB.out.2.2.2 (by have := HXY.out; omega : b1 < w.heap.size)
          have r2 := range_keep hr2 HB.out.2.2.2 (by have := HXY.out; omega : b2 < w.heap.size)
          have hS : (fun w' : World => w'.cell? ⟨w.heap.size, 4, .none⟩ = some (.slice (some ⟨b1, o1, .none⟩) nq qc) ∧ w'.cell? ⟨w.heap.size + 1, 4, .none⟩ = some (.slice (some ⟨b2, o2, .none⟩) nq qc') ∧ w'.rangeAt b1 (o1 + i * 6) (x.l (.slice np1 n1 nc1)) ∧ w'.rangeAt b2 (o2 + i * 6) (x.l (.slice np2 n1 nc2))) wr.drew := ⟨a1, b1', r1, r2⟩
          have HD : Hid (AK w (lkL t (.slice pp np pc) (.slice fp nf fc) (.slice ip ni ic) (.slice (some ⟨b1, o1, .none⟩) nq qc) (.slice rp nr rc) (.slice lp nl lc) ti nx fr) (lkL t' (.slice pp' np pc') (.slice fp' nf fc') (.slice ip' ni ic') (.slice (some ⟨b2, o2, .none⟩) nq qc') (.slice rp' nr rc') (.slice lp' nl lc') ti nx fr) wr.drew) := HB.out.step (Below.refl _ _).drew
          clear hr hr2 hcl hcl2 hbX hbY hx HB
          go_upto_region 23 with fail
          clear a1 b1' r1 r2
          refine region_set (fun w' => w'.cell? ⟨w.heap.size, 4, .none⟩ = some (.slice (some ⟨b1, o1, .none⟩) nq qc) ∧ w'.cell? ⟨w.heap.size + 1, 4, .none⟩ = some (.slice (some ⟨b2, o2, .none⟩) nq qc') ∧ w'.rangeAt b1 (o1 + i * 6) (x.l (.slice np1 n1 nc1)) ∧ w'.rangeAt b2 (o2 + i * 6) (x.l (.slice np2 n1 nc2))) 10 [0, 5, 2, 7] (by kernel_rfl) ?_
          refine set_pure (i := 0) (v := .pointer (some ⟨w.heap.size, 4, .none⟩)) rfl (by kernel_rfl) (by kernel_rfl) (by kernel_rfl) (by kernel_rfl) (fun _ _ _ h => h) (Or.inl ⟨by rfl, fun ww hSw => by go_simp⟩) ?_
          simp only [x0,x1,x2,x3,x4,x5,x6]
          refine set_pure (i := 2) (v := .int .i64 i) rfl (by kernel_rfl) (by kernel_rfl) (by kernel_rfl) (by kernel_rfl) (fun _ _ _ h => h) (Or.inl ⟨by rfl, fun ww hSw => by go_simp⟩) ?_
          simp only [x0,x1,x2,x3,x4,x5,x6]
          refine set_pure (i := 5) (v := .pointer (some ⟨w.heap.size + 1, 4, .none⟩)) rfl (by kernel_rfl) (by kernel_rfl) (by kernel_rfl) (by kernel_rfl) (fun _ _ _ h => h) (Or.inl ⟨by rfl, fun ww hSw => by go_simp⟩) ?_
          simp only [x0,x1,x2,x3,x4,x5,x6]
          refine set_pure (i := 7) (v := .int .i64 i) rfl (by kernel_rfl) (by kernel_rfl) (by kernel_rfl) (by kernel_rfl) (fun _ _ _ h => h) (Or.inl ⟨by rfl, fun ww hSw => by go_simp⟩) ?_
          simp only [x0,x1,x2,x3,x4,x5,x6]
          refine sT 1 (.slice (some ⟨b1, o1, .none⟩) nq qc) rfl (fun ww hSw => by obtain ⟨hs1, hs2, hs3, hs4⟩ := hSw; go_simp) hS ?_
          simp only [x0,x1,x2,x3,x4,x5,x6]
          refine sT 3 (.pointer (some ⟨b1, o1 + i * 6, .none⟩)) rfl (fun ww hSw => by obtain ⟨hs1, hs2, hs3, hs4⟩ := hSw; go_simp) hS ?_
          simp only [x0,x1,x2,x3,x4,x5,x6]
          refine sV (i := 4) (v := .agg ((x.l (.slice np1 n1 nc1))).toArray) rfl (yieldsIf_load_mid (by rfl) 72 (.tmp 148) rfl (b1) (o1 + i * 6) rfl ((x.l (.slice np1 n1 nc1))) _ (fun ww hSw => hSw.2.2.1) Try.underlying72 rfl (by first | kernel_rfl | (rw [rfl]; kernel_rfl))) hS ?_
          simp only [x0,x1,x2,x3,x4,x5,x6]
          refine sT 6 (.slice (some ⟨b2, o2, .none⟩) nq qc') rfl (fun ww hSw => by obtain ⟨hs1, hs2, hs3, hs4⟩ := hSw; go_simp) hS ?_
          simp only [x0,x1,x2,x3,x4,x5,x6]
          refine sT 8 (.pointer (some ⟨b2, o2 + i * 6, .none⟩)) rfl (fun ww hSw => by obtain ⟨hs1, hs2, hs3, hs4⟩ := hSw; go_simp) hS ?_
          simp only [x0,x1,x2,x3,x4,x5,x6]
          refine sV (i := 9) (v := .agg ((x.l (.slice np2 n1 nc2))).toArray) rfl (yieldsIf_load_mid (by rfl) 72 (.tmp 153) rfl (b2) (o2 + i * 6) rfl ((x.l (.slice np2 n1 nc2))) _ (fun ww hSw => hSw.2.2.2) Try.underlying72 rfl (by first | kernel_rfl | (rw [rfl]; kernel_rfl))) hS ?_
          simp only [x0,x1,x2,x3,x4,x5,x6]
          refine set_tail 2 10 _ _ _ _ (by kernel_rfl) (by decide) ?_
          simp only [List.toList_toArray, List.drop_succ_cons, List.drop_zero]
          clear hS
          generalize wr.drew = WD at *
          go_wp2_with fail
          go_at_call 42
          refine (samePipe_eq x X Y np1 np2 n1 nc1 nc2 _ (Wd.keep HGG.out.1 (Nat.le_refl _) (HD.out.2.2.2.mono HXY.out.1)) (Wd.keep HGG.out.2.1 (Nat.le_refl _) (HD.out.2.2.2.mono HXY.out.2)) (by have := HXY.out; have := HD.out.2.2.1; omega) (by have := HXY.out; have := HD.out.2.2.1; omega) HGG.out.2.2).mono ?_
          rintro e W7 ⟨rfl, hB7⟩
          go_wp2
          exact ⟨⟨i + 1, by omega, by go_num, HD.out.step hB7⟩, by simp [intOf]; omega⟩
        ·have hnn : i = nq := by omega
         subst i
         have g0 : ¬ (nq : Int) < nq := by omega
         clear hi hin
         go_wp2
         go_ret
         exact ⟨rfl, HB.out.2.2.2⟩
end Go.Proofs.Ythopgmmodldljab
