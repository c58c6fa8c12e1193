import Derived.Test.YthopgmmodldljabAq
namespace Go.Proofs.Ythopgmmodldljab
open Go Go.RowKit
set_option linter.unusedVariables false
set_option linter.unusedSimpArgs false
/-- Nothing is longer than a million. -/
structure Sml (L : Lk) : Prop where
 p : L.procs.length ≤ 1048576
 f : L.files.length ≤ 1048576
 i : L.inos.length ≤ 1048576
 q : L.pipes.length ≤ 1048576
 r : L.ready.length ≤ 1048576
 l : L.line.length ≤ 1048576
 pn : ∀ p ∈ L.procs, p.nodes.length ≤ 1048576
 pg : ∀ p ∈ L.procs, p.pages.length ≤ 1048576
 ib : ∀ p ∈ L.inos, p.bl.length ≤ 1048576
 qb : ∀ p ∈ L.pipes, p.bs.length ≤ 1048576
def TwP (w : World) (L : Lk) (e : Ending) (w' : World) : Prop := ∃ pv fv iv qv rv lv E EI EQ, e = .returned (.agg (lkL L.tramp pv fv iv qv rv lv L.ticks L.next L.free).toArray) ∧ Below w.heap.size w w' ∧ E.map (·.1) = L.procs ∧ EI.map (·.1) = L.inos ∧ EQ.map (·.1) = L.pipes ∧
 Owns w' w.heap.size ([rowP E pv, rowF L.files fv, rowI EI iv, rowQ EQ qv, rowB L.ready rv, rowB L.line lv] ++ (rowsP E ++ rowsI EI ++ rowsQ EQ))
set_option maxRecDepth 100000 in
set_option maxHeartbeats 4000000 in
theorem twin_any {w : World} {X : Nat} {pv fv iv qv rv lv : Value} {L : Lk} (h : LkW w X pv fv iv qv rv lv L) (hX : X ≤ w.heap.size) (hs : Sml L) : Calls Try.prog 5 #[.agg (lkL L.tramp pv fv iv qv rv lv L.ticks L.next L.free).toArray] w (TwP w L) := by
 obtain ⟨pp, pc, rfl⟩ := h.ps.form
 obtain ⟨fp, fc, rfl⟩ := h.fs.form
 obtain ⟨ip, ic, rfl⟩ := h.is.form
 obtain ⟨qp, qc, rfl⟩ := h.qs.form
 obtain ⟨rp, rc, rfl⟩ := h.rd.form
 obtain ⟨lp, lc0, rfl⟩ := h.ln.form
 obtain ⟨np, hnp⟩ : ∃ n, n = L.procs.length := ⟨_, rfl⟩
 obtain ⟨nf, hnf⟩ : ∃ n, n = L.files.length := ⟨_, rfl⟩
 obtain ⟨ni, hni⟩ : ∃ n, n = L.inos.length := ⟨_, rfl⟩
 obtain ⟨nq, hnq⟩ : ∃ n, n = L.pipes.length := ⟨_, rfl⟩
 obtain ⟨nr, hnr⟩ : ∃ n, n = L.ready.length := ⟨_, rfl⟩
 obtain ⟨nl, hnl⟩ : ∃ n, n = L.line.length := ⟨_, rfl⟩
 rw [← hnp, ← hnf, ← hni, ← hnq, ← hnr, ← hnl] at h ⊢
 have H : Hid (LkW w X (.slice pp np pc) (.slice fp nf fc) (.slice ip ni ic) (.slice qp nq qc) (.slice rp nr rc) (.slice lp nl lc0) L) := h
 have HS : Hid (Sml L) := hs
 have HN : Hid (np = L.procs.length ∧ nf = L.files.length ∧ ni = L.inos.length ∧ nq = L.pipes.length ∧ nr = L.ready.length ∧ nl = L.line.length) := ⟨hnp, hnf, hni, hnq, hnr, hnl⟩
 have bp : np ≤ 1048576 := by rw [hnp]; exact hs.p
 have bf : nf ≤ 1048576 := by rw [hnf]; exact hs.f
 have bi : ni ≤ 1048576 := by rw [hni]; exact hs.i
 have bq : nq ≤ 1048576 := by rw [hnq]; exact hs.q
 clear h hs hnp hnf hni hnq hnr hnl
 obtain ⟨mk, hmk⟩ : ∃ mk : Value → Value → Value → Value → Value → Value → List Value, mk = fun a b c d e f => lkL L.tramp a b c d e f L.ticks L.next L.free := ⟨_, rfl⟩
 have HMK : Hid (∀ a b c d e f, mk a b c d e f = lkL L.tramp a b c d e f L.ticks L.next L.free) := fun a b c d e f => by rw [hmk]
 obtain ⟨lc, hlc⟩ : ∃ lc, lc = mk (.slice pp np pc) (.slice fp nf fc) (.slice ip ni ic) (.slice qp nq qc) (.slice rp nr rc) (.slice lp nl lc0) := ⟨_, rfl⟩
 rw [← HMK.out, ← hlc]
 have HLC : Hid (lc = mk (.slice pp np pc) (.slice fp nf fc) (.slice ip ni ic) (.slice qp nq qc) (.slice rp nr rc) (.slice lp nl lc0)) := hlc
 have HLL : Hid (lc.length = 10) := by rw [hlc, hmk]; rfl
 have HO : Hid (∀ v ∈ lc, v.oneCell' = true) := by rw [hlc, hmk]; exact lkL_one _ _ _ _ rfl rfl rfl rfl rfl rfl
 have HL1 : Hid (lc[1]? = some (.slice pp np pc) ∧ lc[2]? = some (.slice fp nf fc) ∧ lc[3]? = some (.slice ip ni ic) ∧ lc[4]? = some (.slice qp nq qc) ∧ lc[5]? = some (.slice rp nr rc) ∧ lc[6]? = some (.slice lp nl lc0)) := by rw [hlc, hmk]; exact ⟨rfl, rfl, rfl, rfl, rfl, rfl⟩
 clear hlc hmk
 go_enter Try.func5, Try.ntmps5
 go_wp2_with (first
  | (refine wpList_boxG 31 lc 1 (.tmp 0) _ rfl rfl rfl rfl ?_; intro W1 hW1 hB1 hs1)
  | (refine wpList_is (.alloc 31) rfl ?_; refine wpList_laidG 31 10 176 info33 lc HLL.out HO.out 3 (.tmp 13) _ _ rfl rfl rfl rfl rfl rfl rfl rfl ?_; intro W3 hW3 hB3 hs3; have hcm := cell_heap (o := 1) hW3; have hfm := frozen_heap (o := 1) hW3; rw [show lc.toArray[1]? = some (.slice pp np pc) by simpa using HL1.out.1] at hcm; rw [hs2] at hcm hfm)
  | (refine wpList_is (.alloc 31) rfl ?_; refine wpList_allocG 31 10 176 info33 2 _ rfl rfl rfl ?_; intro W2 zc hzl hW2 hB2 hs2; rw [hs1] at hs2)
  | (refine wpList_is (.load 31 (.tmp 1)) rfl ?_; refine wpList_loadG 31 10 176 info33 _ Try.underlying31 rfl lc HLL.out w.heap.size 0 (.tmp 1) rfl rfl rfl (range_heap ((hB2.block w.heap.size (by omega)).trans hW1)) (some 13) rfl ?_)
  | fail)
 have HT : Hid (Owns (W3.setCell ⟨w.heap.size + 1 + 1, 1, .none⟩ (.slice none 0 0)) w.heap.size ([bx 31 10 w.heap.size lc, bx 31 10 (w.heap.size + 1) zc, bx 31 10 (w.heap.size + 1 + 1) (mk (.slice none 0 0) (.slice fp nf fc) (.slice ip ni ic) (.slice qp nq qc) (.slice rp nr rc) (.slice lp nl lc0)), rowP [] (.slice none 0 0)] ++ rowsP []) ∧ Below w.heap.size w (W3.setCell ⟨w.heap.size + 1 + 1, 1, .none⟩ (.slice none 0 0)) ∧ w.heap.size + 1 + 1 < (W3.setCell ⟨w.heap.size + 1 + 1, 1, .none⟩ (.slice none 0 0)).heap.size) := by
  have o1 := (Owns.nil w w.heap.size).new (k := 10) hW1 hB1 HLL.out (Nat.le_refl _)
  have o2 := o1.new (k := 10) hW2 hB2 hzl (by omega)
  have o3 := o2.new (k := 10) hW3 hB3 HLL.out (by omega)
  rw [hs2, hs1] at o3
  have o4 := o3.setAt (A := []) (g := w.heap.size + 1 + 1) (j := 1) (.slice none 0 0) rfl rfl (by show 1 < lc.length; rw [HLL.out]; omega)
  have eM : lc.set 1 (.slice none 0 0) = mk (.slice none 0 0) (.slice fp nf fc) (.slice ip ni ic) (.slice qp nq qc) (.slice rp nr rc) (.slice lp nl lc0) := by rw [HLC.out, HMK.out, HMK.out]; rfl
  refine ⟨?_, ?_, by simp only [World.size_setCell]; omega⟩
  ·have o5 : Owns _ w.heap.size (rowP [] (.slice none 0 0) :: _) := o4.push (Below.refl _ _) (World.ownsRow_nil _ _ _ _) (by simp only [World.size_setCell]; omega)
   refine o5.perm ?_
   simp only [List.nil_append, rowsP, List.flatMap_nil, List.append_nil]
   show List.Perm [rowP [] (.slice none 0 0), bx 31 10 (w.heap.size + 1 + 1) (lc.set 1 (.slice none 0 0)), bx 31 10 (w.heap.size + 1) zc, bx 31 10 w.heap.size lc] _
   rw [eM]
   exact (List.reverse_perm _).symm
  ·exact ((hB1.trans (hB2.mono (by omega))).trans (hB3.mono (by omega))).setCell (by show _ ≤ w.heap.size + 1 + 1; omega) _
 clear hW1 hW2 hW3 hB1 hB2 hB3 hs1 hs2 hs3 hcm hfm hzl
 generalize W3.setCell ⟨w.heap.size + 1 + 1, 1, .none⟩ (.slice none 0 0) = W at *
 obtain ⟨z, hz⟩ : ∃ z, z = w.heap.size := ⟨_, rfl⟩
 obtain ⟨z1, hz1⟩ : ∃ z1, z1 = w.heap.size + 1 := ⟨_, rfl⟩
 obtain ⟨z2, hz2⟩ : ∃ z2, z2 = w.heap.size + 1 + 1 := ⟨_, rfl⟩
 rw [← hz2, ← hz1] at HT ⊢
 have HZ : Hid (z1 = w.heap.size + 1 ∧ z2 = w.heap.size + 1 + 1) := ⟨hz1, hz2⟩
 clear hz hz1 hz2
 go_loopw [4] (fun k wr => ∃ (i : Nat), i ≤ np ∧ k = .int .i64 i ∧ Hid (∃ E v, E.map (·.1) = L.procs.take i ∧ Owns wr w.heap.size ([bx 31 10 w.heap.size lc, bx 31 10 z1 zc, bx 31 10 z2 (mk v (.slice fp nf fc) (.slice ip ni ic) (.slice qp nq qc) (.slice rp nr rc) (.slice lp nl lc0)), rowP E v] ++ rowsP E) ∧ Below w.heap.size w wr ∧ z2 < wr.heap.size)) (fun v _ => (np - intOf v).toNat)
 case atStart => exact ⟨0, by omega, rfl, [], _, by simp, HT.out⟩
 case round =>
  clear HT
  obtain ⟨i, hi, rfl, HB⟩ := hrel
  obtain ⟨E, v, hE, hO, hB, hzz⟩ := HB.out
  have c1 := (hO.cell (t := 31) (k := 10) (b := w.heap.size) (cs := lc) (by simp) 1).1
  rw [HL1.out.1] at c1
  by_cases hin : i < np
  ·have i1 : (i : Int) < np := by omega
   obtain ⟨-, b, o, x, cs, rfl, hbX, hx, ⟨nv, gv, rfl, hN, hG⟩, hcl, hr⟩ := H.out.ps.at hin
   have hr' := range_keep hr hB (by omega : b < w.heap.size)
   have HR : Hid (w.rangeAt b (o + i * 70) (x.l nv gv)) := hr
   have HE : Hid (E.map (·.1) = L.procs.take i ∧ L.procs[i]? = some x) := ⟨hE, hx⟩
   have HOO : Hid (Owns wr w.heap.size ([bx 31 10 w.heap.size lc, bx 31 10 z1 zc, bx 31 10 z2 (mk v (.slice fp nf fc) (.slice ip ni ic) (.slice qp nq qc) (.slice rp nr rc) (.slice lp nl lc0)), rowP E v] ++ rowsP E) ∧ Below w.heap.size w wr ∧ z2 < wr.heap.size) := ⟨hO, hB, hzz⟩
   have HOX : Hid (b < w.heap.size) := by show b < _; omega
   have HNG : Hid (Wd w X nv x.nodes ∧ Gs w X gv x.pages) := ⟨hN, hG⟩
   have HP1 : Hid (∀ v ∈ x.l nv gv, v.oneCell' = true) := pcl_one x hN.one hG.one
   obtain ⟨gp, gc, rfl⟩ := hG.form
   obtain ⟨ng, hng⟩ : ∃ n, n = x.pages.length := ⟨_, rfl⟩
   rw [← hng] at hG HR HNG HP1 hr'
   have HNGL : Hid (ng = x.pages.length) := hng
   have bg : ng ≤ 1048576 := by rw [hng]; exact HS.out.pg x (List.mem_of_getElem? hx)
   have bn : x.nodes.length ≤ 1048576 := HS.out.pn x (List.mem_of_getElem? hx)
   clear hng
   clear hE hO hB hzz HB hr hcl hN hG hx hbX
   go_wp2_with (first
    | (refine wpList_is (.load 60 (.tmp 25)) rfl ?_; refine wpList_loadG 60 70 584 info55 _ Try.underlying60 rfl (x.l nv (.slice gp ng gc)) rfl b (o + i * 70) (.tmp 25) rfl rfl rfl hr' (some 26) rfl ?_)
    | (refine wpList_is (.alloc 60) rfl ?_; refine wpList_laidG 60 70 584 info55 (x.l nv (.slice gp ng gc)) rfl HP1.out 5 (.tmp 26) _ _ rfl rfl rfl rfl rfl rfl rfl rfl ?_; intro W1 hW1 hB1 hs1; have c2 := cell_heap (o := 44) hW1; have c3 := frozen_heap (o := 44) hW1; rw [show (x.l nv (.slice gp ng gc)).toArray[44]? = some nv from rfl] at c2)
    | fail)
   have o1 := HOO.out.1.new (k := 70) hW1 hB1 rfl HOO.out.2.1.size
   have b1 := HOO.out.2.1.trans (hB1.mono HOO.out.2.1.size)
   have sz0 := HOO.out.2.1.size
   refine (words_any (Wd.keep HNG.out.1 hX (b1.mono hX)) (by omega) bn).mono ?_
   rintro e W2 ⟨u, rfl, hu, hB2⟩
   obtain ⟨up, uc, rfl⟩ := own_form hu
   have o2 : Owns W2 w.heap.size (rowN x.nodes (.slice up x.nodes.length uc) :: _) := o1.push (r := rowN x.nodes (.slice up x.nodes.length uc)) hB2 hu (by omega)
   have b2 := b1.trans (hB2.mono (by omega))
   have c2' := (hB2.cell (p := ⟨wr.heap.size, 44, .none⟩) (by show wr.heap.size < W1.heap.size; omega)).trans c2
   have c3' := (hB2.frozen (p := ⟨wr.heap.size, 44, .none⟩) (by show wr.heap.size < W1.heap.size; omega)).trans c3
   obtain ⟨y, hy⟩ : ∃ y, y = wr.heap.size := ⟨_, rfl⟩
   rw [← hy] at o2 c2' c3' ⊢
   have hyz : w.heap.size ≤ y := by rw [hy]; exact HOO.out.2.1.size
   have hyz2 : z2 < y := by rw [hy]; exact HOO.out.2.2
   have hys : y < W2.heap.size := by have := hB2.size; omega
   have HO2 : Hid (Owns W2 w.heap.size (rowN x.nodes (.slice up x.nodes.length uc) :: bx 60 70 y (x.l nv (.slice gp ng gc)) :: ([bx 31 10 w.heap.size lc, bx 31 10 z1 zc, bx 31 10 z2 (mk v (.slice fp nf fc) (.slice ip ni ic) (.slice qp nq qc) (.slice rp nr rc) (.slice lp nl lc0)), rowP E v] ++ rowsP E)) ∧ Below w.heap.size w W2) := ⟨o2, b2⟩
   clear sz0 o1 o2 b1 b2 hu hB1 hW1 hs1 hB2 c1 c2 c3 hr' HOO hy
   go_wp2
   clear c2' c3'
   have HT2 : Hid (Owns (W2.setCell ⟨y, 44, .none⟩ (.slice up x.nodes.length uc)) w.heap.size ([bx 31 10 w.heap.size lc, bx 31 10 z1 zc, bx 31 10 z2 (mk v (.slice fp nf fc) (.slice ip ni ic) (.slice qp nq qc) (.slice rp nr rc) (.slice lp nl lc0)), rowP E v, bx 60 70 y (x.l (.slice up x.nodes.length uc) (.slice gp ng gc)), rowG (x.pages.take 0) (.slice none 0 0)] ++ (rowN x.nodes (.slice up x.nodes.length uc) :: rowsP E)) ∧ Below w.heap.size w (W2.setCell ⟨y, 44, .none⟩ (.slice up x.nodes.length uc)) ∧ y < (W2.setCell ⟨y, 44, .none⟩ (.slice up x.nodes.length uc)).heap.size) := by
    obtain ⟨o2, b2⟩ := HO2.out
    have o3 := o2.setAt (A := [rowN x.nodes (.slice up x.nodes.length uc)]) (g := y) (j := 44) (.slice up x.nodes.length uc) rfl rfl (by show 44 < 70; omega)
    have o4 : Owns _ w.heap.size (rowG (x.pages.take 0) (.slice none 0 0) :: _) := o3.push (r := rowG (x.pages.take 0) (.slice none 0 0)) (Below.refl _ _) (World.ownsRow_nil _ _ _ _) (by simp only [World.size_setCell]; omega)
    refine ⟨o4.perm ?_, b2.trans (set_bel _ hyz), by simp only [World.size_setCell]; omega⟩
    show List.Perm (rowG (x.pages.take 0) (.slice none 0 0) :: rowN x.nodes (.slice up x.nodes.length uc) :: bx 60 70 y (x.l (.slice up x.nodes.length uc) (.slice gp ng gc)) :: bx 31 10 w.heap.size lc :: bx 31 10 z1 zc :: bx 31 10 z2 _ :: rowP E v :: rowsP E) (bx 31 10 w.heap.size lc :: bx 31 10 z1 zc :: bx 31 10 z2 _ :: rowP E v :: bx 60 70 y (x.l (.slice up x.nodes.length uc) (.slice gp ng gc)) :: rowG (x.pages.take 0) (.slice none 0 0) :: rowN x.nodes (.slice up x.nodes.length uc) :: rowsP E)
    generalize rowG (x.pages.take 0) (.slice none 0 0) = r0
    generalize rowN x.nodes (.slice up x.nodes.length uc) = r1
    generalize bx 60 70 y (x.l (.slice up x.nodes.length uc) (.slice gp ng gc)) = r2
    generalize bx 31 10 w.heap.size lc = r3
    generalize bx 31 10 z1 zc = r4
    generalize bx 31 10 z2 _ = r5
    generalize rowP E v = r6
    generalize rowsP E = rr
    exact ((List.reverse_perm [r2, r1, r0]).append_right (r3 :: r4 :: r5 :: r6 :: rr)).trans (List.perm_append_comm (l₁ := [r2, r1, r0]) (l₂ := [r3, r4, r5, r6]) |>.append_right rr |>.trans ((List.Perm.append_left [r3, r4, r5, r6] ((List.Perm.swap r0 r1 []).cons r2)).append_right rr))
   clear HO2
   generalize W2.setCell ⟨y, 44, .none⟩ (.slice up x.nodes.length uc) = W3 at *
   go_loopw [6, 7] (fun v6 k7 wq => ∃ (k : Nat), k ≤ ng ∧ k7 = .int .i64 k ∧ Hid (Owns wq w.heap.size ([bx 31 10 w.heap.size lc, bx 31 10 z1 zc, bx 31 10 z2 (mk v (.slice fp nf fc) (.slice ip ni ic) (.slice qp nq qc) (.slice rp nr rc) (.slice lp nl lc0)), rowP E v, bx 60 70 y (x.l (.slice up x.nodes.length uc) (.slice gp ng gc)), rowG (x.pages.take k) v6] ++ (rowN x.nodes (.slice up x.nodes.length uc) :: rowsP E)) ∧ Below w.heap.size w wq ∧ y < wq.heap.size)) (fun _ v _ => (ng - intOf v).toNat)
   case atStart => exact ⟨0, by omega, rfl, HT2.out⟩
   case round =>
    clear HT2
    obtain ⟨k, hk, rfl, HQ⟩ := hrel
    obtain ⟨hO, hB, hyw⟩ := HQ.out
    have c1 := (hO.cell (t := 31) (k := 10) (b := w.heap.size) (cs := lc) (by simp) 1).1
    rw [HL1.out.1] at c1
    have c4 : wr.cell? ⟨b, o + i * 70 + 45, .none⟩ = some (.slice gp ng gc) := range_keep HR.out hB (by have := HOX.out; omega) 45 _ rfl
    by_cases hkn : k < ng
    ·have k1 : (k : Int) < ng := by omega
     obtain ⟨-, gb, go, xg, cs, rfl, hgX, hxg, hcs, hcl, hrg⟩ := HNG.out.2.at hkn
     subst hcs
     have hrg' := range_keep hrg hB (by omega : gb < w.heap.size)
     have HXG : Hid (x.pages[k]? = some xg) := hxg
     have HX1 : Hid (∀ u ∈ xg.l, u.oneCell' = true) := by intro u hu; simp only [Pg.l, List.mem_cons, List.not_mem_nil, or_false] at hu; rcases hu with rfl | rfl | rfl <;> rfl
     clear hrg hcl hxg hO hB hyw hgX
     have hbase : w.heap.size ≤ wr.heap.size := HQ.out.2.1.size
     go_wp2_with (first
      | (refine wpList_is (.load 65 (.tmp 50)) rfl ?_; refine wpList_loadG 65 3 24 info81 _ Try.underlying65 rfl xg.l rfl gb (go + k * 3) (.tmp 50) rfl rfl rfl hrg' (some 51) rfl ?_)
      | (refine wpList_is (.buildSlice 54 1 #[(0, .tmp 51)]) rfl ?_; refine wpList_pushG (A := [bx 31 10 w.heap.size lc, bx 31 10 z1 zc, bx 31 10 z2 (mk v (.slice fp nf fc) (.slice ip ni ic) (.slice qp nq qc) (.slice rp nr rc) (.slice lp nl lc0)), rowP E v, bx 60 70 y (x.l (.slice up x.nodes.length uc) (.slice (some ⟨gb, go, .none⟩) ng gc))]) (r := rowG (x.pages.take k) u6) (B := rowN x.nodes (.slice up x.nodes.length uc) :: rowsP E) 54 65 3 24 info81 Try.underlying54 (by decide) (by decide) (by decide) HQ.out.1 rfl rfl (by show (x.pages.take k).length ≤ _; rw [List.length_take]; omega) hbase xg.l rfl HX1.out 51 52 (.tmp 42) rfl rfl rfl rfl rfl rfl (some 53) rfl rfl rfl ?_; intro v' w5 hO5 hB5)
      | fail)
     have hl5 := hB5.size
     refine ⟨⟨k + 1, by omega, by go_num, ?_, HQ.out.2.1.trans hB5, by have := HQ.out.2.2; omega⟩, by simp [intOf]; omega⟩
     have e1 : x.pages.take (k + 1) = x.pages.take k ++ [xg] := by rw [List.take_add_one, HXG.out]; rfl
     have e2 : (x.pages.take k).length = k := by rw [List.length_take]; have := HNGL.out; omega
     have e3 : rowG (x.pages.take (k + 1)) v' = ⟨65, 3, (rowG (x.pages.take k) u6).n + 1, v', (rowG (x.pages.take k) u6).xs ++ xg.l⟩ := by
      rw [e1]
      simp [rowG]
     rw [e3]
     exact hO5
    ·have k1 : ¬ (k : Int) < ng := by omega
     obtain rfl : k = ng := by omega
     have e1 : x.pages.take k = x.pages := by rw [List.take_of_length_le]; have := HNGL.out; omega
     rw [e1] at hO
     have c5 := (hO.cell (t := 60) (k := 70) (b := y) (cs := x.l (.slice up x.nodes.length uc) (.slice gp k gc)) (by simp) 45)
     rw [show (x.l (.slice up x.nodes.length uc) (.slice gp k gc))[45]? = some (.slice gp k gc) from rfl] at c5
     obtain ⟨c5, c6⟩ := c5
     have hg6 : wr.ownsRow w.heap.size 65 3 u6 x.pages.length ((x.pages.map Pg.l).flatten) := hO.own (rowG x.pages u6) (by simp)
     obtain ⟨p6, c7, rfl⟩ := own_form hg6
     obtain ⟨g', hg'⟩ : ∃ g', g' = Value.slice p6 x.pages.length c7 := ⟨_, rfl⟩
     have HQ2 : Hid (Owns wr w.heap.size ([bx 31 10 w.heap.size lc, bx 31 10 z1 zc, bx 31 10 z2 (mk v (.slice fp nf fc) (.slice ip ni ic) (.slice qp nq qc) (.slice rp nr rc) (.slice lp nl lc0)), rowP E v, bx 60 70 y (x.l (.slice up x.nodes.length uc) (.slice gp k gc)), rowG x.pages (.slice p6 x.pages.length c7)] ++ (rowN x.nodes (.slice up x.nodes.length uc) :: rowsP E)) ∧ Below w.heap.size w wr ∧ y < wr.heap.size) := ⟨hO, hB, hyw⟩
     clear hg6 hO hB hyw HQ e1 hg' g'
     go_upto_region 14 with fail
     clear c1 c4 c5 c6
     have HT3 : Hid (Owns (wr.setCell ⟨y, 45, .none⟩ (.slice p6 x.pages.length c7)) w.heap.size ([bx 31 10 w.heap.size lc, bx 31 10 z1 zc, bx 31 10 z2 (mk v (.slice fp nf fc) (.slice ip ni ic) (.slice qp nq qc) (.slice rp nr rc) (.slice lp nl lc0)), rowP E v, bx 60 70 y (x.l (.slice up x.nodes.length uc) (.slice p6 x.pages.length c7)), rowG x.pages (.slice p6 x.pages.length c7)] ++ (rowN x.nodes (.slice up x.nodes.length uc) :: rowsP E)) ∧ Below w.heap.size w (wr.setCell ⟨y, 45, .none⟩ (.slice p6 x.pages.length c7)) ∧ y < (wr.setCell ⟨y, 45, .none⟩ (.slice p6 x.pages.length c7)).heap.size) := by
      obtain ⟨o2, b2, l2⟩ := HQ2.out
      exact ⟨o2.setAt (A := [bx 31 10 w.heap.size lc, bx 31 10 z1 zc, bx 31 10 z2 (mk v (.slice fp nf fc) (.slice ip ni ic) (.slice qp nq qc) (.slice rp nr rc) (.slice lp nl lc0)), rowP E v]) (g := y) (j := 45) (.slice p6 x.pages.length c7) rfl rfl (by show 45 < 70; omega), b2.trans (set_bel _ hyz), by simp only [World.size_setCell]; omega⟩
     clear HQ2
     generalize wr.setCell ⟨y, 45, .none⟩ (.slice p6 x.pages.length c7) = W4 at *
     obtain ⟨o3, b3, l3⟩ := HT3.out
     have d1 := o3.cell (t := 31) (k := 10) (b := z2) (cs := (mk v (.slice fp nf fc) (.slice ip ni ic) (.slice qp nq qc) (.slice rp nr rc) (.slice lp nl lc0))) (by simp) 1
     rw [show (mk v (.slice fp nf fc) (.slice ip ni ic) (.slice qp nq qc) (.slice rp nr rc) (.slice lp nl lc0))[1]? = some v by rw [HMK.out]; rfl] at d1
     obtain ⟨d1, d2⟩ := d1
     have hrg : W4.rangeAt y 0 (x.l (.slice up x.nodes.length uc) (.slice p6 x.pages.length c7)) := range_heap (o3.bx (t := 60) (k := 70) (by simp))
     have hvv : W4.ownsRow w.heap.size 60 70 v E.length ((E.map PE.l).flatten) := o3.own (rowP E v) (by simp)
     obtain ⟨vp, vc, rfl⟩ := own_form hvv
     have hEl : E.length ≤ 1048576 := by
      have h1 := congrArg List.length HE.out.1
      rw [List.length_map, List.length_take] at h1
      omega
     clear o3 hvv
     go_wp2_with (first
      | (refine wpList_is (.load 60 (.tmp 5)) rfl ?_; refine wpList_loadG 60 70 584 info55 _ Try.underlying60 rfl (x.l (.slice up x.nodes.length uc) (.slice p6 x.pages.length c7)) rfl y 0 (.tmp 5) rfl rfl rfl hrg (some 58) rfl ?_)
      | (refine wpList_is (.buildSlice 23 1 #[(0, .tmp 58)]) rfl ?_; refine wpList_pushG (A := [bx 31 10 w.heap.size lc, bx 31 10 z1 zc, bx 31 10 z2 (mk (.slice vp E.length vc) (.slice fp nf fc) (.slice ip ni ic) (.slice qp nq qc) (.slice rp nr rc) (.slice lp nl lc0))]) (r := rowP E (.slice vp E.length vc)) (B := bx 60 70 y (x.l (.slice up x.nodes.length uc) (.slice p6 x.pages.length c7)) :: rowG x.pages (.slice p6 x.pages.length c7) :: rowN x.nodes (.slice up x.nodes.length uc) :: rowsP E) 23 60 70 584 info55 Try.underlying23 (by decide) (by decide) (by decide) HT3.out.1 rfl rfl (by show E.length ≤ _; omega) b3.size (x.l (.slice up x.nodes.length uc) (.slice p6 x.pages.length c7)) rfl (pcl_one x rfl rfl) 58 59 (.tmp 57) rfl rfl rfl rfl rfl rfl (some 60) rfl rfl rfl ?_; intro v5 w5 hO5 hB5; have hv5 : w5.ownsRow w.heap.size 60 70 v5 (E.length + 1) _ := hO5.own _ (List.mem_append_right _ (List.mem_cons_self ..)); obtain ⟨vp5, vc5, rfl⟩ := own_form hv5; have d3 := hO5.cell (t := 31) (k := 10) (b := z2) (cs := mk (.slice vp E.length vc) (.slice fp nf fc) (.slice ip ni ic) (.slice qp nq qc) (.slice rp nr rc) (.slice lp nl lc0)) (List.mem_append_left _ (by simp)) 1; rw [show (mk (.slice vp E.length vc) (.slice fp nf fc) (.slice ip ni ic) (.slice qp nq qc) (.slice rp nr rc) (.slice lp nl lc0))[1]? = some (.slice vp E.length vc) by rw [HMK.out]; rfl] at d3; obtain ⟨d3, d4⟩ := d3)
      | fail)
     clear d1 d2 d3 d4 hrg
     have h5 : w.heap.size ≤ w5.heap.size := Nat.le_trans b3.size hB5.size
     have hzA := HZ.out
     refine ⟨⟨i + 1, by omega, by go_num, E ++ [(x, (.slice up x.nodes.length uc), (.slice p6 x.pages.length c7))], .slice vp5 (E.length + 1) vc5, ?_, ?_, (b3.trans hB5).trans (set_bel _ (by omega)), by simp only [World.size_setCell]; have := hB5.size; omega⟩, by simp [intOf]; omega⟩
     ·rw [List.map_append, HE.out.1, List.take_add_one, HE.out.2]; rfl
     ·have o6 := Owns.setAt (A := [bx 31 10 w.heap.size lc, bx 31 10 z1 zc]) (g := z2) (j := 1) hO5 (.slice vp5 (E.length + 1) vc5) rfl rfl (by show 1 < (mk (.slice vp E.length vc) (.slice fp nf fc) (.slice ip ni ic) (.slice qp nq qc) (.slice rp nr rc) (.slice lp nl lc0)).length; rw [HMK.out]; show 1 < 10; omega)
      have eM : (mk (.slice vp E.length vc) (.slice fp nf fc) (.slice ip ni ic) (.slice qp nq qc) (.slice rp nr rc) (.slice lp nl lc0)).set 1 (.slice vp5 (E.length + 1) vc5) = mk (.slice vp5 (E.length + 1) vc5) (.slice fp nf fc) (.slice ip ni ic) (.slice qp nq qc) (.slice rp nr rc) (.slice lp nl lc0) := by rw [HMK.out, HMK.out]; rfl
      have eP : rowP (E ++ [(x, (.slice up x.nodes.length uc), (.slice p6 x.pages.length c7))]) (.slice vp5 (E.length + 1) vc5) = ⟨60, 70, (rowP E (.slice vp E.length vc)).n + 1, .slice vp5 (E.length + 1) vc5, (rowP E (.slice vp E.length vc)).xs ++ x.l (.slice up x.nodes.length uc) (.slice p6 x.pages.length c7)⟩ := by simp [rowP, PE.l]
      rw [eP]
      have o7 : Owns (w5.setCell ⟨z2, 1, .none⟩ (.slice vp5 (E.length + 1) vc5)) w.heap.size ((bx 31 10 w.heap.size lc :: bx 31 10 z1 zc :: bx 31 10 z2 (mk (.slice vp5 (E.length + 1) vc5) (.slice fp nf fc) (.slice ip ni ic) (.slice qp nq qc) (.slice rp nr rc) (.slice lp nl lc0)) :: ⟨60, 70, (rowP E (.slice vp E.length vc)).n + 1, .slice vp5 (E.length + 1) vc5, (rowP E (.slice vp E.length vc)).xs ++ x.l (.slice up x.nodes.length uc) (.slice p6 x.pages.length c7)⟩ :: bx 60 70 y (x.l (.slice up x.nodes.length uc) (.slice p6 x.pages.length c7)) :: rowG x.pages (.slice p6 x.pages.length c7) :: rowN x.nodes (.slice up x.nodes.length uc) :: rowsP E)) := by
       have := o6
       simp only [bx, List.cons_append, List.nil_append] at this ⊢
       rw [eM] at this
       exact this
      clear o6 hO5
      refine (o7.sub (R' := bx 31 10 w.heap.size lc :: bx 31 10 z1 zc :: bx 31 10 z2 (mk (.slice vp5 (E.length + 1) vc5) (.slice fp nf fc) (.slice ip ni ic) (.slice qp nq qc) (.slice rp nr rc) (.slice lp nl lc0)) :: ⟨60, 70, (rowP E (.slice vp E.length vc)).n + 1, .slice vp5 (E.length + 1) vc5, (rowP E (.slice vp E.length vc)).xs ++ x.l (.slice up x.nodes.length uc) (.slice p6 x.pages.length c7)⟩ :: rowG x.pages (.slice p6 x.pages.length c7) :: rowN x.nodes (.slice up x.nodes.length uc) :: rowsP E) ?_).perm ?_
      ·refine .cons_cons _ (.cons_cons _ (.cons_cons _ (.cons_cons _ (.cons _ (.refl _)))))
      ·simp only [rowsP, List.flatMap_append, List.flatMap_cons, List.flatMap_nil, List.append_nil, List.cons_append, List.nil_append]
       refine .cons _ (.cons _ (.cons _ (.cons _ ?_)))
       exact (List.Perm.swap _ _ _).trans (List.perm_append_comm (l₁ := [_, _]))
  ·have i1 : ¬ (i : Int) < np := by omega
   obtain rfl : i = np := by omega
   have hvv : wr.ownsRow w.heap.size 60 70 v E.length ((E.map PE.l).flatten) := hO.own (rowP E v) (by simp)
   obtain ⟨vp, vc, rfl⟩ := own_form hvv
   have HE : Hid (E.map (·.1) = L.procs) := by
    show _ = _
    rw [hE, List.take_of_length_le]
    have := HN.out.1
    omega
   have hEl : E.length ≤ 1048576 := by
    have h1 := congrArg List.length hE
    rw [List.length_map, List.length_take] at h1
    omega
   obtain ⟨PV, hPV⟩ : ∃ PV, PV = Value.slice vp E.length vc := ⟨_, rfl⟩
   have d2 := hO.cell (t := 31) (k := 10) (b := z2) (cs := mk (.slice vp E.length vc) (.slice fp nf fc) (.slice ip ni ic) (.slice qp nq qc) (.slice rp nr rc) (.slice lp nl lc0)) (by simp) 2
   rw [show (mk (.slice vp E.length vc) (.slice fp nf fc) (.slice ip ni ic) (.slice qp nq qc) (.slice rp nr rc) (.slice lp nl lc0))[2]? = some (.slice fp nf fc) by rw [HMK.out]; rfl] at d2
   obtain ⟨d2, d3⟩ := d2
   have HOO : Hid (Owns wr w.heap.size ([bx 31 10 w.heap.size lc, bx 31 10 z1 zc, bx 31 10 z2 (mk (.slice vp E.length vc) (.slice fp nf fc) (.slice ip ni ic) (.slice qp nq qc) (.slice rp nr rc) (.slice lp nl lc0)), rowP E (.slice vp E.length vc)] ++ rowsP E) ∧ Below w.heap.size w wr ∧ z2 < wr.heap.size) := ⟨hO, hB, hzz⟩
   clear hO hB hzz hE hvv HB hPV PV
   go_wp2
   clear d2 d3
   have HT : Hid (Owns (wr.setCell ⟨z2, 2, .none⟩ (.slice none 0 0)) w.heap.size ([bx 31 10 w.heap.size lc, bx 31 10 z1 zc, bx 31 10 z2 (mk (.slice vp E.length vc) (.slice none 0 0) (.slice ip ni ic) (.slice qp nq qc) (.slice rp nr rc) (.slice lp nl lc0)), rowP E (.slice vp E.length vc), rowF (L.files.take 0) (.slice none 0 0)] ++ rowsP E) ∧ Below w.heap.size w (wr.setCell ⟨z2, 2, .none⟩ (.slice none 0 0)) ∧ z2 < (wr.setCell ⟨z2, 2, .none⟩ (.slice none 0 0)).heap.size) := by
    obtain ⟨o1, b1, l1⟩ := HOO.out
    have o2 := Owns.setAt (A := [bx 31 10 w.heap.size lc, bx 31 10 z1 zc]) (g := z2) (j := 2) o1 (.slice none 0 0) rfl rfl (by show 2 < (mk _ _ _ _ _ _).length; rw [HMK.out]; show 2 < 10; omega)
    have o3 : Owns _ w.heap.size (rowF (L.files.take 0) (.slice none 0 0) :: _) := o2.push (r := rowF (L.files.take 0) (.slice none 0 0)) (Below.refl _ _) (World.ownsRow_nil _ _ _ _) (by simp only [World.size_setCell]; have := HZ.out; omega)
    have eM : (mk (.slice vp E.length vc) (.slice fp nf fc) (.slice ip ni ic) (.slice qp nq qc) (.slice rp nr rc) (.slice lp nl lc0)).set 2 (.slice none 0 0) = mk (.slice vp E.length vc) (.slice none 0 0) (.slice ip ni ic) (.slice qp nq qc) (.slice rp nr rc) (.slice lp nl lc0) := by rw [HMK.out, HMK.out]; rfl
    refine ⟨o3.perm ?_, b1.trans (set_bel _ (by have := HZ.out; omega)), by simp only [World.size_setCell]; omega⟩
    simp only [bx, List.cons_append, List.nil_append]
    rw [eM]
    refine (List.Perm.swap _ _ _).trans (.cons _ ?_)
    refine (List.Perm.swap _ _ _).trans (.cons _ ?_)
    refine (List.Perm.swap _ _ _).trans (.cons _ ?_)
    exact List.Perm.swap _ _ _
   clear HOO
   generalize wr.setCell ⟨z2, 2, .none⟩ (.slice none 0 0) = W9 at *
   go_loopw [8] (fun k wr => ∃ (i : Nat), i ≤ nf ∧ k = .int .i64 i ∧ Hid (∃ v, Owns wr w.heap.size ([bx 31 10 w.heap.size lc, bx 31 10 z1 zc, bx 31 10 z2 (mk (.slice vp E.length vc) v (.slice ip ni ic) (.slice qp nq qc) (.slice rp nr rc) (.slice lp nl lc0)), rowP E (.slice vp E.length vc), rowF (L.files.take i) v] ++ rowsP E) ∧ Below w.heap.size w wr ∧ z2 < wr.heap.size)) (fun v _ => (nf - intOf v).toNat)
   case atStart => exact ⟨0, by omega, rfl, _, HT.out⟩
   case round =>
    clear HT
    obtain ⟨i, hi, rfl, HB⟩ := hrel
    obtain ⟨v, hO, hB, hzz⟩ := HB.out
    have c1 := (hO.cell (t := 31) (k := 10) (b := w.heap.size) (cs := lc) (by simp) 2).1
    rw [HL1.out.2.1] at c1
    have etk : (L.files.take i).length = i := by rw [List.length_take]; have := HN.out.2.1; omega
    have hvv : wr.ownsRow w.heap.size 67 8 v i ((((L.files.take i)).map Fi.l).flatten) := by
     have := hO.own (rowF (L.files.take i) v) (by simp)
     simp only [rowF, etk] at this
     exact this
    obtain ⟨fvp, fvc, rfl⟩ := own_form hvv
    have hzA := HZ.out
    by_cases hin : i < nf
    ·have i1 : (i : Int) < nf := by omega
     obtain ⟨-, fb, fo, xf, cs, rfl, hbX, hx, rfl, hcl, hr⟩ := H.out.fs.at hin
     have d1 := hO.cell (t := 31) (k := 10) (b := z2) (cs := mk (.slice vp E.length vc) (.slice fvp i fvc) (.slice ip ni ic) (.slice qp nq qc) (.slice rp nr rc) (.slice lp nl lc0)) (by simp) 2
     rw [show (mk (.slice vp E.length vc) (.slice fvp i fvc) (.slice ip ni ic) (.slice qp nq qc) (.slice rp nr rc) (.slice lp nl lc0))[2]? = some (.slice fvp i fvc) by rw [HMK.out]; rfl] at d1
     have HX1 : Hid (∀ u ∈ xf.l, u.oneCell' = true) := by intro u hu; simp only [Fi.l, List.mem_cons, List.not_mem_nil, or_false] at hu; rcases hu with rfl | rfl | rfl | rfl | rfl | rfl | rfl | rfl <;> rfl
     have HQ : Hid (Owns wr w.heap.size ([bx 31 10 w.heap.size lc, bx 31 10 z1 zc, bx 31 10 z2 (mk (.slice vp E.length vc) (.slice fvp i fvc) (.slice ip ni ic) (.slice qp nq qc) (.slice rp nr rc) (.slice lp nl lc0)), rowP E (.slice vp E.length vc), rowF (L.files.take i) (.slice fvp i fvc)] ++ rowsP E) ∧ Below w.heap.size w wr ∧ z2 < wr.heap.size ∧ L.files[i]? = some xf ∧ (L.files.take i).length = i ∧ w.heap.size ≤ z2) := ⟨hO, hB, hzz, hx, etk, by omega⟩
     have HS3 : Hid (∀ w', Below w.heap.size w w' → w'.rangeAt fb (fo + i * 8) xf.l) := fun w' hb => range_keep hr hb (by omega)
     have hS : (fun w' : World => w'.cell? ⟨z2, 2, .none⟩ = some (.slice fvp i fvc) ∧ w'.cell? ⟨w.heap.size, 2, .none⟩ = some (.slice (some ⟨fb, fo, .none⟩) nf fc) ∧ w'.rangeAt fb (fo + i * 8) xf.l) wr.drew := ⟨d1.1, c1, HS3.out _ hB.drew⟩
     clear hO hB hzz HB hr hcl hx hbX hvv etk hzA
     go_upto_region 19 with fail
     clear d1 c1
     refine region_upto (fun w' => w'.cell? ⟨z2, 2, .none⟩ = some (.slice fvp i fvc) ∧ w'.cell? ⟨w.heap.size, 2, .none⟩ = some (.slice (some ⟨fb, fo, .none⟩) nf fc) ∧ w'.rangeAt fb (fo + i * 8) xf.l) 10 (by kernel_rfl) ?_
     refine uT 0 (.pointer (some ⟨z2, 2, .none⟩)) rfl rfl (fun ww hSw => by obtain ⟨hs1, hs2, _⟩ := hSw; go_simp) hS ?_
     simp only [x0,x1,x2,x3,x4,x5,x6]
     refine uT 1 (.slice fvp i fvc) rfl rfl (fun ww hSw => by obtain ⟨hs1, hs2, _⟩ := hSw; go_simp) hS ?_
     simp only [x0,x1,x2,x3,x4,x5,x6]
     refine uT 2 (.pointer (some ⟨w.heap.size, 2, .none⟩)) rfl rfl (fun ww hSw => by obtain ⟨hs1, hs2, _⟩ := hSw; go_simp) hS ?_
     simp only [x0,x1,x2,x3,x4,x5,x6]
     refine uT 3 (.slice (some ⟨fb, fo, .none⟩) nf fc) rfl rfl (fun ww hSw => by obtain ⟨hs1, hs2, _⟩ := hSw; go_simp) hS ?_
     simp only [x0,x1,x2,x3,x4,x5,x6]
     refine uT 4 (.int .i64 i) rfl rfl (fun ww hSw => by obtain ⟨hs1, hs2, _⟩ := hSw; go_simp) hS ?_
     simp only [x0,x1,x2,x3,x4,x5,x6]
     refine uT 5 (.pointer (some ⟨fb, fo + i * 8, .none⟩)) rfl rfl (fun ww hSw => by obtain ⟨hs1, hs2, _⟩ := hSw; go_simp) hS ?_
     simp only [x0,x1,x2,x3,x4,x5,x6]
     refine upto_take (i := 6) (v := .agg (xf.l).toArray) (z := 10) rfl rfl (by kernel_rfl) (by kernel_rfl) (by kernel_rfl) (by kernel_rfl) (fun _ _ _ h => h) (yieldsIf_load_mid (by rfl) 67 (.tmp 75) rfl (fb) (fo + i * 8) rfl (xf.l) _ (fun ww hSw => hSw.2.2) Try.underlying67 rfl (by first | kernel_rfl | (rw [show xf.l.length = 8 from rfl]; kernel_rfl))) hS ?_
     simp only [x0,x1,x2,x3,x4,x5,x6]
     refine upto_only (i := 7) (by kernel_rfl) rfl (by rfl) ?_
     refine wp_sliceG 24 67 8 56 info94 (by decide) (by decide) Try.underlying24 xf.l rfl 76 rfl rfl ?_
     have b7 := below1 wr.drew (.cells xf.l.toArray 67)
     have o7 := HQ.out.1.keep (w' := wr.drew.alloc (.cells xf.l.toArray 67)) ((Below.refl wr.heap.size wr).drew.trans b7)
     have l7 := HQ.out.2.1.size
     refine ⟨fun _ => ⟨(b7.cell (p := ⟨z2, 2, .none⟩) HQ.out.2.2.1).trans hS.1, (b7.cell (p := ⟨w.heap.size, 2, .none⟩) (by show w.heap.size < wr.heap.size; have := HQ.out.2.2; omega)).trans hS.2.1, HS3.out _ (HQ.out.2.1.drew.trans (b7.mono l7))⟩, ?_⟩
     simp only [x0,x1,x2,x3,x4,x5,x6]
     refine upto_only (i := 8) (by kernel_rfl) rfl (by rfl) ?_
     refine wp_appG (A := [bx 31 10 w.heap.size lc, bx 31 10 z1 zc, bx 31 10 z2 (mk (.slice vp E.length vc) (.slice fvp i fvc) (.slice ip ni ic) (.slice qp nq qc) (.slice rp nr rc) (.slice lp nl lc0)), rowP E (.slice vp E.length vc)]) (r := rowF (L.files.take i) (.slice fvp i fvc)) (B := rowsP E) 24 67 8 56 info94 Try.underlying24 (by decide) (by decide) o7 rfl rfl (by show (L.files.take i).length ≤ _; rw [HQ.out.2.2.2.2.1]; omega) (by simp; omega) xf.l rfl HX1.out wr.drew.heap.size (range_new _ _ _) (.tmp 71) (.tmp 77) rfl rfl rfl ?_
     intro v5 w5 hO5 hB5 hG5
     have hv5 : w5.ownsRow w.heap.size 67 8 v5 ((rowF (L.files.take i) (.slice fvp i fvc)).n + 1) _ := hO5.own _ (List.mem_append_right _ (List.mem_cons_self ..))
     rw [show (rowF (L.files.take i) (.slice fvp i fvc)).n + 1 = i + 1 by show (L.files.take i).length + 1 = _; rw [HQ.out.2.2.2.2.1]] at hv5
     obtain ⟨vp5, vc5, rfl⟩ := own_form hv5
     have d3 := hO5.cell (t := 31) (k := 10) (b := z2) (cs := mk (.slice vp E.length vc) (.slice fvp i fvc) (.slice ip ni ic) (.slice qp nq qc) (.slice rp nr rc) (.slice lp nl lc0)) (List.mem_append_left _ (by simp)) 2
     rw [show (mk (.slice vp E.length vc) (.slice fvp i fvc) (.slice ip ni ic) (.slice qp nq qc) (.slice rp nr rc) (.slice lp nl lc0))[2]? = some (.slice fvp i fvc) by rw [HMK.out]; rfl] at d3
     have d4 := (hO5.cell (t := 31) (k := 10) (b := w.heap.size) (cs := lc) (List.mem_append_left _ (by simp)) 2).1
     rw [HL1.out.2.1] at d4
     have B5 : Below w.heap.size w w5 := (HQ.out.2.1.drew.trans (b7.mono l7)).trans hB5
     have S5 : (fun w' : World => w'.cell? ⟨z2, 2, .none⟩ = some (.slice fvp i fvc) ∧ w'.cell? ⟨w.heap.size, 2, .none⟩ = some (.slice (some ⟨fb, fo, .none⟩) nf fc) ∧ w'.rangeAt fb (fo + i * 8) xf.l) w5 := ⟨d3.1, d4, HS3.out _ B5⟩
     have l5 : z2 < w5.heap.size := Nat.lt_of_lt_of_le HQ.out.2.2.1 (Nat.le_trans b7.size hB5.size)
     refine ⟨fun _ => S5, ?_⟩
     simp only [x0,x1,x2,x3,x4,x5,x6]
     refine uT 9 (.pointer (some ⟨z2, 2, .none⟩)) rfl rfl (fun ww hSw => by go_simp) S5 ?_
     simp only [x0,x1,x2,x3,x4,x5,x6]
     refine upto_only (i := 10) (by kernel_rfl) rfl (by rfl) ?_
     obtain ⟨d3, d5⟩ := d3
     clear S5 hS d4
     go_simp
     refine upto_done (by kernel_rfl) ?_
     clear d3 d5
     go_wp2
     refine ⟨⟨i + 1, by omega, by go_num, .slice vp5 (i + 1) vc5, ?_, B5.trans (set_bel _ HQ.out.2.2.2.2.2), by simp only [World.size_setCell]; exact l5⟩, by simp [intOf]; omega⟩
     have o6 := Owns.setAt (A := [bx 31 10 w.heap.size lc, bx 31 10 z1 zc]) (g := z2) (j := 2) hO5 (.slice vp5 (i + 1) vc5) rfl rfl (by show 2 < (mk _ _ _ _ _ _).length; rw [HMK.out]; show 2 < 10; omega)
     have eM : (mk (.slice vp E.length vc) (.slice fvp i fvc) (.slice ip ni ic) (.slice qp nq qc) (.slice rp nr rc) (.slice lp nl lc0)).set 2 (.slice vp5 (i + 1) vc5) = mk (.slice vp E.length vc) (.slice vp5 (i + 1) vc5) (.slice ip ni ic) (.slice qp nq qc) (.slice rp nr rc) (.slice lp nl lc0) := by rw [HMK.out, HMK.out]; rfl
     have eP : rowF (L.files.take (i + 1)) (.slice vp5 (i + 1) vc5) = ⟨67, 8, (rowF (L.files.take i) (.slice fvp i fvc)).n + 1, .slice vp5 (i + 1) vc5, (rowF (L.files.take i) (.slice fvp i fvc)).xs ++ xf.l⟩ := by
      rw [List.take_add_one, HQ.out.2.2.2.1]
      simp [rowF]
     rw [eP]
     simp only [bx, List.cons_append, List.nil_append] at o6 ⊢
     rw [eM] at o6
     exact o6
    ·have i1 : ¬ (i : Int) < nf := by omega
     obtain rfl : i = nf := by omega
     rw [show L.files.take i = L.files by rw [List.take_of_length_le]; have := HN.out.2.1; omega] at hO
     have d2 := hO.cell (t := 31) (k := 10) (b := z2) (cs := mk (.slice vp E.length vc) (.slice fvp i fvc) (.slice ip ni ic) (.slice qp nq qc) (.slice rp nr rc) (.slice lp nl lc0)) (by simp) 3
     rw [show (mk (.slice vp E.length vc) (.slice fvp i fvc) (.slice ip ni ic) (.slice qp nq qc) (.slice rp nr rc) (.slice lp nl lc0))[3]? = some (.slice ip ni ic) by rw [HMK.out]; rfl] at d2
     obtain ⟨d2, d3⟩ := d2
     have HOO : Hid (Owns wr w.heap.size ([bx 31 10 w.heap.size lc, bx 31 10 z1 zc, bx 31 10 z2 (mk (.slice vp E.length vc) (.slice fvp i fvc) (.slice ip ni ic) (.slice qp nq qc) (.slice rp nr rc) (.slice lp nl lc0)), rowP E (.slice vp E.length vc), rowF L.files (.slice fvp i fvc)] ++ rowsP E) ∧ Below w.heap.size w wr ∧ z2 < wr.heap.size ∧ w.heap.size ≤ z2) := ⟨hO, hB, hzz, by omega⟩
     clear hO hB hzz hvv HB etk hzA
     obtain ⟨fn0, hfn0⟩ : ∃ n, n = i := ⟨_, rfl⟩
     rw [← hfn0] at HOO
     clear hfn0
     go_wp2
     clear d2 d3
     have HT : Hid (Owns (wr.setCell ⟨z2, 3, .none⟩ (.slice none 0 0)) w.heap.size ([bx 31 10 w.heap.size lc, bx 31 10 z1 zc, bx 31 10 z2 (mk (.slice vp E.length vc) (.slice fvp fn0 fvc) (.slice none 0 0) (.slice qp nq qc) (.slice rp nr rc) (.slice lp nl lc0)), rowP E (.slice vp E.length vc), rowF L.files (.slice fvp fn0 fvc), rowI [] (.slice none 0 0)] ++ (rowsP E ++ rowsI [])) ∧ Below w.heap.size w (wr.setCell ⟨z2, 3, .none⟩ (.slice none 0 0)) ∧ z2 < (wr.setCell ⟨z2, 3, .none⟩ (.slice none 0 0)).heap.size ∧ w.heap.size ≤ z2) := by
      obtain ⟨o1, b1, l1, l2⟩ := HOO.out
      have o2 := Owns.setAt (A := [bx 31 10 w.heap.size lc, bx 31 10 z1 zc]) (g := z2) (j := 3) o1 (.slice none 0 0) rfl rfl (by show 3 < (mk _ _ _ _ _ _).length; rw [HMK.out]; show 3 < 10; omega)
      have o3 : Owns _ w.heap.size (rowI [] (.slice none 0 0) :: _) := o2.push (r := rowI [] (.slice none 0 0)) (Below.refl _ _) (World.ownsRow_nil _ _ _ _) (by simp only [World.size_setCell]; omega)
      have eM : (mk (.slice vp E.length vc) (.slice fvp fn0 fvc) (.slice ip ni ic) (.slice qp nq qc) (.slice rp nr rc) (.slice lp nl lc0)).set 3 (.slice none 0 0) = mk (.slice vp E.length vc) (.slice fvp fn0 fvc) (.slice none 0 0) (.slice qp nq qc) (.slice rp nr rc) (.slice lp nl lc0) := by rw [HMK.out, HMK.out]; rfl
      refine ⟨o3.perm ?_, b1.trans (set_bel _ l2), by simp only [World.size_setCell]; omega, l2⟩
      have eR : rowsI [] = [] := rfl
      simp only [bx, List.cons_append, List.nil_append, eR, List.append_nil]
      rw [eM]
      refine (List.Perm.swap _ _ _).trans (.cons _ ?_)
      refine (List.Perm.swap _ _ _).trans (.cons _ ?_)
      refine (List.Perm.swap _ _ _).trans (.cons _ ?_)
      refine (List.Perm.swap _ _ _).trans (.cons _ ?_)
      refine (List.Perm.swap _ _ _).trans (.cons _ ?_)
      exact List.Perm.refl _
     clear HOO
     generalize wr.setCell ⟨z2, 3, .none⟩ (.slice none 0 0) = W9 at *
     go_loopw [9] (fun k wr => ∃ (i : Nat), i ≤ ni ∧ k = .int .i64 i ∧ Hid (∃ (EI : List IE) (v : Value), EI.map (·.1) = L.inos.take i ∧ Owns wr w.heap.size ([bx 31 10 w.heap.size lc, bx 31 10 z1 zc, bx 31 10 z2 (mk (.slice vp E.length vc) (.slice fvp fn0 fvc) v (.slice qp nq qc) (.slice rp nr rc) (.slice lp nl lc0)), rowP E (.slice vp E.length vc), rowF L.files (.slice fvp fn0 fvc), rowI EI v] ++ (rowsP E ++ rowsI EI)) ∧ Below w.heap.size w wr ∧ z2 < wr.heap.size ∧ w.heap.size ≤ z2)) (fun v _ => (ni - intOf v).toNat)
     case atStart => exact ⟨0, by omega, rfl, [], _, by simp, HT.out⟩
     case round =>
      clear HT
      obtain ⟨i, hi, rfl, HB⟩ := hrel
      obtain ⟨EI, v, hE, hO, hB, hzz, hzA⟩ := HB.out
      have c1 := (hO.cell (t := 31) (k := 10) (b := w.heap.size) (cs := lc) (by simp) 3).1
      rw [HL1.out.2.2.1] at c1
      have hvv : wr.ownsRow w.heap.size 63 8 v EI.length ((EI.map IE.l).flatten) := hO.own (rowI EI v) (by simp)
      obtain ⟨vq, vd, rfl⟩ := own_form hvv
      have hEl : EI.length = i := by
       have h1 := congrArg List.length hE
       rw [List.length_map, List.length_take] at h1
       have := HN.out
       omega
      by_cases hin : i < ni
      ·have i1 : (i : Int) < ni := by omega
       obtain ⟨-, b, o, x, cs, rfl, hbX, hx, ⟨bv, rfl, hN⟩, hcl, hr⟩ := H.out.is.at hin
       have hr' := range_keep hr hB (by omega : b < w.heap.size)
       have HE2 : Hid (EI.map (·.1) = L.inos.take i ∧ L.inos[i]? = some x) := ⟨hE, hx⟩
       have HOO : Hid (Owns wr w.heap.size ([bx 31 10 w.heap.size lc, bx 31 10 z1 zc, bx 31 10 z2 (mk (.slice vp E.length vc) (.slice fvp fn0 fvc) (.slice vq EI.length vd) (.slice qp nq qc) (.slice rp nr rc) (.slice lp nl lc0)), rowP E (.slice vp E.length vc), rowF L.files (.slice fvp fn0 fvc), rowI EI (.slice vq EI.length vd)] ++ (rowsP E ++ rowsI EI)) ∧ Below w.heap.size w wr ∧ z2 < wr.heap.size ∧ w.heap.size ≤ z2) := ⟨hO, hB, hzz, hzA⟩
       have HNG : Hid (Wd w X bv x.bl) := hN
       have HP1 : Hid (∀ v ∈ x.l bv, v.oneCell' = true) := inl_one x hN.one
       have HElEI : Hid (EI.length = i) := hEl
       clear hEl
       have bn : x.bl.length ≤ 1048576 := HS.out.ib x (List.mem_of_getElem? hx)
       clear hE hO hB hzz HB hr hcl hN hx hbX hvv
       go_wp2_with (first
        | (refine wpList_is (.load 63 (.tmp 91)) rfl ?_; refine wpList_loadG 63 8 72 info66 _ Try.underlying63 rfl (x.l bv) rfl b (o + i * 8) (.tmp 91) rfl rfl rfl hr' (some 92) rfl ?_)
        | (refine wpList_is (.alloc 63) rfl ?_; refine wpList_laidG 63 8 72 info66 (x.l bv) rfl HP1.out 10 (.tmp 92) _ _ rfl rfl rfl rfl rfl rfl rfl rfl ?_; intro W1 hW1 hB1 hs1; have c2 := cell_heap (o := 7) hW1; have c3 := frozen_heap (o := 7) hW1; rw [show (x.l bv).toArray[7]? = some bv from rfl] at c2)
        | fail)
       have o1 := HOO.out.1.new (k := 8) hW1 hB1 rfl HOO.out.2.1.size
       have b1 := HOO.out.2.1.trans (hB1.mono HOO.out.2.1.size)
       have sz0 := HOO.out.2.1.size
       refine (words_any (Wd.keep HNG.out hX (b1.mono hX)) (by omega) bn).mono ?_
       rintro e W2 ⟨u, rfl, hu, hB2⟩
       obtain ⟨up, uc, rfl⟩ := own_form hu
       have o2 : Owns W2 w.heap.size (rowN x.bl (.slice up x.bl.length uc) :: _) := o1.push (r := rowN x.bl (.slice up x.bl.length uc)) hB2 hu (by omega)
       have b2 := b1.trans (hB2.mono (by omega))
       have c2' := (hB2.cell (p := ⟨wr.heap.size, 7, .none⟩) (by show wr.heap.size < W1.heap.size; omega)).trans c2
       have c3' := (hB2.frozen (p := ⟨wr.heap.size, 7, .none⟩) (by show wr.heap.size < W1.heap.size; omega)).trans c3
       obtain ⟨y, hy⟩ : ∃ y, y = wr.heap.size := ⟨_, rfl⟩
       rw [← hy] at o2 c2' c3' ⊢
       have hyz : w.heap.size ≤ y := by rw [hy]; exact sz0
       have hys : z2 < W2.heap.size := by have := hB2.size; have := HOO.out.2.2.1; omega
       have HO2 : Hid (Owns W2 w.heap.size (rowN x.bl (.slice up x.bl.length uc) :: bx 63 8 y (x.l bv) :: ([bx 31 10 w.heap.size lc, bx 31 10 z1 zc, bx 31 10 z2 (mk (.slice vp E.length vc) (.slice fvp fn0 fvc) (.slice vq EI.length vd) (.slice qp nq qc) (.slice rp nr rc) (.slice lp nl lc0)), rowP E (.slice vp E.length vc), rowF L.files (.slice fvp fn0 fvc), rowI EI (.slice vq EI.length vd)] ++ (rowsP E ++ rowsI EI))) ∧ Below w.heap.size w W2 ∧ z2 < W2.heap.size ∧ w.heap.size ≤ z2) := ⟨o2, b2, hys, HOO.out.2.2.2⟩
       clear sz0 o1 o2 b1 b2 hu hB1 hW1 hs1 hB2 c1 c2 c3 hr' HOO hy
       go_upto_region 26 with fail
       clear c2' c3'
       have HT3 : Hid (Owns (W2.setCell ⟨y, 7, .none⟩ (.slice up x.bl.length uc)) w.heap.size ([bx 31 10 w.heap.size lc, bx 31 10 z1 zc, bx 31 10 z2 (mk (.slice vp E.length vc) (.slice fvp fn0 fvc) (.slice vq EI.length vd) (.slice qp nq qc) (.slice rp nr rc) (.slice lp nl lc0)), rowP E (.slice vp E.length vc), rowF L.files (.slice fvp fn0 fvc)] ++ (rowI EI (.slice vq EI.length vd) :: bx 63 8 y (x.l (.slice up x.bl.length uc)) :: rowN x.bl (.slice up x.bl.length uc) :: (rowsP E ++ rowsI EI))) ∧ Below w.heap.size w (W2.setCell ⟨y, 7, .none⟩ (.slice up x.bl.length uc)) ∧ z2 < (W2.setCell ⟨y, 7, .none⟩ (.slice up x.bl.length uc)).heap.size ∧ w.heap.size ≤ z2) := by
        obtain ⟨o2, b2, l2, l3⟩ := HO2.out
        have o3 := o2.setAt (A := [rowN x.bl (.slice up x.bl.length uc)]) (g := y) (j := 7) (.slice up x.bl.length uc) rfl rfl (by show 7 < 8; omega)
        refine ⟨o3.perm ?_, b2.trans (set_bel _ hyz), by simp only [World.size_setCell]; omega, l3⟩
        exact perm2 _ _ ([bx 31 10 w.heap.size lc, bx 31 10 z1 zc, bx 31 10 z2 (mk (.slice vp E.length vc) (.slice fvp fn0 fvc) (.slice vq EI.length vd) (.slice qp nq qc) (.slice rp nr rc) (.slice lp nl lc0)), rowP E (.slice vp E.length vc), rowF L.files (.slice fvp fn0 fvc), rowI EI (.slice vq EI.length vd)]) _
       clear HO2
       generalize W2.setCell ⟨y, 7, .none⟩ (.slice up x.bl.length uc) = W4 at *
       obtain ⟨o3, b3, l3, l4⟩ := HT3.out
       have d1 := o3.cell (t := 31) (k := 10) (b := z2) (cs := mk (.slice vp E.length vc) (.slice fvp fn0 fvc) (.slice vq EI.length vd) (.slice qp nq qc) (.slice rp nr rc) (.slice lp nl lc0)) (List.mem_append_left _ (by simp)) 3
       rw [show (mk (.slice vp E.length vc) (.slice fvp fn0 fvc) (.slice vq EI.length vd) (.slice qp nq qc) (.slice rp nr rc) (.slice lp nl lc0))[3]? = some (.slice vq EI.length vd) by rw [HMK.out]; rfl] at d1
       obtain ⟨d1, d2⟩ := d1
       have hrg : W4.rangeAt y 0 (x.l (.slice up x.bl.length uc)) := range_heap (o3.bx (t := 63) (k := 8) (List.mem_append_right _ (by simp)))
       clear o3
       go_wp2_with (first
        | (refine wpList_is (.load 63 (.tmp 10)) rfl ?_; refine wpList_loadG 63 8 72 info66 _ Try.underlying63 rfl (x.l (.slice up x.bl.length uc)) rfl y 0 (.tmp 10) rfl rfl rfl hrg (some 99) rfl ?_)
        | (refine wpList_is (.buildSlice 25 1 #[(0, .tmp 99)]) rfl ?_; refine wpList_pushG (A := [bx 31 10 w.heap.size lc, bx 31 10 z1 zc, bx 31 10 z2 (mk (.slice vp E.length vc) (.slice fvp fn0 fvc) (.slice vq EI.length vd) (.slice qp nq qc) (.slice rp nr rc) (.slice lp nl lc0)), rowP E (.slice vp E.length vc), rowF L.files (.slice fvp fn0 fvc)]) (r := rowI EI (.slice vq EI.length vd)) (B := bx 63 8 y (x.l (.slice up x.bl.length uc)) :: rowN x.bl (.slice up x.bl.length uc) :: (rowsP E ++ rowsI EI)) 25 63 8 72 info66 Try.underlying25 (by decide) (by decide) (by decide) HT3.out.1 rfl rfl (by show EI.length ≤ _; have := HElEI.out; omega) b3.size (x.l (.slice up x.bl.length uc)) rfl (inl_one x rfl) 99 100 (.tmp 98) rfl rfl rfl rfl rfl rfl (some 101) rfl rfl rfl ?_; intro v5 w5 hO5 hB5; have hv5 : w5.ownsRow w.heap.size 63 8 v5 (EI.length + 1) _ := hO5.own _ (List.mem_append_right _ (List.mem_cons_self ..)); obtain ⟨vp5, vc5, rfl⟩ := own_form hv5; have d3 := hO5.cell (t := 31) (k := 10) (b := z2) (cs := mk (.slice vp E.length vc) (.slice fvp fn0 fvc) (.slice vq EI.length vd) (.slice qp nq qc) (.slice rp nr rc) (.slice lp nl lc0)) (List.mem_append_left _ (by simp)) 3; rw [show (mk (.slice vp E.length vc) (.slice fvp fn0 fvc) (.slice vq EI.length vd) (.slice qp nq qc) (.slice rp nr rc) (.slice lp nl lc0))[3]? = some (.slice vq EI.length vd) by rw [HMK.out]; rfl] at d3; obtain ⟨d3, d4⟩ := d3)
        | fail)
       clear d1 d2 d3 d4 hrg
       refine ⟨⟨i + 1, by omega, by go_num, EI ++ [(x, .slice up x.bl.length uc)], .slice vp5 (EI.length + 1) vc5, ?_, ?_, (b3.trans hB5).trans (set_bel _ l4), by simp only [World.size_setCell]; have := hB5.size; omega, l4⟩, by simp [intOf]; omega⟩
       ·rw [List.map_append, HE2.out.1, List.take_add_one, HE2.out.2]; rfl
       ·have o6 := Owns.setAt (A := [bx 31 10 w.heap.size lc, bx 31 10 z1 zc]) (g := z2) (j := 3) hO5 (.slice vp5 (EI.length + 1) vc5) rfl rfl (by show 3 < (mk _ _ _ _ _ _).length; rw [HMK.out]; show 3 < 10; omega)
        have eM : (mk (.slice vp E.length vc) (.slice fvp fn0 fvc) (.slice vq EI.length vd) (.slice qp nq qc) (.slice rp nr rc) (.slice lp nl lc0)).set 3 (.slice vp5 (EI.length + 1) vc5) = mk (.slice vp E.length vc) (.slice fvp fn0 fvc) (.slice vp5 (EI.length + 1) vc5) (.slice qp nq qc) (.slice rp nr rc) (.slice lp nl lc0) := by rw [HMK.out, HMK.out]; rfl
        have eP : rowI (EI ++ [(x, .slice up x.bl.length uc)]) (.slice vp5 (EI.length + 1) vc5) = ⟨63, 8, (rowI EI (.slice vq EI.length vd)).n + 1, .slice vp5 (EI.length + 1) vc5, (rowI EI (.slice vq EI.length vd)).xs ++ x.l (.slice up x.bl.length uc)⟩ := by simp [rowI, IE.l]
        have eQ : rowsI (EI ++ [(x, .slice up x.bl.length uc)]) = rowsI EI ++ [rowN x.bl (.slice up x.bl.length uc)] := by simp [rowsI]
        rw [eP, eQ]
        have o7 : Owns (w5.setCell ⟨z2, 3, .none⟩ (.slice vp5 (EI.length + 1) vc5)) w.heap.size ([bx 31 10 w.heap.size lc, bx 31 10 z1 zc, bx 31 10 z2 (mk (.slice vp E.length vc) (.slice fvp fn0 fvc) (.slice vp5 (EI.length + 1) vc5) (.slice qp nq qc) (.slice rp nr rc) (.slice lp nl lc0)), rowP E (.slice vp E.length vc), rowF L.files (.slice fvp fn0 fvc)] ++ (⟨63, 8, (rowI EI (.slice vq EI.length vd)).n + 1, .slice vp5 (EI.length + 1) vc5, (rowI EI (.slice vq EI.length vd)).xs ++ x.l (.slice up x.bl.length uc)⟩ :: bx 63 8 y (x.l (.slice up x.bl.length uc)) :: rowN x.bl (.slice up x.bl.length uc) :: (rowsP E ++ rowsI EI))) := by
         have := o6
         simp only [bx, List.cons_append, List.nil_append] at this ⊢
         rw [eM] at this
         exact this
        clear o6 hO5
        refine (o7.sub (R' := [bx 31 10 w.heap.size lc, bx 31 10 z1 zc, bx 31 10 z2 (mk (.slice vp E.length vc) (.slice fvp fn0 fvc) (.slice vp5 (EI.length + 1) vc5) (.slice qp nq qc) (.slice rp nr rc) (.slice lp nl lc0)), rowP E (.slice vp E.length vc), rowF L.files (.slice fvp fn0 fvc)] ++ (⟨63, 8, (rowI EI (.slice vq EI.length vd)).n + 1, .slice vp5 (EI.length + 1) vc5, (rowI EI (.slice vq EI.length vd)).xs ++ x.l (.slice up x.bl.length uc)⟩ :: rowN x.bl (.slice up x.bl.length uc) :: (rowsP E ++ rowsI EI))) ?_).perm ?_
        ·exact (List.Sublist.refl _).append (.cons_cons _ (.cons _ (.refl _)))
        ·simp only [List.cons_append, List.nil_append]
         refine .cons _ ?_
         refine .cons _ ?_
         refine .cons _ ?_
         refine .cons _ ?_
         refine .cons _ ?_
         refine .cons _ ?_
         rw [← List.append_assoc]
         exact List.perm_append_comm (l₁ := [_])
      ·have i1 : ¬ (i : Int) < ni := by omega
       obtain rfl : i = ni := by omega
       have HEEI : Hid (EI.map (·.1) = L.inos) := by
        show _ = _
        rw [hE, List.take_of_length_le]
        have := HN.out
        omega
       have HIV : Hid (wr.ownsRow w.heap.size 63 8 (.slice vq EI.length vd) EI.length ((EI.map IE.l).flatten)) := hvv
       have d2 := hO.cell (t := 31) (k := 10) (b := z2) (cs := mk (.slice vp E.length vc) (.slice fvp fn0 fvc) (.slice vq EI.length vd) (.slice qp nq qc) (.slice rp nr rc) (.slice lp nl lc0)) (by simp) 4
       rw [show (mk (.slice vp E.length vc) (.slice fvp fn0 fvc) (.slice vq EI.length vd) (.slice qp nq qc) (.slice rp nr rc) (.slice lp nl lc0))[4]? = some (.slice qp nq qc) by rw [HMK.out]; rfl] at d2
       obtain ⟨d2, d3⟩ := d2
       obtain ⟨IV, hIV⟩ : ∃ v, v = Value.slice vq EI.length vd := ⟨_, rfl⟩
       rw [← hIV] at hO HIV
       have HOO : Hid (Owns wr w.heap.size ([bx 31 10 w.heap.size lc, bx 31 10 z1 zc, bx 31 10 z2 (mk (.slice vp E.length vc) (.slice fvp fn0 fvc) IV (.slice qp nq qc) (.slice rp nr rc) (.slice lp nl lc0)), rowP E (.slice vp E.length vc), rowF L.files (.slice fvp fn0 fvc), rowI EI IV] ++ (rowsP E ++ rowsI EI)) ∧ Below w.heap.size w wr ∧ z2 < wr.heap.size ∧ w.heap.size ≤ z2) := ⟨hO, hB, hzz, hzA⟩
       have HEL : Hid (EI.length ≤ 1048576) := by show EI.length ≤ _; omega
       clear hO hB hzz hvv HB hIV hEl hE hzA
       go_wp2
       clear d2 d3
       have HT : Hid (Owns (wr.setCell ⟨z2, 4, .none⟩ (.slice none 0 0)) w.heap.size ([bx 31 10 w.heap.size lc, bx 31 10 z1 zc, bx 31 10 z2 (mk (.slice vp E.length vc) (.slice fvp fn0 fvc) IV (.slice none 0 0) (.slice rp nr rc) (.slice lp nl lc0)), rowP E (.slice vp E.length vc), rowF L.files (.slice fvp fn0 fvc), rowI EI IV, rowQ [] (.slice none 0 0)] ++ ((rowsP E ++ rowsI EI) ++ rowsQ [])) ∧ Below w.heap.size w (wr.setCell ⟨z2, 4, .none⟩ (.slice none 0 0)) ∧ z2 < (wr.setCell ⟨z2, 4, .none⟩ (.slice none 0 0)).heap.size ∧ w.heap.size ≤ z2) := by
        obtain ⟨o1, b1, l1, l2⟩ := HOO.out
        have o2 := Owns.setAt (A := [bx 31 10 w.heap.size lc, bx 31 10 z1 zc]) (g := z2) (j := 4) o1 (.slice none 0 0) rfl rfl (by show 4 < (mk _ _ _ _ _ _).length; rw [HMK.out]; show 4 < 10; omega)
        have o3 : Owns _ w.heap.size (rowQ [] (.slice none 0 0) :: _) := o2.push (r := rowQ [] (.slice none 0 0)) (Below.refl _ _) (World.ownsRow_nil _ _ _ _) (by simp only [World.size_setCell]; omega)
        have eM : (mk (.slice vp E.length vc) (.slice fvp fn0 fvc) IV (.slice qp nq qc) (.slice rp nr rc) (.slice lp nl lc0)).set 4 (.slice none 0 0) = mk (.slice vp E.length vc) (.slice fvp fn0 fvc) IV (.slice none 0 0) (.slice rp nr rc) (.slice lp nl lc0) := by rw [HMK.out, HMK.out]; rfl
        refine ⟨o3.perm ?_, b1.trans (set_bel _ l2), by simp only [World.size_setCell]; omega, l2⟩
        have eR : rowsQ [] = [] := rfl
        simp only [bx, List.cons_append, List.nil_append, eR, List.append_nil]
        rw [eM]
        refine (List.Perm.swap _ _ _).trans (.cons _ ?_)
        refine (List.Perm.swap _ _ _).trans (.cons _ ?_)
        refine (List.Perm.swap _ _ _).trans (.cons _ ?_)
        refine (List.Perm.swap _ _ _).trans (.cons _ ?_)
        refine (List.Perm.swap _ _ _).trans (.cons _ ?_)
        refine (List.Perm.swap _ _ _).trans (.cons _ ?_)
        exact List.Perm.refl _
       clear HOO
       generalize wr.setCell ⟨z2, 4, .none⟩ (.slice none 0 0) = W9 at *
       go_loopw [11] (fun k wr => ∃ (i : Nat), i ≤ nq ∧ k = .int .i64 i ∧ Hid (∃ (EQ : List QE) (v : Value), EQ.map (·.1) = L.pipes.take i ∧ Owns wr w.heap.size ([bx 31 10 w.heap.size lc, bx 31 10 z1 zc, bx 31 10 z2 (mk (.slice vp E.length vc) (.slice fvp fn0 fvc) IV v (.slice rp nr rc) (.slice lp nl lc0)), rowP E (.slice vp E.length vc), rowF L.files (.slice fvp fn0 fvc), rowI EI IV, rowQ EQ v] ++ ((rowsP E ++ rowsI EI) ++ rowsQ EQ)) ∧ Below w.heap.size w wr ∧ z2 < wr.heap.size ∧ w.heap.size ≤ z2)) (fun v _ => (nq - intOf v).toNat)
       case atStart => exact ⟨0, by omega, rfl, [], _, by simp, HT.out⟩
       case round =>
        clear HT
        obtain ⟨i, hi, rfl, HB⟩ := hrel
        obtain ⟨EQ, v, hE, hO, hB, hzz, hzA⟩ := HB.out
        have c1 := (hO.cell (t := 31) (k := 10) (b := w.heap.size) (cs := lc) (by simp) 4).1
        rw [HL1.out.2.2.2.1] at c1
        have hvv : wr.ownsRow w.heap.size 72 6 v EQ.length ((EQ.map QE.l).flatten) := hO.own (rowQ EQ v) (by simp)
        obtain ⟨vq, vd, rfl⟩ := own_form hvv
        have hEl : EQ.length = i := by
         have h1 := congrArg List.length hE
         rw [List.length_map, List.length_take] at h1
         have := HN.out
         omega
        by_cases hin : i < nq
        ·have i1 : (i : Int) < nq := by omega
         obtain ⟨-, b, o, x, cs, rfl, hbX, hx, ⟨bv, rfl, hN⟩, hcl, hr⟩ := H.out.qs.at hin
         have hr' := range_keep hr hB (by omega : b < w.heap.size)
         have HE2 : Hid (EQ.map (·.1) = L.pipes.take i ∧ L.pipes[i]? = some x) := ⟨hE, hx⟩
         have HOO : Hid (Owns wr w.heap.size ([bx 31 10 w.heap.size lc, bx 31 10 z1 zc, bx 31 10 z2 (mk (.slice vp E.length vc) (.slice fvp fn0 fvc) IV (.slice vq EQ.length vd) (.slice rp nr rc) (.slice lp nl lc0)), rowP E (.slice vp E.length vc), rowF L.files (.slice fvp fn0 fvc), rowI EI IV, rowQ EQ (.slice vq EQ.length vd)] ++ ((rowsP E ++ rowsI EI) ++ rowsQ EQ)) ∧ Below w.heap.size w wr ∧ z2 < wr.heap.size ∧ w.heap.size ≤ z2) := ⟨hO, hB, hzz, hzA⟩
         have HNG : Hid (Bt w X bv x.bs) := hN
         have HP1 : Hid (∀ v ∈ x.l bv, v.oneCell' = true) := ppl_one x hN.one
         have HElEQ : Hid (EQ.length = i) := hEl
         clear hEl
         have bn : x.bs.length ≤ 1048576 := HS.out.qb x (List.mem_of_getElem? hx)
         clear hE hO hB hzz HB hr hcl hN hx hbX hvv
         go_wp2_with (first
          | (refine wpList_is (.load 72 (.tmp 114)) rfl ?_; refine wpList_loadG 72 6 48 info98 _ Try.underlying72 rfl (x.l bv) rfl b (o + i * 6) (.tmp 114) rfl rfl rfl hr' (some 115) rfl ?_)
          | (refine wpList_is (.alloc 72) rfl ?_; refine wpList_laidG 72 6 48 info98 (x.l bv) rfl HP1.out 12 (.tmp 115) _ _ rfl rfl rfl rfl rfl rfl rfl rfl ?_; intro W1 hW1 hB1 hs1; have c2 := cell_heap (o := 1) hW1; have c3 := frozen_heap (o := 1) hW1; rw [show (x.l bv).toArray[1]? = some bv from rfl] at c2)
          | fail)
         have o1 := HOO.out.1.new (k := 6) hW1 hB1 rfl HOO.out.2.1.size
         have b1 := HOO.out.2.1.trans (hB1.mono HOO.out.2.1.size)
         have sz0 := HOO.out.2.1.size
         refine (bytes_any (Wd.keep HNG.out hX (b1.mono hX)) (by omega) bn).mono ?_
         rintro e W2 ⟨u, rfl, hu, hB2⟩
         obtain ⟨up, uc, rfl⟩ := own_form hu
         have o2 : Owns W2 w.heap.size (rowB x.bs (.slice up x.bs.length uc) :: _) := o1.push (r := rowB x.bs (.slice up x.bs.length uc)) hB2 hu (by omega)
         have b2 := b1.trans (hB2.mono (by omega))
         have c2' := (hB2.cell (p := ⟨wr.heap.size, 1, .none⟩) (by show wr.heap.size < W1.heap.size; omega)).trans c2
         have c3' := (hB2.frozen (p := ⟨wr.heap.size, 1, .none⟩) (by show wr.heap.size < W1.heap.size; omega)).trans c3
         obtain ⟨y, hy⟩ : ∃ y, y = wr.heap.size := ⟨_, rfl⟩
         rw [← hy] at o2 c2' c3' ⊢
         have hyz : w.heap.size ≤ y := by rw [hy]; exact sz0
         have hys : z2 < W2.heap.size := by have := hB2.size; have := HOO.out.2.2.1; omega
         have HO2 : Hid (Owns W2 w.heap.size (rowB x.bs (.slice up x.bs.length uc) :: bx 72 6 y (x.l bv) :: ([bx 31 10 w.heap.size lc, bx 31 10 z1 zc, bx 31 10 z2 (mk (.slice vp E.length vc) (.slice fvp fn0 fvc) IV (.slice vq EQ.length vd) (.slice rp nr rc) (.slice lp nl lc0)), rowP E (.slice vp E.length vc), rowF L.files (.slice fvp fn0 fvc), rowI EI IV, rowQ EQ (.slice vq EQ.length vd)] ++ ((rowsP E ++ rowsI EI) ++ rowsQ EQ))) ∧ Below w.heap.size w W2 ∧ z2 < W2.heap.size ∧ w.heap.size ≤ z2) := ⟨o2, b2, hys, HOO.out.2.2.2⟩
         clear sz0 o1 o2 b1 b2 hu hB1 hW1 hs1 hB2 c1 c2 c3 hr' HOO hy
         go_upto_region 33 with fail
         clear c2' c3'
         have HT3 : Hid (Owns (W2.setCell ⟨y, 1, .none⟩ (.slice up x.bs.length uc)) w.heap.size ([bx 31 10 w.heap.size lc, bx 31 10 z1 zc, bx 31 10 z2 (mk (.slice vp E.length vc) (.slice fvp fn0 fvc) IV (.slice vq EQ.length vd) (.slice rp nr rc) (.slice lp nl lc0)), rowP E (.slice vp E.length vc), rowF L.files (.slice fvp fn0 fvc), rowI EI IV] ++ (rowQ EQ (.slice vq EQ.length vd) :: bx 72 6 y (x.l (.slice up x.bs.length uc)) :: rowB x.bs (.slice up x.bs.length uc) :: ((rowsP E ++ rowsI EI) ++ rowsQ EQ))) ∧ Below w.heap.size w (W2.setCell ⟨y, 1, .none⟩ (.slice up x.bs.length uc)) ∧ z2 < (W2.setCell ⟨y, 1, .none⟩ (.slice up x.bs.length uc)).heap.size ∧ w.heap.size ≤ z2) := by
          obtain ⟨o2, b2, l2, l3⟩ := HO2.out
          have o3 := o2.setAt (A := [rowB x.bs (.slice up x.bs.length uc)]) (g := y) (j := 1) (.slice up x.bs.length uc) rfl rfl (by show 1 < 6; omega)
          refine ⟨o3.perm ?_, b2.trans (set_bel _ hyz), by simp only [World.size_setCell]; omega, l3⟩
          exact perm2 _ _ ([bx 31 10 w.heap.size lc, bx 31 10 z1 zc, bx 31 10 z2 (mk (.slice vp E.length vc) (.slice fvp fn0 fvc) IV (.slice vq EQ.length vd) (.slice rp nr rc) (.slice lp nl lc0)), rowP E (.slice vp E.length vc), rowF L.files (.slice fvp fn0 fvc), rowI EI IV, rowQ EQ (.slice vq EQ.length vd)]) _
         clear HO2
         generalize W2.setCell ⟨y, 1, .none⟩ (.slice up x.bs.length uc) = W4 at *
         obtain ⟨o3, b3, l3, l4⟩ := HT3.out
         have d1 := o3.cell (t := 31) (k := 10) (b := z2) (cs := mk (.slice vp E.length vc) (.slice fvp fn0 fvc) IV (.slice vq EQ.length vd) (.slice rp nr rc) (.slice lp nl lc0)) (List.mem_append_left _ (by simp)) 4
         rw [show (mk (.slice vp E.length vc) (.slice fvp fn0 fvc) IV (.slice vq EQ.length vd) (.slice rp nr rc) (.slice lp nl lc0))[4]? = some (.slice vq EQ.length vd) by rw [HMK.out]; rfl] at d1
         obtain ⟨d1, d2⟩ := d1
         have hrg : W4.rangeAt y 0 (x.l (.slice up x.bs.length uc)) := range_heap (o3.bx (t := 72) (k := 6) (List.mem_append_right _ (by simp)))
         clear o3
         go_wp2_with (first
          | (refine wpList_is (.load 72 (.tmp 12)) rfl ?_; refine wpList_loadG 72 6 48 info98 _ Try.underlying72 rfl (x.l (.slice up x.bs.length uc)) rfl y 0 (.tmp 12) rfl rfl rfl hrg (some 124) rfl ?_)
          | (refine wpList_is (.buildSlice 26 1 #[(0, .tmp 124)]) rfl ?_; refine wpList_pushG (A := [bx 31 10 w.heap.size lc, bx 31 10 z1 zc, bx 31 10 z2 (mk (.slice vp E.length vc) (.slice fvp fn0 fvc) IV (.slice vq EQ.length vd) (.slice rp nr rc) (.slice lp nl lc0)), rowP E (.slice vp E.length vc), rowF L.files (.slice fvp fn0 fvc), rowI EI IV]) (r := rowQ EQ (.slice vq EQ.length vd)) (B := bx 72 6 y (x.l (.slice up x.bs.length uc)) :: rowB x.bs (.slice up x.bs.length uc) :: ((rowsP E ++ rowsI EI) ++ rowsQ EQ)) 26 72 6 48 info98 Try.underlying26 (by decide) (by decide) (by decide) HT3.out.1 rfl rfl (by show EQ.length ≤ _; have := HElEQ.out; omega) b3.size (x.l (.slice up x.bs.length uc)) rfl (ppl_one x rfl) 124 125 (.tmp 123) rfl rfl rfl rfl rfl rfl (some 126) rfl rfl rfl ?_; intro v5 w5 hO5 hB5; have hv5 : w5.ownsRow w.heap.size 72 6 v5 (EQ.length + 1) _ := hO5.own _ (List.mem_append_right _ (List.mem_cons_self ..)); obtain ⟨vp5, vc5, rfl⟩ := own_form hv5; have d3 := hO5.cell (t := 31) (k := 10) (b := z2) (cs := mk (.slice vp E.length vc) (.slice fvp fn0 fvc) IV (.slice vq EQ.length vd) (.slice rp nr rc) (.slice lp nl lc0)) (List.mem_append_left _ (by simp)) 4; rw [show (mk (.slice vp E.length vc) (.slice fvp fn0 fvc) IV (.slice vq EQ.length vd) (.slice rp nr rc) (.slice lp nl lc0))[4]? = some (.slice vq EQ.length vd) by rw [HMK.out]; rfl] at d3; obtain ⟨d3, d4⟩ := d3)
          | fail)
         clear d1 d2 d3 d4 hrg
         refine ⟨⟨i + 1, by omega, by go_num, EQ ++ [(x, .slice up x.bs.length uc)], .slice vp5 (EQ.length + 1) vc5, ?_, ?_, (b3.trans hB5).trans (set_bel _ l4), by simp only [World.size_setCell]; have := hB5.size; omega, l4⟩, by simp [intOf]; omega⟩
         ·rw [List.map_append, HE2.out.1, List.take_add_one, HE2.out.2]; rfl
         ·have o6 := Owns.setAt (A := [bx 31 10 w.heap.size lc, bx 31 10 z1 zc]) (g := z2) (j := 4) hO5 (.slice vp5 (EQ.length + 1) vc5) rfl rfl (by show 4 < (mk _ _ _ _ _ _).length; rw [HMK.out]; show 4 < 10; omega)
          have eM : (mk (.slice vp E.length vc) (.slice fvp fn0 fvc) IV (.slice vq EQ.length vd) (.slice rp nr rc) (.slice lp nl lc0)).set 4 (.slice vp5 (EQ.length + 1) vc5) = mk (.slice vp E.length vc) (.slice fvp fn0 fvc) IV (.slice vp5 (EQ.length + 1) vc5) (.slice rp nr rc) (.slice lp nl lc0) := by rw [HMK.out, HMK.out]; rfl
          have eP : rowQ (EQ ++ [(x, .slice up x.bs.length uc)]) (.slice vp5 (EQ.length + 1) vc5) = ⟨72, 6, (rowQ EQ (.slice vq EQ.length vd)).n + 1, .slice vp5 (EQ.length + 1) vc5, (rowQ EQ (.slice vq EQ.length vd)).xs ++ x.l (.slice up x.bs.length uc)⟩ := by simp [rowQ, QE.l]
          have eQ : rowsQ (EQ ++ [(x, .slice up x.bs.length uc)]) = rowsQ EQ ++ [rowB x.bs (.slice up x.bs.length uc)] := by simp [rowsQ]
          rw [eP, eQ]
          have o7 : Owns (w5.setCell ⟨z2, 4, .none⟩ (.slice vp5 (EQ.length + 1) vc5)) w.heap.size ([bx 31 10 w.heap.size lc, bx 31 10 z1 zc, bx 31 10 z2 (mk (.slice vp E.length vc) (.slice fvp fn0 fvc) IV (.slice vp5 (EQ.length + 1) vc5) (.slice rp nr rc) (.slice lp nl lc0)), rowP E (.slice vp E.length vc), rowF L.files (.slice fvp fn0 fvc), rowI EI IV] ++ (⟨72, 6, (rowQ EQ (.slice vq EQ.length vd)).n + 1, .slice vp5 (EQ.length + 1) vc5, (rowQ EQ (.slice vq EQ.length vd)).xs ++ x.l (.slice up x.bs.length uc)⟩ :: bx 72 6 y (x.l (.slice up x.bs.length uc)) :: rowB x.bs (.slice up x.bs.length uc) :: ((rowsP E ++ rowsI EI) ++ rowsQ EQ))) := by
           have := o6
           simp only [bx, List.cons_append, List.nil_append] at this ⊢
           rw [eM] at this
           exact this
          clear o6 hO5
          refine (o7.sub (R' := [bx 31 10 w.heap.size lc, bx 31 10 z1 zc, bx 31 10 z2 (mk (.slice vp E.length vc) (.slice fvp fn0 fvc) IV (.slice vp5 (EQ.length + 1) vc5) (.slice rp nr rc) (.slice lp nl lc0)), rowP E (.slice vp E.length vc), rowF L.files (.slice fvp fn0 fvc), rowI EI IV] ++ (⟨72, 6, (rowQ EQ (.slice vq EQ.length vd)).n + 1, .slice vp5 (EQ.length + 1) vc5, (rowQ EQ (.slice vq EQ.length vd)).xs ++ x.l (.slice up x.bs.length uc)⟩ :: rowB x.bs (.slice up x.bs.length uc) :: ((rowsP E ++ rowsI EI) ++ rowsQ EQ))) ?_).perm ?_
          ·exact (List.Sublist.refl _).append (.cons_cons _ (.cons _ (.refl _)))
          ·simp only [List.cons_append, List.nil_append]
           refine .cons _ ?_
           refine .cons _ ?_
           refine .cons _ ?_
           refine .cons _ ?_
           refine .cons _ ?_
           refine .cons _ ?_
           refine .cons _ ?_
           rw [← List.append_assoc]
           exact List.perm_append_comm (l₁ := [_])
        ·have i1 : ¬ (i : Int) < nq := by omega
         obtain rfl : i = nq := by omega
         have HEEQ : Hid (EQ.map (·.1) = L.pipes) := by
          show _ = _
          rw [hE, List.take_of_length_le]
          have := HN.out
          omega
         have HQL : Hid (EQ.length ≤ 1048576) := by show EQ.length ≤ _; omega
         clear hEl hvv HB c1
         have c5 := (hO.cell (t := 31) (k := 10) (b := w.heap.size) (cs := lc) (by simp) 5).1
         rw [HL1.out.2.2.2.2.1] at c5
         have c4 := (hO.cell (t := 31) (k := 10) (b := w.heap.size) (cs := lc) (by simp) 4).1
         rw [HL1.out.2.2.2.1] at c4
         have HO1 : Hid (Owns wr w.heap.size ([bx 31 10 w.heap.size lc, bx 31 10 z1 zc, bx 31 10 z2 (mk (.slice vp E.length vc) (.slice fvp fn0 fvc) IV (.slice vq EQ.length vd) (.slice rp nr rc) (.slice lp nl lc0)), rowP E (.slice vp E.length vc), rowF L.files (.slice fvp fn0 fvc), rowI EI IV, rowQ EQ (.slice vq EQ.length vd)] ++ ((rowsP E ++ rowsI EI) ++ rowsQ EQ)) ∧ Below w.heap.size w wr ∧ z2 < wr.heap.size ∧ w.heap.size ≤ z2) := ⟨hO, hB, hzz, hzA⟩
         clear hO hB hzz hE
         go_wp2_with fail
         clear c4 c5
         have hn := HN.out
         refine (bytes_any (Wd.keep H.out.rd hX (HO1.out.2.1.mono hX)) HO1.out.2.1.size (by have := HS.out.r; omega)).mono ?_
         rintro e W2 ⟨u, rfl, hu, hB2⟩
         obtain ⟨up, uc, rfl⟩ := own_form hu
         have HO2 : Hid (Owns W2 w.heap.size (rowB L.ready (.slice up L.ready.length uc) :: ([bx 31 10 w.heap.size lc, bx 31 10 z1 zc, bx 31 10 z2 (mk (.slice vp E.length vc) (.slice fvp fn0 fvc) IV (.slice vq EQ.length vd) (.slice rp nr rc) (.slice lp nl lc0)), rowP E (.slice vp E.length vc), rowF L.files (.slice fvp fn0 fvc), rowI EI IV, rowQ EQ (.slice vq EQ.length vd)] ++ ((rowsP E ++ rowsI EI) ++ rowsQ EQ))) ∧ Below w.heap.size w W2 ∧ z2 < W2.heap.size ∧ w.heap.size ≤ z2) := by
          obtain ⟨o1, b1, l1, l2⟩ := HO1.out
          exact ⟨o1.push (r := rowB L.ready (.slice up L.ready.length uc)) hB2 hu b1.size, b1.trans (hB2.mono b1.size), Nat.lt_of_lt_of_le l1 hB2.size, l2⟩
         clear HO1 hu hB2
         have d1 := HO2.out.1.cell (t := 31) (k := 10) (b := z2) (cs := mk (.slice vp E.length vc) (.slice fvp fn0 fvc) IV (.slice vq EQ.length vd) (.slice rp nr rc) (.slice lp nl lc0)) (by simp) 5
         rw [show (mk (.slice vp E.length vc) (.slice fvp fn0 fvc) IV (.slice vq EQ.length vd) (.slice rp nr rc) (.slice lp nl lc0))[5]? = some (.slice rp nr rc) by rw [HMK.out]; rfl] at d1
         obtain ⟨d1, d2⟩ := d1
         clear hn
         go_upto_region 35 with fail
         clear d1 d2
         have HO3 : Hid (Owns (W2.setCell ⟨z2, 5, .none⟩ (.slice up L.ready.length uc)) w.heap.size (rowB L.ready (.slice up L.ready.length uc) :: ([bx 31 10 w.heap.size lc, bx 31 10 z1 zc, bx 31 10 z2 (mk (.slice vp E.length vc) (.slice fvp fn0 fvc) IV (.slice vq EQ.length vd) (.slice up L.ready.length uc) (.slice lp nl lc0)), rowP E (.slice vp E.length vc), rowF L.files (.slice fvp fn0 fvc), rowI EI IV, rowQ EQ (.slice vq EQ.length vd)] ++ ((rowsP E ++ rowsI EI) ++ rowsQ EQ))) ∧ Below w.heap.size w (W2.setCell ⟨z2, 5, .none⟩ (.slice up L.ready.length uc)) ∧ z2 < (W2.setCell ⟨z2, 5, .none⟩ (.slice up L.ready.length uc)).heap.size ∧ w.heap.size ≤ z2) := by
          obtain ⟨o1, b1, l1, l2⟩ := HO2.out
          have o2 := Owns.setAt (A := [rowB L.ready (.slice up L.ready.length uc), bx 31 10 w.heap.size lc, bx 31 10 z1 zc]) (g := z2) (j := 5) o1 (.slice up L.ready.length uc) rfl rfl (by show 5 < (mk _ _ _ _ _ _).length; rw [HMK.out]; show 5 < 10; omega)
          have eM : (mk (.slice vp E.length vc) (.slice fvp fn0 fvc) IV (.slice vq EQ.length vd) (.slice rp nr rc) (.slice lp nl lc0)).set 5 (.slice up L.ready.length uc) = mk (.slice vp E.length vc) (.slice fvp fn0 fvc) IV (.slice vq EQ.length vd) (.slice up L.ready.length uc) (.slice lp nl lc0) := by rw [HMK.out, HMK.out]; rfl
          refine ⟨?_, b1.trans (set_bel _ l2), by simp only [World.size_setCell]; exact l1, l2⟩
          simp only [bx, List.cons_append, List.nil_append] at o2 ⊢
          rw [eM] at o2
          exact o2
         clear HO2
         generalize W2.setCell ⟨z2, 5, .none⟩ (.slice up L.ready.length uc) = W3 at *
         have c6 := (HO3.out.1.cell (t := 31) (k := 10) (b := w.heap.size) (cs := lc) (by simp) 6).1
         rw [HL1.out.2.2.2.2.2] at c6
         go_wp2_with fail
         clear c6
         have hn := HN.out
         refine (bytes_any (Wd.keep H.out.ln hX (HO3.out.2.1.mono hX)) HO3.out.2.1.size (by have := HS.out.l; omega)).mono ?_
         rintro e W4 ⟨u2, rfl, hu, hB2⟩
         obtain ⟨up2, uc2, rfl⟩ := own_form hu
         have HO4 : Hid (Owns W4 w.heap.size (rowB L.line (.slice up2 L.line.length uc2) :: rowB L.ready (.slice up L.ready.length uc) :: ([bx 31 10 w.heap.size lc, bx 31 10 z1 zc, bx 31 10 z2 (mk (.slice vp E.length vc) (.slice fvp fn0 fvc) IV (.slice vq EQ.length vd) (.slice up L.ready.length uc) (.slice lp nl lc0)), rowP E (.slice vp E.length vc), rowF L.files (.slice fvp fn0 fvc), rowI EI IV, rowQ EQ (.slice vq EQ.length vd)] ++ ((rowsP E ++ rowsI EI) ++ rowsQ EQ))) ∧ Below w.heap.size w W4 ∧ z2 < W4.heap.size ∧ w.heap.size ≤ z2) := by
          obtain ⟨o1, b1, l1, l2⟩ := HO3.out
          exact ⟨o1.push (r := rowB L.line (.slice up2 L.line.length uc2)) hB2 hu b1.size, b1.trans (hB2.mono b1.size), Nat.lt_of_lt_of_le l1 hB2.size, l2⟩
         clear HO3 hu hB2 hn
         have d1 := HO4.out.1.cell (t := 31) (k := 10) (b := z2) (cs := mk (.slice vp E.length vc) (.slice fvp fn0 fvc) IV (.slice vq EQ.length vd) (.slice up L.ready.length uc) (.slice lp nl lc0)) (by simp) 6
         rw [show (mk (.slice vp E.length vc) (.slice fvp fn0 fvc) IV (.slice vq EQ.length vd) (.slice up L.ready.length uc) (.slice lp nl lc0))[6]? = some (.slice lp nl lc0) by rw [HMK.out]; rfl] at d1
         obtain ⟨d1, d2⟩ := d1
         go_upto_region 36 with fail
         clear d1 d2
         have HO5 : Hid (Owns (W4.setCell ⟨z2, 6, .none⟩ (.slice up2 L.line.length uc2)) w.heap.size (rowB L.line (.slice up2 L.line.length uc2) :: rowB L.ready (.slice up L.ready.length uc) :: ([bx 31 10 w.heap.size lc, bx 31 10 z1 zc, bx 31 10 z2 (mk (.slice vp E.length vc) (.slice fvp fn0 fvc) IV (.slice vq EQ.length vd) (.slice up L.ready.length uc) (.slice up2 L.line.length uc2)), rowP E (.slice vp E.length vc), rowF L.files (.slice fvp fn0 fvc), rowI EI IV, rowQ EQ (.slice vq EQ.length vd)] ++ ((rowsP E ++ rowsI EI) ++ rowsQ EQ))) ∧ Below w.heap.size w (W4.setCell ⟨z2, 6, .none⟩ (.slice up2 L.line.length uc2)) ∧ z2 < (W4.setCell ⟨z2, 6, .none⟩ (.slice up2 L.line.length uc2)).heap.size ∧ w.heap.size ≤ z2) := by
          obtain ⟨o1, b1, l1, l2⟩ := HO4.out
          have o2 := Owns.setAt (A := [rowB L.line (.slice up2 L.line.length uc2), rowB L.ready (.slice up L.ready.length uc), bx 31 10 w.heap.size lc, bx 31 10 z1 zc]) (g := z2) (j := 6) o1 (.slice up2 L.line.length uc2) rfl rfl (by show 6 < (mk _ _ _ _ _ _).length; rw [HMK.out]; show 6 < 10; omega)
          have eM : (mk (.slice vp E.length vc) (.slice fvp fn0 fvc) IV (.slice vq EQ.length vd) (.slice up L.ready.length uc) (.slice lp nl lc0)).set 6 (.slice up2 L.line.length uc2) = mk (.slice vp E.length vc) (.slice fvp fn0 fvc) IV (.slice vq EQ.length vd) (.slice up L.ready.length uc) (.slice up2 L.line.length uc2) := by rw [HMK.out, HMK.out]; rfl
          refine ⟨?_, b1.trans (set_bel _ l2), by simp only [World.size_setCell]; exact l1, l2⟩
          simp only [bx, List.cons_append, List.nil_append] at o2 ⊢
          rw [eM] at o2
          exact o2
         clear HO4
         generalize W4.setCell ⟨z2, 6, .none⟩ (.slice up2 L.line.length uc2) = W5 at *
         obtain ⟨o5, b5, l5, l6⟩ := HO5.out
         obtain ⟨mc, hmc⟩ : ∃ mc, mc = mk (.slice vp E.length vc) (.slice fvp fn0 fvc) IV (.slice vq EQ.length vd) (.slice up L.ready.length uc) (.slice up2 L.line.length uc2) := ⟨_, rfl⟩
         rw [← hmc] at o5
         have HIV1 : Hid (IV.oneCell' = true) := by
          obtain ⟨q1, q2, q3⟩ := own_form HIV.out
          rw [q3]; rfl
         have hml : mc.length = 10 := by rw [hmc, HMK.out]; rfl
         have hmo : Hid (∀ v ∈ mc, v.oneCell' = true) := by rw [hmc, HMK.out]; exact lkL_one _ _ _ _ rfl rfl HIV1.out rfl rfl rfl
         have hzcl : zc.length = 10 := by
          have := (o5.own (bx 31 10 z1 zc) (by simp)).1
          simpa [bx] using this
         have hrg : W5.rangeAt z2 0 mc := range_heap (o5.bx (t := 31) (k := 10) (by simp))
         have hz1 : W5.heap[z1]? = some (.cells zc.toArray 31 (0, 0)) := o5.bx (t := 31) (k := 10) (by simp)
         have HMC : Hid (mc = mk (.slice vp E.length vc) (.slice fvp fn0 fvc) IV (.slice vq EQ.length vd) (.slice up L.ready.length uc) (.slice up2 L.line.length uc2)) := hmc
         have HO6 : Hid (Owns W5 w.heap.size (rowB L.line (.slice up2 L.line.length uc2) :: rowB L.ready (.slice up L.ready.length uc) :: ([bx 31 10 w.heap.size lc, bx 31 10 z1 zc, bx 31 10 z2 (mc), rowP E (.slice vp E.length vc), rowF L.files (.slice fvp fn0 fvc), rowI EI IV, rowQ EQ (.slice vq EQ.length vd)] ++ ((rowsP E ++ rowsI EI) ++ rowsQ EQ))) ∧ Below w.heap.size w W5) := ⟨o5, b5⟩
         have HML : Hid (mc.length = 10) := hml
         have HZL : Hid (zc.length = 10) := hzcl
         clear HO5 o5 b5 hmc hml hzcl
         go_wp2_with (first
          | (refine wpList_is (.load 31 (.tmp 3)) rfl ?_; refine wpList_loadG 31 10 176 info33 _ Try.underlying31 rfl mc HML.out z2 0 (.tmp 3) rfl rfl rfl hrg (some 140) rfl ?_)
          | (refine wpList_is (.store 31 (.tmp 2) (.tmp 140)) rfl ?_; refine wpList_storeG 31 10 176 z1 info33 mc zc HML.out HZL.out hmo.out (.tmp 2) (.tmp 140) _ rfl rfl rfl rfl rfl hz1 ?_; intro W6 hW6 hg6 hs6)
          | fail)
         refine bodyPost_ret (results_cell_any (p := 2) (ty := 31) rfl _ _ ⟨z1, 0, .none⟩ _ rfl (run_loadVar_mid (P := Try.prog) _ z1 0 31 mc _ (range_heap hW6) Try.underlying31 rfl (by rw [HML.out]; kernel_rfl))) rfl ?_
         obtain ⟨o6, b6⟩ := HO6.out
         have hzz := HZ.out
         have b7 : Below w.heap.size w W6 := b6.trans ⟨hg6.os, hg6.tape, hg6.output, hg6.size, fun k hk => hg6.block k (by have := b6.size; omega) (by intro e; injection e; omega)⟩
         refine ⟨(.slice vp E.length vc), .slice fvp fn0 fvc, IV, (.slice vq EQ.length vd), .slice up L.ready.length uc, .slice up2 L.line.length uc2, E, EI, EQ, by rw [HMC.out, HMK.out], b7, HE.out, HEEI.out, HEEQ.out, ?_⟩
         have o7 := Owns.appAt (A := [rowB L.line (.slice up2 L.line.length uc2), rowB L.ready (.slice up L.ready.length uc), bx 31 10 w.heap.size lc]) (r := bx 31 10 z1 zc) (r' := bx 31 10 z1 mc) (w' := W6) o6 (bx_own hW6 HML.out (by omega)) hg6 (.inl rfl)
         refine (o7.sub (R' := rowB L.line (.slice up2 L.line.length uc2) :: rowB L.ready (.slice up L.ready.length uc) :: ([rowP E (.slice vp E.length vc), rowF L.files (.slice fvp fn0 fvc), rowI EI IV, rowQ EQ (.slice vq EQ.length vd)] ++ ((rowsP E ++ rowsI EI) ++ rowsQ EQ))) ?_).perm ?_
         ·exact .cons_cons _ (.cons_cons _ (.cons _ (.cons _ (.cons _ (.refl _)))))
         ·exact perm2 _ _ [rowP E (.slice vp E.length vc), rowF L.files (.slice fvp fn0 fvc), rowI EI IV, rowQ EQ (.slice vq EQ.length vd)] _
end Go.Proofs.Ythopgmmodldljab
