import Derived.Test.YthopgmmodldljabCka
import Derived.Test.YthopgmmodldljabCi
import Derived.Test.YthopgmmodldljabAh
namespace Go.Proofs.Ythopgmmodldljab
open Go Go.RowKit
set_option linter.unusedVariables false
set_option linter.unusedSimpArgs false
set_option maxRecDepth 100000 in
set_option maxHeartbeats 2000000 in
theorem same_eq {w : World} {X Y : Nat} {pv fv iv qv rv lv pv' fv' iv' qv' rv' lv' : Value} {L : Lk} (h1 : LkW w X pv fv iv qv rv lv L) (h2 : LkW w Y pv' fv' iv' qv' rv' lv' L) (hX : X ≤ w.heap.size) (hY : Y ≤ w.heap.size) (hr : L.ready.length ≤ 10000000) (hl : L.line.length ≤ 10000000) (hPG : ∀ x ∈ L.procs, x.pages.length ≤ 10000000) (hPB : ∀ x ∈ L.pipes, x.bs.length ≤ 10000000) (hBS : L.procs.length ≤ 1048576 ∧ L.files.length ≤ 1048576 ∧ L.inos.length ≤ 1048576 ∧ L.pipes.length ≤ 1048576) (hA : (allL L []).length ≤ 1000000) :
  Calls Try.prog 10 #[.agg (lkL L.tramp pv fv iv qv rv lv L.ticks L.next L.free).toArray, .agg (lkL L.tramp pv' fv' iv' qv' rv' lv' L.ticks L.next L.free).toArray] w fun e w' => e = .returned (.bool true) ∧ Below w.heap.size w w' := by
 have HL : Hid (LkW w X pv fv iv qv rv lv L ∧ LkW w Y pv' fv' iv' qv' rv' lv' L ∧ X ≤ w.heap.size ∧ Y ≤ w.heap.size) := ⟨h1, h2, hX, hY⟩
 have HC1 : Hid (∀ w', Below w.heap.size w w' → Calls Try.prog 25 #[.agg (lkL L.tramp pv fv iv qv rv lv L.ticks L.next L.free).toArray, .agg (lkL L.tramp pv' fv' iv' qv' rv' lv' L.ticks L.next L.free).toArray] w' fun e w'' => e = .returned (.bool true) ∧ Below w'.heap.size w' w'') := fun w' hb => alike_eq L.tramp L.tramp (h1.keep (X' := X) (Nat.le_refl _) (hb.mono hX)) (h2.keep (X' := Y) (Nat.le_refl _) (hb.mono hY)) (Nat.le_trans hX hb.size) (Nat.le_trans hY hb.size) hr hl hPG hPB hBS
 have HC2 : Hid (∀ w', Below w.heap.size w w' → Calls Try.prog 19 #[.agg (lkL L.tramp pv fv iv qv rv lv L.ticks L.next L.free).toArray, .slice none 0 0] w' fun e w'' => ∃ v, e = .returned v ∧ Sl w'' w''.heap.size 3 (fun x cs => cs = An x) v (allL L []) ∧ Below w'.heap.size w' w'') := fun w' hb => (all_any (h1.keep (X' := X) (Nat.le_refl _) (hb.mono hX)) (Nat.le_trans hX hb.size) (Sl.nil _ _ _ _) hA hBS.2.2.1).mono (fun e w'' ⟨v, he, ho, hb⟩ => ⟨v, he, Sl.ofA ho, hb⟩)
 have HC3 : Hid (∀ w', Below w.heap.size w w' → Calls Try.prog 19 #[.agg (lkL L.tramp pv' fv' iv' qv' rv' lv' L.ticks L.next L.free).toArray, .slice none 0 0] w' fun e w'' => ∃ v, e = .returned v ∧ Sl w'' w''.heap.size 3 (fun x cs => cs = An x) v (allL L []) ∧ Below w'.heap.size w' w'') := fun w' hb => (all_any (h2.keep (X' := Y) (Nat.le_refl _) (hb.mono hY)) (Nat.le_trans hY hb.size) (Sl.nil _ _ _ _) hA hBS.2.2.1).mono (fun e w'' ⟨v, he, ho, hb⟩ => ⟨v, he, Sl.ofA ho, hb⟩)
 obtain ⟨pp, pc, rfl⟩ := h1.ps.form
 obtain ⟨fp, fc, rfl⟩ := h1.fs.form
 obtain ⟨ip, ic, rfl⟩ := h1.is.form
 obtain ⟨qp, qc, rfl⟩ := h1.qs.form
 obtain ⟨pp', pc', rfl⟩ := h2.ps.form
 obtain ⟨fp', fc', rfl⟩ := h2.fs.form
 obtain ⟨ip', ic', rfl⟩ := h2.is.form
 obtain ⟨qp', qc', rfl⟩ := h2.qs.form
 obtain ⟨rp, rc, rfl⟩ := h1.rd.form
 obtain ⟨rp', rc', rfl⟩ := h2.rd.form
 obtain ⟨lp, lc, rfl⟩ := h1.ln.form
 obtain ⟨lp', lc', rfl⟩ := h2.ln.form
 have HBS : Hid (L.procs.length ≤ 1048576) := hBS.1
 clear h1 h2 hr hl hPG hPB hBS hX hY
 generalize hna : allL L [] = AL at *
 obtain ⟨na, hnal⟩ : ∃ n, n = AL.length := ⟨_, rfl⟩
 obtain ⟨np, hnp⟩ : ∃ n, n = L.procs.length := ⟨_, rfl⟩
 obtain ⟨nf, hnf⟩ : ∃ n, n = L.files.length := ⟨_, rfl⟩
 obtain ⟨ni, hni⟩ : ∃ n, n = L.inos.length := ⟨_, rfl⟩
 obtain ⟨nq, hnq⟩ : ∃ n, n = L.pipes.length := ⟨_, rfl⟩
 obtain ⟨nr, hnr⟩ : ∃ n, n = L.ready.length := ⟨_, rfl⟩
 obtain ⟨nl, hnl⟩ : ∃ n, n = L.line.length := ⟨_, rfl⟩
 obtain ⟨ti, hti⟩ : ∃ n, n = L.ticks := ⟨_, rfl⟩
 obtain ⟨nx, hnx⟩ : ∃ n, n = L.next := ⟨_, rfl⟩
 obtain ⟨fr, hfr⟩ : ∃ n, n = L.free := ⟨_, rfl⟩
 obtain ⟨tr, htr⟩ : ∃ n, n = L.tramp := ⟨_, rfl⟩
 rw [← hnp, ← hnf, ← hni, ← hnq, ← hnr, ← hnl] at HL
 rw [← hnp, ← hnf, ← hni, ← hnq, ← hnr, ← hnl, ← hti, ← hnx, ← hfr, ← htr] at HC1 HC2 HC3
 rw [← hnp, ← hnf, ← hni, ← hnq, ← hnr, ← hnl, ← hti, ← hnx, ← hfr, ← htr]
 have HN : Hid (np = L.procs.length ∧ na = AL.length) := ⟨hnp, hnal⟩
 have bnp : np ≤ 1048576 := by have := HBS.out; omega
 have bna : na ≤ 1000000 := by omega
 clear hnp hnf hni hnq hnr hnl hti hnx hfr htr hna hnal HBS hA
 go_enter Try.func10, Try.ntmps10
 go_wp2_with (first
  | (refine wpList_is (.box 31 (.tmp 0)) rfl ?_; refine wpList_boxG 31 (lkL tr (.slice pp np pc) (.slice fp nf fc) (.slice ip ni ic) (.slice qp nq qc) (.slice rp nr rc) (.slice lp nl lc) ti nx fr) 2 (.tmp 0) _ rfl rfl rfl rfl ?_; intro W1 hW1 hB1 hs1)
  | (refine wpList_is (.box 31 (.tmp 1)) rfl ?_; refine wpList_boxG 31 (lkL tr (.slice pp' np pc') (.slice fp' nf fc') (.slice ip' ni ic') (.slice qp' nq qc') (.slice rp' nr rc') (.slice lp' nl lc') ti nx fr) 3 (.tmp 1) _ rfl rfl rfl rfl ?_; intro W2 hW2 hB2 hs2; rw [hs1] at hW2 hs2 ⊢; have hW3 := (hB2.block _ (by omega)).trans hW1; have HK : Hid (AK w (lkL tr (.slice pp np pc) (.slice fp nf fc) (.slice ip ni ic) (.slice qp nq qc) (.slice rp nr rc) (.slice lp nl lc) ti nx fr) (lkL tr (.slice pp' np pc') (.slice fp' nf fc') (.slice ip' ni ic') (.slice qp' nq qc') (.slice rp' nr rc') (.slice lp' nl lc') ti nx fr) W2) := ⟨hW3, hW2, by omega, hB1.trans (hB2.mono (by omega))⟩; have r1 : W2.rangeAt w.heap.size 0 (lkL tr (.slice pp np pc) (.slice fp nf fc) (.slice ip ni ic) (.slice qp nq qc) (.slice rp nr rc) (.slice lp nl lc) ti nx fr) := range_heap hW3; have r2 : W2.rangeAt (w.heap.size + 1) 0 (lkL tr (.slice pp' np pc') (.slice fp' nf fc') (.slice ip' ni ic') (.slice qp' nq qc') (.slice rp' nr rc') (.slice lp' nl lc') ti nx fr) := range_heap hW2; clear hW1 hW2 hW3 hB1 hB2 hs2 hs1)
  | (refine wpList_is (.load 31 (.tmp 2)) rfl ?_; refine wpList_loadG 31 10 176 info33 _ Try.underlying31 rfl (lkL tr (.slice pp np pc) (.slice fp nf fc) (.slice ip ni ic) (.slice qp nq qc) (.slice rp nr rc) (.slice lp nl lc) ti nx fr) rfl w.heap.size 0 (.tmp 2) rfl rfl rfl r1 (some 9) rfl ?_)
  | (refine wpList_is (.load 31 (.tmp 3)) rfl ?_; refine wpList_loadG 31 10 176 info33 _ Try.underlying31 rfl (lkL tr (.slice pp' np pc') (.slice fp' nf fc') (.slice ip' ni ic') (.slice qp' nq qc') (.slice rp' nr rc') (.slice lp' nl lc') ti nx fr) rfl (w.heap.size + 1) 0 (.tmp 3) rfl rfl rfl r2 (some 10) rfl ?_)
  | fail)
 clear r1 r2
 go_at_call 25
 refine (HC1.out _ HK.out.2.2.2).mono ?_
 rintro e W5 ⟨rfl, hB5⟩
 have HK5 : Hid (AK w (lkL tr (.slice pp np pc) (.slice fp nf fc) (.slice ip ni ic) (.slice qp nq qc) (.slice rp nr rc) (.slice lp nl lc) ti nx fr) (lkL tr (.slice pp' np pc') (.slice fp' nf fc') (.slice ip' ni ic') (.slice qp' nq qc') (.slice rp' nr rc') (.slice lp' nl lc') ti nx fr) W5) := HK.out.step hB5
 clear HK hB5
 have d1 := cell_heap (o := 0) HK5.out.1
 have d2 := cell_heap (o := 0) HK5.out.2.1
 rw [show (lkL tr (.slice pp np pc) (.slice fp nf fc) (.slice ip ni ic) (.slice qp nq qc) (.slice rp nr rc) (.slice lp nl lc) ti nx fr).toArray[0]? = some (.int .u64 tr) from rfl] at d1
 rw [show (lkL tr (.slice pp' np pc') (.slice fp' nf fc') (.slice ip' ni ic') (.slice qp' nq qc') (.slice rp' nr rc') (.slice lp' nl lc') ti nx fr).toArray[0]? = some (.int .u64 tr) from rfl] at d2
 have r1 : W5.rangeAt w.heap.size 0 (lkL tr (.slice pp np pc) (.slice fp nf fc) (.slice ip ni ic) (.slice qp nq qc) (.slice rp nr rc) (.slice lp nl lc) ti nx fr) := range_heap HK5.out.1
 go_wp2_with (first
  | (refine wpList_is (.load 31 (.tmp 2)) rfl ?_; refine wpList_loadG 31 10 176 info33 _ Try.underlying31 rfl (lkL tr (.slice pp np pc) (.slice fp nf fc) (.slice ip ni ic) (.slice qp nq qc) (.slice rp nr rc) (.slice lp nl lc) ti nx fr) rfl w.heap.size 0 (.tmp 2) rfl rfl rfl r1 (some 20) rfl ?_)
  | fail)
 clear r1 d1 d2
 go_at_call 19
 refine (HC2.out _ HK5.out.2.2.2).mono ?_
 rintro e W6 ⟨v1, rfl, hS1, hB6⟩
 have HK6 : Hid (AK w (lkL tr (.slice pp np pc) (.slice fp nf fc) (.slice ip ni ic) (.slice qp nq qc) (.slice rp nr rc) (.slice lp nl lc) ti nx fr) (lkL tr (.slice pp' np pc') (.slice fp' nf fc') (.slice ip' ni ic') (.slice qp' nq qc') (.slice rp' nr rc') (.slice lp' nl lc') ti nx fr) W6) := HK5.out.step hB6
 clear HK5 hB6
 obtain ⟨p1, c1, rfl⟩ := hS1.form
 rw [← HN.out.2] at hS1 ⊢
 have HS1 : Hid (Sl W6 W6.heap.size 3 (fun x cs => cs = An x) (.slice p1 na c1) AL) := hS1
 clear hS1
 have r2 : W6.rangeAt (w.heap.size + 1) 0 (lkL tr (.slice pp' np pc') (.slice fp' nf fc') (.slice ip' ni ic') (.slice qp' nq qc') (.slice rp' nr rc') (.slice lp' nl lc') ti nx fr) := range_heap HK6.out.2.1
 go_wp2_with (first
  | (refine wpList_is (.load 31 (.tmp 3)) rfl ?_; refine wpList_loadG 31 10 176 info33 _ Try.underlying31 rfl (lkL tr (.slice pp' np pc') (.slice fp' nf fc') (.slice ip' ni ic') (.slice qp' nq qc') (.slice rp' nr rc') (.slice lp' nl lc') ti nx fr) rfl (w.heap.size + 1) 0 (.tmp 3) rfl rfl rfl r2 (some 22) rfl ?_)
  | fail)
 clear r2
 go_at_call 19
 refine (HC3.out _ HK6.out.2.2.2).mono ?_
 rintro e W7 ⟨v2, rfl, hS2, hB7⟩
 have HK7 : Hid (AK w (lkL tr (.slice pp np pc) (.slice fp nf fc) (.slice ip ni ic) (.slice qp nq qc) (.slice rp nr rc) (.slice lp nl lc) ti nx fr) (lkL tr (.slice pp' np pc') (.slice fp' nf fc') (.slice ip' ni ic') (.slice qp' nq qc') (.slice rp' nr rc') (.slice lp' nl lc') ti nx fr) W7) := HK6.out.step hB7
 obtain ⟨p2, c2, rfl⟩ := hS2.form
 rw [← HN.out.2] at hS2 ⊢
 have HS2 : Hid (Sl W7 W7.heap.size 3 (fun x cs => cs = An x) (.slice p1 na c1) AL ∧ Sl W7 W7.heap.size 3 (fun x cs => cs = An x) (.slice p2 na c2) AL) := ⟨HS1.out.mono hB7.size hB7 (fun _ _ _ q => q), hS2⟩
 clear hS2 HS1 HK6 hB7
 go_wp2
 go_loopw [7] (fun k wr => ∃ i : Nat, i ≤ na ∧ k = .int .i64 i ∧ Hid (AK w (lkL tr (.slice pp np pc) (.slice fp nf fc) (.slice ip ni ic) (.slice qp nq qc) (.slice rp nr rc) (.slice lp nl lc) ti nx fr) (lkL tr (.slice pp' np pc') (.slice fp' nf fc') (.slice ip' ni ic') (.slice qp' nq qc') (.slice rp' nr rc') (.slice lp' nl lc') ti nx fr) wr ∧ Below W7.heap.size W7 wr)) (fun v _ => (na - intOf v).toNat)
 case atStart => exact ⟨0, by omega, rfl, HK7.out, Below.refl _ _⟩
 case round =>
  clear HK7
  obtain ⟨i, hi, rfl, HB⟩ := hrel
  by_cases hin : i < na
  ·as_aux_lemma =>
    have i1 : (i : Int) < na := by omega
    obtain ⟨-, b1, o1, x, cs, rfl, hbX, hx, rfl, hcl, hr⟩ := HS2.out.1.at hin
    obtain ⟨-, b2, o2, x2, cs2, rfl, hbY, hx2, rfl, hcl2, hr2⟩ := HS2.out.2.at hin
    rw [hx] at hx2
    injection hx2 with hx2
    subst hx2
    have g104 : ∀ op u v xs ys (w : World), (eqGuard op 88 u v (.agg xs) (.agg ys)).run Try.prog w = .ok () w := fun op u v xs ys w => run_eqGuard_agg w op 88 u v xs ys (by kernel_rfl)
    have q104 : ∀ w : World, (binOp .neq 88 (.agg (An x).toArray) (.agg (An x).toArray)).run Try.prog w = .ok (.bool false) w := fun w => by have := eqv_neq (eq_named 9997 x x) w; simpa using this
    have r1 := range_keep hr HB.out.2 hbX
    have r2 := range_keep hr2 HB.out.2 hbY
    have hS : (fun w' : World => w'.rangeAt b1 (o1 + i * 3) (An x) ∧ w'.rangeAt b2 (o2 + i * 3) (An x)) wr.drew := ⟨r1, r2⟩
    have HD : Hid (AK w (lkL tr (.slice pp np pc) (.slice fp nf fc) (.slice ip ni ic) (.slice qp nq qc) (.slice rp nr rc) (.slice lp nl lc) ti nx fr) (lkL tr (.slice pp' np pc') (.slice fp' nf fc') (.slice ip' ni ic') (.slice qp' nq qc') (.slice rp' nr rc') (.slice lp' nl lc') ti nx fr) wr.drew ∧ Below W7.heap.size W7 wr.drew) := ⟨HB.out.1.step (Below.refl _ _).drew, HB.out.2.drew⟩
    clear hr hr2 hcl hcl2 hbX hbY hx HB
    go_upto_region 10 with fail
    clear r1 r2
    refine region_set (fun w' => w'.rangeAt b1 (o1 + i * 3) (An x) ∧ w'.rangeAt b2 (o2 + i * 3) (An x)) 8 [0, 1, 4, 5] (by kernel_rfl) ?_
    refine set_pure (i := 0) (v := .slice (some ⟨b1, o1, .none⟩) na c1) rfl (by kernel_rfl) (by kernel_rfl) (by kernel_rfl) (by kernel_rfl) (fun _ _ _ h => h) (Or.inl ⟨by rfl, fun ww hSw => by go_simp⟩) ?_
    simp only [x0,x1,x2,x3,x4,x5,x6]
    refine set_pure (i := 1) (v := .int .i64 i) rfl (by kernel_rfl) (by kernel_rfl) (by kernel_rfl) (by kernel_rfl) (fun _ _ _ h => h) (Or.inl ⟨by rfl, fun ww hSw => by go_simp⟩) ?_
    simp only [x0,x1,x2,x3,x4,x5,x6]
    refine set_pure (i := 4) (v := .slice (some ⟨b2, o2, .none⟩) na c2) rfl (by kernel_rfl) (by kernel_rfl) (by kernel_rfl) (by kernel_rfl) (fun _ _ _ h => h) (Or.inl ⟨by rfl, fun ww hSw => by go_simp⟩) ?_
    simp only [x0,x1,x2,x3,x4,x5,x6]
    refine set_pure (i := 5) (v := .int .i64 i) rfl (by kernel_rfl) (by kernel_rfl) (by kernel_rfl) (by kernel_rfl) (fun _ _ _ h => h) (Or.inl ⟨by rfl, fun ww hSw => by go_simp⟩) ?_
    simp only [x0,x1,x2,x3,x4,x5,x6]
    refine sT 2 (.pointer (some ⟨b1, o1 + i * 3, .none⟩)) rfl (fun ww hSw => by obtain ⟨hs1, hs2⟩ := hSw; go_simp) hS ?_
    simp only [x0,x1,x2,x3,x4,x5,x6]
    refine sV (i := 3) (v := .agg ((An x)).toArray) rfl (yieldsIf_load_mid (by rfl) 88 (.tmp 37) rfl (b1) (o1 + i * 3) rfl ((An x)) _ (fun ww hSw => hSw.1) Try.underlying88 rfl (by first | kernel_rfl | (rw [rfl]; kernel_rfl))) hS ?_
    simp only [x0,x1,x2,x3,x4,x5,x6]
    refine sT 6 (.pointer (some ⟨b2, o2 + i * 3, .none⟩)) rfl (fun ww hSw => by obtain ⟨hs1, hs2⟩ := hSw; go_simp) hS ?_
    simp only [x0,x1,x2,x3,x4,x5,x6]
    refine sV (i := 7) (v := .agg ((An x)).toArray) rfl (yieldsIf_load_mid (by rfl) 88 (.tmp 41) rfl (b2) (o2 + i * 3) rfl ((An x)) _ (fun ww hSw => hSw.2) Try.underlying88 rfl (by first | kernel_rfl | (rw [rfl]; kernel_rfl))) hS ?_
    simp only [x0,x1,x2,x3,x4,x5,x6]
    refine set_tail 1 8 _ _ _ _ (by kernel_rfl) (by decide) ?_
    simp only [List.toList_toArray, List.drop_succ_cons, List.drop_zero]
    clear hS
    generalize wr.drew = WD at *
    go_wp2
    exact ⟨⟨i + 1, by omega, by go_num, HD.out⟩, by simp [intOf]; omega⟩
  ·have hnn : i = na := by omega
   subst i
   have g0 : ¬ (na : Int) < na := by omega
   have HK : Hid (AK w (lkL tr (.slice pp np pc) (.slice fp nf fc) (.slice ip ni ic) (.slice qp nq qc) (.slice rp nr rc) (.slice lp nl lc) ti nx fr) (lkL tr (.slice pp' np pc') (.slice fp' nf fc') (.slice ip' ni ic') (.slice qp' nq qc') (.slice rp' nr rc') (.slice lp' nl lc') ti nx fr) wr) := HB.out.1
   clear hi hin HB HS2
   go_wp2
   go_loopw [8] (fun k wr => ∃ i : Nat, i ≤ np ∧ k = .int .i64 i ∧ Hid (AK w (lkL tr (.slice pp np pc) (.slice fp nf fc) (.slice ip ni ic) (.slice qp nq qc) (.slice rp nr rc) (.slice lp nl lc) ti nx fr) (lkL tr (.slice pp' np pc') (.slice fp' nf fc') (.slice ip' ni ic') (.slice qp' nq qc') (.slice rp' nr rc') (.slice lp' nl lc') ti nx fr) wr)) (fun v _ => (np - intOf v).toNat)
   case atStart => exact ⟨0, by omega, rfl, HK.out⟩
   case round =>
    clear HK
    obtain ⟨i, hi, rfl, HB⟩ := hrel
    have a1 := cell_heap (o := 1) HB.out.1
    rw [show (lkL tr (.slice pp np pc) (.slice fp nf fc) (.slice ip ni ic) (.slice qp nq qc) (.slice rp nr rc) (.slice lp nl lc) ti nx fr).toArray[1]? = some (.slice pp np pc) from rfl] at a1
    by_cases hin : i < np
    ·as_aux_lemma =>
      have i1 : (i : Int) < np := by omega
      have b1' := cell_heap (o := 1) HB.out.2.1
      rw [show (lkL tr (.slice pp' np pc') (.slice fp' nf fc') (.slice ip' ni ic') (.slice qp' nq qc') (.slice rp' nr rc') (.slice lp' nl lc') ti nx fr).toArray[1]? = some (.slice pp' np pc') from rfl] at b1'
      obtain ⟨-, b1, o1, x, cs, rfl, hbX, hx, ⟨nv, gv, rfl, hN, hG⟩, hcl, hr⟩ := HL.out.1.ps.at hin
      obtain ⟨-, b2, o2, x2, cs2, rfl, hbY, hx2, ⟨nv2, gv2, rfl, hN2, hG2⟩, hcl2, hr2⟩ := HL.out.2.1.ps.at hin
      rw [hx] at hx2
      injection hx2 with hx2
      subst hx2
      have r1 := range_keep hr HB.out.2.2.2 (by have := HL.out.2.2.1; omega : b1 < w.heap.size) 43 _ rfl
      have r2 := range_keep hr2 HB.out.2.2.2 (by have := HL.out.2.2.2; omega : b2 < w.heap.size) 43 _ rfl
      have hS : (fun w' : World => w'.cell? ⟨w.heap.size, 1, .none⟩ = some (.slice (some ⟨b1, o1, .none⟩) np pc) ∧ w'.cell? ⟨w.heap.size + 1, 1, .none⟩ = some (.slice (some ⟨b2, o2, .none⟩) np pc') ∧ w'.cell? ⟨b1, o1 + i * 70 + 43, .none⟩ = some (.int .u64 (x.c 43)) ∧ w'.cell? ⟨b2, o2 + i * 70 + 43, .none⟩ = some (.int .u64 (x.c 43))) wr.drew := ⟨a1, b1', r1, r2⟩
      have HD : Hid (AK w (lkL tr (.slice (some ⟨b1, o1, .none⟩) np pc) (.slice fp nf fc) (.slice ip ni ic) (.slice qp nq qc) (.slice rp nr rc) (.slice lp nl lc) ti nx fr) (lkL tr (.slice (some ⟨b2, o2, .none⟩) np pc') (.slice fp' nf fc') (.slice ip' ni ic') (.slice qp' nq qc') (.slice rp' nr rc') (.slice lp' nl lc') ti nx fr) wr.drew) := HB.out.step (Below.refl _ _).drew
      clear hr hr2 hcl hcl2 hbX hbY hx HB hN hN2 hG hG2
      go_upto_region 15 with fail
      clear a1 b1' r1 r2
      refine region_set (fun w' => w'.cell? ⟨w.heap.size, 1, .none⟩ = some (.slice (some ⟨b1, o1, .none⟩) np pc) ∧ w'.cell? ⟨w.heap.size + 1, 1, .none⟩ = some (.slice (some ⟨b2, o2, .none⟩) np pc') ∧ w'.cell? ⟨b1, o1 + i * 70 + 43, .none⟩ = some (.int .u64 (x.c 43)) ∧ w'.cell? ⟨b2, o2 + i * 70 + 43, .none⟩ = some (.int .u64 (x.c 43))) 12 [0, 2, 6, 8] (by kernel_rfl) ?_
      refine set_pure (i := 0) (v := .pointer (some ⟨w.heap.size, 1, .none⟩)) rfl (by kernel_rfl) (by kernel_rfl) (by kernel_rfl) (by kernel_rfl) (fun _ _ _ h => h) (Or.inl ⟨by rfl, fun ww hSw => by go_simp⟩) ?_
      simp only [x0,x1,x2,x3,x4,x5,x6]
      refine set_pure (i := 2) (v := .int .i64 i) rfl (by kernel_rfl) (by kernel_rfl) (by kernel_rfl) (by kernel_rfl) (fun _ _ _ h => h) (Or.inl ⟨by rfl, fun ww hSw => by go_simp⟩) ?_
      simp only [x0,x1,x2,x3,x4,x5,x6]
      refine set_pure (i := 6) (v := .pointer (some ⟨w.heap.size + 1, 1, .none⟩)) rfl (by kernel_rfl) (by kernel_rfl) (by kernel_rfl) (by kernel_rfl) (fun _ _ _ h => h) (Or.inl ⟨by rfl, fun ww hSw => by go_simp⟩) ?_
      simp only [x0,x1,x2,x3,x4,x5,x6]
      refine set_pure (i := 8) (v := .int .i64 i) rfl (by kernel_rfl) (by kernel_rfl) (by kernel_rfl) (by kernel_rfl) (fun _ _ _ h => h) (Or.inl ⟨by rfl, fun ww hSw => by go_simp⟩) ?_
      simp only [x0,x1,x2,x3,x4,x5,x6]
      refine sT 1 (.slice (some ⟨b1, o1, .none⟩) np pc) rfl (fun ww hSw => by obtain ⟨hs1, hs2, hs3, hs4⟩ := hSw; go_simp) hS ?_
      simp only [x0,x1,x2,x3,x4,x5,x6]
      refine sT 3 (.pointer (some ⟨b1, o1 + i * 70, .none⟩)) rfl (fun ww hSw => by obtain ⟨hs1, hs2, hs3, hs4⟩ := hSw; go_simp) hS ?_
      simp only [x0,x1,x2,x3,x4,x5,x6]
      refine sT 4 (.pointer (some ⟨b1, o1 + i * 70 + 43, .none⟩)) rfl (fun ww hSw => by obtain ⟨hs1, hs2, hs3, hs4⟩ := hSw; go_simp) hS ?_
      simp only [x0,x1,x2,x3,x4,x5,x6]
      refine sT 5 (.int .u64 (x.c 43)) rfl (fun ww hSw => by obtain ⟨hs1, hs2, hs3, hs4⟩ := hSw; go_simp) hS ?_
      simp only [x0,x1,x2,x3,x4,x5,x6]
      refine sT 7 (.slice (some ⟨b2, o2, .none⟩) np pc') rfl (fun ww hSw => by obtain ⟨hs1, hs2, hs3, hs4⟩ := hSw; go_simp) hS ?_
      simp only [x0,x1,x2,x3,x4,x5,x6]
      refine sT 9 (.pointer (some ⟨b2, o2 + i * 70, .none⟩)) rfl (fun ww hSw => by obtain ⟨hs1, hs2, hs3, hs4⟩ := hSw; go_simp) hS ?_
      simp only [x0,x1,x2,x3,x4,x5,x6]
      refine sT 10 (.pointer (some ⟨b2, o2 + i * 70 + 43, .none⟩)) rfl (fun ww hSw => by obtain ⟨hs1, hs2, hs3, hs4⟩ := hSw; go_simp) hS ?_
      simp only [x0,x1,x2,x3,x4,x5,x6]
      refine sT 11 (.int .u64 (x.c 43)) rfl (fun ww hSw => by obtain ⟨hs1, hs2, hs3, hs4⟩ := hSw; go_simp) hS ?_
      simp only [x0,x1,x2,x3,x4,x5,x6]
      refine set_tail 1 12 _ _ _ _ (by kernel_rfl) (by decide) ?_
      simp only [List.toList_toArray, List.drop_succ_cons, List.drop_zero]
      clear hS
      generalize wr.drew = WD at *
      go_wp2
      exact ⟨⟨i + 1, by omega, by go_num, HD.out⟩, by simp [intOf]; omega⟩
    ·have hnn : i = np := by omega
     subst i
     have g0 : ¬ (np : Int) < np := by omega
     clear hi hin
     go_wp2
     go_ret
     exact ⟨rfl, HB.out.2.2.2⟩
end Go.Proofs.Ythopgmmodldljab
