import Derived.Test.YthopgmmodldljabNj
namespace Go.Proofs.Ythopgmmodldljab
open Go Go.RowKit
set_option linter.unusedVariables false
set_option linter.unusedSimpArgs false
/-! The document's Take. -/
theorem upto_onlyK {P : Program} {md : Region.Mode} {ops : Array Oper} {Q : Exit → Act → World → Prop} {S : World → Prop} {z i n : Nat} {oi : Oper} {listed : Array Bool} {a : Act} {w : World} (hr : Region.ready md ops listed = [i]) (hi : ops[i]? = some oi) (hwd : Region.wanted oi (yielded ops a.tmps) = true)
  (h : ∀ K : Act → World → Prop, Hid (∀ a' w', (i ≠ z → S w') → wpUpto P md ops Q S z n (listed.setIfInBounds i true) a' w' → K a' w') → oi.wp P a w K Q) : wpUpto P md ops Q S z (n + 1) listed a w :=
 upto_only hr hi hwd (h _ (show ∀ a' w', _ → _ → _ from fun a' w' h1 h2 => ⟨h1, h2⟩))
def PlQ (N : Nat) (A : List Nm) (i : Nat) (p : Int) : Prop := (p = -1 ∧ ∀ (j : Nat) x, j < i → A[j]? = some x → isF N x.1) ∨ ∃ (k : Nat) (x : Nm), k < i ∧ p = (k : Int) ∧ A[k]? = some x ∧ ¬ isF N x.1 ∧ ∀ (j : Nat) y, j < k → A[j]? = some y → isF N y.1
theorem PlQ.good {N : Nat} {A : List Nm} {i : Nat} {p : Int} (h : PlQ N A i p) {x : Nm} (hx : A[i]? = some x) (hf : isF N x.1) : PlQ N A (i + 1) p := by
 rcases h with ⟨h1, h2⟩ | ⟨k, y, h1, h2⟩
 ·refine .inl ⟨h1, fun j y hj hy => ?_⟩
  by_cases e : j = i
  ·subst e
   rw [hx] at hy
   injection hy with hy
   subst hy
   exact hf
  ·exact h2 j y (by omega) hy
 ·exact .inr ⟨k, y, by omega, h2⟩
theorem PlQ.bad {N : Nat} {A : List Nm} {i : Nat} {p : Int} (h : PlQ N A i p) {x : Nm} (hx : A[i]? = some x) (hf : ¬ isF N x.1) : PlQ N A (i + 1) (if p < 0 then (i : Int) else p) := by
 rcases h with ⟨h1, h2⟩ | ⟨k, y, h1, h2, h3⟩
 ·rw [if_pos (by omega)]
  exact .inr ⟨i, x, by omega, rfl, hx, hf, h2⟩
 ·rw [if_neg (by omega)]
  exact .inr ⟨k, y, by omega, h2, h3⟩
theorem PlQ.bd {N : Nat} {A : List Nm} {i : Nat} {p : Int} (h : PlQ N A i p) : -1 ≤ p ∧ p < i + 1 := by
 rcases h with ⟨h1, h2⟩ | ⟨k, y, h1, h2, h3⟩ <;> omega
theorem PlQ.done {N : Nat} {A : List Nm} {i : Nat} {p : Int} (h : PlQ N A i p) (hi : A.length ≤ i) : PlP N A p := by
 rcases h with ⟨h1, h2⟩ | ⟨k, y, h1, h2⟩
 ·exact .inl ⟨h1, fun j x hx => h2 j x (by have := (List.getElem?_eq_some_iff.1 hx).1; omega) hx⟩
 ·exact .inr ⟨k, y, h2⟩
theorem Sl.ofC {w : World} {base : Nat} {v : Value} {l : List Ow} {n : Nat} (h : w.ownsRow base 91 3 v n ((l.map owL).flatten)) (hn : l.length = n) : Sl w w.heap.size 3 (fun x cs => cs = owL x) v l :=
 Sl.ofOwn (C := l.map owL) h rfl (by intro c hc; obtain ⟨x, _, rfl⟩ := List.mem_map.1 hc; rfl) hn (by simp [hn]) (by
  intro i x cs h1 h2
  rw [List.getElem?_map, h1] at h2
  simp only [Option.map_some, Option.some.injEq] at h2
  exact h2.symm)
theorem there_mid {w : World} {b n : Nat} (h : w.there b 0 n) (o k : Nat) (hk : o + k ≤ n) : w.there b o k := fun j hj => by
 have := h (o + j) (by omega)
 rw [Nat.zero_add] at this
 exact this
theorem DT.fin {w V : World} {z1 z2 : Nat} {lc zs : List Value} {F C1 C2 : List Ow} {gv cv dv av : Value} {A : List Nm} (h : DT w V z1 z2 lc zs F C1 C2 gv cv dv av A) (r : Int × Int) : Owns (V.setCells z2 3 (wrL r)) w.heap.size [bx 31 10 w.heap.size lc, bx 41 5 z1 zs, bx 41 5 z2 (cwL gv cv dv r), rowW F gv, rowC C1 cv, rowC C2 dv, rowA A av] ∧ Below w.heap.size w (V.setCells z2 3 (wrL r)) := by
 have o1 := Owns.setAt (A := [bx 31 10 w.heap.size lc, bx 41 5 z1 zs]) (g := z2) (j := 3) h.own (.int .i64 r.1) rfl rfl (by show 3 < 5; omega)
 have o2 := Owns.setAt (A := [bx 31 10 w.heap.size lc, bx 41 5 z1 zs]) (g := z2) (j := 4) o1 (.int .i64 r.2) rfl rfl (by show 4 < 5; omega)
 exact ⟨o2, (h.bel.trans (set_bel _ h.z2l.1)).trans (set_bel _ h.z2l.1)⟩
theorem DT.drew {w V : World} {z1 z2 : Nat} {lc zs : List Value} {F C1 C2 : List Ow} {gv cv dv av : Value} {A : List Nm} (h : DT w V z1 z2 lc zs F C1 C2 gv cv dv av A) : DT w V.drew z1 z2 lc zs F C1 C2 gv cv dv av A := h.keep (Below.refl _ _).drew
theorem fin_rows {w V V' : World} {z1 z2 : Nat} {lc zs cs : List Value} {F C1 C2 : List Ow} {gv cv dv av : Value} {A : List Nm} (h : Owns V w.heap.size [bx 31 10 w.heap.size lc, bx 41 5 z1 zs, bx 41 5 z2 cs, rowW F gv, rowC C1 cv, rowC C2 dv, rowA A av]) (hg : V.grownBy V' (some z1)) : Owns V' w.heap.size [rowW F gv, rowC C1 cv, rowC C2 dv] := by
 have hs : Owns V w.heap.size [rowW F gv, rowC C1 cv, rowC C2 dv] := h.sub (by
  refine .cons _ (.cons _ (.cons _ (.cons_cons _ (.cons_cons _ (.cons_cons _ ?_)))))
  exact List.nil_sublist _)
 refine hs.grown hg (fun hm => ?_)
 have hnd := h.nd
 have e : blks [bx 31 10 w.heap.size lc, bx 41 5 z1 zs, bx 41 5 z2 cs, rowW F gv, rowC C1 cv, rowC C2 dv, rowA A av] = w.heap.size :: z1 :: z2 :: blks ([rowW F gv, rowC C1 cv, rowC C2 dv] ++ [rowA A av]) := rfl
 rw [e, List.nodup_cons, List.nodup_cons] at hnd
 apply hnd.2.1
 refine List.mem_cons_of_mem _ ?_
 unfold blks at hm ⊢
 rw [List.filterMap_append]
 exact List.mem_append_left _ hm
set_option maxRecDepth 100000 in
set_option maxHeartbeats 16000000 in
theorem dtake_any {w : World} {X : Nat} {pv fv iv qv rv lv : Value} {L : Lk} (h : LkW w X pv fv iv qv rv lv L) (hX : X ≤ w.heap.size) {ev : Value} {fr : List Int} (hf : Wd w X ev fr) (hs : (allL L fr).length ≤ 1000000) (hR : LkR L) (hfr : ∀ a ∈ fr, u64R a) (hfl : fr.length ≤ 1000000) (N : Nat) (hN1 : 1 ≤ N) (hN : N ≤ 4096) : Calls Try.prog 8 #[.int .i64 N, .agg (lkL L.tramp pv fv iv qv rv lv L.ticks L.next L.free).toArray, ev] w (TkP w N L fr) := by
 obtain ⟨fp, fc, rfl⟩ := h.fs.form
 obtain ⟨ip, ic, rfl⟩ := h.is.form
 obtain ⟨nf, hnf⟩ : ∃ n, n = L.files.length := ⟨_, rfl⟩
 obtain ⟨ni, hni⟩ : ∃ n, n = L.inos.length := ⟨_, rfl⟩
 have bf : nf ≤ 1048576 := by have := hR.fl; omega
 have bi : ni ≤ 1048576 := by have := hR.il; omega
 rw [← hnf, ← hni] at h ⊢
 have HNN : Hid (nf = L.files.length ∧ ni = L.inos.length) := ⟨hnf, hni⟩
 have HLW : Hid (LkW w X pv (.slice fp nf fc) (.slice ip ni ic) qv rv lv L ∧ X ≤ w.heap.size) := ⟨h, hX⟩
 have HKP : Hid (∀ V, Below w.heap.size w V → LkW V X pv (.slice fp nf fc) (.slice ip ni ic) qv rv lv L ∧ X ≤ V.heap.size ∧ Wd V X ev fr) := fun V hV => ⟨h.keep (Nat.le_refl _) (hV.mono hX), Nat.le_trans hX hV.size, Wd.keep hf (Nat.le_refl _) (hV.mono hX)⟩
 obtain ⟨A, hA⟩ : ∃ A, A = allL L fr := ⟨_, rfl⟩
 obtain ⟨na, hna⟩ : ∃ n, n = A.length := ⟨_, rfl⟩
 have bna : na ≤ 1000000 := by rw [hna, hA]; exact hs
 obtain ⟨lc, hlc⟩ : ∃ lc, lc = lkL L.tramp pv (.slice fp nf fc) (.slice ip ni ic) qv rv lv L.ticks L.next L.free := ⟨_, rfl⟩
 have C19 : Hid (∀ V, Below w.heap.size w V → Calls Try.prog 19 #[.agg lc.toArray, ev] V fun e w' => ∃ v, e = .returned v ∧ w'.ownsRow V.heap.size 88 3 v na ((A.map An).flatten) ∧ Below V.heap.size V w') := fun V hV => by
  rw [hlc, hna, hA]
  exact all_any (HKP.out V hV).1 (HKP.out V hV).2.1 (HKP.out V hV).2.2 hs hR.il
 have C21 : Hid (∀ V (f : Int), Below w.heap.size w V → Calls Try.prog 21 #[.agg lc.toArray, .int .i64 f] V fun e w' => e = .returned (.int .i64 (fdN L.procs f)) ∧ Below V.heap.size V w') := fun V f hV => by rw [hlc]; exact dfds_any (HKP.out V hV).1.ps (HKP.out V hV).2.1 hR.pl f
 have C22 : Hid (∀ V (f : Int), Below w.heap.size w V → Calls Try.prog 22 #[.agg lc.toArray, .int .i64 f] V fun e w' => e = .returned (.int .i64 ((nFl L.files f + nPc L.procs f : Nat) : Int)) ∧ Below V.heap.size V w') := fun V f hV => by rw [hlc]; exact dnames_any (HKP.out V hV).1.ps (HKP.out V hV).1.fs (HKP.out V hV).2.1 hR.pl hR.fl f
 have C23 : Hid (∀ V gv cv dv p, Below w.heap.size w V → Sl V V.heap.size 3 (fun x cs => cs = owL x) gv (frL N A) → Sl V V.heap.size 3 (fun x cs => cs = owL x) cv (L.files.map (cfF (nfA L))) → Sl V V.heap.size 3 (fun x cs => cs = owL x) dv (L.inos.map (cfI (nfA L))) → PlP N A p → Calls Try.prog 23 #[.agg (cwL gv cv dv (0, 0)).toArray, .agg lc.toArray, ev, .int .i64 p] V (WrP V (tkW N L fr))) := fun V gv cv dv p hV h1 h2 h3 h4 => by
  rw [hA] at h1 h4
  rw [hlc]
  exact dwrong_any (HKP.out V hV).1 (HKP.out V hV).2.1 hR (HKP.out V hV).2.2 hfl N hN h1 h2 h3 (0, 0) p h4
 have HAB : Hid (∀ x ∈ A, Bd64 x.1) := by rw [hA]; exact allL_mem hR hfr
 have HGO : Hid (∀ e w', TkP w N L fr e w' ↔ ∃ u1 u2 u3, e = .returned (.agg (cwL u1 u2 u3 (tkW N L fr)).toArray) ∧ Owns w' w.heap.size [rowW (frL N A) u1, rowC (L.files.map (cfF (nfA L))) u2, rowC (L.inos.map (cfI (nfA L))) u3] ∧ Below w.heap.size w w') := by intro e w'; rw [hA]; exact Iff.rfl
 rw [← hlc]
 have HL : Hid (lc[1]? = some pv ∧ lc[2]? = some (.slice fp nf fc) ∧ lc[3]? = some (.slice ip ni ic) ∧ lc.length = 10) := by rw [hlc]; exact ⟨rfl, rfl, rfl, rfl⟩
 have HNA : Hid (na = A.length) := hna
 have HNM : Hid (N ≤ 4096) := hN
 obtain ⟨ep, ec0, rfl⟩ := hf.form
 obtain ⟨GP, hGP⟩ : ∃ GP : Ending → World → Prop, GP = TkP w N L fr := ⟨_, rfl⟩
 have HGP : Hid (GP = TkP w N L fr) := hGP
 rw [← hGP]
 have g1 : ¬ (N : Int) < 1 := by omega
 have g2 : ¬ (4096 : Int) < N := by omega
 clear h hX hf hs hR hfr hfl hlc hna hA hnf hni hGP
 go_enter Try.func8, Try.ntmps8
 go_wp2_with (first
  | (refine wpList_is (.box 31 (.tmp 1)) rfl ?_; refine wpList_boxG 31 lc 4 (.tmp 1) _ rfl rfl rfl rfl ?_; intro W1 hW1 hB1 hs1)
  | (refine wpList_is (.alloc 41) rfl ?_; refine wpList_laidG 41 5 88 info41 (cwL (.slice none 0 0) (.slice none 0 0) (.slice none 0 0) (0, 0)) rfl (List.all_eq_true.1 (show (cwL (.slice none 0 0) (.slice none 0 0) (.slice none 0 0) (0, 0)).all (fun u => u.oneCell') = true from rfl)) 7 (.tmp 15) _ _ rfl rfl rfl rfl rfl rfl rfl rfl ?_; intro W3 hW3 hB3 hs3; have r1 : W3.rangeAt w.heap.size 0 lc := range_keep (range_keep (range_heap hW1) hB2 (by omega)) hB3 (by omega))
  | (refine wpList_is (.alloc 41) rfl ?_; refine wpList_allocG 41 5 88 info41 6 _ rfl rfl rfl ?_; intro W2 zs hzs hW2 hB2 hs2)
  | (refine wpList_is (.build 41 #[]) rfl ?_; refine wpList_buildTo rfl 41 _ rfl (some 15) rfl (cwL (.slice none 0 0) (.slice none 0 0) (.slice none 0 0) (0, 0)).toArray (by kernel_rfl) ?_)
  | (refine wpList_is (.load 31 (.tmp 4)) rfl ?_; refine wpList_loadG 31 10 176 info33 _ Try.underlying31 rfl lc HL.out.2.2.2 w.heap.size 0 (.tmp 4) rfl rfl rfl r1 (some 25) rfl ?_)
  | fail)
 clear r1
 obtain ⟨z1, hz1⟩ : ∃ z, z = W1.heap.size := ⟨_, rfl⟩
 obtain ⟨z2, hz2⟩ : ∃ z, z = W2.heap.size := ⟨_, rfl⟩
 have b1 : Below w.heap.size w W3 := hB1.trans ((hB2.trans (hB3.mono (by omega))).mono (by omega))
 try rw [← hs1]
 try rw [← hs2]
 try rw [← hz2]
 try rw [← hz1]
 go_at_call 19
 refine (C19.out _ b1).mono ?_
 rintro e W4 ⟨av, rfl, hrow, hB4⟩
 have HE : Hid (DT w W4 z1 z2 lc zs (List.replicate 0 (0, 0, 0)) [] [] (.slice none 0 0) (.slice none 0 0) (.slice none 0 0) av A) := by
  have o1 := (Owns.nil w w.heap.size).new (k := 10) hW1 hB1 HL.out.2.2.2 (Nat.le_refl _)
  have o2 := o1.new (k := 5) hW2 hB2 hzs (by omega)
  have o3 := o2.new (k := 5) hW3 hB3 rfl (by omega)
  rw [← hz1, ← hz2] at o3
  have o4 := o3.push (r := rowW (List.replicate 0 (0, 0, 0)) (.slice none 0 0)) (Below.refl _ _) (World.ownsRow_nil _ _ _ _) (by omega)
  have o5 := o4.push (r := rowC [] (.slice none 0 0)) (Below.refl _ _) (World.ownsRow_nil _ _ _ _) (by omega)
  have o6 := o5.push (r := rowC [] (.slice none 0 0)) (Below.refl _ _) (World.ownsRow_nil _ _ _ _) (by omega)
  have hrow2 : W4.ownsRow W3.heap.size 88 3 av A.length ((A.map An).flatten) := by rw [← HNA.out]; exact hrow
  have o7 := o6.push (r := rowA A av) hB4 hrow2 (by omega)
  exact ⟨o7.perm (List.reverse_perm _).symm, b1.trans (hB4.mono b1.size)⟩
 obtain ⟨ap, ac, rfl⟩ := own_form hrow
 clear hW1 hW2 hW3 hB1 hB2 hB3 hs1 hs2 hs3 hz1 hz2 b1 hrow hB4 C19
 go_wp2
 go_loopw [10] (fun v wr => ∃ i : Nat, i ≤ N ∧ v = .int .i64 i ∧ Hid (∃ gv, DT w wr z1 z2 lc zs (List.replicate i (0, 0, 0)) [] [] gv (.slice none 0 0) (.slice none 0 0) (.slice ap na ac) A)) (fun v _ => (N - intOf v).toNat)
 case atStart => exact ⟨0, by omega, rfl, _, HE.out⟩
 case round =>
  clear HE
  obtain ⟨i, hi, rfl, HI⟩ := hrel
  rename World => wr
  obtain ⟨gv, hD⟩ := HI.out
  by_cases hin : i < N
  ·as_aux_lemma =>
    have i1 : (i : Int) < N := by omega
    have hvv := hD.fr
    rw [List.length_replicate] at hvv
    obtain ⟨vp, vc, rfl⟩ := own_form hvv
    have HD : Hid (DT w wr z1 z2 lc zs (List.replicate i (0, 0, 0)) [] [] (.slice vp i vc) (.slice none 0 0) (.slice none 0 0) (.slice ap na ac) A) := hD
    have k0 : wr.cell? ⟨z2, 0, .none⟩ = some (.slice vp i vc) := (hD.cs 0).1
    clear hvv hD HI
    go_wp2_with (first
     | (refine wpList_is (.build 85 #[]) rfl ?_; refine wpList_buildTo rfl 85 _ rfl (some 35) rfl (owL (0, 0, 0)).toArray (by kernel_rfl) ?_)
     | (refine wpList_is (.buildSlice 36 1 #[(0, .tmp 35)]) rfl ?_; refine wpList_pushG (A := [bx 31 10 w.heap.size lc, bx 41 5 z1 zs, bx 41 5 z2 (cwL (.slice vp i vc) (.slice none 0 0) (.slice none 0 0) (0, 0))]) (r := rowW (List.replicate i (0, 0, 0)) (.slice vp i vc)) (B := [rowC [] (.slice none 0 0), rowC [] (.slice none 0 0), rowA A (.slice ap na ac)]) 36 85 3 24 info59 Try.underlying36 (by decide) (by decide) (by decide) HD.out.own rfl rfl (by show (List.replicate i _).length ≤ _; rw [List.length_replicate]; omega) HD.out.bel.size (owL (0, 0, 0)) rfl (owL_one _) 35 36 (.tmp 34) rfl rfl rfl rfl rfl rfl (some 37) rfl rfl rfl ?_; intro v5 w5 hO5 hB5; clear k0; have hv5 : w5.ownsRow w.heap.size 85 3 v5 ((rowW (List.replicate i (0, 0, 0)) (.slice vp i vc)).n + 1) _ := hO5.own _ (List.mem_append_right _ (List.mem_cons_self ..)); obtain ⟨n5, hn5⟩ : ∃ n5, n5 = (rowW (List.replicate i (0, 0, 0)) (.slice vp i vc)).n + 1 := ⟨_, rfl⟩; rw [← hn5] at hv5; obtain ⟨vp5, vc5, rfl⟩ := own_form hv5; clear hn5 hv5; obtain ⟨d3, d5⟩ : w5.cell? ⟨z2, 0, .none⟩ = some (.slice vp i vc) ∧ w5.frozen? ⟨z2, 0, .none⟩ = false := hO5.cell (t := 41) (k := 5) (b := z2) (cs := cwL (.slice vp i vc) (.slice none 0 0) (.slice none 0 0) (0, 0)) (by simp) 0)
     | fail)
    refine ⟨⟨i + 1, by omega, by go_num, .slice vp5 n5 vc5, ?_⟩, by simp [intOf]; omega⟩
    rw [List.replicate_succ']
    exact HD.out.pushF (0, 0, 0) hO5 hB5
  have i1 : ¬ (i : Int) < N := by omega
  obtain rfl : i = N := by omega
  have HE0 : Hid (∃ gv, DT w wr z1 z2 lc zs (frL i (A.take 0)) [] [] gv (.slice none 0 0) (.slice none 0 0) (.slice ap na ac) A) := by rw [List.take_zero, frL_nil]; exact HI.out
  clear HI hD
  obtain ⟨gv2, hD⟩ := HE0.out
  obtain ⟨g, gc, rfl⟩ : ∃ g c, gv2 = .slice (some ⟨g, 0, .none⟩) i c := by
   have hf := hD.fr
   rw [frL_len] at hf
   rcases hf.2 with ⟨_, e⟩ | ⟨g, c, cur, e, _⟩
   ·omega
   ·exact ⟨g, c, e⟩
  have HE : Hid (DT w wr z1 z2 lc zs (frL i (A.take 0)) [] [] (.slice (some ⟨g, 0, .none⟩) i gc) (.slice none 0 0) (.slice none 0 0) (.slice ap na ac) A) := hD
  obtain ⟨N, hNN⟩ : ∃ N, N = i := ⟨_, rfl⟩
  subst hNN
  clear HE0 hD gv hi hin
  go_wp2
  go_loopw [9, 11] (fun v9 v wr => ∃ i : Nat, i ≤ na ∧ v = .int .i64 i ∧ ∃ p : Int, v9 = .int .i64 p ∧ Hid (PlQ N A i p ∧ DT w wr z1 z2 lc zs (frL N (A.take i)) [] [] (.slice (some ⟨g, 0, .none⟩) N gc) (.slice none 0 0) (.slice none 0 0) (.slice ap na ac) A)) (fun _ v _ => (na - intOf v).toNat)
  case atStart => exact ⟨0, by omega, rfl, -1, rfl, .inl ⟨rfl, fun j x h => by omega⟩, HE.out⟩
  case round =>
   clear HE
   obtain ⟨i, hi, rfl, p, rfl, HI⟩ := hrel
   rename World => wr
   have hD := HI.out.2
   have hpb := HI.out.1.bd
   by_cases hin : i < na
   ·as_aux_lemma =>
     have i3 : (i : Int) < na := by omega
     have hal := Sl.ofA hD.al
     obtain ⟨-, b, o, x, cs, rfl, hbX, hx, rfl, hcl, hr⟩ := hal.at hin
     have HXX : Hid (A[i]? = some x) := hx
     have a0 := hr 0 _ rfl
     have a1 := hr 1 _ rfl
     have a2 := hr 2 _ rfl
     rw [Nat.add_zero] at a0
     obtain ⟨pa, hpa⟩ : ∃ pa, pa = x.1 := ⟨_, rfl⟩
     obtain ⟨xc, hxc⟩ : ∃ v, v = x.2.1 := ⟨_, rfl⟩
     obtain ⟨xo, hxo⟩ : ∃ v, v = x.2.2 := ⟨_, rfl⟩
     rw [show (An x) = [.int .u64 x.1, .int .i64 x.2.1, .int .i64 x.2.2] from rfl] at hr
     have HV : Hid (pa = x.1 ∧ xc = x.2.1 ∧ xo = x.2.2) := ⟨hpa, hxc, hxo⟩
     rw [show ((some (Value.int .u64 x.1))) = some (.int .u64 pa) by rw [hpa]] at a0
     rw [show ((some (Value.int .i64 x.2.1))) = some (.int .i64 xc) by rw [hxc]] at a1
     rw [show ((some (Value.int .i64 x.2.2))) = some (.int .i64 xo) by rw [hxo]] at a2
     have c20 := dframe_any N pa HNM.out (by rw [hpa]; exact HAB.out x (List.mem_of_getElem? hx)) wr
     have k0 : wr.cell? ⟨z2, 0, .none⟩ = some (.slice (some ⟨g, 0, .none⟩) N gc) := (hD.cs 0).1
     have HD : Hid (DT w wr z1 z2 lc zs (frL N (A.take i)) [] [] (.slice (some ⟨g, 0, .none⟩) N gc) (.slice none 0 0) (.slice none 0 0) (.slice (some ⟨b, o, .none⟩) na ac) A) := hD
     have HPQ : Hid (PlQ N A i p) := HI.out.1
     have HTK : Hid (A.take (i + 1) = A.take i ++ [x]) := by show _ = _; rw [List.take_add_one, hx]; rfl
     clear hr hcl hbX hx hal hpa hxc hxo hD HI
     by_cases hF : isF N pa
     case neg =>
      rw [if_neg hF] at c20
      have HN2 : Hid (PlQ N A (i + 1) (if p < 0 then (i : Int) else p)) := HPQ.out.bad HXX.out (by rw [← HV.out.1]; exact hF)
      have HN3 : Hid (frL N (A.take (i + 1)) = frL N (A.take i)) := by show _ = _; rw [HTK.out]; exact frL_miss (by rw [← HV.out.1]; exact hF)
      clear hF
      by_cases hp : p < 0
      ·have HN4 : Hid (PlQ N A (i + 1) (i : Int)) := by have := HN2.out; rw [if_pos hp] at this; exact this
       go_wp2_with (first | (go_at_call 20; refine c20.mono ?_; rintro e W4 ⟨rfl, rfl⟩; clear c20) | fail)
       exact ⟨⟨i + 1, by omega, by go_num, i, rfl, HN4.out, by rw [HN3.out]; exact HD.out⟩, by simp [intOf]; omega⟩
      ·have HN4 : Hid (PlQ N A (i + 1) p) := by have := HN2.out; rw [if_neg hp] at this; exact this
       go_wp2_with (first | (go_at_call 20; refine c20.mono ?_; rintro e W4 ⟨rfl, rfl⟩; clear c20) | fail)
       exact ⟨⟨i + 1, by omega, by go_num, p, rfl, HN4.out, by rw [HN3.out]; exact HD.out⟩, by simp [intOf]; omega⟩
     obtain ⟨k, hkN, hfk, hak⟩ := isF_ex hF
     rw [if_pos hF, hfk] at c20
     have HN2 : Hid (PlQ N A (i + 1) p) := HPQ.out.good HXX.out (by rw [← HV.out.1]; exact hF)
     have HN3 : Hid (frL N (A.take (i + 1)) = (frL N (A.take i)).set k (owStep (owF (A.take i) (frA k)) x)) := by show _ = _; rw [HTK.out]; exact frL_hit hkN (by rw [← HV.out.1]; exact hak)
     obtain ⟨q, hq⟩ : ∃ q, q = (owF (A.take i) (frA k)).getD (0, 0, 0) := ⟨_, rfl⟩
     have HG : Hid ((frL N (A.take i))[k]? = some q) := by show _ = _; rw [hq]; exact frL_get hkN
     have HFL : Hid ((frL N (A.take i)).length = N) := frL_len _ _
     have k2 := HD.out.cellF HG.out 2 _ rfl
     have k1 := HD.out.cellF HG.out 1 _ rfl
     have k3 := HD.out.cellF HG.out 0 _ rfl
     have hqb : 0 ≤ q.2.2 ∧ q.2.2 ≤ 1000000 := by
      rw [hq]
      have h1 := ow_nonneg (A.take i) (frA k)
      have h2 := ow_le (A.take i) (frA k)
      rw [List.length_take] at h2
      omega
     have HSN : Hid (q.2.2 = 0 → owStep (owF (A.take i) (frA k)) x = (xc, xo, q.2.2 + 1)) := fun e => by rw [hq] at e ⊢; rw [HV.out.2.1, HV.out.2.2]; exact step_new e
     have HSO : Hid (q.2.2 ≠ 0 → owStep (owF (A.take i) (frA k)) x = (q.1, q.2.1, q.2.2 + 1)) := fun e => by rw [hq] at e ⊢; exact step_old e
     have hkn : (k : Int) < N := by omega
     obtain ⟨hzg, hbg⟩ : z2 ≠ g ∧ b ≠ g := by
      have hnd := HD.out.own.nd
      simp [blks, bx, rowW, rowC, rowA, Value.ownBlock] at hnd
      obtain ⟨_, _, ⟨h1, h2⟩, h3⟩ := hnd
      exact ⟨h1, fun e => h3 e.symm⟩
     obtain ⟨k2, f2⟩ := k2
     obtain ⟨k1, f1⟩ := k1
     obtain ⟨k3, f3⟩ := k3
     obtain ⟨tm, htm⟩ : ∃ t, t = q.2.2 := ⟨_, rfl⟩
     rw [← htm] at k2 hqb HSN HSO
     rw [Nat.add_zero] at k3 f3
     have hw1 : IntKind.i64.wrap (tm + 1) = tm + 1 := by rw [IntKind.wrap_i64]; omega
     clear hF hfk hak hq htm
     by_cases h0 : tm = 0
     ·have e0 : (tm == 0) = true := by simp [h0]
      have HS : Hid (owStep (owF (A.take i) (frA k)) x = (xc, xo, tm + 1)) := HSN.out h0
      have HK2 : Hid (k < N) := hkN
      have HZ0 : Hid (tm = 0) := h0
      clear h0 HSN HSO hkN
      go_upto_region 19 with (first | (go_at_call 20; refine c20.mono ?_; rintro e W4 ⟨rfl, rfl⟩; clear c20) | fail)
      go_region
      go_wp2
      go_region
      go_wp2
      refine ⟨⟨i + 1, by omega, by go_num, p, rfl, HN2.out, ?_⟩, by simp [intOf]; omega⟩
      rw [HN3.out, HS.out]
      exact (HD.out.setF3 HFL.out HK2.out (xc, xo, tm + 1)).drew.drew
     ·have e0 : (tm == 0) = false := by simp [h0]
      have HS : Hid (owStep (owF (A.take i) (frA k)) x = (q.1, q.2.1, tm + 1)) := HSO.out h0
      clear h0 HSN HSO hkN
      go_wp2_with (first | (go_at_call 20; refine c20.mono ?_; rintro e W4 ⟨rfl, rfl⟩; clear c20) | fail)
      refine ⟨⟨i + 1, by omega, by go_num, p, rfl, HN2.out, ?_⟩, by simp [intOf]; omega⟩
      rw [HN3.out, HS.out]
      exact HD.out.setF1 HFL.out HG.out (tm + 1)
   have i3 : ¬ (i : Int) < na := by omega
   have HPL : Hid (PlP N A p) := HI.out.1.done (by have := HNA.out; omega)
   obtain ⟨GV, hGV⟩ : ∃ GV, GV = Value.slice (some ⟨g, 0, .none⟩) N gc := ⟨_, rfl⟩
   have HE : Hid (DT w wr z1 z2 lc zs (frL N A) ((L.files.take 0).map (cfF (nfA L))) [] GV (.slice none 0 0) (.slice none 0 0) (.slice ap na ac) A) := by
    have h1 := HI.out.2
    rw [List.take_of_length_le (by have := HNA.out; omega)] at h1
    rw [hGV]
    exact h1
   have HP2 : Hid (-1 ≤ p ∧ p ≤ 1000001) := by have := hpb; exact ⟨by omega, by omega⟩
   clear HI hpb hGV hD
   obtain ⟨av, hav⟩ : ∃ av, av = Value.slice ap na ac := ⟨_, rfl⟩
   rw [← hav] at HE
   go_wp2
   rw [← hav]
   clear hav
   go_loopw [13] (fun v wr => ∃ i : Nat, i ≤ nf ∧ v = .int .i64 i ∧ Hid (∃ u, DT w wr z1 z2 lc zs (frL N A) ((L.files.take i).map (cfF (nfA L))) [] GV u (.slice none 0 0) av A)) (fun v _ => (nf - intOf v).toNat)
   case atStart => exact ⟨0, by omega, rfl, _, HE.out⟩
   case round =>
    clear HE
    obtain ⟨i, hi, rfl, HI⟩ := hrel
    rename World => wr
    obtain ⟨u, hD⟩ := HI.out
    have kl : wr.cell? ⟨w.heap.size, 2, .none⟩ = some (.slice fp nf fc) := (hD.lk 2).trans HL.out.2.1
    by_cases hin : i < nf
    ·as_aux_lemma =>
      have i1 : (i : Int) < nf := by omega
      obtain ⟨-, b, o, x, cs, hpe, hbX, hx, rfl, hcl, hr⟩ := HLW.out.1.fs.at hin
      subst hpe
      have HLN : Hid (((L.files.take i).map (cfF (nfA L))).length = i) := by show _ = _; rw [List.length_map, List.length_take]; have := HNN.out.1; omega
      have hvv := hD.c1
      rw [HLN.out] at hvv
      obtain ⟨vp, vc, rfl⟩ := own_form hvv
      have HD : Hid (DT w wr z1 z2 lc zs (frL N A) ((L.files.take i).map (cfF (nfA L))) [] GV (.slice vp i vc) (.slice none 0 0) av A) := hD
      obtain ⟨n0, hn0⟩ : ∃ n0, n0 = x.num := ⟨_, rfl⟩
      obtain ⟨n1, hn1⟩ : ∃ n1, n1 = x.refs := ⟨_, rfl⟩
      obtain ⟨c, hc⟩ : ∃ c, c = (fdN L.procs n0 : Int) := ⟨_, rfl⟩
      have HC : Hid ((fdN L.procs n0 : Int) = c) := hc.symm
      have HX : Hid (∀ V, Below w.heap.size w V → V.cell? ⟨b, o + i * 8, .none⟩ = some (.int .i64 n0) ∧ V.cell? ⟨b, o + i * 8 + 2, .none⟩ = some (.int .i64 n1)) := fun V hV => by
       have h1 := range_keep hr hV (by have := HLW.out.2; omega)
       have a0 := h1 0 _ rfl
       have a2 := h1 2 _ rfl
       rw [Nat.add_zero] at a0
       rw [hn0, hn1]
       exact ⟨a0, a2⟩
      have HEE : Hid ((L.files.take (i + 1)).map (cfF (nfA L)) = (L.files.take i).map (cfF (nfA L)) ++ [(n0, n1, c)]) := by
       show _ = _
       rw [List.take_add_one, hx, hc, hn1, hn0, ← nf_fds]
       simp [cfF]
      have HLK : Hid (lc[2]? = some (.slice (some ⟨b, o, .none⟩) nf fc)) := HL.out.2.1
      obtain ⟨ec, hec⟩ : ∃ ec, ec = fc := ⟨_, rfl⟩
      rw [← hec] at HLK kl
      have HLL : Hid (lc.length = 10) := HL.out.2.2.2
      have CC := C21
      have hS : (fun V : World => V.cell? ⟨z2, 1, .none⟩ = some (.slice vp i vc) ∧ V.cell? ⟨w.heap.size, 2, .none⟩ = some (.slice (some ⟨b, o, .none⟩) nf ec) ∧ V.cell? ⟨b, o + i * 8, .none⟩ = some (.int .i64 n0) ∧ V.cell? ⟨b, o + i * 8 + 2, .none⟩ = some (.int .i64 n1) ∧ V.rangeAt w.heap.size 0 lc) wr.drew := ⟨(hD.cs 1).1, kl, (HX.out _ hD.bel).1, (HX.out _ hD.bel).2, hD.rl⟩
      clear hr hcl hbX hx hn0 hn1 hc hvv hD HI
      go_upto_region 25 with fail
      clear kl hec
      refine region_upto (fun V => V.cell? ⟨z2, 1, .none⟩ = some (.slice vp i vc) ∧ V.cell? ⟨w.heap.size, 2, .none⟩ = some (.slice (some ⟨b, o, .none⟩) nf ec) ∧ V.cell? ⟨b, o + i * 8, .none⟩ = some (.int .i64 n0) ∧ V.cell? ⟨b, o + i * 8 + 2, .none⟩ = some (.int .i64 n1) ∧ V.rangeAt w.heap.size 0 lc) 26 (by kernel_rfl) ?_
      refine uT 0 (.pointer (some ⟨z2, 1, .none⟩)) rfl rfl (fun ww hSw => by obtain ⟨q1, q2, q3, q4, q5⟩ := hSw; go_simp) hS ?_
      simp only [x0,x1,x2,x3,x4,x5,x6]
      refine uT 1 (.slice vp i vc) rfl rfl (fun ww hSw => by obtain ⟨q1, q2, q3, q4, q5⟩ := hSw; go_simp) hS ?_
      simp only [x0,x1,x2,x3,x4,x5,x6]
      refine uT 2 (.pointer (some ⟨w.heap.size, 2, .none⟩)) rfl rfl (fun ww hSw => by obtain ⟨q1, q2, q3, q4, q5⟩ := hSw; go_simp) hS ?_
      simp only [x0,x1,x2,x3,x4,x5,x6]
      refine uT 3 (.slice (some ⟨b, o, .none⟩) nf ec) rfl rfl (fun ww hSw => by obtain ⟨q1, q2, q3, q4, q5⟩ := hSw; go_simp) hS ?_
      simp only [x0,x1,x2,x3,x4,x5,x6]
      refine uT 4 (.int .i64 i) rfl rfl (fun ww hSw => by obtain ⟨q1, q2, q3, q4, q5⟩ := hSw; go_simp) hS ?_
      simp only [x0,x1,x2,x3,x4,x5,x6]
      refine uT 5 (.pointer (some ⟨b, o + i * 8, .none⟩)) rfl rfl (fun ww hSw => by obtain ⟨q1, q2, q3, q4, q5⟩ := hSw; go_simp) hS ?_
      simp only [x0,x1,x2,x3,x4,x5,x6]
      refine uT 6 (.pointer (some ⟨b, o + i * 8, .none⟩)) rfl rfl (fun ww hSw => by obtain ⟨q1, q2, q3, q4, q5⟩ := hSw; go_simp) hS ?_
      simp only [x0,x1,x2,x3,x4,x5,x6]
      refine uT 7 (.int .i64 n0) rfl rfl (fun ww hSw => by obtain ⟨q1, q2, q3, q4, q5⟩ := hSw; go_simp) hS ?_
      simp only [x0,x1,x2,x3,x4,x5,x6]
      refine uT 8 (.pointer (some ⟨w.heap.size, 2, .none⟩)) rfl rfl (fun ww hSw => by obtain ⟨q1, q2, q3, q4, q5⟩ := hSw; go_simp) hS ?_
      simp only [x0,x1,x2,x3,x4,x5,x6]
      refine uT 9 (.slice (some ⟨b, o, .none⟩) nf ec) rfl rfl (fun ww hSw => by obtain ⟨q1, q2, q3, q4, q5⟩ := hSw; go_simp) hS ?_
      simp only [x0,x1,x2,x3,x4,x5,x6]
      refine uT 10 (.int .i64 i) rfl rfl (fun ww hSw => by obtain ⟨q1, q2, q3, q4, q5⟩ := hSw; go_simp) hS ?_
      simp only [x0,x1,x2,x3,x4,x5,x6]
      refine uT 11 (.pointer (some ⟨b, o + i * 8, .none⟩)) rfl rfl (fun ww hSw => by obtain ⟨q1, q2, q3, q4, q5⟩ := hSw; go_simp) hS ?_
      simp only [x0,x1,x2,x3,x4,x5,x6]
      refine uT 12 (.pointer (some ⟨b, o + i * 8 + 2, .none⟩)) rfl rfl (fun ww hSw => by obtain ⟨q1, q2, q3, q4, q5⟩ := hSw; go_simp) hS ?_
      simp only [x0,x1,x2,x3,x4,x5,x6]
      refine uT 13 (.int .i64 n1) rfl rfl (fun ww hSw => by obtain ⟨q1, q2, q3, q4, q5⟩ := hSw; go_simp) hS ?_
      simp only [x0,x1,x2,x3,x4,x5,x6]
      refine upto_take (i := 14) (v := (.agg lc.toArray)) (z := 26) rfl rfl (by kernel_rfl) (by kernel_rfl) (by kernel_rfl) (by kernel_rfl) (fun _ _ _ h => h) (yieldsIf_load_mid (by rfl) 31 (.tmp 4) rfl (w.heap.size) (0) rfl lc _ (fun ww hSw => hSw.2.2.2.2) Try.underlying31 rfl (by rw [HLL.out]; kernel_rfl)) hS ?_
      simp only [x0,x1,x2,x3,x4,x5,x6]
      refine uT 15 (.pointer (some ⟨w.heap.size, 2, .none⟩)) rfl rfl (fun ww hSw => by obtain ⟨q1, q2, q3, q4, q5⟩ := hSw; go_simp) hS ?_
      simp only [x0,x1,x2,x3,x4,x5,x6]
      refine uT 16 (.slice (some ⟨b, o, .none⟩) nf ec) rfl rfl (fun ww hSw => by obtain ⟨q1, q2, q3, q4, q5⟩ := hSw; go_simp) hS ?_
      simp only [x0,x1,x2,x3,x4,x5,x6]
      refine uT 17 (.int .i64 i) rfl rfl (fun ww hSw => by obtain ⟨q1, q2, q3, q4, q5⟩ := hSw; go_simp) hS ?_
      simp only [x0,x1,x2,x3,x4,x5,x6]
      refine uT 18 (.pointer (some ⟨b, o + i * 8, .none⟩)) rfl rfl (fun ww hSw => by obtain ⟨q1, q2, q3, q4, q5⟩ := hSw; go_simp) hS ?_
      simp only [x0,x1,x2,x3,x4,x5,x6]
      refine uT 19 (.pointer (some ⟨b, o + i * 8, .none⟩)) rfl rfl (fun ww hSw => by obtain ⟨q1, q2, q3, q4, q5⟩ := hSw; go_simp) hS ?_
      simp only [x0,x1,x2,x3,x4,x5,x6]
      refine uT 20 (.int .i64 n0) rfl rfl (fun ww hSw => by obtain ⟨q1, q2, q3, q4, q5⟩ := hSw; go_simp) hS ?_
      simp only [x0,x1,x2,x3,x4,x5,x6]
      refine upto_onlyK (i := 21) (by kernel_rfl) rfl (by rfl) (fun K hK => ?_)
      go_simp
      go_at_call 21
      refine (CC.out _ n0 HD.out.bel.drew).mono ?_
      rintro e W3 ⟨rfl, hB3⟩
      rw [HC.out]
      have HD3 : Hid (DT w W3 z1 z2 lc zs (frL N A) ((L.files.take i).map (cfF (nfA L))) [] GV (.slice vp i vc) (.slice none 0 0) av A) := HD.out.keep ((Below.refl wr.heap.size wr).drew.trans hB3)
      have hS3 : (fun V => V.cell? ⟨z2, 1, .none⟩ = some (.slice vp i vc) ∧ V.cell? ⟨w.heap.size, 2, .none⟩ = some (.slice (some ⟨b, o, .none⟩) nf ec) ∧ V.cell? ⟨b, o + i * 8, .none⟩ = some (.int .i64 n0) ∧ V.cell? ⟨b, o + i * 8 + 2, .none⟩ = some (.int .i64 n1) ∧ V.rangeAt w.heap.size 0 lc) W3 := ⟨((HD3.out.own).cell (t := 41) (k := 5) (b := z2) (cs := cwL GV (.slice vp i vc) (.slice none 0 0) (0, 0)) (by simp) 1).1, ((HD3.out.own).cell (t := 31) (k := 10) (b := w.heap.size) (cs := lc) (by simp) 2).1.trans HLK.out, (HX.out _ HD3.out.bel).1, (HX.out _ HD3.out.bel).2, range_heap ((HD3.out.own).bx (t := 31) (k := 10) (b := w.heap.size) (cs := lc) (by simp))⟩
      clear hS hB3
      refine hK.out _ _ (fun _ => hS3) ?_
      clear hK K
      try simp only [x0,x1,x2,x3,x4,x5,x6]
      refine uT 22 (.agg (owL (n0, n1, c)).toArray) rfl rfl (fun ww hSw => by go_simp; rfl) hS3 ?_
      simp only [x0,x1,x2,x3,x4,x5,x6]
      refine upto_onlyK (i := 23) (by kernel_rfl) rfl (by rfl) (fun K hK => ?_)
      refine wp_sliceG 37 91 3 24 info117 (by decide) (by decide) Try.underlying37 (owL (n0, n1, c)) rfl 122 rfl rfl ?_
      have HD4 : Hid (DT w (W3.alloc (.cells (owL (n0, n1, c)).toArray 91)) z1 z2 lc zs (frL N A) ((L.files.take i).map (cfF (nfA L))) [] GV (.slice vp i vc) (.slice none 0 0) av A) := HD3.out.keep (below1 _ _)
      have hS4 : (fun V => V.cell? ⟨z2, 1, .none⟩ = some (.slice vp i vc) ∧ V.cell? ⟨w.heap.size, 2, .none⟩ = some (.slice (some ⟨b, o, .none⟩) nf ec) ∧ V.cell? ⟨b, o + i * 8, .none⟩ = some (.int .i64 n0) ∧ V.cell? ⟨b, o + i * 8 + 2, .none⟩ = some (.int .i64 n1) ∧ V.rangeAt w.heap.size 0 lc) (W3.alloc (.cells (owL (n0, n1, c)).toArray 91)) := ⟨((HD4.out.own).cell (t := 41) (k := 5) (b := z2) (cs := cwL GV (.slice vp i vc) (.slice none 0 0) (0, 0)) (by simp) 1).1, ((HD4.out.own).cell (t := 31) (k := 10) (b := w.heap.size) (cs := lc) (by simp) 2).1.trans HLK.out, (HX.out _ HD4.out.bel).1, (HX.out _ HD4.out.bel).2, range_heap ((HD4.out.own).bx (t := 31) (k := 10) (b := w.heap.size) (cs := lc) (by simp))⟩
      clear hS3
      refine hK.out _ _ (fun _ => hS4) ?_
      clear hK K
      try simp only [x0,x1,x2,x3,x4,x5,x6]
      refine upto_onlyK (i := 24) (by kernel_rfl) rfl (by rfl) (fun K hK => ?_)
      refine wp_appG (A := [bx 31 10 w.heap.size lc, bx 41 5 z1 zs, bx 41 5 z2 (cwL GV (.slice vp i vc) (.slice none 0 0) (0, 0)), rowW (frL N A) GV]) (r := rowC ((L.files.take i).map (cfF (nfA L))) (.slice vp i vc)) (B := [rowC [] (.slice none 0 0), rowA A av]) 37 91 3 24 info117 Try.underlying37 (by decide) (by decide) HD4.out.own rfl rfl (by show (List.map _ _).length ≤ _; rw [HLN.out]; omega) HD4.out.bel.size (owL (n0, n1, c)) rfl (owL_one _) W3.heap.size (range_new _ _ _) (.tmp 101) (.tmp 123) rfl rfl rfl ?_
      intro v5 w5 hO5 hB5 hG5
      have hv5 : w5.ownsRow w.heap.size 91 3 v5 ((rowC ((L.files.take i).map (cfF (nfA L))) (.slice vp i vc)).n + 1) _ := hO5.own _ (List.mem_append_right _ (List.mem_cons_self ..))
      obtain ⟨n5, hn5⟩ : ∃ n5, n5 = (rowC ((L.files.take i).map (cfF (nfA L))) (.slice vp i vc)).n + 1 := ⟨_, rfl⟩
      rw [← hn5] at hv5
      obtain ⟨vp5, vc5, rfl⟩ := own_form hv5
      clear hn5 hv5
      have B5 : Below w.heap.size w w5 := HD4.out.bel.trans hB5
      have hS5 : (fun V => V.cell? ⟨z2, 1, .none⟩ = some (.slice vp i vc) ∧ V.cell? ⟨w.heap.size, 2, .none⟩ = some (.slice (some ⟨b, o, .none⟩) nf ec) ∧ V.cell? ⟨b, o + i * 8, .none⟩ = some (.int .i64 n0) ∧ V.cell? ⟨b, o + i * 8 + 2, .none⟩ = some (.int .i64 n1) ∧ V.rangeAt w.heap.size 0 lc) w5 := ⟨((hO5).cell (t := 41) (k := 5) (b := z2) (cs := cwL GV (.slice vp i vc) (.slice none 0 0) (0, 0)) (by simp) 1).1, ((hO5).cell (t := 31) (k := 10) (b := w.heap.size) (cs := lc) (by simp) 2).1.trans HLK.out, (HX.out _ B5).1, (HX.out _ B5).2, range_heap ((hO5).bx (t := 31) (k := 10) (b := w.heap.size) (cs := lc) (by simp))⟩
      have d5 : w5.frozen? ⟨z2, 1, .none⟩ = false := (hO5.cell (t := 41) (k := 5) (b := z2) (cs := cwL GV (.slice vp i vc) (.slice none 0 0) (0, 0)) (by simp) 1).2
      clear hS4
      refine hK.out _ _ (fun _ => hS5) ?_
      clear hK K
      try simp only [x0,x1,x2,x3,x4,x5,x6]
      refine uT 25 (.pointer (some ⟨z2, 1, .none⟩)) rfl rfl (fun ww hSw => by go_simp) hS5 ?_
      simp only [x0,x1,x2,x3,x4,x5,x6]
      refine upto_onlyK (i := 26) (by kernel_rfl) rfl (by rfl) (fun K hK => ?_)
      have d3 := hS5.1
      clear hS5
      go_simp
      clear d3 d5
      refine hK.out _ _ (fun h => absurd rfl h) ?_
      clear hK K
      try simp only [x0,x1,x2,x3,x4,x5,x6]
      refine upto_done (by kernel_rfl) ?_
      go_wp2
      refine ⟨⟨i + 1, by omega, by go_num, .slice vp5 n5 vc5, ?_⟩, by simp [intOf]; omega⟩
      rw [HEE.out]
      exact HD4.out.pushC (n0, n1, c) hO5 hB5
    have i1 : ¬ (i : Int) < nf := by omega
    have HE : Hid (∃ cv, DT w wr z1 z2 lc zs (frL N A) (L.files.map (cfF (nfA L))) ((L.inos.take 0).map (cfI (nfA L))) GV cv (.slice none 0 0) av A) := by
     obtain ⟨u, h1⟩ := HI.out
     rw [List.take_of_length_le (by have := HNN.out.1; omega)] at h1
     exact ⟨u, h1⟩
    clear HI hD
    obtain ⟨cv, hD⟩ := HE.out
    have HE : Hid (DT w wr z1 z2 lc zs (frL N A) (L.files.map (cfF (nfA L))) ((L.inos.take 0).map (cfI (nfA L))) GV cv (.slice none 0 0) av A) := hD
    obtain ⟨C1, hC1⟩ : ∃ C1, C1 = L.files.map (cfF (nfA L)) := ⟨_, rfl⟩
    rw [← hC1] at HE
    have HC1 : Hid (C1 = L.files.map (cfF (nfA L))) := hC1
    clear hD hC1
    go_wp2
    go_loopw [14] (fun v wr => ∃ i : Nat, i ≤ ni ∧ v = .int .i64 i ∧ Hid (∃ u, DT w wr z1 z2 lc zs (frL N A) C1 ((L.inos.take i).map (cfI (nfA L))) GV cv u av A)) (fun v _ => (ni - intOf v).toNat)
    case atStart => exact ⟨0, by omega, rfl, _, HE.out⟩
    case round =>
     clear HE
     obtain ⟨i, hi, rfl, HI⟩ := hrel
     rename World => wr
     obtain ⟨u, hD⟩ := HI.out
     have kl : wr.cell? ⟨w.heap.size, 3, .none⟩ = some (.slice ip ni ic) := (hD.lk 3).trans HL.out.2.2.1
     by_cases hin : i < ni
     ·as_aux_lemma =>
       have i1 : (i : Int) < ni := by omega
       obtain ⟨-, b, o, x, cs, hpe, hbX, hx, ⟨bv, rfl, hNw⟩, hcl, hr⟩ := HLW.out.1.is.at hin
       subst hpe
       have HLN : Hid (((L.inos.take i).map (cfI (nfA L))).length = i) := by show _ = _; rw [List.length_map, List.length_take]; have := HNN.out.2; omega
       have hvv := hD.c2
       rw [HLN.out] at hvv
       obtain ⟨vp, vc, rfl⟩ := own_form hvv
       have HD : Hid (DT w wr z1 z2 lc zs (frL N A) C1 ((L.inos.take i).map (cfI (nfA L))) GV cv (.slice vp i vc) av A) := hD
       obtain ⟨n0, hn0⟩ : ∃ n0, n0 = x.ino := ⟨_, rfl⟩
       obtain ⟨n1, hn1⟩ : ∃ n1, n1 = x.refs := ⟨_, rfl⟩
       obtain ⟨c, hc⟩ : ∃ c, c = ((nFl L.files n0 + nPc L.procs n0 : Nat) : Int) := ⟨_, rfl⟩
       have HC : Hid (((nFl L.files n0 + nPc L.procs n0 : Nat) : Int) = c) := hc.symm
       have HX : Hid (∀ V, Below w.heap.size w V → V.cell? ⟨b, o + i * 8, .none⟩ = some (.int .i64 n0) ∧ V.cell? ⟨b, o + i * 8 + 5, .none⟩ = some (.int .i64 n1)) := fun V hV => by
        have h1 := range_keep hr hV (by have := HLW.out.2; omega)
        have a0 := h1 0 _ rfl
        have a2 := h1 5 _ rfl
        rw [Nat.add_zero] at a0
        rw [hn0, hn1]
        exact ⟨a0, a2⟩
       have HEE : Hid ((L.inos.take (i + 1)).map (cfI (nfA L)) = (L.inos.take i).map (cfI (nfA L)) ++ [(n0, n1, c)]) := by
        show _ = _
        rw [List.take_add_one, hx, hc, hn1, hn0, ← nf_names]
        simp [cfI]
       have HLK : Hid (lc[3]? = some (.slice (some ⟨b, o, .none⟩) ni ic)) := HL.out.2.2.1
       obtain ⟨ec, hec⟩ : ∃ ec, ec = ic := ⟨_, rfl⟩
       rw [← hec] at HLK kl
       have HLL : Hid (lc.length = 10) := HL.out.2.2.2
       have CC := C22
       have hS : (fun V : World => V.cell? ⟨z2, 2, .none⟩ = some (.slice vp i vc) ∧ V.cell? ⟨w.heap.size, 3, .none⟩ = some (.slice (some ⟨b, o, .none⟩) ni ec) ∧ V.cell? ⟨b, o + i * 8, .none⟩ = some (.int .i64 n0) ∧ V.cell? ⟨b, o + i * 8 + 5, .none⟩ = some (.int .i64 n1) ∧ V.rangeAt w.heap.size 0 lc) wr.drew := ⟨(hD.cs 2).1, kl, (HX.out _ hD.bel).1, (HX.out _ hD.bel).2, hD.rl⟩
       clear hr hcl hbX hx hn0 hn1 hc hvv hD HI
       go_upto_region 29 with fail
       clear kl hec
       refine region_upto (fun V => V.cell? ⟨z2, 2, .none⟩ = some (.slice vp i vc) ∧ V.cell? ⟨w.heap.size, 3, .none⟩ = some (.slice (some ⟨b, o, .none⟩) ni ec) ∧ V.cell? ⟨b, o + i * 8, .none⟩ = some (.int .i64 n0) ∧ V.cell? ⟨b, o + i * 8 + 5, .none⟩ = some (.int .i64 n1) ∧ V.rangeAt w.heap.size 0 lc) 26 (by kernel_rfl) ?_
       refine uT 0 (.pointer (some ⟨z2, 2, .none⟩)) rfl rfl (fun ww hSw => by obtain ⟨q1, q2, q3, q4, q5⟩ := hSw; go_simp) hS ?_
       simp only [x0,x1,x2,x3,x4,x5,x6]
       refine uT 1 (.slice vp i vc) rfl rfl (fun ww hSw => by obtain ⟨q1, q2, q3, q4, q5⟩ := hSw; go_simp) hS ?_
       simp only [x0,x1,x2,x3,x4,x5,x6]
       refine uT 2 (.pointer (some ⟨w.heap.size, 3, .none⟩)) rfl rfl (fun ww hSw => by obtain ⟨q1, q2, q3, q4, q5⟩ := hSw; go_simp) hS ?_
       simp only [x0,x1,x2,x3,x4,x5,x6]
       refine uT 3 (.slice (some ⟨b, o, .none⟩) ni ec) rfl rfl (fun ww hSw => by obtain ⟨q1, q2, q3, q4, q5⟩ := hSw; go_simp) hS ?_
       simp only [x0,x1,x2,x3,x4,x5,x6]
       refine uT 4 (.int .i64 i) rfl rfl (fun ww hSw => by obtain ⟨q1, q2, q3, q4, q5⟩ := hSw; go_simp) hS ?_
       simp only [x0,x1,x2,x3,x4,x5,x6]
       refine uT 5 (.pointer (some ⟨b, o + i * 8, .none⟩)) rfl rfl (fun ww hSw => by obtain ⟨q1, q2, q3, q4, q5⟩ := hSw; go_simp) hS ?_
       simp only [x0,x1,x2,x3,x4,x5,x6]
       refine uT 6 (.pointer (some ⟨b, o + i * 8, .none⟩)) rfl rfl (fun ww hSw => by obtain ⟨q1, q2, q3, q4, q5⟩ := hSw; go_simp) hS ?_
       simp only [x0,x1,x2,x3,x4,x5,x6]
       refine uT 7 (.int .i64 n0) rfl rfl (fun ww hSw => by obtain ⟨q1, q2, q3, q4, q5⟩ := hSw; go_simp) hS ?_
       simp only [x0,x1,x2,x3,x4,x5,x6]
       refine uT 8 (.pointer (some ⟨w.heap.size, 3, .none⟩)) rfl rfl (fun ww hSw => by obtain ⟨q1, q2, q3, q4, q5⟩ := hSw; go_simp) hS ?_
       simp only [x0,x1,x2,x3,x4,x5,x6]
       refine uT 9 (.slice (some ⟨b, o, .none⟩) ni ec) rfl rfl (fun ww hSw => by obtain ⟨q1, q2, q3, q4, q5⟩ := hSw; go_simp) hS ?_
       simp only [x0,x1,x2,x3,x4,x5,x6]
       refine uT 10 (.int .i64 i) rfl rfl (fun ww hSw => by obtain ⟨q1, q2, q3, q4, q5⟩ := hSw; go_simp) hS ?_
       simp only [x0,x1,x2,x3,x4,x5,x6]
       refine uT 11 (.pointer (some ⟨b, o + i * 8, .none⟩)) rfl rfl (fun ww hSw => by obtain ⟨q1, q2, q3, q4, q5⟩ := hSw; go_simp) hS ?_
       simp only [x0,x1,x2,x3,x4,x5,x6]
       refine uT 12 (.pointer (some ⟨b, o + i * 8 + 5, .none⟩)) rfl rfl (fun ww hSw => by obtain ⟨q1, q2, q3, q4, q5⟩ := hSw; go_simp) hS ?_
       simp only [x0,x1,x2,x3,x4,x5,x6]
       refine uT 13 (.int .i64 n1) rfl rfl (fun ww hSw => by obtain ⟨q1, q2, q3, q4, q5⟩ := hSw; go_simp) hS ?_
       simp only [x0,x1,x2,x3,x4,x5,x6]
       refine upto_take (i := 14) (v := (.agg lc.toArray)) (z := 26) rfl rfl (by kernel_rfl) (by kernel_rfl) (by kernel_rfl) (by kernel_rfl) (fun _ _ _ h => h) (yieldsIf_load_mid (by rfl) 31 (.tmp 4) rfl (w.heap.size) (0) rfl lc _ (fun ww hSw => hSw.2.2.2.2) Try.underlying31 rfl (by rw [HLL.out]; kernel_rfl)) hS ?_
       simp only [x0,x1,x2,x3,x4,x5,x6]
       refine uT 15 (.pointer (some ⟨w.heap.size, 3, .none⟩)) rfl rfl (fun ww hSw => by obtain ⟨q1, q2, q3, q4, q5⟩ := hSw; go_simp) hS ?_
       simp only [x0,x1,x2,x3,x4,x5,x6]
       refine uT 16 (.slice (some ⟨b, o, .none⟩) ni ec) rfl rfl (fun ww hSw => by obtain ⟨q1, q2, q3, q4, q5⟩ := hSw; go_simp) hS ?_
       simp only [x0,x1,x2,x3,x4,x5,x6]
       refine uT 17 (.int .i64 i) rfl rfl (fun ww hSw => by obtain ⟨q1, q2, q3, q4, q5⟩ := hSw; go_simp) hS ?_
       simp only [x0,x1,x2,x3,x4,x5,x6]
       refine uT 18 (.pointer (some ⟨b, o + i * 8, .none⟩)) rfl rfl (fun ww hSw => by obtain ⟨q1, q2, q3, q4, q5⟩ := hSw; go_simp) hS ?_
       simp only [x0,x1,x2,x3,x4,x5,x6]
       refine uT 19 (.pointer (some ⟨b, o + i * 8, .none⟩)) rfl rfl (fun ww hSw => by obtain ⟨q1, q2, q3, q4, q5⟩ := hSw; go_simp) hS ?_
       simp only [x0,x1,x2,x3,x4,x5,x6]
       refine uT 20 (.int .i64 n0) rfl rfl (fun ww hSw => by obtain ⟨q1, q2, q3, q4, q5⟩ := hSw; go_simp) hS ?_
       simp only [x0,x1,x2,x3,x4,x5,x6]
       refine upto_onlyK (i := 21) (by kernel_rfl) rfl (by rfl) (fun K hK => ?_)
       go_simp
       go_at_call 22
       refine (CC.out _ n0 HD.out.bel.drew).mono ?_
       rintro e W3 ⟨rfl, hB3⟩
       rw [HC.out]
       have HD3 : Hid (DT w W3 z1 z2 lc zs (frL N A) C1 ((L.inos.take i).map (cfI (nfA L))) GV cv (.slice vp i vc) av A) := HD.out.keep ((Below.refl wr.heap.size wr).drew.trans hB3)
       have hS3 : (fun V => V.cell? ⟨z2, 2, .none⟩ = some (.slice vp i vc) ∧ V.cell? ⟨w.heap.size, 3, .none⟩ = some (.slice (some ⟨b, o, .none⟩) ni ec) ∧ V.cell? ⟨b, o + i * 8, .none⟩ = some (.int .i64 n0) ∧ V.cell? ⟨b, o + i * 8 + 5, .none⟩ = some (.int .i64 n1) ∧ V.rangeAt w.heap.size 0 lc) W3 := ⟨((HD3.out.own).cell (t := 41) (k := 5) (b := z2) (cs := cwL GV cv (.slice vp i vc) (0, 0)) (by simp) 2).1, ((HD3.out.own).cell (t := 31) (k := 10) (b := w.heap.size) (cs := lc) (by simp) 3).1.trans HLK.out, (HX.out _ HD3.out.bel).1, (HX.out _ HD3.out.bel).2, range_heap ((HD3.out.own).bx (t := 31) (k := 10) (b := w.heap.size) (cs := lc) (by simp))⟩
       clear hS hB3
       refine hK.out _ _ (fun _ => hS3) ?_
       clear hK K
       try simp only [x0,x1,x2,x3,x4,x5,x6]
       refine uT 22 (.agg (owL (n0, n1, c)).toArray) rfl rfl (fun ww hSw => by go_simp; rfl) hS3 ?_
       simp only [x0,x1,x2,x3,x4,x5,x6]
       refine upto_onlyK (i := 23) (by kernel_rfl) rfl (by rfl) (fun K hK => ?_)
       refine wp_sliceG 37 91 3 24 info117 (by decide) (by decide) Try.underlying37 (owL (n0, n1, c)) rfl 155 rfl rfl ?_
       have HD4 : Hid (DT w (W3.alloc (.cells (owL (n0, n1, c)).toArray 91)) z1 z2 lc zs (frL N A) C1 ((L.inos.take i).map (cfI (nfA L))) GV cv (.slice vp i vc) av A) := HD3.out.keep (below1 _ _)
       have hS4 : (fun V => V.cell? ⟨z2, 2, .none⟩ = some (.slice vp i vc) ∧ V.cell? ⟨w.heap.size, 3, .none⟩ = some (.slice (some ⟨b, o, .none⟩) ni ec) ∧ V.cell? ⟨b, o + i * 8, .none⟩ = some (.int .i64 n0) ∧ V.cell? ⟨b, o + i * 8 + 5, .none⟩ = some (.int .i64 n1) ∧ V.rangeAt w.heap.size 0 lc) (W3.alloc (.cells (owL (n0, n1, c)).toArray 91)) := ⟨((HD4.out.own).cell (t := 41) (k := 5) (b := z2) (cs := cwL GV cv (.slice vp i vc) (0, 0)) (by simp) 2).1, ((HD4.out.own).cell (t := 31) (k := 10) (b := w.heap.size) (cs := lc) (by simp) 3).1.trans HLK.out, (HX.out _ HD4.out.bel).1, (HX.out _ HD4.out.bel).2, range_heap ((HD4.out.own).bx (t := 31) (k := 10) (b := w.heap.size) (cs := lc) (by simp))⟩
       clear hS3
       refine hK.out _ _ (fun _ => hS4) ?_
       clear hK K
       try simp only [x0,x1,x2,x3,x4,x5,x6]
       refine upto_onlyK (i := 24) (by kernel_rfl) rfl (by rfl) (fun K hK => ?_)
       refine wp_appG (A := [bx 31 10 w.heap.size lc, bx 41 5 z1 zs, bx 41 5 z2 (cwL GV cv (.slice vp i vc) (0, 0)), rowW (frL N A) GV, rowC C1 cv]) (r := rowC ((L.inos.take i).map (cfI (nfA L))) (.slice vp i vc)) (B := [rowA A av]) 37 91 3 24 info117 Try.underlying37 (by decide) (by decide) HD4.out.own rfl rfl (by show (List.map _ _).length ≤ _; rw [HLN.out]; omega) HD4.out.bel.size (owL (n0, n1, c)) rfl (owL_one _) W3.heap.size (range_new _ _ _) (.tmp 134) (.tmp 156) rfl rfl rfl ?_
       intro v5 w5 hO5 hB5 hG5
       have hv5 : w5.ownsRow w.heap.size 91 3 v5 ((rowC ((L.inos.take i).map (cfI (nfA L))) (.slice vp i vc)).n + 1) _ := hO5.own _ (List.mem_append_right _ (List.mem_cons_self ..))
       obtain ⟨n5, hn5⟩ : ∃ n5, n5 = (rowC ((L.inos.take i).map (cfI (nfA L))) (.slice vp i vc)).n + 1 := ⟨_, rfl⟩
       rw [← hn5] at hv5
       obtain ⟨vp5, vc5, rfl⟩ := own_form hv5
       clear hn5 hv5
       have B5 : Below w.heap.size w w5 := HD4.out.bel.trans hB5
       have hS5 : (fun V => V.cell? ⟨z2, 2, .none⟩ = some (.slice vp i vc) ∧ V.cell? ⟨w.heap.size, 3, .none⟩ = some (.slice (some ⟨b, o, .none⟩) ni ec) ∧ V.cell? ⟨b, o + i * 8, .none⟩ = some (.int .i64 n0) ∧ V.cell? ⟨b, o + i * 8 + 5, .none⟩ = some (.int .i64 n1) ∧ V.rangeAt w.heap.size 0 lc) w5 := ⟨((hO5).cell (t := 41) (k := 5) (b := z2) (cs := cwL GV cv (.slice vp i vc) (0, 0)) (by simp) 2).1, ((hO5).cell (t := 31) (k := 10) (b := w.heap.size) (cs := lc) (by simp) 3).1.trans HLK.out, (HX.out _ B5).1, (HX.out _ B5).2, range_heap ((hO5).bx (t := 31) (k := 10) (b := w.heap.size) (cs := lc) (by simp))⟩
       have d5 : w5.frozen? ⟨z2, 2, .none⟩ = false := (hO5.cell (t := 41) (k := 5) (b := z2) (cs := cwL GV cv (.slice vp i vc) (0, 0)) (by simp) 2).2
       clear hS4
       refine hK.out _ _ (fun _ => hS5) ?_
       clear hK K
       try simp only [x0,x1,x2,x3,x4,x5,x6]
       refine uT 25 (.pointer (some ⟨z2, 2, .none⟩)) rfl rfl (fun ww hSw => by go_simp) hS5 ?_
       simp only [x0,x1,x2,x3,x4,x5,x6]
       refine upto_onlyK (i := 26) (by kernel_rfl) rfl (by rfl) (fun K hK => ?_)
       have d3 := hS5.1
       clear hS5
       go_simp
       clear d3 d5
       refine hK.out _ _ (fun h => absurd rfl h) ?_
       clear hK K
       try simp only [x0,x1,x2,x3,x4,x5,x6]
       refine upto_done (by kernel_rfl) ?_
       go_wp2
       refine ⟨⟨i + 1, by omega, by go_num, .slice vp5 n5 vc5, ?_⟩, by simp [intOf]; omega⟩
       rw [HEE.out]
       exact HD4.out.pushD (n0, n1, c) hO5 hB5
     have i1 : ¬ (i : Int) < ni := by omega
     have HE : Hid (∃ dv, DT w wr z1 z2 lc zs (frL N A) C1 (L.inos.map (cfI (nfA L))) GV cv dv av A) := by
      obtain ⟨u, h1⟩ := HI.out
      rw [List.take_of_length_le (by have := HNN.out.2; omega)] at h1
      exact ⟨u, h1⟩
     clear HI hD
     obtain ⟨dv, hD⟩ := HE.out
     have HD : Hid (DT w wr z1 z2 lc zs (frL N A) C1 (L.inos.map (cfI (nfA L))) GV cv dv av A) := hD
     have c23 := C23.out wr GV cv dv p hD.bel (Sl.ofW hD.fr rfl) (by rw [← HC1.out]; exact Sl.ofC hD.c1 rfl) (Sl.ofC hD.c2 rfl) HPL.out
     obtain ⟨tk, htk⟩ : ∃ t, t = tkW N L fr := ⟨_, rfl⟩
     rw [← htk] at c23
     have HTK : Hid (tk = tkW N L fr) := htk
     have HONE : Hid (∀ u ∈ cwL GV cv dv tk, u.oneCell' = true) := by
      obtain ⟨p1, c1, e1⟩ := own_form hD.fr
      obtain ⟨p2, c2, e2⟩ := own_form hD.c1
      obtain ⟨p3, c3, e3⟩ := own_form hD.c2
      rw [e1, e2, e3]
      exact List.all_eq_true.1 (show (cwL _ _ _ tk).all (fun u => u.oneCell') = true from rfl)
     have rc := range_heap hD.rc
     have rl := hD.rl
     clear hD HE htk
     go_wp2_with (first
      | (refine wpList_is (.load 41 (.tmp 7)) rfl ?_; refine wpList_loadG 41 5 88 info41 _ Try.underlying41 rfl (cwL GV cv dv (0, 0)) rfl z2 0 (.tmp 7) rfl rfl rfl rc (some 159) rfl ?_; clear rc)
      | (refine wpList_is (.load 31 (.tmp 4)) rfl ?_; refine wpList_loadG 31 10 176 info33 _ Try.underlying31 rfl lc HL.out.2.2.2 w.heap.size 0 (.tmp 4) rfl rfl rfl rl (some 160) rfl ?_; clear rl)
      | (go_at_call 23; refine c23.mono ?_; rintro e W5 ⟨rfl, hB5⟩; clear c23; have HD5 : Hid (DT w W5 z1 z2 lc zs (frL N A) C1 (L.inos.map (cfI (nfA L))) GV cv dv av A) := HD.out.keep hB5; have hth : W5.there z2 3 2 := there_mid (n := 5) (there_heap HD5.out.rc rfl) 3 2 (by omega))
      | (refine wpList_is (.store 39 (.tmp 164) (.tmp 163)) rfl ?_; refine wpList_storeM 39 z2 3 (wrL tk) (by kernel_rfl) (List.all_eq_true.1 (show (wrL tk).all (fun u => u.oneCell') = true from rfl)) (.tmp 164) (.tmp 163) _ rfl rfl rfl rfl rfl hth ?_; clear hth; have H6 : Hid (Owns (W5.setCells z2 3 (wrL tk)) w.heap.size [bx 31 10 w.heap.size lc, bx 41 5 z1 zs, bx 41 5 z2 (cwL GV cv dv tk), rowW (frL N A) GV, rowC C1 cv, rowC (L.inos.map (cfI (nfA L))) dv, rowA A av] ∧ Below w.heap.size w (W5.setCells z2 3 (wrL tk))) := HD5.out.fin tk; generalize W5.setCells z2 3 (wrL tk) = W6 at *; have rc6 := range_heap (H6.out.1.bx (t := 41) (k := 5) (b := z2) (cs := cwL GV cv dv tk) (by simp)))
      | (refine wpList_is (.load 41 (.tmp 7)) rfl ?_; refine wpList_loadG 41 5 88 info41 _ Try.underlying41 rfl (cwL GV cv dv tk) rfl z2 0 (.tmp 7) rfl rfl rfl rc6 (some 165) rfl ?_; clear rc6; have hZ6 : W6.heap[z1]? = some (.cells zs.toArray 41 (0, 0)) := H6.out.1.bx (t := 41) (k := 5) (b := z1) (cs := zs) (by simp))
      | (refine wpList_is (.store 41 (.tmp 6) (.tmp 165)) rfl ?_; refine wpList_storeG 41 5 88 z1 info41 (cwL GV cv dv tk) zs rfl hzs HONE.out (.tmp 6) (.tmp 165) _ rfl rfl rfl rfl rfl hZ6 ?_; intro W7 hW7 hg7 hs7)
      | fail)
     refine bodyPost_ret (results_cell_any (p := 6) (ty := 41) rfl _ _ ⟨z1, 0, .none⟩ _ rfl (run_loadVar_mid (P := Try.prog) _ z1 0 41 (cwL GV cv dv tk) _ (range_heap hW7) Try.underlying41 rfl (by kernel_rfl))) rfl ?_
     rw [HGP.out, HGO.out]
     refine ⟨GV, cv, dv, by rw [HTK.out], ?_, H6.out.2.grown hg7 H6.out.2.size (fun k hk => by injection hk with hk; have := HD5.out.z1l.1; omega)⟩
     rw [← HC1.out]
     exact fin_rows H6.out.1 hg7
end Go.Proofs.Ythopgmmodldljab
