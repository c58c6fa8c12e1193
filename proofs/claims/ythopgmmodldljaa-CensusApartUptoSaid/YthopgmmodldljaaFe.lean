import Derived.Test.YthopgmmodldljaaFd
namespace Go.Proofs.Ythopgmmodldljaa
open Go Go.RowKit
set_option linter.unusedVariables false
set_option linter.unusedSimpArgs false
/-! CensusApart. -/
theorem run_app_nil {v : Value} (hv : v = .slice none 0 0 ∨ ∃ g n c, v = .slice (some ⟨g, 0, .none⟩) n c ∧ n ≤ c) (ty : TypeId) (w : World) : (Builtin.append_ #[34, 34] ty #[v, .slice none 0 0]).run Try.prog w = .ok v w := by
  obtain ⟨i, z, hi, _⟩ := words_info
  rcases hv with rfl | ⟨g, n, c, rfl, hn⟩
  · simp [Builtin.append_, run_underlying Try.underlying34, sizeOf, typeInfo, hi, Builtin.lenOf, Builtin.firstCells, loadCells, loadCellsFrom]
  · simp [Builtin.append_, run_underlying Try.underlying34, sizeOf, typeInfo, hi, Builtin.lenOf, Builtin.firstCells, loadCells, loadCellsFrom, hn] <;> rfl
theorem wpList_appAll {w : World} {ops : Array Oper} {rest : List Oper} {o : Oper} {a : Act} {Q : Exit → Act → World → Prop} {base : Nat} {R : List Row} {l1 l2 : List Int} {v1 v2 : Value} (O : Owns w base (rowN l1 v1 :: rowN l2 v2 :: R)) (hl : l1.length + l2.length ≤ 10000000) (hbase : base ≤ w.heap.size) (hgd : o.guard = none) (s x : Operand)
    (ho : o.op = .call { callee := .builtin .append, args := #[s, x], argTypes := #[34, 34] }) (d : Option Tmp) (hd : o.dst = d) (hs : a.eval s = v1) (hx : a.eval x = v2)
    (h : ∀ v' w', Owns w' base (rowN (l1 ++ l2) v' :: rowN l2 v2 :: R) → Below base w w' → wpList Try.prog ops Q rest (a.put d v') w') : wpList Try.prog ops Q (o :: rest) a w := by
  subst hd
  have h1 : w.ownsRow base 24 1 v1 l1.length (l1.map (.int .u64)) := O.own (rowN l1 v1) (by simp)
  have h2 : w.ownsRow base 24 1 v2 l2.length (l2.map (.int .u64)) := O.own (rowN l2 v2) (by simp)
  rcases h2.2 with ⟨rfl, h0⟩ | ⟨g, cap, cur, rfl, hb, hg, hc, hm, hsz, ht⟩
  · have e : l2 = [] := List.eq_nil_of_length_eq_zero h0
    subst e
    have hv1 : v1 = .slice none 0 0 ∨ ∃ g n c, v1 = .slice (some ⟨g, 0, .none⟩) n c ∧ n ≤ c := by
      rcases h1.2 with ⟨rfl, _⟩ | ⟨g, cap, cur, rfl, _, _, hc, _⟩
      · exact .inl rfl
      · exact .inr ⟨g, _, cap, rfl, hc⟩
    refine wpList_plain hgd fun K hK => ?_
    unfold Oper.wp execOp
    simp only [ho, resolve, invoke, builtin, Sem.run_bind, Sem.run_pure, Result.andThen_ok, List.map_toArray, List.map_cons, List.map_nil, hs, hx, run_app_nil hv1]
    refine hK _ _ (h v1 w ?_ (Below.refl _ _))
    rw [List.append_nil]
    exact O
  · obtain ⟨i, z, hi, hz, hs1, hb1, hz1⟩ := words_info
    refine wpList_append_own_at _ hgd s x 34 ho base 24 i z 1 8 Try.underlying34 hi hz hs1 hb1 hz1 (by decide) v1 l1.length _ hs h1 ⟨g, 0, .none⟩ l2.length cap (l2.map (.int .u64)) hx (by simp) (fun j u hj => h2.cells (g := g) rfl j u hj) (by intro u hu; obtain ⟨y, _, rfl⟩ := List.mem_map.1 hu; rfl) (by unfold maxLen; omega) (by omega) hbase ?_
    intro v' w' hown hgr _ hloc
    have hO : Owns w' base (rowN (l1 ++ l2) v' :: rowN l2 _ :: R) := O.app (r' := rowN (l1 ++ l2) v') (by show w'.ownsRow base 24 1 v' (l1 ++ l2).length ((l1 ++ l2).map (.int .u64)); rw [List.length_append, List.map_append]; exact hown) hgr hloc
    refine h v' w' hO ⟨hgr.os, hgr.tape, hgr.output, hgr.size, fun k hk => hgr.block k (by omega) (fun e => ?_)⟩
    have := (h1.lt k e.symm).1
    omega
theorem neq59 (sl : Int) (w : World) : (binOp .neq 59 (.agg (owL (4, sl, 1)).toArray) (.agg (owL (4, sl, 1)).toArray)).run Try.prog w = .ok (.bool false) w := by
  have := eqv_neq (eq_59 9997 4 sl 1 4 sl 1) w
  rw [show (((4 : Int) == 4) && ((sl == sl) && (((1 : Int) == 1) && true))) = true by simp] at this
  exact this
theorem ow_mem {A : List Nm} {x : Nm} (hx : x ∈ A) (h1 : cn (fun y => y.1 == x.1) A = 1) : owF A x.1 = some (x.2.1, x.2.2, 1) := by
  have hlen : (A.filter (fun y => y.1 == x.1)).length = 1 := by have := cn_filter (fun y => y.1 == x.1) A; omega
  obtain ⟨y, hy⟩ := List.length_eq_one_iff.1 hlen
  have hxm : x ∈ A.filter (fun y => y.1 == x.1) := List.mem_filter.2 ⟨hx, by simp⟩
  rw [hy] at hxm
  obtain rfl := List.mem_singleton.1 hxm
  unfold owF
  cases hf : A.find? (fun y => y.1 == x.1) with
  | none => exact absurd (List.find?_eq_none.1 hf x hx) (by simp)
  | some z =>
    have hz : z ∈ A.filter (fun y => y.1 == x.1) := List.mem_filter.2 ⟨List.mem_of_find?_eq_some hf, by have := List.find?_some hf; simpa using this⟩
    rw [hy] at hz
    obtain rfl := List.mem_singleton.1 hz
    rw [hlen]
    rfl
theorem Fine.reach {N : Nat} {L : Lk} {fr : List Int} (h : Fine N L fr) (s b : Int) : ∀ a ∈ rcL s b L.procs, isF N a ∧ (frL N (allL L fr))[(frN a).toNat]? = some (4, s, 1) := by
  intro a ha
  unfold rcL rcP at ha
  cases hf : L.procs.find? (fun p => p.c 0 == s) with
  | none => rw [hf] at ha; simp at ha
  | some p =>
    rw [hf] at ha
    simp only at ha
    have hps : p.c 0 = s := by have := List.find?_some hf; simpa using this
    have hpm := List.mem_of_find?_eq_some hf
    have hg : ∃ g ∈ p.pages, g.fr = a := by
      split at ha
      · rename_i p' hp'
        split at hp'
        · cases hp'
        · injection hp' with hp'
          subst hp'
          unfold rch at ha
          obtain ⟨g, hg, e⟩ := List.mem_map.1 ha
          exact ⟨g, (List.mem_filter.1 hg).1, e⟩
      · simp at ha
    obtain ⟨g, hg, rfl⟩ := hg
    have hx : (g.fr, (4 : Int), s) ∈ allL L fr := by
      unfold allL
      refine List.mem_append_left _ (List.mem_append_right _ (List.mem_flatMap.2 ⟨p, hpm, ?_⟩))
      unfold nmP nmG
      rw [hps]
      exact List.mem_append_left _ (List.mem_append_right _ (List.mem_map.2 ⟨g, hg, rfl⟩))
    have hi := h.all _ hx
    refine ⟨hi, ?_⟩
    obtain ⟨h1, h2, h3⟩ := hi
    have hk : (frN g.fr).toNat < N := by unfold frN; omega
    have he : g.fr = frA (frN g.fr).toNat := by unfold frA frN; omega
    have e0 : (frL N (allL L fr))[(frN g.fr).toNat]? = some ((owF (allL L fr) (frA (frN g.fr).toNat)).getD (0, 0, 0)) := by
      unfold frL
      rw [List.getElem?_map, List.getElem?_range hk]
      rfl
    have ht := h.one _ (List.mem_of_getElem? e0)
    rw [← he] at e0 ht
    rw [ow_times] at ht
    rw [e0, ow_mem hx ht]
    rfl
theorem rcL_bd {L : Lk} (h : LkR L) (s b : Int) : (∀ a ∈ rcL s b L.procs, Bd64 a) := by
  intro a ha
  unfold rcL rcP at ha
  cases hf : L.procs.find? (fun p => p.c 0 == s) with
  | none => rw [hf] at ha; simp at ha
  | some p =>
    rw [hf] at ha
    simp only at ha
    split at ha
    · rename_i p' hp'
      split at hp'
      · cases hp'
      · injection hp' with hp'
        subst hp'
        unfold rch at ha
        obtain ⟨g, hg, rfl⟩ := List.mem_map.1 ha
        exact wf_bd ((h.p p (List.mem_of_find?_eq_some hf)).g g (List.mem_filter.1 hg).1).fr
    · simp at ha
theorem rcL_len {L : Lk} (h : ∀ p ∈ L.procs, p.pages.length ≤ 6000) (s b : Int) : (rcL s b L.procs).length ≤ 6000 := by
  unfold rcL rcP
  cases hf : L.procs.find? (fun p => p.c 0 == s) with
  | none => simp
  | some p =>
    simp only
    split
    · rename_i p' hp'
      split at hp'
      · cases hp'
      · injection hp' with hp'
        subst hp'
        have h1 := h p (List.mem_of_find?_eq_some hf)
        have h2 := List.length_filter_le (fun g : Pg => bits .and .u64 g.pm b == b) p.pages
        unfold rch
        rw [List.length_map]
        omega
    · simp
set_option maxRecDepth 100000 in
set_option maxHeartbeats 8000000 in
theorem apart_any {w : World} {X : Nat} {pv fv iv qv rv lv : Value} {L : Lk} (h : LkW w X pv fv iv qv rv lv L) (hX : X ≤ w.heap.size) {ev : Value} {fr : List Int} (hf : Wd w X ev fr) (hs : Sml L) (hfe : fewN L fr.length ≤ 1000000000000000000) (hR : LkR L) (hfr : ∀ a ∈ fr, u64R a) (hfl : fr.length ≤ 1048576) (N : Int) : Calls Try.prog 4 #[.int .i64 N, .agg (lkL L.tramp pv fv iv qv rv lv L.ticks L.next L.free).toArray, ev] w fun e w' => e = .returned (.bool true) ∧ Below w.heap.size w w' := by
  obtain ⟨pp, pc, rfl⟩ := h.ps.form
  obtain ⟨ep, ec, rfl⟩ := hf.form
  obtain ⟨np, hnp⟩ : ∃ n, n = L.procs.length := ⟨_, rfl⟩
  obtain ⟨ne, hne⟩ : ∃ n, n = fr.length := ⟨_, rfl⟩
  rw [← hnp] at h ⊢
  rw [← hne] at hf ⊢
  obtain ⟨lc, hlc⟩ : ∃ lc, lc = lkL L.tramp (.slice pp np pc) fv iv qv rv lv L.ticks L.next L.free := ⟨_, rfl⟩
  rw [← hlc]
  have HL1 : Hid (lc.length = 10 ∧ lc[1]? = some (.slice pp np pc)) := by rw [hlc]; exact ⟨rfl, rfl⟩
  have HKP : Hid (∀ w', Below w.heap.size w w' → LkW w' X (.slice pp np pc) fv iv qv rv lv L ∧ Wd w' X (.slice ep ne ec) fr ∧ X ≤ w'.heap.size ∧ X ≤ w.heap.size) := fun w' hb => ⟨h.keep (Nat.le_refl _) (hb.mono hX), Wd.keep hf (Nat.le_refl _) (hb.mono hX), Nat.le_trans hX hb.size, hX⟩
  have HF : Hid (∀ w', Below w.heap.size w w' → Calls Try.prog 10 #[.agg lc.toArray, .slice ep ne ec] w' fun e w'' => e = .returned (.bool (decide (fewN L ne ≤ 6000))) ∧ Below w'.heap.size w' w'') := fun w' hb => by rw [hlc]; exact few_any (HKP.out w' hb).1 (HKP.out w' hb).2.2.1 ep ne ec (by rw [hne]; exact hfe)
  have HT : Hid (∀ w', Below w.heap.size w w' → Calls Try.prog 12 #[.agg lc.toArray] w' fun e w'' => ∃ pv' fv' iv' qv' rv' lv', e = .returned (.agg (lkL L.tramp pv' fv' iv' qv' rv' lv' L.ticks L.next L.free).toArray) ∧ LkW w'' w''.heap.size pv' fv' iv' qv' rv' lv' L ∧ Below w'.heap.size w' w'') := fun w' hb => by rw [hlc]; exact twin_lk (HKP.out w' hb).1 (HKP.out w' hb).2.2.1 hs
  have HW0 : Hid (∀ w', Below w.heap.size w w' → Calls Try.prog 13 #[.slice ep ne ec] w' fun e w'' => ∃ u, e = .returned u ∧ w''.ownsRow w'.heap.size 24 1 u fr.length (fr.map (.int .u64)) ∧ Below w'.heap.size w' w'') := fun w' hb => words_any (HKP.out w' hb).2.1 (HKP.out w' hb).2.2.1 hfl
  have HSM : Hid (Sml L) := hs
  have HS : Hid (LkR L ∧ (∀ a ∈ fr, u64R a) ∧ np = L.procs.length ∧ ne = fr.length) := ⟨hR, hfr, hnp, hne⟩
  clear h hX hf hs hfe hR hfr hfl hlc hnp hne
  go_enter Try.func4, Try.ntmps4
  go_wp2_with (first
    | (refine wpList_is (.box 33 (.tmp 1)) rfl ?_; refine wpList_boxG 33 lc 4 (.tmp 1) _ rfl rfl rfl rfl ?_; intro W1 hW1 hB1 hs1; have r1 : W1.rangeAt w.heap.size 0 lc := range_heap hW1)
    | (refine wpList_is (.load 33 (.tmp 4)) rfl ?_; refine wpList_loadG 33 10 176 info33 _ Try.underlying33 rfl lc HL1.out.1 w.heap.size 0 (.tmp 4) rfl rfl rfl r1 (some 16) rfl ?_)
    | fail)
  clear r1
  go_at_call 10
  refine (HF.out _ hB1).mono ?_
  rintro e W2 ⟨rfl, hB2⟩
  have HK2 : Hid (W2.heap[w.heap.size]? = some (.cells lc.toArray 33) ∧ Below w.heap.size w W2 ∧ w.heap.size < W2.heap.size) := ⟨(hB2.block _ (by omega)).trans hW1, hB1.trans (hB2.mono (by omega)), by have := hB2.size; omega⟩
  clear HF hW1 hB1 hB2 hs1
  by_cases hfew : fewN L ne ≤ 6000
  case neg =>
    rw [decide_eq_false hfew]
    clear hfew
    go_wp2
    go_ret
    exact ⟨rfl, HK2.out.2.1⟩
  rw [decide_eq_true hfew]
  have HSB : Hid (SB L fr) := SB.of (by rw [← HS.out.2.2.2]; exact hfew)
  clear hfew
  have r1 : W2.rangeAt w.heap.size 0 lc := range_heap HK2.out.1
  go_wp2_with (first
    | (refine wpList_is (.load 33 (.tmp 4)) rfl ?_; refine wpList_loadG 33 10 176 info33 _ Try.underlying33 rfl lc HL1.out.1 w.heap.size 0 (.tmp 4) rfl rfl rfl r1 (some 21) rfl ?_)
    | fail)
  clear r1
  go_at_call 12
  refine (HT.out _ HK2.out.2.1).mono ?_
  rintro e W3 ⟨pv', fv', iv', qv', rv', lv', rfl, hLm, hB3⟩
  have HK3 : Hid (Below w.heap.size w W3 ∧ LkW W3 W3.heap.size pv' fv' iv' qv' rv' lv' L ∧ Below W2.heap.size W2 W3) := ⟨HK2.out.2.1.trans (hB3.mono HK2.out.2.1.size), hLm, hB3⟩
  clear hLm hB3
  go_wp2_with fail
  go_at_call 13
  refine (HW0.out _ HK3.out.1).mono ?_
  rintro e W4 ⟨u, rfl, hu, hB4⟩
  have HK4 : Hid (Below w.heap.size w W4 ∧ LkW W4 W4.heap.size pv' fv' iv' qv' rv' lv' L ∧ Wd W4 W4.heap.size u fr ∧ W4.heap[w.heap.size]? = some (.cells lc.toArray 33) ∧ w.heap.size < W4.heap.size) := ⟨HK3.out.1.trans (hB4.mono HK3.out.1.size), HK3.out.2.1.keep hB4.size hB4, wd_own hu, (hB4.block _ (by have := HK2.out.2.2; have := HK3.out.2.2.size; omega)).trans ((HK3.out.2.2.block _ HK2.out.2.2).trans HK2.out.1), by have := HK2.out.2.2; have := HK3.out.2.2.size; have := hB4.size; omega⟩
  clear hu hB4 HK2 HK3 HW0
  go_wp2_with fail
  go_at_call 11
  by_cases hN : N < 1 ∨ 4096 < N
  · refine (take_bad (w := W4) _ _ _ _ pv' fv' iv' qv' rv' lv' u N hN).mono ?_
    rintro e W5 ⟨rfl, hB5⟩
    have HB5 : Hid (Below w.heap.size w W5) := HK4.out.1.trans (hB5.mono HK4.out.1.size)
    clear hB5 HK4 hN
    as_aux_lemma =>
    go_wp2_with (first
      | (refine wpList_is (.alloc 41) rfl ?_; refine wpList_laidG 41 5 88 info41 (cwL (.slice none 0 0) (.slice none 0 0) (.slice none 0 0) (1, 0)) rfl (List.all_eq_true.1 (show (cwL (.slice none 0 0) (.slice none 0 0) (.slice none 0 0) (1, 0)).all (fun u => u.oneCell') = true from rfl)) 7 (.tmp 25) _ _ rfl rfl rfl rfl rfl rfl rfl rfl ?_; intro W6 hW6 hB6 hs6; have k3 : W6.cell? ⟨W5.heap.size, 3, .none⟩ = some (.int .i64 1) := cell_heap (o := 3) hW6)
      | fail)
    go_ret
    exact ⟨rfl, HB5.out.trans (hB6.mono HB5.out.size)⟩
  obtain ⟨M, rfl⟩ : ∃ M : Nat, N = (M : Int) := ⟨N.toNat, by omega⟩
  have bM : M ≤ 4096 := by omega
  refine (take_any HK4.out.2.1 (Nat.le_refl _) HK4.out.2.2.1 (by have := HSB.out.al; omega) HS.out.1 HS.out.2.1 (by have h1 := allL_size L fr; have h2 := HSB.out.al; have h3 := worthS_le L.procs 0; have h4 := blockS_le L.inos 0; omega) M (by omega) (by omega)).mono ?_
  rintro e W5 ⟨u1, u2, u3, rfl, hO, hB5⟩
  have hfw : W5.ownsRow W4.heap.size 59 3 u1 (frL M (allL L fr)).length (((frL M (allL L fr)).map owL).flatten) := hO.own (rowW (frL M (allL L fr)) u1) (by simp)
  have hF := Sl.ofW hfw rfl
  obtain ⟨gp, gc, rfl⟩ := own_form hfw
  have hlen : (frL M (allL L fr)).length = M := by simp [frL]
  obtain ⟨F, hFe⟩ : ∃ F, F = frL M (allL L fr) := ⟨_, rfl⟩
  rw [← hFe] at hF hlen ⊢
  rw [hlen] at hF ⊢
  have f2 : ∃ p n c, u2 = .slice p n c := by obtain ⟨p, c, hh⟩ := own_form (hO.own (rowC (L.files.map (cfF (nfA L))) u2) (by simp)); exact ⟨p, _, c, hh⟩
  have f3 : ∃ p n c, u3 = .slice p n c := by obtain ⟨p, c, hh⟩ := own_form (hO.own (rowC (L.inos.map (cfI (nfA L))) u3) (by simp)); exact ⟨p, _, c, hh⟩
  obtain ⟨tk, htk⟩ : ∃ t, t = tkW M L fr := ⟨_, rfl⟩
  rw [← htk]
  have HTK : Hid (tk = tkW M L fr) := htk
  have HF5 : Hid (Sl W5 W5.heap.size 3 (fun x cs => cs = owL x) (.slice gp M gc) F ∧ F = frL M (allL L fr) ∧ F.length = M ∧ Below w.heap.size w W5 ∧ W5.heap[w.heap.size]? = some (.cells lc.toArray 33) ∧ w.heap.size < W5.heap.size) := ⟨hF, hFe, hlen, HK4.out.1.trans (hB5.mono HK4.out.1.size), (hB5.block _ HK4.out.2.2.2.2).trans HK4.out.2.2.2.1, by have := HK4.out.2.2.2.2; have := hB5.size; omega⟩
  clear hO hfw hF hFe hlen hB5 HK4 htk hN
  obtain ⟨p2, q2, c2, rfl⟩ := f2
  obtain ⟨p3, q3, c3, rfl⟩ := f3
  obtain ⟨cl, hcl⟩ : ∃ cl, cl = cwL (.slice gp M gc) (.slice p2 q2 c2) (.slice p3 q3 c3) tk := ⟨_, rfl⟩
  have HCL : Hid (cl.length = 5 ∧ (∀ v ∈ cl, v.oneCell' = true) ∧ cl[0]? = some (.slice gp M gc) ∧ cl[3]? = some (.int .i64 tk.1)) := by rw [hcl]; exact ⟨rfl, List.all_eq_true.1 (show (cwL (.slice gp M gc) (.slice p2 q2 c2) (.slice p3 q3 c3) tk).all (fun u => u.oneCell') = true from rfl), rfl, rfl⟩
  rw [← hcl]
  clear hcl
  go_upto_region 4 with (first
    | (refine wpList_is (.alloc 41) rfl ?_; refine wpList_laidG 41 5 88 info41 cl HCL.out.1 HCL.out.2.1 7 (.tmp 25) _ _ rfl rfl rfl rfl rfl rfl rfl rfl ?_; intro W6 hW6 hB6 hs6)
    | fail)
  obtain ⟨cb, hcb⟩ : ∃ cb, cb = W5.heap.size := ⟨_, rfl⟩
  have HS6 : Hid (cb < W6.heap.size ∧ w.heap.size < W6.heap.size ∧ W6.heap[cb]? = some (.cells cl.toArray 41) ∧ W6.heap[w.heap.size]? = some (.cells lc.toArray 33) ∧ Below w.heap.size w W6 ∧ Below W5.heap.size W5 W6) := ⟨by omega, by have := HF5.out.2.2.2.2.2; omega, by rw [hcb]; exact hW6, (hB6.block _ HF5.out.2.2.2.2.2).trans HF5.out.2.2.2.2.1, HF5.out.2.2.2.1.trans (hB6.mono HF5.out.2.2.2.1.size), hB6⟩
  rw [show W5.heap.size = cb from hcb.symm]
  clear hW6 hB6 hs6 hcb
  have k3 : W6.cell? ⟨cb, 3, .none⟩ = some (.int .i64 tk.1) := by rw [cell_heap HS6.out.2.2.1, List.getElem?_toArray]; exact HCL.out.2.2.2
  have k0 : W6.cell? ⟨cb, 0, .none⟩ = some (.slice gp M gc) := by rw [cell_heap HS6.out.2.2.1, List.getElem?_toArray]; exact HCL.out.2.2.1
  obtain ⟨ki, hki⟩ : ∃ k, k = tk.1 := ⟨_, rfl⟩
  rw [← hki] at k3
  rcases tk_cases M L fr with ⟨t1, t2, hfine⟩ | ⟨t1, t2⟩
  case inr =>
    as_aux_lemma =>
    rw [← HTK.out, ← hki] at t1 t2
    have e1 : (ki != 0) = true := by simp; omega
    have e2 : 0 < ki := by omega
    clear hki
    go_wp2
    go_ret
    exact ⟨rfl, HS6.out.2.2.2.2.1⟩
  have e1 : (ki != 0) = false := by rw [hki, HTK.out, t1]; rfl
  have HFI : Hid (Fine M L fr) := hfine
  clear hki t1 t2 hfine
  go_wp2
  clear k3 e1 k0
  go_loopw [8] (fun k8 wr => ∃ i : Nat, i ≤ np ∧ k8 = .int .i64 i ∧ Hid (Below W6.heap.size W6 wr)) (fun v _ => (np - intOf v).toNat)
  case atStart => exact ⟨0, by omega, rfl, Below.refl _ _⟩
  case round =>
    obtain ⟨i, hi, rfl, HB⟩ := hrel
    have bnp : np ≤ 6000 := by have := HSB.out.pl; have := HS.out.2.2.1; omega
    have HBW : Hid (Below w.heap.size w wr) := HS6.out.2.2.2.2.1.trans (HB.out.mono HS6.out.2.2.2.2.1.size)
    have hlk : wr.heap[w.heap.size]? = some (.cells lc.toArray 33) := (HB.out.block _ HS6.out.2.1).trans HS6.out.2.2.2.1
    have kd : wr.cell? ⟨w.heap.size, 1, .none⟩ = some (.slice pp np pc) := by rw [cell_heap hlk, List.getElem?_toArray]; exact HL1.out.2
    by_cases hin : i < np
    · as_aux_lemma =>
        have i1 : (i : Int) < np := by omega
        obtain ⟨-, b, o, x, cs, hpe, hbX, hx, ⟨nv2, gv2, rfl, hN2, hG2⟩, hcl, hr⟩ := (HKP.out wr HBW.out).1.ps.at hin
        subst hpe
        obtain ⟨sl, hsl⟩ : ∃ s, s = x.c 0 := ⟨_, rfl⟩
        have ks : wr.cell? ⟨b, o + i * 70, .none⟩ = some (.int .i64 sl) := by rw [hsl]; have := hr 0 _ rfl; rw [Nat.add_zero] at this; exact this
        have rlc : wr.rangeAt w.heap.size 0 lc := range_heap hlk
        clear hN2 hG2 hcl hbX hx hr hlk hsl
        go_wp2_with (first
          | (refine wpList_is (.load 33 (.tmp 4)) rfl ?_; refine wpList_loadG 33 10 176 info33 _ Try.underlying33 rfl lc HL1.out.1 w.heap.size 0 (.tmp 4) rfl rfl rfl rlc (some 53) rfl ?_)
          | fail)
        clear rlc ks kd
        go_at_call 12
        refine (HT.out _ HBW.out).mono ?_
        rintro e V1 ⟨pv2, fv2, iv2, qv2, rv2, lv2, rfl, hL2, hV1⟩
        have HV1 : Hid (Below W6.heap.size W6 V1 ∧ LkW V1 V1.heap.size pv2 fv2 iv2 qv2 rv2 lv2 L) := ⟨HB.out.trans (hV1.mono HB.out.size), hL2⟩
        clear hV1 hL2
        go_wp2_with fail
        go_at_call 14
        refine (reach_any HV1.out.2.ps (Nat.le_refl _) (by have := HSB.out.pl; omega) (fun p hp => by have := (HSB.out.pn p hp).2; omega) sl).mono ?_
        rintro e V2 ⟨u1, u2, u3, rfl, hO2, hV2⟩
        have HV2 : Hid (Below W6.heap.size W6 V2) := HV1.out.1.trans (hV2.mono HV1.out.1.size)
        have bl : ∀ bb, (rcL sl bb L.procs).length ≤ 6000 := fun bb => rcL_len (fun p hp => (HSB.out.pn p hp).2) sl bb
        have HBL : Hid (∀ bb, (rcL sl bb L.procs).length ≤ 6000) := bl
        have HO2 : Hid (Owns V2 V1.heap.size [rowN (rcL sl 18 L.procs) u1, rowN (rcL sl 20 L.procs) u2, rowN (rcL sl 24 L.procs) u3] ∧ V1.heap.size ≤ V2.heap.size ∧ W6.heap.size ≤ V1.heap.size) := ⟨hO2, hV2.size, HV1.out.1.size⟩
        obtain ⟨p1, n1, c1, rfl⟩ : ∃ p n c, u1 = .slice p n c := by obtain ⟨p, c, hh⟩ := own_form (hO2.own (rowN (rcL sl 18 L.procs) u1) (by simp)); exact ⟨p, _, c, hh⟩
        obtain ⟨p5, n5, c5, rfl⟩ : ∃ p n c, u2 = .slice p n c := by obtain ⟨p, c, hh⟩ := own_form (hO2.own (rowN (rcL sl 20 L.procs) u2) (by simp)); exact ⟨p, _, c, hh⟩
        obtain ⟨p6, n6, c6, rfl⟩ : ∃ p n c, u3 = .slice p n c := by obtain ⟨p, c, hh⟩ := own_form (hO2.own (rowN (rcL sl 24 L.procs) u3) (by simp)); exact ⟨p, _, c, hh⟩
        obtain ⟨zb, hzb⟩ : ∃ z, z = V1.heap.size := ⟨_, rfl⟩
        rw [← hzb] at HO2
        clear hO2 hV2 bl HV1 hzb
        go_wp2_with (first
          | (refine wpList_is (.call { callee := .builtin .append, args := #[.tmp 60, .tmp 61], argTypes := #[34, 34] }) rfl ?_; refine wpList_appAll (l1 := rcL sl 18 L.procs) (l2 := rcL sl 20 L.procs) HO2.out.1 (by have h1 := HBL.out 18; have h2 := HBL.out 20; omega) HO2.out.2.1 rfl (.tmp 60) (.tmp 61) rfl (some 62) rfl rfl rfl ?_; intro v5 V5 hO5 hV5; obtain ⟨p7, n7, c7, rfl⟩ : ∃ p n c, v5 = .slice p n c := (by obtain ⟨p, c, hh⟩ := own_form (hO5.own (rowN (rcL sl 18 L.procs ++ rcL sl 20 L.procs) v5) (by simp)); exact ⟨p, _, c, hh⟩); have HO5 : Hid (Owns V5 zb (rowN (rcL sl 18 L.procs ++ rcL sl 20 L.procs) (.slice p7 n7 c7) :: rowN (rcL sl 24 L.procs) (.slice p6 n6 c6) :: [rowN (rcL sl 20 L.procs) (.slice p5 n5 c5)]) ∧ Below zb V2 V5) := ⟨hO5.perm (List.Perm.cons _ (List.Perm.swap _ _ _)), hV5⟩; clear hO5 hV5)
          | (refine wpList_is (.call { callee := .builtin .append, args := #[.tmp 62, .tmp 63], argTypes := #[34, 34] }) rfl ?_; refine wpList_appAll HO5.out.1 (by have h1 := HBL.out 18; have h2 := HBL.out 20; have h3 := HBL.out 24; rw [List.length_append]; omega) (Nat.le_trans HO2.out.2.1 HO5.out.2.size) rfl (.tmp 62) (.tmp 63) rfl (some 64) rfl rfl rfl ?_; intro v8 V8 hO8 hV8)
          | fail)
        obtain ⟨RA, hRA⟩ : ∃ l, l = rcL sl 18 L.procs ++ rcL sl 20 L.procs ++ rcL sl 24 L.procs := ⟨_, rfl⟩
        rw [← hRA] at hO8
        have hrow : V8.ownsRow zb 24 1 v8 RA.length (RA.map (.int .u64)) := hO8.own (rowN RA v8) (by simp)
        have hS8 := wd_own hrow
        obtain ⟨p8, c8, rfl⟩ := own_form hrow
        obtain ⟨n8, hn8⟩ : ∃ n, n = RA.length := ⟨_, rfl⟩
        rw [← hn8] at hS8 ⊢
        have HRA : Hid (∀ a ∈ RA, Bd64 a ∧ isF M a ∧ F[(frN a).toNat]? = some (4, sl, 1)) := fun a ha => by
          rw [hRA] at ha
          have hb := rcL_bd HS.out.1 sl
          have hr := fun bb => HFI.out.reach sl bb
          rw [HF5.out.2.1]
          rcases List.mem_append.1 ha with ha | ha
          · rcases List.mem_append.1 ha with ha | ha
            · exact ⟨hb 18 a ha, hr 18 a ha⟩
            · exact ⟨hb 20 a ha, hr 20 a ha⟩
          · exact ⟨hb 24 a ha, hr 24 a ha⟩
        have bn8 : n8 ≤ 20000 := by
          rw [hn8, hRA, List.length_append, List.length_append]
          have h1 := HBL.out 18
          have h2 := HBL.out 20
          have h3 := HBL.out 24
          omega
        have HV8 : Hid (Below W6.heap.size W6 V8 ∧ Sl V8 V8.heap.size 1 (qI .u64) (.slice p8 n8 c8) RA) := ⟨HV2.out.trans ((HO5.out.2.trans (hV8)).mono HO2.out.2.2), hS8⟩
        clear hO8 hV8 hrow hS8 hRA hn8 HO5 HO2 HBL HV2
        go_loopw [14] (fun k14 wr => ∃ j : Nat, j ≤ n8 ∧ k14 = .int .i64 j ∧ Hid (Below V8.heap.size V8 wr)) (fun v _ => (n8 - intOf v).toNat)
        case atStart => exact ⟨0, by omega, rfl, Below.refl _ _⟩
        case round =>
          obtain ⟨j, hj, rfl, HB3⟩ := hrel
          by_cases hin2 : j < n8
          · as_aux_lemma =>
              have j1 : (j : Int) < n8 := by omega
              obtain ⟨-, b4, o4, pa, cs, hpe, hb4, hpa, rfl, hcl, hr⟩ := HV8.out.2.at hin2
              subst hpe
              have kp : wr.cell? ⟨b4, o4 + j, .none⟩ = some (.int .u64 pa) := by have := range_keep hr HB3.out hb4 0 _ rfl; rw [Nat.mul_one, Nat.add_zero] at this; exact this
              obtain ⟨hbd, hif, hfa⟩ := HRA.out pa (List.mem_of_getElem? hpa)
              obtain ⟨d1, d2⟩ := hbd
              have hfr := hif
              obtain ⟨f1, f2, f3⟩ := hfr
              have hv : IntKind.u64.wrap (pa - 2147483648) = pa - 2147483648 := by rw [IntKind.wrap_u64]; omega
              have hd : (pa - 2147483648).tdiv 4096 = (pa - 2147483648) / 4096 := Int.tdiv_eq_ediv_of_nonneg (by omega)
              obtain ⟨q, hq⟩ : ∃ q, q = (pa - 2147483648) / 4096 := ⟨_, rfl⟩
              have q0 : 0 ≤ q := by omega
              have q1 : q < (M : Int) := by rw [hq]; exact f3
              have q2 : q ≤ 4503599627370496 := by omega
              have hwq : IntKind.u64.wrap q = q := by rw [IntKind.wrap_u64]; omega
              have hwi : IntKind.i64.wrap q = q := by rw [IntKind.wrap_i64]; omega
              rw [← hq] at hd
              have hqn : frN pa = q := by rw [hq]; rfl
              rw [hqn] at hfa
              have hqt : q.toNat < M := by omega
              obtain ⟨-, b5, o5, y, cs5, hp5, hb5, hy, rfl, hcl5, hr5⟩ := HF5.out.1.at hqt
              obtain rfl : y = (4, sl, 1) := by rw [hfa] at hy; injection hy with hy; exact hy.symm
              have hB53 : Below W5.heap.size W5 wr := (HS6.out.2.2.2.2.2.trans (HV8.out.1.mono HS6.out.2.2.2.2.2.size)).trans (HB3.out.mono (Nat.le_trans HS6.out.2.2.2.2.2.size HV8.out.1.size))
              have r5 : wr.rangeAt b5 (o5 + q.toNat * 3) (owL (4, sl, 1)) := range_keep hr5 hB53 hb5
              have hcw : wr.heap[cb]? = some (.cells cl.toArray 41) := (HB3.out.block _ (by have := HS6.out.1; have := HV8.out.1.size; omega)).trans ((HV8.out.1.block _ HS6.out.1).trans HS6.out.2.2.1)
              have k0 : wr.cell? ⟨cb, 0, .none⟩ = some (.slice (some ⟨b5, o5, .none⟩) M gc) := by rw [cell_heap hcw, List.getElem?_toArray, ← hp5]; exact HCL.out.2.2.1
              have q59 : ∀ w : World, (binOp .neq 59 (.agg (owL (4, sl, 1)).toArray) (.agg (owL (4, sl, 1)).toArray)).run Try.prog w = .ok (.bool false) w := neq59 sl
              have n1 : ¬ q < 0 := by omega
              have n2 : ¬ (M : Int) ≤ q := by omega
              clear hr hcl hb4 hpa hif hfa f1 f2 f3 hq hqn hqt hb5 hy hcl5 hr5 hB53 hcw d1 d2 hp5
              go_wp2_with (first
                | (refine wpList_is (.load 59 (.tmp 89)) rfl ?_; refine wpList_loadGG 59 3 24 info59 _ Try.underlying59 rfl (owL (4, sl, 1)) rfl b5 (o5 + q.toNat * 3) (.tmp 89) rfl rfl rfl r5 (some 90) rfl ?_)
                | (refine wpList_is (.build 59 #[(0, .const (.int .i64 4)), (1, .tmp 91), (2, .const (.int .i64 1))]) rfl ?_; refine wpList_buildGG (w := wr) 59 _ rfl (some 92) rfl (owL (4, sl, 1)).toArray (by rfl) (by kernel_rfl) ?_)
                | fail)
              exact ⟨⟨j + 1, by omega, by go_num, HB3.out⟩, by simp [intOf]; omega⟩
          · have j1 : ¬ (j : Int) < n8 := by omega
            go_wp2
            exact ⟨⟨i + 1, by omega, by go_num, HV8.out.1.trans (HB3.out.mono HV8.out.1.size)⟩, by simp [intOf]; omega⟩
    · have i1 : ¬ (i : Int) < np := by omega
      go_wp2
      go_ret
      exact ⟨rfl, HBW.out⟩
end Go.Proofs.Ythopgmmodldljaa
