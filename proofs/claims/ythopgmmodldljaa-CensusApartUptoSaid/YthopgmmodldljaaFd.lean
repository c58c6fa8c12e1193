import Derived.Test.YthopgmmodldljaaFc
namespace Go.Proofs.Ythopgmmodldljaa
open Go Go.RowKit
set_option linter.unusedVariables false
set_option linter.unusedSimpArgs false
/-! CensusSums. -/
theorem smT_le {F : List Ow} (h : ∀ o ∈ F, 0 ≤ o.2.2) (i : Nat) : 0 ≤ smT (F.take i) ∧ smT (F.take i) ≤ smT F := by
  have nn : ∀ G : List Ow, (∀ o ∈ G, 0 ≤ o.2.2) → 0 ≤ smT G := by
    intro G
    induction G with
    | nil => intro _; simp [smT, sumI]
    | cons o G ih =>
      intro hG
      have h1 := ih (fun o ho => hG o (by simp [ho]))
      have h2 := hG o (by simp)
      unfold smT at *
      simp only [List.map_cons, sumI]
      omega
  have e : smT F = smT (F.take i) + smT (F.drop i) := by
    unfold smT
    rw [← sumI_app, ← List.map_append, List.take_append_drop]
  have h1 := nn (F.take i) (fun o ho => h o (List.mem_of_mem_take ho))
  have h2 := nn (F.drop i) (fun o ho => h o (List.mem_of_mem_drop ho))
  omega
def arrT (F : List Ow) : List Value := [.int .i64 (ccT F 0), .int .i64 (ccT F 1), .int .i64 (ccT F 2), .int .i64 (ccT F 3), .int .i64 (ccT F 4), .int .i64 (ccT F 5), .int .i64 (ccT F 6)]
theorem arrT_get (F : List Ow) (m : Nat) (h : m < 7) : (arrT F)[m]? = some (.int .i64 (ccT F m)) := by
  have : m = 0 ∨ m = 1 ∨ m = 2 ∨ m = 3 ∨ m = 4 ∨ m = 5 ∨ m = 6 := by omega
  rcases this with rfl | rfl | rfl | rfl | rfl | rfl | rfl <;> rfl
theorem arrT_set (F : List Ow) (i : Nat) (o : Ow) (ho : F[i]? = some o) (m : Nat) (h : m < 7) (hm : o.1 = (m : Int)) : (arrT (F.take i)).set m (.int .i64 (ccT (F.take i) m + 1)) = arrT (F.take (i + 1)) := by
  have e : ∀ j : Int, ccT (F.take (i + 1)) j = ccT (F.take i) j + b2i ((m : Int) == j) := fun j => by rw [ccT_take F i o ho j, hm]
  have : m = 0 ∨ m = 1 ∨ m = 2 ∨ m = 3 ∨ m = 4 ∨ m = 5 ∨ m = 6 := by omega
  rcases this with rfl | rfl | rfl | rfl | rfl | rfl | rfl <;> simp [arrT, e, b2i]
theorem alloc61 (ρ : Operand → Value) (o : Oper) (ho : o.op = .alloc 61) (w : World) : (execOp ρ o).run Try.prog w = .ok (.value (.pointer (some ⟨w.heap.size, 0, .none⟩))) (w.alloc (.cells (arrT []).toArray 61)) := by
  unfold execOp
  rw [ho]
  kernel_rfl
theorem worthS_take (l : List Pc) (i : Nat) (p : Pc) (h : l[i]? = some p) : worthS (l.take (i + 1)) = worthS (l.take i) + (1 + (p.pages.length : Int) + p.nodes.length) := by
  unfold worthS
  rw [List.take_add_one, h, Option.toList_some, List.map_append, sumI_app]
  simp [sumI]
theorem blockS_take (l : List In) (i : Nat) (x : In) (h : l[i]? = some x) : blockS (l.take (i + 1)) = blockS (l.take i) + (x.bl.length : Int) := by
  unfold blockS
  rw [List.take_add_one, h, Option.toList_some, List.map_append, sumI_app]
  simp [sumI]
theorem worthS_le (l : List Pc) (i : Nat) : 0 ≤ worthS (l.take i) ∧ worthS (l.take i) ≤ worthS l := by
  have nn : ∀ l : List Pc, 0 ≤ worthS l := by
    intro l
    induction l with
    | nil => simp [worthS, sumI]
    | cons p l ih => unfold worthS at *; simp only [List.map_cons, sumI]; omega
  have e : worthS l = worthS (l.take i) + worthS (l.drop i) := by
    unfold worthS
    rw [← sumI_app, ← List.map_append, List.take_append_drop]
  have h1 := nn (l.take i)
  have h2 := nn (l.drop i)
  omega
theorem blockS_le (l : List In) (i : Nat) : 0 ≤ blockS (l.take i) ∧ blockS (l.take i) ≤ blockS l := by
  have nn : ∀ l : List In, 0 ≤ blockS l := by
    intro l
    induction l with
    | nil => simp [blockS, sumI]
    | cons p l ih => unfold blockS at *; simp only [List.map_cons, sumI]; omega
  have e : blockS l = blockS (l.take i) + blockS (l.drop i) := by
    unfold blockS
    rw [← sumI_app, ← List.map_append, List.take_append_drop]
  have h1 := nn (l.take i)
  have h2 := nn (l.drop i)
  omega
structure SB (L : Lk) (fr : List Int) : Prop where
  al : (allL L fr).length ≤ 6001
  wo : worthS L.procs ≤ 6001
  bl : blockS L.inos ≤ 6001
  pn : ∀ p ∈ L.procs, p.nodes.length ≤ 6000 ∧ p.pages.length ≤ 6000
  pl : L.procs.length ≤ 6000
  il : L.inos.length ≤ 6000
theorem SB.of {L : Lk} {fr : List Int} (h : fewN L fr.length ≤ 6000) : SB L fr := by
  have h1 := allL_len L fr
  have h2 := allL_size L fr
  have h3 := (worthS_le L.procs L.procs.length)
  have h4 := (blockS_le L.inos L.inos.length)
  rw [List.take_length] at h3 h4
  have h5 : ∀ p ∈ L.procs, p.nodes.length ≤ 6000 ∧ p.pages.length ≤ 6000 := fun p hp => by
    have := sumN_mem (fun p : Pc => p.nodes.length + p.pages.length) L.procs p hp
    unfold fewN at h
    omega
  refine ⟨by omega, by omega, by omega, h5, ?_, ?_⟩ <;> (unfold fewN at h; omega)
set_option maxRecDepth 100000 in
set_option maxHeartbeats 8000000 in
theorem sums_any {w : World} {X : Nat} {pv fv iv qv rv lv : Value} {L : Lk} (h : LkW w X pv fv iv qv rv lv L) (hX : X ≤ w.heap.size) {ev : Value} {fr : List Int} (hf : Wd w X ev fr) (hs : Sml L) (hfe : fewN L fr.length ≤ 1000000000000000000) (hR : LkR L) (hfr : ∀ a ∈ fr, u64R a) (hfl : fr.length ≤ 1048576) (N : Int) : Calls Try.prog 5 #[.int .i64 N, .agg (lkL L.tramp pv fv iv qv rv lv L.ticks L.next L.free).toArray, ev] w fun e w' => e = .returned (.bool true) ∧ Below w.heap.size w w' := by
  obtain ⟨pp, pc, rfl⟩ := h.ps.form
  obtain ⟨ip, ic, rfl⟩ := h.is.form
  obtain ⟨ep, ec, rfl⟩ := hf.form
  obtain ⟨np, hnp⟩ : ∃ n, n = L.procs.length := ⟨_, rfl⟩
  obtain ⟨ni, hni⟩ : ∃ n, n = L.inos.length := ⟨_, rfl⟩
  obtain ⟨ne, hne⟩ : ∃ n, n = fr.length := ⟨_, rfl⟩
  rw [← hnp, ← hni] at h ⊢
  rw [← hne] at hf ⊢
  obtain ⟨lc, hlc⟩ : ∃ lc, lc = lkL L.tramp (.slice pp np pc) fv (.slice ip ni ic) qv rv lv L.ticks L.next L.free := ⟨_, rfl⟩
  rw [← hlc]
  have HL1 : Hid (lc.length = 10 ∧ lc[1]? = some (.slice pp np pc) ∧ lc[3]? = some (.slice ip ni ic) ∧ lc[9]? = some (.int .i64 L.free)) := by rw [hlc]; exact ⟨rfl, rfl, rfl, rfl⟩
  have HKP : Hid (∀ w', Below w.heap.size w w' → LkW w' X (.slice pp np pc) fv (.slice ip ni ic) qv rv lv L ∧ Wd w' X (.slice ep ne ec) fr ∧ X ≤ w'.heap.size ∧ X ≤ w.heap.size) := fun w' hb => ⟨h.keep (Nat.le_refl _) (hb.mono hX), Wd.keep hf (Nat.le_refl _) (hb.mono hX), Nat.le_trans hX hb.size, hX⟩
  have HF : Hid (∀ w', Below w.heap.size w w' → Calls Try.prog 10 #[.agg lc.toArray, .slice ep ne ec] w' fun e w'' => e = .returned (.bool (decide (fewN L ne ≤ 6000))) ∧ Below w'.heap.size w' w'') := fun w' hb => by rw [hlc]; exact few_any (HKP.out w' hb).1 (HKP.out w' hb).2.2.1 ep ne ec (by rw [hne]; exact hfe)
  have HT : Hid (∀ w', Below w.heap.size w w' → Calls Try.prog 12 #[.agg lc.toArray] w' fun e w'' => ∃ pv' fv' iv' qv' rv' lv', e = .returned (.agg (lkL L.tramp pv' fv' iv' qv' rv' lv' L.ticks L.next L.free).toArray) ∧ LkW w'' w''.heap.size pv' fv' iv' qv' rv' lv' L ∧ Below w'.heap.size w' w'') := fun w' hb => by rw [hlc]; exact twin_lk (HKP.out w' hb).1 (HKP.out w' hb).2.2.1 hs
  have HW0 : Hid (∀ w', Below w.heap.size w w' → Calls Try.prog 13 #[.slice ep ne ec] w' fun e w'' => ∃ u, e = .returned u ∧ w''.ownsRow w'.heap.size 24 1 u fr.length (fr.map (.int .u64)) ∧ Below w'.heap.size w' w'') := fun w' hb => words_any (HKP.out w' hb).2.1 (HKP.out w' hb).2.2.1 hfl
  have HNA : Hid (∀ w', Below w.heap.size w w' → (allL L fr).length ≤ 1000000 → ∀ M : Nat, M ≤ 4096 → Calls Try.prog 15 #[.int .i64 M, .agg lc.toArray, .slice ep ne ec] w' fun e w'' => e = .returned (.int .i64 (cn (fun x => decide (isF M x.1)) (allL L fr))) ∧ Below w'.heap.size w' w'') := fun w' hb ha M hM => by rw [hlc]; exact named_any (HKP.out w' hb).1 (HKP.out w' hb).2.2.1 (HKP.out w' hb).2.1 ha hR hfr M hM
  have HS : Hid (LkR L ∧ (∀ a ∈ fr, u64R a) ∧ np = L.procs.length ∧ ni = L.inos.length ∧ ne = fr.length) := ⟨hR, hfr, hnp, hni, hne⟩
  clear h hX hf hs hfe hR hfr hfl hlc hnp hni hne
  go_enter Try.func5, Try.ntmps5
  go_wp2_with (first
    | (refine wpList_is (.box 33 (.tmp 1)) rfl ?_; refine wpList_boxG 33 lc 4 (.tmp 1) _ rfl rfl rfl rfl ?_; intro W1 hW1 hB1 hs1; have r1 : W1.rangeAt w.heap.size 0 lc := range_heap hW1)
    | (refine wpList_is (.load 33 (.tmp 4)) rfl ?_; refine wpList_loadG 33 10 176 info33 _ Try.underlying33 rfl lc HL1.out.1 w.heap.size 0 (.tmp 4) rfl rfl rfl r1 (some 15) rfl ?_)
    | fail)
  clear r1
  go_at_call 10
  refine (HF.out _ hB1).mono ?_
  rintro e W2 ⟨rfl, hB2⟩
  have HK2 : Hid (W2.heap[w.heap.size]? = some (.cells lc.toArray 33) ∧ Below w.heap.size w W2 ∧ w.heap.size < W2.heap.size) := ⟨(hB2.block _ (by omega)).trans hW1, hB1.trans (hB2.mono (by omega)), by have := hB2.size; omega⟩
  clear HF hW1 hB1 hB2 hs1
  by_cases hfew : fewN L ne ≤ 6000
  case neg =>
    rw [decide_eq_false hfew]
    clear hfew
    go_wp2
    go_ret
    exact ⟨rfl, HK2.out.2.1⟩
  rw [decide_eq_true hfew]
  have HSB : Hid (SB L fr) := SB.of (by rw [← HS.out.2.2.2.2]; exact hfew)
  clear hfew
  have r1 : W2.rangeAt w.heap.size 0 lc := range_heap HK2.out.1
  go_wp2_with (first
    | (refine wpList_is (.load 33 (.tmp 4)) rfl ?_; refine wpList_loadG 33 10 176 info33 _ Try.underlying33 rfl lc HL1.out.1 w.heap.size 0 (.tmp 4) rfl rfl rfl r1 (some 20) rfl ?_)
    | fail)
  clear r1
  go_at_call 12
  refine (HT.out _ HK2.out.2.1).mono ?_
  rintro e W3 ⟨pv', fv', iv', qv', rv', lv', rfl, hLm, hB3⟩
  have HK3 : Hid (Below w.heap.size w W3 ∧ LkW W3 W3.heap.size pv' fv' iv' qv' rv' lv' L ∧ Below W2.heap.size W2 W3) := ⟨HK2.out.2.1.trans (hB3.mono HK2.out.2.1.size), hLm, hB3⟩
  clear hLm hB3 HT
  go_wp2_with fail
  go_at_call 13
  refine (HW0.out _ HK3.out.1).mono ?_
  rintro e W4 ⟨u, rfl, hu, hB4⟩
  have HK4 : Hid (Below w.heap.size w W4 ∧ LkW W4 W4.heap.size pv' fv' iv' qv' rv' lv' L ∧ Wd W4 W4.heap.size u fr ∧ W4.heap[w.heap.size]? = some (.cells lc.toArray 33) ∧ w.heap.size < W4.heap.size) := ⟨HK3.out.1.trans (hB4.mono HK3.out.1.size), HK3.out.2.1.keep hB4.size hB4, wd_own hu, (hB4.block _ (by have := HK2.out.2.2; have := HK3.out.2.2.size; omega)).trans ((HK3.out.2.2.block _ HK2.out.2.2).trans HK2.out.1), by have := HK2.out.2.2; have := HK3.out.2.2.size; have := hB4.size; omega⟩
  clear hu hB4 HK2 HK3 HW0
  go_wp2_with fail
  go_at_call 11
  by_cases hN : N < 1 ∨ 4096 < N
  · refine (take_bad (w := W4) _ _ _ _ pv' fv' iv' qv' rv' lv' u N hN).mono ?_
    rintro e W5 ⟨rfl, hB5⟩
    have HB5 : Hid (Below w.heap.size w W5) := HK4.out.1.trans (hB5.mono HK4.out.1.size)
    clear hB5 HK4
    have q39 : ∀ w : World, (binOp .eql 39 (.agg (wrL (1, 0)).toArray) (.agg (wrL (1, 0)).toArray)).run Try.prog w = .ok (.bool true) w := fun w => eqv_eql (eq_wrong 9997 1 0 1 0) w
    by_cases g1 : N < 1
    · clear hN
      as_aux_lemma =>
      go_wp2_with (first
        | (refine wpList_is (.alloc 41) rfl ?_; refine wpList_laidG 41 5 88 info41 (cwL (.slice none 0 0) (.slice none 0 0) (.slice none 0 0) (1, 0)) rfl (List.all_eq_true.1 (show (cwL (.slice none 0 0) (.slice none 0 0) (.slice none 0 0) (1, 0)).all (fun u => u.oneCell') = true from rfl)) 7 (.tmp 24) _ _ rfl rfl rfl rfl rfl rfl rfl rfl ?_; intro W6 hW6 hB6 hs6; have k0 : W6.cell? ⟨W5.heap.size, 0, .none⟩ = some (.slice none 0 0) := cell_heap (o := 0) hW6; have r3 : W6.rangeAt W5.heap.size 3 (wrL (1, 0)) := (by have := range_sub (k := 3) (range_heap hW6) (sub_of (s := wrL (1, 0)) rfl); simpa using this))
        | (refine wpList_is (.load 39 (.tmp 36)) rfl ?_; refine wpList_loadGG 39 2 16 info39 _ Try.underlying39 rfl (wrL (1, 0)) rfl W5.heap.size 3 (.tmp 36) rfl rfl rfl r3 (some 37) rfl ?_)
        | (refine wpList_is (.build 39 #[(0, .const (.int .i64 1))]) rfl ?_; refine wpList_buildGG (w := W6) 39 _ rfl (some 38) rfl (wrL (1, 0)).toArray (by rfl) (by kernel_rfl) ?_)
        | fail)
      go_ret
      exact ⟨rfl, HB5.out.trans (hB6.mono HB5.out.size)⟩
    · have g2 : 4096 < N := by omega
      clear hN
      as_aux_lemma =>
      go_wp2_with (first
        | (refine wpList_is (.alloc 41) rfl ?_; refine wpList_laidG 41 5 88 info41 (cwL (.slice none 0 0) (.slice none 0 0) (.slice none 0 0) (1, 0)) rfl (List.all_eq_true.1 (show (cwL (.slice none 0 0) (.slice none 0 0) (.slice none 0 0) (1, 0)).all (fun u => u.oneCell') = true from rfl)) 7 (.tmp 24) _ _ rfl rfl rfl rfl rfl rfl rfl rfl ?_; intro W6 hW6 hB6 hs6; have k0 : W6.cell? ⟨W5.heap.size, 0, .none⟩ = some (.slice none 0 0) := cell_heap (o := 0) hW6; have r3 : W6.rangeAt W5.heap.size 3 (wrL (1, 0)) := (by have := range_sub (k := 3) (range_heap hW6) (sub_of (s := wrL (1, 0)) rfl); simpa using this))
        | (refine wpList_is (.load 39 (.tmp 36)) rfl ?_; refine wpList_loadGG 39 2 16 info39 _ Try.underlying39 rfl (wrL (1, 0)) rfl W5.heap.size 3 (.tmp 36) rfl rfl rfl r3 (some 37) rfl ?_)
        | (refine wpList_is (.build 39 #[(0, .const (.int .i64 1))]) rfl ?_; refine wpList_buildGG (w := W6) 39 _ rfl (some 38) rfl (wrL (1, 0)).toArray (by rfl) (by kernel_rfl) ?_)
        | fail)
      go_ret
      exact ⟨rfl, HB5.out.trans (hB6.mono HB5.out.size)⟩
  obtain ⟨M, rfl⟩ : ∃ M : Nat, N = (M : Int) := ⟨N.toNat, by omega⟩
  have g1 : ¬ (M : Int) < 1 := by omega
  have g2 : ¬ (4096 : Int) < M := by omega
  refine (take_any HK4.out.2.1 (Nat.le_refl _) HK4.out.2.2.1 (by have := HSB.out.al; omega) HS.out.1 HS.out.2.1 (by have h1 := allL_size L fr; have h2 := HSB.out.al; have h3 := worthS_le L.procs 0; have h4 := blockS_le L.inos 0; omega) M (by omega) (by omega)).mono ?_
  rintro e W5 ⟨u1, u2, u3, rfl, hO, hB5⟩
  have hfw : W5.ownsRow W4.heap.size 59 3 u1 (frL M (allL L fr)).length (((frL M (allL L fr)).map owL).flatten) := hO.own (rowW (frL M (allL L fr)) u1) (by simp)
  have hF := Sl.ofW hfw rfl
  obtain ⟨gp, gc, rfl⟩ := own_form hfw
  have hlen : (frL M (allL L fr)).length = M := by simp [frL]
  obtain ⟨F, hFe⟩ : ∃ F, F = frL M (allL L fr) := ⟨_, rfl⟩
  rw [← hFe] at hF hlen ⊢
  rw [hlen] at hF ⊢
  have f2 : ∃ p n c, u2 = .slice p n c := by obtain ⟨p, c, hh⟩ := own_form (hO.own (rowC (L.files.map (cfF (nfA L))) u2) (by simp)); exact ⟨p, _, c, hh⟩
  have f3 : ∃ p n c, u3 = .slice p n c := by obtain ⟨p, c, hh⟩ := own_form (hO.own (rowC (L.inos.map (cfI (nfA L))) u3) (by simp)); exact ⟨p, _, c, hh⟩
  obtain ⟨tk, htk⟩ : ∃ t, t = tkW M L fr := ⟨_, rfl⟩
  rw [← htk]
  have HTK : Hid (tk = tkW M L fr) := htk
  have HF5 : Hid (Sl W5 W5.heap.size 3 (fun x cs => cs = owL x) (.slice gp M gc) F ∧ F = frL M (allL L fr) ∧ F.length = M ∧ Below w.heap.size w W5 ∧ W5.heap[w.heap.size]? = some (.cells lc.toArray 33) ∧ w.heap.size < W5.heap.size) := ⟨hF, hFe, hlen, HK4.out.1.trans (hB5.mono HK4.out.1.size), (hB5.block _ HK4.out.2.2.2.2).trans HK4.out.2.2.2.1, by have := HK4.out.2.2.2.2; have := hB5.size; omega⟩
  clear hO hfw hF hFe hlen hB5 HK4 htk hN
  obtain ⟨p2, q2, c2, rfl⟩ := f2
  obtain ⟨p3, q3, c3, rfl⟩ := f3
  obtain ⟨cl, hcl⟩ : ∃ cl, cl = cwL (.slice gp M gc) (.slice p2 q2 c2) (.slice p3 q3 c3) tk := ⟨_, rfl⟩
  have HCL : Hid (cl.length = 5 ∧ (∀ v ∈ cl, v.oneCell' = true) ∧ cl[0]? = some (.slice gp M gc) ∧ cl[3]? = some (.int .i64 tk.1)) := by rw [hcl]; exact ⟨rfl, List.all_eq_true.1 (show (cwL (.slice gp M gc) (.slice p2 q2 c2) (.slice p3 q3 c3) tk).all (fun u => u.oneCell') = true from rfl), rfl, rfl⟩
  rw [← hcl]
  clear hcl
  go_wp2_with (first
    | (refine wpList_is (.alloc 41) rfl ?_; refine wpList_laidG 41 5 88 info41 cl HCL.out.1 HCL.out.2.1 7 (.tmp 24) _ _ rfl rfl rfl rfl rfl rfl rfl rfl ?_; intro W6 hW6 hB6 hs6)
    | (refine wpList_is (.alloc 61) rfl ?_; refine Great.wpList_allocTo rfl (some 9) rfl _ _ (alloc61 _ _ rfl _) ?_)
    | fail)
  obtain ⟨cb, hcb⟩ : ∃ cb, cb = W5.heap.size := ⟨_, rfl⟩
  obtain ⟨b61, hb61⟩ : ∃ b, b = W6.heap.size := ⟨_, rfl⟩
  obtain ⟨W7, hW7⟩ : ∃ W7, W7 = W6.alloc (.cells (arrT []).toArray 61) := ⟨_, rfl⟩
  have hB7 : Below W6.heap.size W6 W7 := by rw [hW7]; exact below1 _ _
  have HW7 : Hid (W7.heap[b61]? = some (.cells (arrT (F.take 0)).toArray 61 (0, 0)) ∧ Below b61 W7 W7) := ⟨by rw [hW7, hb61]; show (W6.heap.push _)[W6.heap.size]? = _; simp, Below.refl _ _⟩
  have HS7 : Hid (cb < b61 ∧ w.heap.size < b61 ∧ W5.heap.size ≤ b61 ∧ b61 < W7.heap.size ∧ W7.heap[cb]? = some (.cells cl.toArray 41) ∧ W7.heap[w.heap.size]? = some (.cells lc.toArray 33) ∧ Below w.heap.size w W7 ∧ Below W5.heap.size W5 W7) := by
    have h1 := HF5.out.2.2.2.2.2
    refine ⟨by omega, by omega, by omega, by rw [hW7]; simp; omega, ?_, ?_, ?_, ?_⟩
    · rw [hcb]; exact (hB7.block _ (by omega)).trans hW6
    · exact (hB7.block _ (by omega)).trans ((hB6.block _ h1).trans HF5.out.2.2.2.2.1)
    · exact (HF5.out.2.2.2.1.trans (hB6.mono HF5.out.2.2.2.1.size)).trans (hB7.mono (by omega))
    · exact hB6.trans (hB7.mono (by omega))
  try rw [← hW7]
  try rw [show W5.heap.size + 1 = b61 by omega]
  try rw [show W6.heap.size = b61 from hb61.symm]
  try rw [show W5.heap.size = cb from hcb.symm]
  clear hW6 hB6 hs6 hB7 hW7 hcb hb61
  have HTD : Hid (∀ (i : Nat) o, F[i]? = some o → 0 ≤ o.2.2 ∧ o.2.2 ≤ 6001 ∧ 0 ≤ o.1 ∧ o.1 ≤ 6) := fun i o ho => by
    rw [HF5.out.2.1] at ho
    obtain ⟨k, hk, rfl⟩ := map_at (l := List.range M) (g := fun k => (owF (allL L fr) (frA k)).getD (0, 0, 0)) ho
    have h1 := ow_times_bd (allL L fr) (frA k)
    have h2 := ow_class_bd (allL_class L fr) (frA k)
    have h3 := HSB.out.al
    omega
  have HSM : Hid (∀ i, 0 ≤ smT (F.take i) ∧ smT (F.take i) ≤ 6001) := fun i => by
    have h1 := smT_le (F := F) (fun o ho => by obtain ⟨j, hj⟩ := List.getElem?_of_mem ho; exact (HTD.out j o hj).1) i
    have h2 := smT_fr M (allL L fr)
    rw [← HF5.out.2.1] at h2
    have h3 := cn_le (fun x => decide (isF (M : Int) x.1)) (allL L fr)
    have h4 := HSB.out.al
    omega
  go_loopw [8, 10] (fun k8 k10 wr => ∃ i : Nat, i ≤ M ∧ k10 = .int .i64 i ∧ ∃ sm : Int, k8 = .int .i64 sm ∧ Hid (sm = smT (F.take i) ∧ wr.heap[b61]? = some (.cells (arrT (F.take i)).toArray 61 (0, 0)) ∧ Below b61 W7 wr)) (fun _ v _ => (M - intOf v).toNat)
  case atStart => exact ⟨0, by omega, rfl, 0, rfl, rfl, HW7.out.1, HW7.out.2⟩
  case round =>
    obtain ⟨i, hi, rfl, sm, rfl, HB⟩ := hrel
    have k0 : wr.cell? ⟨cb, 0, .none⟩ = some (.slice gp M gc) := by rw [cell_heap ((HB.out.2.2.block cb HS7.out.1).trans HS7.out.2.2.2.2.1), List.getElem?_toArray]; exact HCL.out.2.2.1
    by_cases hin : i < M
    · as_aux_lemma =>
        have i1 : (i : Int) < M := by omega
        obtain ⟨-, b, o, x, cs, hpe, hbX, hx, rfl, hcl, hr⟩ := HF5.out.1.at hin
        subst hpe
        have hr' : wr.rangeAt b (o + i * 3) (owL x) := range_keep (range_keep hr HS7.out.2.2.2.2.2.2.2 hbX) HB.out.2.2 (by have := HS7.out.2.2.1; omega : b < b61)
        have kc : wr.cell? ⟨b, o + i * 3, .none⟩ = some (.int .i64 x.1) := by have := hr' 0 _ rfl; rw [Nat.add_zero] at this; exact this
        have kt : wr.cell? ⟨b, o + i * 3 + 2, .none⟩ = some (.int .i64 x.2.2) := hr' 2 _ rfl
        obtain ⟨d1, d2, d3, d4⟩ := HTD.out i x hx
        obtain ⟨y, hy⟩ : ∃ y, y = x.1 := ⟨_, rfl⟩
        obtain ⟨t, ht⟩ : ∃ t, t = x.2.2 := ⟨_, rfl⟩
        rw [← hy] at kc d3 d4
        rw [← ht] at kt d1 d2
        have s1 := HSM.out i
        rw [← HB.out.1] at s1
        have hym : x.1 = ((y.toNat : Nat) : Int) := by omega
        have ka : wr.cell? ⟨b61, y.toNat, .none⟩ = some (.int .i64 (ccT (F.take i) (y.toNat : Nat))) := by rw [cell_heap HB.out.2.1, List.getElem?_toArray]; exact arrT_get _ _ (by omega)
        have kf : wr.frozen? ⟨b61, y.toNat, .none⟩ = false := frozen_heap HB.out.2.1
        obtain ⟨c, hc⟩ : ∃ c, c = ccT (F.take i) (y.toNat : Nat) := ⟨_, rfl⟩
        have c1 : 0 ≤ c ∧ c ≤ 4096 := by have h1 := ccT_le (F.take i) (y.toNat : Nat); rw [← hc, List.length_take] at h1; omega
        rw [← hc] at ka
        have HE : Hid (smT (F.take (i + 1)) = sm + t ∧ (arrT (F.take i)).set y.toNat (.int .i64 (c + 1)) = arrT (F.take (i + 1))) := ⟨by rw [smT_take F i x hx, ← HB.out.1, ht], by rw [hc]; exact arrT_set F i x hx y.toNat (by omega) hym⟩
        have hw1 : IntKind.i64.wrap (sm + t) = sm + t := by rw [IntKind.wrap_i64]; omega
        have hw2 : IntKind.i64.wrap (c + 1) = c + 1 := by rw [IntKind.wrap_i64]; omega
        have n1 : ¬ y < 0 := by omega
        have n2 : ¬ 6 < y := by omega
        have n3 : ¬ t < 0 := by omega
        have n4 : y < 7 := by omega
        clear hr hr' hcl hbX hx hy ht hym hc d2 d4
        go_wp2
        refine ⟨⟨i + 1, by omega, by go_num, sm + t, rfl, HE.out.1.symm, ?_, HB.out.2.2.trans (set_bel _ (Nat.le_refl _))⟩, by simp [intOf]; omega⟩
        rw [← HE.out.2, ← List.setIfInBounds_toArray]
        exact setCell_heap wr b61 y.toNat _ HB.out.2.1
    · have i1 : ¬ (i : Int) < M := by omega
      obtain rfl : M = i := by omega
      clear hin hi
      have HT0 : F.take M = F := by rw [← HF5.out.2.2.1, List.take_length]
      have HB8 : Hid (sm = cn (fun x => decide (isF (M : Int) x.1)) (allL L fr) ∧ wr.heap[b61]? = some (.cells (arrT F).toArray 61 (0, 0)) ∧ Below w.heap.size w wr ∧ b61 < wr.heap.size ∧ wr.heap[cb]? = some (.cells cl.toArray 41) ∧ wr.heap[w.heap.size]? = some (.cells lc.toArray 33)) := by
        obtain ⟨h1, h2, h3⟩ := HB.out
        rw [HT0] at h1 h2
        refine ⟨by rw [h1, HF5.out.2.1, smT_fr], h2, HS7.out.2.2.2.2.2.2.1.trans (h3.mono (by have := HS7.out.2.1; omega)), by have := HS7.out.2.2.2.1; have := h3.size; omega, (h3.block _ HS7.out.1).trans HS7.out.2.2.2.2.1, (h3.block _ HS7.out.2.1).trans HS7.out.2.2.2.2.2.1⟩
      have hcbw : cb < wr.heap.size ∧ w.heap.size < wr.heap.size := by have := HS7.out.1; have := HS7.out.2.1; have := HB8.out.2.2.2.1; omega
      have HCW : Hid (cb < wr.heap.size ∧ w.heap.size < wr.heap.size) := hcbw
      clear HB HT0 HSM HTD hcbw HW7 HS7
      have rlc : wr.rangeAt w.heap.size 0 lc := range_heap HB8.out.2.2.2.2.2
      go_wp2_with (first
        | (refine wpList_is (.load 33 (.tmp 4)) rfl ?_; refine wpList_loadGG 33 10 176 info33 _ Try.underlying33 rfl lc HL1.out.1 w.heap.size 0 (.tmp 4) rfl rfl rfl rlc (some 99) rfl ?_)
        | fail)
      clear rlc k0
      go_at_call 15
      refine (HNA.out _ HB8.out.2.2.1 (by have := HSB.out.al; omega) M (by omega)).mono ?_
      rintro e W9 ⟨rfl, hB9⟩
      rw [← HB8.out.1]
      have HB9 : Hid (W9.heap[b61]? = some (.cells (arrT F).toArray 61 (0, 0)) ∧ Below w.heap.size w W9 ∧ W9.heap[cb]? = some (.cells cl.toArray 41) ∧ W9.heap[w.heap.size]? = some (.cells lc.toArray 33) ∧ w.heap.size < W9.heap.size ∧ b61 < W9.heap.size) := ⟨(hB9.block _ HB8.out.2.2.2.1).trans HB8.out.2.1, HB8.out.2.2.1.trans (hB9.mono HB8.out.2.2.1.size), (hB9.block _ HCW.out.1).trans HB8.out.2.2.2.2.1, (hB9.block _ HCW.out.2).trans HB8.out.2.2.2.2.2, by have := hB9.size; have := HCW.out.2; omega, by have := hB9.size; have := HB8.out.2.2.2.1; omega⟩
      clear hB9 HB8 HCW HNA
      have k3 : W9.cell? ⟨cb, 3, .none⟩ = some (.int .i64 tk.1) := by rw [cell_heap HB9.out.2.2.1, List.getElem?_toArray]; exact HCL.out.2.2.2
      obtain ⟨ki, hki⟩ : ∃ k, k = tk.1 := ⟨_, rfl⟩
      rw [← hki] at k3
      rcases tk_cases M L fr with ⟨t1, t2, hfine⟩ | ⟨t1, t2⟩
      case inr =>
        as_aux_lemma =>
        rw [← HTK.out, ← hki] at t1 t2
        have e1 : (ki != 0) = true := by simp; omega
        have e2 : 1 < ki := by omega
        clear hki
        go_wp2
        go_ret
        exact ⟨rfl, HB9.out.2.1⟩
      have e1 : (ki != 0) = false := by rw [hki, HTK.out, t1]; rfl
      have HFI : Hid (Fine M L fr) := hfine
      clear hki t1 t2 hfine
      go_wp2
      clear k3 e1
      have HR0 : Hid (W9.heap[b61]? = some (.cells (arrT F).toArray 61 (0, 0)) ∧ Below w.heap.size w W9 ∧ W9.heap[w.heap.size]? = some (.cells lc.toArray 33) ∧ w.heap.size < W9.heap.size ∧ b61 < W9.heap.size ∧ Below W9.heap.size W9 W9) := ⟨HB9.out.1, HB9.out.2.1, HB9.out.2.2.2.1, HB9.out.2.2.2.2.1, HB9.out.2.2.2.2.2, Below.refl _ _⟩
      clear HB9
      go_loopw [11, 12] (fun k11 k12 wr => ∃ i : Nat, i ≤ np ∧ k12 = .int .i64 i ∧ ∃ wo : Int, k11 = .int .i64 wo ∧ Hid (wo = worthS (L.procs.take i) ∧ Below W9.heap.size W9 wr)) (fun _ v _ => (np - intOf v).toNat)
      case atStart => exact ⟨0, by omega, rfl, 0, rfl, rfl, Below.refl _ _⟩
      case round =>
        obtain ⟨i, hi, rfl, wo, rfl, HB⟩ := hrel
        have bnp : np ≤ 6000 := by have := HSB.out.pl; have := HS.out.2.2.1; omega
        have HBW : Hid (Below w.heap.size w wr) := HR0.out.2.1.trans (HB.out.2.mono HR0.out.2.1.size)
        have kd : wr.cell? ⟨w.heap.size, 1, .none⟩ = some (.slice pp np pc) := by rw [cell_heap ((HB.out.2.block _ HR0.out.2.2.2.1).trans HR0.out.2.2.1), List.getElem?_toArray]; exact HL1.out.2.1
        by_cases hin : i < np
        · as_aux_lemma =>
            have i1 : (i : Int) < np := by omega
            obtain ⟨-, b, o, x, cs, hpe, hbX, hx, ⟨nv2, gv2, rfl, hN2, hG2⟩, hcl, hr⟩ := (HKP.out wr HBW.out).1.ps.at hin
            subst hpe
            obtain ⟨a1, a2, rfl⟩ := hN2.form
            obtain ⟨a3, a4, rfl⟩ := hG2.form
            have hxm := List.mem_of_getElem? hx
            have hpn := HSB.out.pn x hxm
            obtain ⟨nn, hnn⟩ : ∃ n, n = x.nodes.length := ⟨_, rfl⟩
            obtain ⟨gn, hgn⟩ : ∃ n, n = x.pages.length := ⟨_, rfl⟩
            rw [← hnn, ← hgn] at hr hpn
            have w1 := worthS_le L.procs i
            rw [← HB.out.1] at w1
            have w2 := HSB.out.wo
            have HE : Hid (worthS (L.procs.take (i + 1)) = wo + (1 + (gn : Int) + nn)) := by show _ = _; rw [worthS_take L.procs i x hx, ← HB.out.1, hnn, hgn]
            have hw1 : IntKind.i64.wrap (wo + (1 + (gn : Int) + nn)) = wo + (1 + (gn : Int) + nn) := by rw [IntKind.wrap_i64]; omega
            clear hN2 hG2 hcl hbX hx hxm hnn hgn
            go_wp2_with (first
              | (refine wpList_is (.load 55 (.tmp 129)) rfl ?_; refine wpList_loadG 55 70 584 info55 _ Try.underlying55 rfl (x.l (.slice a1 nn a2) (.slice a3 gn a4)) rfl b (o + i * 70) (.tmp 129) rfl rfl rfl hr (some 130) rfl ?_)
              | fail)
            clear hr kd
            go_at_call 16
            refine (worth_any x a1 a3 nn a2 gn a4 (by omega) (by omega) _).mono ?_
            rintro e V2 ⟨rfl, hBv⟩
            have HV2 : Hid (Below W9.heap.size W9 V2) := HB.out.2.trans (hBv.mono HB.out.2.size)
            clear hBv
            obtain ⟨g3, hg3⟩ : ∃ g3, g3 = 1 + (gn : Int) + nn := ⟨_, rfl⟩
            rw [← hg3] at hw1 HE ⊢
            clear hg3
            go_wp2
            exact ⟨⟨i + 1, by omega, by go_num, wo + g3, rfl, HE.out.symm, HV2.out⟩, by simp [intOf]; omega⟩
        · have i1 : ¬ (i : Int) < np := by omega
          obtain rfl : np = i := by omega
          have HWO : Hid (wo = worthS L.procs) := by have := HB.out.1; rw [show L.procs.take np = L.procs by rw [HS.out.2.2.1, List.take_length]] at this; exact this
          have HB2 : Hid (Below W9.heap.size W9 wr) := HB.out.2
          clear hin hi HB
          go_wp2
          clear kd
          generalize wr = W10 at *
          go_loopw [13, 14] (fun k13 k14 wr => ∃ i : Nat, i ≤ ni ∧ k14 = .int .i64 i ∧ ∃ bl : Int, k13 = .int .i64 bl ∧ Hid (bl = blockS (L.inos.take i) ∧ Below W9.heap.size W9 wr)) (fun _ v _ => (ni - intOf v).toNat)
          case atStart => exact ⟨0, by omega, rfl, 0, rfl, rfl, HB2.out⟩
          case round =>
            obtain ⟨i, hi, rfl, bl, rfl, HB⟩ := hrel
            have bni : ni ≤ 6000 := by have := HSB.out.il; have := HS.out.2.2.2.1; omega
            have HBW3 : Hid (Below w.heap.size w wr) := HR0.out.2.1.trans (HB.out.2.mono HR0.out.2.1.size)
            have hlk : wr.heap[w.heap.size]? = some (.cells lc.toArray 33) := (HB.out.2.block _ HR0.out.2.2.2.1).trans HR0.out.2.2.1
            have kd : wr.cell? ⟨w.heap.size, 3, .none⟩ = some (.slice ip ni ic) := by rw [cell_heap hlk, List.getElem?_toArray]; exact HL1.out.2.2.1
            by_cases hin : i < ni
            · as_aux_lemma =>
                have i1 : (i : Int) < ni := by omega
                obtain ⟨-, b, o, x, cs, hpe, hbX, hx, ⟨bv2, rfl, hN2⟩, hcl, hr⟩ := (HKP.out wr HBW3.out).1.is.at hin
                subst hpe
                obtain ⟨a1, a2, rfl⟩ := hN2.form
                obtain ⟨nn, hnn⟩ : ∃ n, n = x.bl.length := ⟨_, rfl⟩
                have k7 : wr.cell? ⟨b, o + i * 8 + 7, .none⟩ = some (.slice a1 nn a2) := by rw [hnn]; exact hr 7 _ rfl
                have w1 := blockS_le L.inos i
                rw [← HB.out.1] at w1
                have w3 := blockS_le L.inos (i + 1)
                have w2 := HSB.out.bl
                have HE : Hid (blockS (L.inos.take (i + 1)) = bl + (nn : Int)) := by show _ = _; rw [blockS_take L.inos i x hx, ← HB.out.1, hnn]
                rw [HE.out] at w3
                have hw1 : IntKind.i64.wrap (bl + (nn : Int)) = bl + (nn : Int) := by rw [IntKind.wrap_i64]; omega
                clear hN2 hcl hbX hx hnn hr hlk
                go_wp2
                exact ⟨⟨i + 1, by omega, by go_num, bl + nn, rfl, HE.out.symm, HB.out.2⟩, by simp [intOf]; omega⟩
            · as_aux_lemma =>
                have i1 : ¬ (i : Int) < ni := by omega
                obtain rfl : ni = i := by omega
                have HBL : Hid (bl = blockS L.inos) := by have := HB.out.1; rw [show L.inos.take ni = L.inos by rw [HS.out.2.2.2.1, List.take_length]] at this; exact this
                have hb : wr.heap[b61]? = some (.cells (arrT F).toArray 61 (0, 0)) := (HB.out.2.block _ HR0.out.2.2.2.2.1).trans HR0.out.1
                have a0 : wr.cell? ⟨b61, 0, .none⟩ = some (.int .i64 (ccT F 0)) := cell_heap (o := 0) hb
                have a1 : wr.cell? ⟨b61, 1, .none⟩ = some (.int .i64 (ccT F 1)) := cell_heap (o := 1) hb
                have a2 : wr.cell? ⟨b61, 2, .none⟩ = some (.int .i64 (ccT F 2)) := cell_heap (o := 2) hb
                have a3 : wr.cell? ⟨b61, 3, .none⟩ = some (.int .i64 (ccT F 3)) := cell_heap (o := 3) hb
                have a4 : wr.cell? ⟨b61, 4, .none⟩ = some (.int .i64 (ccT F 4)) := cell_heap (o := 4) hb
                have a5 : wr.cell? ⟨b61, 5, .none⟩ = some (.int .i64 (ccT F 5)) := cell_heap (o := 5) hb
                have a6 : wr.cell? ⟨b61, 6, .none⟩ = some (.int .i64 (ccT F 6)) := cell_heap (o := 6) hb
                have a9 : wr.cell? ⟨w.heap.size, 9, .none⟩ = some (.int .i64 L.free) := by rw [cell_heap hlk, List.getElem?_toArray]; exact HL1.out.2.2.2
                obtain ⟨f0, f1, f2, f6, f345, fN⟩ := HFI.out.sums
                rw [← HF5.out.2.1] at f0 f1 f2 f6 f345
                rw [← HBL.out] at f6 fN
                rw [← HWO.out] at f345 fN
                have l3 := ccT_le F 3
                have l4 := ccT_le F 4
                have l5 := ccT_le F 5
                have lM := HF5.out.2.2.1
                have hfr0 := HFI.out.free
                have hbl0 := blockS_le L.inos 0
                have hbl1 := blockS_le L.inos L.inos.length
                have hwo1 := worthS_le L.procs L.procs.length
                rw [List.take_length, ← HBL.out] at hbl1
                rw [List.take_length, ← HWO.out] at hwo1
                generalize ccT F 0 = c0 at *
                generalize ccT F 1 = c1 at *
                generalize ccT F 2 = c2 at *
                generalize ccT F 3 = c3 at *
                generalize ccT F 4 = c4 at *
                generalize ccT F 5 = c5 at *
                generalize ccT F 6 = c6 at *
                generalize L.free = fe at *
                have x1 : IntKind.i64.wrap (c3 + c4) = c3 + c4 := by rw [IntKind.wrap_i64]; omega
                have x2 : IntKind.i64.wrap (c3 + c4 + c5) = c3 + c4 + c5 := by rw [IntKind.wrap_i64]; omega
                have x3 : IntKind.i64.wrap (1 + fe) = 1 + fe := by rw [IntKind.wrap_i64]; omega
                have x4 : IntKind.i64.wrap (1 + fe + wo) = 1 + fe + wo := by rw [IntKind.wrap_i64]; omega
                have x5 : IntKind.i64.wrap (1 + fe + wo + bl) = 1 + fe + wo + bl := by rw [IntKind.wrap_i64]; omega
                have e0 : (c0 == 0) = true := by simp [f0]
                have e1 : (c1 == 1) = true := by simp [f1]
                have e2 : (c2 == fe) = true := by simp [f2]
                have e6 : (c6 == bl) = true := by simp [f6]
                have e5 : (c3 + c4 + c5 == wo) = true := by simp [f345]
                have eN : (1 + fe + wo + bl == (M : Int)) = true := by simp [fN]
                clear f0 f1 f2 f6 f345 fN hlk hb HFI l3 l4 l5 hfr0 hbl0 hbl1 hwo1 lM HBL HWO
                go_wp2
                go_ret
                exact ⟨rfl, HBW3.out⟩
end Go.Proofs.Ythopgmmodldljaa
