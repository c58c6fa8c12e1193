import Derived.Test.YthopgmmodldljabNr
namespace Go.Proofs.Ythopgmmodldljab
open Go Go.RowKit
set_option linter.unusedVariables false
set_option linter.unusedSimpArgs false
/-! CensusTakes: the law. -/
theorem perm_r8 (zc w1 wb wa zb x1 x2 x3 za y1 y2 y3 : Row) (R : List Row) : (zc :: ([w1, wb, wa] ++ (zb :: ([x1, x2, x3] ++ (za :: ([y1, y2, y3] ++ R)))))).Perm (y1 :: x1 :: ([y2, y3, x2, x3] ++ ([za, zb, zc, w1, wb, wa] ++ R))) := by
 have mv : ∀ (a : List Row) (y : Row) (b : List Row), (a ++ y :: b).Perm (y :: (a ++ b)) := fun a y b => List.perm_middle
 refine (mv [zc, w1, wb, wa, zb, x1, x2, x3, za] y1 _).trans (.cons _ ?_)
 refine (mv [zc, w1, wb, wa, zb] x1 _).trans (.cons _ ?_)
 refine (mv [zc, w1, wb, wa, zb, x2, x3, za] y2 _).trans (.cons _ ?_)
 refine (mv [zc, w1, wb, wa, zb, x2, x3, za] y3 _).trans (.cons _ ?_)
 refine (mv [zc, w1, wb, wa, zb] x2 _).trans (.cons _ ?_)
 refine (mv [zc, w1, wb, wa, zb] x3 _).trans (.cons _ ?_)
 refine (mv [zc, w1, wb, wa, zb] za _).trans (.cons _ ?_)
 exact (mv [zc, w1, wb, wa] zb _).trans (.cons _ (List.Perm.refl _))
def lk2 (L : Lk) (nx f : Int) : Lk := { L with next := nx, free := f }
def gq (x : Int) : Int := IntKind.u64.wrap (x + 4096)
def fq (l : List Int) (i : Nat) : List Int := (l.take i).map gq ++ l.drop i
theorem fq_zero (l : List Int) : fq l 0 = l := by simp [fq]
theorem fq_len (l : List Int) (i : Nat) : (fq l i).length = l.length := by
 unfold fq
 rw [List.length_append, List.length_map, List.length_take, List.length_drop]
 omega
theorem fq_all {l : List Int} {i : Nat} (h : l.length ≤ i) : fq l i = l.map gq := by
 unfold fq
 rw [List.take_of_length_le h, List.drop_of_length_le h, List.append_nil]
theorem fq_get {l : List Int} {i : Nat} (h : i < l.length) : (fq l i)[i]? = l[i]? := by
 unfold fq
 rw [List.getElem?_append_right (by rw [List.length_map, List.length_take]; omega), List.length_map, List.length_take, List.getElem?_drop]
 congr 1
 omega
theorem fq_succ {l : List Int} {i : Nat} {x : Int} (h : l[i]? = some x) : fq l (i + 1) = (fq l i).set i (gq x) := by
 obtain ⟨hi, he⟩ := List.getElem?_eq_some_iff.1 h
 unfold fq
 rw [List.set_append_right _ _ (by rw [List.length_map, List.length_take]; omega), List.length_map, List.length_take, Nat.min_eq_left (by omega), Nat.sub_self, List.take_add_one, h, List.drop_eq_getElem_cons hi, List.set_cons_zero]
 simp
theorem wrap_i64R (x : Int) : i64R (IntKind.i64.wrap x) := by
 have h := IntKind.wrap_i64 x
 unfold i64R
 exact WalkArith.wf_i64 (by rw [h]; omega)
theorem wrap_u64R (x : Int) : u64R (IntKind.u64.wrap x) := by
 have h := IntKind.wrap_u64 x
 unfold u64R
 exact WalkArith.wf_u64 (by rw [h]; omega)
theorem lk2_R {L : Lk} (h : LkR L) {nx f : Int} (h1 : i64R nx) (h2 : i64R f) : LkR (lk2 L nx f) := ⟨h.tr, h.p, h.f, h.i, h.q, h.ti, h1, h2, h.pl, h.fl, h.il, h.ql, h.rl, h.ll⟩
theorem cw_one {w : World} {base : Nat} {F A B : List Ow} {u1 u2 u3 : Value} (O : Owns w base [rowW F u1, rowC A u2, rowC B u3]) (r : Int × Int) : ∀ v ∈ cwL u1 u2 u3 r, v.oneCell' = true := by
 obtain ⟨p1, c1, e1⟩ := own_form (O.own (rowW F u1) (by simp))
 obtain ⟨p2, c2, e2⟩ := own_form (O.own (rowC A u2) (by simp))
 obtain ⟨p3, c3, e3⟩ := own_form (O.own (rowC B u3) (by simp))
 have e1 : u1 = _ := e1
 have e2 : u2 = _ := e2
 have e3 : u3 = _ := e3
 rw [e1, e2, e3]
 exact List.all_eq_true.1 (show (cwL _ _ _ r).all (fun u => u.oneCell') = true from rfl)
set_option maxRecDepth 100000 in
set_option maxHeartbeats 16000000 in
theorem takes_any {w : World} {X : Nat} {pv fv iv qv rv lv : Value} {L : Lk} (h : LkW w X pv fv iv qv rv lv L) (hX : X ≤ w.heap.size) {ev : Value} {fr : List Int} (hf : Wd w X ev fr) (hs : Sml L) (hfe : fewN L fr.length ≤ 1000000000000000000) (hR : LkR L) (hfr : ∀ a ∈ fr, u64R a) (hfl : fr.length ≤ 1048576) (N : Int) : Calls Try.prog 3 #[.int .i64 N, .agg (lkL L.tramp pv fv iv qv rv lv L.ticks L.next L.free).toArray, ev] w fun e w' => e = .returned (.bool true) ∧ Below w.heap.size w w' := by
 obtain ⟨ep, ec, rfl⟩ := hf.form
 obtain ⟨ne, hne⟩ : ∃ n, n = fr.length := ⟨_, rfl⟩
 rw [← hne] at hf ⊢
 obtain ⟨lc, hlc⟩ : ∃ lc, lc = lkL L.tramp pv fv iv qv rv lv L.ticks L.next L.free := ⟨_, rfl⟩
 rw [← hlc]
 have HL1 : Hid (lc.length = 10) := by rw [hlc]; rfl
 have HKP : Hid (∀ w', Below w.heap.size w w' → LkW w' X pv fv iv qv rv lv L ∧ Wd w' X (.slice ep ne ec) fr ∧ X ≤ w'.heap.size) := fun w' hb => ⟨h.keep (Nat.le_refl _) (hb.mono hX), Wd.keep hf (Nat.le_refl _) (hb.mono hX), Nat.le_trans hX hb.size⟩
 have HF : Hid (∀ w', Below w.heap.size w w' → Calls Try.prog 4 #[.agg lc.toArray, .slice ep ne ec] w' fun e w'' => e = .returned (.bool (decide (fewN L ne ≤ 6000))) ∧ Below w'.heap.size w' w'') := fun w' hb => by rw [hlc]; exact few_any (HKP.out w' hb).1 (HKP.out w' hb).2.2 ep ne ec (by rw [hne]; exact hfe)
 have HT : Hid (∀ w', Below w.heap.size w w' → Calls Try.prog 5 #[.agg lc.toArray] w' (TwP w' L)) := fun w' hb => by rw [hlc]; exact twin_any (HKP.out w' hb).1 (HKP.out w' hb).2.2 hs
 have HW0 : Hid (∀ w', Below w.heap.size w w' → Calls Try.prog 6 #[.slice ep ne ec] w' fun e w'' => ∃ u, e = .returned u ∧ w''.ownsRow w'.heap.size 22 1 u fr.length (fr.map (.int .u64)) ∧ Below w'.heap.size w' w'') := fun w' hb => words_any (HKP.out w' hb).2.1 (HKP.out w' hb).2.2 hfl
 have HD : Hid (∀ w', Below w.heap.size w w' → (allL L fr).length ≤ 1000000 → fr.length ≤ 1000000 → Calls Try.prog 8 #[.int .i64 N, .agg lc.toArray, .slice ep ne ec] w' (TkB w' N L fr)) := fun w' hb h1 h2 => by rw [hlc]; exact dtake_all (HKP.out w' hb).1 (HKP.out w' hb).2.2 (HKP.out w' hb).2.1 h1 hR hfr h2 N
 have HS : Hid (LkR L ∧ (∀ a ∈ fr, u64R a) ∧ ne = fr.length ∧ Sml L) := ⟨hR, hfr, hne, hs⟩
 have HLE : Hid (lc = lkL L.tramp pv fv iv qv rv lv L.ticks L.next L.free) := hlc
 clear h hX hf hs hfe hR hfr hfl hlc hne
 go_enter Try.func3, Try.ntmps3
 go_wp2_with (first
  | (refine wpList_is (.box 31 (.tmp 1)) rfl ?_; refine wpList_boxG 31 lc 4 (.tmp 1) _ rfl rfl rfl rfl ?_; intro W1 hW1 hB1 hs1; have r1 : W1.rangeAt w.heap.size 0 lc := range_heap hW1)
  | (refine wpList_is (.load 31 (.tmp 4)) rfl ?_; refine wpList_loadG 31 10 176 info33 _ Try.underlying31 rfl lc HL1.out w.heap.size 0 (.tmp 4) rfl rfl rfl r1 (some 14) rfl ?_)
  | fail)
 clear r1
 go_at_call 4
 refine (HF.out _ hB1).mono ?_
 rintro e W2 ⟨rfl, hB2⟩
 obtain ⟨z0, hz0⟩ : ∃ z, z = w.heap.size := ⟨_, rfl⟩
 have HZ0 : Hid (z0 = w.heap.size) := hz0
 have HO2 : Hid (Owns W2 w.heap.size [bx 31 10 z0 lc] ∧ Below w.heap.size w W2) := by
  rw [hz0]
  exact ⟨((Owns.nil w w.heap.size).new (k := 10) hW1 hB1 HL1.out (Nat.le_refl _)).keep hB2, hB1.trans (hB2.mono (by omega))⟩
 rw [← hz0]
 clear HF hW1 hB1 hB2 hs1 hz0
 by_cases hfew : fewN L ne ≤ 6000
 case neg =>
  rw [decide_eq_false hfew]
  clear hfew
  go_wp2
  go_ret
  exact ⟨rfl, HO2.out.2⟩
 rw [decide_eq_true hfew]
 have HSB : Hid ((allL L fr).length ≤ 6001 ∧ fr.length ≤ 6000) := by
  have h1 := allL_len L fr
  rw [← HS.out.2.2.1] at h1
  refine ⟨by omega, ?_⟩
  have h2 := HS.out.2.2.1
  unfold fewN at hfew
  omega
 clear hfew
 have r1 : W2.rangeAt z0 0 lc := range_heap (HO2.out.1.bx (t := 31) (k := 10) (by simp))
 go_wp2_with (first
  | (refine wpList_is (.load 31 (.tmp 4)) rfl ?_; refine wpList_loadG 31 10 176 info33 _ Try.underlying31 rfl lc HL1.out z0 0 (.tmp 4) rfl rfl rfl r1 (some 18) rfl ?_)
  | fail)
 clear r1
 go_at_call 5
 refine (HT.out _ HO2.out.2).mono ?_
 rintro e W3 ⟨pm, fm, im, qm, rm, lm0, E, EI, EQ, rfl, hB3, e1, e2, e3, hO3⟩
 obtain ⟨RM, hRM⟩ : ∃ R, R = [rowP E pm, rowF L.files fm, rowI EI im, rowQ EQ qm, rowB L.ready rm, rowB L.line lm0] ++ (rowsP E ++ rowsI EI ++ rowsQ EQ) := ⟨_, rfl⟩
 rw [← hRM] at hO3
 have HRM : Hid (∀ V b, Owns V b RM → LkW V V.heap.size pm fm im qm rm lm0 L) := fun V b hV => by rw [hRM] at hV; exact owns_lk (T := []) e1 e2 e3 hV
 obtain ⟨lm, hlm⟩ : ∃ lm, lm = lkL L.tramp pm fm im qm rm lm0 L.ticks L.next L.free := ⟨_, rfl⟩
 have HLM : Hid (lm = lkL L.tramp pm fm im qm rm lm0 L.ticks L.next L.free) := hlm
 have HLO : Hid (∀ v ∈ lm, v.oneCell' = true) := by
  have h1 := HRM.out W3 _ hO3
  rw [hlm]
  exact lkL_one _ _ _ _ h1.ps.one h1.fs.one h1.is.one h1.qs.one h1.rd.one h1.ln.one
 have HLC : Hid (lc.length = 10 ∧ lm.length = 10) := ⟨HL1.out, by rw [hlm]; rfl⟩
 have HO3 : Hid (Owns W3 w.heap.size (RM ++ [bx 31 10 z0 lc]) ∧ Below w.heap.size w W3) := ⟨HO2.out.1.join hB3 hO3 HO2.out.2.size, HO2.out.2.trans (hB3.mono HO2.out.2.size)⟩
 rw [← hlm]
 clear HO2 hB3 hO3 hRM hlm e1 e2 e3
 go_wp2_with (first
  | (refine wpList_is (.alloc 31) rfl ?_; refine wpList_laidG 31 10 176 info33 lm HLC.out.2 HLO.out 7 (.tmp 19) _ _ rfl rfl rfl rfl rfl rfl rfl rfl ?_; intro W4 hW4 hB4 hs4)
  | fail)
 obtain ⟨zm, hzm⟩ : ∃ z, z = W3.heap.size := ⟨_, rfl⟩
 have HO4 : Hid (Owns W4 w.heap.size (bx 31 10 zm lm :: (RM ++ [bx 31 10 z0 lc])) ∧ Below w.heap.size w W4) := by
  rw [hzm]
  exact ⟨HO3.out.1.new (k := 10) hW4 hB4 HLC.out.2 HO3.out.2.size, HO3.out.2.trans (hB4.mono HO3.out.2.size)⟩
 rw [← hzm]
 clear HO3 hW4 hB4 hs4 hzm
 go_wp2_with fail
 try go_at_call 6
 refine (HW0.out _ HO4.out.2).mono ?_
 rintro e W5 ⟨u, rfl, hu, hB5⟩
 have HO5 : Hid (Owns W5 w.heap.size (rowN fr u :: bx 31 10 zm lm :: (RM ++ [bx 31 10 z0 lc])) ∧ Below w.heap.size w W5) := ⟨HO4.out.1.push (r := rowN fr u) hB5 hu HO4.out.2.size, HO4.out.2.trans (hB5.mono HO4.out.2.size)⟩
 have HTM : Hid (∀ V R, Owns V w.heap.size (R ++ (rowN fr u :: bx 31 10 zm lm :: (RM ++ [bx 31 10 z0 lc]))) → Calls Try.prog 7 #[.int .i64 N, .agg lm.toArray, u] V (TkB V N L fr)) := fun V R hV => by
  rw [HLM.out]
  have h1 : Owns V w.heap.size RM := hV.sub (.trans (.trans (List.sublist_append_left _ _) (.trans (List.sublist_cons_self _ _) (List.sublist_cons_self _ _))) (List.sublist_append_right _ _))
  exact take_all (HRM.out V _ h1) (Nat.le_refl _) (wd_own (hV.own (rowN fr u) (by simp))) (by have := HSB.out.1; omega) HS.out.1 HS.out.2.1 (by have := HSB.out.2; omega) N
 clear HO4 hu hB5 HW0 HT
 have r1 : W5.rangeAt zm 0 lm := range_heap (HO5.out.1.bx (t := 31) (k := 10) (b := zm) (cs := lm) (by simp))
 go_wp2_with (first
  | (refine wpList_is (.load 31 (.tmp 7)) rfl ?_; refine wpList_loadG 31 10 176 info33 _ Try.underlying31 rfl lm HLC.out.2 zm 0 (.tmp 7) rfl rfl rfl r1 (some 23) rfl ?_; clear r1)
  | fail)
 try go_at_call 7
 refine (HTM.out W5 [] HO5.out.1).mono ?_
 rintro e W6 ⟨a1, a2, a3, rfl, hO, hB⟩
 have HONW6 : Hid (∀ v ∈ cwL a1 a2 a3 (cR N L fr), v.oneCell' = true) := cw_one hO _
 have HOW6 : Hid (Owns W6 w.heap.size ([rowW (cF N L fr) a1, rowC (cA N L) a2, rowC (cB N L) a3] ++ (rowN fr u :: bx 31 10 zm lm :: (RM ++ [bx 31 10 z0 lc]))) ∧ Below w.heap.size w W6) := ⟨HO5.out.1.join hB hO HO5.out.2.size, HO5.out.2.trans (hB.mono HO5.out.2.size)⟩
 clear hO hB HO5
 go_wp2_with (first
  | (refine wpList_is (.alloc 41) rfl ?_; refine wpList_laidG 41 5 88 info41 (cwL a1 a2 a3 (cR N L fr)) rfl HONW6.out 9 (.tmp 25) _ _ rfl rfl rfl rfl rfl rfl rfl rfl ?_; intro W6b hW6b bW6b sW6b; obtain ⟨za, hza⟩ : ∃ z, z = W6.heap.size := ⟨_, rfl⟩; have HOW6b : Hid (Owns W6b w.heap.size (bx 41 5 za (cwL a1 a2 a3 (cR N L fr)) :: ([rowW (cF N L fr) a1, rowC (cA N L) a2, rowC (cB N L) a3] ++ (rowN fr u :: bx 31 10 zm lm :: (RM ++ [bx 31 10 z0 lc])))) ∧ Below w.heap.size w W6b) := (by rw [hza]; exact ⟨HOW6.out.1.new (k := 5) hW6b bW6b rfl HOW6.out.2.size, HOW6.out.2.trans (bW6b.mono HOW6.out.2.size)⟩); (try rw [← hza]); have r1 : W6b.rangeAt zm 0 lm := range_heap (HOW6b.out.1.bx (t := 31) (k := 10) (b := zm) (cs := lm) (by simp)); clear HOW6 hW6b bW6b sW6b hza)
  | (refine wpList_is (.load 31 (.tmp 7)) rfl ?_; refine wpList_loadG 31 10 176 info33 _ Try.underlying31 rfl lm HLC.out.2 zm 0 (.tmp 7) rfl rfl rfl r1 (some 27) rfl ?_; clear r1)
  | fail)
 try go_at_call 7
 refine (HTM.out W6b (bx 41 5 za (cwL a1 a2 a3 (cR N L fr)) :: [rowW (cF N L fr) a1, rowC (cA N L) a2, rowC (cB N L) a3]) HOW6b.out.1).mono ?_
 rintro e W7 ⟨b1, b2, b3, rfl, hO, hB⟩
 have HONW7 : Hid (∀ v ∈ cwL b1 b2 b3 (cR N L fr), v.oneCell' = true) := cw_one hO _
 have HOW7 : Hid (Owns W7 w.heap.size ([rowW (cF N L fr) b1, rowC (cA N L) b2, rowC (cB N L) b3] ++ (bx 41 5 za (cwL a1 a2 a3 (cR N L fr)) :: ([rowW (cF N L fr) a1, rowC (cA N L) a2, rowC (cB N L) a3] ++ (rowN fr u :: bx 31 10 zm lm :: (RM ++ [bx 31 10 z0 lc]))))) ∧ Below w.heap.size w W7) := ⟨HOW6b.out.1.join hB hO HOW6b.out.2.size, HOW6b.out.2.trans (hB.mono HOW6b.out.2.size)⟩
 clear hO hB HOW6b
 go_wp2_with (first
  | (refine wpList_is (.alloc 41) rfl ?_; refine wpList_laidG 41 5 88 info41 (cwL b1 b2 b3 (cR N L fr)) rfl HONW7.out 10 (.tmp 29) _ _ rfl rfl rfl rfl rfl rfl rfl rfl ?_; intro W7b hW7b bW7b sW7b; obtain ⟨zb, hzb⟩ : ∃ z, z = W7.heap.size := ⟨_, rfl⟩; have HOW7b : Hid (Owns W7b w.heap.size (bx 41 5 zb (cwL b1 b2 b3 (cR N L fr)) :: ([rowW (cF N L fr) b1, rowC (cA N L) b2, rowC (cB N L) b3] ++ (bx 41 5 za (cwL a1 a2 a3 (cR N L fr)) :: ([rowW (cF N L fr) a1, rowC (cA N L) a2, rowC (cB N L) a3] ++ (rowN fr u :: bx 31 10 zm lm :: (RM ++ [bx 31 10 z0 lc])))))) ∧ Below w.heap.size w W7b) := (by rw [hzb]; exact ⟨HOW7.out.1.new (k := 5) hW7b bW7b rfl HOW7.out.2.size, HOW7.out.2.trans (bW7b.mono HOW7.out.2.size)⟩); (try rw [← hzb]); have r1 : W7b.rangeAt z0 0 lc := range_heap (HOW7b.out.1.bx (t := 31) (k := 10) (b := z0) (cs := lc) (by simp)); clear HOW7 hW7b bW7b sW7b hzb)
  | (refine wpList_is (.load 31 (.tmp 4)) rfl ?_; refine wpList_loadG 31 10 176 info33 _ Try.underlying31 rfl lc HLC.out.1 z0 0 (.tmp 4) rfl rfl rfl r1 (some 31) rfl ?_; clear r1)
  | fail)
 try go_at_call 8
 refine (HD.out W7b HOW7b.out.2 (by have := HSB.out.1; omega) (by have := HSB.out.2; omega)).mono ?_
 rintro e W8 ⟨c1, c2, c3, rfl, hO, hB⟩
 have HONW8 : Hid (∀ v ∈ cwL c1 c2 c3 (cR N L fr), v.oneCell' = true) := cw_one hO _
 have HOW8 : Hid (Owns W8 w.heap.size ([rowW (cF N L fr) c1, rowC (cA N L) c2, rowC (cB N L) c3] ++ (bx 41 5 zb (cwL b1 b2 b3 (cR N L fr)) :: ([rowW (cF N L fr) b1, rowC (cA N L) b2, rowC (cB N L) b3] ++ (bx 41 5 za (cwL a1 a2 a3 (cR N L fr)) :: ([rowW (cF N L fr) a1, rowC (cA N L) a2, rowC (cB N L) a3] ++ (rowN fr u :: bx 31 10 zm lm :: (RM ++ [bx 31 10 z0 lc]))))))) ∧ Below w.heap.size w W8) := ⟨HOW7b.out.1.join hB hO HOW7b.out.2.size, HOW7b.out.2.trans (hB.mono HOW7b.out.2.size)⟩
 clear hO hB HOW7b
 go_wp2_with (first
  | (refine wpList_is (.alloc 41) rfl ?_; refine wpList_laidG 41 5 88 info41 (cwL c1 c2 c3 (cR N L fr)) rfl HONW8.out 11 (.tmp 33) _ _ rfl rfl rfl rfl rfl rfl rfl rfl ?_; intro W8b hW8b bW8b sW8b; obtain ⟨zc, hzc⟩ : ∃ z, z = W8.heap.size := ⟨_, rfl⟩; have HOW8b : Hid (Owns W8b w.heap.size (bx 41 5 zc (cwL c1 c2 c3 (cR N L fr)) :: ([rowW (cF N L fr) c1, rowC (cA N L) c2, rowC (cB N L) c3] ++ (bx 41 5 zb (cwL b1 b2 b3 (cR N L fr)) :: ([rowW (cF N L fr) b1, rowC (cA N L) b2, rowC (cB N L) b3] ++ (bx 41 5 za (cwL a1 a2 a3 (cR N L fr)) :: ([rowW (cF N L fr) a1, rowC (cA N L) a2, rowC (cB N L) a3] ++ (rowN fr u :: bx 31 10 zm lm :: (RM ++ [bx 31 10 z0 lc])))))))) ∧ Below w.heap.size w W8b) := (by rw [hzc]; exact ⟨HOW8.out.1.new (k := 5) hW8b bW8b rfl HOW8.out.2.size, HOW8.out.2.trans (bW8b.mono HOW8.out.2.size)⟩); (try rw [← hzc]); have r1 : W8b.rangeAt za 0 (cwL a1 a2 a3 (cR N L fr)) := range_heap (HOW8b.out.1.bx (t := 41) (k := 5) (b := za) (cs := cwL a1 a2 a3 (cR N L fr)) (by simp)); have r2 : W8b.rangeAt zc 0 (cwL c1 c2 c3 (cR N L fr)) := range_heap (HOW8b.out.1.bx (t := 41) (k := 5) (b := zc) (cs := cwL c1 c2 c3 (cR N L fr)) (by simp)); clear HOW8 hW8b bW8b sW8b hzc)
  | (refine wpList_is (.load 41 (.tmp 9)) rfl ?_; refine wpList_loadG 41 5 88 info41 _ Try.underlying41 rfl (cwL a1 a2 a3 (cR N L fr)) rfl za 0 (.tmp 9) rfl rfl rfl r1 (some 34) rfl ?_; clear r1)
  | (refine wpList_is (.load 41 (.tmp 11)) rfl ?_; refine wpList_loadG 41 5 88 info41 _ Try.underlying41 rfl (cwL c1 c2 c3 (cR N L fr)) rfl zc 0 (.tmp 11) rfl rfl rfl r2 (some 35) rfl ?_; clear r2)
  | fail)
 have HSC : Hid (∀ V, Owns V w.heap.size (bx 41 5 zc (cwL c1 c2 c3 (cR N L fr)) :: ([rowW (cF N L fr) c1, rowC (cA N L) c2, rowC (cB N L) c3] ++ (bx 41 5 zb (cwL b1 b2 b3 (cR N L fr)) :: ([rowW (cF N L fr) b1, rowC (cA N L) b2, rowC (cB N L) b3] ++ (bx 41 5 za (cwL a1 a2 a3 (cR N L fr)) :: ([rowW (cF N L fr) a1, rowC (cA N L) a2, rowC (cB N L) a3] ++ (rowN fr u :: bx 31 10 zm lm :: (RM ++ [bx 31 10 z0 lc])))))))) → Calls Try.prog 9 #[.agg (cwL a1 a2 a3 (cR N L fr)).toArray, .agg (cwL c1 c2 c3 (cR N L fr)).toArray] V (fun e w' => e = .returned (.bool true) ∧ Below V.heap.size V w') ∧ Calls Try.prog 9 #[.agg (cwL b1 b2 b3 (cR N L fr)).toArray, .agg (cwL c1 c2 c3 (cR N L fr)).toArray] V (fun e w' => e = .returned (.bool true) ∧ Below V.heap.size V w')) := fun V hV => ⟨sameCensus_eq _ (Sl.ofW (hV.own (rowW (cF N L fr) a1) (by simp)) rfl) (Sl.ofW (hV.own (rowW (cF N L fr) c1) (by simp)) rfl) (Sl.ofC (hV.own (rowC (cA N L) a2) (by simp)) rfl) (Sl.ofC (hV.own (rowC (cA N L) c2) (by simp)) rfl) (Sl.ofC (hV.own (rowC (cB N L) a3) (by simp)) rfl) (Sl.ofC (hV.own (rowC (cB N L) c3) (by simp)) rfl) (Nat.le_refl _) (Nat.le_trans (cF_len _ _ _) (by omega)) (cA_len HS.out.1.fl) (cB_len HS.out.1.il), sameCensus_eq _ (Sl.ofW (hV.own (rowW (cF N L fr) b1) (by simp)) rfl) (Sl.ofW (hV.own (rowW (cF N L fr) c1) (by simp)) rfl) (Sl.ofC (hV.own (rowC (cA N L) b2) (by simp)) rfl) (Sl.ofC (hV.own (rowC (cA N L) c2) (by simp)) rfl) (Sl.ofC (hV.own (rowC (cB N L) b3) (by simp)) rfl) (Sl.ofC (hV.own (rowC (cB N L) c3) (by simp)) rfl) (Nat.le_refl _) (Nat.le_trans (cF_len _ _ _) (by omega)) (cA_len HS.out.1.fl) (cB_len HS.out.1.il)⟩
 have HRMo : Hid (∀ V, Owns V w.heap.size (bx 41 5 zc (cwL c1 c2 c3 (cR N L fr)) :: ([rowW (cF N L fr) c1, rowC (cA N L) c2, rowC (cB N L) c3] ++ (bx 41 5 zb (cwL b1 b2 b3 (cR N L fr)) :: ([rowW (cF N L fr) b1, rowC (cA N L) b2, rowC (cB N L) b3] ++ (bx 41 5 za (cwL a1 a2 a3 (cR N L fr)) :: ([rowW (cF N L fr) a1, rowC (cA N L) a2, rowC (cB N L) a3] ++ (rowN fr u :: bx 31 10 zm lm :: (RM ++ [bx 31 10 z0 lc])))))))) → Owns V w.heap.size RM) := fun V hV => by
  refine hV.sub ?_
  simp only [List.cons_append, List.nil_append]
  repeat (first | exact List.sublist_append_left _ _ | refine .cons _ ?_)
 try go_at_call 9
 refine (HSC.out W8b HOW8b.out.1).1.mono ?_
 rintro e W9 ⟨rfl, hB9⟩
 have HO9 : Hid (Owns W9 w.heap.size (bx 41 5 zc (cwL c1 c2 c3 (cR N L fr)) :: ([rowW (cF N L fr) c1, rowC (cA N L) c2, rowC (cB N L) c3] ++ (bx 41 5 zb (cwL b1 b2 b3 (cR N L fr)) :: ([rowW (cF N L fr) b1, rowC (cA N L) b2, rowC (cB N L) b3] ++ (bx 41 5 za (cwL a1 a2 a3 (cR N L fr)) :: ([rowW (cF N L fr) a1, rowC (cA N L) a2, rowC (cB N L) a3] ++ (rowN fr u :: bx 31 10 zm lm :: (RM ++ [bx 31 10 z0 lc])))))))) ∧ Below w.heap.size w W9) := ⟨HOW8b.out.1.keep hB9, HOW8b.out.2.trans (hB9.mono HOW8b.out.2.size)⟩
 clear HOW8b hB9
 have r1 : W9.rangeAt zb 0 (cwL b1 b2 b3 (cR N L fr)) := range_heap (HO9.out.1.bx (t := 41) (k := 5) (b := zb) (cs := cwL b1 b2 b3 (cR N L fr)) (by simp))
 have r2 : W9.rangeAt zc 0 (cwL c1 c2 c3 (cR N L fr)) := range_heap (HO9.out.1.bx (t := 41) (k := 5) (b := zc) (cs := cwL c1 c2 c3 (cR N L fr)) (by simp))
 go_wp2_with (first
  | (refine wpList_is (.load 41 (.tmp 10)) rfl ?_; refine wpList_loadGG 41 5 88 info41 _ Try.underlying41 rfl (cwL b1 b2 b3 (cR N L fr)) rfl zb 0 (.tmp 10) rfl rfl rfl r1 (some 39) rfl ?_; clear r1)
  | (refine wpList_is (.load 41 (.tmp 11)) rfl ?_; refine wpList_loadGG 41 5 88 info41 _ Try.underlying41 rfl (cwL c1 c2 c3 (cR N L fr)) rfl zc 0 (.tmp 11) rfl rfl rfl r2 (some 40) rfl ?_; clear r2)
  | fail)
 try go_at_call 9
 refine (HSC.out W9 HO9.out.1).2.mono ?_
 rintro e W10 ⟨rfl, hB10⟩
 have HO10 : Hid (Owns W10 w.heap.size (bx 41 5 zc (cwL c1 c2 c3 (cR N L fr)) :: ([rowW (cF N L fr) c1, rowC (cA N L) c2, rowC (cB N L) c3] ++ (bx 41 5 zb (cwL b1 b2 b3 (cR N L fr)) :: ([rowW (cF N L fr) b1, rowC (cA N L) b2, rowC (cB N L) b3] ++ (bx 41 5 za (cwL a1 a2 a3 (cR N L fr)) :: ([rowW (cF N L fr) a1, rowC (cA N L) a2, rowC (cB N L) a3] ++ (rowN fr u :: bx 31 10 zm lm :: (RM ++ [bx 31 10 z0 lc])))))))) ∧ Below w.heap.size w W10) := ⟨HO9.out.1.keep hB10, HO9.out.2.trans (hB10.mono HO9.out.2.size)⟩
 clear HO9 hB10
 have r1 : W10.rangeAt zm 0 lm := range_heap (HO10.out.1.bx (t := 31) (k := 10) (b := zm) (cs := lm) (by simp))
 have r2 : W10.rangeAt z0 0 lc := range_heap (HO10.out.1.bx (t := 31) (k := 10) (b := z0) (cs := lc) (by simp))
 go_wp2_with (first
  | (refine wpList_is (.load 31 (.tmp 7)) rfl ?_; refine wpList_loadGG 31 10 176 info33 _ Try.underlying31 rfl lm HLC.out.2 zm 0 (.tmp 7) rfl rfl rfl r1 (some 45) rfl ?_; clear r1)
  | (refine wpList_is (.load 31 (.tmp 4)) rfl ?_; refine wpList_loadGG 31 10 176 info33 _ Try.underlying31 rfl lc HLC.out.1 z0 0 (.tmp 4) rfl rfl rfl r2 (some 46) rfl ?_; clear r2)
  | fail)
 try go_at_call 10
 have cS : Calls Try.prog 10 #[.agg lm.toArray, .agg lc.toArray] W10 fun e w' => e = .returned (.bool true) ∧ Below W10.heap.size W10 w' := by
  rw [HLM.out, HLE.out]
  exact same_eq (HRM.out W10 _ (HRMo.out W10 HO10.out.1)) (HKP.out W10 HO10.out.2).1 (Nat.le_refl _) (HKP.out W10 HO10.out.2).2.2 (by have := HS.out.1.rl; omega) (by have := HS.out.1.ll; omega) (fun x hx => by have := (HS.out.1.p x hx).gl; omega) (fun x hx => by have := (HS.out.1.q x hx).bl; omega) ⟨HS.out.1.pl, HS.out.1.fl, HS.out.1.il, HS.out.1.ql⟩ (by have h1 := HSB.out.1; have h2 : (allL L []).length ≤ (allL L fr).length := (by simp [allL, nmF]); omega)
 refine cS.mono ?_
 rintro e W11 ⟨rfl, hB11⟩
 have HO11 : Hid (Owns W11 w.heap.size (bx 41 5 zc (cwL c1 c2 c3 (cR N L fr)) :: ([rowW (cF N L fr) c1, rowC (cA N L) c2, rowC (cB N L) c3] ++ (bx 41 5 zb (cwL b1 b2 b3 (cR N L fr)) :: ([rowW (cF N L fr) b1, rowC (cA N L) b2, rowC (cB N L) b3] ++ (bx 41 5 za (cwL a1 a2 a3 (cR N L fr)) :: ([rowW (cF N L fr) a1, rowC (cA N L) a2, rowC (cB N L) a3] ++ (rowN fr u :: bx 31 10 zm lm :: (RM ++ [bx 31 10 z0 lc])))))))) ∧ Below w.heap.size w W11) := ⟨HO10.out.1.keep hB11, HO10.out.2.trans (hB11.mono HO10.out.2.size)⟩
 clear HO10 hB11 cS
 go_wp2_with fail
 try go_at_call 11
 refine (sameWords_eq (wd_own (HO11.out.1.own (rowN fr u) (by simp))) (HKP.out W11 HO11.out.2).2.1 (by have := HSB.out.2; omega)).mono ?_
 rintro e W12 ⟨rfl, hB12⟩
 have HO12 : Hid (Owns W12 w.heap.size (bx 41 5 zc (cwL c1 c2 c3 (cR N L fr)) :: ([rowW (cF N L fr) c1, rowC (cA N L) c2, rowC (cB N L) c3] ++ (bx 41 5 zb (cwL b1 b2 b3 (cR N L fr)) :: ([rowW (cF N L fr) b1, rowC (cA N L) b2, rowC (cB N L) b3] ++ (bx 41 5 za (cwL a1 a2 a3 (cR N L fr)) :: ([rowW (cF N L fr) a1, rowC (cA N L) a2, rowC (cB N L) a3] ++ (rowN fr u :: bx 31 10 zm lm :: (RM ++ [bx 31 10 z0 lc])))))))) ∧ Below w.heap.size w W12) := ⟨HO11.out.1.keep hB12, HO11.out.2.trans (hB12.mono HO11.out.2.size)⟩
 clear HO11 hB12
 go_upto_region 10 with fail
 obtain ⟨nA, hnA⟩ : ∃ n, n = (cA N L).length := ⟨_, rfl⟩
 obtain ⟨nB, hnB⟩ : ∃ n, n = (cB N L).length := ⟨_, rfl⟩
 obtain ⟨qa2, ka2, ea2⟩ : ∃ p c, a2 = .slice p nA c := by
  have h1 := own_form (HO12.out.1.own (rowC (cA N L) a2) (by simp))
  rw [hnA]
  exact h1
 subst ea2
 obtain ⟨qa3, ka3, ea3⟩ : ∃ p c, a3 = .slice p nB c := by
  have h1 := own_form (HO12.out.1.own (rowC (cB N L) a3) (by simp))
  rw [hnB]
  exact h1
 subst ea3
 obtain ⟨qb2, kb2, eb2⟩ : ∃ p c, b2 = .slice p nA c := by
  have h1 := own_form (HO12.out.1.own (rowC (cA N L) b2) (by simp))
  rw [hnA]
  exact h1
 subst eb2
 obtain ⟨qb3, kb3, eb3⟩ : ∃ p c, b3 = .slice p nB c := by
  have h1 := own_form (HO12.out.1.own (rowC (cB N L) b3) (by simp))
  rw [hnB]
  exact h1
 subst eb3
 clear hnA hnB
 have HP12 : Hid (Owns W12 w.heap.size (rowW (cF N L fr) a1 :: rowW (cF N L fr) b1 :: ([rowC (cA N L) (.slice qa2 nA ka2), rowC (cB N L) (.slice qa3 nB ka3), rowC (cA N L) (.slice qb2 nA kb2), rowC (cB N L) (.slice qb3 nB kb3)] ++ ([bx 41 5 za (cwL a1 (.slice qa2 nA ka2) (.slice qa3 nB ka3) (cR N L fr)), bx 41 5 zb (cwL b1 (.slice qb2 nA kb2) (.slice qb3 nB kb3) (cR N L fr)), bx 41 5 zc (cwL c1 c2 c3 (cR N L fr)), rowW (cF N L fr) c1, rowC (cA N L) c2, rowC (cB N L) c3] ++ (rowN fr u :: bx 31 10 zm lm :: (RM ++ [bx 31 10 z0 lc]))))) ∧ Below w.heap.size w W12) := ⟨HO12.out.1.perm (perm_r8 _ _ _ _ _ _ _ _ _ _ _ _ _), HO12.out.2⟩
 have HPL : Hid (∀ k, k < w.heap.size → ¬ (a1.ownBlock = some k ∨ b1.ownBlock = some k)) := fun k hk hp => by
  rcases hp with e | e
  ·have := (HP12.out.1.lt k (mem_blks (r := rowW (cF N L fr) a1) (by simp) e)).1; omega
  ·have := (HP12.out.1.lt k (mem_blks (r := rowW (cF N L fr) b1) (by simp) e)).1; omega
 have HPC : Hid (∀ k, k < w.heap.size → ¬ ∃ i, i < 4 ∧ (v4 (.slice qa2 nA ka2) (.slice qa3 nB ka3) (.slice qb2 nA kb2) (.slice qb3 nB kb3) i).ownBlock = some k) := fun k hk ⟨i, hi, e⟩ => by
  have h4 : i = 0 ∨ i = 1 ∨ i = 2 ∨ i = 3 := by omega
  rcases h4 with rfl | rfl | rfl | rfl
  ·have := (HP12.out.1.lt k (mem_blks (r := rowC (cA N L) (.slice qa2 nA ka2)) (by simp) e)).1; omega
  ·have := (HP12.out.1.lt k (mem_blks (r := rowC (cB N L) (.slice qa3 nB ka3)) (by simp) e)).1; omega
  ·have := (HP12.out.1.lt k (mem_blks (r := rowC (cA N L) (.slice qb2 nA kb2)) (by simp) e)).1; omega
  ·have := (HP12.out.1.lt k (mem_blks (r := rowC (cB N L) (.slice qb3 nB kb3)) (by simp) e)).1; omega
 clear HO12
 refine wp_region_held_drew (S := (fun V => V.cell? ⟨za, 0, .none⟩ = some a1 ∧ V.cell? ⟨za, 1, .none⟩ = some (.slice qa2 nA ka2) ∧ V.cell? ⟨za, 2, .none⟩ = some (.slice qa3 nB ka3) ∧ V.cell? ⟨zb, 0, .none⟩ = some b1 ∧ V.cell? ⟨zb, 1, .none⟩ = some (.slice qb2 nA kb2) ∧ V.cell? ⟨zb, 2, .none⟩ = some (.slice qb3 nB kb3) ∧ V.rangeAt zm 0 lm ∧ V.rangeAt zc 0 (cwL c1 c2 c3 (cR N L fr)))) (by kernel_rfl) ⟨((HP12.out.1).cell (t := 41) (k := 5) (b := za) (cs := cwL a1 (.slice qa2 nA ka2) (.slice qa3 nB ka3) (cR N L fr)) (by simp) 0).1, ((HP12.out.1).cell (t := 41) (k := 5) (b := za) (cs := cwL a1 (.slice qa2 nA ka2) (.slice qa3 nB ka3) (cR N L fr)) (by simp) 1).1, ((HP12.out.1).cell (t := 41) (k := 5) (b := za) (cs := cwL a1 (.slice qa2 nA ka2) (.slice qa3 nB ka3) (cR N L fr)) (by simp) 2).1, ((HP12.out.1).cell (t := 41) (k := 5) (b := zb) (cs := cwL b1 (.slice qb2 nA kb2) (.slice qb3 nB kb3) (cR N L fr)) (by simp) 0).1, ((HP12.out.1).cell (t := 41) (k := 5) (b := zb) (cs := cwL b1 (.slice qb2 nA kb2) (.slice qb3 nB kb3) (cR N L fr)) (by simp) 1).1, ((HP12.out.1).cell (t := 41) (k := 5) (b := zb) (cs := cwL b1 (.slice qb2 nA kb2) (.slice qb3 nB kb3) (cR N L fr)) (by simp) 2).1, range_heap ((HP12.out.1).bx (t := 31) (k := 10) (b := zm) (cs := lm) (by simp)), range_heap ((HP12.out.1).bx (t := 41) (k := 5) (b := zc) (cs := cwL c1 c2 c3 (cR N L fr)) (by simp))⟩ (fun hHeld => ?_)
 refine nT 0 (.pointer (some ⟨za, 0, .none⟩)) rfl ?_
 simp only [x0,x1,x2,x3,x4,x5,x6]
 refine nT 1 (a1) rfl ?_
 simp only [x0,x1,x2,x3,x4,x5,x6]
 refine nT 2 (.pointer (some ⟨zb, 0, .none⟩)) rfl ?_
 simp only [x0,x1,x2,x3,x4,x5,x6]
 refine nT 3 (b1) rfl ?_
 simp only [x0,x1,x2,x3,x4,x5,x6]
 refine wpAnyH_ready (rs := [4]) (by kernel_rfl) (by simp) ?_
 refine AllReadyH.cons rfl (fun K hK => ?_) AllReadyH.nil
 go_simp
 go_at_call 12
 refine (loneF_own (w := W12.drew) (R := [rowC (cA N L) (.slice qa2 nA ka2), rowC (cB N L) (.slice qa3 nB ka3), rowC (cA N L) (.slice qb2 nA kb2), rowC (cB N L) (.slice qb3 nB kb3)] ++ ([bx 41 5 za (cwL a1 (.slice qa2 nA ka2) (.slice qa3 nB ka3) (cR N L fr)), bx 41 5 zb (cwL b1 (.slice qb2 nA kb2) (.slice qb3 nB kb3) (cR N L fr)), bx 41 5 zc (cwL c1 c2 c3 (cR N L fr)), rowW (cF N L fr) c1, rowC (cA N L) c2, rowC (cB N L) c3] ++ (rowN fr u :: bx 31 10 zm lm :: (RM ++ [bx 31 10 z0 lc])))) (HP12.out.1.keep (Below.refl _ _).drew) (cF_len _ _ _)).mono ?_
 rintro _ W13 ⟨rfl, hO13, hC13⟩
 have HO13 : Hid (Owns W13 w.heap.size ([rowC (cA N L) (.slice qa2 nA ka2), rowC (cB N L) (.slice qa3 nB ka3), rowC (cA N L) (.slice qb2 nA kb2), rowC (cB N L) (.slice qb3 nB kb3)] ++ ([bx 41 5 za (cwL a1 (.slice qa2 nA ka2) (.slice qa3 nB ka3) (cR N L fr)), bx 41 5 zb (cwL b1 (.slice qb2 nA kb2) (.slice qb3 nB kb3) (cR N L fr)), bx 41 5 zc (cwL c1 c2 c3 (cR N L fr)), rowW (cF N L fr) c1, rowC (cA N L) c2, rowC (cB N L) c3] ++ (rowN fr u :: bx 31 10 zm lm :: (RM ++ [bx 31 10 z0 lc])))) ∧ Below w.heap.size w W13) := ⟨hO13, hC13.bel (HP12.out.2.trans (Below.refl _ _).drew) HP12.out.2.size (fun k hk hp => HPL.out k hk (hp.imp id id))⟩
 have hS13 : (fun V => V.cell? ⟨za, 0, .none⟩ = some a1 ∧ V.cell? ⟨za, 1, .none⟩ = some (.slice qa2 nA ka2) ∧ V.cell? ⟨za, 2, .none⟩ = some (.slice qa3 nB ka3) ∧ V.cell? ⟨zb, 0, .none⟩ = some b1 ∧ V.cell? ⟨zb, 1, .none⟩ = some (.slice qb2 nA kb2) ∧ V.cell? ⟨zb, 2, .none⟩ = some (.slice qb3 nB kb3) ∧ V.rangeAt zm 0 lm ∧ V.rangeAt zc 0 (cwL c1 c2 c3 (cR N L fr))) W13 := ⟨((HO13.out.1).cell (t := 41) (k := 5) (b := za) (cs := cwL a1 (.slice qa2 nA ka2) (.slice qa3 nB ka3) (cR N L fr)) (by simp) 0).1, ((HO13.out.1).cell (t := 41) (k := 5) (b := za) (cs := cwL a1 (.slice qa2 nA ka2) (.slice qa3 nB ka3) (cR N L fr)) (by simp) 1).1, ((HO13.out.1).cell (t := 41) (k := 5) (b := za) (cs := cwL a1 (.slice qa2 nA ka2) (.slice qa3 nB ka3) (cR N L fr)) (by simp) 2).1, ((HO13.out.1).cell (t := 41) (k := 5) (b := zb) (cs := cwL b1 (.slice qb2 nA kb2) (.slice qb3 nB kb3) (cR N L fr)) (by simp) 0).1, ((HO13.out.1).cell (t := 41) (k := 5) (b := zb) (cs := cwL b1 (.slice qb2 nA kb2) (.slice qb3 nB kb3) (cR N L fr)) (by simp) 1).1, ((HO13.out.1).cell (t := 41) (k := 5) (b := zb) (cs := cwL b1 (.slice qb2 nA kb2) (.slice qb3 nB kb3) (cR N L fr)) (by simp) 2).1, range_heap ((HO13.out.1).bx (t := 31) (k := 10) (b := zm) (cs := lm) (by simp)), range_heap ((HO13.out.1).bx (t := 41) (k := 5) (b := zc) (cs := cwL c1 c2 c3 (cR N L fr)) (by simp))⟩
 clear hO13 hC13
 refine hK.out _ _ hS13 (fun hHeld => ?_)
 clear hK K
 try simp only [x0,x1,x2,x3,x4,x5,x6]
 refine nT 5 (.bool false) rfl ?_
 simp only [x0,x1,x2,x3,x4,x5,x6]
 refine nT 6 (.bool false) rfl ?_
 simp only [x0,x1,x2,x3,x4,x5,x6]
 refine nT 7 (.pointer (some ⟨za, 1, .none⟩)) rfl ?_
 simp only [x0,x1,x2,x3,x4,x5,x6]
 refine nT 8 ((.slice qa2 nA ka2)) rfl ?_
 simp only [x0,x1,x2,x3,x4,x5,x6]
 refine nT 9 (.pointer (some ⟨za, 2, .none⟩)) rfl ?_
 simp only [x0,x1,x2,x3,x4,x5,x6]
 refine nT 10 ((.slice qa3 nB ka3)) rfl ?_
 simp only [x0,x1,x2,x3,x4,x5,x6]
 refine nT 11 (.pointer (some ⟨zb, 1, .none⟩)) rfl ?_
 simp only [x0,x1,x2,x3,x4,x5,x6]
 refine nT 12 ((.slice qb2 nA kb2)) rfl ?_
 simp only [x0,x1,x2,x3,x4,x5,x6]
 refine nT 13 (.pointer (some ⟨zb, 2, .none⟩)) rfl ?_
 simp only [x0,x1,x2,x3,x4,x5,x6]
 refine nT 14 ((.slice qb3 nB kb3)) rfl ?_
 simp only [x0,x1,x2,x3,x4,x5,x6]
 refine wpAnyH_ready (rs := [15]) (by kernel_rfl) (by simp) ?_
 refine AllReadyH.cons rfl (fun K hK => ?_) AllReadyH.nil
 go_simp
 try simp only [Act.put]
 have HG : Hid ((W13.alloc (.cells #[(.slice qa2 nA ka2), (.slice qa3 nB ka3), (.slice qb2 nA kb2), (.slice qb3 nB kb3)] 37)).heap[W13.heap.size]? = some (.cells #[(.slice qa2 nA ka2), (.slice qa3 nB ka3), (.slice qb2 nA kb2), (.slice qb3 nB kb3)] 37) ∧ ∀ r ∈ [rowC (cA N L) (.slice qa2 nA ka2), rowC (cB N L) (.slice qa3 nB ka3), rowC (cA N L) (.slice qb2 nA kb2), rowC (cB N L) (.slice qb3 nB kb3)], r.v.ownBlock ≠ some W13.heap.size) := ⟨by show (W13.heap.push _)[W13.heap.size]? = _; simp, fun r hr e => by have := (HO13.out.1.lt _ (mem_blks (List.mem_append_left _ hr) e)).2; omega⟩
 have hS14 : (fun V => V.cell? ⟨za, 0, .none⟩ = some a1 ∧ V.cell? ⟨za, 1, .none⟩ = some (.slice qa2 nA ka2) ∧ V.cell? ⟨za, 2, .none⟩ = some (.slice qa3 nB ka3) ∧ V.cell? ⟨zb, 0, .none⟩ = some b1 ∧ V.cell? ⟨zb, 1, .none⟩ = some (.slice qb2 nA kb2) ∧ V.cell? ⟨zb, 2, .none⟩ = some (.slice qb3 nB kb3) ∧ V.rangeAt zm 0 lm ∧ V.rangeAt zc 0 (cwL c1 c2 c3 (cR N L fr))) (W13.alloc (.cells #[(.slice qa2 nA ka2), (.slice qa3 nB ka3), (.slice qb2 nA kb2), (.slice qb3 nB kb3)] 37)) := ⟨((HO13.out.1.keep (below1 W13 (.cells #[(.slice qa2 nA ka2), (.slice qa3 nB ka3), (.slice qb2 nA kb2), (.slice qb3 nB kb3)] 37))).cell (t := 41) (k := 5) (b := za) (cs := cwL a1 (.slice qa2 nA ka2) (.slice qa3 nB ka3) (cR N L fr)) (by simp) 0).1, ((HO13.out.1.keep (below1 W13 (.cells #[(.slice qa2 nA ka2), (.slice qa3 nB ka3), (.slice qb2 nA kb2), (.slice qb3 nB kb3)] 37))).cell (t := 41) (k := 5) (b := za) (cs := cwL a1 (.slice qa2 nA ka2) (.slice qa3 nB ka3) (cR N L fr)) (by simp) 1).1, ((HO13.out.1.keep (below1 W13 (.cells #[(.slice qa2 nA ka2), (.slice qa3 nB ka3), (.slice qb2 nA kb2), (.slice qb3 nB kb3)] 37))).cell (t := 41) (k := 5) (b := za) (cs := cwL a1 (.slice qa2 nA ka2) (.slice qa3 nB ka3) (cR N L fr)) (by simp) 2).1, ((HO13.out.1.keep (below1 W13 (.cells #[(.slice qa2 nA ka2), (.slice qa3 nB ka3), (.slice qb2 nA kb2), (.slice qb3 nB kb3)] 37))).cell (t := 41) (k := 5) (b := zb) (cs := cwL b1 (.slice qb2 nA kb2) (.slice qb3 nB kb3) (cR N L fr)) (by simp) 0).1, ((HO13.out.1.keep (below1 W13 (.cells #[(.slice qa2 nA ka2), (.slice qa3 nB ka3), (.slice qb2 nA kb2), (.slice qb3 nB kb3)] 37))).cell (t := 41) (k := 5) (b := zb) (cs := cwL b1 (.slice qb2 nA kb2) (.slice qb3 nB kb3) (cR N L fr)) (by simp) 1).1, ((HO13.out.1.keep (below1 W13 (.cells #[(.slice qa2 nA ka2), (.slice qa3 nB ka3), (.slice qb2 nA kb2), (.slice qb3 nB kb3)] 37))).cell (t := 41) (k := 5) (b := zb) (cs := cwL b1 (.slice qb2 nA kb2) (.slice qb3 nB kb3) (cR N L fr)) (by simp) 2).1, range_heap ((HO13.out.1.keep (below1 W13 (.cells #[(.slice qa2 nA ka2), (.slice qa3 nB ka3), (.slice qb2 nA kb2), (.slice qb3 nB kb3)] 37))).bx (t := 31) (k := 10) (b := zm) (cs := lm) (by simp)), range_heap ((HO13.out.1.keep (below1 W13 (.cells #[(.slice qa2 nA ka2), (.slice qa3 nB ka3), (.slice qb2 nA kb2), (.slice qb3 nB kb3)] 37))).bx (t := 41) (k := 5) (b := zc) (cs := cwL c1 c2 c3 (cR N L fr)) (by simp))⟩
 refine hK.out _ _ hS14 (fun hHeld => ?_)
 clear hK K
 try simp only [x0,x1,x2,x3,x4,x5,x6]
 refine wpAnyH_ready (rs := [16]) (by kernel_rfl) (by simp) ?_
 refine AllReadyH.cons rfl (fun K hK => ?_) AllReadyH.nil
 go_simp
 go_at_call 13
 refine (loneC_own (a := (.slice qa2 nA ka2)) (b := (.slice qa3 nB ka3)) (c := (.slice qb2 nA kb2)) (d := (.slice qb3 nB kb3)) (R := [bx 41 5 za (cwL a1 (.slice qa2 nA ka2) (.slice qa3 nB ka3) (cR N L fr)), bx 41 5 zb (cwL b1 (.slice qb2 nA kb2) (.slice qb3 nB kb3) (cR N L fr)), bx 41 5 zc (cwL c1 c2 c3 (cR N L fr)), rowW (cF N L fr) c1, rowC (cA N L) c2, rowC (cB N L) c3] ++ (rowN fr u :: bx 31 10 zm lm :: (RM ++ [bx 31 10 z0 lc]))) HG.out.1 (HO13.out.1.keep (below1 _ _)) (cA_len HS.out.1.fl) (cB_len HS.out.1.il) HG.out.2).mono ?_
 rintro _ W15 ⟨rfl, hO15, hC15⟩
 have HO15 : Hid (Owns W15 w.heap.size ([bx 41 5 za (cwL a1 (.slice qa2 nA ka2) (.slice qa3 nB ka3) (cR N L fr)), bx 41 5 zb (cwL b1 (.slice qb2 nA kb2) (.slice qb3 nB kb3) (cR N L fr)), bx 41 5 zc (cwL c1 c2 c3 (cR N L fr)), rowW (cF N L fr) c1, rowC (cA N L) c2, rowC (cB N L) c3] ++ (rowN fr u :: bx 31 10 zm lm :: (RM ++ [bx 31 10 z0 lc]))) ∧ Below w.heap.size w W15) := ⟨hO15, hC15.bel (HO13.out.2.trans ((below1 _ _).mono HO13.out.2.size)) (by have := HO13.out.2.size; simp; omega) (fun k hk hp => HPC.out k hk hp)⟩
 have hS15 : (fun V => V.cell? ⟨za, 0, .none⟩ = some a1 ∧ V.cell? ⟨za, 1, .none⟩ = some (.slice qa2 nA ka2) ∧ V.cell? ⟨za, 2, .none⟩ = some (.slice qa3 nB ka3) ∧ V.cell? ⟨zb, 0, .none⟩ = some b1 ∧ V.cell? ⟨zb, 1, .none⟩ = some (.slice qb2 nA kb2) ∧ V.cell? ⟨zb, 2, .none⟩ = some (.slice qb3 nB kb3) ∧ V.rangeAt zm 0 lm ∧ V.rangeAt zc 0 (cwL c1 c2 c3 (cR N L fr))) W15 := ⟨((HO15.out.1).cell (t := 41) (k := 5) (b := za) (cs := cwL a1 (.slice qa2 nA ka2) (.slice qa3 nB ka3) (cR N L fr)) (by simp) 0).1, ((HO15.out.1).cell (t := 41) (k := 5) (b := za) (cs := cwL a1 (.slice qa2 nA ka2) (.slice qa3 nB ka3) (cR N L fr)) (by simp) 1).1, ((HO15.out.1).cell (t := 41) (k := 5) (b := za) (cs := cwL a1 (.slice qa2 nA ka2) (.slice qa3 nB ka3) (cR N L fr)) (by simp) 2).1, ((HO15.out.1).cell (t := 41) (k := 5) (b := zb) (cs := cwL b1 (.slice qb2 nA kb2) (.slice qb3 nB kb3) (cR N L fr)) (by simp) 0).1, ((HO15.out.1).cell (t := 41) (k := 5) (b := zb) (cs := cwL b1 (.slice qb2 nA kb2) (.slice qb3 nB kb3) (cR N L fr)) (by simp) 1).1, ((HO15.out.1).cell (t := 41) (k := 5) (b := zb) (cs := cwL b1 (.slice qb2 nA kb2) (.slice qb3 nB kb3) (cR N L fr)) (by simp) 2).1, range_heap ((HO15.out.1).bx (t := 31) (k := 10) (b := zm) (cs := lm) (by simp)), range_heap ((HO15.out.1).bx (t := 41) (k := 5) (b := zc) (cs := cwL c1 c2 c3 (cR N L fr)) (by simp))⟩
 clear hO15 hC15
 refine hK.out _ _ hS15 (fun hHeld => ?_)
 clear hK K
 try simp only [x0,x1,x2,x3,x4,x5,x6]
 refine nT 17 (.bool false) rfl ?_
 simp only [x0,x1,x2,x3,x4,x5,x6]
 refine nT 18 (.bool false) rfl ?_
 simp only [x0,x1,x2,x3,x4,x5,x6]
 refine nT 19 (.bool false) rfl ?_
 simp only [x0,x1,x2,x3,x4,x5,x6]
 refine nT 20 (.int .i64 N) rfl ?_
 simp only [x0,x1,x2,x3,x4,x5,x6]
 refine nV 21 (.agg lm.toArray) rfl ?_ (yieldsIf_load_mid (by rfl) 31 (.tmp 7) rfl (zm) (0) rfl lm _ (fun ww hSw => hSw.2.2.2.2.2.2.1) Try.underlying31 rfl (by rw [HLC.out.2]; kernel_rfl))
 simp only [x0,x1,x2,x3,x4,x5,x6]
 refine nT 22 (u) rfl ?_
 simp only [x0,x1,x2,x3,x4,x5,x6]
 refine nV 24 (.agg (cwL c1 c2 c3 (cR N L fr)).toArray) rfl ?_ (yieldsIf_load_mid (by rfl) 41 (.tmp 11) rfl (zc) (0) rfl (cwL c1 c2 c3 (cR N L fr)) _ (fun ww hSw => hSw.2.2.2.2.2.2.2) Try.underlying41 rfl (by first | kernel_rfl | (rw [rfl]; kernel_rfl)))
 simp only [x0,x1,x2,x3,x4,x5,x6]
 refine wpAnyH_ready (rs := [23]) (by kernel_rfl) (by simp) ?_
 refine AllReadyH.cons rfl (fun K hK => ?_) AllReadyH.nil
 go_simp
 go_at_call 7
 refine (HTM.out W15 [bx 41 5 za (cwL a1 (.slice qa2 nA ka2) (.slice qa3 nB ka3) (cR N L fr)), bx 41 5 zb (cwL b1 (.slice qb2 nA kb2) (.slice qb3 nB kb3) (cR N L fr)), bx 41 5 zc (cwL c1 c2 c3 (cR N L fr)), rowW (cF N L fr) c1, rowC (cA N L) c2, rowC (cB N L) c3] HO15.out.1).mono ?_
 rintro _ W16 ⟨d1, d2, d3, rfl, hO16, hB16⟩
 have HO16 : Hid (Owns W16 w.heap.size ([rowW (cF N L fr) d1, rowC (cA N L) d2, rowC (cB N L) d3] ++ ([bx 41 5 za (cwL a1 (.slice qa2 nA ka2) (.slice qa3 nB ka3) (cR N L fr)), bx 41 5 zb (cwL b1 (.slice qb2 nA kb2) (.slice qb3 nB kb3) (cR N L fr)), bx 41 5 zc (cwL c1 c2 c3 (cR N L fr)), rowW (cF N L fr) c1, rowC (cA N L) c2, rowC (cB N L) c3] ++ (rowN fr u :: bx 31 10 zm lm :: (RM ++ [bx 31 10 z0 lc])))) ∧ Below w.heap.size w W16) := ⟨HO15.out.1.join hB16 hO16 HO15.out.2.size, HO15.out.2.trans (hB16.mono HO15.out.2.size)⟩
 have hS16 : (fun V => V.cell? ⟨za, 0, .none⟩ = some a1 ∧ V.cell? ⟨za, 1, .none⟩ = some (.slice qa2 nA ka2) ∧ V.cell? ⟨za, 2, .none⟩ = some (.slice qa3 nB ka3) ∧ V.cell? ⟨zb, 0, .none⟩ = some b1 ∧ V.cell? ⟨zb, 1, .none⟩ = some (.slice qb2 nA kb2) ∧ V.cell? ⟨zb, 2, .none⟩ = some (.slice qb3 nB kb3) ∧ V.rangeAt zm 0 lm ∧ V.rangeAt zc 0 (cwL c1 c2 c3 (cR N L fr))) W16 := ⟨((HO16.out.1).cell (t := 41) (k := 5) (b := za) (cs := cwL a1 (.slice qa2 nA ka2) (.slice qa3 nB ka3) (cR N L fr)) (by simp) 0).1, ((HO16.out.1).cell (t := 41) (k := 5) (b := za) (cs := cwL a1 (.slice qa2 nA ka2) (.slice qa3 nB ka3) (cR N L fr)) (by simp) 1).1, ((HO16.out.1).cell (t := 41) (k := 5) (b := za) (cs := cwL a1 (.slice qa2 nA ka2) (.slice qa3 nB ka3) (cR N L fr)) (by simp) 2).1, ((HO16.out.1).cell (t := 41) (k := 5) (b := zb) (cs := cwL b1 (.slice qb2 nA kb2) (.slice qb3 nB kb3) (cR N L fr)) (by simp) 0).1, ((HO16.out.1).cell (t := 41) (k := 5) (b := zb) (cs := cwL b1 (.slice qb2 nA kb2) (.slice qb3 nB kb3) (cR N L fr)) (by simp) 1).1, ((HO16.out.1).cell (t := 41) (k := 5) (b := zb) (cs := cwL b1 (.slice qb2 nA kb2) (.slice qb3 nB kb3) (cR N L fr)) (by simp) 2).1, range_heap ((HO16.out.1).bx (t := 31) (k := 10) (b := zm) (cs := lm) (by simp)), range_heap ((HO16.out.1).bx (t := 41) (k := 5) (b := zc) (cs := cwL c1 c2 c3 (cR N L fr)) (by simp))⟩
 clear hO16 hB16
 refine hK.out _ _ hS16 (fun hHeld => ?_)
 clear hK K
 try simp only [x0,x1,x2,x3,x4,x5,x6]
 refine wpAnyH_ready (rs := [25]) (by kernel_rfl) (by simp) ?_
 refine AllReadyH.cons rfl (fun K hK => ?_) AllReadyH.nil
 go_simp
 go_at_call 9
 refine ((fun V (hV : Owns V w.heap.size _) => (sameCensus_eq (cR N L fr) (Sl.ofW (hV.own (rowW (cF N L fr) d1) (by simp)) rfl) (Sl.ofW (hV.own (rowW (cF N L fr) c1) (by simp)) rfl) (Sl.ofC (hV.own (rowC (cA N L) d2) (by simp)) rfl) (Sl.ofC (hV.own (rowC (cA N L) c2) (by simp)) rfl) (Sl.ofC (hV.own (rowC (cB N L) d3) (by simp)) rfl) (Sl.ofC (hV.own (rowC (cB N L) c3) (by simp)) rfl) (Nat.le_refl _) (Nat.le_trans (cF_len _ _ _) (by omega)) (cA_len HS.out.1.fl) (cB_len HS.out.1.il))) W16 HO16.out.1).mono ?_
 rintro _ W17 ⟨rfl, hB17⟩
 have HO17 : Hid (Owns W17 w.heap.size ([rowW (cF N L fr) d1, rowC (cA N L) d2, rowC (cB N L) d3] ++ ([bx 41 5 za (cwL a1 (.slice qa2 nA ka2) (.slice qa3 nB ka3) (cR N L fr)), bx 41 5 zb (cwL b1 (.slice qb2 nA kb2) (.slice qb3 nB kb3) (cR N L fr)), bx 41 5 zc (cwL c1 c2 c3 (cR N L fr)), rowW (cF N L fr) c1, rowC (cA N L) c2, rowC (cB N L) c3] ++ (rowN fr u :: bx 31 10 zm lm :: (RM ++ [bx 31 10 z0 lc])))) ∧ Below w.heap.size w W17) := ⟨HO16.out.1.keep hB17, HO16.out.2.trans (hB17.mono HO16.out.2.size)⟩
 have hS17 : (fun V => V.cell? ⟨za, 0, .none⟩ = some a1 ∧ V.cell? ⟨za, 1, .none⟩ = some (.slice qa2 nA ka2) ∧ V.cell? ⟨za, 2, .none⟩ = some (.slice qa3 nB ka3) ∧ V.cell? ⟨zb, 0, .none⟩ = some b1 ∧ V.cell? ⟨zb, 1, .none⟩ = some (.slice qb2 nA kb2) ∧ V.cell? ⟨zb, 2, .none⟩ = some (.slice qb3 nB kb3) ∧ V.rangeAt zm 0 lm ∧ V.rangeAt zc 0 (cwL c1 c2 c3 (cR N L fr))) W17 := ⟨((HO17.out.1).cell (t := 41) (k := 5) (b := za) (cs := cwL a1 (.slice qa2 nA ka2) (.slice qa3 nB ka3) (cR N L fr)) (by simp) 0).1, ((HO17.out.1).cell (t := 41) (k := 5) (b := za) (cs := cwL a1 (.slice qa2 nA ka2) (.slice qa3 nB ka3) (cR N L fr)) (by simp) 1).1, ((HO17.out.1).cell (t := 41) (k := 5) (b := za) (cs := cwL a1 (.slice qa2 nA ka2) (.slice qa3 nB ka3) (cR N L fr)) (by simp) 2).1, ((HO17.out.1).cell (t := 41) (k := 5) (b := zb) (cs := cwL b1 (.slice qb2 nA kb2) (.slice qb3 nB kb3) (cR N L fr)) (by simp) 0).1, ((HO17.out.1).cell (t := 41) (k := 5) (b := zb) (cs := cwL b1 (.slice qb2 nA kb2) (.slice qb3 nB kb3) (cR N L fr)) (by simp) 1).1, ((HO17.out.1).cell (t := 41) (k := 5) (b := zb) (cs := cwL b1 (.slice qb2 nA kb2) (.slice qb3 nB kb3) (cR N L fr)) (by simp) 2).1, range_heap ((HO17.out.1).bx (t := 31) (k := 10) (b := zm) (cs := lm) (by simp)), range_heap ((HO17.out.1).bx (t := 41) (k := 5) (b := zc) (cs := cwL c1 c2 c3 (cR N L fr)) (by simp))⟩
 clear hB17
 refine hK.out _ _ hS17 (fun hHeld => ?_)
 clear hK K
 try simp only [x0,x1,x2,x3,x4,x5,x6]
 refine nT 26 (.bool false) rfl ?_
 simp only [x0,x1,x2,x3,x4,x5,x6]
 refine nT 27 (.bool false) rfl ?_
 simp only [x0,x1,x2,x3,x4,x5,x6]
 refine wpAnyH_done (by kernel_rfl) ?_ _
 have HO18 : Hid (Owns W17 w.heap.size ([bx 41 5 za (cwL a1 (.slice qa2 nA ka2) (.slice qa3 nB ka3) (cR N L fr)), bx 41 5 zb (cwL b1 (.slice qb2 nA kb2) (.slice qb3 nB kb3) (cR N L fr)), bx 41 5 zc (cwL c1 c2 c3 (cR N L fr)), rowW (cF N L fr) c1, rowC (cA N L) c2, rowC (cB N L) c3] ++ (rowN fr u :: bx 31 10 zm lm :: (RM ++ [bx 31 10 z0 lc]))) ∧ Below w.heap.size w W17) := ⟨HO17.out.1.sub (List.sublist_append_right _ _), HO17.out.2⟩
 clear hS13 hS14 hS15 hS16 hS17 HO13 HO15 HO16 HO17 HG HP12 hHeld
 obtain ⟨lf, hlf⟩ : ∃ v, v = L.free := ⟨_, rfl⟩
 obtain ⟨ln0, hln⟩ : ∃ v, v = L.next := ⟨_, rfl⟩
 obtain ⟨f1, hf1⟩ : ∃ v, v = IntKind.i64.wrap (lf + 1) := ⟨_, rfl⟩
 obtain ⟨n1, hn1⟩ : ∃ v, v = IntKind.i64.wrap (ln0 + 1) := ⟨_, rfl⟩
 have hw1 : IntKind.i64.wrap (lf + 1) = f1 := hf1.symm
 have hw2 : IntKind.i64.wrap (ln0 + 1) = n1 := hn1.symm
 have HFN : Hid (f1 = IntKind.i64.wrap (lf + 1) ∧ n1 = IntKind.i64.wrap (ln0 + 1)) := ⟨hf1, hn1⟩
 have HO19 : Hid (Owns W17 w.heap.size (rowN fr u :: bx 31 10 zm lm :: RM) ∧ Below w.heap.size w W17) := ⟨HO18.out.1.sub (by
  simp only [List.cons_append, List.nil_append]
  refine .cons _ (.cons _ (.cons _ (.cons _ (.cons _ (.cons _ (.cons_cons _ (.cons_cons _ ?_)))))))
  exact List.sublist_append_left _ _), HO18.out.2⟩
 obtain ⟨k9, f9⟩ := HO19.out.1.cell (t := 31) (k := 10) (b := zm) (cs := lm) (by simp) 9
 obtain ⟨k8, f8⟩ := HO19.out.1.cell (t := 31) (k := 10) (b := zm) (cs := lm) (by simp) 8
 rw [show lm[9]? = some (.int .i64 lf) by rw [HLM.out, hlf]; rfl] at k9
 rw [show lm[8]? = some (.int .i64 ln0) by rw [HLM.out, hln]; rfl] at k8
 obtain ⟨lm2, hlm2⟩ : ∃ l, l = lkL L.tramp pm fm im qm rm lm0 L.ticks n1 f1 := ⟨_, rfl⟩
 have HL2 : Hid (lm2.length = 10 ∧ lm2 = lkL L.tramp pm fm im qm rm lm0 L.ticks n1 f1) := ⟨by rw [hlm2]; rfl, hlm2⟩
 have HO20 : Hid (Owns ((W17.setCell ⟨zm, 9, .none⟩ (.int .i64 f1)).setCell ⟨zm, 8, .none⟩ (.int .i64 n1)) w.heap.size (rowN fr u :: bx 31 10 zm lm2 :: RM) ∧ Below w.heap.size w ((W17.setCell ⟨zm, 9, .none⟩ (.int .i64 f1)).setCell ⟨zm, 8, .none⟩ (.int .i64 n1))) := by
  have o1 := Owns.setAt (A := [rowN fr u]) (g := zm) (j := 9) HO19.out.1 (.int .i64 f1) rfl rfl (by show 9 < lm.length; rw [HLC.out.2]; omega)
  have o2 := Owns.setAt (A := [rowN fr u]) (g := zm) (j := 8) o1 (.int .i64 n1) rfl rfl (by show 8 < (lm.set 9 _).length; rw [List.length_set, HLC.out.2]; omega)
  have hzl := (HO19.out.1.lt zm (mem_blks (r := bx 31 10 zm lm) (by simp) rfl)).1
  refine ⟨?_, (HO19.out.2.trans (set_bel _ hzl)).trans (set_bel _ hzl)⟩
  have e : (lm.set 9 (.int .i64 f1)).set 8 (.int .i64 n1) = lm2 := by rw [hlm2, HLM.out]; rfl
  rw [← e]
  exact o2
 obtain ⟨up, uc, rfl⟩ : ∃ p c, u = .slice p ne c := by
  have h1 := own_form (HO19.out.1.own (rowN fr u) (by simp))
  rw [HS.out.2.2.1]
  exact h1
 clear HO18 HO19 hlf hln hf1 hn1 hlm2
 go_wp2
 clear k9 f9 k8 f8 hw1 hw2
 generalize (W17.setCell ⟨zm, 9, .none⟩ (.int .i64 f1)).setCell ⟨zm, 8, .none⟩ (.int .i64 n1) = W20 at *
 have bne : ne ≤ 6000 := by rw [HS.out.2.2.1]; exact HSB.out.2
 go_loopw [12] (fun k wr => ∃ i : Nat, i ≤ ne ∧ k = .int .i64 i ∧ Hid (Owns wr w.heap.size (rowN (fq fr i) (.slice up ne uc) :: bx 31 10 zm lm2 :: RM) ∧ Below w.heap.size w wr)) (fun k _ => (ne - intOf k).toNat)
 case atStart => exact ⟨0, by omega, rfl, by rw [fq_zero]; exact HO20.out⟩
 case round =>
  clear HO20
  obtain ⟨i, hi, rfl, HB⟩ := hrel
  rename World => wr
  by_cases hin : i < ne
  ·as_aux_lemma =>
    have i1 : (i : Int) < ne := by omega
    have hif : i < fr.length := by rw [← HS.out.2.2.1]; exact hin
    have hx : fr[i]? = some fr[i] := List.getElem?_eq_getElem hif
    generalize fr[i] = x at hx
    have hrow := HB.out.1.own (rowN (fq fr i) (.slice up ne uc)) (by simp)
    have hrow : wr.ownsRow w.heap.size 22 1 (.slice up ne uc) (fq fr i).length ((fq fr i).map (.int .u64)) := hrow
    rw [fq_len, ← HS.out.2.2.1] at hrow
    obtain ⟨g, c, hg⟩ := row_some hrow (by omega)
    injection hg with e1 _ e3
    subst e1
    subst e3
    obtain ⟨k1, f1'⟩ := row_cell hrow (j := i) (u := .int .u64 x) (by rw [List.getElem?_map, fq_get hif, hx]; rfl)
    have HX : Hid (fr[i]? = some x) := hx
    have HIF : Hid (i < fr.length) := hif
    obtain ⟨y, hy⟩ : ∃ y, y = IntKind.u64.wrap (x + 4096) := ⟨_, rfl⟩
    have hw : IntKind.u64.wrap (x + 4096) = y := hy.symm
    have HY : Hid (y = gq x) := hy
    clear hx hif hrow hy
    go_wp2
    refine ⟨⟨i + 1, by omega, by go_num, ?_, HB.out.2.trans (set_bel _ (HB.out.1.lt g (mem_blks (r := rowN (fq fr i) (.slice (some ⟨g, 0, .none⟩) ne uc)) (by simp) rfl)).1)⟩, by simp [intOf]; omega⟩
    have o1 := Owns.setAt (A := []) (g := g) (j := i) HB.out.1 (.int .u64 y) rfl (by show (fq fr i).length = ne; rw [fq_len]; exact HS.out.2.2.1.symm) (by show i < ((fq fr i).map _).length; rw [List.length_map, fq_len]; exact HIF.out)
    have e : rowN (fq fr (i + 1)) (.slice (some ⟨g, 0, .none⟩) ne uc) = ⟨22, 1, (fq fr i).length, .slice (some ⟨g, 0, .none⟩) ne uc, ((fq fr i).map (.int .u64)).set i (.int .u64 y)⟩ := by
     unfold rowN
     rw [fq_len, fq_len, HY.out, fq_succ HX.out, List.map_set]
    rw [e]
    exact o1
  have i1 : ¬ (i : Int) < ne := by omega
  have HO20 : Hid (Owns wr w.heap.size (rowN (fr.map gq) (.slice up ne uc) :: bx 31 10 zm lm2 :: RM) ∧ Below w.heap.size w wr) := by
   have h1 := HB.out
   rw [fq_all (by rw [← HS.out.2.2.1]; omega)] at h1
   exact h1
  clear HB hin hi
  have HX2 : Hid ((allL (lk2 L n1 f1) (fr.map gq)).length ≤ 1000000 ∧ LkR (lk2 L n1 f1) ∧ (∀ a ∈ fr.map gq, u64R a) ∧ (fr.map gq).length ≤ 1000000) := by
   refine ⟨?_, lk2_R HS.out.1 (by rw [HFN.out.2]; exact wrap_i64R _) (by rw [HFN.out.1]; exact wrap_i64R _), fun a ha => ?_, by rw [List.length_map]; have := HSB.out.2; omega⟩
   ·have h1 := HSB.out.1
    have h2 : (allL (lk2 L n1 f1) (fr.map gq)).length = (allL L fr).length := by simp [allL, lk2, nmF]
    omega
   ·obtain ⟨b, _, rfl⟩ := List.mem_map.1 ha
    exact wrap_u64R _
  go_wp2_with fail
  try go_at_call 6
  refine (words_any (wd_own (HO20.out.1.own (rowN (fr.map gq) (.slice up ne uc)) (by simp))) (Nat.le_refl _) (by have := HX2.out.2.2.2; omega)).mono ?_
  rintro e W21 ⟨v, rfl, hv, hB21⟩
  have HO21 : Hid (Owns W21 w.heap.size (rowN (fr.map gq) v :: rowN (fr.map gq) (.slice up ne uc) :: bx 31 10 zm lm2 :: RM) ∧ Below w.heap.size w W21) := ⟨HO20.out.1.push (r := rowN (fr.map gq) v) hB21 hv HO20.out.2.size, HO20.out.2.trans (hB21.mono HO20.out.2.size)⟩
  have HLK2 : Hid (∀ V, Owns V w.heap.size (rowN (fr.map gq) v :: rowN (fr.map gq) (.slice up ne uc) :: bx 31 10 zm lm2 :: RM) → LkW V V.heap.size pm fm im qm rm lm0 (lk2 L n1 f1)) := fun V hV => by
   have h1 := HRM.out V _ (hV.sub (.cons _ (.cons _ (.cons _ (List.Sublist.refl _)))))
   exact ⟨h1.ps, h1.fs, h1.is, h1.qs, h1.rd, h1.ln⟩
  have HT2 : Hid (∀ V, Owns V w.heap.size (rowN (fr.map gq) v :: rowN (fr.map gq) (.slice up ne uc) :: bx 31 10 zm lm2 :: RM) → Calls Try.prog 7 #[.int .i64 N, .agg lm2.toArray, .slice up ne uc] V (TkB V N (lk2 L n1 f1) (fr.map gq))) := fun V hV => by
   rw [HL2.out.2]
   exact take_all (L := lk2 L n1 f1) (HLK2.out V hV) (Nat.le_refl _) (wd_own (hV.own (rowN (fr.map gq) (.slice up ne uc)) (by simp))) HX2.out.1 HX2.out.2.1 HX2.out.2.2.1 HX2.out.2.2.2 N
  have HN2 : Hid (∀ V, Owns V w.heap.size (rowN (fr.map gq) v :: rowN (fr.map gq) (.slice up ne uc) :: bx 31 10 zm lm2 :: RM) → Calls Try.prog 5 #[.agg lm2.toArray] V (TwP V (lk2 L n1 f1))) := fun V hV => by
   rw [HL2.out.2]
   exact twin_any (L := lk2 L n1 f1) (HLK2.out V hV) (Nat.le_refl _) HX2.out.2.1.sml
  clear HO20 hv hB21
  go_upto_region 19 with fail
  refine wp_region_held_drew (S := (fun V => V.rangeAt zm 0 lm2)) (by kernel_rfl) (range_heap ((HO21.out.1).bx (t := 31) (k := 10) (b := zm) (cs := lm2) (by simp))) (fun hHeld => ?_)
  refine nT 0 (.int .i64 N) rfl ?_
  simp only [x0,x1,x2,x3,x4,x5,x6]
  refine nV 1 (.agg lm2.toArray) rfl ?_ (yieldsIf_load_mid (by rfl) 31 (.tmp 7) rfl (zm) (0) rfl lm2 _ (fun ww hSw => hSw) Try.underlying31 rfl (by rw [HL2.out.1]; kernel_rfl))
  simp only [x0,x1,x2,x3,x4,x5,x6]
  refine nT 2 (.slice up ne uc) rfl ?_
  simp only [x0,x1,x2,x3,x4,x5,x6]
  refine nT 4 (.int .i64 N) rfl ?_
  simp only [x0,x1,x2,x3,x4,x5,x6]
  refine nV 5 (.agg lm2.toArray) rfl ?_ (yieldsIf_load_mid (by rfl) 31 (.tmp 7) rfl (zm) (0) rfl lm2 _ (fun ww hSw => hSw) Try.underlying31 rfl (by rw [HL2.out.1]; kernel_rfl))
  simp only [x0,x1,x2,x3,x4,x5,x6]
  refine nT 7 (v) rfl ?_
  simp only [x0,x1,x2,x3,x4,x5,x6]
  refine wpAnyH_ready (rs := [3]) (by kernel_rfl) (by simp) ?_
  refine AllReadyH.cons rfl (fun K hK => ?_) AllReadyH.nil
  go_simp
  go_at_call 7
  refine (HT2.out W21.drew (HO21.out.1.keep (Below.refl _ _).drew)).mono ?_
  rintro _ W22 ⟨e1, e2, e3, rfl, hO22, hB22⟩
  have hB22 : Below W21.heap.size W21 W22 := (Below.refl _ _).drew.trans hB22
  have HO22 : Hid (Owns W22 w.heap.size ([rowW (cF N (lk2 L n1 f1) (fr.map gq)) e1, rowC (cA N (lk2 L n1 f1)) e2, rowC (cB N (lk2 L n1 f1)) e3] ++ (rowN (fr.map gq) v :: rowN (fr.map gq) (.slice up ne uc) :: bx 31 10 zm lm2 :: RM)) ∧ Below w.heap.size w W22) := ⟨HO21.out.1.join hB22 hO22 HO21.out.2.size, HO21.out.2.trans (hB22.mono HO21.out.2.size)⟩
  have hS22 : (fun V => V.rangeAt zm 0 lm2) W22 := range_heap ((HO22.out.1).bx (t := 31) (k := 10) (b := zm) (cs := lm2) (by simp))
  clear hO22 hB22
  refine hK.out _ _ hS22 (fun hHeld => ?_)
  clear hK K
  try simp only [x0,x1,x2,x3,x4,x5,x6]
  refine wpAnyH_ready (rs := [6]) (by kernel_rfl) (by simp) ?_
  refine AllReadyH.cons rfl (fun K hK => ?_) AllReadyH.nil
  go_simp
  go_at_call 5
  refine (HN2.out W22 (HO22.out.1.sub (List.sublist_append_right _ _))).mono ?_
  rintro _ W23 ⟨pn, fn, inn, qn, rn, ln, E2, EI2, EQ2, rfl, hB23, x1, x2, x3, hO23⟩
  obtain ⟨RN, hRN⟩ : ∃ R, R = [rowP E2 pn, rowF L.files fn, rowI EI2 inn, rowQ EQ2 qn, rowB L.ready rn, rowB L.line ln] ++ (rowsP E2 ++ rowsI EI2 ++ rowsQ EQ2) := ⟨_, rfl⟩
  have hO23 : Owns W23 W22.heap.size RN := (by rw [hRN]; exact hO23)
  have HRN : Hid (∀ V b, Owns V b RN → LkW V V.heap.size pn fn inn qn rn ln (lk2 L n1 f1)) := fun V b hV => (by rw [hRN] at hV; exact owns_lk (T := []) x1 x2 x3 hV)
  have HO23 : Hid (Owns W23 w.heap.size (RN ++ ([rowW (cF N (lk2 L n1 f1) (fr.map gq)) e1, rowC (cA N (lk2 L n1 f1)) e2, rowC (cB N (lk2 L n1 f1)) e3] ++ (rowN (fr.map gq) v :: rowN (fr.map gq) (.slice up ne uc) :: bx 31 10 zm lm2 :: RM))) ∧ Below w.heap.size w W23) := ⟨HO22.out.1.join hB23 hO23 HO22.out.2.size, HO22.out.2.trans (hB23.mono HO22.out.2.size)⟩
  have hS23 : (fun V => V.rangeAt zm 0 lm2) W23 := range_heap ((HO23.out.1).bx (t := 31) (k := 10) (b := zm) (cs := lm2) (by simp))
  clear hO23 hB23 hRN x1 x2 x3
  refine hK.out _ _ hS23 (fun hHeld => ?_)
  clear hK K
  try simp only [x0,x1,x2,x3,x4,x5,x6]
  refine wpAnyH_ready (rs := [8]) (by kernel_rfl) (by simp) ?_
  refine AllReadyH.cons rfl (fun K hK => ?_) AllReadyH.nil
  go_simp
  go_at_call 8
  refine (dtake_all (L := lk2 L n1 f1) (HRN.out W23 _ (HO23.out.1.sub (List.sublist_append_left _ _))) (Nat.le_refl _) (wd_own (HO23.out.1.own (rowN (fr.map gq) v) (by simp))) HX2.out.1 HX2.out.2.1 HX2.out.2.2.1 HX2.out.2.2.2 N).mono ?_
  rintro _ W24 ⟨g1, g2, g3, rfl, hO24, hB24⟩
  have HO24 : Hid (Owns W24 w.heap.size ([rowW (cF N (lk2 L n1 f1) (fr.map gq)) g1, rowC (cA N (lk2 L n1 f1)) g2, rowC (cB N (lk2 L n1 f1)) g3] ++ (RN ++ ([rowW (cF N (lk2 L n1 f1) (fr.map gq)) e1, rowC (cA N (lk2 L n1 f1)) e2, rowC (cB N (lk2 L n1 f1)) e3] ++ (rowN (fr.map gq) v :: rowN (fr.map gq) (.slice up ne uc) :: bx 31 10 zm lm2 :: RM)))) ∧ Below w.heap.size w W24) := ⟨HO23.out.1.join hB24 hO24 HO23.out.2.size, HO23.out.2.trans (hB24.mono HO23.out.2.size)⟩
  have hS24 : (fun V => V.rangeAt zm 0 lm2) W24 := range_heap ((HO24.out.1).bx (t := 31) (k := 10) (b := zm) (cs := lm2) (by simp))
  clear hO24 hB24
  refine hK.out _ _ hS24 (fun hHeld => ?_)
  clear hK K
  try simp only [x0,x1,x2,x3,x4,x5,x6]
  refine wpAnyH_ready (rs := [9]) (by kernel_rfl) (by simp) ?_
  refine AllReadyH.cons rfl (fun K hK => ?_) AllReadyH.nil
  go_simp
  go_at_call 9
  refine (sameCensus_eq (cR N (lk2 L n1 f1) (fr.map gq)) (Sl.ofW (HO24.out.1.own (rowW (cF N (lk2 L n1 f1) (fr.map gq)) e1) (by simp)) rfl) (Sl.ofW (HO24.out.1.own (rowW (cF N (lk2 L n1 f1) (fr.map gq)) g1) (by simp)) rfl) (Sl.ofC (HO24.out.1.own (rowC (cA N (lk2 L n1 f1)) e2) (by simp)) rfl) (Sl.ofC (HO24.out.1.own (rowC (cA N (lk2 L n1 f1)) g2) (by simp)) rfl) (Sl.ofC (HO24.out.1.own (rowC (cB N (lk2 L n1 f1)) e3) (by simp)) rfl) (Sl.ofC (HO24.out.1.own (rowC (cB N (lk2 L n1 f1)) g3) (by simp)) rfl) (Nat.le_refl _) (Nat.le_trans (cF_len _ _ _) (by omega)) (cA_len HX2.out.2.1.fl) (cB_len HX2.out.2.1.il)).mono ?_
  rintro _ W25 ⟨rfl, hB25⟩
  have HB25 : Hid (Below w.heap.size w W25) := HO24.out.2.trans (hB25.mono HO24.out.2.size)
  have hS25 : (fun V => V.rangeAt zm 0 lm2) W25 := range_keep hS24 hB25 (HO24.out.1.lt zm (mem_blks (r := bx 31 10 zm lm2) (by simp) rfl)).2
  clear hB25
  refine hK.out _ _ hS25 (fun hHeld => ?_)
  clear hK K
  try simp only [x0,x1,x2,x3,x4,x5,x6]
  refine nT 10 (.bool true) rfl ?_
  simp only [x0,x1,x2,x3,x4,x5,x6]
  refine wpAnyH_done (by kernel_rfl) ?_ _
  clear hS22 hS23 hS24 hS25 hHeld
  go_wp2
  go_ret
  exact ⟨rfl, HB25.out⟩
end Go.Proofs.Ythopgmmodldljab
