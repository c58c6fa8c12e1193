import Derived.Test.YthopgmmodldljabEu
namespace Go.Proofs.Ythopgmmodldljab
open Go Go.RowKit
set_option linter.unusedVariables false
set_option linter.unusedSimpArgs false
/-! Take. -/
def cwL (fv1 fv2 fv3 : Value) (r : Int × Int) : List Value := [fv1, fv2, fv3, .int .i64 r.1, .int .i64 r.2]
theorem info41 : ∃ i z, Try.prog.info? 41 = some i ∧ i.zero = some z ∧ i.size = 5 ∧ i.bytes = 88 ∧ z.cells.size = 5 := info_of 41 5 88 (by kernel_rfl) (by kernel_rfl)
def tkW (N : Nat) (L : Lk) (fr : List Int) : Int × Int := firstB (wrAll N L fr (pfA L) (nfA L)).flatten
def TkP (w : World) (N : Nat) (L : Lk) (fr : List Int) (e : Ending) (w' : World) : Prop := ∃ u1 u2 u3, e = .returned (.agg (cwL u1 u2 u3 (tkW N L fr)).toArray) ∧ Owns w' w.heap.size [rowW (frL N (allL L fr)) u1, rowC (L.files.map (cfF (nfA L))) u2, rowC (L.inos.map (cfI (nfA L))) u3] ∧ Below w.heap.size w w'
theorem allL_mem {L : Lk} {fr : List Int} (h : LkR L) (hf : ∀ a ∈ fr, u64R a) : ∀ x ∈ allL L fr, Bd64 x.1 := by
 have hb : ∀ {a : Int}, u64R a → Bd64 a := fun h => wf_bd h
 intro x hx
 simp only [allL, List.mem_append, List.mem_cons, List.not_mem_nil, or_false, List.mem_flatMap] at hx
 rcases hx with ((rfl | hx) | ⟨p, hp, hx⟩) | ⟨p, hp, hx⟩
 ·exact hb h.tr
 ·simp only [nmF, List.mem_map] at hx
  obtain ⟨a, ha, rfl⟩ := hx
  exact hb (hf a ha)
 ·simp only [nmP, nmN, nmG, List.mem_append, List.mem_map, List.mem_cons, List.not_mem_nil, or_false] at hx
  rcases hx with (⟨a, ha, rfl⟩ | ⟨a, ha, rfl⟩) | rfl
  ·exact hb ((h.p p hp).n a ha)
  ·exact hb ((h.p p hp).g a ha).fr
  ·exact hb ((h.p p hp).c 42 .u64 (by simp [k55]))
 ·simp only [nmI, nmB, List.mem_map] at hx
  obtain ⟨a, ha, rfl⟩ := hx
  exact hb ((h.i p hp).b a ha)
theorem Sl.ofW {w : World} {base : Nat} {v : Value} {l : List Ow} {n : Nat} (h : w.ownsRow base 85 3 v n ((l.map owL).flatten)) (hn : l.length = n) : Sl w w.heap.size 3 (fun x cs => cs = owL x) v l :=
 Sl.ofOwn (C := l.map owL) h rfl (by intro c hc; obtain ⟨x, _, rfl⟩ := List.mem_map.1 hc; rfl) hn (by simp [hn]) (by
  intro i x cs h1 h2
  rw [List.getElem?_map, h1] at h2
  simp only [Option.map_some, Option.some.injEq] at h2
  exact h2.symm)
set_option maxRecDepth 100000 in
set_option maxHeartbeats 2000000 in
theorem take_any {w : World} {X : Nat} {pv fv iv qv rv lv : Value} {L : Lk} (h : LkW w X pv fv iv qv rv lv L) (hX : X ≤ w.heap.size) {ev : Value} {fr : List Int} (hf : Wd w X ev fr) (hs : (allL L fr).length ≤ 1000000) (hR : LkR L) (hfr : ∀ a ∈ fr, u64R a) (hfl : fr.length ≤ 1000000) (N : Nat) (hN1 : 1 ≤ N) (hN : N ≤ 4096) : Calls Try.prog 7 #[.int .i64 N, .agg (lkL L.tramp pv fv iv qv rv lv L.ticks L.next L.free).toArray, ev] w (TkP w N L fr) := by
 obtain ⟨pp, pc, hpv⟩ := h.ps.form
 obtain ⟨lc, hlc⟩ : ∃ lc, lc = lkL L.tramp pv fv iv qv rv lv L.ticks L.next L.free := ⟨_, rfl⟩
 rw [← hlc]
 have HLC : Hid (lc.length = 10) := by rw [hlc]; exact rfl
 have HSV : Hid (∀ V, Below w.heap.size w V → Calls Try.prog 15 #[.int .i64 N, .agg lc.toArray, ev] V (SvP V N L fr pv fv iv qv rv lv)) := fun V hV => by
  rw [hlc]
  exact survey_any (h.keep (Nat.le_refl _) (hV.mono hX)) (Nat.le_trans hX hV.size) (Wd.keep hf (Nat.le_refl _) (hV.mono hX)) hs hR (allL_mem hR hfr) N hN
 have HLK : Hid (LkW w X pv fv iv qv rv lv L ∧ X ≤ w.heap.size) := ⟨h, hX⟩
 have HRG : Hid (LkR L ∧ (∀ x ∈ allL L fr, Bd64 x.1) ∧ (allL L fr).length ≤ 1000000 ∧ fr.length ≤ 1000000 ∧ N ≤ 4096) := ⟨hR, allL_mem hR hfr, hs, hfl, hN⟩
 obtain ⟨ep, ec, rfl⟩ := hf.form
 clear h hX hf hs hR hfr hlc hpv hfl
 have g1 : ¬ (N : Int) < 1 := by omega
 have g2 : ¬ (4096 : Int) < N := by omega
 go_enter Try.func7, Try.ntmps7
 go_wp2_with (first
  | (refine wpList_is (.box 31 (.tmp 1)) rfl ?_; refine wpList_boxG 31 lc 4 (.tmp 1) _ rfl rfl rfl rfl ?_; intro W1 hW1 hB1 hs1)
  | (refine wpList_is (.alloc 41) rfl ?_; refine wpList_allocG 41 5 88 info41 6 _ rfl rfl rfl ?_; intro W2 zs hzs hW2 hB2 hs2; have r1 : W2.rangeAt w.heap.size 0 lc := range_keep (range_heap hW1) hB2 (by omega))
  | (refine wpList_is (.load 31 (.tmp 4)) rfl ?_; refine wpList_loadG 31 10 176 info33 _ Try.underlying31 rfl lc HLC.out w.heap.size 0 (.tmp 4) rfl rfl rfl r1 (some 17) rfl ?_)
  | fail)
 clear r1
 obtain ⟨z, hz⟩ : ∃ z, z = w.heap.size + 1 := ⟨_, rfl⟩
 have HW2 : Hid (W2.heap[z]? = some (.cells zs.toArray 41 (0, 0)) ∧ Below w.heap.size w W2 ∧ z < W2.heap.size ∧ w.heap.size ≤ z) := ⟨by rw [hz, ← hs1]; exact hW2, hB1.trans (hB2.mono (by omega)), by omega, by omega⟩
 rw [show w.heap.size + 1 = z from hz.symm]
 clear hW1 hB1 hs1 hW2 hB2 hs2 hz
 go_at_call 15
 refine (HSV.out _ HW2.out.2.1).mono ?_
 rintro e W3 ⟨s, m1, m2, nv, gv, rfl, hsv, hnw, hfw, hB3⟩
 have hsy : Sy W3 s m1 m2 L fr N pv fv iv qv rv lv nv gv (pfA L) (nfA L) := ⟨hsv, HLK.out.1.keep (Nat.le_trans HLK.out.2 (Nat.le_trans HW2.out.2.1.size hB3.size)) ((HW2.out.2.1.trans (hB3.mono HW2.out.2.1.size)).mono HLK.out.2), Sl.ofM hnw, Sl.ofW hfw (by simp [frL]), HRG.out.1, HRG.out.2.1, HRG.out.2.2.2.2, HRG.out.2.2.1⟩
 obtain ⟨gp, gc, rfl⟩ := own_form hfw
 have HK : Hid (∀ V, Below W3.heap.size W3 V → V.cell? ⟨s, 12, .none⟩ = some (.slice gp N gc)) := fun V hV => (hsy.keep hV).cell 12 _ rfl
 have HBd : Hid (Below W3.heap.size W3 W3.drew) := (Below.refl _ _).drew
 have hS : (fun V : World => V.cell? ⟨s, 12, .none⟩ = some (.slice gp N gc)) W3.drew := HK.out _ HBd.out
 obtain ⟨u0, hu0⟩ : ∃ u, u = tkW N L fr := ⟨_, rfl⟩
 have HC33 : Hid (∀ V, Below W3.heap.size W3 V → Calls Try.prog 16 #[.pointer (some ⟨s, 0, .none⟩)] V (CoP V (L.files.map (cfF (nfA L))))) := fun V hV => fileCounts_any (hsy.keep hV).sv rfl (hsy.keep hV).lk.fs (Nat.le_refl _) (fun x hx => (HRG.out.1.f x hx).num) HRG.out.1.fl
 have HC34 : Hid (∀ V, Below W3.heap.size W3 V → Calls Try.prog 17 #[.pointer (some ⟨s, 0, .none⟩)] V (CoP V (L.inos.map (cfI (nfA L))))) := fun V hV => inodeCounts_any (hsy.keep hV).sv rfl (hsy.keep hV).lk.is (Nat.le_refl _) (fun x hx => (HRG.out.1.i x hx).ino) HRG.out.1.il
 have HC35 : Hid (∀ V, Below W3.heap.size W3 V → Calls Try.prog 18 #[.pointer (some ⟨s, 0, .none⟩)] V (WrP V u0)) := fun V hV => by rw [hu0]; exact wrong_any (hsy.keep hV) HRG.out.2.2.2.1
 have HU0 : Hid (u0 = tkW N L fr) := hu0
 have HFW : Hid (W3.ownsRow W2.heap.size 85 3 (.slice gp N gc) N (((frL N (allL L fr)).map owL).flatten) ∧ Below W2.heap.size W2 W3) := ⟨hfw, hB3⟩
 clear hsv hnw hfw hB3 hsy hu0
 go_upto_region 4 with fail
 refine region_set (fun V => V.cell? ⟨s, 12, .none⟩ = some (.slice gp N gc)) 10 [] (by kernel_rfl) ?_
 refine sT 0 (.pointer (some ⟨s, 0, .none⟩)) rfl (fun ww hSw => by go_simp) hS ?_
 simp only [x0,x1,x2,x3,x4,x5,x6]
 refine sT 1 (.pointer (some ⟨s, 0, .none⟩)) rfl (fun ww hSw => by go_simp) hS ?_
 simp only [x0,x1,x2,x3,x4,x5,x6]
 refine sT 2 (.pointer (some ⟨s, 12, .none⟩)) rfl (fun ww hSw => by go_simp) hS ?_
 simp only [x0,x1,x2,x3,x4,x5,x6]
 refine sT 3 (.slice gp N gc) rfl (fun ww hSw => by go_simp) hS ?_
 simp only [x0,x1,x2,x3,x4,x5,x6]
 refine sT 4 (.pointer (some ⟨s, 0, .none⟩)) rfl (fun ww hSw => by go_simp) hS ?_
 simp only [x0,x1,x2,x3,x4,x5,x6]
 refine sT 6 (.pointer (some ⟨s, 0, .none⟩)) rfl (fun ww hSw => by go_simp) hS ?_
 simp only [x0,x1,x2,x3,x4,x5,x6]
 refine sT 8 (.pointer (some ⟨s, 0, .none⟩)) rfl (fun ww hSw => by go_simp) hS ?_
 simp only [x0,x1,x2,x3,x4,x5,x6]
 refine set_only (i := 5) (by kernel_rfl) rfl (by rfl) (fun K hK => ?_)
 go_simp
 go_at_call 16
 refine (HC33.out _ HBd.out).mono ?_
 rintro e V1 ⟨u2, rfl, ho2, hv1⟩
 have HB1 : Hid (Below W3.heap.size W3 V1) := HBd.out.trans (hv1.mono HBd.out.size)
 have hS1 := HK.out _ HB1.out
 have HO1 : Hid (V1.ownsRow W3.drew.heap.size 91 3 u2 (L.files.map (cfF (nfA L))).length (((L.files.map (cfF (nfA L))).map owL).flatten)) := ho2
 clear hS hv1 ho2
 refine hK.out _ _ (fun _ => hS1) ?_
 clear hK K
 try simp only [x0,x1,x2,x3,x4,x5,x6]
 refine set_only (i := 7) (by kernel_rfl) rfl (by rfl) (fun K hK => ?_)
 go_simp
 go_at_call 17
 refine (HC34.out _ HB1.out).mono ?_
 rintro e V2 ⟨u3, rfl, ho3, hv2⟩
 have HB2 : Hid (Below W3.heap.size W3 V2) := HB1.out.trans (hv2.mono HB1.out.size)
 have hS2 := HK.out _ HB2.out
 have HO2 : Hid (V2.ownsRow V1.heap.size 91 3 u3 (L.inos.map (cfI (nfA L))).length (((L.inos.map (cfI (nfA L))).map owL).flatten) ∧ Below V1.heap.size V1 V2) := ⟨ho3, hv2⟩
 clear hS1 hv2 ho3
 refine hK.out _ _ (fun _ => hS2) ?_
 clear hK K
 try simp only [x0,x1,x2,x3,x4,x5,x6]
 refine set_only (i := 9) (by kernel_rfl) rfl (by rfl) (fun K hK => ?_)
 go_simp
 go_at_call 18
 refine (HC35.out _ HB2.out).mono ?_
 rintro e V3 ⟨rfl, hv3⟩
 have HB3 : Hid (Below W3.heap.size W3 V3) := HB2.out.trans (hv3.mono HB2.out.size)
 have hS3 := HK.out _ HB3.out
 have HO3 : Hid (Below V2.heap.size V2 V3) := hv3
 clear hS2 hv3
 refine hK.out _ _ (fun _ => hS3) ?_
 clear hK K
 try simp only [x0,x1,x2,x3,x4,x5,x6]
 refine set_tail 2 10 _ _ _ _ (by kernel_rfl) (by decide) ?_
 simp only [List.toList_toArray, List.drop_succ_cons, List.drop_zero]
 clear hS3
 obtain ⟨p2, c2, rfl⟩ := own_form HO1.out
 obtain ⟨p3, c3, rfl⟩ := own_form HO2.out.1
 obtain ⟨q2, hq2⟩ : ∃ n, n = (L.files.map (cfF (nfA L))).length := ⟨_, rfl⟩
 obtain ⟨q3, hq3⟩ : ∃ n, n = (L.inos.map (cfI (nfA L))).length := ⟨_, rfl⟩
 have hZ3 : V3.heap[z]? = some (.cells zs.toArray 41 (0, 0)) := (HB3.out.block z (by have := HFW.out.2.size; have := HW2.out.2.2.1; omega)).trans ((HFW.out.2.block z HW2.out.2.2.1).trans HW2.out.1)
 have HOW : Hid (Owns V3 w.heap.size [rowW (frL N (allL L fr)) (.slice gp N gc), rowC (L.files.map (cfF (nfA L))) (.slice p2 q2 c2), rowC (L.inos.map (cfI (nfA L))) (.slice p3 q3 c3)] ∧ (∀ g, g ∈ blks [rowW (frL N (allL L fr)) (.slice gp N gc), rowC (L.files.map (cfF (nfA L))) (.slice p2 q2 c2), rowC (L.inos.map (cfI (nfA L))) (.slice p3 q3 c3)] → z < g)) := by
  rw [hq2, hq3]
  have w0 := HW2.out.2.1.size
  have w1 := HFW.out.2.size
  have w2 := HB1.out.size
  have w3 := HB2.out.size
  have wd : W3.drew.heap.size = W3.heap.size := rfl
  have hN0 : (frL N (allL L fr)).length = N := by simp [frL]
  have o1 : W3.ownsRow W2.heap.size 85 3 (.slice gp N gc) (frL N (allL L fr)).length (((frL N (allL L fr)).map owL).flatten) := by rw [hN0]; exact HFW.out.1
  have o2 : V1.ownsRow W3.heap.size 91 3 (.slice p2 (L.files.map (cfF (nfA L))).length c2) (L.files.map (cfF (nfA L))).length _ := HO1.out
  have A3 : Owns V2 W2.heap.size [rowC (L.inos.map (cfI (nfA L))) (.slice p3 (L.inos.map (cfI (nfA L))).length c3), rowC (L.files.map (cfF (nfA L))) (.slice p2 (L.files.map (cfF (nfA L))).length c2), rowW (frL N (allL L fr)) (.slice gp N gc)] := by
   have a1 : Owns W3 W2.heap.size [rowW (frL N (allL L fr)) (.slice gp N gc)] := (Owns.nil W2 W2.heap.size).push (r := rowW (frL N (allL L fr)) (.slice gp N gc)) HFW.out.2 o1 (Nat.le_refl _)
   have a2 : Owns V1 W2.heap.size [rowC (L.files.map (cfF (nfA L))) (.slice p2 (L.files.map (cfF (nfA L))).length c2), rowW (frL N (allL L fr)) (.slice gp N gc)] := a1.push (r := rowC (L.files.map (cfF (nfA L))) (.slice p2 (L.files.map (cfF (nfA L))).length c2)) HB1.out o2 w1
   exact a2.push (r := rowC (L.inos.map (cfI (nfA L))) (.slice p3 (L.inos.map (cfI (nfA L))).length c3)) HO2.out.2 HO2.out.1 (by omega)
  have A4 := A3.keep HO3.out
  have A5 := A4.perm (R' := [rowW (frL N (allL L fr)) (.slice gp N gc), rowC (L.files.map (cfF (nfA L))) (.slice p2 (L.files.map (cfF (nfA L))).length c2), rowC (L.inos.map (cfI (nfA L))) (.slice p3 (L.inos.map (cfI (nfA L))).length c3)]) (List.reverse_perm _).symm
  exact ⟨⟨fun r hr => own_mono (A5.own r hr) w0, A5.nd⟩, fun g hg => Nat.lt_of_lt_of_le HW2.out.2.2.1 (A5.lt g hg).1⟩
 have HBW : Hid (Below w.heap.size w V3 ∧ z < V3.heap.size) := ⟨HW2.out.2.1.trans ((HFW.out.2.trans (HB3.out.mono HFW.out.2.size)).mono HW2.out.2.1.size), by have := HB3.out.size; have := HFW.out.2.size; have := HW2.out.2.2.1; show z < _; omega⟩
 rw [← hq2, ← hq3]
 clear HO1 HO2 HO3 hq2 hq3
 go_wp2_with (first
  | (refine wpList_is (.build 41 #[(0, .tmp 23), (1, .tmp 25), (2, .tmp 27), (3, .tmp 29)]) rfl ?_; refine wpList_buildTo rfl 41 _ rfl (some 30) rfl (cwL (.slice gp N gc) (.slice p2 q2 c2) (.slice p3 q3 c3) u0).toArray (by kernel_rfl) ?_)
  | (refine wpList_is (.store 41 (.tmp 6) (.tmp 30)) rfl ?_; refine wpList_storeG 41 5 88 z info41 (cwL (.slice gp N gc) (.slice p2 q2 c2) (.slice p3 q3 c3) u0) zs rfl hzs (List.all_eq_true.1 (show (cwL (.slice gp N gc) (.slice p2 q2 c2) (.slice p3 q3 c3) u0).all (fun u => u.oneCell') = true from rfl)) (.tmp 6) (.tmp 30) _ rfl rfl rfl rfl rfl hZ3 ?_; intro W6 hW6 hg6 hs6)
  | fail)
 refine bodyPost_ret (results_cell_any (p := 6) (ty := 41) rfl _ _ ⟨z, 0, .none⟩ _ rfl (run_loadVar_mid (P := Try.prog) _ z 0 41 (cwL (.slice gp N gc) (.slice p2 q2 c2) (.slice p3 q3 c3) u0) _ (range_heap hW6) Try.underlying41 rfl (by kernel_rfl))) rfl ?_
 refine ⟨_, _, _, by rw [← HU0.out], HOW.out.1.grown hg6 (fun hm => Nat.lt_irrefl _ (HOW.out.2 z hm)), HBW.out.1.trans ⟨hg6.os, hg6.tape, hg6.output, hg6.size, fun k hk => hg6.block k (by have := HBW.out.2; have := HW2.out.2.2.2; omega) (by intro e; injection e with e; have := HW2.out.2.2.2; omega)⟩⟩
set_option maxRecDepth 100000 in
theorem take_bad {w : World} (t ti nx fe : Int) (pv fv iv qv rv lv ev : Value) (N : Int) (hN : N < 1 ∨ 4096 < N) : Calls Try.prog 7 #[.int .i64 N, .agg (lkL t pv fv iv qv rv lv ti nx fe).toArray, ev] w fun e w' => e = .returned (.agg (cwL (.slice none 0 0) (.slice none 0 0) (.slice none 0 0) (1, 0)).toArray) ∧ Below w.heap.size w w' := by
 obtain ⟨lc, hlc⟩ : ∃ lc, lc = lkL t pv fv iv qv rv lv ti nx fe := ⟨_, rfl⟩
 rw [← hlc]
 clear hlc
 go_enter Try.func7, Try.ntmps7
 have HF : ∀ (W1 W2 W6 : World), Below w.heap.size w W1 → W1.heap.size = w.heap.size + 1 → Below W1.heap.size W1 W2 → W2.heap.size = W1.heap.size + 1 → W2.grownBy W6 (some W1.heap.size) → Below w.heap.size w W6 := fun W1 W2 W6 h1 h2 h3 h4 h5 => (h1.trans (h3.mono (by omega))).trans ⟨h5.os, h5.tape, h5.output, h5.size, fun k hk => h5.block k (by omega) (by intro e; injection e with e; omega)⟩
 have HF' : Hid (∀ (W1 W2 W6 : World), Below w.heap.size w W1 → W1.heap.size = w.heap.size + 1 → Below W1.heap.size W1 W2 → W2.heap.size = W1.heap.size + 1 → W2.grownBy W6 (some W1.heap.size) → Below w.heap.size w W6) := HF
 clear HF
 by_cases g1 : N < 1
 ·clear hN
  go_wp2_with (first
   | (refine wpList_is (.box 31 (.tmp 1)) rfl ?_; refine wpList_boxG 31 lc 4 (.tmp 1) _ rfl rfl rfl rfl ?_; intro W1 hW1 hB1 hs1)
   | (refine wpList_is (.alloc 41) rfl ?_; refine wpList_allocG 41 5 88 info41 6 _ rfl rfl rfl ?_; intro W2 zs hzs hW2 hB2 hs2; rw [hs1] at hW2)
   | (refine wpList_is (.build 39 #[(0, .const (.int .i64 1))]) rfl ?_; refine wpList_buildTo rfl 39 _ rfl (some 14) rfl (wrL (1, 0)).toArray (by kernel_rfl) ?_)
   | (refine wpList_is (.build 41 #[(3, .tmp 14)]) rfl ?_; refine wpList_buildTo rfl 41 _ rfl (some 15) rfl (cwL (.slice none 0 0) (.slice none 0 0) (.slice none 0 0) (1, 0)).toArray (by kernel_rfl) ?_)
   | (refine wpList_is (.store 41 (.tmp 6) (.tmp 15)) rfl ?_; refine wpList_storeG 41 5 88 (w.heap.size + 1) info41 (cwL (.slice none 0 0) (.slice none 0 0) (.slice none 0 0) (1, 0)) zs rfl hzs (List.all_eq_true.1 (show (cwL (.slice none 0 0) (.slice none 0 0) (.slice none 0 0) (1, 0)).all (fun u => u.oneCell') = true from rfl)) (.tmp 6) (.tmp 15) _ rfl rfl rfl rfl rfl hW2 ?_; intro W6 hW6 hg6 hs6)
   | fail)
  refine bodyPost_ret (results_cell_any (p := 6) (ty := 41) rfl _ _ ⟨w.heap.size + 1, 0, .none⟩ _ rfl (run_loadVar_mid (P := Try.prog) _ (w.heap.size + 1) 0 41 (cwL (.slice none 0 0) (.slice none 0 0) (.slice none 0 0) (1, 0)) _ (range_heap hW6) Try.underlying41 rfl (by kernel_rfl))) rfl ?_
  exact ⟨rfl, HF'.out W1 W2 W6 hB1 hs1 hB2 hs2 (by rw [hs1]; exact hg6)⟩
 ·have g2 : 4096 < N := by omega
  clear hN
  go_wp2_with (first
   | (refine wpList_is (.box 31 (.tmp 1)) rfl ?_; refine wpList_boxG 31 lc 4 (.tmp 1) _ rfl rfl rfl rfl ?_; intro W1 hW1 hB1 hs1)
   | (refine wpList_is (.alloc 41) rfl ?_; refine wpList_allocG 41 5 88 info41 6 _ rfl rfl rfl ?_; intro W2 zs hzs hW2 hB2 hs2; rw [hs1] at hW2)
   | (refine wpList_is (.build 39 #[(0, .const (.int .i64 1))]) rfl ?_; refine wpList_buildTo rfl 39 _ rfl (some 14) rfl (wrL (1, 0)).toArray (by kernel_rfl) ?_)
   | (refine wpList_is (.build 41 #[(3, .tmp 14)]) rfl ?_; refine wpList_buildTo rfl 41 _ rfl (some 15) rfl (cwL (.slice none 0 0) (.slice none 0 0) (.slice none 0 0) (1, 0)).toArray (by kernel_rfl) ?_)
   | (refine wpList_is (.store 41 (.tmp 6) (.tmp 15)) rfl ?_; refine wpList_storeG 41 5 88 (w.heap.size + 1) info41 (cwL (.slice none 0 0) (.slice none 0 0) (.slice none 0 0) (1, 0)) zs rfl hzs (List.all_eq_true.1 (show (cwL (.slice none 0 0) (.slice none 0 0) (.slice none 0 0) (1, 0)).all (fun u => u.oneCell') = true from rfl)) (.tmp 6) (.tmp 15) _ rfl rfl rfl rfl rfl hW2 ?_; intro W6 hW6 hg6 hs6)
   | fail)
  refine bodyPost_ret (results_cell_any (p := 6) (ty := 41) rfl _ _ ⟨w.heap.size + 1, 0, .none⟩ _ rfl (run_loadVar_mid (P := Try.prog) _ (w.heap.size + 1) 0 41 (cwL (.slice none 0 0) (.slice none 0 0) (.slice none 0 0) (1, 0)) _ (range_heap hW6) Try.underlying41 rfl (by kernel_rfl))) rfl ?_
  exact ⟨rfl, HF'.out W1 W2 W6 hB1 hs1 hB2 hs2 (by rw [hs1]; exact hg6)⟩
end Go.Proofs.Ythopgmmodldljab
