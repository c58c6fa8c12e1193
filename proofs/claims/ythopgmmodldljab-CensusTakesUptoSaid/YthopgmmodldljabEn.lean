import Derived.Test.YthopgmmodldljabEla
namespace Go.Proofs.Ythopgmmodldljab
open Go Go.RowKit
set_option linter.unusedVariables false
set_option linter.unusedSimpArgs false
def okF (L : Lk) (pf nf : Th → Option Int) (i : Nat) (x : Fi) : Bool := numB (fun f : Fi => f.num) L.files i 0 99 && (decide (1 ≤ x.refs) && ((x.refs == (nf (2, x.num)).getD 0) && bhB pf x))
set_option maxRecDepth 100000 in
set_option maxHeartbeats 8000000 in
theorem is81_any {w : World} {s m1 m2 : Nat} {L : Lk} {fr : List Int} {N : Nat} {pv fv iv qv rv lv nv gv : Value} {pf nf : Th → Option Int} (h : Sy w s m1 m2 L fr N pv fv iv qv rv lv nv gv pf nf) (i : Nat) (x : Fi) (hx : L.files[i]? = some x) : Calls Try.prog 59 #[.pointer (some ⟨s, 0, .none⟩), .int .i64 i] w fun e w' => e = .returned (.bool (okF L pf nf i x)) ∧ Below w.heap.size w w' := by
 obtain ⟨pp, pc, hpv⟩ := h.lk.fs.form
 have hin : i < L.files.length := (List.getElem?_eq_some_iff.1 hx).1
 obtain ⟨n, hn⟩ : ∃ n, n = L.files.length := ⟨_, rfl⟩
 rw [← hn] at hpv hin
 have hsl := h.lk.fs
 rw [hpv] at hsl
 obtain ⟨-, b, o, y, cs, hpe, hbX, hy, rfl, hcl, hr⟩ := hsl.at hin
 obtain rfl : x = y := by rw [hx] at hy; injection hy
 subst hpe
 have k1 := h.cell 2 _ rfl
 rw [hpv] at k1
 have i1 : (i : Int) < n := by omega
 have bn : n ≤ 1048576 := by have := h.rg.fl; omega
 have HX1 : Hid (∀ u ∈ x.l, u.oneCell' = true) := List.all_eq_true.1 (show x.l.all (fun u => u.oneCell') = true from rfl)
 have HSY : Hid (Sy w s m1 m2 L fr N pv fv iv qv rv lv nv gv pf nf) := h
 have HC1 : Hid (∀ V, Below w.heap.size w V → Calls Try.prog 73 #[.slice (some ⟨b, o, .none⟩) n pc, .int .i64 i, .func (.func 72) #[] #[], .int .i64 0, .int .i64 99] V fun e w' => e = .returned (.bool (numB (fun f : Fi => f.num) L.files i 0 99)) ∧ Below V.heap.size V w') := fun V hV => by
  have h2 := (h.keep hV).lk.fs
  rw [hpv] at h2
  exact isn89_any h2 (Nat.le_refl _) (by omega) i (by omega) _ _
 obtain ⟨nb, hnb⟩ : ∃ nb, nb = numB (fun f : Fi => f.num) L.files i 0 99 := ⟨_, rfl⟩
 rw [← hnb] at HC1
 have kk1 : ∀ V, Below w.heap.size w V → V.cell? ⟨s, 2, .none⟩ = some (.slice (some ⟨b, o, .none⟩) n pc) := fun V hV => (hV.cell (p := ⟨s, 2, .none⟩) h.sv.lt.1).trans k1
 have HRX := h.rg.f x (List.mem_of_getElem? hx)
 obtain ⟨num, hnum⟩ : ∃ num, num = x.num := ⟨_, rfl⟩
 obtain ⟨rf, hrf⟩ : ∃ rf, rf = x.refs := ⟨_, rfl⟩
 obtain ⟨c, hc⟩ : ∃ c, c = (nf (2, num)).getD 0 := ⟨_, rfl⟩
 obtain ⟨hb, hhb⟩ : ∃ hb, hb = bhB pf x := ⟨_, rfl⟩
 have HQ : Hid (okF L pf nf i x = (nb && (decide (1 ≤ rf) && ((rf == c) && hb)))) := by show _ = _; rw [hhb, hc, hrf, hnum, hnb]; rfl
 have HT1 : Hid (ThR (2, num)) := by rw [hnum]; exact ⟨lit64 2 (by omega), HRX.num⟩
 have HFR : Hid (FiR x) := HRX
 have HKK : Hid (∀ V, Below w.heap.size w V → V.cell? ⟨s, 2, .none⟩ = some (.slice (some ⟨b, o, .none⟩) n pc)) := kk1
 clear h hx hy hbX hcl hsl kk1 hpv hn
 go_enter Try.func59, Try.ntmps59
 go_upto_region 3 with (first
  | (refine wpList_is (.load 67 (.tmp 13)) rfl ?_; refine wpList_loadG 67 8 56 info94 _ Try.underlying67 rfl (x.l) rfl b (o + i * 8) (.tmp 13) rfl rfl rfl hr (some 14) rfl ?_; clear hr k1)
  | (refine wpList_is (.alloc 67) rfl ?_; refine wpList_laidG 67 8 56 info94 (x.l) rfl HX1.out 5 (.tmp 14) _ _ rfl rfl rfl rfl rfl rfl rfl rfl ?_; intro W1 hW1 hB1 hs1)
  | fail)
 obtain ⟨g, hg⟩ : ∃ g, g = w.heap.size := ⟨_, rfl⟩
 rw [← hg] at hW1
 try rw [← hg]
 have HFB : Hid (∀ V, Below W1.heap.size W1 V → Below w.heap.size w V) := fun V hV => hB1.trans (hV.mono (by omega))
 have HC2 : Hid (∀ V, Below W1.heap.size W1 V → Calls Try.prog 73 #[.slice (some ⟨b, o, .none⟩) n pc, .int .i64 i, .func (.func 72) #[] #[], .int .i64 0, .int .i64 99] V fun e w' => e = .returned (.bool nb) ∧ Below V.heap.size V w') := fun V hV => HC1.out V (HFB.out V hV)
 have HSV : Hid (∀ V, Below W1.heap.size W1 V → Sv V s m1 m2 (svL L pv fv iv qv rv lv fr.length nv gv m1 m2) pf nf) := fun V hV => (HSY.out.keep (HFB.out V hV)).sv
 have hgl : g < W1.heap.size := by omega
 have HK : Hid (∀ V, Below W1.heap.size W1 V → V.cell? ⟨s, 2, .none⟩ = some (.slice (some ⟨b, o, .none⟩) n pc) ∧ V.cell? ⟨s, 14, .none⟩ = some (.map (some m2)) ∧ V.cell? ⟨g, 0, .none⟩ = some (.int .i64 num) ∧ V.cell? ⟨g, 2, .none⟩ = some (.int .i64 rf) ∧ V.rangeAt g 0 x.l ∧ (Instr.lookup 77 (.map (some m2)) (.agg #[.int .i64 2, .int .i64 num]) false).run Try.prog V = .ok (.int .i64 c) V) := fun V hV => ⟨HKK.out V (HFB.out V hV), (HSV.out V hV).cell13.2, by rw [hnum]; exact cell_heap (o := 0) ((hV.block g hgl).trans hW1), by rw [hrf]; exact cell_heap (o := 2) ((hV.block g hgl).trans hW1), range_heap ((hV.block g hgl).trans hW1), by rw [hc]; exact ((HSV.out V hV).mn.look HT1.out).1⟩
 have HBd : Hid (Below W1.heap.size W1 W1.drew) := (Below.refl _ _).drew
 have hS : (fun V : World => V.cell? ⟨s, 2, .none⟩ = some (.slice (some ⟨b, o, .none⟩) n pc) ∧ V.cell? ⟨s, 14, .none⟩ = some (.map (some m2)) ∧ V.cell? ⟨g, 0, .none⟩ = some (.int .i64 num) ∧ V.cell? ⟨g, 2, .none⟩ = some (.int .i64 rf) ∧ V.rangeAt g 0 x.l ∧ (Instr.lookup 77 (.map (some m2)) (.agg #[.int .i64 2, .int .i64 num]) false).run Try.prog V = .ok (.int .i64 c) V) W1.drew := HK.out _ HBd.out
 refine region_good 31 (by kernel_rfl) ?_
 intro HG
 clear hW1 hB1 hs1 hg hgl HKK HC1 HRX HSY HX1 hnb hnum hrf hc HT1
 have HHB : Hid (hb = bhB pf x) := hhb
 clear hhb
 cases nb
 ·as_aux_lemma =>
   refine region_one (fun V => V.cell? ⟨s, 2, .none⟩ = some (.slice (some ⟨b, o, .none⟩) n pc) ∧ V.cell? ⟨s, 14, .none⟩ = some (.map (some m2)) ∧ V.cell? ⟨g, 0, .none⟩ = some (.int .i64 num) ∧ V.cell? ⟨g, 2, .none⟩ = some (.int .i64 rf) ∧ V.rangeAt g 0 x.l ∧ (Instr.lookup 77 (.map (some m2)) (.agg #[.int .i64 2, .int .i64 num]) false).run Try.prog V = .ok (.int .i64 c) V) 31 (by kernel_rfl) ?_
   change wpSet _ _ _ _ _ _ _ (pre (31 + 1) 0) _ _
   refine oT 0 15 (.pointer (some ⟨s, 0, .none⟩)) HG hS rfl ?_
   simp only [x0,x1,x2,x3]
   refine oT 1 16 (.pointer (some ⟨s, 0, .none⟩)) HG hS rfl ?_
   simp only [x0,x1,x2,x3]
   refine oT 2 17 (.pointer (some ⟨s, 0, .none⟩)) HG hS rfl ?_
   simp only [x0,x1,x2,x3]
   refine oT 3 18 (.pointer (some ⟨s, 2, .none⟩)) HG hS rfl ?_
   simp only [x0,x1,x2,x3]
   refine oT 4 19 (.slice (some ⟨b, o, .none⟩) n pc) HG hS rfl ?_ (fun ww hSw => by obtain ⟨q1, q2, q3, q4, q5, q6⟩ := hSw; go_simp)
   simp only [x0,x1,x2,x3]
   refine oT 5 20 (.int .i64 i) HG hS rfl ?_
   simp only [x0,x1,x2,x3]
   refine oT 6 21 (.func (.func 72) #[] #[]) HG hS rfl ?_
   simp only [x0,x1,x2,x3]
   refine one_only (k := 7) (by kernel_rfl) (by decide) rfl (by rfl) (fun K hK => ?_)
   go_simp
   go_at_call 73
   refine (HC2.out _ HBd.out).mono ?_
   rintro e V1 ⟨rfl, hv1⟩
   have HB1 : Hid (Below W1.heap.size W1 V1) := HBd.out.trans (hv1.mono HBd.out.size)
   have hS1 := HK.out _ HB1.out
   clear hS hv1
   refine hK.out _ _ (fun _ => hS1) ?_
   clear hK K
   try simp only [x0,x1,x2,x3,x4,x5,x6]
   refine oT 8 23 (.bool false) HG hS1 rfl ?_
   simp only [x0,x1,x2,x3]
   refine oS 9 24 HG hS1 rfl ?_
   simp only [x0,x1,x2,x3]
   refine oS 10 25 HG hS1 rfl ?_
   simp only [x0,x1,x2,x3]
   refine oS 11 26 HG hS1 rfl ?_
   simp only [x0,x1,x2,x3]
   refine oT 12 27 (.bool false) HG hS1 rfl ?_
   simp only [x0,x1,x2,x3]
   refine oT 13 28 (.bool false) HG hS1 rfl ?_
   simp only [x0,x1,x2,x3]
   refine oS 14 29 HG hS1 rfl ?_
   simp only [x0,x1,x2,x3]
   refine oS 15 30 HG hS1 rfl ?_
   simp only [x0,x1,x2,x3]
   refine oS 16 31 HG hS1 rfl ?_
   simp only [x0,x1,x2,x3]
   refine oS 17 32 HG hS1 rfl ?_
   simp only [x0,x1,x2,x3]
   refine oS 18 33 HG hS1 rfl ?_
   simp only [x0,x1,x2,x3]
   refine oS 19 34 HG hS1 rfl ?_
   simp only [x0,x1,x2,x3]
   refine oS 20 35 HG hS1 rfl ?_
   simp only [x0,x1,x2,x3]
   refine oS 21 36 HG hS1 rfl ?_
   simp only [x0,x1,x2,x3]
   refine oS 22 37 HG hS1 rfl ?_
   simp only [x0,x1,x2,x3]
   refine oS 23 38 HG hS1 rfl ?_
   simp only [x0,x1,x2,x3]
   refine oS 24 39 HG hS1 rfl ?_
   simp only [x0,x1,x2,x3]
   refine oT 25 40 (.bool false) HG hS1 rfl ?_
   simp only [x0,x1,x2,x3]
   refine oT 26 41 (.bool false) HG hS1 rfl ?_
   simp only [x0,x1,x2,x3]
   refine oS 27 42 HG hS1 rfl ?_
   simp only [x0,x1,x2,x3]
   refine oS 28 43 HG hS1 rfl ?_
   simp only [x0,x1,x2,x3]
   refine oS 29 44 HG hS1 rfl ?_
   simp only [x0,x1,x2,x3]
   refine oT 30 45 (.bool false) HG hS1 rfl ?_
   simp only [x0,x1,x2,x3]
   refine set_tail 1 31 _ _ _ _ (by kernel_rfl) (by decide) ?_
   simp only [List.toList_toArray, List.drop_succ_cons, List.drop_zero]
   clear hS1
   go_wp2
   go_ret
   exact ⟨by rw [HQ.out]; show Ending.returned (.bool false) = _; simp [], HFB.out _ HB1.out⟩
 by_cases g1 : 1 ≤ rf
 case neg => as_aux_lemma =>
  refine region_one (fun V => V.cell? ⟨s, 2, .none⟩ = some (.slice (some ⟨b, o, .none⟩) n pc) ∧ V.cell? ⟨s, 14, .none⟩ = some (.map (some m2)) ∧ V.cell? ⟨g, 0, .none⟩ = some (.int .i64 num) ∧ V.cell? ⟨g, 2, .none⟩ = some (.int .i64 rf) ∧ V.rangeAt g 0 x.l ∧ (Instr.lookup 77 (.map (some m2)) (.agg #[.int .i64 2, .int .i64 num]) false).run Try.prog V = .ok (.int .i64 c) V) 31 (by kernel_rfl) ?_
  change wpSet _ _ _ _ _ _ _ (pre (31 + 1) 0) _ _
  refine oT 0 15 (.pointer (some ⟨s, 0, .none⟩)) HG hS rfl ?_
  simp only [x0,x1,x2,x3]
  refine oT 1 16 (.pointer (some ⟨s, 0, .none⟩)) HG hS rfl ?_
  simp only [x0,x1,x2,x3]
  refine oT 2 17 (.pointer (some ⟨s, 0, .none⟩)) HG hS rfl ?_
  simp only [x0,x1,x2,x3]
  refine oT 3 18 (.pointer (some ⟨s, 2, .none⟩)) HG hS rfl ?_
  simp only [x0,x1,x2,x3]
  refine oT 4 19 (.slice (some ⟨b, o, .none⟩) n pc) HG hS rfl ?_ (fun ww hSw => by obtain ⟨q1, q2, q3, q4, q5, q6⟩ := hSw; go_simp)
  simp only [x0,x1,x2,x3]
  refine oT 5 20 (.int .i64 i) HG hS rfl ?_
  simp only [x0,x1,x2,x3]
  refine oT 6 21 (.func (.func 72) #[] #[]) HG hS rfl ?_
  simp only [x0,x1,x2,x3]
  refine one_only (k := 7) (by kernel_rfl) (by decide) rfl (by rfl) (fun K hK => ?_)
  go_simp
  go_at_call 73
  refine (HC2.out _ HBd.out).mono ?_
  rintro e V1 ⟨rfl, hv1⟩
  have HB1 : Hid (Below W1.heap.size W1 V1) := HBd.out.trans (hv1.mono HBd.out.size)
  have hS1 := HK.out _ HB1.out
  clear hS hv1
  refine hK.out _ _ (fun _ => hS1) ?_
  clear hK K
  try simp only [x0,x1,x2,x3,x4,x5,x6]
  refine oT 8 23 (.bool true) HG hS1 rfl ?_
  simp only [x0,x1,x2,x3]
  refine oT 9 24 (.pointer (some ⟨g, 2, .none⟩)) HG hS1 rfl ?_
  simp only [x0,x1,x2,x3]
  refine oT 10 25 (.int .i64 rf) HG hS1 rfl ?_ (fun ww hSw => by obtain ⟨q1, q2, q3, q4, q5, q6⟩ := hSw; go_simp)
  simp only [x0,x1,x2,x3]
  refine oT 11 26 (.bool false) HG hS1 rfl ?_
  simp only [x0,x1,x2,x3]
  refine oT 12 27 (.bool false) HG hS1 rfl ?_
  simp only [x0,x1,x2,x3]
  refine oT 13 28 (.bool false) HG hS1 rfl ?_
  simp only [x0,x1,x2,x3]
  refine oS 14 29 HG hS1 rfl ?_
  simp only [x0,x1,x2,x3]
  refine oS 15 30 HG hS1 rfl ?_
  simp only [x0,x1,x2,x3]
  refine oS 16 31 HG hS1 rfl ?_
  simp only [x0,x1,x2,x3]
  refine oS 17 32 HG hS1 rfl ?_
  simp only [x0,x1,x2,x3]
  refine oS 18 33 HG hS1 rfl ?_
  simp only [x0,x1,x2,x3]
  refine oS 19 34 HG hS1 rfl ?_
  simp only [x0,x1,x2,x3]
  refine oS 20 35 HG hS1 rfl ?_
  simp only [x0,x1,x2,x3]
  refine oS 21 36 HG hS1 rfl ?_
  simp only [x0,x1,x2,x3]
  refine oS 22 37 HG hS1 rfl ?_
  simp only [x0,x1,x2,x3]
  refine oS 23 38 HG hS1 rfl ?_
  simp only [x0,x1,x2,x3]
  refine oS 24 39 HG hS1 rfl ?_
  simp only [x0,x1,x2,x3]
  refine oT 25 40 (.bool false) HG hS1 rfl ?_
  simp only [x0,x1,x2,x3]
  refine oT 26 41 (.bool false) HG hS1 rfl ?_
  simp only [x0,x1,x2,x3]
  refine oS 27 42 HG hS1 rfl ?_
  simp only [x0,x1,x2,x3]
  refine oS 28 43 HG hS1 rfl ?_
  simp only [x0,x1,x2,x3]
  refine oS 29 44 HG hS1 rfl ?_
  simp only [x0,x1,x2,x3]
  refine oT 30 45 (.bool false) HG hS1 rfl ?_
  simp only [x0,x1,x2,x3]
  refine set_tail 1 31 _ _ _ _ (by kernel_rfl) (by decide) ?_
  simp only [List.toList_toArray, List.drop_succ_cons, List.drop_zero]
  clear hS1
  go_wp2
  go_ret
  exact ⟨by rw [HQ.out]; show Ending.returned (.bool false) = _; simp [show ¬ 1 ≤ rf by omega], HFB.out _ HB1.out⟩
 by_cases g2 : rf = c
 case neg => as_aux_lemma =>
  have e4 : (rf == c) = false := by simp [g2]
  clear g2
  refine region_one (fun V => V.cell? ⟨s, 2, .none⟩ = some (.slice (some ⟨b, o, .none⟩) n pc) ∧ V.cell? ⟨s, 14, .none⟩ = some (.map (some m2)) ∧ V.cell? ⟨g, 0, .none⟩ = some (.int .i64 num) ∧ V.cell? ⟨g, 2, .none⟩ = some (.int .i64 rf) ∧ V.rangeAt g 0 x.l ∧ (Instr.lookup 77 (.map (some m2)) (.agg #[.int .i64 2, .int .i64 num]) false).run Try.prog V = .ok (.int .i64 c) V) 31 (by kernel_rfl) ?_
  change wpSet _ _ _ _ _ _ _ (pre (31 + 1) 0) _ _
  refine oT 0 15 (.pointer (some ⟨s, 0, .none⟩)) HG hS rfl ?_
  simp only [x0,x1,x2,x3]
  refine oT 1 16 (.pointer (some ⟨s, 0, .none⟩)) HG hS rfl ?_
  simp only [x0,x1,x2,x3]
  refine oT 2 17 (.pointer (some ⟨s, 0, .none⟩)) HG hS rfl ?_
  simp only [x0,x1,x2,x3]
  refine oT 3 18 (.pointer (some ⟨s, 2, .none⟩)) HG hS rfl ?_
  simp only [x0,x1,x2,x3]
  refine oT 4 19 (.slice (some ⟨b, o, .none⟩) n pc) HG hS rfl ?_ (fun ww hSw => by obtain ⟨q1, q2, q3, q4, q5, q6⟩ := hSw; go_simp)
  simp only [x0,x1,x2,x3]
  refine oT 5 20 (.int .i64 i) HG hS rfl ?_
  simp only [x0,x1,x2,x3]
  refine oT 6 21 (.func (.func 72) #[] #[]) HG hS rfl ?_
  simp only [x0,x1,x2,x3]
  refine one_only (k := 7) (by kernel_rfl) (by decide) rfl (by rfl) (fun K hK => ?_)
  go_simp
  go_at_call 73
  refine (HC2.out _ HBd.out).mono ?_
  rintro e V1 ⟨rfl, hv1⟩
  have HB1 : Hid (Below W1.heap.size W1 V1) := HBd.out.trans (hv1.mono HBd.out.size)
  have hS1 := HK.out _ HB1.out
  clear hS hv1
  refine hK.out _ _ (fun _ => hS1) ?_
  clear hK K
  try simp only [x0,x1,x2,x3,x4,x5,x6]
  refine oT 8 23 (.bool true) HG hS1 rfl ?_
  simp only [x0,x1,x2,x3]
  refine oT 9 24 (.pointer (some ⟨g, 2, .none⟩)) HG hS1 rfl ?_
  simp only [x0,x1,x2,x3]
  refine oT 10 25 (.int .i64 rf) HG hS1 rfl ?_ (fun ww hSw => by obtain ⟨q1, q2, q3, q4, q5, q6⟩ := hSw; go_simp)
  simp only [x0,x1,x2,x3]
  refine oT 11 26 (.bool true) HG hS1 rfl ?_
  simp only [x0,x1,x2,x3]
  refine oT 12 27 (.bool true) HG hS1 rfl ?_
  simp only [x0,x1,x2,x3]
  refine oT 13 28 (.bool true) HG hS1 rfl ?_
  simp only [x0,x1,x2,x3]
  refine oT 14 29 (.pointer (some ⟨g, 2, .none⟩)) HG hS1 rfl ?_
  simp only [x0,x1,x2,x3]
  refine oT 15 30 (.int .i64 rf) HG hS1 rfl ?_ (fun ww hSw => by obtain ⟨q1, q2, q3, q4, q5, q6⟩ := hSw; go_simp)
  simp only [x0,x1,x2,x3]
  refine oT 16 31 (.pointer (some ⟨s, 0, .none⟩)) HG hS1 rfl ?_
  simp only [x0,x1,x2,x3]
  refine oT 17 32 (.pointer (some ⟨s, 0, .none⟩)) HG hS1 rfl ?_
  simp only [x0,x1,x2,x3]
  refine oT 18 33 (.pointer (some ⟨s, 14, .none⟩)) HG hS1 rfl ?_
  simp only [x0,x1,x2,x3]
  refine oT 19 34 (.map (some m2)) HG hS1 rfl ?_ (fun ww hSw => by obtain ⟨q1, q2, q3, q4, q5, q6⟩ := hSw; go_simp)
  simp only [x0,x1,x2,x3]
  refine oT 20 35 (.pointer (some ⟨g, 0, .none⟩)) HG hS1 rfl ?_
  simp only [x0,x1,x2,x3]
  refine oT 21 36 (.int .i64 num) HG hS1 rfl ?_ (fun ww hSw => by obtain ⟨q1, q2, q3, q4, q5, q6⟩ := hSw; go_simp)
  simp only [x0,x1,x2,x3]
  refine oT 22 37 (.agg #[.int .i64 2, .int .i64 num]) HG hS1 rfl ?_
  simp only [x0,x1,x2,x3]
  refine oT 23 38 (.int .i64 c) HG hS1 rfl ?_ (fun ww hSw => by obtain ⟨q1, q2, q3, q4, q5, q6⟩ := hSw; go_simp)
  simp only [x0,x1,x2,x3]
  refine oT 24 39 (.bool false) HG hS1 rfl ?_
  simp only [x0,x1,x2,x3]
  refine oT 25 40 (.bool false) HG hS1 rfl ?_
  simp only [x0,x1,x2,x3]
  refine oT 26 41 (.bool false) HG hS1 rfl ?_
  simp only [x0,x1,x2,x3]
  refine oS 27 42 HG hS1 rfl ?_
  simp only [x0,x1,x2,x3]
  refine oS 28 43 HG hS1 rfl ?_
  simp only [x0,x1,x2,x3]
  refine oS 29 44 HG hS1 rfl ?_
  simp only [x0,x1,x2,x3]
  refine oT 30 45 (.bool false) HG hS1 rfl ?_
  simp only [x0,x1,x2,x3]
  refine set_tail 1 31 _ _ _ _ (by kernel_rfl) (by decide) ?_
  simp only [List.toList_toArray, List.drop_succ_cons, List.drop_zero]
  clear hS1
  go_wp2
  go_ret
  exact ⟨by rw [HQ.out]; show Ending.returned (.bool false) = _; simp [show 1 ≤ rf by omega, e4], HFB.out _ HB1.out⟩
 have e4 : (rf == c) = true := by simp [g2]
 clear g2
 as_aux_lemma =>
  refine region_one (fun V => V.cell? ⟨s, 2, .none⟩ = some (.slice (some ⟨b, o, .none⟩) n pc) ∧ V.cell? ⟨s, 14, .none⟩ = some (.map (some m2)) ∧ V.cell? ⟨g, 0, .none⟩ = some (.int .i64 num) ∧ V.cell? ⟨g, 2, .none⟩ = some (.int .i64 rf) ∧ V.rangeAt g 0 x.l ∧ (Instr.lookup 77 (.map (some m2)) (.agg #[.int .i64 2, .int .i64 num]) false).run Try.prog V = .ok (.int .i64 c) V) 31 (by kernel_rfl) ?_
  change wpSet _ _ _ _ _ _ _ (pre (31 + 1) 0) _ _
  refine oT 0 15 (.pointer (some ⟨s, 0, .none⟩)) HG hS rfl ?_
  simp only [x0,x1,x2,x3]
  refine oT 1 16 (.pointer (some ⟨s, 0, .none⟩)) HG hS rfl ?_
  simp only [x0,x1,x2,x3]
  refine oT 2 17 (.pointer (some ⟨s, 0, .none⟩)) HG hS rfl ?_
  simp only [x0,x1,x2,x3]
  refine oT 3 18 (.pointer (some ⟨s, 2, .none⟩)) HG hS rfl ?_
  simp only [x0,x1,x2,x3]
  refine oT 4 19 (.slice (some ⟨b, o, .none⟩) n pc) HG hS rfl ?_ (fun ww hSw => by obtain ⟨q1, q2, q3, q4, q5, q6⟩ := hSw; go_simp)
  simp only [x0,x1,x2,x3]
  refine oT 5 20 (.int .i64 i) HG hS rfl ?_
  simp only [x0,x1,x2,x3]
  refine oT 6 21 (.func (.func 72) #[] #[]) HG hS rfl ?_
  simp only [x0,x1,x2,x3]
  refine one_only (k := 7) (by kernel_rfl) (by decide) rfl (by rfl) (fun K hK => ?_)
  go_simp
  go_at_call 73
  refine (HC2.out _ HBd.out).mono ?_
  rintro e V1 ⟨rfl, hv1⟩
  have HB1 : Hid (Below W1.heap.size W1 V1) := HBd.out.trans (hv1.mono HBd.out.size)
  have hS1 := HK.out _ HB1.out
  clear hS hv1
  refine hK.out _ _ (fun _ => hS1) ?_
  clear hK K
  try simp only [x0,x1,x2,x3,x4,x5,x6]
  refine oT 8 23 (.bool true) HG hS1 rfl ?_
  simp only [x0,x1,x2,x3]
  refine oT 9 24 (.pointer (some ⟨g, 2, .none⟩)) HG hS1 rfl ?_
  simp only [x0,x1,x2,x3]
  refine oT 10 25 (.int .i64 rf) HG hS1 rfl ?_ (fun ww hSw => by obtain ⟨q1, q2, q3, q4, q5, q6⟩ := hSw; go_simp)
  simp only [x0,x1,x2,x3]
  refine oT 11 26 (.bool true) HG hS1 rfl ?_
  simp only [x0,x1,x2,x3]
  refine oT 12 27 (.bool true) HG hS1 rfl ?_
  simp only [x0,x1,x2,x3]
  refine oT 13 28 (.bool true) HG hS1 rfl ?_
  simp only [x0,x1,x2,x3]
  refine oT 14 29 (.pointer (some ⟨g, 2, .none⟩)) HG hS1 rfl ?_
  simp only [x0,x1,x2,x3]
  refine oT 15 30 (.int .i64 rf) HG hS1 rfl ?_ (fun ww hSw => by obtain ⟨q1, q2, q3, q4, q5, q6⟩ := hSw; go_simp)
  simp only [x0,x1,x2,x3]
  refine oT 16 31 (.pointer (some ⟨s, 0, .none⟩)) HG hS1 rfl ?_
  simp only [x0,x1,x2,x3]
  refine oT 17 32 (.pointer (some ⟨s, 0, .none⟩)) HG hS1 rfl ?_
  simp only [x0,x1,x2,x3]
  refine oT 18 33 (.pointer (some ⟨s, 14, .none⟩)) HG hS1 rfl ?_
  simp only [x0,x1,x2,x3]
  refine oT 19 34 (.map (some m2)) HG hS1 rfl ?_ (fun ww hSw => by obtain ⟨q1, q2, q3, q4, q5, q6⟩ := hSw; go_simp)
  simp only [x0,x1,x2,x3]
  refine oT 20 35 (.pointer (some ⟨g, 0, .none⟩)) HG hS1 rfl ?_
  simp only [x0,x1,x2,x3]
  refine oT 21 36 (.int .i64 num) HG hS1 rfl ?_ (fun ww hSw => by obtain ⟨q1, q2, q3, q4, q5, q6⟩ := hSw; go_simp)
  simp only [x0,x1,x2,x3]
  refine oT 22 37 (.agg #[.int .i64 2, .int .i64 num]) HG hS1 rfl ?_
  simp only [x0,x1,x2,x3]
  refine oT 23 38 (.int .i64 c) HG hS1 rfl ?_ (fun ww hSw => by obtain ⟨q1, q2, q3, q4, q5, q6⟩ := hSw; go_simp)
  simp only [x0,x1,x2,x3]
  refine oT 24 39 (.bool true) HG hS1 rfl ?_
  simp only [x0,x1,x2,x3]
  refine oT 25 40 (.bool true) HG hS1 rfl ?_
  simp only [x0,x1,x2,x3]
  refine oT 26 41 (.bool true) HG hS1 rfl ?_
  simp only [x0,x1,x2,x3]
  refine oT 27 42 (.pointer (some ⟨s, 0, .none⟩)) HG hS1 rfl ?_
  simp only [x0,x1,x2,x3]
  refine one_take (k := 28) (v := .agg (x.l).toArray) HG.out (by decide) rfl rfl rfl (fun _ _ _ h => h) (yieldsIf_load_mid (by rfl) 67 (.tmp 5) rfl (g) (0) rfl (x.l) _ (fun ww hSw => hSw.2.2.2.2.1) Try.underlying67 rfl (by first | kernel_rfl | (rw [rfl]; kernel_rfl))) hS1 ?_
  simp only [x0,x1,x2,x3,x4,x5,x6]
  refine one_only (k := 29) (by kernel_rfl) (by decide) rfl (by rfl) (fun K hK => ?_)
  go_simp
  go_at_call 74
  refine (hasBehind_any (HSV.out _ HB1.out) x HFR.out).mono ?_
  rintro e V2 ⟨rfl, hv2⟩
  have HB2 : Hid (Below W1.heap.size W1 V2) := HB1.out.trans (hv2.mono HB1.out.size)
  have hS2 := HK.out _ HB2.out
  rw [← HHB.out]
  clear hS1 hv2
  refine hK.out _ _ (fun _ => hS2) ?_
  clear hK K
  try simp only [x0,x1,x2,x3,x4,x5,x6]
  refine oT 30 45 (.bool hb) HG hS2 rfl ?_
  simp only [x0,x1,x2,x3]
  refine set_tail 1 31 _ _ _ _ (by kernel_rfl) (by decide) ?_
  simp only [List.toList_toArray, List.drop_succ_cons, List.drop_zero]
  clear hS2
  go_wp2
  go_ret
  exact ⟨by rw [HQ.out]; show Ending.returned (.bool hb) = _; simp [show 1 ≤ rf by omega, e4], HFB.out _ HB2.out⟩
end Go.Proofs.Ythopgmmodldljab
