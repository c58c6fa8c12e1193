import Derived.Test.YthopgmmodldljabEla
namespace Go.Proofs.Ythopgmmodldljab
open Go Go.RowKit
set_option linter.unusedVariables false
set_option linter.unusedSimpArgs false
def okQ (L : Lk) (nf : Th → Option Int) (i : Nat) (x : Pp) : Bool := numB (fun f : Pp => f.num) L.pipes i 0 31 && ((x.rd == decide (0 < (nf (6, x.num)).getD 0)) && ((x.wr == decide (0 < (nf (7, x.num)).getD 0)) && (x.rd || x.wr)))
set_option maxRecDepth 100000 in
set_option maxHeartbeats 8000000 in
theorem is85_any {w : World} {s m1 m2 : Nat} {L : Lk} {fr : List Int} {N : Nat} {pv fv iv qv rv lv nv gv : Value} {pf nf : Th → Option Int} (h : Sy w s m1 m2 L fr N pv fv iv qv rv lv nv gv pf nf) (i : Nat) (x : Pp) (hx : L.pipes[i]? = some x) : Calls Try.prog 63 #[.pointer (some ⟨s, 0, .none⟩), .int .i64 i] w fun e w' => e = .returned (.bool (okQ L nf i x)) ∧ Below w.heap.size w w' := by
 obtain ⟨pp, pc, hpv⟩ := h.lk.qs.form
 have hin : i < L.pipes.length := (List.getElem?_eq_some_iff.1 hx).1
 obtain ⟨n, hn⟩ : ∃ n, n = L.pipes.length := ⟨_, rfl⟩
 rw [← hn] at hpv hin
 have hsl := h.lk.qs
 rw [hpv] at hsl
 obtain ⟨-, b, o, y, cs, hpe, hbX, hy, ⟨bv2, rfl, hN2⟩, hcl, hr⟩ := hsl.at hin
 obtain rfl : x = y := by rw [hx] at hy; injection hy
 subst hpe
 have k1 := h.cell 4 _ rfl
 rw [hpv] at k1
 have i1 : (i : Int) < n := by omega
 have bn : n ≤ 1048576 := by have := h.rg.ql; omega
 have HX1 : Hid (∀ u ∈ x.l bv2, u.oneCell' = true) := ppl_one x hN2.one
 have HSY : Hid (Sy w s m1 m2 L fr N pv fv iv qv rv lv nv gv pf nf) := h
 have HC1 : Hid (∀ V, Below w.heap.size w V → Calls Try.prog 78 #[.slice (some ⟨b, o, .none⟩) n pc, .int .i64 i, .func (.func 77) #[] #[], .int .i64 0, .int .i64 31] V fun e w' => e = .returned (.bool (numB (fun f : Pp => f.num) L.pipes i 0 31)) ∧ Below V.heap.size V w') := fun V hV => by
  have h2 := (h.keep hV).lk.qs
  rw [hpv] at h2
  exact isn94_any h2 (Nat.le_refl _) (by omega) i (by omega) _ _
 obtain ⟨nb, hnb⟩ : ∃ nb, nb = numB (fun f : Pp => f.num) L.pipes i 0 31 := ⟨_, rfl⟩
 rw [← hnb] at HC1
 have kk1 : ∀ V, Below w.heap.size w V → V.cell? ⟨s, 4, .none⟩ = some (.slice (some ⟨b, o, .none⟩) n pc) := fun V hV => (hV.cell (p := ⟨s, 4, .none⟩) h.sv.lt.1).trans k1
 have HRX := h.rg.q x (List.mem_of_getElem? hx)
 obtain ⟨num, hnum⟩ : ∃ num, num = x.num := ⟨_, rfl⟩
 obtain ⟨rd, hrd⟩ : ∃ rd, rd = x.rd := ⟨_, rfl⟩
 obtain ⟨wr, hwr⟩ : ∃ wr, wr = x.wr := ⟨_, rfl⟩
 obtain ⟨n6, hn6⟩ : ∃ q, q = decide (0 < (nf (6, num)).getD 0) := ⟨_, rfl⟩
 obtain ⟨n7, hn7⟩ : ∃ q, q = decide (0 < (nf (7, num)).getD 0) := ⟨_, rfl⟩
 have HQ : Hid (okQ L nf i x = (nb && ((rd == n6) && ((wr == n7) && (rd || wr))))) := by show _ = _; rw [hn7, hn6, hwr, hrd, hnum, hnb]; rfl
 have HT6 : Hid (ThR (6, num)) := by rw [hnum]; exact ⟨lit64 6 (by omega), HRX.num⟩
 have HT7 : Hid (ThR (7, num)) := by rw [hnum]; exact ⟨lit64 7 (by omega), HRX.num⟩
 have HN6 : Hid (n6 = decide (0 < (nf (6, num)).getD 0)) := hn6
 have HN7 : Hid (n7 = decide (0 < (nf (7, num)).getD 0)) := hn7
 have HKK : Hid (∀ V, Below w.heap.size w V → V.cell? ⟨s, 4, .none⟩ = some (.slice (some ⟨b, o, .none⟩) n pc)) := kk1
 clear h hx hy hbX hcl hsl kk1 hpv hn hN2
 go_enter Try.func63, Try.ntmps63
 go_upto_region 3 with (first
  | (refine wpList_is (.load 72 (.tmp 13)) rfl ?_; refine wpList_loadG 72 6 48 info98 _ Try.underlying72 rfl (x.l bv2) rfl b (o + i * 6) (.tmp 13) rfl rfl rfl hr (some 14) rfl ?_; clear hr k1)
  | (refine wpList_is (.alloc 72) rfl ?_; refine wpList_laidG 72 6 48 info98 (x.l bv2) rfl HX1.out 5 (.tmp 14) _ _ rfl rfl rfl rfl rfl rfl rfl rfl ?_; intro W1 hW1 hB1 hs1)
  | fail)
 obtain ⟨g, hg⟩ : ∃ g, g = w.heap.size := ⟨_, rfl⟩
 rw [← hg] at hW1
 try rw [← hg]
 have HFB : Hid (∀ V, Below W1.heap.size W1 V → Below w.heap.size w V) := fun V hV => hB1.trans (hV.mono (by omega))
 have HC2 : Hid (∀ V, Below W1.heap.size W1 V → Calls Try.prog 78 #[.slice (some ⟨b, o, .none⟩) n pc, .int .i64 i, .func (.func 77) #[] #[], .int .i64 0, .int .i64 31] V fun e w' => e = .returned (.bool nb) ∧ Below V.heap.size V w') := fun V hV => HC1.out V (HFB.out V hV)
 have HSV : Hid (∀ V, Below W1.heap.size W1 V → Sv V s m1 m2 (svL L pv fv iv qv rv lv fr.length nv gv m1 m2) pf nf) := fun V hV => (HSY.out.keep (HFB.out V hV)).sv
 have hgl : g < W1.heap.size := by omega
 have HK : Hid (∀ V, Below W1.heap.size W1 V → V.cell? ⟨s, 4, .none⟩ = some (.slice (some ⟨b, o, .none⟩) n pc) ∧ V.cell? ⟨g, 0, .none⟩ = some (.int .i64 num) ∧ V.cell? ⟨g, 4, .none⟩ = some (.bool rd) ∧ V.cell? ⟨g, 5, .none⟩ = some (.bool wr)) := fun V hV => ⟨HKK.out V (HFB.out V hV), by rw [hnum]; exact cell_heap (o := 0) ((hV.block g hgl).trans hW1), by rw [hrd]; exact cell_heap (o := 4) ((hV.block g hgl).trans hW1), by rw [hwr]; exact cell_heap (o := 5) ((hV.block g hgl).trans hW1)⟩
 have HBd : Hid (Below W1.heap.size W1 W1.drew) := (Below.refl _ _).drew
 have hS : (fun V : World => V.cell? ⟨s, 4, .none⟩ = some (.slice (some ⟨b, o, .none⟩) n pc) ∧ V.cell? ⟨g, 0, .none⟩ = some (.int .i64 num) ∧ V.cell? ⟨g, 4, .none⟩ = some (.bool rd) ∧ V.cell? ⟨g, 5, .none⟩ = some (.bool wr)) W1.drew := HK.out _ HBd.out
 refine region_good 40 (by kernel_rfl) ?_
 intro HG
 clear hW1 hB1 hs1 hg hgl HKK HC1 HRX HSY HX1 hnb hnum hrd hwr hn6 hn7
 cases nb
 ·as_aux_lemma =>
   refine region_one (fun V => V.cell? ⟨s, 4, .none⟩ = some (.slice (some ⟨b, o, .none⟩) n pc) ∧ V.cell? ⟨g, 0, .none⟩ = some (.int .i64 num) ∧ V.cell? ⟨g, 4, .none⟩ = some (.bool rd) ∧ V.cell? ⟨g, 5, .none⟩ = some (.bool wr)) 40 (by kernel_rfl) ?_
   change wpSet _ _ _ _ _ _ _ (pre (40 + 1) 0) _ _
   refine oT 0 15 (.pointer (some ⟨s, 0, .none⟩)) HG hS rfl ?_
   simp only [x0,x1,x2,x3]
   refine oT 1 16 (.pointer (some ⟨s, 0, .none⟩)) HG hS rfl ?_
   simp only [x0,x1,x2,x3]
   refine oT 2 17 (.pointer (some ⟨s, 0, .none⟩)) HG hS rfl ?_
   simp only [x0,x1,x2,x3]
   refine oT 3 18 (.pointer (some ⟨s, 4, .none⟩)) HG hS rfl ?_
   simp only [x0,x1,x2,x3]
   refine oT 4 19 (.slice (some ⟨b, o, .none⟩) n pc) HG hS rfl ?_ (fun ww hSw => by obtain ⟨q1, q2, q3, q4⟩ := hSw; go_simp)
   simp only [x0,x1,x2,x3]
   refine oT 5 20 (.int .i64 i) HG hS rfl ?_
   simp only [x0,x1,x2,x3]
   refine oT 6 21 (.func (.func 77) #[] #[]) HG hS rfl ?_
   simp only [x0,x1,x2,x3]
   refine one_only (k := 7) (by kernel_rfl) (by decide) rfl (by rfl) (fun K hK => ?_)
   go_simp
   go_at_call 78
   refine (HC2.out _ HBd.out).mono ?_
   rintro e V1 ⟨rfl, hv1⟩
   have HB1 : Hid (Below W1.heap.size W1 V1) := HBd.out.trans (hv1.mono HBd.out.size)
   have hS1 := HK.out _ HB1.out
   clear hS hv1
   refine hK.out _ _ (fun _ => hS1) ?_
   clear hK K
   try simp only [x0,x1,x2,x3,x4,x5,x6]
   refine oT 8 23 (.bool false) HG hS1 rfl ?_
   simp only [x0,x1,x2,x3]
   refine oS 9 24 HG hS1 rfl ?_
   simp only [x0,x1,x2,x3]
   refine oS 10 25 HG hS1 rfl ?_
   simp only [x0,x1,x2,x3]
   refine oS 11 26 HG hS1 rfl ?_
   simp only [x0,x1,x2,x3]
   refine oS 12 27 HG hS1 rfl ?_
   simp only [x0,x1,x2,x3]
   refine oS 13 28 HG hS1 rfl ?_
   simp only [x0,x1,x2,x3]
   refine oS 14 29 HG hS1 rfl ?_
   simp only [x0,x1,x2,x3]
   refine oS 15 30 HG hS1 rfl ?_
   simp only [x0,x1,x2,x3]
   refine oS 16 31 HG hS1 rfl ?_
   simp only [x0,x1,x2,x3]
   refine oS 17 32 HG hS1 rfl ?_
   simp only [x0,x1,x2,x3]
   refine oT 18 33 (.bool false) HG hS1 rfl ?_
   simp only [x0,x1,x2,x3]
   refine oT 19 34 (.bool false) HG hS1 rfl ?_
   simp only [x0,x1,x2,x3]
   refine oS 20 35 HG hS1 rfl ?_
   simp only [x0,x1,x2,x3]
   refine oS 21 36 HG hS1 rfl ?_
   simp only [x0,x1,x2,x3]
   refine oS 22 37 HG hS1 rfl ?_
   simp only [x0,x1,x2,x3]
   refine oS 23 38 HG hS1 rfl ?_
   simp only [x0,x1,x2,x3]
   refine oS 24 39 HG hS1 rfl ?_
   simp only [x0,x1,x2,x3]
   refine oS 25 40 HG hS1 rfl ?_
   simp only [x0,x1,x2,x3]
   refine oS 26 41 HG hS1 rfl ?_
   simp only [x0,x1,x2,x3]
   refine oS 27 42 HG hS1 rfl ?_
   simp only [x0,x1,x2,x3]
   refine oS 28 43 HG hS1 rfl ?_
   simp only [x0,x1,x2,x3]
   refine oT 29 44 (.bool false) HG hS1 rfl ?_
   simp only [x0,x1,x2,x3]
   refine oT 30 45 (.bool false) HG hS1 rfl ?_
   simp only [x0,x1,x2,x3]
   refine oS 31 46 HG hS1 rfl ?_
   simp only [x0,x1,x2,x3]
   refine oS 32 47 HG hS1 rfl ?_
   simp only [x0,x1,x2,x3]
   refine oS 33 48 HG hS1 rfl ?_
   simp only [x0,x1,x2,x3]
   refine oS 34 49 HG hS1 rfl ?_
   simp only [x0,x1,x2,x3]
   refine oS 35 50 HG hS1 rfl ?_
   simp only [x0,x1,x2,x3]
   refine oS 36 51 HG hS1 rfl ?_
   simp only [x0,x1,x2,x3]
   refine oS 37 52 HG hS1 rfl ?_
   simp only [x0,x1,x2,x3]
   refine oS 38 53 HG hS1 rfl ?_
   simp only [x0,x1,x2,x3]
   refine oT 39 54 (.bool false) HG hS1 rfl ?_
   simp only [x0,x1,x2,x3]
   refine set_tail 1 40 _ _ _ _ (by kernel_rfl) (by decide) ?_
   simp only [List.toList_toArray, List.drop_succ_cons, List.drop_zero]
   clear hS1
   go_wp2
   go_ret
   exact ⟨by rw [HQ.out]; show Ending.returned (.bool false) = _; simp [], HFB.out _ HB1.out⟩
 by_cases g1 : n6 = rd
 case neg => as_aux_lemma =>
  have e1 : (rd == n6) = false := by cases rd <;> cases n6 <;> simp_all
  clear g1
  refine region_one (fun V => V.cell? ⟨s, 4, .none⟩ = some (.slice (some ⟨b, o, .none⟩) n pc) ∧ V.cell? ⟨g, 0, .none⟩ = some (.int .i64 num) ∧ V.cell? ⟨g, 4, .none⟩ = some (.bool rd) ∧ V.cell? ⟨g, 5, .none⟩ = some (.bool wr)) 40 (by kernel_rfl) ?_
  change wpSet _ _ _ _ _ _ _ (pre (40 + 1) 0) _ _
  refine oT 0 15 (.pointer (some ⟨s, 0, .none⟩)) HG hS rfl ?_
  simp only [x0,x1,x2,x3]
  refine oT 1 16 (.pointer (some ⟨s, 0, .none⟩)) HG hS rfl ?_
  simp only [x0,x1,x2,x3]
  refine oT 2 17 (.pointer (some ⟨s, 0, .none⟩)) HG hS rfl ?_
  simp only [x0,x1,x2,x3]
  refine oT 3 18 (.pointer (some ⟨s, 4, .none⟩)) HG hS rfl ?_
  simp only [x0,x1,x2,x3]
  refine oT 4 19 (.slice (some ⟨b, o, .none⟩) n pc) HG hS rfl ?_ (fun ww hSw => by obtain ⟨q1, q2, q3, q4⟩ := hSw; go_simp)
  simp only [x0,x1,x2,x3]
  refine oT 5 20 (.int .i64 i) HG hS rfl ?_
  simp only [x0,x1,x2,x3]
  refine oT 6 21 (.func (.func 77) #[] #[]) HG hS rfl ?_
  simp only [x0,x1,x2,x3]
  refine one_only (k := 7) (by kernel_rfl) (by decide) rfl (by rfl) (fun K hK => ?_)
  go_simp
  go_at_call 78
  refine (HC2.out _ HBd.out).mono ?_
  rintro e V1 ⟨rfl, hv1⟩
  have HB1 : Hid (Below W1.heap.size W1 V1) := HBd.out.trans (hv1.mono HBd.out.size)
  have hS1 := HK.out _ HB1.out
  clear hS hv1
  refine hK.out _ _ (fun _ => hS1) ?_
  clear hK K
  try simp only [x0,x1,x2,x3,x4,x5,x6]
  refine oT 8 23 (.bool true) HG hS1 rfl ?_
  simp only [x0,x1,x2,x3]
  refine oT 9 24 (.pointer (some ⟨g, 1, .none⟩)) HG hS1 rfl ?_
  simp only [x0,x1,x2,x3]
  refine oT 10 25 (.pointer (some ⟨g, 4, .none⟩)) HG hS1 rfl ?_
  simp only [x0,x1,x2,x3]
  refine oT 11 26 (.bool rd) HG hS1 rfl ?_ (fun ww hSw => by obtain ⟨q1, q2, q3, q4⟩ := hSw; go_simp)
  simp only [x0,x1,x2,x3]
  refine oT 12 27 (.pointer (some ⟨s, 0, .none⟩)) HG hS1 rfl ?_
  simp only [x0,x1,x2,x3]
  refine oT 13 28 (.pointer (some ⟨g, 0, .none⟩)) HG hS1 rfl ?_
  simp only [x0,x1,x2,x3]
  refine oT 14 29 (.int .i64 num) HG hS1 rfl ?_ (fun ww hSw => by obtain ⟨q1, q2, q3, q4⟩ := hSw; go_simp)
  simp only [x0,x1,x2,x3]
  refine oT 15 30 (.agg #[.int .i64 6, .int .i64 num]) HG hS1 rfl ?_
  simp only [x0,x1,x2,x3]
  refine one_only (k := 16) (by kernel_rfl) (by decide) rfl (by rfl) (fun K hK => ?_)
  go_simp
  go_at_call 79
  refine (isNamed_any (HSV.out _ HB1.out) HT6.out).mono ?_
  rintro e V2 ⟨rfl, hv2⟩
  have HB2 : Hid (Below W1.heap.size W1 V2) := HB1.out.trans (hv2.mono HB1.out.size)
  have hS2 := HK.out _ HB2.out
  rw [← HN6.out]
  clear hS1 hv2
  refine hK.out _ _ (fun _ => hS2) ?_
  clear hK K
  try simp only [x0,x1,x2,x3,x4,x5,x6]
  refine oT 17 32 (.bool false) HG hS2 rfl ?_
  simp only [x0,x1,x2,x3]
  refine oT 18 33 (.bool false) HG hS2 rfl ?_
  simp only [x0,x1,x2,x3]
  refine oT 19 34 (.bool false) HG hS2 rfl ?_
  simp only [x0,x1,x2,x3]
  refine oS 20 35 HG hS2 rfl ?_
  simp only [x0,x1,x2,x3]
  refine oS 21 36 HG hS2 rfl ?_
  simp only [x0,x1,x2,x3]
  refine oS 22 37 HG hS2 rfl ?_
  simp only [x0,x1,x2,x3]
  refine oS 23 38 HG hS2 rfl ?_
  simp only [x0,x1,x2,x3]
  refine oS 24 39 HG hS2 rfl ?_
  simp only [x0,x1,x2,x3]
  refine oS 25 40 HG hS2 rfl ?_
  simp only [x0,x1,x2,x3]
  refine oS 26 41 HG hS2 rfl ?_
  simp only [x0,x1,x2,x3]
  refine oS 27 42 HG hS2 rfl ?_
  simp only [x0,x1,x2,x3]
  refine oS 28 43 HG hS2 rfl ?_
  simp only [x0,x1,x2,x3]
  refine oT 29 44 (.bool false) HG hS2 rfl ?_
  simp only [x0,x1,x2,x3]
  refine oT 30 45 (.bool false) HG hS2 rfl ?_
  simp only [x0,x1,x2,x3]
  refine oS 31 46 HG hS2 rfl ?_
  simp only [x0,x1,x2,x3]
  refine oS 32 47 HG hS2 rfl ?_
  simp only [x0,x1,x2,x3]
  refine oS 33 48 HG hS2 rfl ?_
  simp only [x0,x1,x2,x3]
  refine oS 34 49 HG hS2 rfl ?_
  simp only [x0,x1,x2,x3]
  refine oS 35 50 HG hS2 rfl ?_
  simp only [x0,x1,x2,x3]
  refine oS 36 51 HG hS2 rfl ?_
  simp only [x0,x1,x2,x3]
  refine oS 37 52 HG hS2 rfl ?_
  simp only [x0,x1,x2,x3]
  refine oS 38 53 HG hS2 rfl ?_
  simp only [x0,x1,x2,x3]
  refine oT 39 54 (.bool false) HG hS2 rfl ?_
  simp only [x0,x1,x2,x3]
  refine set_tail 1 40 _ _ _ _ (by kernel_rfl) (by decide) ?_
  simp only [List.toList_toArray, List.drop_succ_cons, List.drop_zero]
  clear hS2
  go_wp2
  go_ret
  exact ⟨by rw [HQ.out]; show Ending.returned (.bool false) = _; simp [e1], HFB.out _ HB2.out⟩
 subst g1
 by_cases g2 : n7 = wr
 case neg => as_aux_lemma =>
  have e2 : (wr == n7) = false := by cases wr <;> cases n7 <;> simp_all
  clear g2
  refine region_one (fun V => V.cell? ⟨s, 4, .none⟩ = some (.slice (some ⟨b, o, .none⟩) n pc) ∧ V.cell? ⟨g, 0, .none⟩ = some (.int .i64 num) ∧ V.cell? ⟨g, 4, .none⟩ = some (.bool n6) ∧ V.cell? ⟨g, 5, .none⟩ = some (.bool wr)) 40 (by kernel_rfl) ?_
  change wpSet _ _ _ _ _ _ _ (pre (40 + 1) 0) _ _
  refine oT 0 15 (.pointer (some ⟨s, 0, .none⟩)) HG hS rfl ?_
  simp only [x0,x1,x2,x3]
  refine oT 1 16 (.pointer (some ⟨s, 0, .none⟩)) HG hS rfl ?_
  simp only [x0,x1,x2,x3]
  refine oT 2 17 (.pointer (some ⟨s, 0, .none⟩)) HG hS rfl ?_
  simp only [x0,x1,x2,x3]
  refine oT 3 18 (.pointer (some ⟨s, 4, .none⟩)) HG hS rfl ?_
  simp only [x0,x1,x2,x3]
  refine oT 4 19 (.slice (some ⟨b, o, .none⟩) n pc) HG hS rfl ?_ (fun ww hSw => by obtain ⟨q1, q2, q3, q4⟩ := hSw; go_simp)
  simp only [x0,x1,x2,x3]
  refine oT 5 20 (.int .i64 i) HG hS rfl ?_
  simp only [x0,x1,x2,x3]
  refine oT 6 21 (.func (.func 77) #[] #[]) HG hS rfl ?_
  simp only [x0,x1,x2,x3]
  refine one_only (k := 7) (by kernel_rfl) (by decide) rfl (by rfl) (fun K hK => ?_)
  go_simp
  go_at_call 78
  refine (HC2.out _ HBd.out).mono ?_
  rintro e V1 ⟨rfl, hv1⟩
  have HB1 : Hid (Below W1.heap.size W1 V1) := HBd.out.trans (hv1.mono HBd.out.size)
  have hS1 := HK.out _ HB1.out
  clear hS hv1
  refine hK.out _ _ (fun _ => hS1) ?_
  clear hK K
  try simp only [x0,x1,x2,x3,x4,x5,x6]
  refine oT 8 23 (.bool true) HG hS1 rfl ?_
  simp only [x0,x1,x2,x3]
  refine oT 9 24 (.pointer (some ⟨g, 1, .none⟩)) HG hS1 rfl ?_
  simp only [x0,x1,x2,x3]
  refine oT 10 25 (.pointer (some ⟨g, 4, .none⟩)) HG hS1 rfl ?_
  simp only [x0,x1,x2,x3]
  refine oT 11 26 (.bool n6) HG hS1 rfl ?_ (fun ww hSw => by obtain ⟨q1, q2, q3, q4⟩ := hSw; go_simp)
  simp only [x0,x1,x2,x3]
  refine oT 12 27 (.pointer (some ⟨s, 0, .none⟩)) HG hS1 rfl ?_
  simp only [x0,x1,x2,x3]
  refine oT 13 28 (.pointer (some ⟨g, 0, .none⟩)) HG hS1 rfl ?_
  simp only [x0,x1,x2,x3]
  refine oT 14 29 (.int .i64 num) HG hS1 rfl ?_ (fun ww hSw => by obtain ⟨q1, q2, q3, q4⟩ := hSw; go_simp)
  simp only [x0,x1,x2,x3]
  refine oT 15 30 (.agg #[.int .i64 6, .int .i64 num]) HG hS1 rfl ?_
  simp only [x0,x1,x2,x3]
  refine one_only (k := 16) (by kernel_rfl) (by decide) rfl (by rfl) (fun K hK => ?_)
  go_simp
  go_at_call 79
  refine (isNamed_any (HSV.out _ HB1.out) HT6.out).mono ?_
  rintro e V2 ⟨rfl, hv2⟩
  have HB2 : Hid (Below W1.heap.size W1 V2) := HB1.out.trans (hv2.mono HB1.out.size)
  have hS2 := HK.out _ HB2.out
  rw [← HN6.out]
  clear hS1 hv2
  refine hK.out _ _ (fun _ => hS2) ?_
  clear hK K
  try simp only [x0,x1,x2,x3,x4,x5,x6]
  refine oT 17 32 (.bool true) HG hS2 rfl ?_
  simp only [x0,x1,x2,x3]
  refine oT 18 33 (.bool true) HG hS2 rfl ?_
  simp only [x0,x1,x2,x3]
  refine oT 19 34 (.bool true) HG hS2 rfl ?_
  simp only [x0,x1,x2,x3]
  refine oT 20 35 (.pointer (some ⟨g, 1, .none⟩)) HG hS2 rfl ?_
  simp only [x0,x1,x2,x3]
  refine oT 21 36 (.pointer (some ⟨g, 5, .none⟩)) HG hS2 rfl ?_
  simp only [x0,x1,x2,x3]
  refine oT 22 37 (.bool wr) HG hS2 rfl ?_ (fun ww hSw => by obtain ⟨q1, q2, q3, q4⟩ := hSw; go_simp)
  simp only [x0,x1,x2,x3]
  refine oT 23 38 (.pointer (some ⟨s, 0, .none⟩)) HG hS2 rfl ?_
  simp only [x0,x1,x2,x3]
  refine oT 24 39 (.pointer (some ⟨g, 0, .none⟩)) HG hS2 rfl ?_
  simp only [x0,x1,x2,x3]
  refine oT 25 40 (.int .i64 num) HG hS2 rfl ?_ (fun ww hSw => by obtain ⟨q1, q2, q3, q4⟩ := hSw; go_simp)
  simp only [x0,x1,x2,x3]
  refine oT 26 41 (.agg #[.int .i64 7, .int .i64 num]) HG hS2 rfl ?_
  simp only [x0,x1,x2,x3]
  refine one_only (k := 27) (by kernel_rfl) (by decide) rfl (by rfl) (fun K hK => ?_)
  go_simp
  go_at_call 79
  refine (isNamed_any (HSV.out _ HB2.out) HT7.out).mono ?_
  rintro e V3 ⟨rfl, hv3⟩
  have HB3 : Hid (Below W1.heap.size W1 V3) := HB2.out.trans (hv3.mono HB2.out.size)
  have hS3 := HK.out _ HB3.out
  rw [← HN7.out]
  clear hS2 hv3
  refine hK.out _ _ (fun _ => hS3) ?_
  clear hK K
  try simp only [x0,x1,x2,x3,x4,x5,x6]
  refine oT 28 43 (.bool false) HG hS3 rfl ?_
  simp only [x0,x1,x2,x3]
  refine oT 29 44 (.bool false) HG hS3 rfl ?_
  simp only [x0,x1,x2,x3]
  refine oT 30 45 (.bool false) HG hS3 rfl ?_
  simp only [x0,x1,x2,x3]
  refine oS 31 46 HG hS3 rfl ?_
  simp only [x0,x1,x2,x3]
  refine oS 32 47 HG hS3 rfl ?_
  simp only [x0,x1,x2,x3]
  refine oS 33 48 HG hS3 rfl ?_
  simp only [x0,x1,x2,x3]
  refine oS 34 49 HG hS3 rfl ?_
  simp only [x0,x1,x2,x3]
  refine oS 35 50 HG hS3 rfl ?_
  simp only [x0,x1,x2,x3]
  refine oS 36 51 HG hS3 rfl ?_
  simp only [x0,x1,x2,x3]
  refine oS 37 52 HG hS3 rfl ?_
  simp only [x0,x1,x2,x3]
  refine oS 38 53 HG hS3 rfl ?_
  simp only [x0,x1,x2,x3]
  refine oT 39 54 (.bool false) HG hS3 rfl ?_
  simp only [x0,x1,x2,x3]
  refine set_tail 1 40 _ _ _ _ (by kernel_rfl) (by decide) ?_
  simp only [List.toList_toArray, List.drop_succ_cons, List.drop_zero]
  clear hS3
  go_wp2
  go_ret
  exact ⟨by rw [HQ.out]; show Ending.returned (.bool false) = _; simp [e2], HFB.out _ HB3.out⟩
 subst g2
 cases n6
 ·as_aux_lemma =>
   refine region_one (fun V => V.cell? ⟨s, 4, .none⟩ = some (.slice (some ⟨b, o, .none⟩) n pc) ∧ V.cell? ⟨g, 0, .none⟩ = some (.int .i64 num) ∧ V.cell? ⟨g, 4, .none⟩ = some (.bool false) ∧ V.cell? ⟨g, 5, .none⟩ = some (.bool n7)) 40 (by kernel_rfl) ?_
   change wpSet _ _ _ _ _ _ _ (pre (40 + 1) 0) _ _
   refine oT 0 15 (.pointer (some ⟨s, 0, .none⟩)) HG hS rfl ?_
   simp only [x0,x1,x2,x3]
   refine oT 1 16 (.pointer (some ⟨s, 0, .none⟩)) HG hS rfl ?_
   simp only [x0,x1,x2,x3]
   refine oT 2 17 (.pointer (some ⟨s, 0, .none⟩)) HG hS rfl ?_
   simp only [x0,x1,x2,x3]
   refine oT 3 18 (.pointer (some ⟨s, 4, .none⟩)) HG hS rfl ?_
   simp only [x0,x1,x2,x3]
   refine oT 4 19 (.slice (some ⟨b, o, .none⟩) n pc) HG hS rfl ?_ (fun ww hSw => by obtain ⟨q1, q2, q3, q4⟩ := hSw; go_simp)
   simp only [x0,x1,x2,x3]
   refine oT 5 20 (.int .i64 i) HG hS rfl ?_
   simp only [x0,x1,x2,x3]
   refine oT 6 21 (.func (.func 77) #[] #[]) HG hS rfl ?_
   simp only [x0,x1,x2,x3]
   refine one_only (k := 7) (by kernel_rfl) (by decide) rfl (by rfl) (fun K hK => ?_)
   go_simp
   go_at_call 78
   refine (HC2.out _ HBd.out).mono ?_
   rintro e V1 ⟨rfl, hv1⟩
   have HB1 : Hid (Below W1.heap.size W1 V1) := HBd.out.trans (hv1.mono HBd.out.size)
   have hS1 := HK.out _ HB1.out
   clear hS hv1
   refine hK.out _ _ (fun _ => hS1) ?_
   clear hK K
   try simp only [x0,x1,x2,x3,x4,x5,x6]
   refine oT 8 23 (.bool true) HG hS1 rfl ?_
   simp only [x0,x1,x2,x3]
   refine oT 9 24 (.pointer (some ⟨g, 1, .none⟩)) HG hS1 rfl ?_
   simp only [x0,x1,x2,x3]
   refine oT 10 25 (.pointer (some ⟨g, 4, .none⟩)) HG hS1 rfl ?_
   simp only [x0,x1,x2,x3]
   refine oT 11 26 (.bool false) HG hS1 rfl ?_ (fun ww hSw => by obtain ⟨q1, q2, q3, q4⟩ := hSw; go_simp)
   simp only [x0,x1,x2,x3]
   refine oT 12 27 (.pointer (some ⟨s, 0, .none⟩)) HG hS1 rfl ?_
   simp only [x0,x1,x2,x3]
   refine oT 13 28 (.pointer (some ⟨g, 0, .none⟩)) HG hS1 rfl ?_
   simp only [x0,x1,x2,x3]
   refine oT 14 29 (.int .i64 num) HG hS1 rfl ?_ (fun ww hSw => by obtain ⟨q1, q2, q3, q4⟩ := hSw; go_simp)
   simp only [x0,x1,x2,x3]
   refine oT 15 30 (.agg #[.int .i64 6, .int .i64 num]) HG hS1 rfl ?_
   simp only [x0,x1,x2,x3]
   refine one_only (k := 16) (by kernel_rfl) (by decide) rfl (by rfl) (fun K hK => ?_)
   go_simp
   go_at_call 79
   refine (isNamed_any (HSV.out _ HB1.out) HT6.out).mono ?_
   rintro e V2 ⟨rfl, hv2⟩
   have HB2 : Hid (Below W1.heap.size W1 V2) := HB1.out.trans (hv2.mono HB1.out.size)
   have hS2 := HK.out _ HB2.out
   rw [← HN6.out]
   clear hS1 hv2
   refine hK.out _ _ (fun _ => hS2) ?_
   clear hK K
   try simp only [x0,x1,x2,x3,x4,x5,x6]
   refine oT 17 32 (.bool true) HG hS2 rfl ?_
   simp only [x0,x1,x2,x3]
   refine oT 18 33 (.bool true) HG hS2 rfl ?_
   simp only [x0,x1,x2,x3]
   refine oT 19 34 (.bool true) HG hS2 rfl ?_
   simp only [x0,x1,x2,x3]
   refine oT 20 35 (.pointer (some ⟨g, 1, .none⟩)) HG hS2 rfl ?_
   simp only [x0,x1,x2,x3]
   refine oT 21 36 (.pointer (some ⟨g, 5, .none⟩)) HG hS2 rfl ?_
   simp only [x0,x1,x2,x3]
   refine oT 22 37 (.bool n7) HG hS2 rfl ?_ (fun ww hSw => by obtain ⟨q1, q2, q3, q4⟩ := hSw; go_simp)
   simp only [x0,x1,x2,x3]
   refine oT 23 38 (.pointer (some ⟨s, 0, .none⟩)) HG hS2 rfl ?_
   simp only [x0,x1,x2,x3]
   refine oT 24 39 (.pointer (some ⟨g, 0, .none⟩)) HG hS2 rfl ?_
   simp only [x0,x1,x2,x3]
   refine oT 25 40 (.int .i64 num) HG hS2 rfl ?_ (fun ww hSw => by obtain ⟨q1, q2, q3, q4⟩ := hSw; go_simp)
   simp only [x0,x1,x2,x3]
   refine oT 26 41 (.agg #[.int .i64 7, .int .i64 num]) HG hS2 rfl ?_
   simp only [x0,x1,x2,x3]
   refine one_only (k := 27) (by kernel_rfl) (by decide) rfl (by rfl) (fun K hK => ?_)
   go_simp
   go_at_call 79
   refine (isNamed_any (HSV.out _ HB2.out) HT7.out).mono ?_
   rintro e V3 ⟨rfl, hv3⟩
   have HB3 : Hid (Below W1.heap.size W1 V3) := HB2.out.trans (hv3.mono HB2.out.size)
   have hS3 := HK.out _ HB3.out
   rw [← HN7.out]
   clear hS2 hv3
   refine hK.out _ _ (fun _ => hS3) ?_
   clear hK K
   try simp only [x0,x1,x2,x3,x4,x5,x6]
   refine oT 28 43 (.bool true) HG hS3 rfl ?_
   simp only [x0,x1,x2,x3]
   refine oT 29 44 (.bool true) HG hS3 rfl ?_
   simp only [x0,x1,x2,x3]
   refine oT 30 45 (.bool true) HG hS3 rfl ?_
   simp only [x0,x1,x2,x3]
   refine oT 31 46 (.pointer (some ⟨g, 1, .none⟩)) HG hS3 rfl ?_
   simp only [x0,x1,x2,x3]
   refine oT 32 47 (.pointer (some ⟨g, 4, .none⟩)) HG hS3 rfl ?_
   simp only [x0,x1,x2,x3]
   refine oT 33 48 (.bool false) HG hS3 rfl ?_ (fun ww hSw => by obtain ⟨q1, q2, q3, q4⟩ := hSw; go_simp)
   simp only [x0,x1,x2,x3]
   refine oT 34 49 (.bool false) HG hS3 rfl ?_
   simp only [x0,x1,x2,x3]
   refine oT 35 50 (.pointer (some ⟨g, 1, .none⟩)) HG hS3 rfl ?_
   simp only [x0,x1,x2,x3]
   refine oT 36 51 (.pointer (some ⟨g, 5, .none⟩)) HG hS3 rfl ?_
   simp only [x0,x1,x2,x3]
   refine oT 37 52 (.bool n7) HG hS3 rfl ?_ (fun ww hSw => by obtain ⟨q1, q2, q3, q4⟩ := hSw; go_simp)
   simp only [x0,x1,x2,x3]
   refine oT 38 53 (.bool n7) HG hS3 rfl ?_
   simp only [x0,x1,x2,x3]
   refine oT 39 54 (.bool n7) HG hS3 rfl ?_
   simp only [x0,x1,x2,x3]
   refine set_tail 1 40 _ _ _ _ (by kernel_rfl) (by decide) ?_
   simp only [List.toList_toArray, List.drop_succ_cons, List.drop_zero]
   clear hS3
   go_wp2
   go_ret
   exact ⟨by rw [HQ.out]; show Ending.returned (.bool n7) = _; simp [], HFB.out _ HB3.out⟩
 ·as_aux_lemma =>
   refine region_one (fun V => V.cell? ⟨s, 4, .none⟩ = some (.slice (some ⟨b, o, .none⟩) n pc) ∧ V.cell? ⟨g, 0, .none⟩ = some (.int .i64 num) ∧ V.cell? ⟨g, 4, .none⟩ = some (.bool true) ∧ V.cell? ⟨g, 5, .none⟩ = some (.bool n7)) 40 (by kernel_rfl) ?_
   change wpSet _ _ _ _ _ _ _ (pre (40 + 1) 0) _ _
   refine oT 0 15 (.pointer (some ⟨s, 0, .none⟩)) HG hS rfl ?_
   simp only [x0,x1,x2,x3]
   refine oT 1 16 (.pointer (some ⟨s, 0, .none⟩)) HG hS rfl ?_
   simp only [x0,x1,x2,x3]
   refine oT 2 17 (.pointer (some ⟨s, 0, .none⟩)) HG hS rfl ?_
   simp only [x0,x1,x2,x3]
   refine oT 3 18 (.pointer (some ⟨s, 4, .none⟩)) HG hS rfl ?_
   simp only [x0,x1,x2,x3]
   refine oT 4 19 (.slice (some ⟨b, o, .none⟩) n pc) HG hS rfl ?_ (fun ww hSw => by obtain ⟨q1, q2, q3, q4⟩ := hSw; go_simp)
   simp only [x0,x1,x2,x3]
   refine oT 5 20 (.int .i64 i) HG hS rfl ?_
   simp only [x0,x1,x2,x3]
   refine oT 6 21 (.func (.func 77) #[] #[]) HG hS rfl ?_
   simp only [x0,x1,x2,x3]
   refine one_only (k := 7) (by kernel_rfl) (by decide) rfl (by rfl) (fun K hK => ?_)
   go_simp
   go_at_call 78
   refine (HC2.out _ HBd.out).mono ?_
   rintro e V1 ⟨rfl, hv1⟩
   have HB1 : Hid (Below W1.heap.size W1 V1) := HBd.out.trans (hv1.mono HBd.out.size)
   have hS1 := HK.out _ HB1.out
   clear hS hv1
   refine hK.out _ _ (fun _ => hS1) ?_
   clear hK K
   try simp only [x0,x1,x2,x3,x4,x5,x6]
   refine oT 8 23 (.bool true) HG hS1 rfl ?_
   simp only [x0,x1,x2,x3]
   refine oT 9 24 (.pointer (some ⟨g, 1, .none⟩)) HG hS1 rfl ?_
   simp only [x0,x1,x2,x3]
   refine oT 10 25 (.pointer (some ⟨g, 4, .none⟩)) HG hS1 rfl ?_
   simp only [x0,x1,x2,x3]
   refine oT 11 26 (.bool true) HG hS1 rfl ?_ (fun ww hSw => by obtain ⟨q1, q2, q3, q4⟩ := hSw; go_simp)
   simp only [x0,x1,x2,x3]
   refine oT 12 27 (.pointer (some ⟨s, 0, .none⟩)) HG hS1 rfl ?_
   simp only [x0,x1,x2,x3]
   refine oT 13 28 (.pointer (some ⟨g, 0, .none⟩)) HG hS1 rfl ?_
   simp only [x0,x1,x2,x3]
   refine oT 14 29 (.int .i64 num) HG hS1 rfl ?_ (fun ww hSw => by obtain ⟨q1, q2, q3, q4⟩ := hSw; go_simp)
   simp only [x0,x1,x2,x3]
   refine oT 15 30 (.agg #[.int .i64 6, .int .i64 num]) HG hS1 rfl ?_
   simp only [x0,x1,x2,x3]
   refine one_only (k := 16) (by kernel_rfl) (by decide) rfl (by rfl) (fun K hK => ?_)
   go_simp
   go_at_call 79
   refine (isNamed_any (HSV.out _ HB1.out) HT6.out).mono ?_
   rintro e V2 ⟨rfl, hv2⟩
   have HB2 : Hid (Below W1.heap.size W1 V2) := HB1.out.trans (hv2.mono HB1.out.size)
   have hS2 := HK.out _ HB2.out
   rw [← HN6.out]
   clear hS1 hv2
   refine hK.out _ _ (fun _ => hS2) ?_
   clear hK K
   try simp only [x0,x1,x2,x3,x4,x5,x6]
   refine oT 17 32 (.bool true) HG hS2 rfl ?_
   simp only [x0,x1,x2,x3]
   refine oT 18 33 (.bool true) HG hS2 rfl ?_
   simp only [x0,x1,x2,x3]
   refine oT 19 34 (.bool true) HG hS2 rfl ?_
   simp only [x0,x1,x2,x3]
   refine oT 20 35 (.pointer (some ⟨g, 1, .none⟩)) HG hS2 rfl ?_
   simp only [x0,x1,x2,x3]
   refine oT 21 36 (.pointer (some ⟨g, 5, .none⟩)) HG hS2 rfl ?_
   simp only [x0,x1,x2,x3]
   refine oT 22 37 (.bool n7) HG hS2 rfl ?_ (fun ww hSw => by obtain ⟨q1, q2, q3, q4⟩ := hSw; go_simp)
   simp only [x0,x1,x2,x3]
   refine oT 23 38 (.pointer (some ⟨s, 0, .none⟩)) HG hS2 rfl ?_
   simp only [x0,x1,x2,x3]
   refine oT 24 39 (.pointer (some ⟨g, 0, .none⟩)) HG hS2 rfl ?_
   simp only [x0,x1,x2,x3]
   refine oT 25 40 (.int .i64 num) HG hS2 rfl ?_ (fun ww hSw => by obtain ⟨q1, q2, q3, q4⟩ := hSw; go_simp)
   simp only [x0,x1,x2,x3]
   refine oT 26 41 (.agg #[.int .i64 7, .int .i64 num]) HG hS2 rfl ?_
   simp only [x0,x1,x2,x3]
   refine one_only (k := 27) (by kernel_rfl) (by decide) rfl (by rfl) (fun K hK => ?_)
   go_simp
   go_at_call 79
   refine (isNamed_any (HSV.out _ HB2.out) HT7.out).mono ?_
   rintro e V3 ⟨rfl, hv3⟩
   have HB3 : Hid (Below W1.heap.size W1 V3) := HB2.out.trans (hv3.mono HB2.out.size)
   have hS3 := HK.out _ HB3.out
   rw [← HN7.out]
   clear hS2 hv3
   refine hK.out _ _ (fun _ => hS3) ?_
   clear hK K
   try simp only [x0,x1,x2,x3,x4,x5,x6]
   refine oT 28 43 (.bool true) HG hS3 rfl ?_
   simp only [x0,x1,x2,x3]
   refine oT 29 44 (.bool true) HG hS3 rfl ?_
   simp only [x0,x1,x2,x3]
   refine oT 30 45 (.bool true) HG hS3 rfl ?_
   simp only [x0,x1,x2,x3]
   refine oT 31 46 (.pointer (some ⟨g, 1, .none⟩)) HG hS3 rfl ?_
   simp only [x0,x1,x2,x3]
   refine oT 32 47 (.pointer (some ⟨g, 4, .none⟩)) HG hS3 rfl ?_
   simp only [x0,x1,x2,x3]
   refine oT 33 48 (.bool true) HG hS3 rfl ?_ (fun ww hSw => by obtain ⟨q1, q2, q3, q4⟩ := hSw; go_simp)
   simp only [x0,x1,x2,x3]
   refine oT 34 49 (.bool true) HG hS3 rfl ?_
   simp only [x0,x1,x2,x3]
   refine oS 35 50 HG hS3 rfl ?_
   simp only [x0,x1,x2,x3]
   refine oS 36 51 HG hS3 rfl ?_
   simp only [x0,x1,x2,x3]
   refine oS 37 52 HG hS3 rfl ?_
   simp only [x0,x1,x2,x3]
   refine oT 38 53 (.bool true) HG hS3 rfl ?_
   simp only [x0,x1,x2,x3]
   refine oT 39 54 (.bool true) HG hS3 rfl ?_
   simp only [x0,x1,x2,x3]
   refine set_tail 1 40 _ _ _ _ (by kernel_rfl) (by decide) ?_
   simp only [List.toList_toArray, List.drop_succ_cons, List.drop_zero]
   clear hS3
   go_wp2
   go_ret
   exact ⟨by rw [HQ.out]; show Ending.returned (.bool true) = _; simp [], HFB.out _ HB3.out⟩
end Go.Proofs.Ythopgmmodldljab
