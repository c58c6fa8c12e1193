import Derived.Test.YthopgmmodldljabEla
namespace Go.Proofs.Ythopgmmodldljab
open Go Go.RowKit
set_option linter.unusedVariables false
set_option linter.unusedSimpArgs false
def okI (L : Lk) (nf : Th → Option Int) (i : Nat) (x : In) : Bool := numB (fun f : In => f.ino) L.inos i 1 199 && ((x.refs == (nf (3, x.ino)).getD 0) && ((x.links != 0 || (x.refs != 0 || x.ino == 1)) && (decide (0 ≤ x.size) && ((x.bl.length : Int) == bg x.size 4096))))
set_option maxRecDepth 100000 in
set_option maxHeartbeats 8000000 in
theorem is83_any {w : World} {s m1 m2 : Nat} {L : Lk} {fr : List Int} {N : Nat} {pv fv iv qv rv lv nv gv : Value} {pf nf : Th → Option Int} (h : Sy w s m1 m2 L fr N pv fv iv qv rv lv nv gv pf nf) (i : Nat) (x : In) (hx : L.inos[i]? = some x) : Calls Try.prog 61 #[.pointer (some ⟨s, 0, .none⟩), .int .i64 i] w fun e w' => e = .returned (.bool (okI L nf i x)) ∧ Below w.heap.size w w' := by
 obtain ⟨pp, pc, hpv⟩ := h.lk.is.form
 have hin : i < L.inos.length := (List.getElem?_eq_some_iff.1 hx).1
 obtain ⟨n, hn⟩ : ∃ n, n = L.inos.length := ⟨_, rfl⟩
 rw [← hn] at hpv hin
 have hsl := h.lk.is
 rw [hpv] at hsl
 obtain ⟨-, b, o, y, cs, hpe, hbX, hy, ⟨bv2, rfl, hN2⟩, hcl, hr⟩ := hsl.at hin
 obtain rfl : x = y := by rw [hx] at hy; injection hy
 subst hpe
 have k1 := h.cell 3 _ rfl
 rw [hpv] at k1
 have i1 : (i : Int) < n := by omega
 have bn : n ≤ 1048576 := by have := h.rg.il; omega
 have HX1 : Hid (∀ u ∈ x.l bv2, u.oneCell' = true) := inl_one x hN2.one
 have HSY : Hid (Sy w s m1 m2 L fr N pv fv iv qv rv lv nv gv pf nf) := h
 have HC1 : Hid (∀ V, Below w.heap.size w V → Calls Try.prog 76 #[.slice (some ⟨b, o, .none⟩) n pc, .int .i64 i, .func (.func 75) #[] #[], .int .i64 1, .int .i64 199] V fun e w' => e = .returned (.bool (numB (fun f : In => f.ino) L.inos i 1 199)) ∧ Below V.heap.size V w') := fun V hV => by
  have h2 := (h.keep hV).lk.is
  rw [hpv] at h2
  exact isn92_any h2 (Nat.le_refl _) (by omega) i (by omega) _ _
 obtain ⟨nb, hnb⟩ : ∃ nb, nb = numB (fun f : In => f.ino) L.inos i 1 199 := ⟨_, rfl⟩
 rw [← hnb] at HC1
 have kk1 : ∀ V, Below w.heap.size w V → V.cell? ⟨s, 3, .none⟩ = some (.slice (some ⟨b, o, .none⟩) n pc) := fun V hV => (hV.cell (p := ⟨s, 3, .none⟩) h.sv.lt.1).trans k1
 have HRX := h.rg.i x (List.mem_of_getElem? hx)
 obtain ⟨bp, bc, rfl⟩ := hN2.form
 obtain ⟨bn, hbn⟩ : ∃ bn, bn = x.bl.length := ⟨_, rfl⟩
 rw [← hbn] at hr HX1
 have bbn : bn ≤ 1048576 := by have := HRX.bl; omega
 obtain ⟨num, hnum⟩ : ∃ num, num = x.ino := ⟨_, rfl⟩
 obtain ⟨rf, hrf⟩ : ∃ rf, rf = x.refs := ⟨_, rfl⟩
 obtain ⟨lk, hlk⟩ : ∃ lk, lk = x.links := ⟨_, rfl⟩
 obtain ⟨sz, hsz⟩ : ∃ sz, sz = x.size := ⟨_, rfl⟩
 obtain ⟨c, hc⟩ : ∃ c, c = (nf (3, num)).getD 0 := ⟨_, rfl⟩
 obtain ⟨bgv, hbg⟩ : ∃ bgv, bgv = bg sz 4096 := ⟨_, rfl⟩
 have HBG : Hid (bgv = bg sz 4096) := hbg
 have HQ : Hid (okI L nf i x = (nb && ((rf == c) && ((lk != 0 || (rf != 0 || num == 1)) && (decide (0 ≤ sz) && ((bn : Int) == bgv)))))) := by show _ = _; rw [hbg, hc, hsz, hlk, hrf, hnum, hbn, hnb]; rfl
 have HT1 : Hid (ThR (3, num)) := by rw [hnum]; exact ⟨lit64 3 (by omega), HRX.ino⟩
 have bsz : -9223372036854775808 ≤ sz ∧ sz ≤ 9223372036854775807 := by rw [hsz]; exact bounds_i64 HRX.size
 have HKK : Hid (∀ V, Below w.heap.size w V → V.cell? ⟨s, 3, .none⟩ = some (.slice (some ⟨b, o, .none⟩) n pc)) := kk1
 clear h hx hy hbX hcl hsl kk1 hpv hn hN2
 go_enter Try.func61, Try.ntmps61
 go_upto_region 3 with (first
  | (refine wpList_is (.load 63 (.tmp 13)) rfl ?_; refine wpList_loadG 63 8 72 info66 _ Try.underlying63 rfl (x.l (.slice bp bn bc)) rfl b (o + i * 8) (.tmp 13) rfl rfl rfl hr (some 14) rfl ?_; clear hr k1)
  | (refine wpList_is (.alloc 63) rfl ?_; refine wpList_laidG 63 8 72 info66 (x.l (.slice bp bn bc)) rfl HX1.out 5 (.tmp 14) _ _ rfl rfl rfl rfl rfl rfl rfl rfl ?_; intro W1 hW1 hB1 hs1)
  | fail)
 obtain ⟨g, hg⟩ : ∃ g, g = w.heap.size := ⟨_, rfl⟩
 rw [← hg] at hW1
 try rw [← hg]
 have HFB : Hid (∀ V, Below W1.heap.size W1 V → Below w.heap.size w V) := fun V hV => hB1.trans (hV.mono (by omega))
 have HC2 : Hid (∀ V, Below W1.heap.size W1 V → Calls Try.prog 76 #[.slice (some ⟨b, o, .none⟩) n pc, .int .i64 i, .func (.func 75) #[] #[], .int .i64 1, .int .i64 199] V fun e w' => e = .returned (.bool nb) ∧ Below V.heap.size V w') := fun V hV => HC1.out V (HFB.out V hV)
 have HSV : Hid (∀ V, Below W1.heap.size W1 V → Sv V s m1 m2 (svL L pv fv iv qv rv lv fr.length nv gv m1 m2) pf nf) := fun V hV => (HSY.out.keep (HFB.out V hV)).sv
 have hgl : g < W1.heap.size := by omega
 have HK : Hid (∀ V, Below W1.heap.size W1 V → V.cell? ⟨s, 3, .none⟩ = some (.slice (some ⟨b, o, .none⟩) n pc) ∧ V.cell? ⟨s, 14, .none⟩ = some (.map (some m2)) ∧ V.cell? ⟨g, 0, .none⟩ = some (.int .i64 num) ∧ V.cell? ⟨g, 4, .none⟩ = some (.int .i64 lk) ∧ V.cell? ⟨g, 5, .none⟩ = some (.int .i64 rf) ∧ V.cell? ⟨g, 6, .none⟩ = some (.int .i64 sz) ∧ V.cell? ⟨g, 7, .none⟩ = some (.slice bp bn bc) ∧ (Instr.lookup 77 (.map (some m2)) (.agg #[.int .i64 3, .int .i64 num]) false).run Try.prog V = .ok (.int .i64 c) V) := fun V hV => ⟨HKK.out V (HFB.out V hV), (HSV.out V hV).cell13.2, by rw [hnum]; exact cell_heap (o := 0) ((hV.block g hgl).trans hW1), by rw [hlk]; exact cell_heap (o := 4) ((hV.block g hgl).trans hW1), by rw [hrf]; exact cell_heap (o := 5) ((hV.block g hgl).trans hW1), by rw [hsz]; exact cell_heap (o := 6) ((hV.block g hgl).trans hW1), cell_heap (o := 7) ((hV.block g hgl).trans hW1), by rw [hc]; exact ((HSV.out V hV).mn.look HT1.out).1⟩
 have HBd : Hid (Below W1.heap.size W1 W1.drew) := (Below.refl _ _).drew
 have hS : (fun V : World => V.cell? ⟨s, 3, .none⟩ = some (.slice (some ⟨b, o, .none⟩) n pc) ∧ V.cell? ⟨s, 14, .none⟩ = some (.map (some m2)) ∧ V.cell? ⟨g, 0, .none⟩ = some (.int .i64 num) ∧ V.cell? ⟨g, 4, .none⟩ = some (.int .i64 lk) ∧ V.cell? ⟨g, 5, .none⟩ = some (.int .i64 rf) ∧ V.cell? ⟨g, 6, .none⟩ = some (.int .i64 sz) ∧ V.cell? ⟨g, 7, .none⟩ = some (.slice bp bn bc) ∧ (Instr.lookup 77 (.map (some m2)) (.agg #[.int .i64 3, .int .i64 num]) false).run Try.prog V = .ok (.int .i64 c) V) W1.drew := HK.out _ HBd.out
 refine region_good 52 (by kernel_rfl) ?_
 intro HG
 clear hW1 hB1 hs1 hg hgl HKK HC1 HRX HSY HX1 hnb hnum hrf hlk hsz hbn hc hbg HT1
 cases nb
 ·as_aux_lemma =>
   refine region_one (fun V => V.cell? ⟨s, 3, .none⟩ = some (.slice (some ⟨b, o, .none⟩) n pc) ∧ V.cell? ⟨s, 14, .none⟩ = some (.map (some m2)) ∧ V.cell? ⟨g, 0, .none⟩ = some (.int .i64 num) ∧ V.cell? ⟨g, 4, .none⟩ = some (.int .i64 lk) ∧ V.cell? ⟨g, 5, .none⟩ = some (.int .i64 rf) ∧ V.cell? ⟨g, 6, .none⟩ = some (.int .i64 sz) ∧ V.cell? ⟨g, 7, .none⟩ = some (.slice bp bn bc) ∧ (Instr.lookup 77 (.map (some m2)) (.agg #[.int .i64 3, .int .i64 num]) false).run Try.prog V = .ok (.int .i64 c) V) 52 (by kernel_rfl) ?_
   change wpSet _ _ _ _ _ _ _ (pre (52 + 1) 0) _ _
   refine oT 0 15 (.pointer (some ⟨s, 0, .none⟩)) HG hS rfl ?_
   simp only [x0,x1,x2,x3]
   refine oT 1 16 (.pointer (some ⟨s, 0, .none⟩)) HG hS rfl ?_
   simp only [x0,x1,x2,x3]
   refine oT 2 17 (.pointer (some ⟨s, 0, .none⟩)) HG hS rfl ?_
   simp only [x0,x1,x2,x3]
   refine oT 3 18 (.pointer (some ⟨s, 3, .none⟩)) HG hS rfl ?_
   simp only [x0,x1,x2,x3]
   refine oT 4 19 (.slice (some ⟨b, o, .none⟩) n pc) HG hS rfl ?_ (fun ww hSw => by obtain ⟨q1, q2, q3, q4, q5, q6, q7, q8⟩ := hSw; go_simp)
   simp only [x0,x1,x2,x3]
   refine oT 5 20 (.int .i64 i) HG hS rfl ?_
   simp only [x0,x1,x2,x3]
   refine oT 6 21 (.func (.func 75) #[] #[]) HG hS rfl ?_
   simp only [x0,x1,x2,x3]
   refine one_only (k := 7) (by kernel_rfl) (by decide) rfl (by rfl) (fun K hK => ?_)
   go_simp
   go_at_call 76
   refine (HC2.out _ HBd.out).mono ?_
   rintro e V1 ⟨rfl, hv1⟩
   have HB1 : Hid (Below W1.heap.size W1 V1) := HBd.out.trans (hv1.mono HBd.out.size)
   have hS1 := HK.out _ HB1.out
   clear hS hv1
   refine hK.out _ _ (fun _ => hS1) ?_
   clear hK K
   try simp only [x0,x1,x2,x3,x4,x5,x6]
   refine oT 8 23 (.bool false) HG hS1 rfl ?_
   simp only [x0,x1,x2,x3]
   refine oS 9 24 HG hS1 rfl ?_
   simp only [x0,x1,x2,x3]
   refine oS 10 25 HG hS1 rfl ?_
   simp only [x0,x1,x2,x3]
   refine oS 11 26 HG hS1 rfl ?_
   simp only [x0,x1,x2,x3]
   refine oS 12 27 HG hS1 rfl ?_
   simp only [x0,x1,x2,x3]
   refine oS 13 28 HG hS1 rfl ?_
   simp only [x0,x1,x2,x3]
   refine oS 14 29 HG hS1 rfl ?_
   simp only [x0,x1,x2,x3]
   refine oS 15 30 HG hS1 rfl ?_
   simp only [x0,x1,x2,x3]
   refine oS 16 31 HG hS1 rfl ?_
   simp only [x0,x1,x2,x3]
   refine oS 17 32 HG hS1 rfl ?_
   simp only [x0,x1,x2,x3]
   refine oS 18 33 HG hS1 rfl ?_
   simp only [x0,x1,x2,x3]
   refine oS 19 34 HG hS1 rfl ?_
   simp only [x0,x1,x2,x3]
   refine oT 20 35 (.bool false) HG hS1 rfl ?_
   simp only [x0,x1,x2,x3]
   refine oT 21 36 (.bool false) HG hS1 rfl ?_
   simp only [x0,x1,x2,x3]
   refine oS 22 37 HG hS1 rfl ?_
   simp only [x0,x1,x2,x3]
   refine oS 23 38 HG hS1 rfl ?_
   simp only [x0,x1,x2,x3]
   refine oS 24 39 HG hS1 rfl ?_
   simp only [x0,x1,x2,x3]
   refine oS 25 40 HG hS1 rfl ?_
   simp only [x0,x1,x2,x3]
   refine oS 26 41 HG hS1 rfl ?_
   simp only [x0,x1,x2,x3]
   refine oS 27 42 HG hS1 rfl ?_
   simp only [x0,x1,x2,x3]
   refine oS 28 43 HG hS1 rfl ?_
   simp only [x0,x1,x2,x3]
   refine oS 29 44 HG hS1 rfl ?_
   simp only [x0,x1,x2,x3]
   refine oS 30 45 HG hS1 rfl ?_
   simp only [x0,x1,x2,x3]
   refine oS 31 46 HG hS1 rfl ?_
   simp only [x0,x1,x2,x3]
   refine oS 32 47 HG hS1 rfl ?_
   simp only [x0,x1,x2,x3]
   refine oS 33 48 HG hS1 rfl ?_
   simp only [x0,x1,x2,x3]
   refine oS 34 49 HG hS1 rfl ?_
   simp only [x0,x1,x2,x3]
   refine oT 35 50 (.bool false) HG hS1 rfl ?_
   simp only [x0,x1,x2,x3]
   refine oT 36 51 (.bool false) HG hS1 rfl ?_
   simp only [x0,x1,x2,x3]
   refine oS 37 52 HG hS1 rfl ?_
   simp only [x0,x1,x2,x3]
   refine oS 38 53 HG hS1 rfl ?_
   simp only [x0,x1,x2,x3]
   refine oS 39 54 HG hS1 rfl ?_
   simp only [x0,x1,x2,x3]
   refine oT 40 55 (.bool false) HG hS1 rfl ?_
   simp only [x0,x1,x2,x3]
   refine oT 41 56 (.bool false) HG hS1 rfl ?_
   simp only [x0,x1,x2,x3]
   refine oS 42 57 HG hS1 rfl ?_
   simp only [x0,x1,x2,x3]
   refine oS 43 58 HG hS1 rfl ?_
   simp only [x0,x1,x2,x3]
   refine oS 44 59 HG hS1 rfl ?_
   simp only [x0,x1,x2,x3]
   refine oS 45 60 HG hS1 rfl ?_
   simp only [x0,x1,x2,x3]
   refine oS 46 61 HG hS1 rfl ?_
   simp only [x0,x1,x2,x3]
   refine oS 47 62 HG hS1 rfl ?_
   simp only [x0,x1,x2,x3]
   refine oS 48 63 HG hS1 rfl ?_
   simp only [x0,x1,x2,x3]
   refine oS 49 64 HG hS1 rfl ?_
   simp only [x0,x1,x2,x3]
   refine oS 50 65 HG hS1 rfl ?_
   simp only [x0,x1,x2,x3]
   refine oT 51 66 (.bool false) HG hS1 rfl ?_
   simp only [x0,x1,x2,x3]
   refine set_tail 1 52 _ _ _ _ (by kernel_rfl) (by decide) ?_
   simp only [List.toList_toArray, List.drop_succ_cons, List.drop_zero]
   clear hS1
   go_wp2
   go_ret
   exact ⟨by rw [HQ.out]; show Ending.returned (.bool false) = _; simp [], HFB.out _ HB1.out⟩
 by_cases g1 : rf = c
 case neg => as_aux_lemma =>
  have e1 : (rf == c) = false := by simp [g1]
  clear g1
  refine region_one (fun V => V.cell? ⟨s, 3, .none⟩ = some (.slice (some ⟨b, o, .none⟩) n pc) ∧ V.cell? ⟨s, 14, .none⟩ = some (.map (some m2)) ∧ V.cell? ⟨g, 0, .none⟩ = some (.int .i64 num) ∧ V.cell? ⟨g, 4, .none⟩ = some (.int .i64 lk) ∧ V.cell? ⟨g, 5, .none⟩ = some (.int .i64 rf) ∧ V.cell? ⟨g, 6, .none⟩ = some (.int .i64 sz) ∧ V.cell? ⟨g, 7, .none⟩ = some (.slice bp bn bc) ∧ (Instr.lookup 77 (.map (some m2)) (.agg #[.int .i64 3, .int .i64 num]) false).run Try.prog V = .ok (.int .i64 c) V) 52 (by kernel_rfl) ?_
  change wpSet _ _ _ _ _ _ _ (pre (52 + 1) 0) _ _
  refine oT 0 15 (.pointer (some ⟨s, 0, .none⟩)) HG hS rfl ?_
  simp only [x0,x1,x2,x3]
  refine oT 1 16 (.pointer (some ⟨s, 0, .none⟩)) HG hS rfl ?_
  simp only [x0,x1,x2,x3]
  refine oT 2 17 (.pointer (some ⟨s, 0, .none⟩)) HG hS rfl ?_
  simp only [x0,x1,x2,x3]
  refine oT 3 18 (.pointer (some ⟨s, 3, .none⟩)) HG hS rfl ?_
  simp only [x0,x1,x2,x3]
  refine oT 4 19 (.slice (some ⟨b, o, .none⟩) n pc) HG hS rfl ?_ (fun ww hSw => by obtain ⟨q1, q2, q3, q4, q5, q6, q7, q8⟩ := hSw; go_simp)
  simp only [x0,x1,x2,x3]
  refine oT 5 20 (.int .i64 i) HG hS rfl ?_
  simp only [x0,x1,x2,x3]
  refine oT 6 21 (.func (.func 75) #[] #[]) HG hS rfl ?_
  simp only [x0,x1,x2,x3]
  refine one_only (k := 7) (by kernel_rfl) (by decide) rfl (by rfl) (fun K hK => ?_)
  go_simp
  go_at_call 76
  refine (HC2.out _ HBd.out).mono ?_
  rintro e V1 ⟨rfl, hv1⟩
  have HB1 : Hid (Below W1.heap.size W1 V1) := HBd.out.trans (hv1.mono HBd.out.size)
  have hS1 := HK.out _ HB1.out
  clear hS hv1
  refine hK.out _ _ (fun _ => hS1) ?_
  clear hK K
  try simp only [x0,x1,x2,x3,x4,x5,x6]
  refine oT 8 23 (.bool true) HG hS1 rfl ?_
  simp only [x0,x1,x2,x3]
  refine oT 9 24 (.pointer (some ⟨g, 5, .none⟩)) HG hS1 rfl ?_
  simp only [x0,x1,x2,x3]
  refine oT 10 25 (.int .i64 rf) HG hS1 rfl ?_ (fun ww hSw => by obtain ⟨q1, q2, q3, q4, q5, q6, q7, q8⟩ := hSw; go_simp)
  simp only [x0,x1,x2,x3]
  refine oT 11 26 (.pointer (some ⟨s, 0, .none⟩)) HG hS1 rfl ?_
  simp only [x0,x1,x2,x3]
  refine oT 12 27 (.pointer (some ⟨s, 0, .none⟩)) HG hS1 rfl ?_
  simp only [x0,x1,x2,x3]
  refine oT 13 28 (.pointer (some ⟨s, 14, .none⟩)) HG hS1 rfl ?_
  simp only [x0,x1,x2,x3]
  refine oT 14 29 (.map (some m2)) HG hS1 rfl ?_ (fun ww hSw => by obtain ⟨q1, q2, q3, q4, q5, q6, q7, q8⟩ := hSw; go_simp)
  simp only [x0,x1,x2,x3]
  refine oT 15 30 (.pointer (some ⟨g, 0, .none⟩)) HG hS1 rfl ?_
  simp only [x0,x1,x2,x3]
  refine oT 16 31 (.int .i64 num) HG hS1 rfl ?_ (fun ww hSw => by obtain ⟨q1, q2, q3, q4, q5, q6, q7, q8⟩ := hSw; go_simp)
  simp only [x0,x1,x2,x3]
  refine oT 17 32 (.agg #[.int .i64 3, .int .i64 num]) HG hS1 rfl ?_
  simp only [x0,x1,x2,x3]
  refine oT 18 33 (.int .i64 c) HG hS1 rfl ?_ (fun ww hSw => by obtain ⟨q1, q2, q3, q4, q5, q6, q7, q8⟩ := hSw; go_simp)
  simp only [x0,x1,x2,x3]
  refine oT 19 34 (.bool false) HG hS1 rfl ?_
  simp only [x0,x1,x2,x3]
  refine oT 20 35 (.bool false) HG hS1 rfl ?_
  simp only [x0,x1,x2,x3]
  refine oT 21 36 (.bool false) HG hS1 rfl ?_
  simp only [x0,x1,x2,x3]
  refine oS 22 37 HG hS1 rfl ?_
  simp only [x0,x1,x2,x3]
  refine oS 23 38 HG hS1 rfl ?_
  simp only [x0,x1,x2,x3]
  refine oS 24 39 HG hS1 rfl ?_
  simp only [x0,x1,x2,x3]
  refine oS 25 40 HG hS1 rfl ?_
  simp only [x0,x1,x2,x3]
  refine oS 26 41 HG hS1 rfl ?_
  simp only [x0,x1,x2,x3]
  refine oS 27 42 HG hS1 rfl ?_
  simp only [x0,x1,x2,x3]
  refine oS 28 43 HG hS1 rfl ?_
  simp only [x0,x1,x2,x3]
  refine oS 29 44 HG hS1 rfl ?_
  simp only [x0,x1,x2,x3]
  refine oS 30 45 HG hS1 rfl ?_
  simp only [x0,x1,x2,x3]
  refine oS 31 46 HG hS1 rfl ?_
  simp only [x0,x1,x2,x3]
  refine oS 32 47 HG hS1 rfl ?_
  simp only [x0,x1,x2,x3]
  refine oS 33 48 HG hS1 rfl ?_
  simp only [x0,x1,x2,x3]
  refine oS 34 49 HG hS1 rfl ?_
  simp only [x0,x1,x2,x3]
  refine oT 35 50 (.bool false) HG hS1 rfl ?_
  simp only [x0,x1,x2,x3]
  refine oT 36 51 (.bool false) HG hS1 rfl ?_
  simp only [x0,x1,x2,x3]
  refine oS 37 52 HG hS1 rfl ?_
  simp only [x0,x1,x2,x3]
  refine oS 38 53 HG hS1 rfl ?_
  simp only [x0,x1,x2,x3]
  refine oS 39 54 HG hS1 rfl ?_
  simp only [x0,x1,x2,x3]
  refine oT 40 55 (.bool false) HG hS1 rfl ?_
  simp only [x0,x1,x2,x3]
  refine oT 41 56 (.bool false) HG hS1 rfl ?_
  simp only [x0,x1,x2,x3]
  refine oS 42 57 HG hS1 rfl ?_
  simp only [x0,x1,x2,x3]
  refine oS 43 58 HG hS1 rfl ?_
  simp only [x0,x1,x2,x3]
  refine oS 44 59 HG hS1 rfl ?_
  simp only [x0,x1,x2,x3]
  refine oS 45 60 HG hS1 rfl ?_
  simp only [x0,x1,x2,x3]
  refine oS 46 61 HG hS1 rfl ?_
  simp only [x0,x1,x2,x3]
  refine oS 47 62 HG hS1 rfl ?_
  simp only [x0,x1,x2,x3]
  refine oS 48 63 HG hS1 rfl ?_
  simp only [x0,x1,x2,x3]
  refine oS 49 64 HG hS1 rfl ?_
  simp only [x0,x1,x2,x3]
  refine oS 50 65 HG hS1 rfl ?_
  simp only [x0,x1,x2,x3]
  refine oT 51 66 (.bool false) HG hS1 rfl ?_
  simp only [x0,x1,x2,x3]
  refine set_tail 1 52 _ _ _ _ (by kernel_rfl) (by decide) ?_
  simp only [List.toList_toArray, List.drop_succ_cons, List.drop_zero]
  clear hS1
  go_wp2
  go_ret
  exact ⟨by rw [HQ.out]; show Ending.returned (.bool false) = _; simp [e1], HFB.out _ HB1.out⟩
 have e1 : (rf == c) = true := by simp [g1]
 clear g1
 by_cases a1 : lk = 0
 case neg =>
  have e2 : (lk != 0) = true := by simp [a1]
  clear a1
  by_cases g3 : 0 ≤ sz
  case neg => as_aux_lemma =>
   refine region_one (fun V => V.cell? ⟨s, 3, .none⟩ = some (.slice (some ⟨b, o, .none⟩) n pc) ∧ V.cell? ⟨s, 14, .none⟩ = some (.map (some m2)) ∧ V.cell? ⟨g, 0, .none⟩ = some (.int .i64 num) ∧ V.cell? ⟨g, 4, .none⟩ = some (.int .i64 lk) ∧ V.cell? ⟨g, 5, .none⟩ = some (.int .i64 rf) ∧ V.cell? ⟨g, 6, .none⟩ = some (.int .i64 sz) ∧ V.cell? ⟨g, 7, .none⟩ = some (.slice bp bn bc) ∧ (Instr.lookup 77 (.map (some m2)) (.agg #[.int .i64 3, .int .i64 num]) false).run Try.prog V = .ok (.int .i64 c) V) 52 (by kernel_rfl) ?_
   change wpSet _ _ _ _ _ _ _ (pre (52 + 1) 0) _ _
   refine oT 0 15 (.pointer (some ⟨s, 0, .none⟩)) HG hS rfl ?_
   simp only [x0,x1,x2,x3]
   refine oT 1 16 (.pointer (some ⟨s, 0, .none⟩)) HG hS rfl ?_
   simp only [x0,x1,x2,x3]
   refine oT 2 17 (.pointer (some ⟨s, 0, .none⟩)) HG hS rfl ?_
   simp only [x0,x1,x2,x3]
   refine oT 3 18 (.pointer (some ⟨s, 3, .none⟩)) HG hS rfl ?_
   simp only [x0,x1,x2,x3]
   refine oT 4 19 (.slice (some ⟨b, o, .none⟩) n pc) HG hS rfl ?_ (fun ww hSw => by obtain ⟨q1, q2, q3, q4, q5, q6, q7, q8⟩ := hSw; go_simp)
   simp only [x0,x1,x2,x3]
   refine oT 5 20 (.int .i64 i) HG hS rfl ?_
   simp only [x0,x1,x2,x3]
   refine oT 6 21 (.func (.func 75) #[] #[]) HG hS rfl ?_
   simp only [x0,x1,x2,x3]
   refine one_only (k := 7) (by kernel_rfl) (by decide) rfl (by rfl) (fun K hK => ?_)
   go_simp
   go_at_call 76
   refine (HC2.out _ HBd.out).mono ?_
   rintro e V1 ⟨rfl, hv1⟩
   have HB1 : Hid (Below W1.heap.size W1 V1) := HBd.out.trans (hv1.mono HBd.out.size)
   have hS1 := HK.out _ HB1.out
   clear hS hv1
   refine hK.out _ _ (fun _ => hS1) ?_
   clear hK K
   try simp only [x0,x1,x2,x3,x4,x5,x6]
   refine oT 8 23 (.bool true) HG hS1 rfl ?_
   simp only [x0,x1,x2,x3]
   refine oT 9 24 (.pointer (some ⟨g, 5, .none⟩)) HG hS1 rfl ?_
   simp only [x0,x1,x2,x3]
   refine oT 10 25 (.int .i64 rf) HG hS1 rfl ?_ (fun ww hSw => by obtain ⟨q1, q2, q3, q4, q5, q6, q7, q8⟩ := hSw; go_simp)
   simp only [x0,x1,x2,x3]
   refine oT 11 26 (.pointer (some ⟨s, 0, .none⟩)) HG hS1 rfl ?_
   simp only [x0,x1,x2,x3]
   refine oT 12 27 (.pointer (some ⟨s, 0, .none⟩)) HG hS1 rfl ?_
   simp only [x0,x1,x2,x3]
   refine oT 13 28 (.pointer (some ⟨s, 14, .none⟩)) HG hS1 rfl ?_
   simp only [x0,x1,x2,x3]
   refine oT 14 29 (.map (some m2)) HG hS1 rfl ?_ (fun ww hSw => by obtain ⟨q1, q2, q3, q4, q5, q6, q7, q8⟩ := hSw; go_simp)
   simp only [x0,x1,x2,x3]
   refine oT 15 30 (.pointer (some ⟨g, 0, .none⟩)) HG hS1 rfl ?_
   simp only [x0,x1,x2,x3]
   refine oT 16 31 (.int .i64 num) HG hS1 rfl ?_ (fun ww hSw => by obtain ⟨q1, q2, q3, q4, q5, q6, q7, q8⟩ := hSw; go_simp)
   simp only [x0,x1,x2,x3]
   refine oT 17 32 (.agg #[.int .i64 3, .int .i64 num]) HG hS1 rfl ?_
   simp only [x0,x1,x2,x3]
   refine oT 18 33 (.int .i64 c) HG hS1 rfl ?_ (fun ww hSw => by obtain ⟨q1, q2, q3, q4, q5, q6, q7, q8⟩ := hSw; go_simp)
   simp only [x0,x1,x2,x3]
   refine oT 19 34 (.bool true) HG hS1 rfl ?_
   simp only [x0,x1,x2,x3]
   refine oT 20 35 (.bool true) HG hS1 rfl ?_
   simp only [x0,x1,x2,x3]
   refine oT 21 36 (.bool true) HG hS1 rfl ?_
   simp only [x0,x1,x2,x3]
   refine oT 22 37 (.pointer (some ⟨g, 4, .none⟩)) HG hS1 rfl ?_
   simp only [x0,x1,x2,x3]
   refine oT 23 38 (.int .i64 lk) HG hS1 rfl ?_ (fun ww hSw => by obtain ⟨q1, q2, q3, q4, q5, q6, q7, q8⟩ := hSw; go_simp)
   simp only [x0,x1,x2,x3]
   refine oT 24 39 (.bool true) HG hS1 rfl ?_
   simp only [x0,x1,x2,x3]
   refine oT 25 40 (.bool true) HG hS1 rfl ?_
   simp only [x0,x1,x2,x3]
   refine oS 26 41 HG hS1 rfl ?_
   simp only [x0,x1,x2,x3]
   refine oS 27 42 HG hS1 rfl ?_
   simp only [x0,x1,x2,x3]
   refine oS 28 43 HG hS1 rfl ?_
   simp only [x0,x1,x2,x3]
   refine oT 29 44 (.bool true) HG hS1 rfl ?_
   simp only [x0,x1,x2,x3]
   refine oT 30 45 (.bool true) HG hS1 rfl ?_
   simp only [x0,x1,x2,x3]
   refine oS 31 46 HG hS1 rfl ?_
   simp only [x0,x1,x2,x3]
   refine oS 32 47 HG hS1 rfl ?_
   simp only [x0,x1,x2,x3]
   refine oS 33 48 HG hS1 rfl ?_
   simp only [x0,x1,x2,x3]
   refine oT 34 49 (.bool true) HG hS1 rfl ?_
   simp only [x0,x1,x2,x3]
   refine oT 35 50 (.bool true) HG hS1 rfl ?_
   simp only [x0,x1,x2,x3]
   refine oT 36 51 (.bool true) HG hS1 rfl ?_
   simp only [x0,x1,x2,x3]
   refine oT 37 52 (.pointer (some ⟨g, 6, .none⟩)) HG hS1 rfl ?_
   simp only [x0,x1,x2,x3]
   refine oT 38 53 (.int .i64 sz) HG hS1 rfl ?_ (fun ww hSw => by obtain ⟨q1, q2, q3, q4, q5, q6, q7, q8⟩ := hSw; go_simp)
   simp only [x0,x1,x2,x3]
   refine oT 39 54 (.bool false) HG hS1 rfl ?_
   simp only [x0,x1,x2,x3]
   refine oT 40 55 (.bool false) HG hS1 rfl ?_
   simp only [x0,x1,x2,x3]
   refine oT 41 56 (.bool false) HG hS1 rfl ?_
   simp only [x0,x1,x2,x3]
   refine oS 42 57 HG hS1 rfl ?_
   simp only [x0,x1,x2,x3]
   refine oS 43 58 HG hS1 rfl ?_
   simp only [x0,x1,x2,x3]
   refine oS 44 59 HG hS1 rfl ?_
   simp only [x0,x1,x2,x3]
   refine oS 45 60 HG hS1 rfl ?_
   simp only [x0,x1,x2,x3]
   refine oS 46 61 HG hS1 rfl ?_
   simp only [x0,x1,x2,x3]
   refine oS 47 62 HG hS1 rfl ?_
   simp only [x0,x1,x2,x3]
   refine oS 48 63 HG hS1 rfl ?_
   simp only [x0,x1,x2,x3]
   refine oS 49 64 HG hS1 rfl ?_
   simp only [x0,x1,x2,x3]
   refine oS 50 65 HG hS1 rfl ?_
   simp only [x0,x1,x2,x3]
   refine oT 51 66 (.bool false) HG hS1 rfl ?_
   simp only [x0,x1,x2,x3]
   refine set_tail 1 52 _ _ _ _ (by kernel_rfl) (by decide) ?_
   simp only [List.toList_toArray, List.drop_succ_cons, List.drop_zero]
   clear hS1
   go_wp2
   go_ret
   exact ⟨by rw [HQ.out]; show Ending.returned (.bool false) = _; simp [e1, e2, show ¬ 0 ≤ sz by omega], HFB.out _ HB1.out⟩
  as_aux_lemma =>
   have hsz0 : 0 ≤ sz := g3
   have hwz : IntKind.u64.wrap sz = sz := by rw [IntKind.wrap_u64]; omega
   have hwb : IntKind.u64.wrap (bn : Int) = (bn : Int) := by rw [IntKind.wrap_u64]; omega
   obtain ⟨qb, hqb⟩ : ∃ qb, ((bn : Int) == bgv) = qb := ⟨_, rfl⟩
   refine region_one (fun V => V.cell? ⟨s, 3, .none⟩ = some (.slice (some ⟨b, o, .none⟩) n pc) ∧ V.cell? ⟨s, 14, .none⟩ = some (.map (some m2)) ∧ V.cell? ⟨g, 0, .none⟩ = some (.int .i64 num) ∧ V.cell? ⟨g, 4, .none⟩ = some (.int .i64 lk) ∧ V.cell? ⟨g, 5, .none⟩ = some (.int .i64 rf) ∧ V.cell? ⟨g, 6, .none⟩ = some (.int .i64 sz) ∧ V.cell? ⟨g, 7, .none⟩ = some (.slice bp bn bc) ∧ (Instr.lookup 77 (.map (some m2)) (.agg #[.int .i64 3, .int .i64 num]) false).run Try.prog V = .ok (.int .i64 c) V) 52 (by kernel_rfl) ?_
   change wpSet _ _ _ _ _ _ _ (pre (52 + 1) 0) _ _
   refine oT 0 15 (.pointer (some ⟨s, 0, .none⟩)) HG hS rfl ?_
   simp only [x0,x1,x2,x3]
   refine oT 1 16 (.pointer (some ⟨s, 0, .none⟩)) HG hS rfl ?_
   simp only [x0,x1,x2,x3]
   refine oT 2 17 (.pointer (some ⟨s, 0, .none⟩)) HG hS rfl ?_
   simp only [x0,x1,x2,x3]
   refine oT 3 18 (.pointer (some ⟨s, 3, .none⟩)) HG hS rfl ?_
   simp only [x0,x1,x2,x3]
   refine oT 4 19 (.slice (some ⟨b, o, .none⟩) n pc) HG hS rfl ?_ (fun ww hSw => by obtain ⟨q1, q2, q3, q4, q5, q6, q7, q8⟩ := hSw; go_simp)
   simp only [x0,x1,x2,x3]
   refine oT 5 20 (.int .i64 i) HG hS rfl ?_
   simp only [x0,x1,x2,x3]
   refine oT 6 21 (.func (.func 75) #[] #[]) HG hS rfl ?_
   simp only [x0,x1,x2,x3]
   refine one_only (k := 7) (by kernel_rfl) (by decide) rfl (by rfl) (fun K hK => ?_)
   go_simp
   go_at_call 76
   refine (HC2.out _ HBd.out).mono ?_
   rintro e V1 ⟨rfl, hv1⟩
   have HB1 : Hid (Below W1.heap.size W1 V1) := HBd.out.trans (hv1.mono HBd.out.size)
   have hS1 := HK.out _ HB1.out
   clear hS hv1
   refine hK.out _ _ (fun _ => hS1) ?_
   clear hK K
   try simp only [x0,x1,x2,x3,x4,x5,x6]
   refine oT 8 23 (.bool true) HG hS1 rfl ?_
   simp only [x0,x1,x2,x3]
   refine oT 9 24 (.pointer (some ⟨g, 5, .none⟩)) HG hS1 rfl ?_
   simp only [x0,x1,x2,x3]
   refine oT 10 25 (.int .i64 rf) HG hS1 rfl ?_ (fun ww hSw => by obtain ⟨q1, q2, q3, q4, q5, q6, q7, q8⟩ := hSw; go_simp)
   simp only [x0,x1,x2,x3]
   refine oT 11 26 (.pointer (some ⟨s, 0, .none⟩)) HG hS1 rfl ?_
   simp only [x0,x1,x2,x3]
   refine oT 12 27 (.pointer (some ⟨s, 0, .none⟩)) HG hS1 rfl ?_
   simp only [x0,x1,x2,x3]
   refine oT 13 28 (.pointer (some ⟨s, 14, .none⟩)) HG hS1 rfl ?_
   simp only [x0,x1,x2,x3]
   refine oT 14 29 (.map (some m2)) HG hS1 rfl ?_ (fun ww hSw => by obtain ⟨q1, q2, q3, q4, q5, q6, q7, q8⟩ := hSw; go_simp)
   simp only [x0,x1,x2,x3]
   refine oT 15 30 (.pointer (some ⟨g, 0, .none⟩)) HG hS1 rfl ?_
   simp only [x0,x1,x2,x3]
   refine oT 16 31 (.int .i64 num) HG hS1 rfl ?_ (fun ww hSw => by obtain ⟨q1, q2, q3, q4, q5, q6, q7, q8⟩ := hSw; go_simp)
   simp only [x0,x1,x2,x3]
   refine oT 17 32 (.agg #[.int .i64 3, .int .i64 num]) HG hS1 rfl ?_
   simp only [x0,x1,x2,x3]
   refine oT 18 33 (.int .i64 c) HG hS1 rfl ?_ (fun ww hSw => by obtain ⟨q1, q2, q3, q4, q5, q6, q7, q8⟩ := hSw; go_simp)
   simp only [x0,x1,x2,x3]
   refine oT 19 34 (.bool true) HG hS1 rfl ?_
   simp only [x0,x1,x2,x3]
   refine oT 20 35 (.bool true) HG hS1 rfl ?_
   simp only [x0,x1,x2,x3]
   refine oT 21 36 (.bool true) HG hS1 rfl ?_
   simp only [x0,x1,x2,x3]
   refine oT 22 37 (.pointer (some ⟨g, 4, .none⟩)) HG hS1 rfl ?_
   simp only [x0,x1,x2,x3]
   refine oT 23 38 (.int .i64 lk) HG hS1 rfl ?_ (fun ww hSw => by obtain ⟨q1, q2, q3, q4, q5, q6, q7, q8⟩ := hSw; go_simp)
   simp only [x0,x1,x2,x3]
   refine oT 24 39 (.bool true) HG hS1 rfl ?_
   simp only [x0,x1,x2,x3]
   refine oT 25 40 (.bool true) HG hS1 rfl ?_
   simp only [x0,x1,x2,x3]
   refine oS 26 41 HG hS1 rfl ?_
   simp only [x0,x1,x2,x3]
   refine oS 27 42 HG hS1 rfl ?_
   simp only [x0,x1,x2,x3]
   refine oS 28 43 HG hS1 rfl ?_
   simp only [x0,x1,x2,x3]
   refine oT 29 44 (.bool true) HG hS1 rfl ?_
   simp only [x0,x1,x2,x3]
   refine oT 30 45 (.bool true) HG hS1 rfl ?_
   simp only [x0,x1,x2,x3]
   refine oS 31 46 HG hS1 rfl ?_
   simp only [x0,x1,x2,x3]
   refine oS 32 47 HG hS1 rfl ?_
   simp only [x0,x1,x2,x3]
   refine oS 33 48 HG hS1 rfl ?_
   simp only [x0,x1,x2,x3]
   refine oT 34 49 (.bool true) HG hS1 rfl ?_
   simp only [x0,x1,x2,x3]
   refine oT 35 50 (.bool true) HG hS1 rfl ?_
   simp only [x0,x1,x2,x3]
   refine oT 36 51 (.bool true) HG hS1 rfl ?_
   simp only [x0,x1,x2,x3]
   refine oT 37 52 (.pointer (some ⟨g, 6, .none⟩)) HG hS1 rfl ?_
   simp only [x0,x1,x2,x3]
   refine oT 38 53 (.int .i64 sz) HG hS1 rfl ?_ (fun ww hSw => by obtain ⟨q1, q2, q3, q4, q5, q6, q7, q8⟩ := hSw; go_simp)
   simp only [x0,x1,x2,x3]
   refine oT 39 54 (.bool true) HG hS1 rfl ?_
   simp only [x0,x1,x2,x3]
   refine oT 40 55 (.bool true) HG hS1 rfl ?_
   simp only [x0,x1,x2,x3]
   refine oT 41 56 (.bool true) HG hS1 rfl ?_
   simp only [x0,x1,x2,x3]
   refine oT 42 57 (.pointer (some ⟨g, 7, .none⟩)) HG hS1 rfl ?_
   simp only [x0,x1,x2,x3]
   refine oT 43 58 (.slice bp bn bc) HG hS1 rfl ?_ (fun ww hSw => by obtain ⟨q1, q2, q3, q4, q5, q6, q7, q8⟩ := hSw; go_simp)
   simp only [x0,x1,x2,x3]
   refine oT 44 59 (.int .i64 (bn : Nat)) HG hS1 rfl ?_
   simp only [x0,x1,x2,x3]
   refine oT 45 60 (.int .u64 (bn : Nat)) HG hS1 rfl ?_
   simp only [x0,x1,x2,x3]
   refine oT 46 61 (.pointer (some ⟨g, 6, .none⟩)) HG hS1 rfl ?_
   simp only [x0,x1,x2,x3]
   refine oT 47 62 (.int .i64 sz) HG hS1 rfl ?_ (fun ww hSw => by obtain ⟨q1, q2, q3, q4, q5, q6, q7, q8⟩ := hSw; go_simp)
   simp only [x0,x1,x2,x3]
   refine oT 48 63 (.int .u64 sz) HG hS1 rfl ?_
   simp only [x0,x1,x2,x3]
   refine one_only (k := 49) (by kernel_rfl) (by decide) rfl (by rfl) (fun K hK => ?_)
   go_simp
   go_at_call 70
   refine (begun_any sz 4096 hsz0 (by omega) (.inr rfl) _).mono ?_
   rintro e V2 ⟨rfl, rfl⟩
   rw [← HBG.out]
   refine hK.out _ _ (fun _ => hS1) ?_
   clear hK K
   try simp only [x0,x1,x2,x3,x4,x5,x6]
   refine oT 50 65 (.bool qb) HG hS1 rfl ?_
   simp only [x0,x1,x2,x3]
   refine oT 51 66 (.bool qb) HG hS1 rfl ?_
   simp only [x0,x1,x2,x3]
   refine set_tail 1 52 _ _ _ _ (by kernel_rfl) (by decide) ?_
   simp only [List.toList_toArray, List.drop_succ_cons, List.drop_zero]
   clear hS1
   go_wp2
   go_ret
   exact ⟨by rw [HQ.out]; show Ending.returned (.bool qb) = _; simp [e1, e2, hsz0, hqb], HFB.out _ HB1.out⟩
 have e2 : (lk != 0) = false := by simp [a1]
 clear a1
 by_cases a2 : rf = 0
 case neg =>
  have e3 : (rf != 0) = true := by simp [a2]
  clear a2
  by_cases g3 : 0 ≤ sz
  case neg => as_aux_lemma =>
   refine region_one (fun V => V.cell? ⟨s, 3, .none⟩ = some (.slice (some ⟨b, o, .none⟩) n pc) ∧ V.cell? ⟨s, 14, .none⟩ = some (.map (some m2)) ∧ V.cell? ⟨g, 0, .none⟩ = some (.int .i64 num) ∧ V.cell? ⟨g, 4, .none⟩ = some (.int .i64 lk) ∧ V.cell? ⟨g, 5, .none⟩ = some (.int .i64 rf) ∧ V.cell? ⟨g, 6, .none⟩ = some (.int .i64 sz) ∧ V.cell? ⟨g, 7, .none⟩ = some (.slice bp bn bc) ∧ (Instr.lookup 77 (.map (some m2)) (.agg #[.int .i64 3, .int .i64 num]) false).run Try.prog V = .ok (.int .i64 c) V) 52 (by kernel_rfl) ?_
   change wpSet _ _ _ _ _ _ _ (pre (52 + 1) 0) _ _
   refine oT 0 15 (.pointer (some ⟨s, 0, .none⟩)) HG hS rfl ?_
   simp only [x0,x1,x2,x3]
   refine oT 1 16 (.pointer (some ⟨s, 0, .none⟩)) HG hS rfl ?_
   simp only [x0,x1,x2,x3]
   refine oT 2 17 (.pointer (some ⟨s, 0, .none⟩)) HG hS rfl ?_
   simp only [x0,x1,x2,x3]
   refine oT 3 18 (.pointer (some ⟨s, 3, .none⟩)) HG hS rfl ?_
   simp only [x0,x1,x2,x3]
   refine oT 4 19 (.slice (some ⟨b, o, .none⟩) n pc) HG hS rfl ?_ (fun ww hSw => by obtain ⟨q1, q2, q3, q4, q5, q6, q7, q8⟩ := hSw; go_simp)
   simp only [x0,x1,x2,x3]
   refine oT 5 20 (.int .i64 i) HG hS rfl ?_
   simp only [x0,x1,x2,x3]
   refine oT 6 21 (.func (.func 75) #[] #[]) HG hS rfl ?_
   simp only [x0,x1,x2,x3]
   refine one_only (k := 7) (by kernel_rfl) (by decide) rfl (by rfl) (fun K hK => ?_)
   go_simp
   go_at_call 76
   refine (HC2.out _ HBd.out).mono ?_
   rintro e V1 ⟨rfl, hv1⟩
   have HB1 : Hid (Below W1.heap.size W1 V1) := HBd.out.trans (hv1.mono HBd.out.size)
   have hS1 := HK.out _ HB1.out
   clear hS hv1
   refine hK.out _ _ (fun _ => hS1) ?_
   clear hK K
   try simp only [x0,x1,x2,x3,x4,x5,x6]
   refine oT 8 23 (.bool true) HG hS1 rfl ?_
   simp only [x0,x1,x2,x3]
   refine oT 9 24 (.pointer (some ⟨g, 5, .none⟩)) HG hS1 rfl ?_
   simp only [x0,x1,x2,x3]
   refine oT 10 25 (.int .i64 rf) HG hS1 rfl ?_ (fun ww hSw => by obtain ⟨q1, q2, q3, q4, q5, q6, q7, q8⟩ := hSw; go_simp)
   simp only [x0,x1,x2,x3]
   refine oT 11 26 (.pointer (some ⟨s, 0, .none⟩)) HG hS1 rfl ?_
   simp only [x0,x1,x2,x3]
   refine oT 12 27 (.pointer (some ⟨s, 0, .none⟩)) HG hS1 rfl ?_
   simp only [x0,x1,x2,x3]
   refine oT 13 28 (.pointer (some ⟨s, 14, .none⟩)) HG hS1 rfl ?_
   simp only [x0,x1,x2,x3]
   refine oT 14 29 (.map (some m2)) HG hS1 rfl ?_ (fun ww hSw => by obtain ⟨q1, q2, q3, q4, q5, q6, q7, q8⟩ := hSw; go_simp)
   simp only [x0,x1,x2,x3]
   refine oT 15 30 (.pointer (some ⟨g, 0, .none⟩)) HG hS1 rfl ?_
   simp only [x0,x1,x2,x3]
   refine oT 16 31 (.int .i64 num) HG hS1 rfl ?_ (fun ww hSw => by obtain ⟨q1, q2, q3, q4, q5, q6, q7, q8⟩ := hSw; go_simp)
   simp only [x0,x1,x2,x3]
   refine oT 17 32 (.agg #[.int .i64 3, .int .i64 num]) HG hS1 rfl ?_
   simp only [x0,x1,x2,x3]
   refine oT 18 33 (.int .i64 c) HG hS1 rfl ?_ (fun ww hSw => by obtain ⟨q1, q2, q3, q4, q5, q6, q7, q8⟩ := hSw; go_simp)
   simp only [x0,x1,x2,x3]
   refine oT 19 34 (.bool true) HG hS1 rfl ?_
   simp only [x0,x1,x2,x3]
   refine oT 20 35 (.bool true) HG hS1 rfl ?_
   simp only [x0,x1,x2,x3]
   refine oT 21 36 (.bool true) HG hS1 rfl ?_
   simp only [x0,x1,x2,x3]
   refine oT 22 37 (.pointer (some ⟨g, 4, .none⟩)) HG hS1 rfl ?_
   simp only [x0,x1,x2,x3]
   refine oT 23 38 (.int .i64 lk) HG hS1 rfl ?_ (fun ww hSw => by obtain ⟨q1, q2, q3, q4, q5, q6, q7, q8⟩ := hSw; go_simp)
   simp only [x0,x1,x2,x3]
   refine oT 24 39 (.bool false) HG hS1 rfl ?_
   simp only [x0,x1,x2,x3]
   refine oT 25 40 (.bool false) HG hS1 rfl ?_
   simp only [x0,x1,x2,x3]
   refine oT 26 41 (.pointer (some ⟨g, 5, .none⟩)) HG hS1 rfl ?_
   simp only [x0,x1,x2,x3]
   refine oT 27 42 (.int .i64 rf) HG hS1 rfl ?_ (fun ww hSw => by obtain ⟨q1, q2, q3, q4, q5, q6, q7, q8⟩ := hSw; go_simp)
   simp only [x0,x1,x2,x3]
   refine oT 28 43 (.bool true) HG hS1 rfl ?_
   simp only [x0,x1,x2,x3]
   refine oT 29 44 (.bool true) HG hS1 rfl ?_
   simp only [x0,x1,x2,x3]
   refine oT 30 45 (.bool true) HG hS1 rfl ?_
   simp only [x0,x1,x2,x3]
   refine oS 31 46 HG hS1 rfl ?_
   simp only [x0,x1,x2,x3]
   refine oS 32 47 HG hS1 rfl ?_
   simp only [x0,x1,x2,x3]
   refine oS 33 48 HG hS1 rfl ?_
   simp only [x0,x1,x2,x3]
   refine oT 34 49 (.bool true) HG hS1 rfl ?_
   simp only [x0,x1,x2,x3]
   refine oT 35 50 (.bool true) HG hS1 rfl ?_
   simp only [x0,x1,x2,x3]
   refine oT 36 51 (.bool true) HG hS1 rfl ?_
   simp only [x0,x1,x2,x3]
   refine oT 37 52 (.pointer (some ⟨g, 6, .none⟩)) HG hS1 rfl ?_
   simp only [x0,x1,x2,x3]
   refine oT 38 53 (.int .i64 sz) HG hS1 rfl ?_ (fun ww hSw => by obtain ⟨q1, q2, q3, q4, q5, q6, q7, q8⟩ := hSw; go_simp)
   simp only [x0,x1,x2,x3]
   refine oT 39 54 (.bool false) HG hS1 rfl ?_
   simp only [x0,x1,x2,x3]
   refine oT 40 55 (.bool false) HG hS1 rfl ?_
   simp only [x0,x1,x2,x3]
   refine oT 41 56 (.bool false) HG hS1 rfl ?_
   simp only [x0,x1,x2,x3]
   refine oS 42 57 HG hS1 rfl ?_
   simp only [x0,x1,x2,x3]
   refine oS 43 58 HG hS1 rfl ?_
   simp only [x0,x1,x2,x3]
   refine oS 44 59 HG hS1 rfl ?_
   simp only [x0,x1,x2,x3]
   refine oS 45 60 HG hS1 rfl ?_
   simp only [x0,x1,x2,x3]
   refine oS 46 61 HG hS1 rfl ?_
   simp only [x0,x1,x2,x3]
   refine oS 47 62 HG hS1 rfl ?_
   simp only [x0,x1,x2,x3]
   refine oS 48 63 HG hS1 rfl ?_
   simp only [x0,x1,x2,x3]
   refine oS 49 64 HG hS1 rfl ?_
   simp only [x0,x1,x2,x3]
   refine oS 50 65 HG hS1 rfl ?_
   simp only [x0,x1,x2,x3]
   refine oT 51 66 (.bool false) HG hS1 rfl ?_
   simp only [x0,x1,x2,x3]
   refine set_tail 1 52 _ _ _ _ (by kernel_rfl) (by decide) ?_
   simp only [List.toList_toArray, List.drop_succ_cons, List.drop_zero]
   clear hS1
   go_wp2
   go_ret
   exact ⟨by rw [HQ.out]; show Ending.returned (.bool false) = _; simp [e1, e2, e3, show ¬ 0 ≤ sz by omega], HFB.out _ HB1.out⟩
  as_aux_lemma =>
   have hsz0 : 0 ≤ sz := g3
   have hwz : IntKind.u64.wrap sz = sz := by rw [IntKind.wrap_u64]; omega
   have hwb : IntKind.u64.wrap (bn : Int) = (bn : Int) := by rw [IntKind.wrap_u64]; omega
   obtain ⟨qb, hqb⟩ : ∃ qb, ((bn : Int) == bgv) = qb := ⟨_, rfl⟩
   refine region_one (fun V => V.cell? ⟨s, 3, .none⟩ = some (.slice (some ⟨b, o, .none⟩) n pc) ∧ V.cell? ⟨s, 14, .none⟩ = some (.map (some m2)) ∧ V.cell? ⟨g, 0, .none⟩ = some (.int .i64 num) ∧ V.cell? ⟨g, 4, .none⟩ = some (.int .i64 lk) ∧ V.cell? ⟨g, 5, .none⟩ = some (.int .i64 rf) ∧ V.cell? ⟨g, 6, .none⟩ = some (.int .i64 sz) ∧ V.cell? ⟨g, 7, .none⟩ = some (.slice bp bn bc) ∧ (Instr.lookup 77 (.map (some m2)) (.agg #[.int .i64 3, .int .i64 num]) false).run Try.prog V = .ok (.int .i64 c) V) 52 (by kernel_rfl) ?_
   change wpSet _ _ _ _ _ _ _ (pre (52 + 1) 0) _ _
   refine oT 0 15 (.pointer (some ⟨s, 0, .none⟩)) HG hS rfl ?_
   simp only [x0,x1,x2,x3]
   refine oT 1 16 (.pointer (some ⟨s, 0, .none⟩)) HG hS rfl ?_
   simp only [x0,x1,x2,x3]
   refine oT 2 17 (.pointer (some ⟨s, 0, .none⟩)) HG hS rfl ?_
   simp only [x0,x1,x2,x3]
   refine oT 3 18 (.pointer (some ⟨s, 3, .none⟩)) HG hS rfl ?_
   simp only [x0,x1,x2,x3]
   refine oT 4 19 (.slice (some ⟨b, o, .none⟩) n pc) HG hS rfl ?_ (fun ww hSw => by obtain ⟨q1, q2, q3, q4, q5, q6, q7, q8⟩ := hSw; go_simp)
   simp only [x0,x1,x2,x3]
   refine oT 5 20 (.int .i64 i) HG hS rfl ?_
   simp only [x0,x1,x2,x3]
   refine oT 6 21 (.func (.func 75) #[] #[]) HG hS rfl ?_
   simp only [x0,x1,x2,x3]
   refine one_only (k := 7) (by kernel_rfl) (by decide) rfl (by rfl) (fun K hK => ?_)
   go_simp
   go_at_call 76
   refine (HC2.out _ HBd.out).mono ?_
   rintro e V1 ⟨rfl, hv1⟩
   have HB1 : Hid (Below W1.heap.size W1 V1) := HBd.out.trans (hv1.mono HBd.out.size)
   have hS1 := HK.out _ HB1.out
   clear hS hv1
   refine hK.out _ _ (fun _ => hS1) ?_
   clear hK K
   try simp only [x0,x1,x2,x3,x4,x5,x6]
   refine oT 8 23 (.bool true) HG hS1 rfl ?_
   simp only [x0,x1,x2,x3]
   refine oT 9 24 (.pointer (some ⟨g, 5, .none⟩)) HG hS1 rfl ?_
   simp only [x0,x1,x2,x3]
   refine oT 10 25 (.int .i64 rf) HG hS1 rfl ?_ (fun ww hSw => by obtain ⟨q1, q2, q3, q4, q5, q6, q7, q8⟩ := hSw; go_simp)
   simp only [x0,x1,x2,x3]
   refine oT 11 26 (.pointer (some ⟨s, 0, .none⟩)) HG hS1 rfl ?_
   simp only [x0,x1,x2,x3]
   refine oT 12 27 (.pointer (some ⟨s, 0, .none⟩)) HG hS1 rfl ?_
   simp only [x0,x1,x2,x3]
   refine oT 13 28 (.pointer (some ⟨s, 14, .none⟩)) HG hS1 rfl ?_
   simp only [x0,x1,x2,x3]
   refine oT 14 29 (.map (some m2)) HG hS1 rfl ?_ (fun ww hSw => by obtain ⟨q1, q2, q3, q4, q5, q6, q7, q8⟩ := hSw; go_simp)
   simp only [x0,x1,x2,x3]
   refine oT 15 30 (.pointer (some ⟨g, 0, .none⟩)) HG hS1 rfl ?_
   simp only [x0,x1,x2,x3]
   refine oT 16 31 (.int .i64 num) HG hS1 rfl ?_ (fun ww hSw => by obtain ⟨q1, q2, q3, q4, q5, q6, q7, q8⟩ := hSw; go_simp)
   simp only [x0,x1,x2,x3]
   refine oT 17 32 (.agg #[.int .i64 3, .int .i64 num]) HG hS1 rfl ?_
   simp only [x0,x1,x2,x3]
   refine oT 18 33 (.int .i64 c) HG hS1 rfl ?_ (fun ww hSw => by obtain ⟨q1, q2, q3, q4, q5, q6, q7, q8⟩ := hSw; go_simp)
   simp only [x0,x1,x2,x3]
   refine oT 19 34 (.bool true) HG hS1 rfl ?_
   simp only [x0,x1,x2,x3]
   refine oT 20 35 (.bool true) HG hS1 rfl ?_
   simp only [x0,x1,x2,x3]
   refine oT 21 36 (.bool true) HG hS1 rfl ?_
   simp only [x0,x1,x2,x3]
   refine oT 22 37 (.pointer (some ⟨g, 4, .none⟩)) HG hS1 rfl ?_
   simp only [x0,x1,x2,x3]
   refine oT 23 38 (.int .i64 lk) HG hS1 rfl ?_ (fun ww hSw => by obtain ⟨q1, q2, q3, q4, q5, q6, q7, q8⟩ := hSw; go_simp)
   simp only [x0,x1,x2,x3]
   refine oT 24 39 (.bool false) HG hS1 rfl ?_
   simp only [x0,x1,x2,x3]
   refine oT 25 40 (.bool false) HG hS1 rfl ?_
   simp only [x0,x1,x2,x3]
   refine oT 26 41 (.pointer (some ⟨g, 5, .none⟩)) HG hS1 rfl ?_
   simp only [x0,x1,x2,x3]
   refine oT 27 42 (.int .i64 rf) HG hS1 rfl ?_ (fun ww hSw => by obtain ⟨q1, q2, q3, q4, q5, q6, q7, q8⟩ := hSw; go_simp)
   simp only [x0,x1,x2,x3]
   refine oT 28 43 (.bool true) HG hS1 rfl ?_
   simp only [x0,x1,x2,x3]
   refine oT 29 44 (.bool true) HG hS1 rfl ?_
   simp only [x0,x1,x2,x3]
   refine oT 30 45 (.bool true) HG hS1 rfl ?_
   simp only [x0,x1,x2,x3]
   refine oS 31 46 HG hS1 rfl ?_
   simp only [x0,x1,x2,x3]
   refine oS 32 47 HG hS1 rfl ?_
   simp only [x0,x1,x2,x3]
   refine oS 33 48 HG hS1 rfl ?_
   simp only [x0,x1,x2,x3]
   refine oT 34 49 (.bool true) HG hS1 rfl ?_
   simp only [x0,x1,x2,x3]
   refine oT 35 50 (.bool true) HG hS1 rfl ?_
   simp only [x0,x1,x2,x3]
   refine oT 36 51 (.bool true) HG hS1 rfl ?_
   simp only [x0,x1,x2,x3]
   refine oT 37 52 (.pointer (some ⟨g, 6, .none⟩)) HG hS1 rfl ?_
   simp only [x0,x1,x2,x3]
   refine oT 38 53 (.int .i64 sz) HG hS1 rfl ?_ (fun ww hSw => by obtain ⟨q1, q2, q3, q4, q5, q6, q7, q8⟩ := hSw; go_simp)
   simp only [x0,x1,x2,x3]
   refine oT 39 54 (.bool true) HG hS1 rfl ?_
   simp only [x0,x1,x2,x3]
   refine oT 40 55 (.bool true) HG hS1 rfl ?_
   simp only [x0,x1,x2,x3]
   refine oT 41 56 (.bool true) HG hS1 rfl ?_
   simp only [x0,x1,x2,x3]
   refine oT 42 57 (.pointer (some ⟨g, 7, .none⟩)) HG hS1 rfl ?_
   simp only [x0,x1,x2,x3]
   refine oT 43 58 (.slice bp bn bc) HG hS1 rfl ?_ (fun ww hSw => by obtain ⟨q1, q2, q3, q4, q5, q6, q7, q8⟩ := hSw; go_simp)
   simp only [x0,x1,x2,x3]
   refine oT 44 59 (.int .i64 (bn : Nat)) HG hS1 rfl ?_
   simp only [x0,x1,x2,x3]
   refine oT 45 60 (.int .u64 (bn : Nat)) HG hS1 rfl ?_
   simp only [x0,x1,x2,x3]
   refine oT 46 61 (.pointer (some ⟨g, 6, .none⟩)) HG hS1 rfl ?_
   simp only [x0,x1,x2,x3]
   refine oT 47 62 (.int .i64 sz) HG hS1 rfl ?_ (fun ww hSw => by obtain ⟨q1, q2, q3, q4, q5, q6, q7, q8⟩ := hSw; go_simp)
   simp only [x0,x1,x2,x3]
   refine oT 48 63 (.int .u64 sz) HG hS1 rfl ?_
   simp only [x0,x1,x2,x3]
   refine one_only (k := 49) (by kernel_rfl) (by decide) rfl (by rfl) (fun K hK => ?_)
   go_simp
   go_at_call 70
   refine (begun_any sz 4096 hsz0 (by omega) (.inr rfl) _).mono ?_
   rintro e V2 ⟨rfl, rfl⟩
   rw [← HBG.out]
   refine hK.out _ _ (fun _ => hS1) ?_
   clear hK K
   try simp only [x0,x1,x2,x3,x4,x5,x6]
   refine oT 50 65 (.bool qb) HG hS1 rfl ?_
   simp only [x0,x1,x2,x3]
   refine oT 51 66 (.bool qb) HG hS1 rfl ?_
   simp only [x0,x1,x2,x3]
   refine set_tail 1 52 _ _ _ _ (by kernel_rfl) (by decide) ?_
   simp only [List.toList_toArray, List.drop_succ_cons, List.drop_zero]
   clear hS1
   go_wp2
   go_ret
   exact ⟨by rw [HQ.out]; show Ending.returned (.bool qb) = _; simp [e1, e2, e3, hsz0, hqb], HFB.out _ HB1.out⟩
 have e3 : (rf != 0) = false := by simp [a2]
 clear a2
 by_cases a3 : num = 1
 case neg => as_aux_lemma =>
  have e4 : (num == 1) = false := by simp [a3]
  clear a3
  refine region_one (fun V => V.cell? ⟨s, 3, .none⟩ = some (.slice (some ⟨b, o, .none⟩) n pc) ∧ V.cell? ⟨s, 14, .none⟩ = some (.map (some m2)) ∧ V.cell? ⟨g, 0, .none⟩ = some (.int .i64 num) ∧ V.cell? ⟨g, 4, .none⟩ = some (.int .i64 lk) ∧ V.cell? ⟨g, 5, .none⟩ = some (.int .i64 rf) ∧ V.cell? ⟨g, 6, .none⟩ = some (.int .i64 sz) ∧ V.cell? ⟨g, 7, .none⟩ = some (.slice bp bn bc) ∧ (Instr.lookup 77 (.map (some m2)) (.agg #[.int .i64 3, .int .i64 num]) false).run Try.prog V = .ok (.int .i64 c) V) 52 (by kernel_rfl) ?_
  change wpSet _ _ _ _ _ _ _ (pre (52 + 1) 0) _ _
  refine oT 0 15 (.pointer (some ⟨s, 0, .none⟩)) HG hS rfl ?_
  simp only [x0,x1,x2,x3]
  refine oT 1 16 (.pointer (some ⟨s, 0, .none⟩)) HG hS rfl ?_
  simp only [x0,x1,x2,x3]
  refine oT 2 17 (.pointer (some ⟨s, 0, .none⟩)) HG hS rfl ?_
  simp only [x0,x1,x2,x3]
  refine oT 3 18 (.pointer (some ⟨s, 3, .none⟩)) HG hS rfl ?_
  simp only [x0,x1,x2,x3]
  refine oT 4 19 (.slice (some ⟨b, o, .none⟩) n pc) HG hS rfl ?_ (fun ww hSw => by obtain ⟨q1, q2, q3, q4, q5, q6, q7, q8⟩ := hSw; go_simp)
  simp only [x0,x1,x2,x3]
  refine oT 5 20 (.int .i64 i) HG hS rfl ?_
  simp only [x0,x1,x2,x3]
  refine oT 6 21 (.func (.func 75) #[] #[]) HG hS rfl ?_
  simp only [x0,x1,x2,x3]
  refine one_only (k := 7) (by kernel_rfl) (by decide) rfl (by rfl) (fun K hK => ?_)
  go_simp
  go_at_call 76
  refine (HC2.out _ HBd.out).mono ?_
  rintro e V1 ⟨rfl, hv1⟩
  have HB1 : Hid (Below W1.heap.size W1 V1) := HBd.out.trans (hv1.mono HBd.out.size)
  have hS1 := HK.out _ HB1.out
  clear hS hv1
  refine hK.out _ _ (fun _ => hS1) ?_
  clear hK K
  try simp only [x0,x1,x2,x3,x4,x5,x6]
  refine oT 8 23 (.bool true) HG hS1 rfl ?_
  simp only [x0,x1,x2,x3]
  refine oT 9 24 (.pointer (some ⟨g, 5, .none⟩)) HG hS1 rfl ?_
  simp only [x0,x1,x2,x3]
  refine oT 10 25 (.int .i64 rf) HG hS1 rfl ?_ (fun ww hSw => by obtain ⟨q1, q2, q3, q4, q5, q6, q7, q8⟩ := hSw; go_simp)
  simp only [x0,x1,x2,x3]
  refine oT 11 26 (.pointer (some ⟨s, 0, .none⟩)) HG hS1 rfl ?_
  simp only [x0,x1,x2,x3]
  refine oT 12 27 (.pointer (some ⟨s, 0, .none⟩)) HG hS1 rfl ?_
  simp only [x0,x1,x2,x3]
  refine oT 13 28 (.pointer (some ⟨s, 14, .none⟩)) HG hS1 rfl ?_
  simp only [x0,x1,x2,x3]
  refine oT 14 29 (.map (some m2)) HG hS1 rfl ?_ (fun ww hSw => by obtain ⟨q1, q2, q3, q4, q5, q6, q7, q8⟩ := hSw; go_simp)
  simp only [x0,x1,x2,x3]
  refine oT 15 30 (.pointer (some ⟨g, 0, .none⟩)) HG hS1 rfl ?_
  simp only [x0,x1,x2,x3]
  refine oT 16 31 (.int .i64 num) HG hS1 rfl ?_ (fun ww hSw => by obtain ⟨q1, q2, q3, q4, q5, q6, q7, q8⟩ := hSw; go_simp)
  simp only [x0,x1,x2,x3]
  refine oT 17 32 (.agg #[.int .i64 3, .int .i64 num]) HG hS1 rfl ?_
  simp only [x0,x1,x2,x3]
  refine oT 18 33 (.int .i64 c) HG hS1 rfl ?_ (fun ww hSw => by obtain ⟨q1, q2, q3, q4, q5, q6, q7, q8⟩ := hSw; go_simp)
  simp only [x0,x1,x2,x3]
  refine oT 19 34 (.bool true) HG hS1 rfl ?_
  simp only [x0,x1,x2,x3]
  refine oT 20 35 (.bool true) HG hS1 rfl ?_
  simp only [x0,x1,x2,x3]
  refine oT 21 36 (.bool true) HG hS1 rfl ?_
  simp only [x0,x1,x2,x3]
  refine oT 22 37 (.pointer (some ⟨g, 4, .none⟩)) HG hS1 rfl ?_
  simp only [x0,x1,x2,x3]
  refine oT 23 38 (.int .i64 lk) HG hS1 rfl ?_ (fun ww hSw => by obtain ⟨q1, q2, q3, q4, q5, q6, q7, q8⟩ := hSw; go_simp)
  simp only [x0,x1,x2,x3]
  refine oT 24 39 (.bool false) HG hS1 rfl ?_
  simp only [x0,x1,x2,x3]
  refine oT 25 40 (.bool false) HG hS1 rfl ?_
  simp only [x0,x1,x2,x3]
  refine oT 26 41 (.pointer (some ⟨g, 5, .none⟩)) HG hS1 rfl ?_
  simp only [x0,x1,x2,x3]
  refine oT 27 42 (.int .i64 rf) HG hS1 rfl ?_ (fun ww hSw => by obtain ⟨q1, q2, q3, q4, q5, q6, q7, q8⟩ := hSw; go_simp)
  simp only [x0,x1,x2,x3]
  refine oT 28 43 (.bool false) HG hS1 rfl ?_
  simp only [x0,x1,x2,x3]
  refine oT 29 44 (.bool false) HG hS1 rfl ?_
  simp only [x0,x1,x2,x3]
  refine oT 30 45 (.bool false) HG hS1 rfl ?_
  simp only [x0,x1,x2,x3]
  refine oT 31 46 (.pointer (some ⟨g, 0, .none⟩)) HG hS1 rfl ?_
  simp only [x0,x1,x2,x3]
  refine oT 32 47 (.int .i64 num) HG hS1 rfl ?_ (fun ww hSw => by obtain ⟨q1, q2, q3, q4, q5, q6, q7, q8⟩ := hSw; go_simp)
  simp only [x0,x1,x2,x3]
  refine oT 33 48 (.bool false) HG hS1 rfl ?_
  simp only [x0,x1,x2,x3]
  refine oT 34 49 (.bool false) HG hS1 rfl ?_
  simp only [x0,x1,x2,x3]
  refine oT 35 50 (.bool false) HG hS1 rfl ?_
  simp only [x0,x1,x2,x3]
  refine oT 36 51 (.bool false) HG hS1 rfl ?_
  simp only [x0,x1,x2,x3]
  refine oS 37 52 HG hS1 rfl ?_
  simp only [x0,x1,x2,x3]
  refine oS 38 53 HG hS1 rfl ?_
  simp only [x0,x1,x2,x3]
  refine oS 39 54 HG hS1 rfl ?_
  simp only [x0,x1,x2,x3]
  refine oT 40 55 (.bool false) HG hS1 rfl ?_
  simp only [x0,x1,x2,x3]
  refine oT 41 56 (.bool false) HG hS1 rfl ?_
  simp only [x0,x1,x2,x3]
  refine oS 42 57 HG hS1 rfl ?_
  simp only [x0,x1,x2,x3]
  refine oS 43 58 HG hS1 rfl ?_
  simp only [x0,x1,x2,x3]
  refine oS 44 59 HG hS1 rfl ?_
  simp only [x0,x1,x2,x3]
  refine oS 45 60 HG hS1 rfl ?_
  simp only [x0,x1,x2,x3]
  refine oS 46 61 HG hS1 rfl ?_
  simp only [x0,x1,x2,x3]
  refine oS 47 62 HG hS1 rfl ?_
  simp only [x0,x1,x2,x3]
  refine oS 48 63 HG hS1 rfl ?_
  simp only [x0,x1,x2,x3]
  refine oS 49 64 HG hS1 rfl ?_
  simp only [x0,x1,x2,x3]
  refine oS 50 65 HG hS1 rfl ?_
  simp only [x0,x1,x2,x3]
  refine oT 51 66 (.bool false) HG hS1 rfl ?_
  simp only [x0,x1,x2,x3]
  refine set_tail 1 52 _ _ _ _ (by kernel_rfl) (by decide) ?_
  simp only [List.toList_toArray, List.drop_succ_cons, List.drop_zero]
  clear hS1
  go_wp2
  go_ret
  exact ⟨by rw [HQ.out]; show Ending.returned (.bool false) = _; simp [e1, e2, e3, e4], HFB.out _ HB1.out⟩
 have e4 : (num == 1) = true := by simp [a3]
 clear a3
 by_cases g3 : 0 ≤ sz
 case neg => as_aux_lemma =>
  refine region_one (fun V => V.cell? ⟨s, 3, .none⟩ = some (.slice (some ⟨b, o, .none⟩) n pc) ∧ V.cell? ⟨s, 14, .none⟩ = some (.map (some m2)) ∧ V.cell? ⟨g, 0, .none⟩ = some (.int .i64 num) ∧ V.cell? ⟨g, 4, .none⟩ = some (.int .i64 lk) ∧ V.cell? ⟨g, 5, .none⟩ = some (.int .i64 rf) ∧ V.cell? ⟨g, 6, .none⟩ = some (.int .i64 sz) ∧ V.cell? ⟨g, 7, .none⟩ = some (.slice bp bn bc) ∧ (Instr.lookup 77 (.map (some m2)) (.agg #[.int .i64 3, .int .i64 num]) false).run Try.prog V = .ok (.int .i64 c) V) 52 (by kernel_rfl) ?_
  change wpSet _ _ _ _ _ _ _ (pre (52 + 1) 0) _ _
  refine oT 0 15 (.pointer (some ⟨s, 0, .none⟩)) HG hS rfl ?_
  simp only [x0,x1,x2,x3]
  refine oT 1 16 (.pointer (some ⟨s, 0, .none⟩)) HG hS rfl ?_
  simp only [x0,x1,x2,x3]
  refine oT 2 17 (.pointer (some ⟨s, 0, .none⟩)) HG hS rfl ?_
  simp only [x0,x1,x2,x3]
  refine oT 3 18 (.pointer (some ⟨s, 3, .none⟩)) HG hS rfl ?_
  simp only [x0,x1,x2,x3]
  refine oT 4 19 (.slice (some ⟨b, o, .none⟩) n pc) HG hS rfl ?_ (fun ww hSw => by obtain ⟨q1, q2, q3, q4, q5, q6, q7, q8⟩ := hSw; go_simp)
  simp only [x0,x1,x2,x3]
  refine oT 5 20 (.int .i64 i) HG hS rfl ?_
  simp only [x0,x1,x2,x3]
  refine oT 6 21 (.func (.func 75) #[] #[]) HG hS rfl ?_
  simp only [x0,x1,x2,x3]
  refine one_only (k := 7) (by kernel_rfl) (by decide) rfl (by rfl) (fun K hK => ?_)
  go_simp
  go_at_call 76
  refine (HC2.out _ HBd.out).mono ?_
  rintro e V1 ⟨rfl, hv1⟩
  have HB1 : Hid (Below W1.heap.size W1 V1) := HBd.out.trans (hv1.mono HBd.out.size)
  have hS1 := HK.out _ HB1.out
  clear hS hv1
  refine hK.out _ _ (fun _ => hS1) ?_
  clear hK K
  try simp only [x0,x1,x2,x3,x4,x5,x6]
  refine oT 8 23 (.bool true) HG hS1 rfl ?_
  simp only [x0,x1,x2,x3]
  refine oT 9 24 (.pointer (some ⟨g, 5, .none⟩)) HG hS1 rfl ?_
  simp only [x0,x1,x2,x3]
  refine oT 10 25 (.int .i64 rf) HG hS1 rfl ?_ (fun ww hSw => by obtain ⟨q1, q2, q3, q4, q5, q6, q7, q8⟩ := hSw; go_simp)
  simp only [x0,x1,x2,x3]
  refine oT 11 26 (.pointer (some ⟨s, 0, .none⟩)) HG hS1 rfl ?_
  simp only [x0,x1,x2,x3]
  refine oT 12 27 (.pointer (some ⟨s, 0, .none⟩)) HG hS1 rfl ?_
  simp only [x0,x1,x2,x3]
  refine oT 13 28 (.pointer (some ⟨s, 14, .none⟩)) HG hS1 rfl ?_
  simp only [x0,x1,x2,x3]
  refine oT 14 29 (.map (some m2)) HG hS1 rfl ?_ (fun ww hSw => by obtain ⟨q1, q2, q3, q4, q5, q6, q7, q8⟩ := hSw; go_simp)
  simp only [x0,x1,x2,x3]
  refine oT 15 30 (.pointer (some ⟨g, 0, .none⟩)) HG hS1 rfl ?_
  simp only [x0,x1,x2,x3]
  refine oT 16 31 (.int .i64 num) HG hS1 rfl ?_ (fun ww hSw => by obtain ⟨q1, q2, q3, q4, q5, q6, q7, q8⟩ := hSw; go_simp)
  simp only [x0,x1,x2,x3]
  refine oT 17 32 (.agg #[.int .i64 3, .int .i64 num]) HG hS1 rfl ?_
  simp only [x0,x1,x2,x3]
  refine oT 18 33 (.int .i64 c) HG hS1 rfl ?_ (fun ww hSw => by obtain ⟨q1, q2, q3, q4, q5, q6, q7, q8⟩ := hSw; go_simp)
  simp only [x0,x1,x2,x3]
  refine oT 19 34 (.bool true) HG hS1 rfl ?_
  simp only [x0,x1,x2,x3]
  refine oT 20 35 (.bool true) HG hS1 rfl ?_
  simp only [x0,x1,x2,x3]
  refine oT 21 36 (.bool true) HG hS1 rfl ?_
  simp only [x0,x1,x2,x3]
  refine oT 22 37 (.pointer (some ⟨g, 4, .none⟩)) HG hS1 rfl ?_
  simp only [x0,x1,x2,x3]
  refine oT 23 38 (.int .i64 lk) HG hS1 rfl ?_ (fun ww hSw => by obtain ⟨q1, q2, q3, q4, q5, q6, q7, q8⟩ := hSw; go_simp)
  simp only [x0,x1,x2,x3]
  refine oT 24 39 (.bool false) HG hS1 rfl ?_
  simp only [x0,x1,x2,x3]
  refine oT 25 40 (.bool false) HG hS1 rfl ?_
  simp only [x0,x1,x2,x3]
  refine oT 26 41 (.pointer (some ⟨g, 5, .none⟩)) HG hS1 rfl ?_
  simp only [x0,x1,x2,x3]
  refine oT 27 42 (.int .i64 rf) HG hS1 rfl ?_ (fun ww hSw => by obtain ⟨q1, q2, q3, q4, q5, q6, q7, q8⟩ := hSw; go_simp)
  simp only [x0,x1,x2,x3]
  refine oT 28 43 (.bool false) HG hS1 rfl ?_
  simp only [x0,x1,x2,x3]
  refine oT 29 44 (.bool false) HG hS1 rfl ?_
  simp only [x0,x1,x2,x3]
  refine oT 30 45 (.bool false) HG hS1 rfl ?_
  simp only [x0,x1,x2,x3]
  refine oT 31 46 (.pointer (some ⟨g, 0, .none⟩)) HG hS1 rfl ?_
  simp only [x0,x1,x2,x3]
  refine oT 32 47 (.int .i64 num) HG hS1 rfl ?_ (fun ww hSw => by obtain ⟨q1, q2, q3, q4, q5, q6, q7, q8⟩ := hSw; go_simp)
  simp only [x0,x1,x2,x3]
  refine oT 33 48 (.bool true) HG hS1 rfl ?_
  simp only [x0,x1,x2,x3]
  refine oT 34 49 (.bool true) HG hS1 rfl ?_
  simp only [x0,x1,x2,x3]
  refine oT 35 50 (.bool true) HG hS1 rfl ?_
  simp only [x0,x1,x2,x3]
  refine oT 36 51 (.bool true) HG hS1 rfl ?_
  simp only [x0,x1,x2,x3]
  refine oT 37 52 (.pointer (some ⟨g, 6, .none⟩)) HG hS1 rfl ?_
  simp only [x0,x1,x2,x3]
  refine oT 38 53 (.int .i64 sz) HG hS1 rfl ?_ (fun ww hSw => by obtain ⟨q1, q2, q3, q4, q5, q6, q7, q8⟩ := hSw; go_simp)
  simp only [x0,x1,x2,x3]
  refine oT 39 54 (.bool false) HG hS1 rfl ?_
  simp only [x0,x1,x2,x3]
  refine oT 40 55 (.bool false) HG hS1 rfl ?_
  simp only [x0,x1,x2,x3]
  refine oT 41 56 (.bool false) HG hS1 rfl ?_
  simp only [x0,x1,x2,x3]
  refine oS 42 57 HG hS1 rfl ?_
  simp only [x0,x1,x2,x3]
  refine oS 43 58 HG hS1 rfl ?_
  simp only [x0,x1,x2,x3]
  refine oS 44 59 HG hS1 rfl ?_
  simp only [x0,x1,x2,x3]
  refine oS 45 60 HG hS1 rfl ?_
  simp only [x0,x1,x2,x3]
  refine oS 46 61 HG hS1 rfl ?_
  simp only [x0,x1,x2,x3]
  refine oS 47 62 HG hS1 rfl ?_
  simp only [x0,x1,x2,x3]
  refine oS 48 63 HG hS1 rfl ?_
  simp only [x0,x1,x2,x3]
  refine oS 49 64 HG hS1 rfl ?_
  simp only [x0,x1,x2,x3]
  refine oS 50 65 HG hS1 rfl ?_
  simp only [x0,x1,x2,x3]
  refine oT 51 66 (.bool false) HG hS1 rfl ?_
  simp only [x0,x1,x2,x3]
  refine set_tail 1 52 _ _ _ _ (by kernel_rfl) (by decide) ?_
  simp only [List.toList_toArray, List.drop_succ_cons, List.drop_zero]
  clear hS1
  go_wp2
  go_ret
  exact ⟨by rw [HQ.out]; show Ending.returned (.bool false) = _; simp [e1, e2, e3, e4, show ¬ 0 ≤ sz by omega], HFB.out _ HB1.out⟩
 as_aux_lemma =>
  have hsz0 : 0 ≤ sz := g3
  have hwz : IntKind.u64.wrap sz = sz := by rw [IntKind.wrap_u64]; omega
  have hwb : IntKind.u64.wrap (bn : Int) = (bn : Int) := by rw [IntKind.wrap_u64]; omega
  obtain ⟨qb, hqb⟩ : ∃ qb, ((bn : Int) == bgv) = qb := ⟨_, rfl⟩
  refine region_one (fun V => V.cell? ⟨s, 3, .none⟩ = some (.slice (some ⟨b, o, .none⟩) n pc) ∧ V.cell? ⟨s, 14, .none⟩ = some (.map (some m2)) ∧ V.cell? ⟨g, 0, .none⟩ = some (.int .i64 num) ∧ V.cell? ⟨g, 4, .none⟩ = some (.int .i64 lk) ∧ V.cell? ⟨g, 5, .none⟩ = some (.int .i64 rf) ∧ V.cell? ⟨g, 6, .none⟩ = some (.int .i64 sz) ∧ V.cell? ⟨g, 7, .none⟩ = some (.slice bp bn bc) ∧ (Instr.lookup 77 (.map (some m2)) (.agg #[.int .i64 3, .int .i64 num]) false).run Try.prog V = .ok (.int .i64 c) V) 52 (by kernel_rfl) ?_
  change wpSet _ _ _ _ _ _ _ (pre (52 + 1) 0) _ _
  refine oT 0 15 (.pointer (some ⟨s, 0, .none⟩)) HG hS rfl ?_
  simp only [x0,x1,x2,x3]
  refine oT 1 16 (.pointer (some ⟨s, 0, .none⟩)) HG hS rfl ?_
  simp only [x0,x1,x2,x3]
  refine oT 2 17 (.pointer (some ⟨s, 0, .none⟩)) HG hS rfl ?_
  simp only [x0,x1,x2,x3]
  refine oT 3 18 (.pointer (some ⟨s, 3, .none⟩)) HG hS rfl ?_
  simp only [x0,x1,x2,x3]
  refine oT 4 19 (.slice (some ⟨b, o, .none⟩) n pc) HG hS rfl ?_ (fun ww hSw => by obtain ⟨q1, q2, q3, q4, q5, q6, q7, q8⟩ := hSw; go_simp)
  simp only [x0,x1,x2,x3]
  refine oT 5 20 (.int .i64 i) HG hS rfl ?_
  simp only [x0,x1,x2,x3]
  refine oT 6 21 (.func (.func 75) #[] #[]) HG hS rfl ?_
  simp only [x0,x1,x2,x3]
  refine one_only (k := 7) (by kernel_rfl) (by decide) rfl (by rfl) (fun K hK => ?_)
  go_simp
  go_at_call 76
  refine (HC2.out _ HBd.out).mono ?_
  rintro e V1 ⟨rfl, hv1⟩
  have HB1 : Hid (Below W1.heap.size W1 V1) := HBd.out.trans (hv1.mono HBd.out.size)
  have hS1 := HK.out _ HB1.out
  clear hS hv1
  refine hK.out _ _ (fun _ => hS1) ?_
  clear hK K
  try simp only [x0,x1,x2,x3,x4,x5,x6]
  refine oT 8 23 (.bool true) HG hS1 rfl ?_
  simp only [x0,x1,x2,x3]
  refine oT 9 24 (.pointer (some ⟨g, 5, .none⟩)) HG hS1 rfl ?_
  simp only [x0,x1,x2,x3]
  refine oT 10 25 (.int .i64 rf) HG hS1 rfl ?_ (fun ww hSw => by obtain ⟨q1, q2, q3, q4, q5, q6, q7, q8⟩ := hSw; go_simp)
  simp only [x0,x1,x2,x3]
  refine oT 11 26 (.pointer (some ⟨s, 0, .none⟩)) HG hS1 rfl ?_
  simp only [x0,x1,x2,x3]
  refine oT 12 27 (.pointer (some ⟨s, 0, .none⟩)) HG hS1 rfl ?_
  simp only [x0,x1,x2,x3]
  refine oT 13 28 (.pointer (some ⟨s, 14, .none⟩)) HG hS1 rfl ?_
  simp only [x0,x1,x2,x3]
  refine oT 14 29 (.map (some m2)) HG hS1 rfl ?_ (fun ww hSw => by obtain ⟨q1, q2, q3, q4, q5, q6, q7, q8⟩ := hSw; go_simp)
  simp only [x0,x1,x2,x3]
  refine oT 15 30 (.pointer (some ⟨g, 0, .none⟩)) HG hS1 rfl ?_
  simp only [x0,x1,x2,x3]
  refine oT 16 31 (.int .i64 num) HG hS1 rfl ?_ (fun ww hSw => by obtain ⟨q1, q2, q3, q4, q5, q6, q7, q8⟩ := hSw; go_simp)
  simp only [x0,x1,x2,x3]
  refine oT 17 32 (.agg #[.int .i64 3, .int .i64 num]) HG hS1 rfl ?_
  simp only [x0,x1,x2,x3]
  refine oT 18 33 (.int .i64 c) HG hS1 rfl ?_ (fun ww hSw => by obtain ⟨q1, q2, q3, q4, q5, q6, q7, q8⟩ := hSw; go_simp)
  simp only [x0,x1,x2,x3]
  refine oT 19 34 (.bool true) HG hS1 rfl ?_
  simp only [x0,x1,x2,x3]
  refine oT 20 35 (.bool true) HG hS1 rfl ?_
  simp only [x0,x1,x2,x3]
  refine oT 21 36 (.bool true) HG hS1 rfl ?_
  simp only [x0,x1,x2,x3]
  refine oT 22 37 (.pointer (some ⟨g, 4, .none⟩)) HG hS1 rfl ?_
  simp only [x0,x1,x2,x3]
  refine oT 23 38 (.int .i64 lk) HG hS1 rfl ?_ (fun ww hSw => by obtain ⟨q1, q2, q3, q4, q5, q6, q7, q8⟩ := hSw; go_simp)
  simp only [x0,x1,x2,x3]
  refine oT 24 39 (.bool false) HG hS1 rfl ?_
  simp only [x0,x1,x2,x3]
  refine oT 25 40 (.bool false) HG hS1 rfl ?_
  simp only [x0,x1,x2,x3]
  refine oT 26 41 (.pointer (some ⟨g, 5, .none⟩)) HG hS1 rfl ?_
  simp only [x0,x1,x2,x3]
  refine oT 27 42 (.int .i64 rf) HG hS1 rfl ?_ (fun ww hSw => by obtain ⟨q1, q2, q3, q4, q5, q6, q7, q8⟩ := hSw; go_simp)
  simp only [x0,x1,x2,x3]
  refine oT 28 43 (.bool false) HG hS1 rfl ?_
  simp only [x0,x1,x2,x3]
  refine oT 29 44 (.bool false) HG hS1 rfl ?_
  simp only [x0,x1,x2,x3]
  refine oT 30 45 (.bool false) HG hS1 rfl ?_
  simp only [x0,x1,x2,x3]
  refine oT 31 46 (.pointer (some ⟨g, 0, .none⟩)) HG hS1 rfl ?_
  simp only [x0,x1,x2,x3]
  refine oT 32 47 (.int .i64 num) HG hS1 rfl ?_ (fun ww hSw => by obtain ⟨q1, q2, q3, q4, q5, q6, q7, q8⟩ := hSw; go_simp)
  simp only [x0,x1,x2,x3]
  refine oT 33 48 (.bool true) HG hS1 rfl ?_
  simp only [x0,x1,x2,x3]
  refine oT 34 49 (.bool true) HG hS1 rfl ?_
  simp only [x0,x1,x2,x3]
  refine oT 35 50 (.bool true) HG hS1 rfl ?_
  simp only [x0,x1,x2,x3]
  refine oT 36 51 (.bool true) HG hS1 rfl ?_
  simp only [x0,x1,x2,x3]
  refine oT 37 52 (.pointer (some ⟨g, 6, .none⟩)) HG hS1 rfl ?_
  simp only [x0,x1,x2,x3]
  refine oT 38 53 (.int .i64 sz) HG hS1 rfl ?_ (fun ww hSw => by obtain ⟨q1, q2, q3, q4, q5, q6, q7, q8⟩ := hSw; go_simp)
  simp only [x0,x1,x2,x3]
  refine oT 39 54 (.bool true) HG hS1 rfl ?_
  simp only [x0,x1,x2,x3]
  refine oT 40 55 (.bool true) HG hS1 rfl ?_
  simp only [x0,x1,x2,x3]
  refine oT 41 56 (.bool true) HG hS1 rfl ?_
  simp only [x0,x1,x2,x3]
  refine oT 42 57 (.pointer (some ⟨g, 7, .none⟩)) HG hS1 rfl ?_
  simp only [x0,x1,x2,x3]
  refine oT 43 58 (.slice bp bn bc) HG hS1 rfl ?_ (fun ww hSw => by obtain ⟨q1, q2, q3, q4, q5, q6, q7, q8⟩ := hSw; go_simp)
  simp only [x0,x1,x2,x3]
  refine oT 44 59 (.int .i64 (bn : Nat)) HG hS1 rfl ?_
  simp only [x0,x1,x2,x3]
  refine oT 45 60 (.int .u64 (bn : Nat)) HG hS1 rfl ?_
  simp only [x0,x1,x2,x3]
  refine oT 46 61 (.pointer (some ⟨g, 6, .none⟩)) HG hS1 rfl ?_
  simp only [x0,x1,x2,x3]
  refine oT 47 62 (.int .i64 sz) HG hS1 rfl ?_ (fun ww hSw => by obtain ⟨q1, q2, q3, q4, q5, q6, q7, q8⟩ := hSw; go_simp)
  simp only [x0,x1,x2,x3]
  refine oT 48 63 (.int .u64 sz) HG hS1 rfl ?_
  simp only [x0,x1,x2,x3]
  refine one_only (k := 49) (by kernel_rfl) (by decide) rfl (by rfl) (fun K hK => ?_)
  go_simp
  go_at_call 70
  refine (begun_any sz 4096 hsz0 (by omega) (.inr rfl) _).mono ?_
  rintro e V2 ⟨rfl, rfl⟩
  rw [← HBG.out]
  refine hK.out _ _ (fun _ => hS1) ?_
  clear hK K
  try simp only [x0,x1,x2,x3,x4,x5,x6]
  refine oT 50 65 (.bool qb) HG hS1 rfl ?_
  simp only [x0,x1,x2,x3]
  refine oT 51 66 (.bool qb) HG hS1 rfl ?_
  simp only [x0,x1,x2,x3]
  refine set_tail 1 52 _ _ _ _ (by kernel_rfl) (by decide) ?_
  simp only [List.toList_toArray, List.drop_succ_cons, List.drop_zero]
  clear hS1
  go_wp2
  go_ret
  exact ⟨by rw [HQ.out]; show Ending.returned (.bool qb) = _; simp [e1, e2, e3, e4, hsz0, hqb], HFB.out _ HB1.out⟩
end Go.Proofs.Ythopgmmodldljab
