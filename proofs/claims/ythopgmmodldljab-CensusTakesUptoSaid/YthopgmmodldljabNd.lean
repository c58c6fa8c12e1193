import Derived.Test.YthopgmmodldljabEla
namespace Go.Proofs.Ythopgmmodldljab
open Go Go.RowKit
set_option linter.unusedVariables false
set_option linter.unusedSimpArgs false
/-! hasItsPages. -/
def pgO (l : List Pg) : Bool := l.zipIdx.all fun x => x.1.no == (x.2 : Int)
def okG (p : Pc) : Bool := ((p.pages.length : Int) == bg (p.c 41) 4096) && (((p.nodes.length : Int) == ndF p.pages.length) && pgO p.pages)
theorem pgO_true {l : List Pg} (h : ∀ (i : Nat) x, l[i]? = some x → x.no = (i : Int)) : pgO l = true := by
 unfold pgO
 rw [List.all_eq_true]
 rintro ⟨x, i⟩ hx
 rw [List.mem_zipIdx_iff_getElem?] at hx
 simp [h i x hx]
theorem pgO_false {l : List Pg} {i : Nat} {x : Pg} (hx : l[i]? = some x) (hn : x.no ≠ (i : Int)) : pgO l = false := by
 unfold pgO
 rw [List.all_eq_false]
 exact ⟨(x, i), by rw [List.mem_zipIdx_iff_getElem?]; exact hx, by simp [hn]⟩
set_option maxRecDepth 100000 in
set_option maxHeartbeats 2000000 in
theorem hasPages_any {w : World} {X : Nat} (hX : X ≤ w.heap.size) (p : Pc) (np gp : Option Addr) (nc gc : Nat) (hG : Gs w X (.slice gp p.pages.length gc) p.pages) (hp : PcR p) : Calls Try.prog 55 #[.agg (p.l (.slice np p.nodes.length nc) (.slice gp p.pages.length gc)).toArray] w fun e w' => e = .returned (.bool (okG p)) ∧ Below w.heap.size w w' := by
 obtain ⟨gn, hgn⟩ : ∃ n, n = p.pages.length := ⟨_, rfl⟩
 obtain ⟨nn, hnn⟩ : ∃ n, n = p.nodes.length := ⟨_, rfl⟩
 have bgn : gn ≤ 1048576 := by have := hp.gl; omega
 have bnn : nn ≤ 1048576 := by have := hp.nl; omega
 rw [← hgn] at hG ⊢
 rw [← hnn]
 have hszb := bounds_u64 (hp.c 41 .u64 (by simp [k55]))
 obtain ⟨sz, hsz⟩ : ∃ sz, sz = p.c 41 := ⟨_, rfl⟩
 rw [← hsz] at hszb
 obtain ⟨bgv, hbg⟩ : ∃ b, b = bg sz 4096 := ⟨_, rfl⟩
 obtain ⟨nd, hnd⟩ : ∃ b, b = ndF (gn : Int) := ⟨_, rfl⟩
 have HQ : Hid (okG p = (((gn : Int) == bgv) && (((nn : Int) == nd) && pgO p.pages))) := by show _ = _; unfold okG; rw [hnd, hbg, hsz, hnn, hgn]
 have HBG : Hid (∀ V, Calls Try.prog 70 #[.int .u64 sz, .int .u64 4096] V fun e w' => e = .returned (.int .u64 bgv) ∧ w' = V) := fun V => by rw [hbg]; exact begun_any sz 4096 hszb.1 (by have := hszb.2; omega) (.inr rfl) V
 have HND : Hid (∀ V, Calls Try.prog 71 #[.int .i64 (gn : Nat)] V fun e w' => e = .returned (.int .i64 nd) ∧ w' = V) := fun V => by rw [hnd]; exact nodes_any gn (by omega) (by omega) V
 have HG : Hid (Gs w X (.slice gp gn gc) p.pages ∧ X ≤ w.heap.size ∧ gn = p.pages.length) := ⟨hG, hX, hgn⟩
 have HSZ : Hid (sz = p.c 41) := hsz
 clear hG hX hgn hnn hsz hbg hnd hp hszb
 have hwb : IntKind.u64.wrap (gn : Int) = (gn : Int) := by rw [IntKind.wrap_u64]; omega
 go_enter Try.func55, Try.ntmps55
 go_wp2_with (first
  | (refine wpList_is (.box 60 (.tmp 0)) rfl ?_; refine wpList_boxG 60 (p.l (.slice np nn nc) (.slice gp gn gc)) 1 (.tmp 0) _ rfl rfl rfl rfl ?_; intro W1 hW1 hB1 hs1; have k41 : W1.cell? ⟨w.heap.size, 41, .none⟩ = some (.int .u64 sz) := by rw [HSZ.out]; exact cell_heap (o := 41) hW1)
  | fail)
 clear k41
 go_at_call 70
 refine (HBG.out _).mono ?_
 rintro e V1 ⟨rfl, rfl⟩
 have HB : Hid (Below w.heap.size w V1) := hB1
 have hS : (fun V : World => V.cell? ⟨w.heap.size, 45, .none⟩ = some (.slice gp gn gc) ∧ V.cell? ⟨w.heap.size, 44, .none⟩ = some (.slice np nn nc)) V1.drew := ⟨cell_heap (o := 45) (show V1.drew.heap[w.heap.size]? = _ from hW1), cell_heap (o := 44) (show V1.drew.heap[w.heap.size]? = _ from hW1)⟩
 have k45 : V1.drew.cell? ⟨w.heap.size, 45, .none⟩ = some (.slice gp gn gc) := hS.1
 clear hW1 hB1 hs1 HBG
 by_cases g1 : (gn : Int) = bgv
 case neg =>
  have e1 : ((gn : Int) != bgv) = true := by simp [g1]
  have e1' : ((gn : Int) == bgv) = false := by simp [g1]
  clear g1
  go_upto_region 2 with fail
  refine region_set (fun V => V.cell? ⟨w.heap.size, 45, .none⟩ = some (.slice gp gn gc) ∧ V.cell? ⟨w.heap.size, 44, .none⟩ = some (.slice np nn nc)) 15 [] (by kernel_rfl) ?_
  refine sT 0 (.pointer (some ⟨w.heap.size, 45, .none⟩)) rfl (fun ww hSw => by obtain ⟨h1, h2⟩ := hSw; go_simp) hS ?_
  simp only [x0,x1,x2,x3,x4,x5,x6]
  refine sT 1 (.slice gp gn gc) rfl (fun ww hSw => by obtain ⟨h1, h2⟩ := hSw; go_simp) hS ?_
  simp only [x0,x1,x2,x3,x4,x5,x6]
  refine sT 2 (.int .i64 (gn : Nat)) rfl (fun ww hSw => by obtain ⟨h1, h2⟩ := hSw; go_simp) hS ?_
  simp only [x0,x1,x2,x3,x4,x5,x6]
  refine sT 3 (.int .u64 (gn : Nat)) rfl (fun ww hSw => by obtain ⟨h1, h2⟩ := hSw; go_simp) hS ?_
  simp only [x0,x1,x2,x3,x4,x5,x6]
  refine sT 4 (.int .u64 bgv) rfl (fun ww hSw => by obtain ⟨h1, h2⟩ := hSw; go_simp) hS ?_
  simp only [x0,x1,x2,x3,x4,x5,x6]
  refine sT 5 (.bool true) rfl (fun ww hSw => by obtain ⟨h1, h2⟩ := hSw; go_simp) hS ?_
  simp only [x0,x1,x2,x3,x4,x5,x6]
  refine sT 6 (.bool true) rfl (fun ww hSw => by obtain ⟨h1, h2⟩ := hSw; go_simp) hS ?_
  simp only [x0,x1,x2,x3,x4,x5,x6]
  refine sV (i := 7) (v := undef) rfl (Or.inr ⟨by rfl, rfl⟩) hS ?_
  simp only [x0,x1,x2,x3,x4,x5,x6]
  refine sV (i := 8) (v := undef) rfl (Or.inr ⟨by rfl, rfl⟩) hS ?_
  simp only [x0,x1,x2,x3,x4,x5,x6]
  refine sV (i := 9) (v := undef) rfl (Or.inr ⟨by rfl, rfl⟩) hS ?_
  simp only [x0,x1,x2,x3,x4,x5,x6]
  refine sV (i := 10) (v := undef) rfl (Or.inr ⟨by rfl, rfl⟩) hS ?_
  simp only [x0,x1,x2,x3,x4,x5,x6]
  refine sV (i := 11) (v := undef) rfl (Or.inr ⟨by rfl, rfl⟩) hS ?_
  simp only [x0,x1,x2,x3,x4,x5,x6]
  refine sV (i := 12) (v := undef) rfl (Or.inr ⟨by rfl, rfl⟩) hS ?_
  simp only [x0,x1,x2,x3,x4,x5,x6]
  refine sV (i := 13) (v := undef) rfl (Or.inr ⟨by rfl, rfl⟩) hS ?_
  simp only [x0,x1,x2,x3,x4,x5,x6]
  refine sV (i := 14) (v := undef) rfl (Or.inr ⟨by rfl, rfl⟩) hS ?_
  simp only [x0,x1,x2,x3,x4,x5,x6]
  refine set_tail 1 15 _ _ _ _ (by kernel_rfl) (by decide) ?_
  simp only [List.toList_toArray, List.drop_succ_cons, List.drop_zero]
  clear hS
  go_wp2
  go_ret
  exact ⟨by rw [HQ.out, e1']; rfl, HB.out.drew⟩
 have e1 : ((gn : Int) != bgv) = false := by simp [g1]
 have e1' : ((gn : Int) == bgv) = true := by simp [g1]
 clear g1
 by_cases g2 : (nn : Int) = nd
 case neg =>
  have e2 : ((nn : Int) != nd) = true := by simp [g2]
  have e2' : ((nn : Int) == nd) = false := by simp [g2]
  clear g2
  go_upto_region 2 with fail
  refine region_set (fun V => V.cell? ⟨w.heap.size, 45, .none⟩ = some (.slice gp gn gc) ∧ V.cell? ⟨w.heap.size, 44, .none⟩ = some (.slice np nn nc)) 15 [] (by kernel_rfl) ?_
  refine sT 0 (.pointer (some ⟨w.heap.size, 45, .none⟩)) rfl (fun ww hSw => by obtain ⟨h1, h2⟩ := hSw; go_simp) hS ?_
  simp only [x0,x1,x2,x3,x4,x5,x6]
  refine sT 1 (.slice gp gn gc) rfl (fun ww hSw => by obtain ⟨h1, h2⟩ := hSw; go_simp) hS ?_
  simp only [x0,x1,x2,x3,x4,x5,x6]
  refine sT 2 (.int .i64 (gn : Nat)) rfl (fun ww hSw => by obtain ⟨h1, h2⟩ := hSw; go_simp) hS ?_
  simp only [x0,x1,x2,x3,x4,x5,x6]
  refine sT 3 (.int .u64 (gn : Nat)) rfl (fun ww hSw => by obtain ⟨h1, h2⟩ := hSw; go_simp) hS ?_
  simp only [x0,x1,x2,x3,x4,x5,x6]
  refine sT 4 (.int .u64 bgv) rfl (fun ww hSw => by obtain ⟨h1, h2⟩ := hSw; go_simp) hS ?_
  simp only [x0,x1,x2,x3,x4,x5,x6]
  refine sT 5 (.bool false) rfl (fun ww hSw => by obtain ⟨h1, h2⟩ := hSw; go_simp) hS ?_
  simp only [x0,x1,x2,x3,x4,x5,x6]
  refine sT 6 (.bool false) rfl (fun ww hSw => by obtain ⟨h1, h2⟩ := hSw; go_simp) hS ?_
  simp only [x0,x1,x2,x3,x4,x5,x6]
  refine sT 7 (.pointer (some ⟨w.heap.size, 44, .none⟩)) rfl (fun ww hSw => by obtain ⟨h1, h2⟩ := hSw; go_simp) hS ?_
  simp only [x0,x1,x2,x3,x4,x5,x6]
  refine sT 8 (.slice np nn nc) rfl (fun ww hSw => by obtain ⟨h1, h2⟩ := hSw; go_simp) hS ?_
  simp only [x0,x1,x2,x3,x4,x5,x6]
  refine sT 9 (.int .i64 (nn : Nat)) rfl (fun ww hSw => by obtain ⟨h1, h2⟩ := hSw; go_simp) hS ?_
  simp only [x0,x1,x2,x3,x4,x5,x6]
  refine sT 10 (.pointer (some ⟨w.heap.size, 45, .none⟩)) rfl (fun ww hSw => by obtain ⟨h1, h2⟩ := hSw; go_simp) hS ?_
  simp only [x0,x1,x2,x3,x4,x5,x6]
  refine sT 11 (.slice gp gn gc) rfl (fun ww hSw => by obtain ⟨h1, h2⟩ := hSw; go_simp) hS ?_
  simp only [x0,x1,x2,x3,x4,x5,x6]
  refine sT 12 (.int .i64 (gn : Nat)) rfl (fun ww hSw => by obtain ⟨h1, h2⟩ := hSw; go_simp) hS ?_
  simp only [x0,x1,x2,x3,x4,x5,x6]
  refine set_only (i := 13) (by kernel_rfl) rfl (by rfl) (fun K hK => ?_)
  go_simp
  go_at_call 71
  refine (HND.out _).mono ?_
  rintro e V2 ⟨rfl, rfl⟩
  refine hK.out _ _ (fun _ => hS) ?_
  clear hK K
  try simp only [x0,x1,x2,x3,x4,x5,x6]
  refine sT 14 (.bool true) rfl (fun ww hSw => by obtain ⟨h1, h2⟩ := hSw; go_simp) hS ?_
  simp only [x0,x1,x2,x3,x4,x5,x6]
  refine set_tail 1 15 _ _ _ _ (by kernel_rfl) (by decide) ?_
  simp only [List.toList_toArray, List.drop_succ_cons, List.drop_zero]
  clear hS
  go_wp2
  go_ret
  exact ⟨by rw [HQ.out, e1', e2']; rfl, HB.out.drew⟩
 have e2 : ((nn : Int) != nd) = false := by simp [g2]
 have HE : Hid (((gn : Int) == bgv) = true ∧ ((nn : Int) == nd) = true) := ⟨e1', by simp [g2]⟩
 clear g2 e1'
 go_upto_region 2 with fail
 refine region_set (fun V => V.cell? ⟨w.heap.size, 45, .none⟩ = some (.slice gp gn gc) ∧ V.cell? ⟨w.heap.size, 44, .none⟩ = some (.slice np nn nc)) 15 [] (by kernel_rfl) ?_
 refine sT 0 (.pointer (some ⟨w.heap.size, 45, .none⟩)) rfl (fun ww hSw => by obtain ⟨h1, h2⟩ := hSw; go_simp) hS ?_
 simp only [x0,x1,x2,x3,x4,x5,x6]
 refine sT 1 (.slice gp gn gc) rfl (fun ww hSw => by obtain ⟨h1, h2⟩ := hSw; go_simp) hS ?_
 simp only [x0,x1,x2,x3,x4,x5,x6]
 refine sT 2 (.int .i64 (gn : Nat)) rfl (fun ww hSw => by obtain ⟨h1, h2⟩ := hSw; go_simp) hS ?_
 simp only [x0,x1,x2,x3,x4,x5,x6]
 refine sT 3 (.int .u64 (gn : Nat)) rfl (fun ww hSw => by obtain ⟨h1, h2⟩ := hSw; go_simp) hS ?_
 simp only [x0,x1,x2,x3,x4,x5,x6]
 refine sT 4 (.int .u64 bgv) rfl (fun ww hSw => by obtain ⟨h1, h2⟩ := hSw; go_simp) hS ?_
 simp only [x0,x1,x2,x3,x4,x5,x6]
 refine sT 5 (.bool false) rfl (fun ww hSw => by obtain ⟨h1, h2⟩ := hSw; go_simp) hS ?_
 simp only [x0,x1,x2,x3,x4,x5,x6]
 refine sT 6 (.bool false) rfl (fun ww hSw => by obtain ⟨h1, h2⟩ := hSw; go_simp) hS ?_
 simp only [x0,x1,x2,x3,x4,x5,x6]
 refine sT 7 (.pointer (some ⟨w.heap.size, 44, .none⟩)) rfl (fun ww hSw => by obtain ⟨h1, h2⟩ := hSw; go_simp) hS ?_
 simp only [x0,x1,x2,x3,x4,x5,x6]
 refine sT 8 (.slice np nn nc) rfl (fun ww hSw => by obtain ⟨h1, h2⟩ := hSw; go_simp) hS ?_
 simp only [x0,x1,x2,x3,x4,x5,x6]
 refine sT 9 (.int .i64 (nn : Nat)) rfl (fun ww hSw => by obtain ⟨h1, h2⟩ := hSw; go_simp) hS ?_
 simp only [x0,x1,x2,x3,x4,x5,x6]
 refine sT 10 (.pointer (some ⟨w.heap.size, 45, .none⟩)) rfl (fun ww hSw => by obtain ⟨h1, h2⟩ := hSw; go_simp) hS ?_
 simp only [x0,x1,x2,x3,x4,x5,x6]
 refine sT 11 (.slice gp gn gc) rfl (fun ww hSw => by obtain ⟨h1, h2⟩ := hSw; go_simp) hS ?_
 simp only [x0,x1,x2,x3,x4,x5,x6]
 refine sT 12 (.int .i64 (gn : Nat)) rfl (fun ww hSw => by obtain ⟨h1, h2⟩ := hSw; go_simp) hS ?_
 simp only [x0,x1,x2,x3,x4,x5,x6]
 refine set_only (i := 13) (by kernel_rfl) rfl (by rfl) (fun K hK => ?_)
 go_simp
 go_at_call 71
 refine (HND.out _).mono ?_
 rintro e V2 ⟨rfl, rfl⟩
 refine hK.out _ _ (fun _ => hS) ?_
 clear hK K
 try simp only [x0,x1,x2,x3,x4,x5,x6]
 refine sT 14 (.bool false) rfl (fun ww hSw => by obtain ⟨h1, h2⟩ := hSw; go_simp) hS ?_
 simp only [x0,x1,x2,x3,x4,x5,x6]
 refine set_tail 1 15 _ _ _ _ (by kernel_rfl) (by decide) ?_
 simp only [List.toList_toArray, List.drop_succ_cons, List.drop_zero]
 clear hS
 have HBd : Hid (Below w.heap.size w V1.drew) := HB.out.drew
 clear HB HND e1 e2
 generalize V1.drew = VD at *
 go_wp2
 clear k45
 go_loopw [28] (fun k wr => ∃ i : Nat, i ≤ gn ∧ k = .int .i64 i ∧ Hid (Below w.heap.size w wr ∧ ∀ (j : Nat) x, j < i → p.pages[j]? = some x → x.no = (j : Int))) (fun v _ => (gn - intOf v).toNat)
 case atStart => exact ⟨0, by omega, rfl, HBd.out, fun j x h => by omega⟩
 case round =>
  clear HBd
  obtain ⟨i, hi, rfl, HB⟩ := hrel
  by_cases hin : i < gn
  ·as_aux_lemma =>
    have i1 : (i : Int) < gn := by omega
    obtain ⟨-, b, o, x, cs, rfl, hbX, hx, rfl, hcl, hr⟩ := HG.out.1.at hin
    have hr' : wr.rangeAt b (o + i * 3) x.l := range_keep hr HB.out.1 (by have := HG.out.2.1; omega : b < w.heap.size)
    have HX1 : Hid (∀ u ∈ x.l, u.oneCell' = true) := List.all_eq_true.1 (show x.l.all (fun u => u.oneCell') = true from rfl)
    have HX : Hid (p.pages[i]? = some x) := hx
    have hwi : IntKind.u64.wrap (i : Int) = (i : Int) := by rw [IntKind.wrap_u64]; omega
    clear hr hcl hbX hx
    by_cases g3 : x.no = (i : Int)
    ·have e3 : (x.no != (i : Int)) = false := by simp [g3]
     have HG3 : Hid (x.no = (i : Int)) := g3
     clear g3
     go_wp2_with (first
      | (refine wpList_is (.load 65 (.tmp 31)) rfl ?_; refine wpList_loadG 65 3 24 info81 _ Try.underlying65 rfl x.l rfl b (o + i * 3) (.tmp 31) rfl rfl rfl hr' (some 32) rfl ?_; clear hr')
      | (refine wpList_is (.alloc 65) rfl ?_; refine wpList_allocG 65 3 24 info81 5 _ rfl rfl rfl ?_; intro W5 zs hzs hW5 hB5 hs5)
      | (refine wpList_is (.store 65 (.tmp 5) (.tmp 32)) rfl ?_; refine wpList_storeG 65 3 24 wr.heap.size info81 x.l zs rfl hzs HX1.out (.tmp 5) (.tmp 32) _ rfl rfl rfl rfl rfl hW5 ?_; intro W6 hW6 hg6 hs6; have k0 : W6.cell? ⟨wr.heap.size, 0, .none⟩ = some (.int .u64 x.no) := cell_heap (o := 0) hW6; have HB6 : Hid (Below wr.heap.size wr W6) := below_new hB5 hg6 (by omega); clear hW5 hW6 hB5 hg6 hs5 hs6 hzs)
      | fail)
     exact ⟨⟨i + 1, by omega, by go_num, HB.out.1.trans (HB6.out.mono HB.out.1.size), fun j y hj hy => by
      by_cases e : j = i
      ·subst e; rw [HX.out] at hy; injection hy with hy; rw [← hy]; exact HG3.out
      ·exact HB.out.2 j y (by omega) hy⟩, by simp [intOf]; omega⟩
    ·have e3 : (x.no != (i : Int)) = true := by simp [g3]
     have HG3 : Hid (x.no ≠ (i : Int)) := g3
     clear g3
     go_wp2_with (first
      | (refine wpList_is (.load 65 (.tmp 31)) rfl ?_; refine wpList_loadG 65 3 24 info81 _ Try.underlying65 rfl x.l rfl b (o + i * 3) (.tmp 31) rfl rfl rfl hr' (some 32) rfl ?_; clear hr')
      | (refine wpList_is (.alloc 65) rfl ?_; refine wpList_allocG 65 3 24 info81 5 _ rfl rfl rfl ?_; intro W5 zs hzs hW5 hB5 hs5)
      | (refine wpList_is (.store 65 (.tmp 5) (.tmp 32)) rfl ?_; refine wpList_storeG 65 3 24 wr.heap.size info81 x.l zs rfl hzs HX1.out (.tmp 5) (.tmp 32) _ rfl rfl rfl rfl rfl hW5 ?_; intro W6 hW6 hg6 hs6; have k0 : W6.cell? ⟨wr.heap.size, 0, .none⟩ = some (.int .u64 x.no) := cell_heap (o := 0) hW6; have HB6 : Hid (Below wr.heap.size wr W6) := below_new hB5 hg6 (by omega); clear hW5 hW6 hB5 hg6 hs5 hs6 hzs)
      | fail)
     go_ret
     exact ⟨by rw [HQ.out, HE.out.1, HE.out.2, pgO_false HX.out HG3.out]; rfl, HB.out.1.trans (HB6.out.mono HB.out.1.size)⟩
  ·have i1 : ¬ (i : Int) < gn := by omega
   obtain rfl : gn = i := by omega
   have HP : Hid (pgO p.pages = true) := pgO_true (fun j x hx => HB.out.2 j x (by have := (List.getElem?_eq_some_iff.1 hx).1; have := HG.out.2.2; omega) hx)
   go_wp2
   go_ret
   exact ⟨by rw [HQ.out, HE.out.1, HE.out.2, HP.out]; rfl, HB.out.1⟩
end Go.Proofs.Ythopgmmodldljab
namespace Go.Proofs.Ythopgmmodldljab
open Go Go.RowKit
set_option linter.unusedVariables false
set_option linter.unusedSimpArgs false
/-! The document's pagesNo. -/
set_option maxRecDepth 100000 in
set_option maxHeartbeats 2000000 in
theorem dpages_any {w : World} {X : Nat} (x : Pc) (nv gv : Value) (hN : Wd w X nv x.nodes) (hG : Gs w X gv x.pages) (hX : X ≤ w.heap.size) (hR : PcR x) : Calls Try.prog 34 #[.agg (x.l nv gv).toArray] w fun e w' => e = .returned (.bool (!okG x)) ∧ Below w.heap.size w w' := by
 obtain ⟨np, nc, rfl⟩ := hN.form
 obtain ⟨gp, gc, rfl⟩ := hG.form
 obtain ⟨nn, hnn⟩ : ∃ n, n = x.nodes.length := ⟨_, rfl⟩
 obtain ⟨gn, hgn⟩ : ∃ n, n = x.pages.length := ⟨_, rfl⟩
 have bnn : nn ≤ 1048576 := by rw [hnn]; exact hR.nl
 have bgn : gn ≤ 1048576 := by rw [hgn]; exact hR.gl
 rw [← hnn] at hN ⊢
 rw [← hgn] at hG ⊢
 have HG : Hid (Gs w X (.slice gp gn gc) x.pages ∧ gn = x.pages.length ∧ X ≤ w.heap.size) := ⟨hG, hgn, hX⟩
 have hszb := bounds_u64 (hR.c 41 .u64 (by simp [k55]))
 obtain ⟨sz, hsz⟩ : ∃ sz, sz = x.c 41 := ⟨_, rfl⟩
 rw [← hsz] at hszb
 obtain ⟨pv, hpv⟩ : ∃ pv, pv = pgO x.pages := ⟨_, rfl⟩
 have HQ : Hid (okG x = (((gn : Int) == bg sz 4096) && (((nn : Int) == ndF gn) && pv))) := by show _ = _; rw [hpv, hsz, hnn, hgn]; rfl
 have HPV : Hid (pv = pgO x.pages) := hpv
 obtain ⟨lc, hlc⟩ : ∃ lc, lc = x.l (.slice np nn nc) (.slice gp gn gc) := ⟨_, rfl⟩
 rw [← hlc]
 have HL : Hid (lc[41]? = some (.int .u64 sz) ∧ lc[44]? = some (.slice np nn nc) ∧ lc[45]? = some (.slice gp gn gc) ∧ lc.length = 70) := by rw [hlc, hsz]; exact ⟨rfl, rfl, rfl, rfl⟩
 obtain ⟨s0, s1⟩ := hszb
 have ht : sz.tmod 4096 = sz % 4096 := Int.tmod_eq_emod_of_nonneg s0
 have hd : sz.tdiv 4096 = sz / 4096 := Int.tdiv_eq_ediv_of_nonneg s0
 have HBG : Hid (bg sz 4096 = if sz % 4096 = 0 then sz / 4096 else sz / 4096 + 1) := rfl
 obtain ⟨r, hr⟩ : ∃ r, r = sz % 4096 := ⟨_, rfl⟩
 obtain ⟨q, hq⟩ : ∃ q, q = sz / 4096 := ⟨_, rfl⟩
 have q0 : 0 ≤ q ∧ q ≤ 4503599627370496 := by omega
 rw [← hr] at ht HBG
 rw [← hq] at hd HBG
 have hw : IntKind.u64.wrap (gn : Int) = gn := by rw [IntKind.wrap_u64]; omega
 have hw2 : IntKind.u64.wrap (q + 1) = q + 1 := by rw [IntKind.wrap_u64]; omega
 clear hN hG hX hR hsz hpv hlc hnn hgn hr hq s0 s1
 go_enter Try.func34, Try.ntmps34
 go_upto_if 11 with (first
  | (refine wpList_is (.box 60 (.tmp 0)) rfl ?_; refine wpList_boxG 60 lc 1 (.tmp 0) _ rfl rfl rfl rfl ?_; intro W1 hW1 hB1 hs1; have d41 := cell_heap (o := 41) hW1; rw [List.getElem?_toArray, HL.out.1] at d41; have d44 := cell_heap (o := 44) hW1; rw [List.getElem?_toArray, HL.out.2.1] at d44; have d45 := cell_heap (o := 45) hW1; rw [List.getElem?_toArray, HL.out.2.2.1] at d45)
  | fail)
 have HB1 : Hid (Below w.heap.size w W1) := hB1
 clear hW1 hB1 hs1
 obtain ⟨g, hg⟩ : ∃ g, g = bg sz 4096 := ⟨_, rfl⟩
 rw [← hg] at HQ HBG
 clear hg
 go_cut [3] (fun s wc => s = .int .u64 g ∧ wc = W1)
 case first =>
  by_cases e : r = 0
  ·have e1 : (r != 0) = false := by simp [e]
   obtain rfl : g = q := by rw [HBG.out, if_pos e]
   clear e
   go_wp2
   go_meet
   exact ⟨rfl, rfl⟩
  ·have e1 : (r != 0) = true := by simp [e]
   obtain rfl : g = q + 1 := by rw [HBG.out, if_neg e]
   clear e
   go_wp2
   go_meet
   exact ⟨rfl, rfl⟩
 case rest =>
  obtain ⟨rfl, rfl⟩ := hcut
  clear HBG
  by_cases e : (g != (gn : Int)) = true
  ·have HF : Hid (okG x = false) := by show _ = _; rw [HQ.out, show ((gn : Int) == g) = false by simp at e ⊢; omega]; rfl
   go_wp2
   go_ret
   exact ⟨by rw [HF.out]; rfl, HB1.out⟩
  have e : (g != (gn : Int)) = false := by simpa using e
  have HQ2 : Hid (okG x = (((nn : Int) == ndF gn) && pv)) := by show _ = _; rw [HQ.out, show ((gn : Int) == g) = true by simp at e ⊢; omega]; rfl
  go_wp2
  go_loopw [4] (fun k wr => ∃ i : Nat, i ≤ gn ∧ k = .int .i64 i ∧ wr = wc ∧ Hid (∀ j y, j < i → x.pages[j]? = some y → y.no = (j : Int))) (fun v _ => (gn - intOf v).toNat)
  case atStart => exact ⟨0, by omega, rfl, rfl, fun j y h => by omega⟩
  case round =>
   obtain ⟨i, hi, rfl, rfl, HB⟩ := hrel
   by_cases hin : i < gn
   ·have i1 : (i : Int) < gn := by omega
    obtain ⟨-, b, o, y, cs, rfl, hbX, hy, rfl, hcl, hr⟩ := HG.out.1.at hin
    have hr' := range_keep hr HB1.out (by have := HG.out.2.2; omega)
    have a0 := hr' 0 _ rfl
    rw [Nat.add_zero] at a0
    have HY : Hid (x.pages[i]? = some y) := hy
    have hwi : IntKind.u64.wrap (i : Int) = i := by rw [IntKind.wrap_u64]; omega
    clear hr hr' hcl hbX hy
    cases hb : (y.no != (i : Int))
    ·have HE : Hid (y.no = (i : Int)) := by show _ = _; simpa using hb
     go_wp2
     exact ⟨⟨i + 1, by omega, by go_num, by first | rfl | trivial, fun j u hj hu => by
      by_cases e : j = i
      ·subst e
       have h1 := HY.out
       rw [hu] at h1
       injection h1 with h1
       subst h1
       exact HE.out
      ·exact HB.out j u (by omega) hu⟩, by simp [intOf]; omega⟩
    ·have HF : Hid (okG x = false) := by
      show _ = _
      rw [HQ2.out, HPV.out, show pgO x.pages = false from ?_]
      ·simp
      ·unfold pgO
       rw [List.all_eq_false]
       exact ⟨(y, i), List.mem_zipIdx_iff_getElem?.2 HY.out, by simpa using hb⟩
     go_wp2
     go_ret
     exact ⟨by rw [HF.out]; rfl, HB1.out⟩
   ·have i1 : ¬ (i : Int) < gn := by omega
    have HT : Hid (pv = true) := by
     show _ = _
     rw [HPV.out]
     exact pgO_true (fun j y hy => HB.out j y (by have := HG.out.2.1; have := (List.getElem?_eq_some_iff.1 hy).1; omega) hy)
    have HF : Hid (okG x = ((nn : Int) == ndF gn)) := by show _ = _; rw [HQ2.out, HT.out, Bool.and_true]
    have c65 : ∀ V, Calls Try.prog 65 #[.int .i64 gn] V fun e w' => e = .returned (.int .i64 (ndF gn)) ∧ w' = V := fun V => rnodes_any gn (by omega) (by omega) V
    go_upto_region 11 with fail
    obtain ⟨nd, hnd⟩ : ∃ nd, nd = ndF gn := ⟨_, rfl⟩
    rw [← hnd] at HF c65
    clear hnd
    go_quiet (exact Calls.quiet_of_same (c65 _))
    go_wp2
    go_ret
    exact ⟨by rw [HF.out]; simp [bne], HB1.out.trans ((Go.Proofs.below_drewN _ _).mono HB1.out.size)⟩
end Go.Proofs.Ythopgmmodldljab
