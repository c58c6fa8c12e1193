import Derived.Test.YthopgmmodldljabNy
import Derived.Test.YthopgmmodldljabEm1
import Derived.Test.YthopgmmodldljabEm2
import Derived.Test.YthopgmmodldljabEm3
import Derived.Test.YthopgmmodldljabEn
import Derived.Test.YthopgmmodldljabEo
import Derived.Test.YthopgmmodldljabEp
import Derived.Test.YthopgmmodldljabNd
import Derived.Test.YthopgmmodldljabEr
namespace Go.Proofs.Ythopgmmodldljab
open Go Go.RowKit
set_option linter.unusedVariables false
set_option linter.unusedSimpArgs false
/-! The closures of the checks. -/
theorem is75_any {w : World} {s m1 m2 : Nat} {L : Lk} {fr : List Int} {N : Nat} {pv fv iv qv rv lv nv gv : Value} {pf nf : Th → Option Int} (h : Sy w s m1 m2 L fr N pv fv iv qv rv lv nv gv pf nf) (i : Nat) (x : Pc) (hx : L.procs[i]? = some x) : Calls Try.prog 53 #[.pointer (some ⟨s, 0, .none⟩), .int .i64 i] w fun e w' => e = .returned (.bool (okP L pf i x)) ∧ Below w.heap.size w w' := by
 by_cases h1 : x.c 2 = 1
 ·exact is75_1 h i x hx h1
 by_cases h2 : x.c 2 = 2
 ·exact is75_2 h i x hx h2
 by_cases h3 : x.c 2 = 3
 ·exact is75_3 h i x hx h3
 ·exact is75_0 h i x hx h1 h2 h3
structure Cx (w : World) (s m1 m2 : Nat) (L : Lk) (fr : List Int) (N : Nat) (pv fv iv qv rv lv nv gv : Value) (pf nf : Th → Option Int) (sb lb : Nat) : Prop where
 sy : Sy w s m1 m2 L fr N pv fv iv qv rv lv nv gv pf nf
 cb : w.cell? ⟨sb, 0, .none⟩ = some (.pointer (some ⟨s, 0, .none⟩))
 cl : w.rangeAt lb 0 (lkL L.tramp pv fv iv qv rv lv L.ticks L.next L.free)
 sl : sb < w.heap.size
 ll : lb < w.heap.size
theorem Cx.keep {w : World} {s m1 m2 : Nat} {L : Lk} {fr : List Int} {N : Nat} {pv fv iv qv rv lv nv gv : Value} {pf nf : Th → Option Int} {sb lb : Nat} {w' : World} (h : Cx w s m1 m2 L fr N pv fv iv qv rv lv nv gv pf nf sb lb) (hb : Below w.heap.size w w') : Cx w' s m1 m2 L fr N pv fv iv qv rv lv nv gv pf nf sb lb :=
 ⟨h.sy.keep hb, (hb.cell (p := ⟨sb, 0, .none⟩) h.sl).trans h.cb, range_keep h.cl hb h.ll, Nat.lt_of_lt_of_le h.sl hb.size, Nat.lt_of_lt_of_le h.ll hb.size⟩
theorem Cx.at {w : World} {s m1 m2 : Nat} {L : Lk} {fr : List Int} {N : Nat} {pv fv iv qv rv lv nv gv : Value} {pf nf : Th → Option Int} {sb lb : Nat} (h : Cx w s m1 m2 L fr N pv fv iv qv rv lv nv gv pf nf sb lb) (j : Nat) (v : Value) (hj : (lkL L.tramp pv fv iv qv rv lv L.ticks L.next L.free)[j]? = some v) : w.cell? ⟨lb, j, .none⟩ = some v := by
 have := h.cl j v hj
 rw [Nat.zero_add] at this
 exact this
theorem unW_eq (b : Bool) (k n : Int) : unW b k n = if b then (0, 0) else (k, n) := rfl
set_option maxRecDepth 100000 in
set_option maxHeartbeats 2000000 in
theorem check2_any {w : World} {s m1 m2 : Nat} {L : Lk} {fr : List Int} {N : Nat} {pv fv iv qv rv lv nv gv : Value} {pf nf : Th → Option Int} {sb lb : Nat} (h : Cx w s m1 m2 L fr N pv fv iv qv rv lv nv gv pf nf sb lb) (i : Nat) (x : Pc) (hx : L.procs[i]? = some x) : Calls Try.prog 52 #[.int .i64 i, .pointer (some ⟨sb, 0, .none⟩), .pointer (some ⟨lb, 0, .none⟩)] w (WrP w (unW (okP L pf i x) 10 (x.c 0))) := by
 obtain ⟨pp, pc, hpv⟩ := h.sy.lk.ps.form
 have hin : i < L.procs.length := (List.getElem?_eq_some_iff.1 hx).1
 obtain ⟨n, hn⟩ : ∃ n, n = L.procs.length := ⟨_, rfl⟩
 rw [← hn] at hpv hin
 have hsl := h.sy.lk.ps
 rw [hpv] at hsl
 obtain ⟨-, b, o, y, cs, hpe, hbX, hy, ⟨nv2, gv2, rfl, hN2, hG2⟩, hcl, hr⟩ := hsl.at hin
 obtain rfl : x = y := by rw [hx] at hy; injection hy
 subst hpe
 have k1 := h.at 1 _ rfl
 rw [hpv] at k1
 have i1 : (i : Int) < n := by omega
 have bn : n ≤ 1048576 := by have := h.sy.rg.pl; omega
 obtain ⟨nu, hnu⟩ : ∃ nu, nu = x.c 0 := ⟨_, rfl⟩
 have HRX := h.sy.rg.p x (List.mem_of_getElem? hx)
 have kn : w.cell? ⟨b, o + i * 70, .none⟩ = some (.int .i64 nu) := by rw [hnu]; have := hr 0 _ rfl; rw [Nat.add_zero] at this; exact this
 obtain ⟨ok, hok⟩ : ∃ ok, ok = okP L pf i x := ⟨_, rfl⟩
 have HOK : Hid (ok = okP L pf i x) := hok
 rw [← hok, ← hnu]
 have HSY : Hid (Cx w s m1 m2 L fr N pv fv iv qv rv lv nv gv pf nf sb lb) := h
 have HX : Hid (L.procs[i]? = some x) := hx
 have HKK : Hid (∀ V, Below w.heap.size w V → V.cell? ⟨sb, 0, .none⟩ = some (.pointer (some ⟨s, 0, .none⟩)) ∧ V.cell? ⟨lb, 1, .none⟩ = some (.slice (some ⟨b, o, .none⟩) n pc) ∧ V.cell? ⟨b, o + i * 70, .none⟩ = some (.int .i64 nu) ∧ V.rangeAt b (o + i * 70) (x.l nv2 gv2)) := fun V hV => ⟨(h.keep hV).cb, (hV.cell (p := ⟨lb, 1, .none⟩) h.ll).trans k1, (hV.cell (p := ⟨b, o + i * 70, .none⟩) hbX).trans kn, range_keep hr hV hbX⟩
 clear h hx hy hbX hcl hsl hpv hn k1 hnu kn hr hok hN2 hG2
 obtain ⟨u0, hu0⟩ : ∃ u, u = unW ok 10 nu := ⟨_, rfl⟩
 rw [← hu0]
 have HU : Hid (∀ V, Calls Try.prog 51 #[.bool ok, .int .i64 10, .int .i64 nu] V (WrP V u0)) := fun V => by rw [hu0]; exact unless_any ok 10 nu V
 clear hu0
 go_enter Try.func52, Try.ntmps52
 go_upto_region 1 with (first
  | (refine wpList_is (.alloc 39) rfl ?_; refine wpList_allocG 39 2 16 info39 4 _ rfl rfl rfl ?_; intro W1 zs hzs hW1 hB1 hs1)
  | fail)
 have HFB : Hid (∀ V, Below W1.heap.size W1 V → Below w.heap.size w V) := fun V hV => hB1.trans (hV.mono (by omega))
 have HK : Hid (∀ V, Below W1.heap.size W1 V → V.cell? ⟨sb, 0, .none⟩ = some (.pointer (some ⟨s, 0, .none⟩)) ∧ V.cell? ⟨lb, 1, .none⟩ = some (.slice (some ⟨b, o, .none⟩) n pc) ∧ V.cell? ⟨b, o + i * 70, .none⟩ = some (.int .i64 nu) ∧ V.rangeAt b (o + i * 70) (x.l nv2 gv2)) := fun V hV => HKK.out V (HFB.out V hV)
 have HBd : Hid (Below W1.heap.size W1 W1.drew) := (Below.refl _ _).drew
 have hS : (fun V : World => V.cell? ⟨sb, 0, .none⟩ = some (.pointer (some ⟨s, 0, .none⟩)) ∧ V.cell? ⟨lb, 1, .none⟩ = some (.slice (some ⟨b, o, .none⟩) n pc) ∧ V.cell? ⟨b, o + i * 70, .none⟩ = some (.int .i64 nu) ∧ V.rangeAt b (o + i * 70) (x.l nv2 gv2)) W1.drew := HK.out _ HBd.out
 have HW1 : Hid (W1.heap[w.heap.size]? = some (.cells zs.toArray 39) ∧ w.heap.size < W1.heap.size) := ⟨hW1, by omega⟩
 clear hW1 hB1 hs1 HKK HRX
 refine region_set (fun V => V.cell? ⟨sb, 0, .none⟩ = some (.pointer (some ⟨s, 0, .none⟩)) ∧ V.cell? ⟨lb, 1, .none⟩ = some (.slice (some ⟨b, o, .none⟩) n pc) ∧ V.cell? ⟨b, o + i * 70, .none⟩ = some (.int .i64 nu) ∧ V.rangeAt b (o + i * 70) (x.l nv2 gv2)) 10 [] (by kernel_rfl) ?_
 refine sT 0 (.pointer (some ⟨s, 0, .none⟩)) rfl (fun ww hSw => by obtain ⟨hs1, hs2, hs3, hs4⟩ := hSw; go_simp) hS ?_
 simp only [x0,x1,x2,x3,x4,x5,x6]
 refine sT 1 (.int .i64 i) rfl (fun ww hSw => by obtain ⟨hs1, hs2, hs3, hs4⟩ := hSw; go_simp) hS ?_
 simp only [x0,x1,x2,x3,x4,x5,x6]
 refine sT 3 (.pointer (some ⟨lb, 1, .none⟩)) rfl (fun ww hSw => by obtain ⟨hs1, hs2, hs3, hs4⟩ := hSw; go_simp) hS ?_
 simp only [x0,x1,x2,x3,x4,x5,x6]
 refine sT 4 (.slice (some ⟨b, o, .none⟩) n pc) rfl (fun ww hSw => by obtain ⟨hs1, hs2, hs3, hs4⟩ := hSw; go_simp) hS ?_
 simp only [x0,x1,x2,x3,x4,x5,x6]
 refine sT 5 (.int .i64 i) rfl (fun ww hSw => by obtain ⟨hs1, hs2, hs3, hs4⟩ := hSw; go_simp) hS ?_
 simp only [x0,x1,x2,x3,x4,x5,x6]
 refine sT 6 (.pointer (some ⟨b, o + i * 70, .none⟩)) rfl (fun ww hSw => by obtain ⟨hs1, hs2, hs3, hs4⟩ := hSw; go_simp) hS ?_
 simp only [x0,x1,x2,x3,x4,x5,x6]
 refine sT 7 (.pointer (some ⟨b, o + i * 70, .none⟩)) rfl (fun ww hSw => by obtain ⟨hs1, hs2, hs3, hs4⟩ := hSw; go_simp) hS ?_
 simp only [x0,x1,x2,x3,x4,x5,x6]
 refine sT 8 (.int .i64 nu) rfl (fun ww hSw => by obtain ⟨hs1, hs2, hs3, hs4⟩ := hSw; go_simp) hS ?_
 simp only [x0,x1,x2,x3,x4,x5,x6]
 refine set_only (i := 2) (by kernel_rfl) rfl (by rfl) (fun K hK => ?_)
 go_simp
 go_at_call 53
 refine (is75_any (HSY.out.keep (HFB.out _ HBd.out)).sy i x HX.out).mono ?_
 rintro e V1 ⟨rfl, hv1⟩
 have HB1 : Hid (Below W1.heap.size W1 V1) := HBd.out.trans (hv1.mono HBd.out.size)
 have hS1 := HK.out _ HB1.out
 rw [← HOK.out]
 clear hS hv1
 refine hK.out _ _ (fun _ => hS1) ?_
 clear hK K
 try simp only [x0,x1,x2,x3,x4,x5,x6]
 refine set_only (i := 9) (by kernel_rfl) rfl (by rfl) (fun K hK => ?_)
 go_simp
 go_at_call 51
 refine (HU.out _).mono ?_
 rintro e V2 ⟨rfl, hv2⟩
 have HB2 : Hid (Below W1.heap.size W1 V2) := HB1.out.trans (hv2.mono HB1.out.size)
 have hS2 := HK.out _ HB2.out
 clear hS1 hv2
 refine hK.out _ _ (fun _ => hS2) ?_
 clear hK K
 try simp only [x0,x1,x2,x3,x4,x5,x6]
 refine set_tail 1 10 _ _ _ _ (by kernel_rfl) (by decide) ?_
 simp only [List.toList_toArray, List.drop_succ_cons, List.drop_zero]
 clear hS2
 have hV2 : V2.heap[w.heap.size]? = some (.cells zs.toArray 39) := (HB2.out.block _ HW1.out.2).trans HW1.out.1
 go_wp2_with (first
  | (refine wpList_is (.store 39 (.tmp 4) (.tmp 14)) rfl ?_; refine wpList_storeG 39 2 16 w.heap.size info39 (wrL u0) zs rfl hzs (List.all_eq_true.1 (show (wrL u0).all (fun u => u.oneCell') = true from rfl)) (.tmp 4) (.tmp 14) _ rfl rfl rfl rfl rfl hV2 ?_; intro W6 hW6 hg6 hs6)
  | fail)
 refine bodyPost_ret (results_cell_any (p := 4) (ty := 39) rfl _ _ ⟨w.heap.size, 0, .none⟩ _ rfl (run_loadVar_mid (P := Try.prog) _ w.heap.size 0 39 (wrL u0) _ (range_heap hW6) Try.underlying39 rfl (by kernel_rfl))) rfl ?_
 exact ⟨rfl, below_new (HFB.out _ HB2.out) hg6 (by have := HB2.out.size; have := HW1.out.2; omega)⟩
set_option maxRecDepth 100000 in
set_option maxHeartbeats 2000000 in
theorem check3_any {w : World} {s m1 m2 : Nat} {L : Lk} {fr : List Int} {N : Nat} {pv fv iv qv rv lv nv gv : Value} {pf nf : Th → Option Int} {sb lb : Nat} (h : Cx w s m1 m2 L fr N pv fv iv qv rv lv nv gv pf nf sb lb) (i : Nat) (x : Pc) (hx : L.procs[i]? = some x) : Calls Try.prog 54 #[.int .i64 i, .pointer (some ⟨lb, 0, .none⟩)] w (WrP w (unW (okG x) 11 (x.c 0))) := by
 obtain ⟨pp, pc, hpv⟩ := h.sy.lk.ps.form
 have hin : i < L.procs.length := (List.getElem?_eq_some_iff.1 hx).1
 obtain ⟨n, hn⟩ : ∃ n, n = L.procs.length := ⟨_, rfl⟩
 rw [← hn] at hpv hin
 have hsl := h.sy.lk.ps
 rw [hpv] at hsl
 obtain ⟨-, b, o, y, cs, hpe, hbX, hy, ⟨nv2, gv2, rfl, hN2, hG2⟩, hcl, hr⟩ := hsl.at hin
 obtain rfl : x = y := by rw [hx] at hy; injection hy
 subst hpe
 have k1 := h.at 1 _ rfl
 rw [hpv] at k1
 have i1 : (i : Int) < n := by omega
 have bn : n ≤ 1048576 := by have := h.sy.rg.pl; omega
 obtain ⟨nu, hnu⟩ : ∃ nu, nu = x.c 0 := ⟨_, rfl⟩
 have HRX := h.sy.rg.p x (List.mem_of_getElem? hx)
 have kn : w.cell? ⟨b, o + i * 70, .none⟩ = some (.int .i64 nu) := by rw [hnu]; have := hr 0 _ rfl; rw [Nat.add_zero] at this; exact this
 obtain ⟨ok, hok⟩ : ∃ ok, ok = okG x := ⟨_, rfl⟩
 have HOK : Hid (ok = okG x) := hok
 rw [← hok, ← hnu]
 have HSY : Hid (Cx w s m1 m2 L fr N pv fv iv qv rv lv nv gv pf nf sb lb) := h
 have HX : Hid (L.procs[i]? = some x) := hx
 obtain ⟨ap, ac, rfl⟩ := hN2.form
 obtain ⟨cp, cc, rfl⟩ := hG2.form
 have HGK : Hid (∀ V, Below w.heap.size w V → Gs V w.heap.size (.slice cp x.pages.length cc) x.pages ∧ w.heap.size ≤ V.heap.size) := fun V hV => ⟨hG2.keep (Nat.le_refl _) hV, hV.size⟩
 have HRR : Hid (PcR x) := HRX
 clear hN2 hG2
 have HKK : Hid (∀ V, Below w.heap.size w V → V.cell? ⟨sb, 0, .none⟩ = some (.pointer (some ⟨s, 0, .none⟩)) ∧ V.cell? ⟨lb, 1, .none⟩ = some (.slice (some ⟨b, o, .none⟩) n pc) ∧ V.cell? ⟨b, o + i * 70, .none⟩ = some (.int .i64 nu) ∧ V.rangeAt b (o + i * 70) (x.l (.slice ap x.nodes.length ac) (.slice cp x.pages.length cc))) := fun V hV => ⟨(h.keep hV).cb, (hV.cell (p := ⟨lb, 1, .none⟩) h.ll).trans k1, (hV.cell (p := ⟨b, o + i * 70, .none⟩) hbX).trans kn, range_keep hr hV hbX⟩
 clear h hx hy hbX hcl hsl hpv hn k1 hnu kn hr hok
 obtain ⟨u0, hu0⟩ : ∃ u, u = unW ok 11 nu := ⟨_, rfl⟩
 rw [← hu0]
 have HU : Hid (∀ V, Calls Try.prog 51 #[.bool ok, .int .i64 11, .int .i64 nu] V (WrP V u0)) := fun V => by rw [hu0]; exact unless_any ok 11 nu V
 clear hu0
 go_enter Try.func54, Try.ntmps54
 go_upto_region 1 with (first
  | (refine wpList_is (.alloc 39) rfl ?_; refine wpList_allocG 39 2 16 info39 3 _ rfl rfl rfl ?_; intro W1 zs hzs hW1 hB1 hs1)
  | fail)
 have HFB : Hid (∀ V, Below W1.heap.size W1 V → Below w.heap.size w V) := fun V hV => hB1.trans (hV.mono (by omega))
 have HK : Hid (∀ V, Below W1.heap.size W1 V → V.cell? ⟨sb, 0, .none⟩ = some (.pointer (some ⟨s, 0, .none⟩)) ∧ V.cell? ⟨lb, 1, .none⟩ = some (.slice (some ⟨b, o, .none⟩) n pc) ∧ V.cell? ⟨b, o + i * 70, .none⟩ = some (.int .i64 nu) ∧ V.rangeAt b (o + i * 70) (x.l (.slice ap x.nodes.length ac) (.slice cp x.pages.length cc))) := fun V hV => HKK.out V (HFB.out V hV)
 have HBd : Hid (Below W1.heap.size W1 W1.drew) := (Below.refl _ _).drew
 have hS : (fun V : World => V.cell? ⟨sb, 0, .none⟩ = some (.pointer (some ⟨s, 0, .none⟩)) ∧ V.cell? ⟨lb, 1, .none⟩ = some (.slice (some ⟨b, o, .none⟩) n pc) ∧ V.cell? ⟨b, o + i * 70, .none⟩ = some (.int .i64 nu) ∧ V.rangeAt b (o + i * 70) (x.l (.slice ap x.nodes.length ac) (.slice cp x.pages.length cc))) W1.drew := HK.out _ HBd.out
 have HW1 : Hid (W1.heap[w.heap.size]? = some (.cells zs.toArray 39) ∧ w.heap.size < W1.heap.size) := ⟨hW1, by omega⟩
 clear hW1 hB1 hs1 HKK HRX
 refine region_set (fun V => V.cell? ⟨sb, 0, .none⟩ = some (.pointer (some ⟨s, 0, .none⟩)) ∧ V.cell? ⟨lb, 1, .none⟩ = some (.slice (some ⟨b, o, .none⟩) n pc) ∧ V.cell? ⟨b, o + i * 70, .none⟩ = some (.int .i64 nu) ∧ V.rangeAt b (o + i * 70) (x.l (.slice ap x.nodes.length ac) (.slice cp x.pages.length cc))) 13 [] (by kernel_rfl) ?_
 refine sT 0 (.pointer (some ⟨lb, 1, .none⟩)) rfl (fun ww hSw => by obtain ⟨hs1, hs2, hs3, hs4⟩ := hSw; go_simp) hS ?_
 simp only [x0,x1,x2,x3,x4,x5,x6]
 refine sT 1 (.slice (some ⟨b, o, .none⟩) n pc) rfl (fun ww hSw => by obtain ⟨hs1, hs2, hs3, hs4⟩ := hSw; go_simp) hS ?_
 simp only [x0,x1,x2,x3,x4,x5,x6]
 refine sT 2 (.int .i64 i) rfl (fun ww hSw => by obtain ⟨hs1, hs2, hs3, hs4⟩ := hSw; go_simp) hS ?_
 simp only [x0,x1,x2,x3,x4,x5,x6]
 refine sT 3 (.pointer (some ⟨b, o + i * 70, .none⟩)) rfl (fun ww hSw => by obtain ⟨hs1, hs2, hs3, hs4⟩ := hSw; go_simp) hS ?_
 simp only [x0,x1,x2,x3,x4,x5,x6]
 refine sV (i := 4) (v := .agg (x.l (.slice ap x.nodes.length ac) (.slice cp x.pages.length cc)).toArray) rfl (yieldsIf_load_mid (by rfl) 60 (.tmp 7) rfl (b) (o + i * 70) rfl (x.l (.slice ap x.nodes.length ac) (.slice cp x.pages.length cc)) _ (fun ww hSw => hSw.2.2.2) Try.underlying60 rfl (by first | kernel_rfl | (rw [rfl]; kernel_rfl))) hS ?_
 simp only [x0,x1,x2,x3,x4,x5,x6]
 refine sT 6 (.pointer (some ⟨lb, 1, .none⟩)) rfl (fun ww hSw => by obtain ⟨hs1, hs2, hs3, hs4⟩ := hSw; go_simp) hS ?_
 simp only [x0,x1,x2,x3,x4,x5,x6]
 refine sT 7 (.slice (some ⟨b, o, .none⟩) n pc) rfl (fun ww hSw => by obtain ⟨hs1, hs2, hs3, hs4⟩ := hSw; go_simp) hS ?_
 simp only [x0,x1,x2,x3,x4,x5,x6]
 refine sT 8 (.int .i64 i) rfl (fun ww hSw => by obtain ⟨hs1, hs2, hs3, hs4⟩ := hSw; go_simp) hS ?_
 simp only [x0,x1,x2,x3,x4,x5,x6]
 refine sT 9 (.pointer (some ⟨b, o + i * 70, .none⟩)) rfl (fun ww hSw => by obtain ⟨hs1, hs2, hs3, hs4⟩ := hSw; go_simp) hS ?_
 simp only [x0,x1,x2,x3,x4,x5,x6]
 refine sT 10 (.pointer (some ⟨b, o + i * 70, .none⟩)) rfl (fun ww hSw => by obtain ⟨hs1, hs2, hs3, hs4⟩ := hSw; go_simp) hS ?_
 simp only [x0,x1,x2,x3,x4,x5,x6]
 refine sT 11 (.int .i64 nu) rfl (fun ww hSw => by obtain ⟨hs1, hs2, hs3, hs4⟩ := hSw; go_simp) hS ?_
 simp only [x0,x1,x2,x3,x4,x5,x6]
 refine set_only (i := 5) (by kernel_rfl) rfl (by rfl) (fun K hK => ?_)
 go_simp
 go_at_call 55
 refine (hasPages_any (HGK.out _ (HFB.out _ HBd.out)).2 x ap cp ac cc (HGK.out _ (HFB.out _ HBd.out)).1 HRR.out).mono ?_
 rintro e V1 ⟨rfl, hv1⟩
 have HB1 : Hid (Below W1.heap.size W1 V1) := HBd.out.trans (hv1.mono HBd.out.size)
 have hS1 := HK.out _ HB1.out
 rw [← HOK.out]
 clear hS hv1
 refine hK.out _ _ (fun _ => hS1) ?_
 clear hK K
 try simp only [x0,x1,x2,x3,x4,x5,x6]
 refine set_only (i := 12) (by kernel_rfl) rfl (by rfl) (fun K hK => ?_)
 go_simp
 go_at_call 51
 refine (HU.out _).mono ?_
 rintro e V2 ⟨rfl, hv2⟩
 have HB2 : Hid (Below W1.heap.size W1 V2) := HB1.out.trans (hv2.mono HB1.out.size)
 have hS2 := HK.out _ HB2.out
 clear hS1 hv2
 refine hK.out _ _ (fun _ => hS2) ?_
 clear hK K
 try simp only [x0,x1,x2,x3,x4,x5,x6]
 refine set_tail 1 13 _ _ _ _ (by kernel_rfl) (by decide) ?_
 simp only [List.toList_toArray, List.drop_succ_cons, List.drop_zero]
 clear hS2
 have hV2 : V2.heap[w.heap.size]? = some (.cells zs.toArray 39) := (HB2.out.block _ HW1.out.2).trans HW1.out.1
 go_wp2_with (first
  | (refine wpList_is (.store 39 (.tmp 3) (.tmp 16)) rfl ?_; refine wpList_storeG 39 2 16 w.heap.size info39 (wrL u0) zs rfl hzs (List.all_eq_true.1 (show (wrL u0).all (fun u => u.oneCell') = true from rfl)) (.tmp 3) (.tmp 16) _ rfl rfl rfl rfl rfl hV2 ?_; intro W6 hW6 hg6 hs6)
  | fail)
 refine bodyPost_ret (results_cell_any (p := 3) (ty := 39) rfl _ _ ⟨w.heap.size, 0, .none⟩ _ rfl (run_loadVar_mid (P := Try.prog) _ w.heap.size 0 39 (wrL u0) _ (range_heap hW6) Try.underlying39 rfl (by kernel_rfl))) rfl ?_
 exact ⟨rfl, below_new (HFB.out _ HB2.out) hg6 (by have := HB2.out.size; have := HW1.out.2; omega)⟩
set_option maxRecDepth 100000 in
set_option maxHeartbeats 2000000 in
theorem check4_any {w : World} {s m1 m2 : Nat} {L : Lk} {fr : List Int} {N : Nat} {pv fv iv qv rv lv nv gv : Value} {pf nf : Th → Option Int} {sb lb : Nat} (h : Cx w s m1 m2 L fr N pv fv iv qv rv lv nv gv pf nf sb lb) (i : Nat) (x : Pc) (hx : L.procs[i]? = some x) : Calls Try.prog 56 #[.int .i64 i, .pointer (some ⟨sb, 0, .none⟩), .pointer (some ⟨lb, 0, .none⟩)] w (WrP w (unW (okD pf x) 6 (x.c 0))) := by
 obtain ⟨pp, pc, hpv⟩ := h.sy.lk.ps.form
 have hin : i < L.procs.length := (List.getElem?_eq_some_iff.1 hx).1
 obtain ⟨n, hn⟩ : ∃ n, n = L.procs.length := ⟨_, rfl⟩
 rw [← hn] at hpv hin
 have hsl := h.sy.lk.ps
 rw [hpv] at hsl
 obtain ⟨-, b, o, y, cs, hpe, hbX, hy, ⟨nv2, gv2, rfl, hN2, hG2⟩, hcl, hr⟩ := hsl.at hin
 obtain rfl : x = y := by rw [hx] at hy; injection hy
 subst hpe
 have k1 := h.at 1 _ rfl
 rw [hpv] at k1
 have i1 : (i : Int) < n := by omega
 have bn : n ≤ 1048576 := by have := h.sy.rg.pl; omega
 obtain ⟨nu, hnu⟩ : ∃ nu, nu = x.c 0 := ⟨_, rfl⟩
 have HRX := h.sy.rg.p x (List.mem_of_getElem? hx)
 have kn : w.cell? ⟨b, o + i * 70, .none⟩ = some (.int .i64 nu) := by rw [hnu]; have := hr 0 _ rfl; rw [Nat.add_zero] at this; exact this
 obtain ⟨ok, hok⟩ : ∃ ok, ok = okD pf x := ⟨_, rfl⟩
 have HOK : Hid (ok = okD pf x) := hok
 rw [← hok, ← hnu]
 have HSY : Hid (Cx w s m1 m2 L fr N pv fv iv qv rv lv nv gv pf nf sb lb) := h
 have HX : Hid (L.procs[i]? = some x) := hx
 have HRR : Hid (PcR x) := HRX
 have HKK : Hid (∀ V, Below w.heap.size w V → V.cell? ⟨sb, 0, .none⟩ = some (.pointer (some ⟨s, 0, .none⟩)) ∧ V.cell? ⟨lb, 1, .none⟩ = some (.slice (some ⟨b, o, .none⟩) n pc) ∧ V.cell? ⟨b, o + i * 70, .none⟩ = some (.int .i64 nu) ∧ V.rangeAt b (o + i * 70) (x.l nv2 gv2)) := fun V hV => ⟨(h.keep hV).cb, (hV.cell (p := ⟨lb, 1, .none⟩) h.ll).trans k1, (hV.cell (p := ⟨b, o + i * 70, .none⟩) hbX).trans kn, range_keep hr hV hbX⟩
 clear h hx hy hbX hcl hsl hpv hn k1 hnu kn hr hok hN2 hG2
 obtain ⟨u0, hu0⟩ : ∃ u, u = unW ok 6 nu := ⟨_, rfl⟩
 rw [← hu0]
 have HU : Hid (∀ V, Calls Try.prog 51 #[.bool ok, .int .i64 6, .int .i64 nu] V (WrP V u0)) := fun V => by rw [hu0]; exact unless_any ok 6 nu V
 clear hu0
 go_enter Try.func56, Try.ntmps56
 go_upto_region 1 with (first
  | (refine wpList_is (.alloc 39) rfl ?_; refine wpList_allocG 39 2 16 info39 4 _ rfl rfl rfl ?_; intro W1 zs hzs hW1 hB1 hs1)
  | fail)
 have HFB : Hid (∀ V, Below W1.heap.size W1 V → Below w.heap.size w V) := fun V hV => hB1.trans (hV.mono (by omega))
 have HK : Hid (∀ V, Below W1.heap.size W1 V → V.cell? ⟨sb, 0, .none⟩ = some (.pointer (some ⟨s, 0, .none⟩)) ∧ V.cell? ⟨lb, 1, .none⟩ = some (.slice (some ⟨b, o, .none⟩) n pc) ∧ V.cell? ⟨b, o + i * 70, .none⟩ = some (.int .i64 nu) ∧ V.rangeAt b (o + i * 70) (x.l nv2 gv2)) := fun V hV => HKK.out V (HFB.out V hV)
 have HBd : Hid (Below W1.heap.size W1 W1.drew) := (Below.refl _ _).drew
 have hS : (fun V : World => V.cell? ⟨sb, 0, .none⟩ = some (.pointer (some ⟨s, 0, .none⟩)) ∧ V.cell? ⟨lb, 1, .none⟩ = some (.slice (some ⟨b, o, .none⟩) n pc) ∧ V.cell? ⟨b, o + i * 70, .none⟩ = some (.int .i64 nu) ∧ V.rangeAt b (o + i * 70) (x.l nv2 gv2)) W1.drew := HK.out _ HBd.out
 have HW1 : Hid (W1.heap[w.heap.size]? = some (.cells zs.toArray 39) ∧ w.heap.size < W1.heap.size) := ⟨hW1, by omega⟩
 clear hW1 hB1 hs1 HKK HRX
 refine region_set (fun V => V.cell? ⟨sb, 0, .none⟩ = some (.pointer (some ⟨s, 0, .none⟩)) ∧ V.cell? ⟨lb, 1, .none⟩ = some (.slice (some ⟨b, o, .none⟩) n pc) ∧ V.cell? ⟨b, o + i * 70, .none⟩ = some (.int .i64 nu) ∧ V.rangeAt b (o + i * 70) (x.l nv2 gv2)) 14 [] (by kernel_rfl) ?_
 refine sT 0 (.pointer (some ⟨s, 0, .none⟩)) rfl (fun ww hSw => by obtain ⟨hs1, hs2, hs3, hs4⟩ := hSw; go_simp) hS ?_
 simp only [x0,x1,x2,x3,x4,x5,x6]
 refine sT 1 (.pointer (some ⟨lb, 1, .none⟩)) rfl (fun ww hSw => by obtain ⟨hs1, hs2, hs3, hs4⟩ := hSw; go_simp) hS ?_
 simp only [x0,x1,x2,x3,x4,x5,x6]
 refine sT 2 (.slice (some ⟨b, o, .none⟩) n pc) rfl (fun ww hSw => by obtain ⟨hs1, hs2, hs3, hs4⟩ := hSw; go_simp) hS ?_
 simp only [x0,x1,x2,x3,x4,x5,x6]
 refine sT 3 (.int .i64 i) rfl (fun ww hSw => by obtain ⟨hs1, hs2, hs3, hs4⟩ := hSw; go_simp) hS ?_
 simp only [x0,x1,x2,x3,x4,x5,x6]
 refine sT 4 (.pointer (some ⟨b, o + i * 70, .none⟩)) rfl (fun ww hSw => by obtain ⟨hs1, hs2, hs3, hs4⟩ := hSw; go_simp) hS ?_
 simp only [x0,x1,x2,x3,x4,x5,x6]
 refine sV (i := 5) (v := .agg (x.l nv2 gv2).toArray) rfl (yieldsIf_load_mid (by rfl) 60 (.tmp 9) rfl (b) (o + i * 70) rfl (x.l nv2 gv2) _ (fun ww hSw => hSw.2.2.2) Try.underlying60 rfl (by first | kernel_rfl | (rw [rfl]; kernel_rfl))) hS ?_
 simp only [x0,x1,x2,x3,x4,x5,x6]
 refine sT 7 (.pointer (some ⟨lb, 1, .none⟩)) rfl (fun ww hSw => by obtain ⟨hs1, hs2, hs3, hs4⟩ := hSw; go_simp) hS ?_
 simp only [x0,x1,x2,x3,x4,x5,x6]
 refine sT 8 (.slice (some ⟨b, o, .none⟩) n pc) rfl (fun ww hSw => by obtain ⟨hs1, hs2, hs3, hs4⟩ := hSw; go_simp) hS ?_
 simp only [x0,x1,x2,x3,x4,x5,x6]
 refine sT 9 (.int .i64 i) rfl (fun ww hSw => by obtain ⟨hs1, hs2, hs3, hs4⟩ := hSw; go_simp) hS ?_
 simp only [x0,x1,x2,x3,x4,x5,x6]
 refine sT 10 (.pointer (some ⟨b, o + i * 70, .none⟩)) rfl (fun ww hSw => by obtain ⟨hs1, hs2, hs3, hs4⟩ := hSw; go_simp) hS ?_
 simp only [x0,x1,x2,x3,x4,x5,x6]
 refine sT 11 (.pointer (some ⟨b, o + i * 70, .none⟩)) rfl (fun ww hSw => by obtain ⟨hs1, hs2, hs3, hs4⟩ := hSw; go_simp) hS ?_
 simp only [x0,x1,x2,x3,x4,x5,x6]
 refine sT 12 (.int .i64 nu) rfl (fun ww hSw => by obtain ⟨hs1, hs2, hs3, hs4⟩ := hSw; go_simp) hS ?_
 simp only [x0,x1,x2,x3,x4,x5,x6]
 refine set_only (i := 6) (by kernel_rfl) rfl (by rfl) (fun K hK => ?_)
 go_simp
 go_at_call 57
 refine (hasFds_any (HSY.out.keep (HFB.out _ HBd.out)).sy.sv x nv2 gv2 HRR.out).mono ?_
 rintro e V1 ⟨rfl, hv1⟩
 have HB1 : Hid (Below W1.heap.size W1 V1) := HBd.out.trans (hv1.mono HBd.out.size)
 have hS1 := HK.out _ HB1.out
 rw [← HOK.out]
 clear hS hv1
 refine hK.out _ _ (fun _ => hS1) ?_
 clear hK K
 try simp only [x0,x1,x2,x3,x4,x5,x6]
 refine set_only (i := 13) (by kernel_rfl) rfl (by rfl) (fun K hK => ?_)
 go_simp
 go_at_call 51
 refine (HU.out _).mono ?_
 rintro e V2 ⟨rfl, hv2⟩
 have HB2 : Hid (Below W1.heap.size W1 V2) := HB1.out.trans (hv2.mono HB1.out.size)
 have hS2 := HK.out _ HB2.out
 clear hS1 hv2
 refine hK.out _ _ (fun _ => hS2) ?_
 clear hK K
 try simp only [x0,x1,x2,x3,x4,x5,x6]
 refine set_tail 1 14 _ _ _ _ (by kernel_rfl) (by decide) ?_
 simp only [List.toList_toArray, List.drop_succ_cons, List.drop_zero]
 clear hS2
 have hV2 : V2.heap[w.heap.size]? = some (.cells zs.toArray 39) := (HB2.out.block _ HW1.out.2).trans HW1.out.1
 go_wp2_with (first
  | (refine wpList_is (.store 39 (.tmp 4) (.tmp 18)) rfl ?_; refine wpList_storeG 39 2 16 w.heap.size info39 (wrL u0) zs rfl hzs (List.all_eq_true.1 (show (wrL u0).all (fun u => u.oneCell') = true from rfl)) (.tmp 4) (.tmp 18) _ rfl rfl rfl rfl rfl hV2 ?_; intro W6 hW6 hg6 hs6)
  | fail)
 refine bodyPost_ret (results_cell_any (p := 4) (ty := 39) rfl _ _ ⟨w.heap.size, 0, .none⟩ _ rfl (run_loadVar_mid (P := Try.prog) _ w.heap.size 0 39 (wrL u0) _ (range_heap hW6) Try.underlying39 rfl (by kernel_rfl))) rfl ?_
 exact ⟨rfl, below_new (HFB.out _ HB2.out) hg6 (by have := HB2.out.size; have := HW1.out.2; omega)⟩
set_option maxRecDepth 100000 in
set_option maxHeartbeats 2000000 in
theorem check5_any {w : World} {s m1 m2 : Nat} {L : Lk} {fr : List Int} {N : Nat} {pv fv iv qv rv lv nv gv : Value} {pf nf : Th → Option Int} {sb lb : Nat} (h : Cx w s m1 m2 L fr N pv fv iv qv rv lv nv gv pf nf sb lb) (i : Nat) (x : Fi) (hx : L.files[i]? = some x) : Calls Try.prog 58 #[.int .i64 i, .pointer (some ⟨sb, 0, .none⟩), .pointer (some ⟨lb, 0, .none⟩)] w (WrP w (unW (okF L pf nf i x) 7 (x.num))) := by
 obtain ⟨pp, pc, hpv⟩ := h.sy.lk.fs.form
 have hin : i < L.files.length := (List.getElem?_eq_some_iff.1 hx).1
 obtain ⟨n, hn⟩ : ∃ n, n = L.files.length := ⟨_, rfl⟩
 rw [← hn] at hpv hin
 have hsl := h.sy.lk.fs
 rw [hpv] at hsl
 obtain ⟨-, b, o, y, cs, hpe, hbX, hy, rfl, hcl, hr⟩ := hsl.at hin
 obtain rfl : x = y := by rw [hx] at hy; injection hy
 subst hpe
 have k1 := h.at 2 _ rfl
 rw [hpv] at k1
 have i1 : (i : Int) < n := by omega
 have bn : n ≤ 1048576 := by have := h.sy.rg.fl; omega
 obtain ⟨nu, hnu⟩ : ∃ nu, nu = x.num := ⟨_, rfl⟩
 have HRX := h.sy.rg.f x (List.mem_of_getElem? hx)
 have kn : w.cell? ⟨b, o + i * 8, .none⟩ = some (.int .i64 nu) := by rw [hnu]; have := hr 0 _ rfl; rw [Nat.add_zero] at this; exact this
 obtain ⟨ok, hok⟩ : ∃ ok, ok = okF L pf nf i x := ⟨_, rfl⟩
 have HOK : Hid (ok = okF L pf nf i x) := hok
 rw [← hok, ← hnu]
 have HSY : Hid (Cx w s m1 m2 L fr N pv fv iv qv rv lv nv gv pf nf sb lb) := h
 have HX : Hid (L.files[i]? = some x) := hx
 have HKK : Hid (∀ V, Below w.heap.size w V → V.cell? ⟨sb, 0, .none⟩ = some (.pointer (some ⟨s, 0, .none⟩)) ∧ V.cell? ⟨lb, 2, .none⟩ = some (.slice (some ⟨b, o, .none⟩) n pc) ∧ V.cell? ⟨b, o + i * 8, .none⟩ = some (.int .i64 nu) ∧ V.rangeAt b (o + i * 8) (x.l)) := fun V hV => ⟨(h.keep hV).cb, (hV.cell (p := ⟨lb, 2, .none⟩) h.ll).trans k1, (hV.cell (p := ⟨b, o + i * 8, .none⟩) hbX).trans kn, range_keep hr hV hbX⟩
 clear h hx hy hbX hcl hsl hpv hn k1 hnu kn hr hok
 obtain ⟨u0, hu0⟩ : ∃ u, u = unW ok 7 nu := ⟨_, rfl⟩
 rw [← hu0]
 have HU : Hid (∀ V, Calls Try.prog 51 #[.bool ok, .int .i64 7, .int .i64 nu] V (WrP V u0)) := fun V => by rw [hu0]; exact unless_any ok 7 nu V
 clear hu0
 go_enter Try.func58, Try.ntmps58
 go_upto_region 1 with (first
  | (refine wpList_is (.alloc 39) rfl ?_; refine wpList_allocG 39 2 16 info39 4 _ rfl rfl rfl ?_; intro W1 zs hzs hW1 hB1 hs1)
  | fail)
 have HFB : Hid (∀ V, Below W1.heap.size W1 V → Below w.heap.size w V) := fun V hV => hB1.trans (hV.mono (by omega))
 have HK : Hid (∀ V, Below W1.heap.size W1 V → V.cell? ⟨sb, 0, .none⟩ = some (.pointer (some ⟨s, 0, .none⟩)) ∧ V.cell? ⟨lb, 2, .none⟩ = some (.slice (some ⟨b, o, .none⟩) n pc) ∧ V.cell? ⟨b, o + i * 8, .none⟩ = some (.int .i64 nu) ∧ V.rangeAt b (o + i * 8) (x.l)) := fun V hV => HKK.out V (HFB.out V hV)
 have HBd : Hid (Below W1.heap.size W1 W1.drew) := (Below.refl _ _).drew
 have hS : (fun V : World => V.cell? ⟨sb, 0, .none⟩ = some (.pointer (some ⟨s, 0, .none⟩)) ∧ V.cell? ⟨lb, 2, .none⟩ = some (.slice (some ⟨b, o, .none⟩) n pc) ∧ V.cell? ⟨b, o + i * 8, .none⟩ = some (.int .i64 nu) ∧ V.rangeAt b (o + i * 8) (x.l)) W1.drew := HK.out _ HBd.out
 have HW1 : Hid (W1.heap[w.heap.size]? = some (.cells zs.toArray 39) ∧ w.heap.size < W1.heap.size) := ⟨hW1, by omega⟩
 clear hW1 hB1 hs1 HKK HRX
 refine region_set (fun V => V.cell? ⟨sb, 0, .none⟩ = some (.pointer (some ⟨s, 0, .none⟩)) ∧ V.cell? ⟨lb, 2, .none⟩ = some (.slice (some ⟨b, o, .none⟩) n pc) ∧ V.cell? ⟨b, o + i * 8, .none⟩ = some (.int .i64 nu) ∧ V.rangeAt b (o + i * 8) (x.l)) 10 [] (by kernel_rfl) ?_
 refine sT 0 (.pointer (some ⟨s, 0, .none⟩)) rfl (fun ww hSw => by obtain ⟨hs1, hs2, hs3, hs4⟩ := hSw; go_simp) hS ?_
 simp only [x0,x1,x2,x3,x4,x5,x6]
 refine sT 1 (.int .i64 i) rfl (fun ww hSw => by obtain ⟨hs1, hs2, hs3, hs4⟩ := hSw; go_simp) hS ?_
 simp only [x0,x1,x2,x3,x4,x5,x6]
 refine sT 3 (.pointer (some ⟨lb, 2, .none⟩)) rfl (fun ww hSw => by obtain ⟨hs1, hs2, hs3, hs4⟩ := hSw; go_simp) hS ?_
 simp only [x0,x1,x2,x3,x4,x5,x6]
 refine sT 4 (.slice (some ⟨b, o, .none⟩) n pc) rfl (fun ww hSw => by obtain ⟨hs1, hs2, hs3, hs4⟩ := hSw; go_simp) hS ?_
 simp only [x0,x1,x2,x3,x4,x5,x6]
 refine sT 5 (.int .i64 i) rfl (fun ww hSw => by obtain ⟨hs1, hs2, hs3, hs4⟩ := hSw; go_simp) hS ?_
 simp only [x0,x1,x2,x3,x4,x5,x6]
 refine sT 6 (.pointer (some ⟨b, o + i * 8, .none⟩)) rfl (fun ww hSw => by obtain ⟨hs1, hs2, hs3, hs4⟩ := hSw; go_simp) hS ?_
 simp only [x0,x1,x2,x3,x4,x5,x6]
 refine sT 7 (.pointer (some ⟨b, o + i * 8, .none⟩)) rfl (fun ww hSw => by obtain ⟨hs1, hs2, hs3, hs4⟩ := hSw; go_simp) hS ?_
 simp only [x0,x1,x2,x3,x4,x5,x6]
 refine sT 8 (.int .i64 nu) rfl (fun ww hSw => by obtain ⟨hs1, hs2, hs3, hs4⟩ := hSw; go_simp) hS ?_
 simp only [x0,x1,x2,x3,x4,x5,x6]
 refine set_only (i := 2) (by kernel_rfl) rfl (by rfl) (fun K hK => ?_)
 go_simp
 go_at_call 59
 refine (is81_any (HSY.out.keep (HFB.out _ HBd.out)).sy i x HX.out).mono ?_
 rintro e V1 ⟨rfl, hv1⟩
 have HB1 : Hid (Below W1.heap.size W1 V1) := HBd.out.trans (hv1.mono HBd.out.size)
 have hS1 := HK.out _ HB1.out
 rw [← HOK.out]
 clear hS hv1
 refine hK.out _ _ (fun _ => hS1) ?_
 clear hK K
 try simp only [x0,x1,x2,x3,x4,x5,x6]
 refine set_only (i := 9) (by kernel_rfl) rfl (by rfl) (fun K hK => ?_)
 go_simp
 go_at_call 51
 refine (HU.out _).mono ?_
 rintro e V2 ⟨rfl, hv2⟩
 have HB2 : Hid (Below W1.heap.size W1 V2) := HB1.out.trans (hv2.mono HB1.out.size)
 have hS2 := HK.out _ HB2.out
 clear hS1 hv2
 refine hK.out _ _ (fun _ => hS2) ?_
 clear hK K
 try simp only [x0,x1,x2,x3,x4,x5,x6]
 refine set_tail 1 10 _ _ _ _ (by kernel_rfl) (by decide) ?_
 simp only [List.toList_toArray, List.drop_succ_cons, List.drop_zero]
 clear hS2
 have hV2 : V2.heap[w.heap.size]? = some (.cells zs.toArray 39) := (HB2.out.block _ HW1.out.2).trans HW1.out.1
 go_wp2_with (first
  | (refine wpList_is (.store 39 (.tmp 4) (.tmp 14)) rfl ?_; refine wpList_storeG 39 2 16 w.heap.size info39 (wrL u0) zs rfl hzs (List.all_eq_true.1 (show (wrL u0).all (fun u => u.oneCell') = true from rfl)) (.tmp 4) (.tmp 14) _ rfl rfl rfl rfl rfl hV2 ?_; intro W6 hW6 hg6 hs6)
  | fail)
 refine bodyPost_ret (results_cell_any (p := 4) (ty := 39) rfl _ _ ⟨w.heap.size, 0, .none⟩ _ rfl (run_loadVar_mid (P := Try.prog) _ w.heap.size 0 39 (wrL u0) _ (range_heap hW6) Try.underlying39 rfl (by kernel_rfl))) rfl ?_
 exact ⟨rfl, below_new (HFB.out _ HB2.out) hg6 (by have := HB2.out.size; have := HW1.out.2; omega)⟩
set_option maxRecDepth 100000 in
set_option maxHeartbeats 2000000 in
theorem check6_any {w : World} {s m1 m2 : Nat} {L : Lk} {fr : List Int} {N : Nat} {pv fv iv qv rv lv nv gv : Value} {pf nf : Th → Option Int} {sb lb : Nat} (h : Cx w s m1 m2 L fr N pv fv iv qv rv lv nv gv pf nf sb lb) (i : Nat) (x : In) (hx : L.inos[i]? = some x) : Calls Try.prog 60 #[.int .i64 i, .pointer (some ⟨sb, 0, .none⟩), .pointer (some ⟨lb, 0, .none⟩)] w (WrP w (unW (okI L nf i x) 8 (x.ino))) := by
 obtain ⟨pp, pc, hpv⟩ := h.sy.lk.is.form
 have hin : i < L.inos.length := (List.getElem?_eq_some_iff.1 hx).1
 obtain ⟨n, hn⟩ : ∃ n, n = L.inos.length := ⟨_, rfl⟩
 rw [← hn] at hpv hin
 have hsl := h.sy.lk.is
 rw [hpv] at hsl
 obtain ⟨-, b, o, y, cs, hpe, hbX, hy, ⟨bv2, rfl, hN2⟩, hcl, hr⟩ := hsl.at hin
 obtain rfl : x = y := by rw [hx] at hy; injection hy
 subst hpe
 have k1 := h.at 3 _ rfl
 rw [hpv] at k1
 have i1 : (i : Int) < n := by omega
 have bn : n ≤ 1048576 := by have := h.sy.rg.il; omega
 obtain ⟨nu, hnu⟩ : ∃ nu, nu = x.ino := ⟨_, rfl⟩
 have HRX := h.sy.rg.i x (List.mem_of_getElem? hx)
 have kn : w.cell? ⟨b, o + i * 8, .none⟩ = some (.int .i64 nu) := by rw [hnu]; have := hr 0 _ rfl; rw [Nat.add_zero] at this; exact this
 obtain ⟨ok, hok⟩ : ∃ ok, ok = okI L nf i x := ⟨_, rfl⟩
 have HOK : Hid (ok = okI L nf i x) := hok
 rw [← hok, ← hnu]
 have HSY : Hid (Cx w s m1 m2 L fr N pv fv iv qv rv lv nv gv pf nf sb lb) := h
 have HX : Hid (L.inos[i]? = some x) := hx
 have HKK : Hid (∀ V, Below w.heap.size w V → V.cell? ⟨sb, 0, .none⟩ = some (.pointer (some ⟨s, 0, .none⟩)) ∧ V.cell? ⟨lb, 3, .none⟩ = some (.slice (some ⟨b, o, .none⟩) n pc) ∧ V.cell? ⟨b, o + i * 8, .none⟩ = some (.int .i64 nu) ∧ V.rangeAt b (o + i * 8) (x.l bv2)) := fun V hV => ⟨(h.keep hV).cb, (hV.cell (p := ⟨lb, 3, .none⟩) h.ll).trans k1, (hV.cell (p := ⟨b, o + i * 8, .none⟩) hbX).trans kn, range_keep hr hV hbX⟩
 clear h hx hy hbX hcl hsl hpv hn k1 hnu kn hr hok hN2
 obtain ⟨u0, hu0⟩ : ∃ u, u = unW ok 8 nu := ⟨_, rfl⟩
 rw [← hu0]
 have HU : Hid (∀ V, Calls Try.prog 51 #[.bool ok, .int .i64 8, .int .i64 nu] V (WrP V u0)) := fun V => by rw [hu0]; exact unless_any ok 8 nu V
 clear hu0
 go_enter Try.func60, Try.ntmps60
 go_upto_region 1 with (first
  | (refine wpList_is (.alloc 39) rfl ?_; refine wpList_allocG 39 2 16 info39 4 _ rfl rfl rfl ?_; intro W1 zs hzs hW1 hB1 hs1)
  | fail)
 have HFB : Hid (∀ V, Below W1.heap.size W1 V → Below w.heap.size w V) := fun V hV => hB1.trans (hV.mono (by omega))
 have HK : Hid (∀ V, Below W1.heap.size W1 V → V.cell? ⟨sb, 0, .none⟩ = some (.pointer (some ⟨s, 0, .none⟩)) ∧ V.cell? ⟨lb, 3, .none⟩ = some (.slice (some ⟨b, o, .none⟩) n pc) ∧ V.cell? ⟨b, o + i * 8, .none⟩ = some (.int .i64 nu) ∧ V.rangeAt b (o + i * 8) (x.l bv2)) := fun V hV => HKK.out V (HFB.out V hV)
 have HBd : Hid (Below W1.heap.size W1 W1.drew) := (Below.refl _ _).drew
 have hS : (fun V : World => V.cell? ⟨sb, 0, .none⟩ = some (.pointer (some ⟨s, 0, .none⟩)) ∧ V.cell? ⟨lb, 3, .none⟩ = some (.slice (some ⟨b, o, .none⟩) n pc) ∧ V.cell? ⟨b, o + i * 8, .none⟩ = some (.int .i64 nu) ∧ V.rangeAt b (o + i * 8) (x.l bv2)) W1.drew := HK.out _ HBd.out
 have HW1 : Hid (W1.heap[w.heap.size]? = some (.cells zs.toArray 39) ∧ w.heap.size < W1.heap.size) := ⟨hW1, by omega⟩
 clear hW1 hB1 hs1 HKK HRX
 refine region_set (fun V => V.cell? ⟨sb, 0, .none⟩ = some (.pointer (some ⟨s, 0, .none⟩)) ∧ V.cell? ⟨lb, 3, .none⟩ = some (.slice (some ⟨b, o, .none⟩) n pc) ∧ V.cell? ⟨b, o + i * 8, .none⟩ = some (.int .i64 nu) ∧ V.rangeAt b (o + i * 8) (x.l bv2)) 10 [] (by kernel_rfl) ?_
 refine sT 0 (.pointer (some ⟨s, 0, .none⟩)) rfl (fun ww hSw => by obtain ⟨hs1, hs2, hs3, hs4⟩ := hSw; go_simp) hS ?_
 simp only [x0,x1,x2,x3,x4,x5,x6]
 refine sT 1 (.int .i64 i) rfl (fun ww hSw => by obtain ⟨hs1, hs2, hs3, hs4⟩ := hSw; go_simp) hS ?_
 simp only [x0,x1,x2,x3,x4,x5,x6]
 refine sT 3 (.pointer (some ⟨lb, 3, .none⟩)) rfl (fun ww hSw => by obtain ⟨hs1, hs2, hs3, hs4⟩ := hSw; go_simp) hS ?_
 simp only [x0,x1,x2,x3,x4,x5,x6]
 refine sT 4 (.slice (some ⟨b, o, .none⟩) n pc) rfl (fun ww hSw => by obtain ⟨hs1, hs2, hs3, hs4⟩ := hSw; go_simp) hS ?_
 simp only [x0,x1,x2,x3,x4,x5,x6]
 refine sT 5 (.int .i64 i) rfl (fun ww hSw => by obtain ⟨hs1, hs2, hs3, hs4⟩ := hSw; go_simp) hS ?_
 simp only [x0,x1,x2,x3,x4,x5,x6]
 refine sT 6 (.pointer (some ⟨b, o + i * 8, .none⟩)) rfl (fun ww hSw => by obtain ⟨hs1, hs2, hs3, hs4⟩ := hSw; go_simp) hS ?_
 simp only [x0,x1,x2,x3,x4,x5,x6]
 refine sT 7 (.pointer (some ⟨b, o + i * 8, .none⟩)) rfl (fun ww hSw => by obtain ⟨hs1, hs2, hs3, hs4⟩ := hSw; go_simp) hS ?_
 simp only [x0,x1,x2,x3,x4,x5,x6]
 refine sT 8 (.int .i64 nu) rfl (fun ww hSw => by obtain ⟨hs1, hs2, hs3, hs4⟩ := hSw; go_simp) hS ?_
 simp only [x0,x1,x2,x3,x4,x5,x6]
 refine set_only (i := 2) (by kernel_rfl) rfl (by rfl) (fun K hK => ?_)
 go_simp
 go_at_call 61
 refine (is83_any (HSY.out.keep (HFB.out _ HBd.out)).sy i x HX.out).mono ?_
 rintro e V1 ⟨rfl, hv1⟩
 have HB1 : Hid (Below W1.heap.size W1 V1) := HBd.out.trans (hv1.mono HBd.out.size)
 have hS1 := HK.out _ HB1.out
 rw [← HOK.out]
 clear hS hv1
 refine hK.out _ _ (fun _ => hS1) ?_
 clear hK K
 try simp only [x0,x1,x2,x3,x4,x5,x6]
 refine set_only (i := 9) (by kernel_rfl) rfl (by rfl) (fun K hK => ?_)
 go_simp
 go_at_call 51
 refine (HU.out _).mono ?_
 rintro e V2 ⟨rfl, hv2⟩
 have HB2 : Hid (Below W1.heap.size W1 V2) := HB1.out.trans (hv2.mono HB1.out.size)
 have hS2 := HK.out _ HB2.out
 clear hS1 hv2
 refine hK.out _ _ (fun _ => hS2) ?_
 clear hK K
 try simp only [x0,x1,x2,x3,x4,x5,x6]
 refine set_tail 1 10 _ _ _ _ (by kernel_rfl) (by decide) ?_
 simp only [List.toList_toArray, List.drop_succ_cons, List.drop_zero]
 clear hS2
 have hV2 : V2.heap[w.heap.size]? = some (.cells zs.toArray 39) := (HB2.out.block _ HW1.out.2).trans HW1.out.1
 go_wp2_with (first
  | (refine wpList_is (.store 39 (.tmp 4) (.tmp 14)) rfl ?_; refine wpList_storeG 39 2 16 w.heap.size info39 (wrL u0) zs rfl hzs (List.all_eq_true.1 (show (wrL u0).all (fun u => u.oneCell') = true from rfl)) (.tmp 4) (.tmp 14) _ rfl rfl rfl rfl rfl hV2 ?_; intro W6 hW6 hg6 hs6)
  | fail)
 refine bodyPost_ret (results_cell_any (p := 4) (ty := 39) rfl _ _ ⟨w.heap.size, 0, .none⟩ _ rfl (run_loadVar_mid (P := Try.prog) _ w.heap.size 0 39 (wrL u0) _ (range_heap hW6) Try.underlying39 rfl (by kernel_rfl))) rfl ?_
 exact ⟨rfl, below_new (HFB.out _ HB2.out) hg6 (by have := HB2.out.size; have := HW1.out.2; omega)⟩
set_option maxRecDepth 100000 in
set_option maxHeartbeats 2000000 in
theorem check7_any {w : World} {s m1 m2 : Nat} {L : Lk} {fr : List Int} {N : Nat} {pv fv iv qv rv lv nv gv : Value} {pf nf : Th → Option Int} {sb lb : Nat} (h : Cx w s m1 m2 L fr N pv fv iv qv rv lv nv gv pf nf sb lb) (i : Nat) (x : Pp) (hx : L.pipes[i]? = some x) : Calls Try.prog 62 #[.int .i64 i, .pointer (some ⟨sb, 0, .none⟩), .pointer (some ⟨lb, 0, .none⟩)] w (WrP w (unW (okQ L nf i x) 9 (x.num))) := by
 obtain ⟨pp, pc, hpv⟩ := h.sy.lk.qs.form
 have hin : i < L.pipes.length := (List.getElem?_eq_some_iff.1 hx).1
 obtain ⟨n, hn⟩ : ∃ n, n = L.pipes.length := ⟨_, rfl⟩
 rw [← hn] at hpv hin
 have hsl := h.sy.lk.qs
 rw [hpv] at hsl
 obtain ⟨-, b, o, y, cs, hpe, hbX, hy, ⟨bv2, rfl, hN2⟩, hcl, hr⟩ := hsl.at hin
 obtain rfl : x = y := by rw [hx] at hy; injection hy
 subst hpe
 have k1 := h.at 4 _ rfl
 rw [hpv] at k1
 have i1 : (i : Int) < n := by omega
 have bn : n ≤ 1048576 := by have := h.sy.rg.ql; omega
 obtain ⟨nu, hnu⟩ : ∃ nu, nu = x.num := ⟨_, rfl⟩
 have HRX := h.sy.rg.q x (List.mem_of_getElem? hx)
 have kn : w.cell? ⟨b, o + i * 6, .none⟩ = some (.int .i64 nu) := by rw [hnu]; have := hr 0 _ rfl; rw [Nat.add_zero] at this; exact this
 obtain ⟨ok, hok⟩ : ∃ ok, ok = okQ L nf i x := ⟨_, rfl⟩
 have HOK : Hid (ok = okQ L nf i x) := hok
 rw [← hok, ← hnu]
 have HSY : Hid (Cx w s m1 m2 L fr N pv fv iv qv rv lv nv gv pf nf sb lb) := h
 have HX : Hid (L.pipes[i]? = some x) := hx
 have HKK : Hid (∀ V, Below w.heap.size w V → V.cell? ⟨sb, 0, .none⟩ = some (.pointer (some ⟨s, 0, .none⟩)) ∧ V.cell? ⟨lb, 4, .none⟩ = some (.slice (some ⟨b, o, .none⟩) n pc) ∧ V.cell? ⟨b, o + i * 6, .none⟩ = some (.int .i64 nu) ∧ V.rangeAt b (o + i * 6) (x.l bv2)) := fun V hV => ⟨(h.keep hV).cb, (hV.cell (p := ⟨lb, 4, .none⟩) h.ll).trans k1, (hV.cell (p := ⟨b, o + i * 6, .none⟩) hbX).trans kn, range_keep hr hV hbX⟩
 clear h hx hy hbX hcl hsl hpv hn k1 hnu kn hr hok hN2
 obtain ⟨u0, hu0⟩ : ∃ u, u = unW ok 9 nu := ⟨_, rfl⟩
 rw [← hu0]
 have HU : Hid (∀ V, Calls Try.prog 51 #[.bool ok, .int .i64 9, .int .i64 nu] V (WrP V u0)) := fun V => by rw [hu0]; exact unless_any ok 9 nu V
 clear hu0
 go_enter Try.func62, Try.ntmps62
 go_upto_region 1 with (first
  | (refine wpList_is (.alloc 39) rfl ?_; refine wpList_allocG 39 2 16 info39 4 _ rfl rfl rfl ?_; intro W1 zs hzs hW1 hB1 hs1)
  | fail)
 have HFB : Hid (∀ V, Below W1.heap.size W1 V → Below w.heap.size w V) := fun V hV => hB1.trans (hV.mono (by omega))
 have HK : Hid (∀ V, Below W1.heap.size W1 V → V.cell? ⟨sb, 0, .none⟩ = some (.pointer (some ⟨s, 0, .none⟩)) ∧ V.cell? ⟨lb, 4, .none⟩ = some (.slice (some ⟨b, o, .none⟩) n pc) ∧ V.cell? ⟨b, o + i * 6, .none⟩ = some (.int .i64 nu) ∧ V.rangeAt b (o + i * 6) (x.l bv2)) := fun V hV => HKK.out V (HFB.out V hV)
 have HBd : Hid (Below W1.heap.size W1 W1.drew) := (Below.refl _ _).drew
 have hS : (fun V : World => V.cell? ⟨sb, 0, .none⟩ = some (.pointer (some ⟨s, 0, .none⟩)) ∧ V.cell? ⟨lb, 4, .none⟩ = some (.slice (some ⟨b, o, .none⟩) n pc) ∧ V.cell? ⟨b, o + i * 6, .none⟩ = some (.int .i64 nu) ∧ V.rangeAt b (o + i * 6) (x.l bv2)) W1.drew := HK.out _ HBd.out
 have HW1 : Hid (W1.heap[w.heap.size]? = some (.cells zs.toArray 39) ∧ w.heap.size < W1.heap.size) := ⟨hW1, by omega⟩
 clear hW1 hB1 hs1 HKK HRX
 refine region_set (fun V => V.cell? ⟨sb, 0, .none⟩ = some (.pointer (some ⟨s, 0, .none⟩)) ∧ V.cell? ⟨lb, 4, .none⟩ = some (.slice (some ⟨b, o, .none⟩) n pc) ∧ V.cell? ⟨b, o + i * 6, .none⟩ = some (.int .i64 nu) ∧ V.rangeAt b (o + i * 6) (x.l bv2)) 10 [] (by kernel_rfl) ?_
 refine sT 0 (.pointer (some ⟨s, 0, .none⟩)) rfl (fun ww hSw => by obtain ⟨hs1, hs2, hs3, hs4⟩ := hSw; go_simp) hS ?_
 simp only [x0,x1,x2,x3,x4,x5,x6]
 refine sT 1 (.int .i64 i) rfl (fun ww hSw => by obtain ⟨hs1, hs2, hs3, hs4⟩ := hSw; go_simp) hS ?_
 simp only [x0,x1,x2,x3,x4,x5,x6]
 refine sT 3 (.pointer (some ⟨lb, 4, .none⟩)) rfl (fun ww hSw => by obtain ⟨hs1, hs2, hs3, hs4⟩ := hSw; go_simp) hS ?_
 simp only [x0,x1,x2,x3,x4,x5,x6]
 refine sT 4 (.slice (some ⟨b, o, .none⟩) n pc) rfl (fun ww hSw => by obtain ⟨hs1, hs2, hs3, hs4⟩ := hSw; go_simp) hS ?_
 simp only [x0,x1,x2,x3,x4,x5,x6]
 refine sT 5 (.int .i64 i) rfl (fun ww hSw => by obtain ⟨hs1, hs2, hs3, hs4⟩ := hSw; go_simp) hS ?_
 simp only [x0,x1,x2,x3,x4,x5,x6]
 refine sT 6 (.pointer (some ⟨b, o + i * 6, .none⟩)) rfl (fun ww hSw => by obtain ⟨hs1, hs2, hs3, hs4⟩ := hSw; go_simp) hS ?_
 simp only [x0,x1,x2,x3,x4,x5,x6]
 refine sT 7 (.pointer (some ⟨b, o + i * 6, .none⟩)) rfl (fun ww hSw => by obtain ⟨hs1, hs2, hs3, hs4⟩ := hSw; go_simp) hS ?_
 simp only [x0,x1,x2,x3,x4,x5,x6]
 refine sT 8 (.int .i64 nu) rfl (fun ww hSw => by obtain ⟨hs1, hs2, hs3, hs4⟩ := hSw; go_simp) hS ?_
 simp only [x0,x1,x2,x3,x4,x5,x6]
 refine set_only (i := 2) (by kernel_rfl) rfl (by rfl) (fun K hK => ?_)
 go_simp
 go_at_call 63
 refine (is85_any (HSY.out.keep (HFB.out _ HBd.out)).sy i x HX.out).mono ?_
 rintro e V1 ⟨rfl, hv1⟩
 have HB1 : Hid (Below W1.heap.size W1 V1) := HBd.out.trans (hv1.mono HBd.out.size)
 have hS1 := HK.out _ HB1.out
 rw [← HOK.out]
 clear hS hv1
 refine hK.out _ _ (fun _ => hS1) ?_
 clear hK K
 try simp only [x0,x1,x2,x3,x4,x5,x6]
 refine set_only (i := 9) (by kernel_rfl) rfl (by rfl) (fun K hK => ?_)
 go_simp
 go_at_call 51
 refine (HU.out _).mono ?_
 rintro e V2 ⟨rfl, hv2⟩
 have HB2 : Hid (Below W1.heap.size W1 V2) := HB1.out.trans (hv2.mono HB1.out.size)
 have hS2 := HK.out _ HB2.out
 clear hS1 hv2
 refine hK.out _ _ (fun _ => hS2) ?_
 clear hK K
 try simp only [x0,x1,x2,x3,x4,x5,x6]
 refine set_tail 1 10 _ _ _ _ (by kernel_rfl) (by decide) ?_
 simp only [List.toList_toArray, List.drop_succ_cons, List.drop_zero]
 clear hS2
 have hV2 : V2.heap[w.heap.size]? = some (.cells zs.toArray 39) := (HB2.out.block _ HW1.out.2).trans HW1.out.1
 go_wp2_with (first
  | (refine wpList_is (.store 39 (.tmp 4) (.tmp 14)) rfl ?_; refine wpList_storeG 39 2 16 w.heap.size info39 (wrL u0) zs rfl hzs (List.all_eq_true.1 (show (wrL u0).all (fun u => u.oneCell') = true from rfl)) (.tmp 4) (.tmp 14) _ rfl rfl rfl rfl rfl hV2 ?_; intro W6 hW6 hg6 hs6)
  | fail)
 refine bodyPost_ret (results_cell_any (p := 4) (ty := 39) rfl _ _ ⟨w.heap.size, 0, .none⟩ _ rfl (run_loadVar_mid (P := Try.prog) _ w.heap.size 0 39 (wrL u0) _ (range_heap hW6) Try.underlying39 rfl (by kernel_rfl))) rfl ?_
 exact ⟨rfl, below_new (HFB.out _ HB2.out) hg6 (by have := HB2.out.size; have := HW1.out.2; omega)⟩
end Go.Proofs.Ythopgmmodldljab
