import Derived.Test.YthopgmmodldljabNk
import Derived.Test.YthopgmmodldljabCj
namespace Go.Proofs.Ythopgmmodldljab
open Go Go.RowKit
set_option linter.unusedVariables false
set_option linter.unusedSimpArgs false
/-! The document's Take of a number of frames that is none; the same counts, the same census. -/
set_option maxRecDepth 100000 in
set_option maxHeartbeats 4000000 in
theorem dtake_bad {w : World} (t ti nx fe : Int) (pv fv iv qv rv lv ev : Value) (N : Int) (hN : N < 1 ∨ 4096 < N) : Calls Try.prog 8 #[.int .i64 N, .agg (lkL t pv fv iv qv rv lv ti nx fe).toArray, ev] w fun e w' => e = .returned (.agg (cwL (.slice none 0 0) (.slice none 0 0) (.slice none 0 0) (1, 0)).toArray) ∧ Below w.heap.size w w' := by
 obtain ⟨lc, hlc⟩ : ∃ lc, lc = lkL t pv fv iv qv rv lv ti nx fe := ⟨_, rfl⟩
 rw [← hlc]
 clear hlc
 go_enter Try.func8, Try.ntmps8
 by_cases g1 : N < 1
 ·clear hN
  go_wp2_with (first
   | (refine wpList_is (.box 31 (.tmp 1)) rfl ?_; refine wpList_boxG 31 lc 4 (.tmp 1) _ rfl rfl rfl rfl ?_; intro W1 hW1 hB1 hs1)
   | (refine wpList_is (.alloc 41) rfl ?_; refine wpList_laidG 41 5 88 info41 (cwL (.slice none 0 0) (.slice none 0 0) (.slice none 0 0) (0, 0)) rfl (List.all_eq_true.1 (show (cwL (.slice none 0 0) (.slice none 0 0) (.slice none 0 0) (0, 0)).all (fun u => u.oneCell') = true from rfl)) 7 (.tmp 15) _ _ rfl rfl rfl rfl rfl rfl rfl rfl ?_; intro W3 hW3 hB3 hs3; obtain ⟨z1, hz1⟩ : ∃ z, z = W1.heap.size := ⟨_, rfl⟩; obtain ⟨z2, hz2⟩ : ∃ z, z = W2.heap.size := ⟨_, rfl⟩; rw [← hz1] at hW2; rw [← hz2] at hW3; have hth : W3.there z2 3 2 := there_mid (n := 5) (there_heap hW3 rfl) 3 2 (by omega); (try rw [← hs1]); (try rw [← hs2]); (try rw [← hz2]); (try rw [← hz1]); have HD : Hid (W3.heap[z1]? = some (.cells zs.toArray 41 (0, 0)) ∧ Below w.heap.size w W3 ∧ z1 ≠ z2 ∧ w.heap.size ≤ z1 ∧ w.heap.size ≤ z2 ∧ z1 < W3.heap.size) := ⟨(hB3.block _ (by omega)).trans hW2, hB1.trans ((hB2.trans (hB3.mono (by omega))).mono (by omega)), by omega, by omega, by omega, by omega⟩; clear hW1 hB1 hs1 hW2 hB2 hs2 hs3 hB3 hz1 hz2)
   | (refine wpList_is (.alloc 41) rfl ?_; refine wpList_allocG 41 5 88 info41 6 _ rfl rfl rfl ?_; intro W2 zs hzs hW2 hB2 hs2)
   | (refine wpList_is (.build 41 #[]) rfl ?_; refine wpList_buildTo rfl 41 _ rfl (some 15) rfl (cwL (.slice none 0 0) (.slice none 0 0) (.slice none 0 0) (0, 0)).toArray (by kernel_rfl) ?_)
   | (refine wpList_is (.build 39 #[(0, .const (.int .i64 1))]) rfl ?_; refine wpList_buildTo rfl 39 _ rfl (some 22) rfl (wrL (1, 0)).toArray (by kernel_rfl) ?_)
   | (refine wpList_is (.store 39 (.tmp 23) (.tmp 22)) rfl ?_; refine wpList_storeM 39 z2 3 (wrL (1, 0)) (by kernel_rfl) (List.all_eq_true.1 (show (wrL (1, 0)).all (fun u => u.oneCell') = true from rfl)) (.tmp 23) (.tmp 22) _ rfl rfl rfl rfl rfl hth ?_; clear hth; obtain ⟨W6, hW6e⟩ : ∃ W6, W6 = W3.setCells z2 3 (wrL (1, 0)) := ⟨_, rfl⟩; have H6 : Hid (W6.heap[z2]? = some (.cells (cwL (.slice none 0 0) (.slice none 0 0) (.slice none 0 0) (1, 0)).toArray 41 (0, 0)) ∧ W6.heap[z1]? = some (.cells zs.toArray 41 (0, 0)) ∧ Below w.heap.size w W6) := (by rw [hW6e]; exact ⟨setCell_heap _ z2 4 _ (setCell_heap _ z2 3 _ hW3), (setCells_other z2 _ 3 _ z1 HD.out.2.2.1).trans HD.out.1, (HD.out.2.1.trans (set_bel _ HD.out.2.2.2.2.1)).trans (set_bel _ HD.out.2.2.2.2.1)⟩); rw [← hW6e]; clear hW6e hW3; have rc6 := range_heap H6.out.1)
   | (refine wpList_is (.load 41 (.tmp 7)) rfl ?_; refine wpList_loadG 41 5 88 info41 _ Try.underlying41 rfl (cwL (.slice none 0 0) (.slice none 0 0) (.slice none 0 0) (1, 0)) rfl z2 0 (.tmp 7) rfl rfl rfl rc6 (some 24) rfl ?_; clear rc6)
   | (refine wpList_is (.store 41 (.tmp 6) (.tmp 24)) rfl ?_; refine wpList_storeG 41 5 88 z1 info41 (cwL (.slice none 0 0) (.slice none 0 0) (.slice none 0 0) (1, 0)) zs rfl hzs (List.all_eq_true.1 (show (cwL (.slice none 0 0) (.slice none 0 0) (.slice none 0 0) (1, 0)).all (fun u => u.oneCell') = true from rfl)) (.tmp 6) (.tmp 24) _ rfl rfl rfl rfl rfl H6.out.2.1 ?_; intro W7 hW7 hg7 hs7)
   | fail)
  refine bodyPost_ret (results_cell_any (p := 6) (ty := 41) rfl _ _ ⟨z1, 0, .none⟩ _ rfl (run_loadVar_mid (P := Try.prog) _ z1 0 41 (cwL (.slice none 0 0) (.slice none 0 0) (.slice none 0 0) (1, 0)) _ (range_heap hW7) Try.underlying41 rfl (by kernel_rfl))) rfl ?_
  exact ⟨rfl, H6.out.2.2.grown hg7 H6.out.2.2.size (fun k hk => by injection hk with hk; have := HD.out.2.2.2.1; omega)⟩
 ·have g2 : 4096 < N := by omega
  clear hN
  go_wp2_with (first
   | (refine wpList_is (.box 31 (.tmp 1)) rfl ?_; refine wpList_boxG 31 lc 4 (.tmp 1) _ rfl rfl rfl rfl ?_; intro W1 hW1 hB1 hs1)
   | (refine wpList_is (.alloc 41) rfl ?_; refine wpList_laidG 41 5 88 info41 (cwL (.slice none 0 0) (.slice none 0 0) (.slice none 0 0) (0, 0)) rfl (List.all_eq_true.1 (show (cwL (.slice none 0 0) (.slice none 0 0) (.slice none 0 0) (0, 0)).all (fun u => u.oneCell') = true from rfl)) 7 (.tmp 15) _ _ rfl rfl rfl rfl rfl rfl rfl rfl ?_; intro W3 hW3 hB3 hs3; obtain ⟨z1, hz1⟩ : ∃ z, z = W1.heap.size := ⟨_, rfl⟩; obtain ⟨z2, hz2⟩ : ∃ z, z = W2.heap.size := ⟨_, rfl⟩; rw [← hz1] at hW2; rw [← hz2] at hW3; have hth : W3.there z2 3 2 := there_mid (n := 5) (there_heap hW3 rfl) 3 2 (by omega); (try rw [← hs1]); (try rw [← hs2]); (try rw [← hz2]); (try rw [← hz1]); have HD : Hid (W3.heap[z1]? = some (.cells zs.toArray 41 (0, 0)) ∧ Below w.heap.size w W3 ∧ z1 ≠ z2 ∧ w.heap.size ≤ z1 ∧ w.heap.size ≤ z2 ∧ z1 < W3.heap.size) := ⟨(hB3.block _ (by omega)).trans hW2, hB1.trans ((hB2.trans (hB3.mono (by omega))).mono (by omega)), by omega, by omega, by omega, by omega⟩; clear hW1 hB1 hs1 hW2 hB2 hs2 hs3 hB3 hz1 hz2)
   | (refine wpList_is (.alloc 41) rfl ?_; refine wpList_allocG 41 5 88 info41 6 _ rfl rfl rfl ?_; intro W2 zs hzs hW2 hB2 hs2)
   | (refine wpList_is (.build 41 #[]) rfl ?_; refine wpList_buildTo rfl 41 _ rfl (some 15) rfl (cwL (.slice none 0 0) (.slice none 0 0) (.slice none 0 0) (0, 0)).toArray (by kernel_rfl) ?_)
   | (refine wpList_is (.build 39 #[(0, .const (.int .i64 1))]) rfl ?_; refine wpList_buildTo rfl 39 _ rfl (some 22) rfl (wrL (1, 0)).toArray (by kernel_rfl) ?_)
   | (refine wpList_is (.store 39 (.tmp 23) (.tmp 22)) rfl ?_; refine wpList_storeM 39 z2 3 (wrL (1, 0)) (by kernel_rfl) (List.all_eq_true.1 (show (wrL (1, 0)).all (fun u => u.oneCell') = true from rfl)) (.tmp 23) (.tmp 22) _ rfl rfl rfl rfl rfl hth ?_; clear hth; obtain ⟨W6, hW6e⟩ : ∃ W6, W6 = W3.setCells z2 3 (wrL (1, 0)) := ⟨_, rfl⟩; have H6 : Hid (W6.heap[z2]? = some (.cells (cwL (.slice none 0 0) (.slice none 0 0) (.slice none 0 0) (1, 0)).toArray 41 (0, 0)) ∧ W6.heap[z1]? = some (.cells zs.toArray 41 (0, 0)) ∧ Below w.heap.size w W6) := (by rw [hW6e]; exact ⟨setCell_heap _ z2 4 _ (setCell_heap _ z2 3 _ hW3), (setCells_other z2 _ 3 _ z1 HD.out.2.2.1).trans HD.out.1, (HD.out.2.1.trans (set_bel _ HD.out.2.2.2.2.1)).trans (set_bel _ HD.out.2.2.2.2.1)⟩); rw [← hW6e]; clear hW6e hW3; have rc6 := range_heap H6.out.1)
   | (refine wpList_is (.load 41 (.tmp 7)) rfl ?_; refine wpList_loadG 41 5 88 info41 _ Try.underlying41 rfl (cwL (.slice none 0 0) (.slice none 0 0) (.slice none 0 0) (1, 0)) rfl z2 0 (.tmp 7) rfl rfl rfl rc6 (some 24) rfl ?_; clear rc6)
   | (refine wpList_is (.store 41 (.tmp 6) (.tmp 24)) rfl ?_; refine wpList_storeG 41 5 88 z1 info41 (cwL (.slice none 0 0) (.slice none 0 0) (.slice none 0 0) (1, 0)) zs rfl hzs (List.all_eq_true.1 (show (cwL (.slice none 0 0) (.slice none 0 0) (.slice none 0 0) (1, 0)).all (fun u => u.oneCell') = true from rfl)) (.tmp 6) (.tmp 24) _ rfl rfl rfl rfl rfl H6.out.2.1 ?_; intro W7 hW7 hg7 hs7)
   | fail)
  refine bodyPost_ret (results_cell_any (p := 6) (ty := 41) rfl _ _ ⟨z1, 0, .none⟩ _ rfl (run_loadVar_mid (P := Try.prog) _ z1 0 41 (cwL (.slice none 0 0) (.slice none 0 0) (.slice none 0 0) (1, 0)) _ (range_heap hW7) Try.underlying41 rfl (by kernel_rfl))) rfl ?_
  exact ⟨rfl, H6.out.2.2.grown hg7 H6.out.2.2.size (fun k hk => by injection hk with hk; have := HD.out.2.2.2.1; omega)⟩
theorem neq117 (x : Ow) (w : World) : (binOp .neq 91 (.agg (owL x).toArray) (.agg (owL x).toArray)).run Try.prog w = .ok (.bool false) w := by
 have := eqv_neq (eq_117 9997 x.1 x.2.1 x.2.2 x.1 x.2.1 x.2.2) w
 rw [show ((x.1 == x.1) && ((x.2.1 == x.2.1) && ((x.2.2 == x.2.2) && true))) = true by simp] at this
 exact this
set_option maxRecDepth 100000 in
set_option maxHeartbeats 2000000 in
set_option maxRecDepth 100000 in
set_option maxHeartbeats 1000000 in
theorem sameC_any {w : World} {X Y : Nat} {u v : Value} {l : List Ow} (h1 : Sl w X 3 (fun x cs => cs = owL x) u l) (h2 : Sl w Y 3 (fun x cs => cs = owL x) v l) (hl : l.length ≤ 1048576) : Calls Try.prog 24 #[u, v] w fun e w' => e = .returned (.bool true) ∧ Below w.heap.size w w' := by
 obtain ⟨p, c, rfl⟩ := h1.form
 obtain ⟨p', c', rfl⟩ := h2.form
 obtain ⟨n, hn⟩ : ∃ n, n = l.length := ⟨_, rfl⟩
 rw [← hn] at h1 h2 hl ⊢
 have HS : Hid (Sl w X 3 (fun x cs => cs = owL x) (.slice p n c) l ∧ Sl w Y 3 (fun x cs => cs = owL x) (.slice p' n c') l) := ⟨h1, h2⟩
 clear h1 h2 hn
 go_enter Try.func24, Try.ntmps24
 go_wp2
 go_loopw [5] (fun k wr => ∃ i : Nat, i ≤ n ∧ k = .int .i64 i ∧ Hid (wr.heap = w.heap ∧ wr.os = w.os ∧ wr.tape = w.tape ∧ wr.output = w.output)) (fun v _ => (n - intOf v).toNat)
 case atStart => exact ⟨0, by omega, rfl, rfl, rfl, rfl, rfl⟩
 case round =>
  obtain ⟨i, hi, rfl, HB⟩ := hrel
  have HBB : Hid (Below w.heap.size w wr) := ⟨HB.out.2.1, HB.out.2.2.1, HB.out.2.2.2, by rw [HB.out.1]; exact Nat.le_refl _, fun k _ => by rw [HB.out.1]⟩
  by_cases hin : i < n
  ·as_aux_lemma =>
    have i1 : (i : Int) < n := by omega
    obtain ⟨-, b, o, x, cs, rfl, hbX, hx, rfl, hcl, hr⟩ := HS.out.1.at hin
    obtain ⟨-, b', o', x', cs', rfl, hbX', hx', rfl, hcl', hr'⟩ := HS.out.2.at hin
    obtain rfl : x = x' := by rw [hx] at hx'; injection hx'
    have heq : ∀ (b o : Nat) (cs : List Value), w.rangeAt b o cs → wr.drew.rangeAt b o cs := fun b o cs h j v hj => by
     have := h j v hj
     unfold World.cell? at this ⊢
     rw [show wr.drew.heap = w.heap from HB.out.1]
     exact this
    have hS : (fun V : World => V.rangeAt b (o + i * 3) (owL x) ∧ V.rangeAt b' (o' + i * 3) (owL x)) wr.drew := ⟨heq _ _ _ hr, heq _ _ _ hr'⟩
    have q117 := neq117 x
    have HBd : Hid (wr.drew.heap = w.heap ∧ wr.drew.os = w.os ∧ wr.drew.tape = w.tape ∧ wr.drew.output = w.output) := HB.out
    clear hr hr' hcl hcl' hbX hbX' hx hx' heq
    go_upto_region 6 with fail
    refine region_set (fun V => V.rangeAt b (o + i * 3) (owL x) ∧ V.rangeAt b' (o' + i * 3) (owL x)) 8 [] (by kernel_rfl) ?_
    refine sT 0 (.slice (some ⟨b, o, .none⟩) n c) rfl (fun ww hSw => by obtain ⟨q1, q2⟩ := hSw; go_simp) hS ?_
    simp only [x0,x1,x2,x3,x4,x5,x6]
    refine sT 1 (.int .i64 i) rfl (fun ww hSw => by obtain ⟨q1, q2⟩ := hSw; go_simp) hS ?_
    simp only [x0,x1,x2,x3,x4,x5,x6]
    refine sT 2 (.pointer (some ⟨b, o + i * 3, .none⟩)) rfl (fun ww hSw => by obtain ⟨q1, q2⟩ := hSw; go_simp) hS ?_
    simp only [x0,x1,x2,x3,x4,x5,x6]
    refine sV (i := 3) (v := .agg (owL x).toArray) rfl (yieldsIf_load_mid (by rfl) 91 (.tmp 19) rfl (b) (o + i * 3) rfl (owL x) _ (fun ww hSw => hSw.1) Try.underlying91 rfl (by first | kernel_rfl | (rw [rfl]; kernel_rfl))) hS ?_
    simp only [x0,x1,x2,x3,x4,x5,x6]
    refine sT 4 (.slice (some ⟨b', o', .none⟩) n c') rfl (fun ww hSw => by obtain ⟨q1, q2⟩ := hSw; go_simp) hS ?_
    simp only [x0,x1,x2,x3,x4,x5,x6]
    refine sT 5 (.int .i64 i) rfl (fun ww hSw => by obtain ⟨q1, q2⟩ := hSw; go_simp) hS ?_
    simp only [x0,x1,x2,x3,x4,x5,x6]
    refine sT 6 (.pointer (some ⟨b', o' + i * 3, .none⟩)) rfl (fun ww hSw => by obtain ⟨q1, q2⟩ := hSw; go_simp) hS ?_
    simp only [x0,x1,x2,x3,x4,x5,x6]
    refine sV (i := 7) (v := .agg (owL x).toArray) rfl (yieldsIf_load_mid (by rfl) 91 (.tmp 23) rfl (b') (o' + i * 3) rfl (owL x) _ (fun ww hSw => hSw.2) Try.underlying91 rfl (by first | kernel_rfl | (rw [rfl]; kernel_rfl))) hS ?_
    simp only [x0,x1,x2,x3,x4,x5,x6]
    refine set_tail 1 8 _ _ _ _ (by kernel_rfl) (by decide) ?_
    simp only [List.toList_toArray, List.drop_succ_cons, List.drop_zero]
    clear hS
    go_wp2
    exact ⟨⟨i + 1, by omega, by go_num, HBd.out⟩, by simp [intOf]; omega⟩
  ·have i1 : ¬ (i : Int) < n := by omega
   go_wp2
   go_ret
   exact ⟨rfl, HBB.out⟩
set_option maxRecDepth 100000 in
set_option maxHeartbeats 4000000 in
theorem sameCensus_eq {w : World} {X : Nat} {F C1 C2 : List Ow} {u1 u2 u3 v1 v2 v3 : Value} (r : Int × Int) (h1 : Sl w X 3 (fun x cs => cs = owL x) u1 F) (h2 : Sl w X 3 (fun x cs => cs = owL x) v1 F) (h3 : Sl w X 3 (fun x cs => cs = owL x) u2 C1) (h4 : Sl w X 3 (fun x cs => cs = owL x) v2 C1) (h5 : Sl w X 3 (fun x cs => cs = owL x) u3 C2) (h6 : Sl w X 3 (fun x cs => cs = owL x) v3 C2) (hX : X ≤ w.heap.size) (hF : F.length ≤ 1048576) (hC1 : C1.length ≤ 1048576) (hC2 : C2.length ≤ 1048576) : Calls Try.prog 9 #[.agg (cwL u1 u2 u3 r).toArray, .agg (cwL v1 v2 v3 r).toArray] w fun e w' => e = .returned (.bool true) ∧ Below w.heap.size w w' := by
 have HCA : Hid (∀ V, Below w.heap.size w V → Calls Try.prog 24 #[u2, v2] V fun e w' => e = .returned (.bool true) ∧ Below V.heap.size V w') := fun V hV => sameC_any (h3.mono (Nat.le_refl _) (hV.mono hX) (fun _ _ _ q => q)) (h4.mono (Nat.le_refl _) (hV.mono hX) (fun _ _ _ q => q)) hC1
 have HCB : Hid (∀ V, Below w.heap.size w V → Calls Try.prog 24 #[u3, v3] V fun e w' => e = .returned (.bool true) ∧ Below V.heap.size V w') := fun V hV => sameC_any (h5.mono (Nat.le_refl _) (hV.mono hX) (fun _ _ _ q => q)) (h6.mono (Nat.le_refl _) (hV.mono hX) (fun _ _ _ q => q)) hC2
 obtain ⟨p1, c1, rfl⟩ := h1.form
 obtain ⟨p2, c2, rfl⟩ := h2.form
 obtain ⟨p3, c3, rfl⟩ := h3.form
 obtain ⟨p4, c4, rfl⟩ := h4.form
 obtain ⟨p5, c5, rfl⟩ := h5.form
 obtain ⟨p6, c6, rfl⟩ := h6.form
 obtain ⟨n, hn⟩ : ∃ n, n = F.length := ⟨_, rfl⟩
 obtain ⟨n1, hn1⟩ : ∃ n, n = C1.length := ⟨_, rfl⟩
 obtain ⟨n2, hn2⟩ : ∃ n, n = C2.length := ⟨_, rfl⟩
 rw [← hn] at h1 h2 hF ⊢
 rw [← hn1] at HCA ⊢
 rw [← hn2] at HCB ⊢
 have H1 : Hid (Sl w X 3 (fun x cs => cs = owL x) (.slice p1 n c1) F ∧ Sl w X 3 (fun x cs => cs = owL x) (.slice p2 n c2) F ∧ X ≤ w.heap.size ∧ n = F.length) := ⟨h1, h2, hX, hn⟩
 have q39 : ∀ w : World, (binOp .neq 39 (.agg (wrL r).toArray) (.agg (wrL r).toArray)).run Try.prog w = .ok (.bool false) w := fun w => (eqv_neq (eq_wrong 9997 r.1 r.2 r.1 r.2) w).trans (by simp)
 clear h1 h2 h3 h4 h5 h6 hX hC1 hC2 hn hn1 hn2
 go_enter Try.func9, Try.ntmps9
 go_upto_if 35 with (first
  | (refine wpList_is (.box 41 (.tmp 0)) rfl ?_; refine wpList_boxG 41 (cwL (.slice p1 n c1) (.slice p3 n1 c3) (.slice p5 n2 c5) r) 2 (.tmp 0) _ rfl rfl rfl rfl ?_; intro W1 hW1 hB1 hs1)
  | (refine wpList_is (.box 41 (.tmp 1)) rfl ?_; refine wpList_boxG 41 (cwL (.slice p2 n c2) (.slice p4 n1 c4) (.slice p6 n2 c6) r) 3 (.tmp 1) _ rfl rfl rfl rfl ?_; intro W2 hW2 hB2 hs2; obtain ⟨z, hz⟩ : ∃ z, z = W1.heap.size := ⟨_, rfl⟩; rw [← hz] at hW2; (try rw [← hs1]); (try rw [← hz]); have HW : Hid (∀ V, Below W2.heap.size W2 V → V.heap[w.heap.size]? = some (.cells (cwL (.slice p1 n c1) (.slice p3 n1 c3) (.slice p5 n2 c5) r).toArray 41) ∧ V.heap[z]? = some (.cells (cwL (.slice p2 n c2) (.slice p4 n1 c4) (.slice p6 n2 c6) r).toArray 41) ∧ Below w.heap.size w V) := (fun V hV => ⟨(hV.block _ (by omega)).trans ((hB2.block _ (by omega)).trans hW1), (hV.block _ (by omega)).trans hW2, (hB1.trans (hB2.mono (by omega))).trans (hV.mono (by omega))⟩); obtain ⟨a1, a2, a3⟩ := HW.out _ (Below.refl _ _); have k1 : W2.cell? ⟨w.heap.size, 0, .none⟩ = some (.slice p1 n c1) := cell_heap (o := 0) a1; have k2 : W2.cell? ⟨z, 0, .none⟩ = some (.slice p2 n c2) := cell_heap (o := 0) a2; have k3 : W2.cell? ⟨w.heap.size, 1, .none⟩ = some (.slice p3 n1 c3) := cell_heap (o := 1) a1; have k4 : W2.cell? ⟨z, 1, .none⟩ = some (.slice p4 n1 c4) := cell_heap (o := 1) a2; have r1 : W2.rangeAt w.heap.size 3 (wrL r) := (by have := range_sub (k := 3) (range_heap a1) (sub_of (s := wrL r) rfl); simpa using this); have r2 : W2.rangeAt z 3 (wrL r) := (by have := range_sub (k := 3) (range_heap a2) (sub_of (s := wrL r) rfl); simpa using this); clear hW1 hW2 hB1 hB2 hs1 hs2 hz a1 a2)
  | (refine wpList_is (.load 39 (.tmp 14)) rfl ?_; refine wpList_loadGG 39 2 16 info39 _ Try.underlying39 rfl (wrL r) rfl w.heap.size 3 (.tmp 14) rfl rfl rfl r1 (some 15) rfl ?_)
  | (refine wpList_is (.load 39 (.tmp 16)) rfl ?_; refine wpList_loadGG 39 2 16 info39 _ Try.underlying39 rfl (wrL r) rfl z 3 (.tmp 16) rfl rfl rfl r2 (some 17) rfl ?_)
  | (go_at_call 24; refine (HCA.out W2 a3).mono ?_; rintro e W4 ⟨rfl, hB4⟩; clear HCA; obtain ⟨a1, a2, a4⟩ := HW.out _ hB4; have k5 : W4.cell? ⟨w.heap.size, 2, .none⟩ = some (.slice p5 n2 c5) := cell_heap (o := 2) a1; have k6 : W4.cell? ⟨z, 2, .none⟩ = some (.slice p6 n2 c6) := cell_heap (o := 2) a2; clear a1 a2)
  | (go_at_call 24; refine (HCB.out W4 a4).mono ?_; rintro e W5 ⟨rfl, hB5⟩; clear HCB)
  | fail)
 have HB5 : Hid (Below W2.heap.size W2 W5) := hB4.trans (hB5.mono hB4.size)
 clear k1 k2 k3 k4 k5 k6 r1 r2 hB4 hB5 a3 a4
 go_wp2
 go_loopw [5] (fun k wr => ∃ i : Nat, i ≤ n ∧ k = .int .i64 i ∧ ∃ j, wr = W5.drewN j) (fun k _ => (n - intOf k).toNat)
 case atStart => exact ⟨0, by omega, rfl, 0, rfl⟩
 case round =>
  obtain ⟨i, hi, rfl, j, rfl⟩ := hrel
  obtain ⟨a1, a2, a3⟩ := HW.out _ HB5.out
  have HB3 : Hid (Below w.heap.size w W5) := a3
  have k1 : W5.cell? ⟨w.heap.size, 0, .none⟩ = some (.slice p1 n c1) := cell_heap (o := 0) a1
  have k2 : W5.cell? ⟨z, 0, .none⟩ = some (.slice p2 n c2) := cell_heap (o := 0) a2
  clear a1 a2 a3
  by_cases hin : i < n
  ·as_aux_lemma =>
    have g0 : (i : Int) < n := by omega
    obtain ⟨-, b1, o1, x, cs, rfl, hb1, hx, rfl, _, r1⟩ := H1.out.1.at hin
    obtain ⟨-, b2, o2, x2, cs2, rfl, hb2, hx2, rfl, _, r2⟩ := H1.out.2.1.at hin
    rw [hx] at hx2
    injection hx2 with hx2
    subst hx2
    have r1 := range_keep r1 HB3.out (by have := H1.out.2.2.1; omega)
    have r2 := range_keep r2 HB3.out (by have := H1.out.2.2.1; omega)
    have q85 : ∀ w : World, (binOp .neq 85 (.agg (owL x).toArray) (.agg (owL x).toArray)).run Try.prog w = .ok (.bool false) w := fun w => (eqv_neq (eq_59 9997 x.1 x.2.1 x.2.2 x.1 x.2.1 x.2.2) w).trans (by simp)
    clear hx hb1 hb2
    go_upto_region 6 with fail
    refine wp_region_held_drew (S := (fun V => V.cell? ⟨w.heap.size, 0, .none⟩ = some (.slice (some ⟨b1, o1, .none⟩) n c1) ∧ V.cell? ⟨z, 0, .none⟩ = some (.slice (some ⟨b2, o2, .none⟩) n c2) ∧ V.rangeAt b1 (o1 + i * 3) (owL x) ∧ V.rangeAt b2 (o2 + i * 3) (owL x))) (by kernel_rfl) ⟨k1, k2, r1, r2⟩ (fun hHeld => ?_)
    refine nT 0 (.pointer (some ⟨w.heap.size, 0, .none⟩)) rfl ?_
    simp only [x0,x1,x2,x3,x4,x5,x6]
    refine nT 1 (.slice (some ⟨b1, o1, .none⟩) n c1) rfl ?_
    simp only [x0,x1,x2,x3,x4,x5,x6]
    refine nT 2 (.int .i64 i) rfl ?_
    simp only [x0,x1,x2,x3,x4,x5,x6]
    refine nT 3 (.pointer (some ⟨b1, o1 + i * 3, .none⟩)) rfl ?_
    simp only [x0,x1,x2,x3,x4,x5,x6]
    refine nV 4 (.agg (owL x).toArray) rfl ?_ (yieldsIf_load_mid (by rfl) 85 (.tmp 46) rfl (b1) (o1 + i * 3) rfl (owL x) _ (fun ww hSw => hSw.2.2.1) Try.underlying85 rfl (by first | kernel_rfl | (rw [rfl]; kernel_rfl)))
    simp only [x0,x1,x2,x3,x4,x5,x6]
    refine nT 5 (.pointer (some ⟨z, 0, .none⟩)) rfl ?_
    simp only [x0,x1,x2,x3,x4,x5,x6]
    refine nT 6 (.slice (some ⟨b2, o2, .none⟩) n c2) rfl ?_
    simp only [x0,x1,x2,x3,x4,x5,x6]
    refine nT 7 (.int .i64 i) rfl ?_
    simp only [x0,x1,x2,x3,x4,x5,x6]
    refine nT 8 (.pointer (some ⟨b2, o2 + i * 3, .none⟩)) rfl ?_
    simp only [x0,x1,x2,x3,x4,x5,x6]
    refine nV 9 (.agg (owL x).toArray) rfl ?_ (yieldsIf_load_mid (by rfl) 85 (.tmp 51) rfl (b2) (o2 + i * 3) rfl (owL x) _ (fun ww hSw => hSw.2.2.2) Try.underlying85 rfl (by first | kernel_rfl | (rw [rfl]; kernel_rfl)))
    simp only [x0,x1,x2,x3,x4,x5,x6]
    refine nT 10 (.bool false) rfl ?_
    simp only [x0,x1,x2,x3,x4,x5,x6]
    refine wpAnyH_done (by kernel_rfl) ?_ _
    go_wp2
    exact ⟨⟨i + 1, by omega, by go_num, j + 1, rfl⟩, by simp only [intOf]; omega⟩
  ·have g0 : ¬ (i : Int) < n := by omega
   go_wp2
   go_ret
   exact ⟨rfl, HB3.out.trans (below_drewN _ _ _)⟩
end Go.Proofs.Ythopgmmodldljab
