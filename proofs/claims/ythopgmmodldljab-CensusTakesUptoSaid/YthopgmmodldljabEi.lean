import Derived.Test.YthopgmmodldljabEh
namespace Go.Proofs.Ythopgmmodldljab
open Go Go.RowKit
set_option linter.unusedVariables false
set_option linter.unusedSimpArgs false
/-! fileCounts, inodeCounts. -/
def rowC (l : List Ow) (v : Value) : Row := ⟨91, 3, l.length, v, (l.map owL).flatten⟩
theorem info117 : ∃ i z, Try.prog.info? 91 = some i ∧ i.zero = some z ∧ i.size = 3 ∧ i.bytes = 24 ∧ z.cells.size = 3 := info_of 91 3 24 (by kernel_rfl) (by kernel_rfl)
theorem rowC_app (l : List Ow) (x : Ow) (v v' : Value) : rowC (l ++ [x]) v' = ⟨91, 3, (rowC l v).n + 1, v', (rowC l v).xs ++ owL x⟩ := by simp [rowC]
def cfF (nf : Th → Option Int) (f : Fi) : Ow := (f.num, f.refs, (nf (2, f.num)).getD 0)
def cfI (nf : Th → Option Int) (x : In) : Ow := (x.ino, x.refs, (nf (3, x.ino)).getD 0)
def CoP (w : World) (l : List Ow) (e : Ending) (w' : World) : Prop := ∃ u, e = .returned u ∧ w'.ownsRow w.heap.size 91 3 u l.length ((l.map owL).flatten) ∧ Below w.heap.size w w'
set_option maxRecDepth 100000 in
set_option maxHeartbeats 2000000 in
theorem fileCounts_any {w : World} {s m1 m2 X : Nat} {cs : List Value} {pf nf : Th → Option Int} (h : Sv w s m1 m2 cs pf nf) {fv : Value} {l : List Fi} (hc : cs[2]? = some fv) (hf : Fs w X fv l) (hX : X ≤ w.heap.size) (hR : ∀ x ∈ l, i64R x.num) (hl : l.length ≤ 1048576) : Calls Try.prog 16 #[.pointer (some ⟨s, 0, .none⟩)] w (CoP w (l.map (cfF nf))) := by
 obtain ⟨fp, fc, rfl⟩ := hf.form
 obtain ⟨n, hn⟩ : ∃ n, n = l.length := ⟨_, rfl⟩
 rw [← hn] at hf hl hc
 have HN : Hid (n = l.length) := hn
 obtain ⟨z, hz⟩ : ∃ z, z = w.heap.size := ⟨_, rfl⟩
 have HS : Hid (Sv w s m1 m2 cs pf nf ∧ Fs w X (.slice fp n fc) l ∧ X ≤ w.heap.size ∧ z = w.heap.size ∧ ∀ x ∈ l, i64R x.num) := ⟨h, hf, hX, hz, hR⟩
 have k2 : w.cell? ⟨s, 2, .none⟩ = some (.slice fp n fc) := by rw [cell_heap h.hp, List.getElem?_toArray, hc]
 have HO : Hid (Owns w z [rowC ((l.take 0).map (cfF nf)) (.slice none 0 0)] ∧ Below w.heap.size w w) := ⟨⟨fun r hr => by rw [List.mem_singleton] at hr; subst hr; exact World.ownsRow_nil _ _ _ _, by simp [blks, rowC, Value.ownBlock]⟩, Below.refl _ _⟩
 clear h hf hX hz hR hc hn
 go_enter Try.func16, Try.ntmps16
 go_wp2
 clear k2
 go_loopw [3, 12] (fun v3 k wr => ∃ i : Nat, i ≤ n ∧ k = .int .i64 i ∧ Hid (Owns wr z [rowC ((l.take i).map (cfF nf)) v3] ∧ Below w.heap.size w wr)) (fun _ v _ => (n - intOf v).toNat)
 case atStart => exact ⟨0, by omega, rfl, HO.out⟩
 case round =>
  clear HO
  obtain ⟨i, hi, rfl, HB⟩ := hrel
  by_cases hin : i < n
  ·as_aux_lemma =>
    have i1 : (i : Int) < n := by omega
    obtain ⟨-, b, o, x, cs', rfl, hbX, hx, rfl, hcl, hr⟩ := HS.out.2.1.at hin
    have hr' : wr.rangeAt b (o + i * 8) (x.l) := range_keep hr HB.out.2 (by have := HS.out.2.2.1; omega : b < w.heap.size)
    have HX1 : Hid (∀ u ∈ x.l, u.oneCell' = true) := List.all_eq_true.1 (show x.l.all (fun u => u.oneCell') = true from rfl)
    have HX : Hid (l[i]? = some x) := hx
    have hv := HB.out.1.own _ (List.mem_singleton.2 rfl)
    have hlen : ((l.take i).map (cfF nf)).length = i := by rw [List.length_map, List.length_take, ← HN.out]; omega
    have hv2 : wr.ownsRow z 91 3 u3 ((l.take i).map (cfF nf)).length _ := hv
    rw [hlen] at hv2
    obtain ⟨vp, vc, rfl⟩ := own_form hv2
    have HLN : Hid (((l.take i).map (cfF nf)).length = i) := hlen
    clear hr hcl hbX hx hv hv2 hlen
    go_upto_region 5 with (first
     | (refine wpList_is (.load 67 (.tmp 14)) rfl ?_; refine wpList_loadG 67 8 56 info94 _ Try.underlying67 rfl (x.l) rfl b (o + i * 8) (.tmp 14) rfl rfl rfl hr' (some 15) rfl ?_; clear hr')
     | (refine wpList_is (.alloc 67) rfl ?_; refine wpList_laidG 67 8 56 info94 (x.l) rfl HX1.out 5 (.tmp 15) _ _ rfl rfl rfl rfl rfl rfl rfl rfl ?_; intro W5 hW5 hB5 hs5)
     | fail)
    obtain ⟨g, hg⟩ : ∃ g, g = wr.heap.size := ⟨_, rfl⟩
    rw [← hg] at hW5 ⊢
    have hBd : Below wr.heap.size wr W5.drew := hB5.drew
    have hsv : Sv W5.drew s m1 m2 cs pf nf := HS.out.1.keep (HB.out.2.trans (hBd.mono HB.out.2.size))
    obtain ⟨n0, hn0⟩ : ∃ n0, n0 = x.num := ⟨_, rfl⟩
    obtain ⟨n1, hn1⟩ : ∃ n1, n1 = x.refs := ⟨_, rfl⟩
    obtain ⟨c, hc⟩ : ∃ c, c = (nf (2, n0)).getD 0 := ⟨_, rfl⟩
    have htr : ThR (2, n0) := by rw [hn0]; exact ⟨lit64 2 (by omega), HS.out.2.2.2.2 x (List.mem_of_getElem? HX.out)⟩
    have hS : (fun V : World => V.cell? ⟨s, 14, .none⟩ = some (.map (some m2)) ∧ V.cell? ⟨g, 0, .none⟩ = some (.int .i64 n0) ∧ V.cell? ⟨g, 2, .none⟩ = some (.int .i64 n1) ∧ (Instr.lookup 77 (.map (some m2)) (.agg #[.int .i64 2, .int .i64 n0]) false).run Try.prog V = .ok (.int .i64 c) V) W5.drew := ⟨hsv.cell13.2, by rw [hn0]; exact cell_heap (o := 0) (show W5.drew.heap[g]? = _ from hW5), by rw [hn1]; exact cell_heap (o := 2) (show W5.drew.heap[g]? = _ from hW5), by rw [hc]; exact (hsv.mn.look htr).1⟩
    have HOW : Hid (Owns W5.drew z ([] ++ (rowC ((l.take i).map (cfF nf)) (.slice vp i vc) :: []))) := HB.out.1.keep hBd
    have HW5 : Hid (Below w.heap.size w W5.drew) := HB.out.2.trans (hBd.mono HB.out.2.size)
    have HE : Hid ((l.take (i + 1)).map (cfF nf) = (l.take i).map (cfF nf) ++ [(n0, n1, c)]) := by
     show _ = _
     rw [List.take_add_one, HX.out, hc, hn1, hn0]
     simp [cfF]
    have hzs : z ≤ W5.drew.heap.size := by have := HW5.out.size; have := HS.out.2.2.2.1; omega
    have hil : i ≤ 10000000 := by omega
    clear hW5 hB5 hs5 hg hBd hsv hn0 hn1 hc htr
    refine region_set (fun V => V.cell? ⟨s, 14, .none⟩ = some (.map (some m2)) ∧ V.cell? ⟨g, 0, .none⟩ = some (.int .i64 n0) ∧ V.cell? ⟨g, 2, .none⟩ = some (.int .i64 n1) ∧ (Instr.lookup 77 (.map (some m2)) (.agg #[.int .i64 2, .int .i64 n0]) false).run Try.prog V = .ok (.int .i64 c) V) 14 [0] (by kernel_rfl) ?_
    generalize W5.drew = WD at *
    refine set_pure (i := 0) (v := .slice vp i vc) rfl (by kernel_rfl) (by kernel_rfl) (by kernel_rfl) (by kernel_rfl) (fun _ _ _ h => h) (Or.inl ⟨by rfl, fun ww hSw => by go_simp⟩) ?_
    simp only [x0,x1,x2,x3,x4,x5,x6]
    refine sT 1 (.pointer (some ⟨g, 0, .none⟩)) rfl (fun ww hSw => by obtain ⟨hs1, hs2, hs3, hs4⟩ := hSw; go_simp) hS ?_
    simp only [x0,x1,x2,x3,x4,x5,x6]
    refine sT 2 (.int .i64 n0) rfl (fun ww hSw => by obtain ⟨hs1, hs2, hs3, hs4⟩ := hSw; go_simp) hS ?_
    simp only [x0,x1,x2,x3,x4,x5,x6]
    refine sT 3 (.pointer (some ⟨g, 2, .none⟩)) rfl (fun ww hSw => by obtain ⟨hs1, hs2, hs3, hs4⟩ := hSw; go_simp) hS ?_
    simp only [x0,x1,x2,x3,x4,x5,x6]
    refine sT 4 (.int .i64 n1) rfl (fun ww hSw => by obtain ⟨hs1, hs2, hs3, hs4⟩ := hSw; go_simp) hS ?_
    simp only [x0,x1,x2,x3,x4,x5,x6]
    refine sT 5 (.pointer (some ⟨s, 0, .none⟩)) rfl (fun ww hSw => by obtain ⟨hs1, hs2, hs3, hs4⟩ := hSw; go_simp) hS ?_
    simp only [x0,x1,x2,x3,x4,x5,x6]
    refine sT 6 (.pointer (some ⟨s, 0, .none⟩)) rfl (fun ww hSw => by obtain ⟨hs1, hs2, hs3, hs4⟩ := hSw; go_simp) hS ?_
    simp only [x0,x1,x2,x3,x4,x5,x6]
    refine sT 7 (.pointer (some ⟨s, 14, .none⟩)) rfl (fun ww hSw => by obtain ⟨hs1, hs2, hs3, hs4⟩ := hSw; go_simp) hS ?_
    simp only [x0,x1,x2,x3,x4,x5,x6]
    refine sT 8 (.map (some m2)) rfl (fun ww hSw => by obtain ⟨hs1, hs2, hs3, hs4⟩ := hSw; go_simp) hS ?_
    simp only [x0,x1,x2,x3,x4,x5,x6]
    refine sT 9 (.pointer (some ⟨g, 0, .none⟩)) rfl (fun ww hSw => by obtain ⟨hs1, hs2, hs3, hs4⟩ := hSw; go_simp) hS ?_
    simp only [x0,x1,x2,x3,x4,x5,x6]
    refine sT 10 (.int .i64 n0) rfl (fun ww hSw => by obtain ⟨hs1, hs2, hs3, hs4⟩ := hSw; go_simp) hS ?_
    simp only [x0,x1,x2,x3,x4,x5,x6]
    refine sT 11 (.agg #[.int .i64 2, .int .i64 n0]) rfl (fun ww hSw => by obtain ⟨hs1, hs2, hs3, hs4⟩ := hSw; go_simp) hS ?_
    simp only [x0,x1,x2,x3,x4,x5,x6]
    refine sT 12 (.int .i64 c) rfl (fun ww hSw => by obtain ⟨hs1, hs2, hs3, hs4⟩ := hSw; go_simp) hS ?_
    simp only [x0,x1,x2,x3,x4,x5,x6]
    refine sT 13 (.agg #[.int .i64 n0, .int .i64 n1, .int .i64 c]) rfl (fun ww hSw => by obtain ⟨hs1, hs2, hs3, hs4⟩ := hSw; go_simp) hS ?_
    simp only [x0,x1,x2,x3,x4,x5,x6]
    refine set_tail 3 14 _ _ _ _ (by kernel_rfl) (by decide) ?_
    simp only [List.toList_toArray, List.drop_succ_cons, List.drop_zero]
    clear hS
    go_wp2_with (first
     | (refine wpList_is (.buildSlice 37 1 #[(0, .tmp 29)]) rfl ?_; refine wpList_pushG (A := []) (r := rowC ((l.take i).map (cfF nf)) (.slice vp i vc)) (B := []) 37 91 3 24 info117 Try.underlying37 (by decide) (by decide) (by decide) HOW.out rfl rfl (by show ((l.take i).map (cfF nf)).length ≤ _; rw [HLN.out]; exact hil) hzs (owL (n0, n1, c)) rfl (owL_one _) 29 30 (.tmp 16) rfl rfl rfl rfl rfl rfl (some 31) rfl rfl rfl ?_; intro v5 w5 hO5 hB5)
     | fail)
    refine ⟨⟨i + 1, by omega, by go_num, ?_, HW5.out.trans (hB5.mono (by have := HS.out.2.2.2.1; omega))⟩, by simp [intOf]; omega⟩
    rw [HE.out, rowC_app _ _ (.slice vp i vc)]
    exact hO5
  ·have i1 : ¬ (i : Int) < n := by omega
   obtain rfl : n = i := by omega
   have HQ : Hid (wr.ownsRow z 91 3 u3 (l.map (cfF nf)).length (((l.map (cfF nf)).map owL).flatten)) := by
    have := HB.out.1.own _ (List.mem_singleton.2 rfl)
    rw [show l.take n = l by rw [HN.out, List.take_length]] at this
    exact this
   go_wp2
   go_ret
   exact ⟨_, rfl, by rw [← HS.out.2.2.2.1]; exact HQ.out, HB.out.2⟩
set_option maxRecDepth 100000 in
set_option maxHeartbeats 2000000 in
theorem inodeCounts_any {w : World} {s m1 m2 X : Nat} {cs : List Value} {pf nf : Th → Option Int} (h : Sv w s m1 m2 cs pf nf) {fv : Value} {l : List In} (hc : cs[3]? = some fv) (hf : Is w X fv l) (hX : X ≤ w.heap.size) (hR : ∀ x ∈ l, i64R x.ino) (hl : l.length ≤ 1048576) : Calls Try.prog 17 #[.pointer (some ⟨s, 0, .none⟩)] w (CoP w (l.map (cfI nf))) := by
 obtain ⟨fp, fc, rfl⟩ := hf.form
 obtain ⟨n, hn⟩ : ∃ n, n = l.length := ⟨_, rfl⟩
 rw [← hn] at hf hl hc
 have HN : Hid (n = l.length) := hn
 obtain ⟨z, hz⟩ : ∃ z, z = w.heap.size := ⟨_, rfl⟩
 have HS : Hid (Sv w s m1 m2 cs pf nf ∧ Is w X (.slice fp n fc) l ∧ X ≤ w.heap.size ∧ z = w.heap.size ∧ ∀ x ∈ l, i64R x.ino) := ⟨h, hf, hX, hz, hR⟩
 have k2 : w.cell? ⟨s, 3, .none⟩ = some (.slice fp n fc) := by rw [cell_heap h.hp, List.getElem?_toArray, hc]
 have HO : Hid (Owns w z [rowC ((l.take 0).map (cfI nf)) (.slice none 0 0)] ∧ Below w.heap.size w w) := ⟨⟨fun r hr => by rw [List.mem_singleton] at hr; subst hr; exact World.ownsRow_nil _ _ _ _, by simp [blks, rowC, Value.ownBlock]⟩, Below.refl _ _⟩
 clear h hf hX hz hR hc hn
 go_enter Try.func17, Try.ntmps17
 go_wp2
 clear k2
 go_loopw [3, 12] (fun v3 k wr => ∃ i : Nat, i ≤ n ∧ k = .int .i64 i ∧ Hid (Owns wr z [rowC ((l.take i).map (cfI nf)) v3] ∧ Below w.heap.size w wr)) (fun _ v _ => (n - intOf v).toNat)
 case atStart => exact ⟨0, by omega, rfl, HO.out⟩
 case round =>
  clear HO
  obtain ⟨i, hi, rfl, HB⟩ := hrel
  by_cases hin : i < n
  ·as_aux_lemma =>
    have i1 : (i : Int) < n := by omega
    obtain ⟨-, b, o, x, cs', rfl, hbX, hx, ⟨bv, rfl, hN⟩, hcl, hr⟩ := HS.out.2.1.at hin
    have hr' : wr.rangeAt b (o + i * 8) (x.l bv) := range_keep hr HB.out.2 (by have := HS.out.2.2.1; omega : b < w.heap.size)
    have HX1 : Hid (∀ u ∈ x.l bv, u.oneCell' = true) := inl_one x hN.one
    have HX : Hid (l[i]? = some x) := hx
    have hv := HB.out.1.own _ (List.mem_singleton.2 rfl)
    have hlen : ((l.take i).map (cfI nf)).length = i := by rw [List.length_map, List.length_take, ← HN.out]; omega
    have hv2 : wr.ownsRow z 91 3 u3 ((l.take i).map (cfI nf)).length _ := hv
    rw [hlen] at hv2
    obtain ⟨vp, vc, rfl⟩ := own_form hv2
    have HLN : Hid (((l.take i).map (cfI nf)).length = i) := hlen
    clear hr hcl hbX hx hv hv2 hlen hN
    go_upto_region 5 with (first
     | (refine wpList_is (.load 63 (.tmp 14)) rfl ?_; refine wpList_loadG 63 8 72 info66 _ Try.underlying63 rfl (x.l bv) rfl b (o + i * 8) (.tmp 14) rfl rfl rfl hr' (some 15) rfl ?_; clear hr')
     | (refine wpList_is (.alloc 63) rfl ?_; refine wpList_laidG 63 8 72 info66 (x.l bv) rfl HX1.out 5 (.tmp 15) _ _ rfl rfl rfl rfl rfl rfl rfl rfl ?_; intro W5 hW5 hB5 hs5)
     | fail)
    obtain ⟨g, hg⟩ : ∃ g, g = wr.heap.size := ⟨_, rfl⟩
    rw [← hg] at hW5 ⊢
    have hBd : Below wr.heap.size wr W5.drew := hB5.drew
    have hsv : Sv W5.drew s m1 m2 cs pf nf := HS.out.1.keep (HB.out.2.trans (hBd.mono HB.out.2.size))
    obtain ⟨n0, hn0⟩ : ∃ n0, n0 = x.ino := ⟨_, rfl⟩
    obtain ⟨n1, hn1⟩ : ∃ n1, n1 = x.refs := ⟨_, rfl⟩
    obtain ⟨c, hc⟩ : ∃ c, c = (nf (3, n0)).getD 0 := ⟨_, rfl⟩
    have htr : ThR (3, n0) := by rw [hn0]; exact ⟨lit64 3 (by omega), HS.out.2.2.2.2 x (List.mem_of_getElem? HX.out)⟩
    have hS : (fun V : World => V.cell? ⟨s, 14, .none⟩ = some (.map (some m2)) ∧ V.cell? ⟨g, 0, .none⟩ = some (.int .i64 n0) ∧ V.cell? ⟨g, 5, .none⟩ = some (.int .i64 n1) ∧ (Instr.lookup 77 (.map (some m2)) (.agg #[.int .i64 3, .int .i64 n0]) false).run Try.prog V = .ok (.int .i64 c) V) W5.drew := ⟨hsv.cell13.2, by rw [hn0]; exact cell_heap (o := 0) (show W5.drew.heap[g]? = _ from hW5), by rw [hn1]; exact cell_heap (o := 5) (show W5.drew.heap[g]? = _ from hW5), by rw [hc]; exact (hsv.mn.look htr).1⟩
    have HOW : Hid (Owns W5.drew z ([] ++ (rowC ((l.take i).map (cfI nf)) (.slice vp i vc) :: []))) := HB.out.1.keep hBd
    have HW5 : Hid (Below w.heap.size w W5.drew) := HB.out.2.trans (hBd.mono HB.out.2.size)
    have HE : Hid ((l.take (i + 1)).map (cfI nf) = (l.take i).map (cfI nf) ++ [(n0, n1, c)]) := by
     show _ = _
     rw [List.take_add_one, HX.out, hc, hn1, hn0]
     simp [cfI]
    have hzs : z ≤ W5.drew.heap.size := by have := HW5.out.size; have := HS.out.2.2.2.1; omega
    have hil : i ≤ 10000000 := by omega
    clear hW5 hB5 hs5 hg hBd hsv hn0 hn1 hc htr
    refine region_set (fun V => V.cell? ⟨s, 14, .none⟩ = some (.map (some m2)) ∧ V.cell? ⟨g, 0, .none⟩ = some (.int .i64 n0) ∧ V.cell? ⟨g, 5, .none⟩ = some (.int .i64 n1) ∧ (Instr.lookup 77 (.map (some m2)) (.agg #[.int .i64 3, .int .i64 n0]) false).run Try.prog V = .ok (.int .i64 c) V) 14 [0] (by kernel_rfl) ?_
    generalize W5.drew = WD at *
    refine set_pure (i := 0) (v := .slice vp i vc) rfl (by kernel_rfl) (by kernel_rfl) (by kernel_rfl) (by kernel_rfl) (fun _ _ _ h => h) (Or.inl ⟨by rfl, fun ww hSw => by go_simp⟩) ?_
    simp only [x0,x1,x2,x3,x4,x5,x6]
    refine sT 1 (.pointer (some ⟨g, 0, .none⟩)) rfl (fun ww hSw => by obtain ⟨hs1, hs2, hs3, hs4⟩ := hSw; go_simp) hS ?_
    simp only [x0,x1,x2,x3,x4,x5,x6]
    refine sT 2 (.int .i64 n0) rfl (fun ww hSw => by obtain ⟨hs1, hs2, hs3, hs4⟩ := hSw; go_simp) hS ?_
    simp only [x0,x1,x2,x3,x4,x5,x6]
    refine sT 3 (.pointer (some ⟨g, 5, .none⟩)) rfl (fun ww hSw => by obtain ⟨hs1, hs2, hs3, hs4⟩ := hSw; go_simp) hS ?_
    simp only [x0,x1,x2,x3,x4,x5,x6]
    refine sT 4 (.int .i64 n1) rfl (fun ww hSw => by obtain ⟨hs1, hs2, hs3, hs4⟩ := hSw; go_simp) hS ?_
    simp only [x0,x1,x2,x3,x4,x5,x6]
    refine sT 5 (.pointer (some ⟨s, 0, .none⟩)) rfl (fun ww hSw => by obtain ⟨hs1, hs2, hs3, hs4⟩ := hSw; go_simp) hS ?_
    simp only [x0,x1,x2,x3,x4,x5,x6]
    refine sT 6 (.pointer (some ⟨s, 0, .none⟩)) rfl (fun ww hSw => by obtain ⟨hs1, hs2, hs3, hs4⟩ := hSw; go_simp) hS ?_
    simp only [x0,x1,x2,x3,x4,x5,x6]
    refine sT 7 (.pointer (some ⟨s, 14, .none⟩)) rfl (fun ww hSw => by obtain ⟨hs1, hs2, hs3, hs4⟩ := hSw; go_simp) hS ?_
    simp only [x0,x1,x2,x3,x4,x5,x6]
    refine sT 8 (.map (some m2)) rfl (fun ww hSw => by obtain ⟨hs1, hs2, hs3, hs4⟩ := hSw; go_simp) hS ?_
    simp only [x0,x1,x2,x3,x4,x5,x6]
    refine sT 9 (.pointer (some ⟨g, 0, .none⟩)) rfl (fun ww hSw => by obtain ⟨hs1, hs2, hs3, hs4⟩ := hSw; go_simp) hS ?_
    simp only [x0,x1,x2,x3,x4,x5,x6]
    refine sT 10 (.int .i64 n0) rfl (fun ww hSw => by obtain ⟨hs1, hs2, hs3, hs4⟩ := hSw; go_simp) hS ?_
    simp only [x0,x1,x2,x3,x4,x5,x6]
    refine sT 11 (.agg #[.int .i64 3, .int .i64 n0]) rfl (fun ww hSw => by obtain ⟨hs1, hs2, hs3, hs4⟩ := hSw; go_simp) hS ?_
    simp only [x0,x1,x2,x3,x4,x5,x6]
    refine sT 12 (.int .i64 c) rfl (fun ww hSw => by obtain ⟨hs1, hs2, hs3, hs4⟩ := hSw; go_simp) hS ?_
    simp only [x0,x1,x2,x3,x4,x5,x6]
    refine sT 13 (.agg #[.int .i64 n0, .int .i64 n1, .int .i64 c]) rfl (fun ww hSw => by obtain ⟨hs1, hs2, hs3, hs4⟩ := hSw; go_simp) hS ?_
    simp only [x0,x1,x2,x3,x4,x5,x6]
    refine set_tail 3 14 _ _ _ _ (by kernel_rfl) (by decide) ?_
    simp only [List.toList_toArray, List.drop_succ_cons, List.drop_zero]
    clear hS
    go_wp2_with (first
     | (refine wpList_is (.buildSlice 37 1 #[(0, .tmp 29)]) rfl ?_; refine wpList_pushG (A := []) (r := rowC ((l.take i).map (cfI nf)) (.slice vp i vc)) (B := []) 37 91 3 24 info117 Try.underlying37 (by decide) (by decide) (by decide) HOW.out rfl rfl (by show ((l.take i).map (cfI nf)).length ≤ _; rw [HLN.out]; exact hil) hzs (owL (n0, n1, c)) rfl (owL_one _) 29 30 (.tmp 16) rfl rfl rfl rfl rfl rfl (some 31) rfl rfl rfl ?_; intro v5 w5 hO5 hB5)
     | fail)
    refine ⟨⟨i + 1, by omega, by go_num, ?_, HW5.out.trans (hB5.mono (by have := HS.out.2.2.2.1; omega))⟩, by simp [intOf]; omega⟩
    rw [HE.out, rowC_app _ _ (.slice vp i vc)]
    exact hO5
  ·have i1 : ¬ (i : Int) < n := by omega
   obtain rfl : n = i := by omega
   have HQ : Hid (wr.ownsRow z 91 3 u3 (l.map (cfI nf)).length (((l.map (cfI nf)).map owL).flatten)) := by
    have := HB.out.1.own _ (List.mem_singleton.2 rfl)
    rw [show l.take n = l by rw [HN.out, List.take_length]] at this
    exact this
   go_wp2
   go_ret
   exact ⟨_, rfl, by rw [← HS.out.2.2.2.1]; exact HQ.out, HB.out.2⟩
end Go.Proofs.Ythopgmmodldljab
