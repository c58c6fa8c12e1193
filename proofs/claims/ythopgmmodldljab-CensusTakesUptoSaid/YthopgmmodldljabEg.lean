import Derived.Test.YthopgmmodldljabEf
namespace Go.Proofs.Ythopgmmodldljab
open Go Go.RowKit
set_option linter.unusedVariables false
set_option linter.unusedSimpArgs false
theorem cnt1_eq (nf : Th → Option Int) (t : Th) : cnt1 nf t = upd nf t ((nf t).getD 0 + 1) := rfl
theorem Nb.fold {nf : Th → Option Int} {K : Int} (h : Nb nf K) : ∀ l : List Th, Nb (l.foldl cnt1 nf) (K + l.length)
 | [] => by simpa using h
 | t :: l => by
  have := (h.cnt t).fold l
  refine this.mono ?_
  simp only [List.length_cons]
  omega
def fdT (p : Pc) (i : Nat) : List Th := (List.range i).map fun k => (2, p.c (46 + k))
theorem fdT_succ (p : Pc) (i : Nat) : fdT p (i + 1) = fdT p i ++ [(2, p.c (46 + i))] := by
 unfold fdT
 rw [List.range_succ, List.map_append]
 rfl
def nmPr (p : Pc) : List Th := fdT p 16 ++ (if p.c 2 = 3 then [] else [(3, p.c 62)])
def enP (pf : Th → Option Int) (p : Pc) (a : Int) : Th → Option Int := ent (ent pf (0, p.c 0) a) (1, p.c 1) a
theorem index50 (c : Nat → Int) (i : Nat) (hi : i < 16) (w : World) : (Instr.index 55 (.agg (fdL c).toArray) (.int .i64 i)).run Try.prog w = .ok (.int .i64 (c (46 + i))) w := by
 have : i = 0 ∨ i = 1 ∨ i = 2 ∨ i = 3 ∨ i = 4 ∨ i = 5 ∨ i = 6 ∨ i = 7 ∨ i = 8 ∨ i = 9 ∨ i = 10 ∨ i = 11 ∨ i = 12 ∨ i = 13 ∨ i = 14 ∨ i = 15 := by omega
 rcases this with rfl | rfl | rfl | rfl | rfl | rfl | rfl | rfl | rfl | rfl | rfl | rfl | rfl | rfl | rfl | rfl <;> (show _ = _; kernel_rfl)
set_option maxRecDepth 100000 in
set_option maxHeartbeats 1000000 in
theorem enterP_any {w : World} {s m1 m2 : Nat} {cs : List Value} {pf nf : Th → Option Int} (h : Sv w s m1 m2 cs pf nf) (p : Pc) (nv gv : Value) (hp : PcR p) (a : Int) {K : Int} (hN : Nb nf K) (hK : K ≤ 1000000000) : Calls Try.prog 28 #[.pointer (some ⟨s, 0, .none⟩), .int .i64 a, .agg (p.l nv gv).toArray] w (EnP w s m1 m2 cs (enP pf p a) ((nmPr p).foldl cnt1 nf)) := by
 have HS : Hid (Sv w s m1 m2 cs pf nf ∧ ThR (0, p.c 0) ∧ ThR (1, p.c 1) ∧ ThR (3, p.c 62) ∧ ∀ i, i < 16 → ThR (2, p.c (46 + i))) := ⟨h, ⟨lit64 0 (by omega), hp.c 0 _ (by simp [k55])⟩, ⟨lit64 1 (by omega), hp.c 1 _ (by simp [k55])⟩, ⟨lit64 3 (by omega), hp.c 62 _ (by simp [k55])⟩, fun i hi => ⟨lit64 2 (by omega), hp.c (46 + i) .i64 (by
  have : i = 0 ∨ i = 1 ∨ i = 2 ∨ i = 3 ∨ i = 4 ∨ i = 5 ∨ i = 6 ∨ i = 7 ∨ i = 8 ∨ i = 9 ∨ i = 10 ∨ i = 11 ∨ i = 12 ∨ i = 13 ∨ i = 14 ∨ i = 15 := by omega
  rcases this with rfl | rfl | rfl | rfl | rfl | rfl | rfl | rfl | rfl | rfl | rfl | rfl | rfl | rfl | rfl | rfl <;> simp [k55])⟩⟩
 have HNK : Hid (Nb nf K ∧ K ≤ 1000000000) := ⟨hN, hK⟩
 clear h hp hN hK
 go_enter Try.func28, Try.ntmps28
 go_wp2_with (first
  | (refine wpList_is (.box 60 (.tmp 2)) rfl ?_; refine wpList_boxG 60 (p.l nv gv) 5 (.tmp 2) _ rfl rfl rfl rfl ?_; intro W1 hW1 hB1 hs1; have k0 : W1.cell? ⟨w.heap.size, 0, .none⟩ = some (.int .i64 (p.c 0)) := cell_heap (o := 0) hW1)
  | (refine wpList_is (.build 101 #[(0, .const (.int .i64 0)), (1, .tmp 11)]) rfl ?_; refine wpList_buildTo rfl 101 _ rfl (some 12) rfl (thL (0, p.c 0)).toArray (by kernel_rfl) ?_)
  | fail)
 go_at_call 31
 refine (enter_any (HS.out.1.keep hB1) HS.out.2.1 a).mono ?_
 rintro e W2 ⟨u, rfl, hv, hF⟩
 obtain ⟨z, hz⟩ : ∃ z, z = w.heap.size := ⟨_, rfl⟩
 rw [← hz] at hW1 hs1 ⊢
 have HZ : Hid (z = w.heap.size ∧ z ≠ m1 ∧ z ≠ m2) := by have := HS.out.1.lt; exact ⟨hz, by omega, by omega⟩
 have hblk : W2.heap[z]? = some (.cells (p.l nv gv).toArray 60) := (hF.block _ (by omega) HZ.out.2.1 HZ.out.2.2).trans hW1
 have k1 : W2.cell? ⟨z, 1, .none⟩ = some (.int .i64 (p.c 1)) := cell_heap (o := 1) hblk
 have HV : Hid (Sv W2 s m1 m2 cs (ent pf (0, p.c 0) a) nf ∧ Fr m1 m2 w W2 ∧ W2.heap[z]? = some (.cells (p.l nv gv).toArray 60)) := ⟨hv, (Fr.of_below hB1).trans hF, hblk⟩
 clear hv hF hblk hW1 hB1 hs1 k0 hz
 go_wp2_with (first
  | (refine wpList_is (.build 101 #[(0, .const (.int .i64 1)), (1, .tmp 17)]) rfl ?_; refine wpList_buildTo rfl 101 _ rfl (some 18) rfl (thL (1, p.c 1)).toArray (by kernel_rfl) ?_)
  | fail)
 clear k1
 go_at_call 31
 refine (enter_any HV.out.1 HS.out.2.2.1 a).mono ?_
 rintro e W3 ⟨u3, rfl, hv3, hF3⟩
 obtain ⟨pf2, hpf2⟩ : ∃ f, f = enP pf p a := ⟨_, rfl⟩
 have hzl : z < W2.heap.size := (Array.getElem?_eq_some_iff.1 HV.out.2.2).1
 have hblk : W3.heap[z]? = some (.cells (p.l nv gv).toArray 60) := (hF3.block z hzl HZ.out.2.1 HZ.out.2.2).trans HV.out.2.2
 have HV3 : Hid (Sv W3 s m1 m2 cs pf2 nf ∧ Fr m1 m2 w W3 ∧ W3.heap[z]? = some (.cells (p.l nv gv).toArray 60)) := ⟨by rw [hpf2]; exact hv3, HV.out.2.1.trans hF3, hblk⟩
 have HP2 : Hid (pf2 = enP pf p a) := hpf2
 have r46 : W3.rangeAt z 46 (fdL p.c) := by have := range_sub (k := 46) (range_heap hblk) (sub_of (s := fdL p.c) rfl); simpa using this
 clear hv3 hF3 hzl hblk HV hpf2
 go_wp2_with (first
  | (refine wpList_is (.load 55 (.tmp 20)) rfl ?_; refine wpList_loadW 55 _ Try.underlying55 rfl (fdL p.c) (by kernel_rfl) z 46 (.tmp 20) rfl rfl rfl r46 (some 21) rfl ?_)
  | fail)
 clear r46
 go_loopw [22] (fun k wr => ∃ i : Nat, i ≤ 16 ∧ k = .int .i64 i ∧ Hid (Sv wr s m1 m2 cs pf2 ((fdT p i).foldl cnt1 nf) ∧ Fr m1 m2 w wr ∧ wr.heap[z]? = some (.cells (p.l nv gv).toArray 60))) (fun v _ => (16 - intOf v).toNat)
 case atStart => exact ⟨0, by omega, rfl, HV3.out⟩
 case round =>
  clear HV3
  obtain ⟨i, hi, rfl, HB⟩ := hrel
  by_cases hin : i < 16
  ·as_aux_lemma =>
    have i1 : (i : Int) < 16 := by omega
    have hix := index50 p.c i hin
    obtain ⟨x, hx⟩ : ∃ x, x = p.c (46 + i) := ⟨_, rfl⟩
    rw [← hx] at hix
    have HTR : Hid (ThR (2, x)) := by rw [hx]; exact HS.out.2.2.2.2 i hin
    have HNB : Hid (Nb ((fdT p i).foldl cnt1 nf) (1000000000 + 1000)) := by
     refine (HNK.out.1.fold (fdT p i)).mono ?_
     have h1 := HNK.out.2
     have h2 : (fdT p i).length = i := by simp [fdT]
     rw [h2]
     omega
    obtain ⟨c, hc⟩ : ∃ c, c = (((fdT p i).foldl cnt1 nf) (2, x)).getD 0 := ⟨_, rfl⟩
    have hc1 : 0 ≤ c ∧ c ≤ 1000001000 := by have h1 := HNB.out (2, x); rw [hc]; omega
    have hwr : IntKind.i64.wrap (c + 1) = c + 1 := by rw [IntKind.wrap_i64]; omega
    have hvd : Sv wr.drew s m1 m2 cs pf2 ((fdT p i).foldl cnt1 nf) := HB.out.1.keep (Below.refl _ _).drew
    have hzl : z < wr.drew.heap.size := (Array.getElem?_eq_some_iff.1 HB.out.2.2).1
    obtain ⟨st, W5, he1, he2, he3, he4, he5⟩ := hvd.mn.entry HTR.out
    rw [← hc] at he1 he2
    have hent : (Instr.mapEntry 77 (.map (some m2)) (.agg #[.int .i64 2, .int .i64 x])).run Try.prog wr.drew = .ok (.tuple #[.int .i64 c, .int .i64 st]) W5 := he1
    obtain ⟨W6, hs1, hs2, hs3, hs4'⟩ := he5 W5 (c + 1) rfl
    have hsto : (Instr.entryStore 77 (.map (some m2)) (.int .i64 st) (.int .i64 (c + 1))).run Try.prog W5 = .ok () W6 := hs1
    have hv5 := hvd.put2 he3 he2
    have hz5 : W5.heap[z]? = some (.cells (p.l nv gv).toArray 60) := (he3.block z hzl (by intro e; injection e with e; exact HZ.out.2.2 e)).trans HB.out.2.2
    have hS : (fun V : World => V.cell? ⟨s, 14, .none⟩ = some (.map (some m2)) ∧ (Instr.lookup 77 (.map (some m2)) (.agg #[.int .i64 2, .int .i64 x]) false).run Try.prog V = .ok (.int .i64 c) V) wr.drew := ⟨hvd.cell13.2, by rw [hc]; exact (hvd.mn.look HTR.out).1⟩
    have hS1 : (fun V : World => V.cell? ⟨s, 14, .none⟩ = some (.map (some m2)) ∧ (Instr.lookup 77 (.map (some m2)) (.agg #[.int .i64 2, .int .i64 x]) false).run Try.prog V = .ok (.int .i64 c) V) W5 := ⟨hv5.cell13.2, by have h1 := (hv5.mn.look HTR.out).1; simp only [upd, if_true, Option.getD_some] at h1; exact h1⟩
    have HV6 : Hid (Sv W6 s m1 m2 cs pf2 (cnt1 ((fdT p i).foldl cnt1 nf) (2, x)) ∧ Fr m1 m2 w W6 ∧ W6.heap[z]? = some (.cells (p.l nv gv).toArray 60)) := ⟨by rw [cnt1_eq, ← hc]; exact hv5.put2 hs3 hs2, ((HB.out.2.1.trans (Fr.of_below (Below.refl _ _).drew)).trans (Fr.of_grown he3 (.inr rfl))).trans (Fr.of_grown hs3 (.inr rfl)), (hs3.block z (by have := he3.size; omega) (by intro e; injection e with e; exact HZ.out.2.2 e)).trans hz5⟩
    have HFX : Hid ((fdT p (i + 1)).foldl cnt1 nf = cnt1 ((fdT p i).foldl cnt1 nf) (2, x)) := by
     show _ = _
     rw [fdT_succ, List.foldl_append, hx]
     rfl
    clear hx hc hvd he1 he2 he3 he4 he5 hs1 hs2 hs3 hs4' hv5 hz5 hzl
    go_upto_region 6 with fail
    refine region_set (fun V => V.cell? ⟨s, 14, .none⟩ = some (.map (some m2)) ∧ (Instr.lookup 77 (.map (some m2)) (.agg #[.int .i64 2, .int .i64 x]) false).run Try.prog V = .ok (.int .i64 c) V) 10 [] (by kernel_rfl) ?_
    refine sT 0 (.pointer (some ⟨s, 0, .none⟩)) rfl (fun ww hSw => by obtain ⟨hs1, hs3⟩ := hSw; go_simp) hS ?_
    simp only [x0,x1,x2,x3,x4,x5,x6]
    refine sT 1 (.pointer (some ⟨s, 0, .none⟩)) rfl (fun ww hSw => by obtain ⟨hs1, hs3⟩ := hSw; go_simp) hS ?_
    simp only [x0,x1,x2,x3,x4,x5,x6]
    refine sT 2 (.pointer (some ⟨s, 14, .none⟩)) rfl (fun ww hSw => by obtain ⟨hs1, hs3⟩ := hSw; go_simp) hS ?_
    simp only [x0,x1,x2,x3,x4,x5,x6]
    refine sT 3 (.map (some m2)) rfl (fun ww hSw => by obtain ⟨hs1, hs3⟩ := hSw; go_simp) hS ?_
    simp only [x0,x1,x2,x3,x4,x5,x6]
    refine sT 4 (.int .i64 x) rfl (fun ww hSw => by obtain ⟨hs1, hs3⟩ := hSw; go_simp) hS ?_
    simp only [x0,x1,x2,x3,x4,x5,x6]
    refine sT 5 (.agg #[.int .i64 2, .int .i64 x]) rfl (fun ww hSw => by obtain ⟨hs1, hs3⟩ := hSw; go_simp) hS ?_
    simp only [x0,x1,x2,x3,x4,x5,x6]
    refine sT 6 (.int .i64 c) rfl (fun ww hSw => by obtain ⟨hs1, hs3⟩ := hSw; go_simp) hS ?_
    simp only [x0,x1,x2,x3,x4,x5,x6]
    refine sT 7 (.int .i64 (c + 1)) rfl (fun ww hSw => by obtain ⟨hs1, hs3⟩ := hSw; go_simp) hS ?_
    simp only [x0,x1,x2,x3,x4,x5,x6]
    refine set_only (i := 8) (by kernel_rfl) rfl (by rfl) (fun K hK => ?_)
    go_simp
    refine hK.out _ _ (fun _ => hS1) ?_
    clear hK K
    try simp only [x0,x1,x2,x3,x4,x5,x6]
    refine sT 9 (.int .i64 st) rfl (fun ww hSw => by obtain ⟨hs1, hs3⟩ := hSw; go_simp) hS1 ?_
    simp only [x0,x1,x2,x3,x4,x5,x6]
    refine set_tail 1 10 _ _ _ _ (by kernel_rfl) (by decide) ?_
    simp only [List.toList_toArray, List.drop_succ_cons, List.drop_zero]
    clear hS hS1
    go_wp2
    exact ⟨⟨i + 1, by omega, by go_num, by rw [HFX.out]; exact HV6.out⟩, by simp [intOf]; omega⟩
  ·as_aux_lemma =>
    have i1 : ¬ (i : Int) < 16 := by omega
    obtain rfl : i = 16 := by omega
    clear hin
    have k2 : wr.cell? ⟨z, 2, .none⟩ = some (.int .i64 (p.c 2)) := cell_heap (o := 2) HB.out.2.2
    by_cases h3 : p.c 2 = 3
    ·have e3 : (p.c 2 != 3) = false := by simp [h3]
     have HX : Hid ((nmPr p).foldl cnt1 nf = (fdT p 16).foldl cnt1 nf) := by show _ = _; unfold nmPr; rw [if_pos h3, List.append_nil]
     clear h3
     go_wp2
     refine bodyPost_end (results_none rfl _ _ _) rfl ?_
     exact ⟨_, rfl, by rw [HX.out, ← HP2.out]; exact HB.out.1, HB.out.2.1⟩
    ·have e3 : (p.c 2 != 3) = true := by simp [h3]
     obtain ⟨x, hx⟩ : ∃ x, x = p.c 62 := ⟨_, rfl⟩
     have HX : Hid ((nmPr p).foldl cnt1 nf = cnt1 ((fdT p 16).foldl cnt1 nf) (3, x)) := by show _ = _; unfold nmPr; rw [if_neg h3, List.foldl_append, hx]; rfl
     have HTR : Hid (ThR (3, x)) := by rw [hx]; exact HS.out.2.2.2.1
     have HNB : Hid (Nb ((fdT p 16).foldl cnt1 nf) (1000000000 + 1000)) := by
      refine (HNK.out.1.fold (fdT p 16)).mono ?_
      have h1 := HNK.out.2
      have h2 : (fdT p 16).length = 16 := by simp [fdT]
      rw [h2]
      omega
     obtain ⟨c, hc⟩ : ∃ c, c = (((fdT p 16).foldl cnt1 nf) (3, x)).getD 0 := ⟨_, rfl⟩
     have hc1 : 0 ≤ c ∧ c ≤ 1000001000 := by have h1 := HNB.out (3, x); rw [hc]; omega
     have hwr : IntKind.i64.wrap (c + 1) = c + 1 := by rw [IntKind.wrap_i64]; omega
     have hvd : Sv wr.drew s m1 m2 cs pf2 ((fdT p 16).foldl cnt1 nf) := HB.out.1.keep (Below.refl _ _).drew
     have hzl : z < wr.drew.heap.size := (Array.getElem?_eq_some_iff.1 HB.out.2.2).1
     obtain ⟨st, W5, he1, he2, he3, he4, he5⟩ := hvd.mn.entry HTR.out
     rw [← hc] at he1 he2
     have hent : (Instr.mapEntry 77 (.map (some m2)) (.agg #[.int .i64 3, .int .i64 x])).run Try.prog wr.drew = .ok (.tuple #[.int .i64 c, .int .i64 st]) W5 := he1
     obtain ⟨W6, hs1, hs2, hs3, hs4'⟩ := he5 W5 (c + 1) rfl
     have hsto : (Instr.entryStore 77 (.map (some m2)) (.int .i64 st) (.int .i64 (c + 1))).run Try.prog W5 = .ok () W6 := hs1
     have hv5 := hvd.put2 he3 he2
     have hz5 : W5.heap[z]? = some (.cells (p.l nv gv).toArray 60) := (he3.block z hzl (by intro e; injection e with e; exact HZ.out.2.2 e)).trans HB.out.2.2
     have hS : (fun V : World => V.cell? ⟨s, 14, .none⟩ = some (.map (some m2)) ∧ (Instr.lookup 77 (.map (some m2)) (.agg #[.int .i64 3, .int .i64 x]) false).run Try.prog V = .ok (.int .i64 c) V ∧ V.cell? ⟨z, 62, .none⟩ = some (.int .i64 x)) wr.drew := ⟨hvd.cell13.2, by rw [hc]; exact (hvd.mn.look HTR.out).1, by rw [hx]; exact cell_heap (o := 62) (show wr.drew.heap[z]? = _ from HB.out.2.2)⟩
     have hS1 : (fun V : World => V.cell? ⟨s, 14, .none⟩ = some (.map (some m2)) ∧ (Instr.lookup 77 (.map (some m2)) (.agg #[.int .i64 3, .int .i64 x]) false).run Try.prog V = .ok (.int .i64 c) V ∧ V.cell? ⟨z, 62, .none⟩ = some (.int .i64 x)) W5 := ⟨hv5.cell13.2, by have h1 := (hv5.mn.look HTR.out).1; simp only [upd, if_true, Option.getD_some] at h1; exact h1, by rw [hx]; exact cell_heap (o := 62) hz5⟩
     have HV6 : Hid (Sv W6 s m1 m2 cs pf2 (cnt1 ((fdT p 16).foldl cnt1 nf) (3, x)) ∧ Fr m1 m2 w W6 ∧ W6.heap[z]? = some (.cells (p.l nv gv).toArray 60)) := ⟨by rw [cnt1_eq, ← hc]; exact hv5.put2 hs3 hs2, ((HB.out.2.1.trans (Fr.of_below (Below.refl _ _).drew)).trans (Fr.of_grown he3 (.inr rfl))).trans (Fr.of_grown hs3 (.inr rfl)), (hs3.block z (by have := he3.size; omega) (by intro e; injection e with e; exact HZ.out.2.2 e)).trans hz5⟩
     clear h3 hx hc hvd he1 he2 he3 he4 he5 hs1 hs2 hs3 hs4' hv5 hz5 hzl
     go_upto_region 9 with fail
     refine region_set (fun V => V.cell? ⟨s, 14, .none⟩ = some (.map (some m2)) ∧ (Instr.lookup 77 (.map (some m2)) (.agg #[.int .i64 3, .int .i64 x]) false).run Try.prog V = .ok (.int .i64 c) V ∧ V.cell? ⟨z, 62, .none⟩ = some (.int .i64 x)) 11 [] (by kernel_rfl) ?_
     refine sT 0 (.pointer (some ⟨s, 0, .none⟩)) rfl (fun ww hSw => by obtain ⟨hs1, hs3, hs4⟩ := hSw; go_simp) hS ?_
     simp only [x0,x1,x2,x3,x4,x5,x6]
     refine sT 4 (.pointer (some ⟨z, 62, .none⟩)) rfl (fun ww hSw => by obtain ⟨hs1, hs3, hs4⟩ := hSw; go_simp) hS ?_
     simp only [x0,x1,x2,x3,x4,x5,x6]
     refine sT 1 (.pointer (some ⟨s, 0, .none⟩)) rfl (fun ww hSw => by obtain ⟨hs1, hs3, hs4⟩ := hSw; go_simp) hS ?_
     simp only [x0,x1,x2,x3,x4,x5,x6]
     refine sT 2 (.pointer (some ⟨s, 14, .none⟩)) rfl (fun ww hSw => by obtain ⟨hs1, hs3, hs4⟩ := hSw; go_simp) hS ?_
     simp only [x0,x1,x2,x3,x4,x5,x6]
     refine sT 3 (.map (some m2)) rfl (fun ww hSw => by obtain ⟨hs1, hs3, hs4⟩ := hSw; go_simp) hS ?_
     simp only [x0,x1,x2,x3,x4,x5,x6]
     refine sT 5 (.int .i64 x) rfl (fun ww hSw => by obtain ⟨hs1, hs3, hs4⟩ := hSw; go_simp) hS ?_
     simp only [x0,x1,x2,x3,x4,x5,x6]
     refine sT 6 (.agg #[.int .i64 3, .int .i64 x]) rfl (fun ww hSw => by obtain ⟨hs1, hs3, hs4⟩ := hSw; go_simp) hS ?_
     simp only [x0,x1,x2,x3,x4,x5,x6]
     refine sT 7 (.int .i64 c) rfl (fun ww hSw => by obtain ⟨hs1, hs3, hs4⟩ := hSw; go_simp) hS ?_
     simp only [x0,x1,x2,x3,x4,x5,x6]
     refine sT 8 (.int .i64 (c + 1)) rfl (fun ww hSw => by obtain ⟨hs1, hs3, hs4⟩ := hSw; go_simp) hS ?_
     simp only [x0,x1,x2,x3,x4,x5,x6]
     refine set_only (i := 9) (by kernel_rfl) rfl (by rfl) (fun K hK => ?_)
     go_simp
     refine hK.out _ _ (fun _ => hS1) ?_
     clear hK K
     try simp only [x0,x1,x2,x3,x4,x5,x6]
     refine sT 10 (.int .i64 st) rfl (fun ww hSw => by obtain ⟨hs1, hs3, hs4⟩ := hSw; go_simp) hS1 ?_
     simp only [x0,x1,x2,x3,x4,x5,x6]
     refine set_tail 1 11 _ _ _ _ (by kernel_rfl) (by decide) ?_
     simp only [List.toList_toArray, List.drop_succ_cons, List.drop_zero]
     clear hS hS1
     go_wp2
     refine bodyPost_end (results_none rfl _ _ _) rfl ?_
     exact ⟨_, rfl, by rw [HX.out, ← HP2.out]; exact HV6.out.1, HV6.out.2.1⟩
end Go.Proofs.Ythopgmmodldljab
