import Derived.Test.YthopgmmodldljaaEe
namespace Go.Proofs.Ythopgmmodldljaa
open Go Go.RowKit
set_option linter.unusedVariables false
set_option linter.unusedSimpArgs false
def Nb (nf : Th → Option Int) (K : Int) : Prop := ∀ t, 0 ≤ (nf t).getD 0 ∧ (nf t).getD 0 ≤ K
theorem Nb.cnt {nf : Th → Option Int} {K : Int} (h : Nb nf K) (t : Th) : Nb (cnt1 nf t) (K + 1) := fun u => by
  unfold cnt1 upd
  have h1 := h t
  have h2 := h u
  split
  · simp only [Option.getD_some]; omega
  · omega
theorem Nb.mono {nf : Th → Option Int} {K K' : Int} (h : Nb nf K) (hk : K ≤ K') : Nb nf K' := fun u => ⟨(h u).1, Int.le_trans (h u).2 hk⟩
def enF (pf : Th → Option Int) (f : Fi) (a : Int) : Th → Option Int := ent pf (2, f.num) a
def nmFi (f : Fi) : List Th := if (bhT f).2 then [(bhT f).1] else []
set_option maxRecDepth 100000 in
theorem enterF_any {w : World} {s m1 m2 : Nat} {cs : List Value} {pf nf : Th → Option Int} (h : Sv w s m1 m2 cs pf nf) (f : Fi) (hf : FiR f) (a : Int) {K : Int} (hN : Nb nf K) (hK : K ≤ 1000000000) : Calls Try.prog 56 #[.pointer (some ⟨s, 0, .none⟩), .int .i64 a, .agg f.l.toArray] w (EnP w s m1 m2 cs (enF pf f a) ((nmFi f).foldl cnt1 nf)) := by
  have hbt : ThR (bhT f).1 := by
    unfold bhT
    split
    · exact ⟨lit64 3 (by omega), hf.ino⟩
    · split
      · exact ⟨lit64 6 (by omega), hf.pipe⟩
      · split
        · exact ⟨lit64 7 (by omega), hf.pipe⟩
        · exact ⟨lit64 0 (by omega), lit64 0 (by omega)⟩
  have HS : Hid (Sv w s m1 m2 cs pf nf ∧ ThR (2, f.num) ∧ ThR (bhT f).1 ∧ Nb nf K ∧ K ≤ 1000000000) := ⟨h, ⟨lit64 2 (by omega), hf.num⟩, hbt, hN, hK⟩
  clear h hf hbt hN hK
  go_enter Try.func56, Try.ntmps56
  go_wp2_with (first
    | (refine wpList_is (.box 94 (.tmp 2)) rfl ?_; refine wpList_boxG 94 f.l 5 (.tmp 2) _ rfl rfl rfl rfl ?_; intro W1 hW1 hB1 hs1; have k0 : W1.cell? ⟨w.heap.size, 0, .none⟩ = some (.int .i64 f.num) := cell_heap (o := 0) hW1)
    | (refine wpList_is (.build 125 #[(0, .const (.int .i64 2)), (1, .tmp 11)]) rfl ?_; refine wpList_buildTo rfl 125 _ rfl (some 12) rfl (thL (2, f.num)).toArray (by kernel_rfl) ?_)
    | fail)
  go_at_call 58
  refine (enter_any (HS.out.1.keep hB1) HS.out.2.1 a).mono ?_
  rintro e W2 ⟨u, rfl, hv, hF⟩
  have hsb : w.heap.size ≠ m1 ∧ w.heap.size ≠ m2 := by have := HS.out.1.lt; omega
  have hblk : W2.heap[w.heap.size]? = some (.cells f.l.toArray 94) := (hF.block _ (by omega) hsb.1 hsb.2).trans hW1
  have r1 : W2.rangeAt w.heap.size 0 f.l := range_heap hblk
  have HV : Hid (Sv W2 s m1 m2 cs (ent pf (2, f.num) a) nf ∧ Fr m1 m2 w W2) := ⟨hv, (Fr.of_below hB1).trans hF⟩
  clear hv hF hblk hW1 hB1 hs1 hsb k0
  go_wp2_with (first
    | (refine wpList_is (.load 94 (.tmp 5)) rfl ?_; refine wpList_loadG 94 8 56 info94 _ Try.underlying94 rfl f.l rfl w.heap.size 0 (.tmp 5) rfl rfl rfl r1 (some 15) rfl ?_)
    | fail)
  clear r1
  go_at_call 68
  refine (behind_any f _).mono ?_
  rintro e W3 ⟨rfl, hB3⟩
  have HV3 : Hid (Sv W3 s m1 m2 cs (ent pf (2, f.num) a) nf ∧ Fr m1 m2 w W3) := ⟨HV.out.1.keep hB3, HV.out.2.trans (Fr.of_below hB3)⟩
  clear HV hB3
  obtain ⟨t, ht⟩ : ∃ t, t = (bhT f).1 := ⟨_, rfl⟩
  obtain ⟨b, hb⟩ : ∃ b, b = (bhT f).2 := ⟨_, rfl⟩
  rw [← ht, ← hb]
  have HT : Hid (ThR t ∧ nmFi f = if b then [t] else []) := ⟨by rw [ht]; exact HS.out.2.2.1, by unfold nmFi; rw [← ht, ← hb]⟩
  clear ht hb
  cases b
  · go_wp2_with (first
      | (refine wpList_is (.alloc 125) rfl ?_; refine wpList_laidG 125 2 16 info125 (thL t) rfl (List.all_eq_true.1 (show (thL t).all (fun u => u.oneCell') = true from rfl)) 6 (.tmp 17) _ _ rfl rfl rfl rfl rfl rfl rfl rfl ?_; intro W4 hW4 hB4 hs4)
      | fail)
    refine bodyPost_end (results_none rfl _ _ _) rfl ?_
    exact ⟨_, rfl, by rw [HT.out.2]; exact ⟨HV3.out.1.keep hB4, HV3.out.2.trans (Fr.of_below hB4)⟩⟩
  · go_upto_region 4 with (first
      | (refine wpList_is (.alloc 125) rfl ?_; refine wpList_laidG 125 2 16 info125 (thL t) rfl (List.all_eq_true.1 (show (thL t).all (fun u => u.oneCell') = true from rfl)) 6 (.tmp 17) _ _ rfl rfl rfl rfl rfl rfl rfl rfl ?_; intro W4 hW4 hB4 hs4)
      | fail)
    obtain ⟨g, hg⟩ : ∃ g, g = W3.heap.size := ⟨_, rfl⟩
    rw [← hg] at hW4 ⊢
    obtain ⟨c, hc⟩ : ∃ c, c = (nf t).getD 0 := ⟨_, rfl⟩
    have hc1 : 0 ≤ c ∧ c ≤ 1000000000 := by have h1 := HS.out.2.2.2.1 t; have h2 := HS.out.2.2.2.2; rw [hc]; omega
    have hwr : IntKind.i64.wrap (c + 1) = c + 1 := by rw [IntKind.wrap_i64]; omega
    have hv := HV3.out.1.keep hB4
    have hvd : Sv W4.drew s m1 m2 cs (ent pf (2, f.num) a) nf := hv.keep (Below.refl _ _).drew
    obtain ⟨st, W5, he1, he2, he3, he4, he5⟩ := hvd.mn.entry HT.out.1
    rw [← hc] at he1 he2
    have hent : (Instr.mapEntry 88 (.map (some m2)) (.agg (thL t).toArray)).run Try.prog W4.drew = .ok (.tuple #[.int .i64 c, .int .i64 st]) W5 := he1
    obtain ⟨W6, hs1, hs2, hs3, hs4'⟩ := he5 W5 (c + 1) rfl
    have hsto : (Instr.entryStore 88 (.map (some m2)) (.int .i64 st) (.int .i64 (c + 1))).run Try.prog W5 = .ok () W6 := hs1
    have hne : g ≠ m2 := by have := HV3.out.1.lt; omega
    have hgl : g < W4.heap.size := by omega
    have hS : (fun V : World => V.cell? ⟨s, 14, .none⟩ = some (.map (some m2)) ∧ V.rangeAt g 0 (thL t) ∧ (Instr.lookup 88 (.map (some m2)) (.agg (thL t).toArray) false).run Try.prog V = .ok (.int .i64 c) V) W4.drew := ⟨hvd.cell13.2, range_heap hW4, by rw [hc]; exact (hvd.mn.look HT.out.1).1⟩
    have hv5 := hvd.put2 he3 he2
    have hS1 : (fun V : World => V.cell? ⟨s, 14, .none⟩ = some (.map (some m2)) ∧ V.rangeAt g 0 (thL t) ∧ (Instr.lookup 88 (.map (some m2)) (.agg (thL t).toArray) false).run Try.prog V = .ok (.int .i64 c) V) W5 := ⟨hv5.cell13.2, range_heap ((he3.block g hgl (by intro e; injection e with e; exact hne e)).trans hW4), by have h1 := (hv5.mn.look HT.out.1).1; simp only [upd, if_true, Option.getD_some] at h1; exact h1⟩
    have HV6 : Hid (Sv W6 s m1 m2 cs (ent pf (2, f.num) a) (cnt1 nf t) ∧ Fr m1 m2 w W6) := ⟨by unfold cnt1; rw [← hc]; exact hv5.put2 hs3 hs2, ((HV3.out.2.trans (Fr.of_below hB4.drew)).trans (Fr.of_grown he3 (.inr rfl))).trans (Fr.of_grown hs3 (.inr rfl))⟩
    clear hg hc hv hvd he1 he2 he3 he4 he5 hs1 hs2 hs3 hs4' hne hgl hv5 hW4 hB4 hs4
    refine region_set (fun V => V.cell? ⟨s, 14, .none⟩ = some (.map (some m2)) ∧ V.rangeAt g 0 (thL t) ∧ (Instr.lookup 88 (.map (some m2)) (.agg (thL t).toArray) false).run Try.prog V = .ok (.int .i64 c) V) 9 [] (by kernel_rfl) ?_
    refine set_take (i := 0) (v := .pointer (some ⟨s, 0, .none⟩)) rfl (by kernel_rfl) (by kernel_rfl) (by kernel_rfl) (by kernel_rfl) (fun _ _ _ h => h) (Or.inl ⟨by rfl, fun ww hSw => by obtain ⟨hs1, hs2, hs3⟩ := hSw; go_simp⟩) hS ?_
    simp only [Act.put, List.setIfInBounds_toArray, List.set_cons_zero, List.set_cons_succ, List.getElem_toArray, List.getElem_cons_succ, List.getElem_cons_zero]
    refine set_take (i := 1) (v := .pointer (some ⟨s, 0, .none⟩)) rfl (by kernel_rfl) (by kernel_rfl) (by kernel_rfl) (by kernel_rfl) (fun _ _ _ h => h) (Or.inl ⟨by rfl, fun ww hSw => by obtain ⟨hs1, hs2, hs3⟩ := hSw; go_simp⟩) hS ?_
    simp only [Act.put, List.setIfInBounds_toArray, List.set_cons_zero, List.set_cons_succ, List.getElem_toArray, List.getElem_cons_succ, List.getElem_cons_zero]
    refine set_take (i := 2) (v := .pointer (some ⟨s, 14, .none⟩)) rfl (by kernel_rfl) (by kernel_rfl) (by kernel_rfl) (by kernel_rfl) (fun _ _ _ h => h) (Or.inl ⟨by rfl, fun ww hSw => by obtain ⟨hs1, hs2, hs3⟩ := hSw; go_simp⟩) hS ?_
    simp only [Act.put, List.setIfInBounds_toArray, List.set_cons_zero, List.set_cons_succ, List.getElem_toArray, List.getElem_cons_succ, List.getElem_cons_zero]
    refine set_take (i := 3) (v := .map (some m2)) rfl (by kernel_rfl) (by kernel_rfl) (by kernel_rfl) (by kernel_rfl) (fun _ _ _ h => h) (Or.inl ⟨by rfl, fun ww hSw => by obtain ⟨hs1, hs2, hs3⟩ := hSw; go_simp⟩) hS ?_
    simp only [Act.put, List.setIfInBounds_toArray, List.set_cons_zero, List.set_cons_succ, List.getElem_toArray, List.getElem_cons_succ, List.getElem_cons_zero]
    refine set_take (i := 4) (v := .agg ((thL t)).toArray) rfl (by kernel_rfl) (by kernel_rfl) (by kernel_rfl) (by kernel_rfl) (fun _ _ _ h => h) (yieldsIf_load_mid (by rfl) 125 (.tmp 6) rfl (g) (0) rfl ((thL t)) _ (fun ww hSw => hSw.2.1) Try.underlying125 rfl (by first | kernel_rfl | (rw [rfl]; kernel_rfl))) hS ?_
    simp only [Act.put, List.setIfInBounds_toArray, List.set_cons_zero, List.set_cons_succ, List.getElem_toArray, List.getElem_cons_succ, List.getElem_cons_zero]
    refine set_take (i := 5) (v := .int .i64 c) rfl (by kernel_rfl) (by kernel_rfl) (by kernel_rfl) (by kernel_rfl) (fun _ _ _ h => h) (Or.inl ⟨by rfl, fun ww hSw => by obtain ⟨hs1, hs2, hs3⟩ := hSw; go_simp⟩) hS ?_
    simp only [Act.put, List.setIfInBounds_toArray, List.set_cons_zero, List.set_cons_succ, List.getElem_toArray, List.getElem_cons_succ, List.getElem_cons_zero]
    refine set_take (i := 6) (v := .int .i64 (c + 1)) rfl (by kernel_rfl) (by kernel_rfl) (by kernel_rfl) (by kernel_rfl) (fun _ _ _ h => h) (Or.inl ⟨by rfl, fun ww hSw => by obtain ⟨hs1, hs2, hs3⟩ := hSw; go_simp⟩) hS ?_
    simp only [Act.put, List.setIfInBounds_toArray, List.set_cons_zero, List.set_cons_succ, List.getElem_toArray, List.getElem_cons_succ, List.getElem_cons_zero]
    refine set_only (i := 7) (by kernel_rfl) rfl (by rfl) (fun K hK => ?_)
    go_simp
    refine hK.out _ _ (fun _ => hS1) ?_
    clear hK K
    try simp only [Act.put, List.setIfInBounds_toArray, List.set_cons_zero, List.set_cons_succ, List.getElem_toArray, List.getElem_cons_succ, List.getElem_cons_zero]
    refine set_take (i := 8) (v := .int .i64 st) rfl (by kernel_rfl) (by kernel_rfl) (by kernel_rfl) (by kernel_rfl) (fun _ _ _ h => h) (Or.inl ⟨by rfl, fun ww hSw => by obtain ⟨hs1, hs2, hs3⟩ := hSw; go_simp⟩) hS1 ?_
    simp only [Act.put, List.setIfInBounds_toArray, List.set_cons_zero, List.set_cons_succ, List.getElem_toArray, List.getElem_cons_succ, List.getElem_cons_zero]
    refine set_tail 1 9 _ _ _ _ (by kernel_rfl) (by decide) ?_
    simp only [List.toList_toArray, List.drop_succ_cons, List.drop_zero]
    clear hS hS1
    go_wp2
    refine bodyPost_end (results_none rfl _ _ _) rfl ?_
    exact ⟨_, rfl, by rw [HT.out.2]; exact HV6.out⟩
end Go.Proofs.Ythopgmmodldljaa
