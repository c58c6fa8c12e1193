import Derived.Test.YthdlefbaegbldaaGreatDoorTga
namespace Go.Proofs.YthdlefbaegbldaaGreatDoor
open Go.RowKit Go.Shelf
attribute [local go_sem] Oper.semAt_some
set_option linter.unusedVariables false
set_option linter.unusedSimpArgs false
set_option maxRecDepth 100000
/-- A frame is given, and its place laid down in the inode. -/
theorem PuS.alloc {w v : World} {tb o p bb m N : Nat} {typ major minor links refs : Int} {size : Nat} {fr : List Nat} {B : Nat → Int} {i : Nat} {L : List Nat} (h : PuS w tb o p bb m N typ major minor links refs size fr B (i :: L)) (hl : fr.length < 64) (hR : Ram v p bb m N (zer B i) L) (hF : Fra p bb m w v) :
    PuS (v.setCell ⟨tb, o + 6 + fr.length, .none⟩ (.int .u64 (2147483648 + (i : Int) * 4096))) tb o p bb m N typ major minor links refs size (fr ++ [i]) (zer B i) L ∧ ChS (TM tb p bb m) w (v.setCell ⟨tb, o + 6 + fr.length, .none⟩ (.int .u64 (2147483648 + (i : Int) * 4096))) ∧
      ∀ j, (j < o ∨ o + 70 ≤ j) → (v.setCell ⟨tb, o + 6 + fr.length, .none⟩ (.int .u64 (2147483648 + (i : Int) * 4096))).cell? ⟨tb, j, .none⟩ = w.cell? ⟨tb, j, .none⟩ := by
  have hk : v.heap[tb]? = w.heap[tb]? := hF.block _ h.ind.lt h.ap.1 h.ap.2.1 h.ap.2.2
  have t1 : Trn tb v (v.setCell ⟨tb, o + 6 + fr.length, .none⟩ (.int .u64 (2147483648 + (i : Int) * 4096))) := Trn.setCell _ _ _ _
  have ho := h.o1
  refine ⟨⟨?_, (h.ind.keep hk).push i hl, ⟨?_, hR.nd, hR.lt, hR.thr⟩, fun j => ?_, h.ap, fun f hf => ?_, h.o1⟩, (ChS.ofFra hF (.inr (.inl rfl)) (.inr (.inr (.inl rfl))) (.inr (.inr (.inr rfl)))).trans (ChS.ofTrn t1 (.inl (.inl rfl))), fun j hj => ?_⟩
  · rw [set_oth _ _ _ _ _ (by omega), World.cell?_of_block hk]; exact h.ct
  · exact hR.mem.keep (t1.block _ hR.mem.plt (fun e => h.ap.1 e.symm)) (t1.block _ hR.mem.blt (fun e => h.ap.2.1 e.symm)) (t1.block _ hR.mem.mlt (fun e => h.ap.2.2 e.symm))
  · rw [World.frozen?_setCell, World.frozen?_of_block hk]; exact h.fz j
  · rcases List.mem_append.1 hf with hf | hf
    · have := h.fs f hf
      exact ⟨this.1, this.2.1, fun e => this.2.2 (List.mem_cons_of_mem _ e)⟩
    · obtain rfl : f = i := by simpa using hf
      have := h.ram.lt f (List.mem_cons_self ..)
      exact ⟨this.1, this.2, (List.nodup_cons.1 h.ram.nd).1⟩
  · rw [set_oth _ _ _ _ _ (by omega), World.cell?_of_block hk]
theorem PuS.size' {w : World} {tb o p bb m N : Nat} {typ major minor links refs : Int} {size : Nat} {fr : List Nat} {B : Nat → Int} {L : List Nat} (h : PuS w tb o p bb m N typ major minor links refs size fr B L) (s : Nat) :
    PuS (w.setCell ⟨tb, o + 5, .none⟩ (.int .i64 s)) tb o p bb m N typ major minor links refs s fr B L ∧ ChS (TM tb p bb m) w (w.setCell ⟨tb, o + 5, .none⟩ (.int .i64 s)) ∧ ∀ j, (j < o ∨ o + 70 ≤ j) → (w.setCell ⟨tb, o + 5, .none⟩ (.int .i64 s)).cell? ⟨tb, j, .none⟩ = w.cell? ⟨tb, j, .none⟩ := by
  have t1 : Trn tb w (w.setCell ⟨tb, o + 5, .none⟩ (.int .i64 s)) := Trn.setCell _ _ _ _
  have ho := h.o1
  refine ⟨⟨?_, h.ind.setSize s, ⟨?_, h.ram.nd, h.ram.lt, h.ram.thr⟩, fun j => ?_, h.ap, h.fs, h.o1⟩, ChS.ofTrn t1 (.inl (.inl rfl)), fun j hj => ?_⟩
  · rw [set_oth _ _ _ _ _ (by omega)]; exact h.ct
  · exact h.ram.mem.keep (t1.block _ h.ram.mem.plt (fun e => h.ap.1 e.symm)) (t1.block _ h.ram.mem.blt (fun e => h.ap.2.1 e.symm)) (t1.block _ h.ram.mem.mlt (fun e => h.ap.2.2 e.symm))
  · rw [World.frozen?_setCell]; exact h.fz j
  · rw [set_oth _ _ _ _ _ (by omega)]
/-- Everything that a put leaves. -/
def PutP (w : World) (tb o p bb m N : Nat) (typ major minor links refs : Int) (size : Nat) (fr : List Nat) (B : Nat → Int) (L : List Nat) (off : Nat) (xs : List Int) (e : Ending) (w' : World) : Prop :=
  (∃ v, e = .returned v) ∧ PuS w' tb o p bb m N typ major minor links refs (max size (off + xs.length)) (fr ++ L.take (nbl (max size (off + xs.length)) - nbl size)) (wrs (zals B (L.take (nbl (max size (off + xs.length)) - nbl size))) (pcs (fun k => (fr ++ L.take (nbl (max size (off + xs.length)) - nbl size)).getD k 0) (off + xs.length) xs.length off) xs) (L.drop (nbl (max size (off + xs.length)) - nbl size)) ∧
    ChS (TM tb p bb m) w w' ∧ ∀ j, (j < o ∨ o + 70 ≤ j) → w'.cell? ⟨tb, j, .none⟩ = w.cell? ⟨tb, j, .none⟩
set_option maxHeartbeats 8000000 in
theorem put_any {w : World} {tb o p bb m N : Nat} {typ major minor links refs : Int} {size : Nat} {fr : List Nat} {B : Nat → Int} {L : List Nat} (h : PuS w tb o p bb m N typ major minor links refs size fr B L) (hlen : fr.length = nbl size) (off : Nat) {q : Option Addr} {n c : Nat} {xs : List Int} (hB : Byt w q n c xs) (hy : ∀ y ∈ xs, 0 ≤ y ∧ y < 256) (hq : 0 < n → ∀ a, q = some a → ¬ TM tb p bb m a.block) (hoff : off ≤ size) (hmx : max size (off + xs.length) ≤ 262144) (hL : nbl (max size (off + xs.length)) - nbl size ≤ L.length) :
    Calls Tryz.prog 73 #[.pointer (some ⟨tb, 0, .none⟩), .pointer (some ⟨tb, o, .none⟩), .int .i64 off, .slice q n c] w (PutP w tb o p bb m N typ major minor links refs size fr B L off xs) := by
  have hxn := hB.1
  subst hxn
  obtain ⟨en, hen⟩ : ∃ en, en = max size (off + xs.length) := ⟨_, rfl⟩
  unfold PutP
  rw [← hen] at hmx hL ⊢
  obtain ⟨KK, hK⟩ : ∃ KK, KK = nbl en - nbl size := ⟨_, rfl⟩
  rw [← hK] at hL ⊢
  have hnn : nbl size ≤ nbl en := by unfold nbl; omega
  have hn64 := nbl_le en hmx
  obtain ⟨W, hW⟩ : ∃ W, W = (w.alloc (.cells #[.pointer (some ⟨tb, 0, .none⟩)] 24)).alloc (.cells #[.slice q xs.length c] 35) := ⟨_, rfl⟩
  have HB : Hid (Below w.heap.size w W ∧ W.heap.size = w.heap.size + 2 ∧ W.cell? ⟨w.heap.size, 0, .none⟩ = some (.pointer (some ⟨tb, 0, .none⟩)) ∧ W.cell? ⟨w.heap.size + 1, 0, .none⟩ = some (.slice q xs.length c) ∧ W.frozen? ⟨w.heap.size + 1, 0, .none⟩ = false) := by
    rw [hW]
    refine ⟨((Below.refl _ _).alloc (Nat.le_refl _) _).alloc (by simp) _, by simp, ?_, ?_, ?_⟩
    · rw [World.cell?_alloc_past _ _ _ (by simp), World.cell?_alloc_at _ _ _ _ rfl]; rfl
    · rw [World.cell?_alloc_at _ _ _ _ (by simp)]; rfl
    · have := froz_new (w.alloc (.cells #[.pointer (some ⟨tb, 0, .none⟩)] 24)) #[.slice q xs.length c] 35 0
      rwa [World.size_alloc] at this
  have HW : Hid ((w.alloc (.cells #[.pointer (some ⟨tb, 0, .none⟩)] 24)).alloc (.cells #[.slice q xs.length c] 35) = W) := hW.symm
  have HP : Hid (PuS W tb o p bb m N typ major minor links refs size fr B L) := h.below HB.out.1
  have HBY : Hid (Byt W q xs.length c xs ∧ (∀ y ∈ xs, 0 ≤ y ∧ y < 256) ∧ (0 < xs.length → ∀ a, q = some a → ¬ TM tb p bb m a.block) ∧ (0 < xs.length → ∀ a, q = some a → a.block < w.heap.size)) := ⟨byt_below hB HB.out.1, hy, hq, fun h0 a ha => by
    rcases hB.2.2.2 with h1 | ⟨b1, o1, h1, h2, _⟩
    · omega
    · rw [h1] at ha; injection ha with ha; subst ha; exact h2⟩
  have hcm := hB.2.1
  have hcx : c ≤ 9223372036854775807 := hB.2.2.1
  have htl := h.ind.lt
  have HTM : Hid (∀ i, TM tb p bb m i → i < w.heap.size) := fun i hi => by
    rcases hi with rfl | rfl | rfl | rfl
    · exact htl
    · exact h.ram.mem.plt
    · exact h.ram.mem.blt
    · exact h.ram.mem.mlt
  have e1 : max ((size : Nat) : Int) ((off : Int) + (xs.length : Nat)) = (en : Int) := by omega
  have HEN : Hid (en = max size (off + xs.length) ∧ KK = nbl en - nbl size) := ⟨hen, hK⟩
  have k5 := HP.out.ind.c5
  have kz := HB.out.2.2.2.1
  clear h hB hy hq hW hen hK
  refine (callsIn_wide (n := 3)).1 ?_
  refine callsIn_of_wp_marks Tryz.func73 rfl trivial ?_ rfl
  simp only [Tryz.ntmps73, List.size_toArray, List.length_cons, List.length_nil, Nat.reduceAdd, Nat.reduceSub, Array.replicate_succ, Array.replicate_zero, List.push_toArray, List.append_toArray, List.nil_append, List.cons_append]
  refine wpIn_wide.2 ?_
  go_upto_region 1 with fail
  rw [HW.out]
  clear HW
  go_region
  have b1 := blocksOf_any size (by omega)
  have b2 := blocksOf_any en (by omega)
  go_wp2_with (first | (go_at_call 88; refine (b1 _).mono ?_; rintro _ _ ⟨rfl, rfl⟩))
  clear k5 kz b1
  have HBX : Hid (∀ U, ChS (TM tb p bb m) W U → U.heap[w.heap.size]? = W.heap[w.heap.size]? ∧ U.heap[w.heap.size + 1]? = W.heap[w.heap.size + 1]?) := fun U hU => ⟨hU.block _ (by have := HB.out.2.1; omega) (fun e => by have := HTM.out _ e; omega), hU.block _ (by have := HB.out.2.1; omega) (fun e => by have := HTM.out _ e; omega)⟩
  go_loopw [9] (fun kk wr => ∃ d kd : Nat, d ≤ KK ∧ Hid (kd = nbl size + d) ∧ kk = .int .i64 kd ∧ Hid (PuS wr tb o p bb m N typ major minor links refs size (fr ++ L.take d) (zals B (L.take d)) (L.drop d) ∧ ChS (TM tb p bb m) W wr ∧ ∀ j, (j < o ∨ o + 70 ≤ j) → wr.cell? ⟨tb, j, .none⟩ = w.cell? ⟨tb, j, .none⟩)) (fun kk _ => (nbl en - intOf kk).toNat)
  case atStart =>
    refine ⟨0, nbl size, by omega, (rfl : nbl size = nbl size + 0), rfl, ?_, ChS.ofBelow (Below.refl _ _).drew, fun j hj => ?_⟩
    · have := HP.out.below (w' := W.drew) (Below.refl _ _).drew
      simpa [zals] using this
    · exact HB.out.1.cell (p := ⟨tb, j, .none⟩) htl
  case round =>
    obtain ⟨d, kd, hd, HKD, rfl, HI⟩ := hrel
    by_cases hlt : d < KK
    · have i1 : (kd : Int) < ((nbl en : Nat) : Int) := by have := HEN.out.2; have := HKD.out; omega
      have hdl : d < L.length := by omega
      have hLd : L.drop d = L[d] :: L.drop (d + 1) := List.drop_eq_getElem_cons hdl
      have hTd : L.take (d + 1) = L.take d ++ [L[d]] := by rw [List.take_add_one, List.getElem?_eq_getElem hdl]; rfl
      have hfl : (fr ++ L.take d).length = nbl size + d := by rw [List.length_append, List.length_take, hlen]; omega
      have hp0 := HI.out.1
      rw [hLd] at hp0
      have HP0 : Hid (PuS wr tb o p bb m N typ major minor links refs size (fr ++ L.take d) (zals B (L.take d)) (L[d] :: L.drop (d + 1))) := hp0
      have ca := alloc_some (w := wr.drew) L[d] (l := L.drop (d + 1)) (p := p) (b := bb) (m := m) (N := N) (B := zals B (L.take d)) ⟨hp0.ram.mem.below (Below.refl _ _).drew, hp0.ram.nd, hp0.ram.lt, hp0.ram.thr⟩
      have HTd : Hid (L.take (d + 1) = L.take d ++ [L[d]] ∧ (fr ++ L.take d).length = nbl size + d) := ⟨hTd, hfl⟩
      have hi64 : kd < 64 := by have := HEN.out.2; have := HKD.out; omega
      clear hLd hTd hfl hp0
      generalize L[d] = i at *
      go_wp2_with (first | (go_at_call 88; refine (b2 _).mono ?_; rintro _ X ⟨rfl, hX⟩; obtain rfl : wr = X := hX.symm))
      have hbx := HBX.out wr HI.out.2.1
      have j0 : (wr.drew.cell? ⟨w.heap.size, 0, .none⟩ = some (.pointer (some ⟨tb, 0, .none⟩)) ∧ wr.drew.cell? ⟨tb, 0, .none⟩ = some (.pointer (some ⟨p, 0, .none⟩))) := ⟨(World.cell?_of_block hbx.1).trans HB.out.2.2.1, HP0.out.ct⟩
      have i0 : (kd : Int) < 64 := by omega
      clear hbx
      refine wp_region_noPanic ?_
      refine wp_region_held_drew (S := fun U => (U.cell? ⟨w.heap.size, 0, .none⟩ = some (.pointer (some ⟨tb, 0, .none⟩)) ∧ U.cell? ⟨tb, 0, .none⟩ = some (.pointer (some ⟨p, 0, .none⟩)))) (by kernel_rfl) j0 (fun hHeld => ?_)
      refine wpAnyH_take (i := 0) (v := (.pointer (some ⟨tb, o, .none⟩))) rfl (by kernel_rfl) (by kernel_rfl) (by kernel_rfl) (fun _ _ _ h => h) (Or.inl ⟨by rfl, fun ww hSw => by (try dsimp only at hSw); go_simp⟩) (by assumption) ?_
      simp only [Act.put, List.setIfInBounds_toArray, List.set_cons_zero, List.set_cons_succ, List.getElem_toArray, List.getElem_cons_succ, List.getElem_cons_zero]
      refine wpAnyH_take (i := 1) (v := (.int .i64 (kd : Int))) rfl (by kernel_rfl) (by kernel_rfl) (by kernel_rfl) (fun _ _ _ h => h) (Or.inl ⟨by rfl, fun ww hSw => by (try dsimp only at hSw); go_simp⟩) (by assumption) ?_
      simp only [Act.put, List.setIfInBounds_toArray, List.set_cons_zero, List.set_cons_succ, List.getElem_toArray, List.getElem_cons_succ, List.getElem_cons_zero]
      refine wpAnyH_take (i := 2) (v := (.pointer (some ⟨tb, 0, .none⟩))) rfl (by kernel_rfl) (by kernel_rfl) (by kernel_rfl) (fun _ _ _ h => h) (Or.inl ⟨by rfl, fun ww hSw => by (try dsimp only at hSw); go_simp⟩) (by assumption) ?_
      simp only [Act.put, List.setIfInBounds_toArray, List.set_cons_zero, List.set_cons_succ, List.getElem_toArray, List.getElem_cons_succ, List.getElem_cons_zero]
      refine wpAnyH_take (i := 3) (v := (.pointer (some ⟨tb, 0, .none⟩))) rfl (by kernel_rfl) (by kernel_rfl) (by kernel_rfl) (fun _ _ _ h => h) (Or.inl ⟨by rfl, fun ww hSw => by (try dsimp only at hSw); go_simp⟩) (by assumption) ?_
      simp only [Act.put, List.setIfInBounds_toArray, List.set_cons_zero, List.set_cons_succ, List.getElem_toArray, List.getElem_cons_succ, List.getElem_cons_zero]
      refine wpAnyH_take (i := 4) (v := (.pointer (some ⟨tb, 0, .none⟩))) rfl (by kernel_rfl) (by kernel_rfl) (by kernel_rfl) (fun _ _ _ h => h) (Or.inl ⟨by rfl, fun ww hSw => by (try dsimp only at hSw); go_simp⟩) (by assumption) ?_
      simp only [Act.put, List.setIfInBounds_toArray, List.set_cons_zero, List.set_cons_succ, List.getElem_toArray, List.getElem_cons_succ, List.getElem_cons_zero]
      refine wpAnyH_take (i := 5) (v := (.pointer (some ⟨p, 0, .none⟩))) rfl (by kernel_rfl) (by kernel_rfl) (by kernel_rfl) (fun _ _ _ h => h) (Or.inl ⟨by rfl, fun ww hSw => by (try dsimp only at hSw); go_simp⟩) (by assumption) ?_
      simp only [Act.put, List.setIfInBounds_toArray, List.set_cons_zero, List.set_cons_succ, List.getElem_toArray, List.getElem_cons_succ, List.getElem_cons_zero]
      refine wpAnyH_take (i := 10) (v := (.pointer (some ⟨tb, o, .none⟩))) rfl (by kernel_rfl) (by kernel_rfl) (by kernel_rfl) (fun _ _ _ h => h) (Or.inl ⟨by rfl, fun ww hSw => by (try dsimp only at hSw); go_simp⟩) (by assumption) ?_
      simp only [Act.put, List.setIfInBounds_toArray, List.set_cons_zero, List.set_cons_succ, List.getElem_toArray, List.getElem_cons_succ, List.getElem_cons_zero]
      refine wpAnyH_take (i := 11) (v := (.pointer (some ⟨tb, o + 6, .none⟩))) rfl (by kernel_rfl) (by kernel_rfl) (by kernel_rfl) (fun _ _ _ h => h) (Or.inl ⟨by rfl, fun ww hSw => by (try dsimp only at hSw); go_simp⟩) (by assumption) ?_
      simp only [Act.put, List.setIfInBounds_toArray, List.set_cons_zero, List.set_cons_succ, List.getElem_toArray, List.getElem_cons_succ, List.getElem_cons_zero]
      refine wpAnyH_ready (rs := [6]) (by kernel_rfl) (by simp) ?_
      refine AllReadyH.cons rfl (fun K hK => ?_) AllReadyH.nil
      go_simp
      refine ca.mono ?_
      rintro _ V ⟨rfl, hRV, hFV⟩
      have hFV : Fra p bb m wr V := ⟨hFV.os, hFV.tape, hFV.output, hFV.size, hFV.block⟩
      have hA := HP0.out.alloc (by rw [HTd.out.2]; have := HKD.out; omega) hRV hFV
      rw [HTd.out.2, ← HKD.out] at hA
      have hzA : V.heap[w.heap.size]? = wr.heap[w.heap.size]? := hFV.block w.heap.size (by have := HI.out.2.1.size; have := HB.out.2.1; omega) (fun e => by have := HTM.out p (.inr (.inl rfl)); omega) (fun e => by have := HTM.out bb (.inr (.inr (.inl rfl))); omega) (fun e => by have := HTM.out m (.inr (.inr (.inr rfl))); omega)
      have kV : (V.cell? ⟨w.heap.size, 0, .none⟩ = some (.pointer (some ⟨tb, 0, .none⟩)) ∧ V.cell? ⟨tb, 0, .none⟩ = some (.pointer (some ⟨p, 0, .none⟩))) := ⟨(World.cell?_of_block hzA).trans j0.1, (World.cell?_of_block (hFV.block _ HP0.out.ind.lt HP0.out.ap.1 HP0.out.ap.2.1 HP0.out.ap.2.2)).trans j0.2⟩
      have HA : Hid (PuS (V.setCell ⟨tb, o + 6 + kd, .none⟩ (.int .u64 (2147483648 + (i : Int) * 4096))) tb o p bb m N typ major minor links refs size (fr ++ L.take (d + 1)) (zals B (L.take (d + 1))) (L.drop (d + 1)) ∧ ChS (TM tb p bb m) W (V.setCell ⟨tb, o + 6 + kd, .none⟩ (.int .u64 (2147483648 + (i : Int) * 4096))) ∧ ∀ j, (j < o ∨ o + 70 ≤ j) → (V.setCell ⟨tb, o + 6 + kd, .none⟩ (.int .u64 (2147483648 + (i : Int) * 4096))).cell? ⟨tb, j, .none⟩ = w.cell? ⟨tb, j, .none⟩) := by
        refine ⟨?_, HI.out.2.1.trans hA.2.1, fun j hj => (hA.2.2 j hj).trans (HI.out.2.2 j hj)⟩
        rw [HTd.out.1, zals_push, ← List.append_assoc]
        exact hA.1
      have cV : V.cell? ⟨tb, o + 6 + kd, .none⟩ = some (.int .u64 (blk (fr ++ L.take d) kd)) := (World.cell?_of_block (hFV.block _ HP0.out.ind.lt HP0.out.ap.1 HP0.out.ap.2.1 HP0.out.ap.2.2)).trans (HP0.out.ind.cb kd hi64)
      have fV : V.frozen? ⟨tb, o + 6 + kd, .none⟩ = false := by
        rw [World.frozen?_of_block (hFV.block _ HP0.out.ind.lt HP0.out.ap.1 HP0.out.ap.2.1 HP0.out.ap.2.2)]; exact HP0.out.fz _
      clear hRV hFV hA ca hzA
      refine hK.out _ _ kV (fun hHeld => ?_)
      clear hK K
      try simp only [Act.put, List.setIfInBounds_toArray, List.set_cons_zero, List.set_cons_succ, List.getElem_toArray, List.getElem_cons_succ, List.getElem_cons_zero]
      refine wpAnyH_take (i := 7) (v := (.tuple #[.int .u64 (2147483648 + (i : Int) * 4096), .bool true])) rfl (by kernel_rfl) (by kernel_rfl) (by kernel_rfl) (fun _ _ _ h => h) (Or.inl ⟨by rfl, fun ww hSw => by (try dsimp only at hSw); go_simp⟩) (by assumption) ?_
      simp only [Act.put, List.setIfInBounds_toArray, List.set_cons_zero, List.set_cons_succ, List.getElem_toArray, List.getElem_cons_succ, List.getElem_cons_zero]
      refine wpAnyH_take (i := 8) (v := (.int .u64 (2147483648 + (i : Int) * 4096))) rfl (by kernel_rfl) (by kernel_rfl) (by kernel_rfl) (fun _ _ _ h => h) (Or.inl ⟨by rfl, fun ww hSw => by (try dsimp only at hSw); go_simp⟩) (by assumption) ?_
      simp only [Act.put, List.setIfInBounds_toArray, List.set_cons_zero, List.set_cons_succ, List.getElem_toArray, List.getElem_cons_succ, List.getElem_cons_zero]
      refine wpAnyH_take (i := 9) (v := (.bool true)) rfl (by kernel_rfl) (by kernel_rfl) (by kernel_rfl) (fun _ _ _ h => h) (Or.inl ⟨by rfl, fun ww hSw => by (try dsimp only at hSw); go_simp⟩) (by assumption) ?_
      simp only [Act.put, List.setIfInBounds_toArray, List.set_cons_zero, List.set_cons_succ, List.getElem_toArray, List.getElem_cons_succ, List.getElem_cons_zero]
      refine wpAnyH_take (i := 12) (v := (.pointer (some ⟨tb, o + 6 + kd, .none⟩))) rfl (by kernel_rfl) (by kernel_rfl) (by kernel_rfl) (fun _ _ _ h => h) (Or.inl ⟨by rfl, fun ww hSw => by (try dsimp only at hSw); go_simp⟩) (by assumption) ?_
      simp only [Act.put, List.setIfInBounds_toArray, List.set_cons_zero, List.set_cons_succ, List.getElem_toArray, List.getElem_cons_succ, List.getElem_cons_zero]
      refine wpAnyH_ready (rs := [13]) (by kernel_rfl) (by simp) ?_
      refine AllReadyH.cons rfl (fun K hK => ?_) AllReadyH.nil
      go_simp
      have kX : ((V.setCell ⟨tb, o + 6 + kd, .none⟩ (.int .u64 (2147483648 + (i : Int) * 4096))).cell? ⟨w.heap.size, 0, .none⟩ = some (.pointer (some ⟨tb, 0, .none⟩)) ∧ (V.setCell ⟨tb, o + 6 + kd, .none⟩ (.int .u64 (2147483648 + (i : Int) * 4096))).cell? ⟨tb, 0, .none⟩ = some (.pointer (some ⟨p, 0, .none⟩))) := by
        have ho := HP0.out.o1
        exact ⟨(World.cell?_setCell_other _ _ _ _ (by intro hh; injection hh with hh; omega)).trans kV.1, (set_oth _ _ _ _ _ (by omega)).trans kV.2⟩
      clear kV cV fV
      generalize V.setCell ⟨tb, o + 6 + kd, .none⟩ (.int .u64 (2147483648 + (i : Int) * 4096)) = X at *
      refine hK.out _ _ kX (fun hHeld => ?_)
      clear hK K
      try simp only [Act.put, List.setIfInBounds_toArray, List.set_cons_zero, List.set_cons_succ, List.getElem_toArray, List.getElem_cons_succ, List.getElem_cons_zero]
      refine wpAnyH_done (by kernel_rfl) ?_ _
      refine NoPanic.normal ?_
      go_wp2
      exact ⟨⟨d + 1, kd + 1, by omega, (by have := HKD.out; omega : kd + 1 = nbl size + (d + 1)), by simp, HA.out⟩, by simp only [intOf]; omega⟩
    · obtain rfl : d = KK := by omega
      have i1 : ¬ ((kd : Int) < ((nbl en : Nat) : Int)) := by have := HEN.out.2; have := HKD.out; omega
      have c5 := HI.out.1.ind.c5
      have f5 := HI.out.1.fz (o + 5)
      go_upto_region 6 with (go_at_call 88; refine (b2 _).mono ?_; rintro _ X ⟨rfl, hX⟩; obtain rfl : wr = X := hX.symm)
      go_upto_region 7 with fail
      have hS := HI.out.1.size' en
      have H1 : Hid (PuS (wr.setCell ⟨tb, o + 5, .none⟩ (.int .i64 (en : Int))) tb o p bb m N typ major minor links refs en (fr ++ L.take d) (zals B (L.take d)) (L.drop d) ∧ ChS (TM tb p bb m) W (wr.setCell ⟨tb, o + 5, .none⟩ (.int .i64 (en : Int))) ∧ ∀ j, (j < o ∨ o + 70 ≤ j) → (wr.setCell ⟨tb, o + 5, .none⟩ (.int .i64 (en : Int))).cell? ⟨tb, j, .none⟩ = w.cell? ⟨tb, j, .none⟩) := ⟨hS.1, HI.out.2.1.trans hS.2.1, fun j hj => (hS.2.2 j hj).trans (HI.out.2.2 j hj)⟩
      clear hS c5 f5
      generalize (wr.setCell ⟨tb, o + 5, .none⟩ (.int .i64 (en : Int))) = X1 at *
      have hbx := HBX.out X1 H1.out.2.1
      have kz : X1.cell? ⟨w.heap.size + 1, 0, .none⟩ = some (.slice q xs.length c) := (World.cell?_of_block hbx.2).trans HB.out.2.2.2.1
      have HBB : Hid (X1.cell? ⟨w.heap.size, 0, .none⟩ = some (.pointer (some ⟨tb, 0, .none⟩)) ∧ X1.cell? ⟨w.heap.size + 1, 0, .none⟩ = some (.slice q xs.length c) ∧ X1.frozen? ⟨w.heap.size + 1, 0, .none⟩ = false ∧ w.heap.size + 2 ≤ X1.heap.size) := ⟨(World.cell?_of_block hbx.1).trans HB.out.2.2.1, kz, (World.frozen?_of_block hbx.2).trans HB.out.2.2.2.2, by have := H1.out.2.1.size; have := HB.out.2.1; omega⟩
      clear hbx
      have cp := pieces_any X1 tb o off xs.length
      go_wp2_with fail
      refine cp.mono ?_
      rintro _ Y ⟨rfl, hY, hzY, yo, yl, yi⟩
      clear cp kz b2
      have HPU : Hid (PuS Y tb o p bb m N typ major minor links refs en (fr ++ L.take d) (zals B (L.take d)) (L.drop d)) := H1.out.1.below hY
      have HYO : Hid (∀ j, (j < o ∨ o + 70 ≤ j) → Y.cell? ⟨tb, j, .none⟩ = w.cell? ⟨tb, j, .none⟩) := fun j hj => (hY.cell (p := ⟨tb, j, .none⟩) H1.out.1.ind.lt).trans (H1.out.2.2 j hj)
      have HYB : Hid (Y.cell? ⟨w.heap.size, 0, .none⟩ = some (.pointer (some ⟨tb, 0, .none⟩)) ∧ Y.cell? ⟨w.heap.size + 1, 0, .none⟩ = some (.slice q xs.length c) ∧ Y.frozen? ⟨w.heap.size + 1, 0, .none⟩ = false) := ⟨(hY.cell (p := ⟨w.heap.size, 0, .none⟩) (by have := HBB.out.2.2.2; show w.heap.size < _; omega)).trans HBB.out.1, (hY.cell (p := ⟨w.heap.size + 1, 0, .none⟩) (by have := HBB.out.2.2.2; show w.heap.size + 1 < _; omega)).trans HBB.out.2.1, (hY.frozen (p := ⟨w.heap.size + 1, 0, .none⟩) (by have := HBB.out.2.2.2; show w.heap.size + 1 < _; omega)).trans HBB.out.2.2.1⟩
      have HYC : Hid (ChS (TM tb p bb m) W Y) := H1.out.2.1.trans (ChS.ofBelow hY)
      have hfl : (fr ++ L.take d).length = nbl en := by rw [List.length_append, List.length_take, hlen]; have := HEN.out.2; omega
      have HFL : Hid ((fr ++ L.take d).length = nbl en) := hfl
      have hbl : ∀ k, k * 4096 < off + xs.length → (fr ++ L.take d)[k]? = some ((fr ++ L.take d).getD k 0) := fun k hk => by
        have : k < (fr ++ L.take d).length := by rw [hfl]; have := HEN.out.1; unfold nbl; omega
        rw [List.getElem?_eq_getElem this]
        simp [List.getD_eq_getElem?_getD, List.getElem?_eq_getElem this]
      have HBL : Hid (∀ k, k * 4096 < off + xs.length → (fr ++ L.take d)[k]? = some ((fr ++ L.take d).getD k 0)) := hbl
      have n2 := HPU.out.ram.mem.n2
      have hfr : ∀ k, (fr ++ L.take d).getD k 0 < 4096 := fun k => by
        rw [List.getD_eq_getElem?_getD]
        cases hk : (fr ++ L.take d)[k]? with
        | none => simp
        | some f => have := (HPU.out.fs f (List.mem_of_getElem? hk)).2.1; simp; omega
      have PCB : Pcb Y (X1.heap.size + 1) (X1.heap.size + 1 + 1) X1.heap.size tb o off xs.length (fun k => (fr ++ L.take d).getD k 0) := ⟨yo, yl, yi, fun k hk => by
        have h64 : k < 64 := by have := HEN.out.1; omega
        rw [HPU.out.ind.cb k h64, blk_at (hbl k hk)]⟩
      have hseq := pieces_seq PCB 2 (by have := HEN.out.1; omega) hfr ⟨by omega, by omega, by omega, HPU.out.ind.lt⟩
      have HSZ : Hid (w.heap.size + 2 ≤ X1.heap.size ∧ Y.heap.size = X1.heap.size + 3) := ⟨HBB.out.2.2.2, hzY⟩
      have htb : tb < X1.heap.size := H1.out.1.ind.lt
      clear PCB hfr hbl hfl yo yl yi hzY
      obtain ⟨PL, hPL⟩ : ∃ PL, PL = pcs (fun k => (fr ++ L.take d).getD k 0) (off + xs.length) xs.length off := ⟨_, rfl⟩
      rw [← hPL] at hseq
      have HPL : Hid (PL = pcs (fun k => (fr ++ L.take d).getD k 0) (off + xs.length) xs.length off) := hPL
      clear hPL
      obtain ⟨g, go, hsrc⟩ : ∃ g go, 0 < xs.length → q = some ⟨g, go, .none⟩ ∧ g < w.heap.size ∧ ¬ TM tb p bb m g ∧ ∀ i x, xs[i]? = some x → W.cell? ⟨g, go + i, .none⟩ = some (.int .u8 x) := by
        rcases HBY.out.1.2.2.2 with h0 | ⟨b1, o1, h1, h2, h3⟩
        · exact ⟨0, 0, fun h => by omega⟩
        · exact ⟨b1, o1, fun hp => ⟨h1, HBY.out.2.2.2 hp _ h1, HBY.out.2.2.1 hp _ h1, h3⟩⟩
      have HSRC : Hid (0 < xs.length → q = some ⟨g, go, .none⟩ ∧ g < w.heap.size ∧ ¬ TM tb p bb m g ∧ ∀ i x, xs[i]? = some x → W.cell? ⟨g, go + i, .none⟩ = some (.int .u8 x)) := hsrc
      clear hsrc
      have HI0 : Hid (IR Y tb o p bb m N (w.heap.size + 1) g go typ major minor links refs en (fr ++ L.take d) (zals B (L.take d)) (L.drop d) xs [] Y) :=
        ⟨HPU.out, ChS.refl _ _, fun _ _ => rfl, ⟨q, c, HYB.out.2.1, by simp [sumS]; exact hcm, hcx, fun h0 => by simpa [sumS] using (HSRC.out (by simpa [sumS] using h0)).1⟩, HYB.out.2.2, ⟨HPU.out.ind.lt, HPU.out.ram.mem.plt, HPU.out.ram.mem.blt, HPU.out.ram.mem.mlt, by have := HSZ.out; omega⟩⟩
      have hzt : ¬ TM tb p bb m (w.heap.size + 1) := fun e => by have := HTM.out _ e; omega
      have HSEQ : Hid (SeqL Fence.wide 2 Tryz.prog 109 #[.pointer (some ⟨X1.heap.size + 1, 0, .none⟩), .pointer (some ⟨X1.heap.size + 1 + 1, 0, .none⟩), .pointer (some ⟨X1.heap.size, 0, .none⟩)] pcE (KpP (X1.heap.size + 1) (X1.heap.size + 1 + 1) X1.heap.size tb) PL Y) := hseq
      clear hseq hY
      go_wp2_with fail
      refine (wpIn_wide (n := 3)).1 ?_
      refine range_list (α := Nat × Nat) rfl (by omega) (gf := 109) (lb := #[.pointer (some ⟨X1.heap.size + 1, 0, .none⟩), .pointer (some ⟨X1.heap.size + 1 + 1, 0, .none⟩), .pointer (some ⟨X1.heap.size, 0, .none⟩)]) rfl trivial (enters_of Tryz.func109 (by kernel_rfl) rfl) (Below.refl _ _) HSEQ.out KpP.trans (fun A l o' hl => ⟨World.putObj_heap_other (by have := HSZ.out; omega), World.putObj_heap_other (by have := HSZ.out; omega), World.putObj_heap_other (by have := HSZ.out; omega), World.putObj_heap_other (by have := HSZ.out; omega)⟩) (fun _ => rfl)
        (IR Y tb o p bb m N (w.heap.size + 1) g go typ major minor links refs en (fr ++ L.take d) (zals B (L.take d)) (L.drop d) xs) (IR.own Y tb o p bb m N (w.heap.size + 1) g go typ major minor links refs en (fr ++ L.take d) (zals B (L.take d)) (L.drop d) xs) HI0.out ?aa ?assign ?body ?done
      case assign =>
        intro l x A K hK
        simp only [pcE]
        gi_wp2
        exact hK
      case body =>
        rintro l pre ⟨x1, x2⟩ A hA hpre
        rw [HPL.out] at hpre
        obtain ⟨h1, h2, tt, ht, hx1, h5⟩ := pcs_mem _ _ _ _ _ _ (Nat.le_refl _) hpre
        simp only at h1 h2 hx1 h5
        have hff := HBL.out (tt / 4096) (by omega)
        generalize (fr ++ L.take d).getD (tt / 4096) 0 = ff at hff hx1
        have hfm : ff ∈ fr ++ L.take d := List.mem_of_getElem? hff
        generalize hrr : tt % 4096 = rr at *
        obtain ⟨q0, c0, bx, bc, bm, bq⟩ := hA.bx
        have hrem : 0 < xs.length - sumS pre := by omega
        have hq0 := bq hrem
        subst hq0
        obtain ⟨rem, hre⟩ : ∃ rem, rem = xs.length - sumS pre := ⟨_, rfl⟩
        obtain ⟨ga, hga⟩ : ∃ ga, ga = go + sumS pre := ⟨_, rfl⟩
        obtain ⟨cc, hcc⟩ : ∃ cc, cc = c0 := ⟨_, rfl⟩
        rw [← hre, ← hga, ← hcc] at bx
        rw [← hre, ← hcc] at bc
        rw [← hcc] at bm
        obtain ⟨s1, s2, s3, s4⟩ := HSRC.out (by omega)
        have hgA : A.heap[g]? = W.heap[g]? := by
          have e1 := hA.ch.block g (by have := HSZ.out; omega) (fun e => by
            rcases e with e | e
            · exact s3 e
            · omega)
          exact e1.trans (HYC.out.block g (by have := HB.out.2.1; omega) s3)
        have hld := hA.pu.held hfm h1 h5
        rw [← hx1] at hld
        have cw := write_ok (hA.pu.ram.mem.below (w' := A.drew) (Below.refl _ _).drew) x1 x2 h1 hld.1 hld.2 g ga cc (fun i => (xs.drop (sumS pre)).getD i 0) (fun i => by
          rw [List.getD_eq_getElem?_getD]
          cases hk : (xs.drop (sumS pre))[i]? with
          | none => simp
          | some y => simp; exact HBY.out.2.1 y (List.mem_of_mem_drop (List.mem_of_getElem? hk))) (fun i hi => by
          have hlt : sumS pre + i < xs.length := by omega
          have e1 := s4 (sumS pre + i) _ (List.getElem?_eq_getElem hlt)
          show A.cell? _ = _
          rw [World.cell?_of_block hgA, hga, Nat.add_assoc, e1]
          simp [List.getD_eq_getElem?_getD, List.getElem?_drop, List.getElem?_eq_getElem hlt])
        rw [range_take _ _ (by rw [List.length_drop]; omega)] at cw
        have HSTEP : Hid (∀ V, Mem V p bb m N (over (wrs (zals B (L.take d)) pre xs) x1 ((xs.drop (sumS pre)).take x2)) (adr (L.drop d)) (hdL N (L.drop d)) (N - (L.drop d).length) → Fra p bb m A V → KeepsFrom Y.heap.size A (V.setCell ⟨w.heap.size + 1, 0, .none⟩ (.slice (cutp (some ⟨g, ga, .none⟩) cc x2) (rem - x2) (cc - x2))) ∧ KpP (X1.heap.size + 1) (X1.heap.size + 1 + 1) X1.heap.size tb A (V.setCell ⟨w.heap.size + 1, 0, .none⟩ (.slice (cutp (some ⟨g, ga, .none⟩) cc x2) (rem - x2) (cc - x2))) ∧ IR Y tb o p bb m N (w.heap.size + 1) g go typ major minor links refs en (fr ++ L.take d) (zals B (L.take d)) (L.drop d) xs (pre ++ [(x1, x2)]) (V.setCell ⟨w.heap.size + 1, 0, .none⟩ (.slice (cutp (some ⟨g, ga, .none⟩) cc x2) (rem - x2) (cc - x2)))) := by
          intro V hM hF
          have hs := hA.step (V := V) (x := (x1, x2)) (f := ff) (r := rr) hx1 hfm (by simp only; omega) h1 h5 hzt hM hF (q := cutp (some ⟨g, ga, .none⟩) cc x2) (c := cc - x2) (by simp only; omega) (fun h0 => by
            simp only at h0
            rw [cutp, if_neg (by omega), Option.map_some, le_addr_add, hga])
          simp only [← hre] at hs
          obtain ⟨k1, k2, k3⟩ := hs
          have a1 := HTM.out p (.inr (.inl rfl))
          have a2 := HTM.out bb (.inr (.inr (.inl rfl)))
          have a3 := HTM.out m (.inr (.inr (.inr rfl)))
          have a4 := HSZ.out
          exact ⟨k1, ⟨k2 _ (by omega) (by omega) (by omega) (by omega) (by omega), k2 _ (by omega) (by omega) (by omega) (by omega) (by omega), k2 _ (by omega) (by omega) (by omega) (by omega) (by omega), k2 _ (by omega) HPU.out.ap.1 HPU.out.ap.2.1 HPU.out.ap.2.2 (fun e => hzt (.inl e.symm))⟩, k3⟩
        have kA : (A.drew.cell? ⟨w.heap.size, 0, .none⟩ = some (.pointer (some ⟨tb, 0, .none⟩)) ∧ A.drew.cell? ⟨tb, 0, .none⟩ = some (.pointer (some ⟨p, 0, .none⟩)) ∧ A.drew.cell? ⟨w.heap.size + 1, 0, .none⟩ = some (.slice (some ⟨g, ga, .none⟩) rem cc)) := ⟨(World.cell?_of_block (hA.ch.block w.heap.size (by have := HSZ.out; omega) (fun e => by
          rcases e with e | e
          · have := HTM.out _ e; omega
          · omega))).trans HYB.out.1, hA.pu.ct, bx⟩
        have kf : A.frozen? ⟨w.heap.size + 1, 0, .none⟩ = false := hA.fz
        have HKV : Hid (∀ V, Fra p bb m A V → (V.cell? ⟨w.heap.size, 0, .none⟩ = some (.pointer (some ⟨tb, 0, .none⟩)) ∧ V.cell? ⟨tb, 0, .none⟩ = some (.pointer (some ⟨p, 0, .none⟩)) ∧ V.cell? ⟨w.heap.size + 1, 0, .none⟩ = some (.slice (some ⟨g, ga, .none⟩) rem cc)) ∧ V.frozen? ⟨w.heap.size + 1, 0, .none⟩ = false) := fun V hF => by
          have a1 := HTM.out p (.inr (.inl rfl))
          have a2 := HTM.out bb (.inr (.inr (.inl rfl)))
          have a3 := HTM.out m (.inr (.inr (.inr rfl)))
          have a4 := HSZ.out
          have a5 := hA.ch.size
          have b1 := hF.block w.heap.size (by omega) (by omega) (by omega) (by omega)
          have b2 := hF.block tb hA.pu.ind.lt hA.pu.ap.1 hA.pu.ap.2.1 hA.pu.ap.2.2
          have b3 := hF.block (w.heap.size + 1) (by omega) (by omega) (by omega) (by omega)
          exact ⟨⟨(World.cell?_of_block b1).trans kA.1, (World.cell?_of_block b2).trans kA.2.1, (World.cell?_of_block b3).trans kA.2.2⟩, (World.frozen?_of_block b3).trans kf⟩
        have ca := cutat (some ⟨g, ga, .none⟩) rem cc
        have ct := cut_to (some ⟨g, ga, .none⟩) rem cc x2 (by omega)
        rw [show cutp (some ⟨g, ga, .none⟩) cc 0 = some ⟨g, ga, .none⟩ by rw [cutp, if_neg (by omega), Option.map_some, le_addr_add]; rfl] at ct
        have cf := cut_from (some ⟨g, ga, .none⟩) rem cc x2 (by omega)
        have ik : IntKind.i64.wrap (x2 : Int) = x2 := by simp only [IntKind.wrap, IntKind.bits, IntKind.signed]; simp; omega
        clear hA hld hgA bx bc bm bq hcc hga hre hpre hff s1 s2 s3 s4 hrr ht h2 h5 hrem hx1
        gi_wp2
        refine wpIn_region_held (S := (fun U : World => (U.cell? ⟨w.heap.size, 0, .none⟩ = some (.pointer (some ⟨tb, 0, .none⟩)) ∧ U.cell? ⟨tb, 0, .none⟩ = some (.pointer (some ⟨p, 0, .none⟩)) ∧ U.cell? ⟨w.heap.size + 1, 0, .none⟩ = some (.slice (some ⟨g, ga, .none⟩) rem cc)))) (by kernel_rfl) (no_defer_of (by kernel_rfl)) (fun hL => by obtain ⟨_, _, hL⟩ := hL; first | exact hL | (obtain ⟨h, _⟩ := hL; cases h)) kA (fun hHeld => ?_)
        refine wpAnyH_take (i := 0) (v := (.pointer (some ⟨tb, 0, .none⟩))) rfl (by kernel_rfl) (by kernel_rfl) (by kernel_rfl) (fun _ _ _ h => h) (Or.inl ⟨by rfl, fun ww hSw => by (try dsimp only at hSw); go_simp⟩) (by assumption) ?_
        simp only [Act.put, List.setIfInBounds_toArray, List.set_cons_zero, List.set_cons_succ, List.getElem_toArray, List.getElem_cons_succ, List.getElem_cons_zero]
        refine wpAnyH_take (i := 1) (v := (.pointer (some ⟨tb, 0, .none⟩))) rfl (by kernel_rfl) (by kernel_rfl) (by kernel_rfl) (fun _ _ _ h => h) (Or.inl ⟨by rfl, fun ww hSw => by (try dsimp only at hSw); go_simp⟩) (by assumption) ?_
        simp only [Act.put, List.setIfInBounds_toArray, List.set_cons_zero, List.set_cons_succ, List.getElem_toArray, List.getElem_cons_succ, List.getElem_cons_zero]
        refine wpAnyH_take (i := 2) (v := (.pointer (some ⟨tb, 0, .none⟩))) rfl (by kernel_rfl) (by kernel_rfl) (by kernel_rfl) (fun _ _ _ h => h) (Or.inl ⟨by rfl, fun ww hSw => by (try dsimp only at hSw); go_simp⟩) (by assumption) ?_
        simp only [Act.put, List.setIfInBounds_toArray, List.set_cons_zero, List.set_cons_succ, List.getElem_toArray, List.getElem_cons_succ, List.getElem_cons_zero]
        refine wpAnyH_take (i := 3) (v := (.pointer (some ⟨p, 0, .none⟩))) rfl (by kernel_rfl) (by kernel_rfl) (by kernel_rfl) (fun _ _ _ h => h) (Or.inl ⟨by rfl, fun ww hSw => by (try dsimp only at hSw); go_simp⟩) (by assumption) ?_
        simp only [Act.put, List.setIfInBounds_toArray, List.set_cons_zero, List.set_cons_succ, List.getElem_toArray, List.getElem_cons_succ, List.getElem_cons_zero]
        refine wpAnyH_take (i := 4) (v := (.int .u64 (2147483648 + (x1 : Int)))) rfl (by kernel_rfl) (by kernel_rfl) (by kernel_rfl) (fun _ _ _ h => h) (Or.inl ⟨by rfl, fun ww hSw => by (try dsimp only at hSw); go_simp⟩) (by assumption) ?_
        simp only [Act.put, List.setIfInBounds_toArray, List.set_cons_zero, List.set_cons_succ, List.getElem_toArray, List.getElem_cons_succ, List.getElem_cons_zero]
        refine wpAnyH_take (i := 5) (v := (.slice (some ⟨g, ga, .none⟩) rem cc)) rfl (by kernel_rfl) (by kernel_rfl) (by kernel_rfl) (fun _ _ _ h => h) (Or.inl ⟨by rfl, fun ww hSw => by (try dsimp only at hSw); go_simp⟩) (by assumption) ?_
        simp only [Act.put, List.setIfInBounds_toArray, List.set_cons_zero, List.set_cons_succ, List.getElem_toArray, List.getElem_cons_succ, List.getElem_cons_zero]
        refine wpAnyH_take (i := 6) (v := (.int .i64 (x2 : Int))) rfl (by kernel_rfl) (by kernel_rfl) (by kernel_rfl) (fun _ _ _ h => h) (Or.inl ⟨by rfl, fun ww hSw => by (try dsimp only at hSw); go_simp⟩) (by assumption) ?_
        simp only [Act.put, List.setIfInBounds_toArray, List.set_cons_zero, List.set_cons_succ, List.getElem_toArray, List.getElem_cons_succ, List.getElem_cons_zero]
        refine wpAnyH_take (i := 7) (v := (.slice (some ⟨g, ga, .none⟩) x2 cc)) rfl (by kernel_rfl) (by kernel_rfl) (by kernel_rfl) (fun _ _ _ h => h) (Or.inl ⟨by rfl, fun ww hSw => by (try dsimp only at hSw); go_simp⟩) (by assumption) ?_
        simp only [Act.put, List.setIfInBounds_toArray, List.set_cons_zero, List.set_cons_succ, List.getElem_toArray, List.getElem_cons_succ, List.getElem_cons_zero]
        refine wpAnyH_ready (rs := [8]) (by kernel_rfl) (by simp) ?_
        refine AllReadyH.cons rfl (fun K hK => ?_) AllReadyH.nil
        go_simp
        refine cw.mono ?_
        rintro _ V ⟨rfl, hMV, hFV⟩
        have hFV : Fra p bb m A V := ⟨hFV.os, hFV.tape, hFV.output, hFV.size, hFV.block⟩
        have kV := HKV.out V hFV
        have HV := HSTEP.out V hMV hFV
        have HVV : Hid (KeepsFrom Y.heap.size A (V.setCell ⟨w.heap.size + 1, 0, .none⟩ (.slice (cutp (some ⟨g, ga, .none⟩) cc x2) (rem - x2) (cc - x2))) ∧ KpP (X1.heap.size + 1) (X1.heap.size + 1 + 1) X1.heap.size tb A (V.setCell ⟨w.heap.size + 1, 0, .none⟩ (.slice (cutp (some ⟨g, ga, .none⟩) cc x2) (rem - x2) (cc - x2))) ∧ IR Y tb o p bb m N (w.heap.size + 1) g go typ major minor links refs en (fr ++ L.take d) (zals B (L.take d)) (L.drop d) xs (pre ++ [(x1, x2)]) (V.setCell ⟨w.heap.size + 1, 0, .none⟩ (.slice (cutp (some ⟨g, ga, .none⟩) cc x2) (rem - x2) (cc - x2)))) := HV
        clear hMV hFV cw HV
        refine hK.out _ _ kV.1 (fun hHeld => ?_)
        clear hK K
        try simp only [Act.put, List.setIfInBounds_toArray, List.set_cons_zero, List.set_cons_succ, List.getElem_toArray, List.getElem_cons_succ, List.getElem_cons_zero]
        refine wpAnyH_done (by kernel_rfl) ?_ _
        have v1 := kV.1.2.2
        have v2 := kV.2
        clear kV kA kf
        gi_wp2
        exact HVV.out
      case done =>
        rintro D A hD hA hK
        have HA : Hid (IR Y tb o p bb m N (w.heap.size + 1) g go typ major minor links refs en (fr ++ L.take d) (zals B (L.take d)) (L.drop d) xs PL A) := hA
        clear hA
        go_wp2
        gi_wp2
        refine ⟨by simp, .inl ⟨_, _, rfl, run_takeDeferred hK, ?_⟩⟩
        have hI2 := (IR.own Y tb o p bb m N (w.heap.size + 1) g go typ major minor links refs en (fr ++ L.take d) (zals B (L.take d)) (L.drop d) xs).putObj (.deferred none) HA.out hD hK rfl
        refine ⟨_, results_none rfl _ _ _, ⟨_, rfl⟩, ?_, ?_, fun j hj => (hI2.oth j hj).trans (HYO.out j hj)⟩
        · have := hI2.pu
          rw [HPL.out] at this
          exact this
        · exact ((ChS.ofBelow HB.out.1).trans HYC.out).past hI2.ch (fun i e => by
            rcases e with e | e
            · exact .inl e
            · exact .inr (by omega))
end Go.Proofs.YthdlefbaegbldaaGreatDoor
