import Derived.Test.YtblmkkhiojbcjaaGreatGf
namespace Go.Proofs.YtblmkkhiojbcjaaGreat
open Go Go.RowKit
set_option linter.unusedVariables false
set_option linter.unusedSimpArgs false
attribute [local go_sem] Oper.semAt_some
theorem look_info : ∃ i z, Tryz.prog.info? 99 = some i ∧ i.zero = some z ∧ i.size = 3 ∧ i.bytes = 24 ∧ z.cells.size = 3 := info_of 99 3 24 (by kernel_rfl) (by kernel_rfl)
/-- The pages as Look tells them. -/
def lkP (fr : Nat → Nat) (c : Nat → Int) (P : Nat) : List Pg := (List.range P).map fun (i : Nat) => ((i : Int), ad (fr i), bits .and .u64 (toP (ad (fr i)) (c i)) 30)
/-- What Look comes to. -/
def LkP (w : World) (n P : Nat) (xs : List Int) (fr : Nat → Nat) (c : Nat → Int) (e : Ending) (w' : World) : Prop := ∃ g cp ys q cq, e = .returned (.tuple #[.slice (some ⟨g, 0, .none⟩) n cp, .slice q P cq]) ∧ (ys.Perm xs ∧ ys.Pairwise (· ≤ ·)) ∧ w'.ownsRow w.heap.size 23 1 (.slice (some ⟨g, 0, .none⟩) n cp) n (wv ys) ∧ w'.ownsRow w.heap.size 99 3 (.slice q P cq) P (pcs (lkP fr c P)) ∧ Below w.heap.size w w'
theorem own_low {W : World} {base base' e size n : Nat} {v : Value} {xs : List Value} (h : W.ownsRow base e size v n xs) (hb : base' ≤ base) : W.ownsRow base' e size v n xs :=
  ⟨h.1, h.2.imp id fun ⟨g, cap, cur, h1, h2, h3⟩ => ⟨g, cap, cur, h1, Nat.le_trans hb h2, h3⟩⟩
theorem own_shape {W : World} {base e size n : Nat} {v : Value} {xs : List Value} (h : W.ownsRow base e size v n xs) : ∃ q cq, v = .slice q n cq := by
  rcases h.2 with ⟨h1, h2⟩ | ⟨g, cap, cur, h1, _⟩
  · exact ⟨none, 0, by rw [h1, h2]⟩
  · exact ⟨_, _, h1⟩
section
variable {w : World} {s p b m N r P ft : Nat} {size : Int} {B : Nat → Int} {L : List Nat} {F : Nat → Option Nat} {lf : Nat → Nat → Int} {fr : Nat → Nat} {c : Nat → Int}
theorem SpL.lkF {i : Nat} (h : SpL N r ft B L F lf fr c (List.range P)) (hN : N ≤ 4096) (hi : i < P) : 0 ≤ toP (ad (fr i)) (c i) ∧ toP (ad (fr i)) (c i) < 18014398509481984 ∧ toP (ad (fr i)) (c i) / 1024 * 4096 = ad (fr i) := by
  have hq := h.pag (List.mem_range.2 hi)
  have hval := hq.val hN
  have := hq.cb
  have := hq.qb.1
  rw [hval]
  unfold ad
  omega
theorem lvA_lkF (h : SpL N r ft B L F lf fr c (List.range P)) (hN : N ≤ 4096) : (lvA fr c P).map Go.Proofs.YtblmkkhiojbcjaaGreat.lkF = lkP fr c P := by
  unfold lvA lkP
  rw [List.map_map]
  refine List.map_congr_left fun i hi => ?_
  have := h.lkF hN (List.mem_range.1 hi)
  simp only [Function.comp, Go.Proofs.YtblmkkhiojbcjaaGreat.lkF, this.2.2]
  congr 1
  omega
theorem SpT.ndlen (h : SpT w s p b m N r P ft size B L F lf fr c) : (ndl r (evs F lf 0)).length = nodesF F + 1 := by
  rw [ndl_nodes h.tab.pt r]
  unfold nodesF
  omega
set_option maxRecDepth 100000 in
set_option maxHeartbeats 4000000 in
theorem slook_any (h : SpT w s p b m N r P ft size B L F lf fr c) (hn : nodesF F + 1 ≤ 12) : Calls Tryz.prog 21 #[.pointer (some ⟨s, 0, .none⟩)] w (LkP w (nodesF F + 1) P (ndl r (evs F lf 0)) fr c) := by
  have hnl := h.ndlen
  have hpm := h.pm
  obtain ⟨n, hnn⟩ : ∃ n, n = nodesF F + 1 := ⟨_, rfl⟩
  rw [← hnn] at hn hnl ⊢
  have hn1 : 1 ≤ n := by omega
  obtain ⟨xs, hxs⟩ : ∃ xs, xs = ndl r (evs F lf 0) := ⟨_, rfl⟩
  rw [← hxs] at hnl ⊢
  obtain ⟨W0, hW0⟩ : ∃ W0, W0 = w.alloc (.cells #[.slice none 0 0] 44) := ⟨_, rfl⟩
  obtain ⟨Bn, hBn⟩ : ∃ Bn, Bn = w.heap.size := ⟨_, rfl⟩
  have b0 : Below w.heap.size w W0 := by rw [hW0]; exact below1 _ _
  have s0 : W0.heap.size = Bn + 1 := by rw [hW0, hBn]; simp
  have q0 : W0.cell? ⟨Bn, 0, .none⟩ = some (.slice none 0 0) := by rw [hW0, hBn]; simp
  have f0 : W0.frozen? ⟨Bn, 0, .none⟩ = false := by rw [hW0, hBn]; simp
  have S0 := h.below b0
  have c43 := made_sp S0.sp
  have c59 := nodes_any (w := W0.drew) S0.ram.drew S0.tab.pt S0.tab.rt
  rw [← hxs, hnl] at c59
  have k0 := S0.sp.c0
  have k1 := S0.sp.c1
  have HW : Hid (SpT w s p b m N r P ft size B L F lf fr c ∧ Below w.heap.size w W0 ∧ W0.heap.size = Bn + 1 ∧ W0.cell? ⟨Bn, 0, .none⟩ = some (.slice none 0 0) ∧ W0.frozen? ⟨Bn, 0, .none⟩ = false ∧ Bn = w.heap.size) := ⟨h, b0, s0, q0, f0, hBn⟩
  have HX : Hid (xs.length = n ∧ xs = ndl r (evs F lf 0)) := ⟨hnl, hxs⟩
  clear h b0 s0 q0 f0 S0 hnl hxs hnn
  refine (callsIn_wide (n := 3)).1 ?_
  refine callsIn_of_wp_marks Tryz.func21 rfl trivial ?_ rfl
  refine wpIn_wide.2 ?_
  simp only [Tryz.ntmps21, List.size_toArray, List.length_cons, List.length_nil, Nat.reduceAdd, Nat.reduceSub, Array.replicate_succ, Array.replicate_zero, List.push_toArray, List.append_toArray, List.nil_append, List.cons_append]
  go_upto_region 1 with fail
  rw [← hW0, ← hBn]
  clear hW0 hBn
  go_upto_region 3 with (go_at_call 43; refine c43.mono ?_; rintro _ w2 ⟨rfl, e2⟩; obtain rfl : W0 = w2 := e2.symm; clear e2)
  have kS : W0.drew.cell? ⟨s, 0, .none⟩ = some (.pointer (some ⟨p, 0, .none⟩)) ∧ W0.drew.cell? ⟨s, 1, .none⟩ = some (.int .u64 (ad r)) := ⟨k0, k1⟩
  refine region_only ?_
  refine wp_region_held_drew (S := (fun U => U.cell? ⟨s, 0, .none⟩ = some (.pointer (some ⟨p, 0, .none⟩)) ∧ U.cell? ⟨s, 1, .none⟩ = some (.int .u64 (ad r)))) (by kernel_rfl) kS (fun hHeld => ?_)
  refine wpAnyH_take (i := 0) (v := (.pointer (some ⟨s, 0, .none⟩))) rfl (by kernel_rfl) (by kernel_rfl) (by kernel_rfl) (fun _ _ _ h => by cases h.1) (Or.inl ⟨by rfl, fun ww hSw => by (try dsimp only at hSw); go_simp⟩) (by assumption) ?_
  simp only [Act.put, List.setIfInBounds_toArray, List.set_cons_zero, List.set_cons_succ, List.getElem_toArray, List.getElem_cons_succ, List.getElem_cons_zero]
  refine wpAnyH_take (i := 1) (v := (.pointer (some ⟨s, 0, .none⟩))) rfl (by kernel_rfl) (by kernel_rfl) (by kernel_rfl) (fun _ _ _ h => by cases h.1) (Or.inl ⟨by rfl, fun ww hSw => by (try dsimp only at hSw); go_simp⟩) (by assumption) ?_
  simp only [Act.put, List.setIfInBounds_toArray, List.set_cons_zero, List.set_cons_succ, List.getElem_toArray, List.getElem_cons_succ, List.getElem_cons_zero]
  refine wpAnyH_take (i := 2) (v := (.pointer (some ⟨s, 0, .none⟩))) rfl (by kernel_rfl) (by kernel_rfl) (by kernel_rfl) (fun _ _ _ h => by cases h.1) (Or.inl ⟨by rfl, fun ww hSw => by (try dsimp only at hSw); go_simp⟩) (by assumption) ?_
  simp only [Act.put, List.setIfInBounds_toArray, List.set_cons_zero, List.set_cons_succ, List.getElem_toArray, List.getElem_cons_succ, List.getElem_cons_zero]
  refine wpAnyH_take (i := 3) (v := (.pointer (some ⟨s, 0, .none⟩))) rfl (by kernel_rfl) (by kernel_rfl) (by kernel_rfl) (fun _ _ _ h => by cases h.1) (Or.inl ⟨by rfl, fun ww hSw => by (try dsimp only at hSw); go_simp⟩) (by assumption) ?_
  simp only [Act.put, List.setIfInBounds_toArray, List.set_cons_zero, List.set_cons_succ, List.getElem_toArray, List.getElem_cons_succ, List.getElem_cons_zero]
  refine wpAnyH_take (i := 4) (v := (.pointer (some ⟨p, 0, .none⟩))) rfl (by kernel_rfl) (by kernel_rfl) (by kernel_rfl) (fun _ _ _ h => by cases h.1) (Or.inl ⟨by rfl, fun ww hSw => by (try dsimp only at hSw); go_simp⟩) (by assumption) ?_
  simp only [Act.put, List.setIfInBounds_toArray, List.set_cons_zero, List.set_cons_succ, List.getElem_toArray, List.getElem_cons_succ, List.getElem_cons_zero]
  refine wpAnyH_take (i := 5) (v := (.pointer (some ⟨s, 0, .none⟩))) rfl (by kernel_rfl) (by kernel_rfl) (by kernel_rfl) (fun _ _ _ h => by cases h.1) (Or.inl ⟨by rfl, fun ww hSw => by (try dsimp only at hSw); go_simp⟩) (by assumption) ?_
  simp only [Act.put, List.setIfInBounds_toArray, List.set_cons_zero, List.set_cons_succ, List.getElem_toArray, List.getElem_cons_succ, List.getElem_cons_zero]
  refine wpAnyH_take (i := 6) (v := (.pointer (some ⟨s, 0, .none⟩))) rfl (by kernel_rfl) (by kernel_rfl) (by kernel_rfl) (fun _ _ _ h => by cases h.1) (Or.inl ⟨by rfl, fun ww hSw => by (try dsimp only at hSw); go_simp⟩) (by assumption) ?_
  simp only [Act.put, List.setIfInBounds_toArray, List.set_cons_zero, List.set_cons_succ, List.getElem_toArray, List.getElem_cons_succ, List.getElem_cons_zero]
  refine wpAnyH_take (i := 7) (v := (.pointer (some ⟨s, 0, .none⟩))) rfl (by kernel_rfl) (by kernel_rfl) (by kernel_rfl) (fun _ _ _ h => by cases h.1) (Or.inl ⟨by rfl, fun ww hSw => by (try dsimp only at hSw); go_simp⟩) (by assumption) ?_
  simp only [Act.put, List.setIfInBounds_toArray, List.set_cons_zero, List.set_cons_succ, List.getElem_toArray, List.getElem_cons_succ, List.getElem_cons_zero]
  refine wpAnyH_take (i := 8) (v := (.pointer (some ⟨s, 1, .none⟩))) rfl (by kernel_rfl) (by kernel_rfl) (by kernel_rfl) (fun _ _ _ h => by cases h.1) (Or.inl ⟨by rfl, fun ww hSw => by (try dsimp only at hSw); go_simp⟩) (by assumption) ?_
  simp only [Act.put, List.setIfInBounds_toArray, List.set_cons_zero, List.set_cons_succ, List.getElem_toArray, List.getElem_cons_succ, List.getElem_cons_zero]
  refine wpAnyH_take (i := 9) (v := (.int .u64 (ad r))) rfl (by kernel_rfl) (by kernel_rfl) (by kernel_rfl) (fun _ _ _ h => by cases h.1) (Or.inl ⟨by rfl, fun ww hSw => by (try dsimp only at hSw); go_simp⟩) (by assumption) ?_
  simp only [Act.put, List.setIfInBounds_toArray, List.set_cons_zero, List.set_cons_succ, List.getElem_toArray, List.getElem_cons_succ, List.getElem_cons_zero]
  refine wpAnyH_ready (rs := [10]) (by kernel_rfl) (by simp) ?_
  refine AllReadyH.cons rfl (fun K hK => ?_) AllReadyH.nil
  go_simp
  go_at_call 59
  refine (c59).mono ?_
  rintro _ w3 ⟨g, cp, rfl, o3, b3⟩
  have b3 : Below W0.heap.size W0 w3 := (Below.refl _ _).drew.trans b3
  have H3 : Hid (w3.ownsRow W0.heap.size 23 1 (.slice (some ⟨g, 0, .none⟩) n cp) n (wv xs) ∧ Below W0.heap.size W0 w3) := ⟨o3, b3⟩
  have kS3 : w3.cell? ⟨s, 0, .none⟩ = some (.pointer (some ⟨p, 0, .none⟩)) ∧ w3.cell? ⟨s, 1, .none⟩ = some (.int .u64 (ad r)) := ⟨(b3.cell (p := ⟨s, 0, .none⟩) (lt_of_cell k0)).trans k0, (b3.cell (p := ⟨s, 1, .none⟩) (lt_of_cell k1)).trans k1⟩
  clear o3 b3 c59
  refine hK.out _ _ kS3 (fun hHeld => ?_)
  clear hK K
  try simp only [Act.put, List.setIfInBounds_toArray, List.set_cons_zero, List.set_cons_succ, List.getElem_toArray, List.getElem_cons_succ, List.getElem_cons_zero]
  refine wpAnyH_take (i := 11) (v := (.slice (some ⟨g, 0, .none⟩) n cp)) rfl (by kernel_rfl) (by kernel_rfl) (by kernel_rfl) (fun _ _ _ h => by cases h.1) (Or.inl ⟨by rfl, fun ww hSw => by (try dsimp only at hSw); go_simp⟩) (by assumption) ?_
  simp only [Act.put, List.setIfInBounds_toArray, List.set_cons_zero, List.set_cons_succ, List.getElem_toArray, List.getElem_cons_succ, List.getElem_cons_zero]
  refine wpAnyH_done (by kernel_rfl) ?_ _
  refine ⟨rfl, ?_⟩
  go_upto_region 4 with fail
  have c60 := sort_small HX.out.1 ⟨hn1, hn⟩ H3.out.1
  unfold SoP at c60
  have H4 : Hid (Below w.heap.size w w3) := HW.out.2.1.trans (H3.out.2.mono HW.out.2.1.size)
  clear k0 k1
  go_upto_region 5 with (go_at_call 60; refine c60.mono ?_; rintro _ w4 ⟨rfl, ys, y1, y2, y3⟩; have H5 : Hid (ys.Perm xs ∧ ys.Pairwise (· ≤ ·) ∧ SrI w3 W0.heap.size g n cp ys w4) := ⟨y1, y2, y3⟩; clear y1 y2 y3 c60)
  have b4 : Below W0.heap.size W0 w4 := by
    have hg := own_lt H3.out.1
    have i4 := H5.out.2.2
    have b3 := H3.out.2
    exact ⟨i4.os.trans b3.os, i4.tape.trans b3.tape, i4.output.trans b3.output, Nat.le_trans b3.size i4.size, fun k hk => (i4.block k (Nat.lt_of_lt_of_le hk b3.size) (by omega)).trans (b3.block k hk)⟩
  have S4 : SpT w4 s p b m N r P ft size B L F lf fr c := (HW.out.1.below HW.out.2.1).below b4
  have k0 := S4.sp.c0
  have k1 := S4.sp.c1
  have kS : w4.drew.cell? ⟨s, 0, .none⟩ = some (.pointer (some ⟨p, 0, .none⟩)) ∧ w4.drew.cell? ⟨s, 1, .none⟩ = some (.int .u64 (ad r)) := ⟨k0, k1⟩
  obtain ⟨wd, hwd⟩ : ∃ wd, wd = w4.drew := ⟨_, rfl⟩
  obtain ⟨V, hV⟩ : ∃ V, V = ((wd.alloc (.cells #[.pointer (some ⟨p, 0, .none⟩)] 25)).alloc (.cells #[.int .u64 (ad r)] 23)) := ⟨_, rfl⟩
  obtain ⟨z1, hz1⟩ : ∃ z1, z1 = wd.heap.size := ⟨_, rfl⟩
  have hz4 : z1 = w4.heap.size := by rw [hz1, hwd]; rfl
  have bV : Below w4.heap.size w4 V := by rw [hV, hwd]; exact ((Below.refl _ _).drew.alloc (Nat.le_refl _) _).alloc (by simp) _
  have sV : V.heap.size = z1 + 2 := by rw [hV, hz1]; simp
  have v1 : V.cell? ⟨z1, 0, .none⟩ = some (.pointer (some ⟨p, 0, .none⟩)) := by rw [hV, hz1]; simp
  have v2 : V.cell? ⟨z1 + 1, 0, .none⟩ = some (.int .u64 (ad r)) := by rw [hV, hz1]; simp
  have SV := S4.below bV
  have hseq := fun k => leaves_seq SV.ram SV.tab.pt SV.tab.rt k _ _ v1 v2
  rw [SV.tab.leaves] at hseq
  have c61 := leaves_any p (ad r) wd
  rw [← hV, ← hz1, hwd] at c61
  have hBs : Bn < W0.heap.size := by have := HW.out.2.2.1; omega
  have hBV : V.cell? ⟨Bn, 0, .none⟩ = some (.slice none 0 0) ∧ V.frozen? ⟨Bn, 0, .none⟩ = false := by
    have hs := b4.size
    exact ⟨(bV.cell (p := ⟨Bn, 0, .none⟩) (by show Bn < w4.heap.size; omega)).trans ((b4.cell (p := ⟨Bn, 0, .none⟩) hBs).trans HW.out.2.2.2.1), (bV.frozen (p := ⟨Bn, 0, .none⟩) (by show Bn < w4.heap.size; omega)).trans ((b4.frozen (p := ⟨Bn, 0, .none⟩) hBs).trans HW.out.2.2.2.2.1)⟩
  have hI0 : LkI V Bn [] V := ⟨Nat.le_refl _, rfl, rfl, rfl, fun _ _ _ => rfl, ⟨_, hBV.1, World.ownsRow_nil V _ _ _⟩, hBV.2, fun y hy => (by cases hy)⟩
  have hpl : p < Bn ∧ b < Bn ∧ m < Bn := by rw [HW.out.2.2.2.2.2]; exact ⟨HW.out.1.ram.mem.plt, HW.out.1.ram.mem.blt, HW.out.1.ram.mem.mlt⟩
  have oV : V.ownsRow w.heap.size 23 1 (.slice (some ⟨g, 0, .none⟩) n cp) n (wv ys) := by
    have o4 := H5.out.2.2.own
    have hg := own_lt o4
    exact own_low (own_block o4 (bV.block g hg.2.1)) HW.out.2.1.size
  have hgV : g < V.heap.size ∧ g ≠ Bn := by
    have hg := own_lt H5.out.2.2.own
    have := bV.size
    omega
  have HV : Hid ((∀ k, SeqK k 98 #[.pointer (some ⟨z1, 0, .none⟩), .pointer (some ⟨z1 + 1, 0, .none⟩)] lvE (lvA fr c P ++ lvZ ft) p b m V) ∧ LkI V Bn [] V ∧ (p < Bn ∧ b < Bn ∧ m < Bn) ∧ V.ownsRow w.heap.size 23 1 (.slice (some ⟨g, 0, .none⟩) n cp) n (wv ys) ∧ (g < V.heap.size ∧ g ≠ Bn) ∧ SpL N r ft B L F lf fr c (List.range P) ∧ N ≤ 4096 ∧ Below W0.heap.size W0 V ∧ ys.Perm xs ∧ ys.Pairwise (· ≤ ·)) := ⟨hseq, hI0, hpl, oV, hgV, SV.tab, SV.ram.mem.n2, b4.trans (bV.mono b4.size), H5.out.1, H5.out.2.1⟩
  have HKV : Hid (V.cell? ⟨s, 0, .none⟩ = some (.pointer (some ⟨p, 0, .none⟩)) ∧ V.cell? ⟨s, 1, .none⟩ = some (.int .u64 (ad r))) := ⟨SV.sp.c0, SV.sp.c1⟩
  have hB : Bn < V.heap.size := by have := b4.size; have := bV.size; omega
  clear hseq hI0 hpl oV hgV SV v1 v2 bV hBV S4 b4 k0 k1 H5 H3 H4
  refine region_only ?_
  refine wp_region_held_drew (S := (fun U => U.cell? ⟨s, 0, .none⟩ = some (.pointer (some ⟨p, 0, .none⟩)) ∧ U.cell? ⟨s, 1, .none⟩ = some (.int .u64 (ad r)))) (by kernel_rfl) kS (fun hHeld => ?_)
  refine wpAnyH_take (i := 0) (v := (.pointer (some ⟨s, 0, .none⟩))) rfl (by kernel_rfl) (by kernel_rfl) (by kernel_rfl) (fun _ _ _ h => by cases h.1) (Or.inl ⟨by rfl, fun ww hSw => by (try dsimp only at hSw); go_simp⟩) (by assumption) ?_
  simp only [Act.put, List.setIfInBounds_toArray, List.set_cons_zero, List.set_cons_succ, List.getElem_toArray, List.getElem_cons_succ, List.getElem_cons_zero]
  refine wpAnyH_take (i := 1) (v := (.pointer (some ⟨s, 0, .none⟩))) rfl (by kernel_rfl) (by kernel_rfl) (by kernel_rfl) (fun _ _ _ h => by cases h.1) (Or.inl ⟨by rfl, fun ww hSw => by (try dsimp only at hSw); go_simp⟩) (by assumption) ?_
  simp only [Act.put, List.setIfInBounds_toArray, List.set_cons_zero, List.set_cons_succ, List.getElem_toArray, List.getElem_cons_succ, List.getElem_cons_zero]
  refine wpAnyH_take (i := 2) (v := (.pointer (some ⟨s, 0, .none⟩))) rfl (by kernel_rfl) (by kernel_rfl) (by kernel_rfl) (fun _ _ _ h => by cases h.1) (Or.inl ⟨by rfl, fun ww hSw => by (try dsimp only at hSw); go_simp⟩) (by assumption) ?_
  simp only [Act.put, List.setIfInBounds_toArray, List.set_cons_zero, List.set_cons_succ, List.getElem_toArray, List.getElem_cons_succ, List.getElem_cons_zero]
  refine wpAnyH_take (i := 3) (v := (.pointer (some ⟨s, 0, .none⟩))) rfl (by kernel_rfl) (by kernel_rfl) (by kernel_rfl) (fun _ _ _ h => by cases h.1) (Or.inl ⟨by rfl, fun ww hSw => by (try dsimp only at hSw); go_simp⟩) (by assumption) ?_
  simp only [Act.put, List.setIfInBounds_toArray, List.set_cons_zero, List.set_cons_succ, List.getElem_toArray, List.getElem_cons_succ, List.getElem_cons_zero]
  refine wpAnyH_take (i := 4) (v := (.pointer (some ⟨p, 0, .none⟩))) rfl (by kernel_rfl) (by kernel_rfl) (by kernel_rfl) (fun _ _ _ h => by cases h.1) (Or.inl ⟨by rfl, fun ww hSw => by (try dsimp only at hSw); go_simp⟩) (by assumption) ?_
  simp only [Act.put, List.setIfInBounds_toArray, List.set_cons_zero, List.set_cons_succ, List.getElem_toArray, List.getElem_cons_succ, List.getElem_cons_zero]
  refine wpAnyH_take (i := 5) (v := (.pointer (some ⟨s, 0, .none⟩))) rfl (by kernel_rfl) (by kernel_rfl) (by kernel_rfl) (fun _ _ _ h => by cases h.1) (Or.inl ⟨by rfl, fun ww hSw => by (try dsimp only at hSw); go_simp⟩) (by assumption) ?_
  simp only [Act.put, List.setIfInBounds_toArray, List.set_cons_zero, List.set_cons_succ, List.getElem_toArray, List.getElem_cons_succ, List.getElem_cons_zero]
  refine wpAnyH_take (i := 6) (v := (.pointer (some ⟨s, 0, .none⟩))) rfl (by kernel_rfl) (by kernel_rfl) (by kernel_rfl) (fun _ _ _ h => by cases h.1) (Or.inl ⟨by rfl, fun ww hSw => by (try dsimp only at hSw); go_simp⟩) (by assumption) ?_
  simp only [Act.put, List.setIfInBounds_toArray, List.set_cons_zero, List.set_cons_succ, List.getElem_toArray, List.getElem_cons_succ, List.getElem_cons_zero]
  refine wpAnyH_take (i := 7) (v := (.pointer (some ⟨s, 0, .none⟩))) rfl (by kernel_rfl) (by kernel_rfl) (by kernel_rfl) (fun _ _ _ h => by cases h.1) (Or.inl ⟨by rfl, fun ww hSw => by (try dsimp only at hSw); go_simp⟩) (by assumption) ?_
  simp only [Act.put, List.setIfInBounds_toArray, List.set_cons_zero, List.set_cons_succ, List.getElem_toArray, List.getElem_cons_succ, List.getElem_cons_zero]
  refine wpAnyH_take (i := 8) (v := (.pointer (some ⟨s, 1, .none⟩))) rfl (by kernel_rfl) (by kernel_rfl) (by kernel_rfl) (fun _ _ _ h => by cases h.1) (Or.inl ⟨by rfl, fun ww hSw => by (try dsimp only at hSw); go_simp⟩) (by assumption) ?_
  simp only [Act.put, List.setIfInBounds_toArray, List.set_cons_zero, List.set_cons_succ, List.getElem_toArray, List.getElem_cons_succ, List.getElem_cons_zero]
  refine wpAnyH_take (i := 9) (v := (.int .u64 (ad r))) rfl (by kernel_rfl) (by kernel_rfl) (by kernel_rfl) (fun _ _ _ h => by cases h.1) (Or.inl ⟨by rfl, fun ww hSw => by (try dsimp only at hSw); go_simp⟩) (by assumption) ?_
  simp only [Act.put, List.setIfInBounds_toArray, List.set_cons_zero, List.set_cons_succ, List.getElem_toArray, List.getElem_cons_succ, List.getElem_cons_zero]
  refine wpAnyH_ready (rs := [10]) (by kernel_rfl) (by simp) ?_
  refine AllReadyH.cons rfl (fun K hK => ?_) AllReadyH.nil
  go_simp
  go_at_call 61
  refine (c61).mono ?_
  rintro _ w5 ⟨rfl, e5⟩
  obtain rfl : V = w5 := e5.symm
  have kSV : V.cell? ⟨s, 0, .none⟩ = some (.pointer (some ⟨p, 0, .none⟩)) ∧ V.cell? ⟨s, 1, .none⟩ = some (.int .u64 (ad r)) := HKV.out
  clear e5 c61 hV hz1 hz4 hwd sV
  refine hK.out _ _ kSV (fun hHeld => ?_)
  clear hK K
  try simp only [Act.put, List.setIfInBounds_toArray, List.set_cons_zero, List.set_cons_succ, List.getElem_toArray, List.getElem_cons_succ, List.getElem_cons_zero]
  refine wpAnyH_done (by kernel_rfl) ?_ _
  refine ⟨rfl, ?_⟩
  go_wp2_with fail
  refine (wpIn_wide (n := 3)).1 (range_KB (id := 0) (α := Int × Int) (by omega) (gf := 98) (lb := #[.pointer (some ⟨z1, 0, .none⟩), .pointer (some ⟨z1 + 1, 0, .none⟩)]) rfl (enters_of Tryz.func98 (by kernel_rfl) rfl) (Below.refl _ _) (HV.out.1 2) (by have := HV.out.2.2.1; omega) (fun _ => rfl)
    (LkI V Bn) (LkG V Bn) (LkI.own hB) (LkI.gd hB) (fun s k W l o o' h hk _ hl _ _ => hk.put hB hl) HV.out.2.1 (LkX V Bn) (fun pre W l o o' h hl ho hc => h.put hB hl ho hc) (fun _ _ _ h hm => h.mv hB hm) (fun s k W l o o' h hk _ hl _ _ => hk.put hB hl)
    (fun x a' W => a' = { tmps := #[.pointer (some ⟨s, 0, .none⟩), undef, .slice (some ⟨g, 0, .none⟩) n cp, .pointer (some ⟨Bn, 0, .none⟩), .int .u64 x.1, .int .u64 x.2, .pointer (some ⟨s, 0, .none⟩), .bool true, .bool false, .pointer (some ⟨s, 0, .none⟩), .pointer (some ⟨s, 0, .none⟩), .pointer (some ⟨s, 0, .none⟩), .pointer (some ⟨s, 0, .none⟩), .pointer (some ⟨p, 0, .none⟩), .pointer (some ⟨s, 0, .none⟩), .pointer (some ⟨s, 0, .none⟩), .pointer (some ⟨s, 0, .none⟩), .pointer (some ⟨s, 1, .none⟩), .int .u64 (ad r), .slice (some ⟨g, 0, .none⟩) n cp, .slice (some ⟨g, 0, .none⟩) n cp, .tuple #[], .pointer (some ⟨s, 0, .none⟩), .pointer (some ⟨s, 0, .none⟩), .pointer (some ⟨s, 0, .none⟩), .pointer (some ⟨s, 0, .none⟩), .pointer (some ⟨p, 0, .none⟩), .pointer (some ⟨s, 0, .none⟩), .pointer (some ⟨s, 0, .none⟩), .pointer (some ⟨s, 0, .none⟩), .pointer (some ⟨s, 1, .none⟩), .int .u64 (ad r), .func (.func 98) #[] #[.pointer (some ⟨z1, 0, .none⟩), .pointer (some ⟨z1 + 1, 0, .none⟩)], .int .u64 x.1, .int .u64 x.2, undef, undef, undef, undef, undef, undef, undef, undef, undef, undef, undef, undef, undef, undef], defers := [] }) (fun x a' W l o o' h _ _ _ => h) ?assign ?body ?done ?left)
  case assign =>
    intro l' x U K hU hK
    simp only [lvE]
    gi_wp2
    exact hK _ _ (Below.refl _ _) rfl
  case done =>
    rintro D U hD hI hDd
    have := hI.low (274877898752, toP (ad ft) 198) (by unfold lvZ; simp)
    simp only at this
    omega
  case left =>
    rintro D U pre hD hpre ⟨q, x, rfl, hx, hI⟩ hDd
    have hq : q = lvA fr c P := pre_split (fun y hy => by obtain ⟨i, hi, rfl⟩ := List.mem_map.1 hy; have := List.mem_range.1 hi; simp only; omega) (fun y hy => by unfold lvZ at hy; simp at hy; rcases hy with rfl | rfl <;> simp only <;> omega) q x hI.low hx hpre
    subst hq
    obtain ⟨v, k1, k2⟩ := hI.row
    rw [lvA_lkF HV.out.2.2.2.2.2.1 HV.out.2.2.2.2.2.2.1] at k2
    have hlA : (lvA fr c P).length = P := by unfold lvA; simp
    rw [hlA] at k2
    obtain ⟨qq, cq, rfl⟩ := own_shape k2
    have kf := hI.frz
    have HI : Hid (LkI V Bn (lvA fr c P) U ∧ U.ownsRow V.heap.size 99 3 (.slice qq P cq) P (pcs (lkP fr c P)) ∧ V.heap.size ≤ D ∧ U.heap[D]? = some (.deferred (some []))) := ⟨hI, k2, hD, hDd⟩
    clear hI k2 hpre hx hD hDd
    go_wp2_with fail
    refine region_only ?_
    go_region
    refine ⟨rfl, ?_⟩
    go_wp2_with fail
    obtain ⟨U2, hU2⟩ : ∃ U2, U2 = (U.setCell ⟨Bn, 0, .none⟩ (.slice qq P cq)).drew := ⟨_, rfl⟩
    rw [← hU2]
    obtain ⟨hI, k2, hD, hDd⟩ := HI.out
    have hDB : D ≠ Bn := by omega
    have kb : ∀ k, k ≠ Bn → U2.heap[k]? = U.heap[k]? := fun k hk => by rw [hU2]; exact Below.heap_setCell U _ _ k hk
    have sz : U2.heap.size = U.heap.size := by rw [hU2]; show (U.setCell _ _).heap.size = _; simp
    have cB : U2.cell? ⟨Bn, 0, .none⟩ = some (.slice qq P cq) := by rw [hU2]; exact World.cell?_setCell_same' _ _ _ (by rw [k1]; rfl)
    have hO : U2.os = U.os ∧ U2.tape = U.tape ∧ U2.output = U.output := by rw [hU2]; exact ⟨rfl, rfl, rfl⟩
    have hD2 := (kb D hDB).trans hDd
    have hres : (U2.putObj D (.deferred none)).cell? ⟨Bn, 0, .none⟩ = some (.slice qq P cq) := (World.cell?_of_block (a := ⟨Bn, 0, .none⟩) (World.putObj_heap_other (by show Bn ≠ D; omega))).trans cB
    refine ⟨by simp, .inl ⟨_, _, rfl, run_takeDeferred hD2, ?_⟩⟩
    have kp : ∀ k, k ≠ Bn → k ≠ D → (U2.putObj D (.deferred none)).heap[k]? = U.heap[k]? := fun k h1 h2 => (World.putObj_heap_other h2).trans (kb k h1)
    have hw0 := HW.out
    refine ⟨.tuple #[.slice (some ⟨g, 0, .none⟩) n cp, .slice qq P cq], by simp [results, Tryz.results21, go_sem, hres], g, cp, ys, qq, cq, rfl, ⟨HV.out.2.2.2.2.2.2.2.2.1, HV.out.2.2.2.2.2.2.2.2.2⟩, ?_, ?_, ?_⟩
    · have hg := HV.out.2.2.2.2.1
      have hDg : g ≠ D := by omega
      exact own_block HV.out.2.2.2.1 ((kp g hg.2 hDg).trans (hI.block g hg.1 hg.2))
    · refine own_low (own_blk k2 (fun gg hgg _ => kp gg (fun e => ?_) (fun e => ?_))) (by have := hw0.2.1.size; have := HV.out.2.2.2.2.2.2.2.1.size; omega)
      · have := (own_cells k2 hgg).1; omega
      · obtain ⟨_, _, cur, t, f, h9⟩ := own_cells k2 hgg
        rw [e, hDd] at h9
        cases h9
    · have bb := HV.out.2.2.2.2.2.2.2.1
      have b9 := hw0.2.1
      have hs9 := hI.size
      have z9 := bb.size
      have z8 := b9.size
      refine ⟨hO.1.trans (hI.os.trans (bb.os.trans b9.os)), hO.2.1.trans (hI.tape.trans (bb.tape.trans b9.tape)), hO.2.2.trans (hI.output.trans (bb.output.trans b9.output)), ?_, fun k hk => ?_⟩
      · simp [World.putObj]
        omega
      · have hkB : k ≠ Bn := by rw [hw0.2.2.2.2.2]; omega
        rw [kp k hkB (by omega), hI.block k (by omega) hkB, bb.block k (by omega), b9.block k hk]
  case body =>
    rintro l' pre ⟨xa, xe⟩ a' U hI rfl hlen
    dsimp only
    obtain ⟨x, hxx⟩ : ∃ x : Int × Int, x = (xa, xe) := ⟨_, rfl⟩
    have e1 : x.1 = xa := by rw [hxx]
    have e2 : x.2 = xe := by rw [hxx]
    have HXX : Hid (x = (xa, xe)) := hxx
    rw [← hxx] at hlen ⊢
    clear hxx
    have hxl : x ∈ lvA fr c P ++ lvZ ft := hlen.subset (by simp)
    by_cases hxt : 274877894656 ≤ x.1
    · have HE : Hid (KeepsFrom V.heap.size U U ∧ KpG (LkG V Bn) p b m U U ∧ LkX V Bn (pre ++ [x]) U) := ⟨KeepsFrom.refl _ _, ⟨fun g o hg ho => ⟨ho, hg⟩, rfl, rfl, rfl, Nat.le_refl _⟩, pre, x, rfl, hxt, hI⟩
      have hxt2 : 274877894656 ≤ xa := by omega
      clear hI hlen hxl hxt e1 e2
      gi_wp2
      exact HE.out
    · have hxA : ∃ i, i < P ∧ x = ((i : Int) * 4096, toP (ad (fr i)) (c i)) := by
        rcases List.mem_append.1 hxl with h | h
        · obtain ⟨i, hi, rfl⟩ := List.mem_map.1 h
          exact ⟨i, List.mem_range.1 hi, rfl⟩
        · unfold lvZ at h
          simp at h
          rcases h with rfl | rfl <;> simp only at hxt <;> omega
      obtain ⟨i, hi, hxe⟩ := hxA
      have hfb := HV.out.2.2.2.2.2.1.lkF HV.out.2.2.2.2.2.2.1 hi
      have hx0 : 0 ≤ x.1 ∧ x.1 < 274877894656 := by rw [hxe]; simp only; omega
      have hx2 : 0 ≤ x.2 ∧ x.2 < 18014398509481984 := by rw [hxe]; exact ⟨hfb.1, hfb.2.1⟩
      have hplen : pre.length ≤ 4098 := by
        have h1 := hlen.length_le
        unfold lvA lvZ at h1
        simp at h1
        omega
      have c62 := fun W => frameOf_any xe (by omega) W
      obtain ⟨pgn, hpgn⟩ : ∃ pgn, pgn = xa / 4096 := ⟨_, rfl⟩
      obtain ⟨frm, hfrm⟩ : ∃ frm, frm = xe / 1024 * 4096 := ⟨_, rfl⟩
      obtain ⟨prm, hprm⟩ : ∃ prm, prm = bits .and .u64 xe 30 := ⟨_, rfl⟩
      rw [← hfrm] at c62
      have hpc : pc (lkF x) = [.int .u64 pgn, .int .u64 frm, .int .u64 prm] := by unfold pc lkF; rw [hpgn, hfrm, hprm, e1, e2]
      have hdv : IntKind.u64.wrap (xa.tdiv 4096) = pgn := by rw [Int.tdiv_eq_ediv_of_nonneg (by omega), IntKind.wrap_u64, hpgn]; omega
      obtain ⟨v, k1, k2⟩ := hI.row
      obtain ⟨i3, z3, hi3, hz3, hs3, hb3, hzs3⟩ := look_info
      obtain ⟨V1, hV1⟩ : ∃ V1, V1 = (U.alloc (.cells #[.int .u64 pgn, .int .u64 frm, .int .u64 prm] 99)).drew := ⟨_, rfl⟩
      have bV1 : Below U.heap.size U V1 := by rw [hV1]; exact (below1 U _).drew
      have cV1 : ∀ j u, [Value.int .u64 pgn, .int .u64 frm, .int .u64 prm][j]? = some u → V1.cell? ((⟨U.heap.size, 0, .none⟩ : Addr).add j) = some u := by rw [hV1]; exact three_new U _ _ _ _
      have kB : U.drew.cell? ⟨Bn, 0, .none⟩ = some v := k1
      have kB1 : V1.cell? ⟨Bn, 0, .none⟩ = some v := (bV1.cell (lt_of_cell k1)).trans k1
      have HOV : Hid (V1.ownsRow V.heap.size 99 3 v pre.length (pcs (pre.map lkF))) := own_blk k2 (fun g _ hg => bV1.block g hg)
      have hsW : V.heap.size ≤ V1.heap.size := Nat.le_trans hI.size bV1.size
      have oB : v.ownBlock ≠ some Bn := fun e => by have := (own_cells k2 e).1; omega
      have HST : Hid (∀ V2 v', V2.ownsRow V.heap.size 99 3 v' (pre.length + 1) (pcs (pre.map lkF) ++ [.int .u64 pgn, .int .u64 frm, .int .u64 prm]) → V1.grownBy V2 v.ownBlock → (v'.ownBlock = v.ownBlock ∨ v'.ownBlock = some V1.heap.size) → KeepsFrom V.heap.size U (V2.setCell ⟨Bn, 0, .none⟩ v') ∧ KpG (LkG V Bn) p b m U (V2.setCell ⟨Bn, 0, .none⟩ v') ∧ LkI V Bn (pre ++ [x]) (V2.setCell ⟨Bn, 0, .none⟩ v')) := fun V2 v' ho hg hor => by
        rw [← hpc] at ho
        exact hI.step (x := x) (Y := V.heap.size) hB k1 k2 bV1 ho hg hor ⟨by have := HV.out.2.2.1; omega, by have := HV.out.2.2.1; omega, by have := HV.out.2.2.1; omega, by have := HV.out.2.2.1; omega, by have := HV.out.2.2.1; omega, by have := HV.out.2.2.1; omega⟩ hx0.2
      have HBE : Hid (∀ V2 : World, V1.grownBy V2 v.ownBlock → V2.cell? ⟨Bn, 0, .none⟩ = some v ∧ V2.frozen? ⟨Bn, 0, .none⟩ = false) := fun V2 hg => by
        have hb := hg.block Bn (lt_of_cell kB1) (fun e => oB e.symm)
        exact ⟨(World.cell?_of_block (a := ⟨Bn, 0, .none⟩) hb).trans kB1, (World.frozen?_of_block (a := ⟨Bn, 0, .none⟩) hb).trans ((bV1.frozen (p := ⟨Bn, 0, .none⟩) (lt_of_cell k1)).trans hI.frz)⟩
      have hpr2 : bits .and .u64 xe 30 = prm := hprm.symm
      clear hprm
      have HV1 : Hid (V1 = (U.alloc (.cells #[.int .u64 pgn, .int .u64 frm, .int .u64 prm] 99)).drew) := hV1
      have HC1 : Hid (∀ j u, [Value.int .u64 pgn, .int .u64 frm, .int .u64 prm][j]? = some u → V1.cell? ((⟨U.heap.size, 0, .none⟩ : Addr).add j) = some u) := cV1
      have HVU : Hid (V.heap.size ≤ V1.heap.size) := hsW
      have hxn : ¬ 274877894656 ≤ xa := by omega
      clear hI k1 k2 hlen hxl hV1 hpc cV1 bV1 hsW hxe hfb oB hfrm hpgn e1 e2 hxt hx0 hx2
      gi_wp2
      refine wpIn_region_held (S := (fun _ : World => True)) (by kernel_rfl) (no_defer_of (by kernel_rfl)) (fun hL => by obtain ⟨_, _, hL⟩ := hL; first | exact hL | (rcases hL with ⟨h, _⟩ | ⟨h, _⟩ <;> cases h)) trivial (fun hHeld => ?_)
      refine wpAnyH_take (i := 1) (v := (.int .u64 xa)) rfl (by kernel_rfl) (by kernel_rfl) (by kernel_rfl) (fun _ _ _ h => h) (Or.inl ⟨by rfl, fun ww hSw => by (try dsimp only at hSw); go_simp⟩) (by assumption) ?_
      simp only [Act.put, List.setIfInBounds_toArray, List.set_cons_zero, List.set_cons_succ, List.getElem_toArray, List.getElem_cons_succ, List.getElem_cons_zero]
      refine wpAnyH_take (i := 2) (v := (.int .u64 pgn)) rfl (by kernel_rfl) (by kernel_rfl) (by kernel_rfl) (fun _ _ _ h => h) (Or.inl ⟨by rfl, fun ww hSw => by (try dsimp only at hSw); go_simp⟩) (by assumption) ?_
      simp only [Act.put, List.setIfInBounds_toArray, List.set_cons_zero, List.set_cons_succ, List.getElem_toArray, List.getElem_cons_succ, List.getElem_cons_zero]
      refine wpAnyH_take (i := 3) (v := (.int .u64 xe)) rfl (by kernel_rfl) (by kernel_rfl) (by kernel_rfl) (fun _ _ _ h => h) (Or.inl ⟨by rfl, fun ww hSw => by (try dsimp only at hSw); go_simp⟩) (by assumption) ?_
      simp only [Act.put, List.setIfInBounds_toArray, List.set_cons_zero, List.set_cons_succ, List.getElem_toArray, List.getElem_cons_succ, List.getElem_cons_zero]
      refine wpAnyH_take (i := 5) (v := (.int .u64 xe)) rfl (by kernel_rfl) (by kernel_rfl) (by kernel_rfl) (fun _ _ _ h => h) (Or.inl ⟨by rfl, fun ww hSw => by (try dsimp only at hSw); go_simp⟩) (by assumption) ?_
      simp only [Act.put, List.setIfInBounds_toArray, List.set_cons_zero, List.set_cons_succ, List.getElem_toArray, List.getElem_cons_succ, List.getElem_cons_zero]
      refine wpAnyH_take (i := 6) (v := (.int .u64 prm)) rfl (by kernel_rfl) (by kernel_rfl) (by kernel_rfl) (fun _ _ _ h => h) (Or.inl ⟨by rfl, fun ww hSw => by (try dsimp only at hSw); go_simp⟩) (by assumption) ?_
      simp only [Act.put, List.setIfInBounds_toArray, List.set_cons_zero, List.set_cons_succ, List.getElem_toArray, List.getElem_cons_succ, List.getElem_cons_zero]
      refine wpAnyH_ready (rs := [0, 4]) (by kernel_rfl) (by simp) ?_
      refine AllReadyH.cons rfl (fun K hK => ?_) (AllReadyH.cons rfl (fun K hK => ?_) AllReadyH.nil)
      · skip
        go_simp
        refine hK.out _ _ trivial (fun hHeld => ?_)
        clear hK K
        try simp only [Act.put, List.setIfInBounds_toArray, List.set_cons_zero, List.set_cons_succ, List.getElem_toArray, List.getElem_cons_succ, List.getElem_cons_zero]
        refine wpAnyH_ready (rs := [4]) (by kernel_rfl) (by simp) ?_
        refine AllReadyH.cons rfl (fun K hK => ?_) AllReadyH.nil
        go_simp
        go_at_call 62
        refine (c62 _).mono ?_
        rintro _ W4 ⟨rfl, e4⟩
        obtain rfl : U.drew = W4 := e4.symm
        refine hK.out _ _ trivial (fun hHeld => ?_)
        clear hK K
        try simp only [Act.put, List.setIfInBounds_toArray, List.set_cons_zero, List.set_cons_succ, List.getElem_toArray, List.getElem_cons_succ, List.getElem_cons_zero]
        refine wpAnyH_take (i := 7) (v := (.agg #[.int .u64 pgn, .int .u64 frm, .int .u64 prm])) rfl (by kernel_rfl) (by kernel_rfl) (by kernel_rfl) (fun _ _ _ h => h) (Or.inl ⟨by rfl, fun ww hSw => by (try dsimp only at hSw); go_simp⟩) (by assumption) ?_
        simp only [Act.put, List.setIfInBounds_toArray, List.set_cons_zero, List.set_cons_succ, List.getElem_toArray, List.getElem_cons_succ, List.getElem_cons_zero]
        refine wpAnyH_ready (rs := [8]) (by kernel_rfl) (by simp) ?_
        refine AllReadyH.cons rfl (fun K hK => ?_) AllReadyH.nil
        go_simp
        rw [← HV1.out]
        refine hK.out _ _ trivial (fun hHeld => ?_)
        clear hK K
        try simp only [Act.put, List.setIfInBounds_toArray, List.set_cons_zero, List.set_cons_succ, List.getElem_toArray, List.getElem_cons_succ, List.getElem_cons_zero]
        refine wpAnyH_ready (rs := [9]) (by kernel_rfl) (by simp) ?_
        refine AllReadyH.cons rfl (fun K hK => ?_) AllReadyH.nil
        refine step_append_at rfl (.tmp 37) (.tmp 45) 44 rfl V.heap.size 99 i3 z3 3 24 Tryz.underlying44 hi3 hz3 hs3 hb3 hzs3 (by decide) v pre.length (pcs (pre.map lkF)) (by simp [Act.eval, Act.put]) HOV.out ⟨U.heap.size, 0, .none⟩ 1 1 [.int .u64 pgn, .int .u64 frm, .int .u64 prm] (by simp [Act.eval, Act.put]) rfl HC1.out (fun u hu => by simp at hu; rcases hu with rfl | rfl | rfl <;> rfl) (by simp only [maxLen]; omega) (by omega) HVU.out ?_
        intro v' V2 own' grow fb
        obtain ⟨g', c', rfl⟩ : ∃ g' c', v' = .slice (some ⟨g', 0, .none⟩) (pre.length + 1) c' := by
          rcases own'.2 with ⟨_, h0⟩ | ⟨g', cap, cur, hv, _⟩
          · omega
          · exact ⟨g', cap, hv⟩
        have HP9 := HST.out V2 _ own' grow fb
        obtain ⟨v1, v2⟩ := HBE.out V2 grow
        clear own' grow fb
        refine hK.out _ _ trivial (fun hHeld => ?_)
        clear hK K
        try simp only [Act.put, List.setIfInBounds_toArray, List.set_cons_zero, List.set_cons_succ, List.getElem_toArray, List.getElem_cons_succ, List.getElem_cons_zero]
        refine wpAnyH_ready (rs := [10]) (by kernel_rfl) (by simp) ?_
        refine AllReadyH.cons rfl (fun K hK => ?_) AllReadyH.nil
        go_simp
        refine hK.out _ _ trivial (fun hHeld => ?_)
        clear hK K
        try simp only [Act.put, List.setIfInBounds_toArray, List.set_cons_zero, List.set_cons_succ, List.getElem_toArray, List.getElem_cons_succ, List.getElem_cons_zero]
        refine wpAnyH_done (by kernel_rfl) ?_ _
        have HP8 : Hid _ := HP9
        clear HP9 v1 v2
        gi_wp2
        exact HP8.out
      · skip
        go_simp
        go_at_call 62
        refine (c62 _).mono ?_
        rintro _ W4 ⟨rfl, e4⟩
        obtain rfl : U.drew = W4 := e4.symm
        refine hK.out _ _ trivial (fun hHeld => ?_)
        clear hK K
        try simp only [Act.put, List.setIfInBounds_toArray, List.set_cons_zero, List.set_cons_succ, List.getElem_toArray, List.getElem_cons_succ, List.getElem_cons_zero]
        refine wpAnyH_take (i := 7) (v := (.agg #[.int .u64 pgn, .int .u64 frm, .int .u64 prm])) rfl (by kernel_rfl) (by kernel_rfl) (by kernel_rfl) (fun _ _ _ h => h) (Or.inl ⟨by rfl, fun ww hSw => by (try dsimp only at hSw); go_simp⟩) (by assumption) ?_
        simp only [Act.put, List.setIfInBounds_toArray, List.set_cons_zero, List.set_cons_succ, List.getElem_toArray, List.getElem_cons_succ, List.getElem_cons_zero]
        refine wpAnyH_ready (rs := [0, 8]) (by kernel_rfl) (by simp) ?_
        refine AllReadyH.cons rfl (fun K hK => ?_) (AllReadyH.cons rfl (fun K hK => ?_) AllReadyH.nil)
        · skip
          go_simp
          refine hK.out _ _ trivial (fun hHeld => ?_)
          clear hK K
          try simp only [Act.put, List.setIfInBounds_toArray, List.set_cons_zero, List.set_cons_succ, List.getElem_toArray, List.getElem_cons_succ, List.getElem_cons_zero]
          refine wpAnyH_ready (rs := [8]) (by kernel_rfl) (by simp) ?_
          refine AllReadyH.cons rfl (fun K hK => ?_) AllReadyH.nil
          go_simp
          rw [← HV1.out]
          refine hK.out _ _ trivial (fun hHeld => ?_)
          clear hK K
          try simp only [Act.put, List.setIfInBounds_toArray, List.set_cons_zero, List.set_cons_succ, List.getElem_toArray, List.getElem_cons_succ, List.getElem_cons_zero]
          refine wpAnyH_ready (rs := [9]) (by kernel_rfl) (by simp) ?_
          refine AllReadyH.cons rfl (fun K hK => ?_) AllReadyH.nil
          refine step_append_at rfl (.tmp 37) (.tmp 45) 44 rfl V.heap.size 99 i3 z3 3 24 Tryz.underlying44 hi3 hz3 hs3 hb3 hzs3 (by decide) v pre.length (pcs (pre.map lkF)) (by simp [Act.eval, Act.put]) HOV.out ⟨U.heap.size, 0, .none⟩ 1 1 [.int .u64 pgn, .int .u64 frm, .int .u64 prm] (by simp [Act.eval, Act.put]) rfl HC1.out (fun u hu => by simp at hu; rcases hu with rfl | rfl | rfl <;> rfl) (by simp only [maxLen]; omega) (by omega) HVU.out ?_
          intro v' V2 own' grow fb
          obtain ⟨g', c', rfl⟩ : ∃ g' c', v' = .slice (some ⟨g', 0, .none⟩) (pre.length + 1) c' := by
            rcases own'.2 with ⟨_, h0⟩ | ⟨g', cap, cur, hv, _⟩
            · omega
            · exact ⟨g', cap, hv⟩
          have HP9 := HST.out V2 _ own' grow fb
          obtain ⟨v1, v2⟩ := HBE.out V2 grow
          clear own' grow fb
          refine hK.out _ _ trivial (fun hHeld => ?_)
          clear hK K
          try simp only [Act.put, List.setIfInBounds_toArray, List.set_cons_zero, List.set_cons_succ, List.getElem_toArray, List.getElem_cons_succ, List.getElem_cons_zero]
          refine wpAnyH_ready (rs := [10]) (by kernel_rfl) (by simp) ?_
          refine AllReadyH.cons rfl (fun K hK => ?_) AllReadyH.nil
          go_simp
          refine hK.out _ _ trivial (fun hHeld => ?_)
          clear hK K
          try simp only [Act.put, List.setIfInBounds_toArray, List.set_cons_zero, List.set_cons_succ, List.getElem_toArray, List.getElem_cons_succ, List.getElem_cons_zero]
          refine wpAnyH_done (by kernel_rfl) ?_ _
          have HP8 : Hid _ := HP9
          clear HP9 v1 v2
          gi_wp2
          exact HP8.out
        · skip
          go_simp
          rw [← HV1.out]
          refine hK.out _ _ trivial (fun hHeld => ?_)
          clear hK K
          try simp only [Act.put, List.setIfInBounds_toArray, List.set_cons_zero, List.set_cons_succ, List.getElem_toArray, List.getElem_cons_succ, List.getElem_cons_zero]
          refine wpAnyH_ready (rs := [0]) (by kernel_rfl) (by simp) ?_
          refine AllReadyH.cons rfl (fun K hK => ?_) AllReadyH.nil
          go_simp
          refine hK.out _ _ trivial (fun hHeld => ?_)
          clear hK K
          try simp only [Act.put, List.setIfInBounds_toArray, List.set_cons_zero, List.set_cons_succ, List.getElem_toArray, List.getElem_cons_succ, List.getElem_cons_zero]
          refine wpAnyH_ready (rs := [9]) (by kernel_rfl) (by simp) ?_
          refine AllReadyH.cons rfl (fun K hK => ?_) AllReadyH.nil
          refine step_append_at rfl (.tmp 37) (.tmp 45) 44 rfl V.heap.size 99 i3 z3 3 24 Tryz.underlying44 hi3 hz3 hs3 hb3 hzs3 (by decide) v pre.length (pcs (pre.map lkF)) (by simp [Act.eval, Act.put]) HOV.out ⟨U.heap.size, 0, .none⟩ 1 1 [.int .u64 pgn, .int .u64 frm, .int .u64 prm] (by simp [Act.eval, Act.put]) rfl HC1.out (fun u hu => by simp at hu; rcases hu with rfl | rfl | rfl <;> rfl) (by simp only [maxLen]; omega) (by omega) HVU.out ?_
          intro v' V2 own' grow fb
          obtain ⟨g', c', rfl⟩ : ∃ g' c', v' = .slice (some ⟨g', 0, .none⟩) (pre.length + 1) c' := by
            rcases own'.2 with ⟨_, h0⟩ | ⟨g', cap, cur, hv, _⟩
            · omega
            · exact ⟨g', cap, hv⟩
          have HP9 := HST.out V2 _ own' grow fb
          obtain ⟨v1, v2⟩ := HBE.out V2 grow
          clear own' grow fb
          refine hK.out _ _ trivial (fun hHeld => ?_)
          clear hK K
          try simp only [Act.put, List.setIfInBounds_toArray, List.set_cons_zero, List.set_cons_succ, List.getElem_toArray, List.getElem_cons_succ, List.getElem_cons_zero]
          refine wpAnyH_ready (rs := [10]) (by kernel_rfl) (by simp) ?_
          refine AllReadyH.cons rfl (fun K hK => ?_) AllReadyH.nil
          go_simp
          refine hK.out _ _ trivial (fun hHeld => ?_)
          clear hK K
          try simp only [Act.put, List.setIfInBounds_toArray, List.set_cons_zero, List.set_cons_succ, List.getElem_toArray, List.getElem_cons_succ, List.getElem_cons_zero]
          refine wpAnyH_done (by kernel_rfl) ?_ _
          have HP8 : Hid _ := HP9
          clear HP9 v1 v2
          gi_wp2
          exact HP8.out
end
end Go.Proofs.YtblmkkhiojbcjaaGreat
