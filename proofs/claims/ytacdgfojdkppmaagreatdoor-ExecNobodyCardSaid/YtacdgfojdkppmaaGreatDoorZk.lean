import Derived.Test.YtacdgfojdkppmaaGreatDoorZj
namespace Go.Proofs.YtacdgfojdkppmaaGreatDoor
open Go.RowKit Go.Shelf
set_option linter.unusedVariables false
set_option linter.unusedSimpArgs false
set_option maxRecDepth 10000 in
set_option maxHeartbeats 4000000 in
theorem load_smallNo {W : World} {p b m N fb fo fc i : Nat} {Bm : Nat → Int} {L1 : List Nat} (hR : Rm.Ram W p b m N Bm (i :: L1)) (hl : 7 ≤ L1.length) (tr : Int) (ht : 0 ≤ tr ∧ tr < 18446744073709551616) (hno : ¬ (Rm.isHd N (i :: L1) tr ∧ Rm.isHd N (i :: L1) 2147483648 ∧ tr ≠ 2147483648)) (hL : Laid W) (hL3 : Laid3 W) (h3 : 3 < p ∧ 3 < b ∧ 3 < m) (hF : Row W fb fo 124 smB) (hfb : fb < W.heap.size) (hc : 124 ≤ fc ∧ fc ≤ 9223372036854775807) :
    Calls Tryz.prog 8 #[.pointer (some ⟨p, 0, .none⟩), .slice (some ⟨fb, fo, .none⟩) 124 fc, .slice .none 0 0, .int .u64 tr, .int .u64 2147483648] W fun e w' => e = .returned (.tuple #[.pointer .none, .agg #[.int .u64 0, .int .u64 0, .int .u64 0], .int .i64 160]) ∧ Below W.heap.size W w' := by
  obtain ⟨W1, hW1⟩ : ∃ W1, W1 = W.alloc (.cells #[.int .u64 0, .int .u64 0, .int .u64 0] 34) := ⟨_, rfl⟩
  have b1 : Below W.heap.size W W1 := by rw [hW1]; exact (Below.refl _ _).alloc (Nat.le_refl _) _
  have k0 : W1.cell? ⟨W.heap.size, 0, .none⟩ = some (.int .u64 0) := by rw [hW1]; simp
  have k1 : W1.cell? ⟨W.heap.size, 1, .none⟩ = some (.int .u64 0) := by rw [hW1]; simp
  have k2 : W1.cell? ⟨W.heap.size, 2, .none⟩ = some (.int .u64 0) := by rw [hW1]; simp
  have k4 : ∀ i, W1.frozen? ⟨W.heap.size, i, .none⟩ = false := fun i => by rw [hW1]; exact World.frozen?_alloc_new _ _ _ i
  have hpw : p < W.heap.size ∧ b < W.heap.size ∧ m < W.heap.size := ⟨lt_of_cell hR.mem.c0, lt_of_cell (hR.mem.cb 0 (by have := hR.mem.n1; omega)), hR.mem.mlt⟩
  have cP := planOf_any (p := none) (n := 0) (c := 0) (xs := []) (hL.below b1) (hF.keep b1) (Nat.lt_of_lt_of_le hfb b1.size) smB_bd hc 0 0 smB_hd ⟨⟨rfl, Nat.le_refl _, by decide, .inl rfl⟩, by decide, fun x hx => by cases hx⟩
  have hsg : sgO 124 smB 0 0 = [smG] := by unfold sgO; rw [smB_rd]; rfl
  have hrd : (rdF 124 smB 0 0).1.2 = 0 := by rw [smB_rd]
  rw [hsg, hrd] at cP
  unfold PlP at cP
  have hd0 : dmE 0 [] = 0 := by decide
  rw [hd0] at cP
  have HU : Hid (Rm.Ram W1 p b m N Bm (i :: L1) ∧ Below W.heap.size W W1 ∧ (∀ i, W1.frozen? ⟨W.heap.size, i, .none⟩ = false) ∧ Laid3 W1) := ⟨hR.below b1, b1, k4, hL3.below b1⟩
  clear hR hL hL3 hF hfb b1 k4 hsg hrd hd0
  obtain ⟨x, hx⟩ : ∃ x, x = W.heap.size := ⟨_, rfl⟩
  have HX : Hid (x = W.heap.size) := hx
  go_enter Tryz.func8, Tryz.ntmps8
  go_upto_region 1 with fail
  rw [← hW1, ← hx]
  rw [← hx] at k0 k1 k2
  clear hW1 hx
  go_upto_region 2 with (go_at_call 24; refine cP.mono ?_; rintro _ w2 ⟨b2, h2⟩; rcases h2 with ⟨h, _⟩ | ⟨_, X, q, cs, E, Bq, et, pq, pn, pc, sp, rfl, sg, hE, hl8, hS, hX, hPg, hBq⟩; exact absurd rfl h; clear cP)
  obtain ⟨x0, rfl⟩ : ∃ x0, E = [x0] := by
    have hlen := congrArg List.length hS
    rw [List.length_map] at hlen
    exact List.length_eq_one_iff.1 hlen
  have hx0 : x0.1 = smG := by simpa using hS
  obtain ⟨g, rfl⟩ := own_some sg.own
  obtain ⟨gp, Rp, rfl, rfl, rfl, hgp, hRp, hpg⟩ := hPg
  have HPl : Hid (Below W1.heap.size W1 w2 ∧ Segs w2 X (.slice (some ⟨g, 0, .none⟩) [x0].length cs) [x0] Bq ∧ x0.1 = smG ∧ W1.heap.size ≤ X ∧ W1.heap.size ≤ gp ∧ (∀ i, 0 ≤ Rp i ∧ Rp i < 256) ∧ (∀ i, i < 4096 → w2.cell? ⟨gp, i, .none⟩ = some (.int .u8 (Rp i))) ∧ ∀ i, 0 ≤ Bq i ∧ Bq i < 256) := ⟨b2, sg, hx0, hX, hgp, hRp, hpg, hBq⟩
  clear b2 sg hE hl8 hS hX hgp hRp hpg hBq hx0
  obtain ⟨w3, hw3⟩ : ∃ w3, w3 = w2.alloc (.cells #[.int .u64 et, .slice (some ⟨g, 0, .none⟩) 1 cs, .slice (some ⟨gp, 0, .none⟩) 4096 4096, .int .u64 sp] 75) := ⟨_, rfl⟩
  have b3 : Below w2.heap.size w2 w3 := by rw [hw3]; exact (Below.refl _ _).alloc (Nat.le_refl _) _
  obtain ⟨Z, hZ⟩ : ∃ Z, Z = w2.heap.size := ⟨_, rfl⟩
  have kZ : Z4 w3 Z et g cs gp sp := by rw [hw3, hZ]; exact ⟨by simp, by simp, by simp, by simp⟩
  have HZ : Hid (W1.heap.size ≤ Z) := by rw [hZ]; exact HPl.out.1.size
  dsimp only [List.length_cons, List.length_nil]
  rw [← hw3, ← hZ]
  have B3 : Hid (Below w2.heap.size w2 w3 ∧ Below W1.heap.size W1 w3) := ⟨b3, HPl.out.1.trans (b3.mono HPl.out.1.size)⟩
  clear hw3 hZ b3
  have hR3 := HU.out.1.below B3.out.2
  have n1 := hR3.mem.n1
  have c25 := Rm.frames_any hR3.mem
  have hN0 : ((N : Int) == 0) = false := by simp; omega
  have HR3 : Hid (Rm.Ram w3 p b m N Bm (i :: L1)) := hR3
  clear hR3
  go_upto_region 6 with (go_at_call 25; refine c25.mono ?_; rintro _ w4 ⟨rfl, e4⟩; obtain rfl : w3 = w4 := e4.symm)
  have kS : Z4 w3.drew Z et g cs gp sp := kZ
  have hlt8 : ¬ ((L1.length : Int) + 1 < 8) := by omega
  refine wp_region_held_drew (S := fun U => Z4 U Z et g cs gp sp) (by kernel_rfl) kS (fun hHeld => ?_)
  refine wpAnyH_take (i := 0) (v := (.pointer (some ⟨p, 0, .none⟩))) rfl (by kernel_rfl) (by kernel_rfl) (by kernel_rfl) (fun _ _ _ h => h) (Or.inl ⟨by rfl, fun ww hSw => by (try dsimp only at hSw); go_simp⟩) (by assumption) ?_
  simp only [Act.put, List.setIfInBounds_toArray, List.set_cons_zero, List.set_cons_succ, List.getElem_toArray, List.getElem_cons_succ, List.getElem_cons_zero]
  refine wpAnyH_take (i := 2) (v := (.agg #[.int .u64 et, .slice (some ⟨g, 0, .none⟩) 1 cs, .slice (some ⟨gp, 0, .none⟩) 4096 4096, .int .u64 sp])) rfl (by kernel_rfl) (by kernel_rfl) (by kernel_rfl) (fun _ _ _ h => h) (Or.inl ⟨by rfl, fun ww hSw => by (try dsimp only at hSw); obtain ⟨q0, q1, q2, q3⟩ := hSw; go_simp⟩) (by assumption) ?_
  simp only [Act.put, List.setIfInBounds_toArray, List.set_cons_zero, List.set_cons_succ, List.getElem_toArray, List.getElem_cons_succ, List.getElem_cons_zero]
  have c10 := Rm.count_ram (HR3.out.below (Below.refl _ _).drew)
  rw [show (i :: L1).length = L1.length + 1 from rfl] at c10
  refine wpAnyH_ready (rs := [1]) (by kernel_rfl) (by simp) ?_
  refine AllReadyH.cons rfl (fun K hK => ?_) AllReadyH.nil
  go_simp
  go_at_call 10
  refine c10.mono ?_
  rintro _ w5 ⟨rfl, k5, rfl⟩
  refine hK.out _ _ kS (fun hHeld => ?_)
  clear hK K
  try simp only [Act.put, List.setIfInBounds_toArray, List.set_cons_zero, List.set_cons_succ, List.getElem_toArray, List.getElem_cons_succ, List.getElem_cons_zero]
  have B5 : Hid (Below w3.heap.size w3 (w3.drew.drewN k5)) := ⟨rfl, rfl, rfl, Nat.le_refl _, fun _ _ => rfl⟩
  generalize w3.drew.drewN k5 = w5 at *
  have sg5 := (HPl.out.2.1.below B3.out.1).below B5.out
  have c26 := demandP_any sg5 (by simp) (by simp) et sp (some ⟨gp, 0, .none⟩) 4096 4096
  rw [show ePg ([x0].map (·.1)) = 1 by rw [show [x0].map (·.1) = [x0.1] from rfl, HPl.out.2.2.1]; decide, show (1 : Int) + 6 + (1 + 513) / 512 = 8 by decide] at c26
  clear sg5
  refine wpAnyH_ready (rs := [3]) (by kernel_rfl) (by simp) ?_
  refine AllReadyH.cons rfl (fun K hK => ?_) AllReadyH.nil
  go_simp
  go_at_call 26
  refine c26.mono ?_
  rintro _ w6 ⟨rfl, b6⟩
  have B6 : Hid (Below w3.heap.size w3 w6) := B5.out.trans (b6.mono B5.out.size)
  have kS6 : Z4 w6 Z et g cs gp sp := kZ.of (B6.out.block Z (lt_of_cell (x := ⟨Z, 0, .none⟩) kZ.1))
  clear b6 c26
  refine hK.out _ _ kS6 (fun hHeld => ?_)
  clear hK K
  try simp only [Act.put, List.setIfInBounds_toArray, List.set_cons_zero, List.set_cons_succ, List.getElem_toArray, List.getElem_cons_succ, List.getElem_cons_zero]
  refine wpAnyH_take (i := 4) (v := (.bool false)) rfl (by kernel_rfl) (by kernel_rfl) (by kernel_rfl) (fun _ _ _ h => h) (Or.inl ⟨by rfl, fun ww hSw => by (try dsimp only at hSw); go_simp⟩) (by assumption) ?_
  simp only [Act.put, List.setIfInBounds_toArray, List.set_cons_zero, List.set_cons_succ, List.getElem_toArray, List.getElem_cons_succ, List.getElem_cons_zero]
  refine wpAnyH_take (i := 5) (v := (.bool false)) rfl (by kernel_rfl) (by kernel_rfl) (by kernel_rfl) (fun _ _ _ h => h) (Or.inl ⟨by rfl, fun ww hSw => by (try dsimp only at hSw); go_simp⟩) (by assumption) ?_
  simp only [Act.put, List.setIfInBounds_toArray, List.set_cons_zero, List.set_cons_succ, List.getElem_toArray, List.getElem_cons_succ, List.getElem_cons_zero]
  refine wpAnyH_done (by kernel_rfl) ?_ _
  have hB16 : Below W1.heap.size W1 w6 := B3.out.2.trans (B6.out.mono B3.out.2.size)
  have cN := Rm.spNew_no (HR3.out.below B6.out) tr ht hno
  have l0 := (hB16.cell (lt_of_cell k0)).trans k0
  have l1 := (hB16.cell (lt_of_cell k1)).trans k1
  have l2 := (hB16.cell (lt_of_cell k2)).trans k2
  have hXx := HX.out
  have f0 : ∀ j v, W1.cell? ⟨x, j, .none⟩ = some v → w6.frozen? ⟨x, j, .none⟩ = false := fun j v h => (hB16.frozen (p := ⟨x, j, .none⟩) (lt_of_cell h)).trans (by rw [hXx]; exact HU.out.2.2.1 j)
  have HF : Hid (w6.frozen? ⟨x, 0, .none⟩ = false ∧ w6.frozen? ⟨x, 1, .none⟩ = false ∧ w6.frozen? ⟨x, 2, .none⟩ = false) := ⟨f0 0 _ k0, f0 1 _ k1, f0 2 _ k2⟩
  have HKx : Hid (x = W.heap.size ∧ Below W.heap.size W w6) := ⟨hXx, HU.out.2.1.trans (hB16.mono HU.out.2.1.size)⟩
  clear f0 hXx hB16 k0 k1 k2
  have hx6 : x < w6.heap.size := lt_of_cell l0
  go_wp2_with (go_at_call 27; refine cN.mono ?_; rintro _ w9 ⟨rfl, b9⟩; have H9 : Hid (Below w6.heap.size w6 w9) := b9; replace l0 := (b9.cell (lt_of_cell l0)).trans l0; replace l1 := (b9.cell (lt_of_cell l1)).trans l1; replace l2 := (b9.cell (lt_of_cell l2)).trans l2; have g0 : w9.frozen? ⟨x, 0, .none⟩ = false := (b9.frozen (p := ⟨x, 0, .none⟩) hx6).trans HF.out.1; have g1 : w9.frozen? ⟨x, 1, .none⟩ = false := (b9.frozen (p := ⟨x, 1, .none⟩) hx6).trans HF.out.2.1; have g2 : w9.frozen? ⟨x, 2, .none⟩ = false := (b9.frozen (p := ⟨x, 2, .none⟩) hx6).trans HF.out.2.2; clear b9 cN)
  refine bodyPost_ret (v := .tuple #[.pointer .none, .agg #[.int .u64 0, .int .u64 0, .int .u64 0], .int .i64 160]) (by simp [results, Tryz.results8, go_sem, l0, l1, l2]) rfl ⟨rfl, ?_⟩
  have hxw := HKx.out.1
  have hb := HKx.out.2.trans (H9.out.mono HKx.out.2.size)
  exact ((hb.setCell (by show W.heap.size ≤ x; omega) _).setCell (by show W.heap.size ≤ x; omega) _).setCell (by show W.heap.size ≤ x; omega) _
/-- What the law's memory is. -/
def MeP (w : World) (n : Nat) (e : Ending) (w' : World) : Prop := ∃ p b m B, w.heap.size ≤ p ∧ w.heap.size ≤ b ∧ w.heap.size ≤ m ∧ e = .returned (.tuple #[.pointer (some ⟨p, 0, .none⟩), .int .u64 (Rm.ad (n - 1)), .bool true]) ∧ Rm.Ram w' p b m n B (Rm.down (n - 2)) ∧ Below w.heap.size w w'
set_option maxRecDepth 10000 in
set_option maxHeartbeats 1000000 in
theorem memory_any (n : Nat) (h1 : 2 ≤ n) (h2 : n ≤ 4096) (w : World) : Calls Tryz.prog 9 #[.int .i64 n] w (MeP w n) := by
  have c30 := Rm.new_any n (by omega) h2 w
  have g1 : ¬ ((n : Int) < 2) := by omega
  have g2 : ¬ ((n : Int) > 4096) := by omega
  have hdn : Rm.down (n - 1) = (n - 1) :: Rm.down (n - 2) := by
    obtain ⟨k, rfl⟩ : ∃ k, n = k + 2 := ⟨n - 2, by omega⟩
    rfl
  have HD : Hid (Rm.down (n - 1) = (n - 1) :: Rm.down (n - 2)) := hdn
  clear hdn
  go_enter Tryz.func9, Tryz.ntmps9
  go_upto_region 8 with (go_at_call 30; refine c30.mono ?_; rintro _ w1 ⟨p, b, m, hp, hb, hm, rfl, hR, b1⟩; rw [HD.out] at hR; have H1 : Hid (w.heap.size ≤ p ∧ w.heap.size ≤ b ∧ w.heap.size ≤ m ∧ Rm.Ram w1 p b m n (Rm.newB (n - 1)) ((n - 1) :: Rm.down (n - 2)) ∧ Below w.heap.size w w1) := ⟨hp, hb, hm, hR, b1⟩; clear hp hb hm hR b1 c30)
  have c17 := Rm.alloc_some (n - 1) H1.out.2.2.2.1
  generalize ht : (2147483648 + ((n - 1 : Nat) : Int) * 4096) = t at c17
  have HT : Hid (t = Rm.ad (n - 1)) := ht.symm
  clear ht
  go_wp2_with (go_at_call 17; refine c17.mono ?_; rintro _ w2 ⟨rfl, hR2, hf2⟩; have H2 : Hid (Rm.Ram w2 p b m n (Rm.zer (Rm.newB (n - 1)) (n - 1)) (Rm.down (n - 2)) ∧ Rm.Fra p b m w1 w2) := ⟨hR2, hf2⟩; clear hR2 hf2 c17)
  refine bodyPost_ret (v := .tuple #[.pointer (some ⟨p, 0, .none⟩), .int .u64 t, .bool true]) (by simp [results, Tryz.results9, go_sem]) rfl ?_
  exact ⟨p, b, m, _, H1.out.1, H1.out.2.1, H1.out.2.2.1, by rw [HT.out], H2.out.1, H1.out.2.2.2.2.trans (H2.out.2.toBelow H1.out.2.2.2.2.size H1.out.1 H1.out.2.1 H1.out.2.2.1)⟩
end Go.Proofs.YtacdgfojdkppmaaGreatDoor
