import Derived.Test.YtacdgfojdkppmaaGreatDoorZi
import Derived.Test.YtacdgfojdkppmaaGreatDoorSm3
namespace Go.Proofs.YtacdgfojdkppmaaGreatDoor
open Go.RowKit Go.Shelf
set_option linter.unusedVariables false
set_option linter.unusedSimpArgs false
theorem SpN.new {w w' : World} {s p b m N i : Nat} {B B' : Nat → Int} {L1 L' : List Nat} {F' : Nat → Option Nat} {lf' : Nat → Nat → Int} (S : List Sg) (hs : Rm.Sp w' s p (Rm.ad i) 0) (T : Rm.NT w w' p b m N B i L1 B' L' F' lf') (hne : s ≠ p ∧ s ≠ b ∧ s ≠ m) : SpN w' s p b m N i S 0 B' L' F' lf' := by
  have e1 : Rm.y1 274877898752 = 256 := by decide
  have e0 : Rm.y0 274877898752 ≠ 513 ∧ Rm.y0 274877898752 ≠ 1 := by decide
  refine ⟨by simpa using hs, T.ram, T.pt, T.rt, hne, fun i hi => by omega, fun k _ hk => T.lfs 513 k (fun h => e0.1 h.symm), fun _ => ?_⟩
  cases h : F' 1 with
  | none => rfl
  | some f =>
    rcases T.ids 1 f h with h | h | h
    · omega
    · rw [e1] at h; omega
    · exact absurd h.symm e0.2
/-- What a load of the small file leaves. -/
def LdP (W : World) (p b m N n : Nat) (e : Ending) (w' : World) : Prop := ∃ s en sp, e = .returned (.tuple #[.pointer (some ⟨s, 0, .none⟩), .agg #[.int .u64 en, .int .u64 sp, .int .u64 sp], .int .i64 0]) ∧ Rm.Fra p b m W w' ∧ ∃ B' L', Rm.Ram w' p b m N B' L' ∧ L'.length + 8 = n
theorem Fra_above {p b m : Nat} {w w' : World} (h : Rm.Fra p b m w w') {X e k n : Nat} {v : Value} {xs : List Value} (hx : p < X ∧ b < X ∧ m < X) (ho : w.ownsRow X e k v n xs) : w'.ownsRow X e k v n xs := own_fra ho h hx
set_option maxRecDepth 10000 in
set_option maxHeartbeats 4000000 in
theorem load_small {W : World} {p b m N fb fo fc i ft : Nat} {Bm : Nat → Int} {L1 : List Nat} (hR : Rm.Ram W p b m N Bm (i :: L1)) (hl : 7 ≤ L1.length) (hft : 1 ≤ ft ∧ ft < N ∧ ft ∉ i :: L1) (hL : Laid W) (hL3 : Laid3 W) (h3 : 3 < p ∧ 3 < b ∧ 3 < m) (hF : Row W fb fo 124 smB) (hfb : fb < W.heap.size) (hc : 124 ≤ fc ∧ fc ≤ 9223372036854775807) :
    Calls Tryz.prog 8 #[.pointer (some ⟨p, 0, .none⟩), .slice (some ⟨fb, fo, .none⟩) 124 fc, .slice .none 0 0, .int .u64 (Rm.ad ft), .int .u64 2147483648] W (LdP W p b m N (L1.length + 1)) := by
  obtain ⟨W1, hW1⟩ : ∃ W1, W1 = W.alloc (.cells #[.int .u64 0, .int .u64 0, .int .u64 0] 34) := ⟨_, rfl⟩
  have b1 : Below W.heap.size W W1 := by rw [hW1]; exact (Below.refl _ _).alloc (Nat.le_refl _) _
  have k0 : W1.cell? ⟨W.heap.size, 0, .none⟩ = some (.int .u64 0) := by rw [hW1]; simp
  have k1 : W1.cell? ⟨W.heap.size, 1, .none⟩ = some (.int .u64 0) := by rw [hW1]; simp
  have k2 : W1.cell? ⟨W.heap.size, 2, .none⟩ = some (.int .u64 0) := by rw [hW1]; simp
  have k4 : ∀ i, W1.frozen? ⟨W.heap.size, i, .none⟩ = false := fun i => by rw [hW1]; exact World.frozen?_alloc_new _ _ _ i
  have hpw : p < W.heap.size ∧ b < W.heap.size ∧ m < W.heap.size := ⟨lt_of_cell hR.mem.c0, lt_of_cell (hR.mem.cb 0 (by have := hR.mem.n1; omega)), hR.mem.mlt⟩
  have cP := planOf_any (p := none) (n := 0) (c := 0) (xs := []) (hL.below b1) (hF.keep b1) (Nat.lt_of_lt_of_le hfb b1.size) smB_bd hc 0 0 smB_hd ⟨⟨rfl, Nat.le_refl _, by decide, .inl rfl⟩, by decide, fun x hx => by cases hx⟩
  have hsg : sgO 124 smB 0 0 = [smG] := by unfold sgO; rw [smB_rd]; rfl
  have hrd : (rdF 124 smB 0 0).1.2 = 0 := by rw [smB_rd]
  rw [hsg, hrd] at cP
  unfold PlP at cP
  have hd0 : dmE 0 [] = 0 := by decide
  rw [hd0] at cP
  have HU : Hid (Rm.Ram W1 p b m N Bm (i :: L1) ∧ Below W.heap.size W W1 ∧ (∀ i, W1.frozen? ⟨W.heap.size, i, .none⟩ = false) ∧ Laid3 W1) := ⟨hR.below b1, b1, k4, hL3.below b1⟩
  clear hR hL hL3 hF hfb b1 k4 hsg hrd hd0
  obtain ⟨x, hx⟩ : ∃ x, x = W.heap.size := ⟨_, rfl⟩
  have HX : Hid (x = W.heap.size) := hx
  go_enter Tryz.func8, Tryz.ntmps8
  go_upto_region 1 with fail
  rw [← hW1, ← hx]
  rw [← hx] at k0 k1 k2
  clear hW1 hx
  go_upto_region 2 with (go_at_call 24; refine cP.mono ?_; rintro _ w2 ⟨b2, h2⟩; rcases h2 with ⟨h, _⟩ | ⟨_, X, q, cs, E, Bq, et, pq, pn, pc, sp, rfl, sg, hE, hl8, hS, hX, hPg, hBq⟩; exact absurd rfl h; clear cP)
  obtain ⟨x0, rfl⟩ : ∃ x0, E = [x0] := by
    have hlen := congrArg List.length hS
    rw [List.length_map] at hlen
    exact List.length_eq_one_iff.1 hlen
  have hx0 : x0.1 = smG := by simpa using hS
  obtain ⟨g, rfl⟩ := own_some sg.own
  obtain ⟨gp, Rp, rfl, rfl, rfl, hgp, hRp, hpg⟩ := hPg
  have HPl : Hid (Below W1.heap.size W1 w2 ∧ Segs w2 X (.slice (some ⟨g, 0, .none⟩) [x0].length cs) [x0] Bq ∧ x0.1 = smG ∧ W1.heap.size ≤ X ∧ W1.heap.size ≤ gp ∧ (∀ i, 0 ≤ Rp i ∧ Rp i < 256) ∧ (∀ i, i < 4096 → w2.cell? ⟨gp, i, .none⟩ = some (.int .u8 (Rp i))) ∧ ∀ i, 0 ≤ Bq i ∧ Bq i < 256) := ⟨b2, sg, hx0, hX, hgp, hRp, hpg, hBq⟩
  clear b2 sg hE hl8 hS hX hgp hRp hpg hBq hx0
  obtain ⟨w3, hw3⟩ : ∃ w3, w3 = w2.alloc (.cells #[.int .u64 et, .slice (some ⟨g, 0, .none⟩) 1 cs, .slice (some ⟨gp, 0, .none⟩) 4096 4096, .int .u64 sp] 75) := ⟨_, rfl⟩
  have b3 : Below w2.heap.size w2 w3 := by rw [hw3]; exact (Below.refl _ _).alloc (Nat.le_refl _) _
  obtain ⟨Z, hZ⟩ : ∃ Z, Z = w2.heap.size := ⟨_, rfl⟩
  have kZ : Z4 w3 Z et g cs gp sp := by rw [hw3, hZ]; exact ⟨by simp, by simp, by simp, by simp⟩
  have HZ : Hid (W1.heap.size ≤ Z) := by rw [hZ]; exact HPl.out.1.size
  dsimp only [List.length_cons, List.length_nil]
  rw [← hw3, ← hZ]
  have B3 : Hid (Below w2.heap.size w2 w3 ∧ Below W1.heap.size W1 w3) := ⟨b3, HPl.out.1.trans (b3.mono HPl.out.1.size)⟩
  clear hw3 hZ b3
  have hR3 := HU.out.1.below B3.out.2
  have n1 := hR3.mem.n1
  have c25 := Rm.frames_any hR3.mem
  have hN0 : ((N : Int) == 0) = false := by simp; omega
  have HR3 : Hid (Rm.Ram w3 p b m N Bm (i :: L1)) := hR3
  clear hR3
  go_upto_region 6 with (go_at_call 25; refine c25.mono ?_; rintro _ w4 ⟨rfl, e4⟩; obtain rfl : w3 = w4 := e4.symm)
  have kS : Z4 w3.drew Z et g cs gp sp := kZ
  have hlt8 : ¬ ((L1.length : Int) + 1 < 8) := by omega
  refine wp_region_held_drew (S := fun U => Z4 U Z et g cs gp sp) (by kernel_rfl) kS (fun hHeld => ?_)
  refine wpAnyH_take (i := 0) (v := (.pointer (some ⟨p, 0, .none⟩))) rfl (by kernel_rfl) (by kernel_rfl) (by kernel_rfl) (fun _ _ _ h => h) (Or.inl ⟨by rfl, fun ww hSw => by (try dsimp only at hSw); go_simp⟩) (by assumption) ?_
  simp only [Act.put, List.setIfInBounds_toArray, List.set_cons_zero, List.set_cons_succ, List.getElem_toArray, List.getElem_cons_succ, List.getElem_cons_zero]
  refine wpAnyH_take (i := 2) (v := (.agg #[.int .u64 et, .slice (some ⟨g, 0, .none⟩) 1 cs, .slice (some ⟨gp, 0, .none⟩) 4096 4096, .int .u64 sp])) rfl (by kernel_rfl) (by kernel_rfl) (by kernel_rfl) (fun _ _ _ h => h) (Or.inl ⟨by rfl, fun ww hSw => by (try dsimp only at hSw); obtain ⟨q0, q1, q2, q3⟩ := hSw; go_simp⟩) (by assumption) ?_
  simp only [Act.put, List.setIfInBounds_toArray, List.set_cons_zero, List.set_cons_succ, List.getElem_toArray, List.getElem_cons_succ, List.getElem_cons_zero]
  have c10 := Rm.count_ram (HR3.out.below (Below.refl _ _).drew)
  rw [show (i :: L1).length = L1.length + 1 from rfl] at c10
  refine wpAnyH_ready (rs := [1]) (by kernel_rfl) (by simp) ?_
  refine AllReadyH.cons rfl (fun K hK => ?_) AllReadyH.nil
  go_simp
  go_at_call 10
  refine c10.mono ?_
  rintro _ w5 ⟨rfl, k5, rfl⟩
  refine hK.out _ _ kS (fun hHeld => ?_)
  clear hK K
  try simp only [Act.put, List.setIfInBounds_toArray, List.set_cons_zero, List.set_cons_succ, List.getElem_toArray, List.getElem_cons_succ, List.getElem_cons_zero]
  have B5 : Hid (Below w3.heap.size w3 (w3.drew.drewN k5)) := ⟨rfl, rfl, rfl, Nat.le_refl _, fun _ _ => rfl⟩
  generalize w3.drew.drewN k5 = w5 at *
  have sg5 := (HPl.out.2.1.below B3.out.1).below B5.out
  have c26 := demandP_any sg5 (by simp) (by simp) et sp (some ⟨gp, 0, .none⟩) 4096 4096
  rw [show ePg ([x0].map (·.1)) = 1 by rw [show [x0].map (·.1) = [x0.1] from rfl, HPl.out.2.2.1]; decide, show (1 : Int) + 6 + (1 + 513) / 512 = 8 by decide] at c26
  clear sg5
  refine wpAnyH_ready (rs := [3]) (by kernel_rfl) (by simp) ?_
  refine AllReadyH.cons rfl (fun K hK => ?_) AllReadyH.nil
  go_simp
  go_at_call 26
  refine c26.mono ?_
  rintro _ w6 ⟨rfl, b6⟩
  have B6 : Hid (Below w3.heap.size w3 w6) := B5.out.trans (b6.mono B5.out.size)
  have kS6 : Z4 w6 Z et g cs gp sp := kZ.of (B6.out.block Z (lt_of_cell (x := ⟨Z, 0, .none⟩) kZ.1))
  clear b6 c26
  refine hK.out _ _ kS6 (fun hHeld => ?_)
  clear hK K
  try simp only [Act.put, List.setIfInBounds_toArray, List.set_cons_zero, List.set_cons_succ, List.getElem_toArray, List.getElem_cons_succ, List.getElem_cons_zero]
  refine wpAnyH_take (i := 4) (v := (.bool false)) rfl (by kernel_rfl) (by kernel_rfl) (by kernel_rfl) (fun _ _ _ h => h) (Or.inl ⟨by rfl, fun ww hSw => by (try dsimp only at hSw); go_simp⟩) (by assumption) ?_
  simp only [Act.put, List.setIfInBounds_toArray, List.set_cons_zero, List.set_cons_succ, List.getElem_toArray, List.getElem_cons_succ, List.getElem_cons_zero]
  refine wpAnyH_take (i := 5) (v := (.bool false)) rfl (by kernel_rfl) (by kernel_rfl) (by kernel_rfl) (fun _ _ _ h => h) (Or.inl ⟨by rfl, fun ww hSw => by (try dsimp only at hSw); go_simp⟩) (by assumption) ?_
  simp only [Act.put, List.setIfInBounds_toArray, List.set_cons_zero, List.set_cons_succ, List.getElem_toArray, List.getElem_cons_succ, List.getElem_cons_zero]
  refine wpAnyH_done (by kernel_rfl) ?_ _
  have cN := Rm.spNew_ok (HR3.out.below B6.out) (by omega) ft hft
  go_upto_region 9 with (go_at_call 27; refine cN.mono ?_; rintro _ w7 ⟨s, rfl, hs7, hsp7, B7, L7, F7, lf7, hNT⟩; clear cN)
  have hsz6 : W1.heap.size ≤ w6.heap.size := Nat.le_trans B3.out.2.size B6.out.size
  have hxW1 : W.heap.size ≤ W1.heap.size := HU.out.2.1.size
  have hxlt : x < W1.heap.size := lt_of_cell k0
  have hXx := HX.out
  have hZ1 := HZ.out
  have hFr7 : Rm.Fra p b m w6 w7 := hNT.fra
  have kZ7 : Z4 w7 Z et g cs gp sp := kS6.of (hFr7.block Z (lt_of_cell (x := ⟨Z, 0, .none⟩) kS6.1) (by omega) (by omega) (by omega))
  have hB16 : Below W1.heap.size W1 w6 := B3.out.2.trans (B6.out.mono B3.out.2.size)
  have hB26 : Below w2.heap.size w2 w6 := B3.out.1.trans (B6.out.mono B3.out.1.size)
  have sg6 : Segs w6 X (.slice (some ⟨g, 0, .none⟩) 1 cs) [x0] Bq := HPl.out.2.1.below hB26
  have hlen7 : L7.length + 2 = L1.length := by
    have e1 := congrArg List.length hNT.cut
    rw [List.length_append, List.length_take, Nat.min_eq_left (by omega)] at e1
    omega
  have hGw : GwP w6 w7 s p b m N i [x0.1] 0 L7.length w7 := ⟨hFr7, Rm.Tch.of (Rm.Fra.refl _ _ _ _), B7, L7, F7, lf7, SpN.new _ hsp7 hNT (by have h1 := hs7; omega), by simp [tk]⟩
  have cI := layInto_any (w0 := w6) (w := w7) (s := s) (p := p) (b := b) (m := m) (N := N) (r := i) (X := X) (c := cs) (g := g) (gp := gp) (x := x0) (Bq := Bq) (Rp := Rp) sg6 (HU.out.2.2.2.below hB16) et sp (by have := HPl.out.2.2.2.1; omega) (by have := HPl.out.2.2.2.2.1; have h2 : gp < w2.heap.size := lt_of_cell (HPl.out.2.2.2.2.2.2.1 0 (by omega)); have := hB26.size; omega) HPl.out.2.2.2.2.2.1 (fun j hj => (hB26.cell (lt_of_cell (HPl.out.2.2.2.2.2.2.1 j hj))).trans (HPl.out.2.2.2.2.2.2.1 j hj)) h3 (by omega) hs7 HPl.out.2.2.2.2.2.2.2 (by rw [HPl.out.2.2.1]; rfl) (by rw [HPl.out.2.2.1]; decide) 1 (by rw [HPl.out.2.2.1]; decide) (by omega) L7.length (by omega) hGw
  have l0 := (hB16.cell (lt_of_cell k0)).trans k0
  have l1 := (hB16.cell (lt_of_cell k1)).trans k1
  have l2 := (hB16.cell (lt_of_cell k2)).trans k2
  have f0 : ∀ j v, W1.cell? ⟨x, j, .none⟩ = some v → w6.frozen? ⟨x, j, .none⟩ = false := fun j v h => (hB16.frozen (p := ⟨x, j, .none⟩) (lt_of_cell h)).trans (by rw [hXx]; exact HU.out.2.2.1 j)
  have HF : Hid (w6.frozen? ⟨x, 0, .none⟩ = false ∧ w6.frozen? ⟨x, 1, .none⟩ = false ∧ w6.frozen? ⟨x, 2, .none⟩ = false) := ⟨f0 0 _ k0, f0 1 _ k1, f0 2 _ k2⟩
  have H7 : Hid (L7.length + 2 = L1.length ∧ Rm.Fra p b m W w6) := ⟨hlen7, (Rm.Fra.below HU.out.2.1).trans (Rm.Fra.below hB16)⟩
  have hx6 : x < w6.heap.size := lt_of_cell l0
  have hxn : x ≠ p ∧ x ≠ b ∧ x ≠ m := by omega
  have hZ6 : Z < w6.heap.size := lt_of_cell (x := ⟨Z, 0, .none⟩) kS6.1
  have hZn : Z ≠ p ∧ Z ≠ b ∧ Z ≠ m := by omega
  have HKZ : Hid (Z4 w6 Z et g cs gp sp) := kS6
  have HKx : Hid (x = W.heap.size) := hXx
  have HLx : Hid (w6.cell? ⟨x, 0, .none⟩ = some (.int .u64 0) ∧ w6.cell? ⟨x, 1, .none⟩ = some (.int .u64 0) ∧ w6.cell? ⟨x, 2, .none⟩ = some (.int .u64 0)) := ⟨l0, l1, l2⟩
  clear hGw sg6 hNT hFr7 hsp7 hB16 hB26 hlen7 f0 kZ kS kS6 l0 l1 l2 k0 k1 k2 hXx hZ1 hsz6 hxW1 hlt8 c10 c25
  obtain ⟨p0, p1, p2, p3⟩ := kZ7
  go_upto_region 12 with (go_at_call 28; refine cI.mono ?_; rintro _ w8 ⟨rfl, hf8, B8, L8, hr8, hlen8⟩; clear cI)
  have kZ8 : Z4 w8 Z et g cs gp sp := HKZ.out.of (hf8.block Z hZ6 hZn.1 hZn.2.1 hZn.2.2)
  have hbx := hf8.block x hx6 hxn.1 hxn.2.1 hxn.2.2
  have m0 := (cell_heap hbx 0 .none).trans HLx.out.1
  have m1 := (cell_heap hbx 1 .none).trans HLx.out.2.1
  have m2 := (cell_heap hbx 2 .none).trans HLx.out.2.2
  have g0 := (frozen_heap hbx 0 .none).trans HF.out.1
  have g1 := (frozen_heap hbx 1 .none).trans HF.out.2.1
  have g2 := (frozen_heap hbx 2 .none).trans HF.out.2.2
  have H8 : Hid (Rm.Fra p b m W w8 ∧ Rm.Ram w8 p b m N B8 L8 ∧ L8.length + tk (1 + 2) = L7.length) := ⟨H7.out.2.trans hf8, hr8, hlen8⟩
  clear hf8 hr8 hlen8 hbx p0 p1 p2 p3
  obtain ⟨p0, p1, p2, p3⟩ := kZ8
  have cS := start_any et sp (some ⟨g, 0, .none⟩) (some ⟨gp, 0, .none⟩) 1 cs 4096 4096 w8
  have hxl8 : x < w8.heap.size := lt_of_cell m0
  go_wp2_with (go_at_call 29; refine cS.mono ?_; rintro _ w9 ⟨rfl, b9⟩; have H9 : Hid (Below w8.heap.size w8 w9) := b9; replace m0 := (b9.cell (lt_of_cell m0)).trans m0; replace m1 := (b9.cell (lt_of_cell m1)).trans m1; replace m2 := (b9.cell (lt_of_cell m2)).trans m2; replace g0 : w9.frozen? ⟨x, 0, .none⟩ = false := (b9.frozen (p := ⟨x, 0, .none⟩) hxl8).trans g0; replace g1 : w9.frozen? ⟨x, 1, .none⟩ = false := (b9.frozen (p := ⟨x, 1, .none⟩) hxl8).trans g1; replace g2 : w9.frozen? ⟨x, 2, .none⟩ = false := (b9.frozen (p := ⟨x, 2, .none⟩) hxl8).trans g2; clear b9 cS)
  refine bodyPost_ret (v := .tuple #[.pointer (some ⟨s, 0, .none⟩), .agg #[.int .u64 et, .int .u64 sp, .int .u64 sp], .int .i64 0]) (by simp [results, Tryz.results8, go_sem, m0, m1, m2]) rfl ⟨s, et, sp, rfl, ?_, B8, L8, ?_, ?_⟩
  · have hxw := HKx.out
    exact (((H8.out.1.trans (Rm.Fra.below H9.out)).beside ⟨x, 0, .none⟩ _ (by show _ ≤ x; omega)).beside ⟨x, 1, .none⟩ _ (by show _ ≤ x; omega)).beside ⟨x, 2, .none⟩ _ (by show _ ≤ x; omega)
  · obtain ⟨x1, x2, x3⟩ := hxn
    exact (((H8.out.2.1.below H9.out).beside ⟨x, 0, .none⟩ _ (by show p ≠ x; omega) (by show b ≠ x; omega) (by show m ≠ x; omega)).beside ⟨x, 1, .none⟩ _ (by show p ≠ x; omega) (by show b ≠ x; omega) (by show m ≠ x; omega)).beside ⟨x, 2, .none⟩ _ (by show p ≠ x; omega) (by show b ≠ x; omega) (by show m ≠ x; omega)
  · have h1 := H8.out.2.2
    have h2 := H7.out.1
    have h3 : tk (1 + 2) = 5 := rfl
    omega
end Go.Proofs.YtacdgfojdkppmaaGreatDoor
