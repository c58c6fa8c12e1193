import Derived.Test.YtnlbomggadflmabSp
namespace Go.Proofs.Ytnlbomggadflmab
open Go.RowKit
set_option linter.unusedVariables false
set_option linter.unusedSimpArgs false
set_option maxRecDepth 100000
section
variable {w : World} {B p t r : Nat} {P : Nat → Pr} {nx : Int}
set_option maxHeartbeats 4000000 in
theorem step_7 (h : Pa B w p t r P nx) (hB : B ≤ w.heap.size) (kd s ck cn sta : Int) (hk : kd = 7) : Calls Try.prog 9 #[.pointer (some ⟨p, 0, .none⟩), .agg #[.int .i64 kd, .int .i64 s, .int .i64 ck, .int .i64 cn, .int .i32 sta]] w (SpP B w p r) := by
  have b1 := below1 w (.cells #[.int .i64 kd, .int .i64 s, .int .i64 ck, .int .i64 cn, .int .i32 sta] 40)
  have HP0 := h.bel b1
  have hBw : B ≤ (w.alloc (.cells #[.int .i64 kd, .int .i64 s, .int .i64 ck, .int .i64 cn, .int .i32 sta] 40)).heap.size := Nat.le_trans hB b1.size
  have HB1 : Hid (Below B w (w.alloc (.cells #[.int .i64 kd, .int .i64 s, .int .i64 ck, .int .i64 cn, .int .i32 sta] 40))) := b1.mono hB
  have y0 : (w.alloc (.cells #[.int .i64 kd, .int .i64 s, .int .i64 ck, .int .i64 cn, .int .i32 sta] 40)).cell? ⟨w.heap.size, 0, .none⟩ = some (.int .i64 kd) := by rw [World.cell?_alloc_at _ _ _ _ rfl]; rfl
  have y1 : (w.alloc (.cells #[.int .i64 kd, .int .i64 s, .int .i64 ck, .int .i64 cn, .int .i32 sta] 40)).cell? ⟨w.heap.size, 1, .none⟩ = some (.int .i64 s) := by rw [World.cell?_alloc_at _ _ _ _ rfl]; rfl
  have y2 : (w.alloc (.cells #[.int .i64 kd, .int .i64 s, .int .i64 ck, .int .i64 cn, .int .i32 sta] 40)).cell? ⟨w.heap.size, 2, .none⟩ = some (.int .i64 ck) := by rw [World.cell?_alloc_at _ _ _ _ rfl]; rfl
  have y3 : (w.alloc (.cells #[.int .i64 kd, .int .i64 s, .int .i64 ck, .int .i64 cn, .int .i32 sta] 40)).cell? ⟨w.heap.size, 3, .none⟩ = some (.int .i64 cn) := by rw [World.cell?_alloc_at _ _ _ _ rfl]; rfl
  have y4 : (w.alloc (.cells #[.int .i64 kd, .int .i64 s, .int .i64 ck, .int .i64 cn, .int .i32 sta] 40)).cell? ⟨w.heap.size, 4, .none⟩ = some (.int .i32 sta) := by rw [World.cell?_alloc_at _ _ _ _ rfl]; rfl
  have n1 : p ≠ t := h.ne.2.1
  have n2 : p ≠ r := h.ne.2.2
  have n3 : w.heap.size ≠ t := by have := h.tT.lt; omega
  have n4 : w.heap.size ≠ r := by have := h.tR.lt; omega
  have HPP : Hid (Pa B (w.alloc (.cells #[.int .i64 kd, .int .i64 s, .int .i64 ck, .int .i64 cn, .int .i32 sta] 40)) p t r P nx) := HP0
  have HYY : Hid ((w.alloc (.cells #[.int .i64 kd, .int .i64 s, .int .i64 ck, .int .i64 cn, .int .i32 sta] 40)).cell? ⟨w.heap.size, 0, .none⟩ = some (.int .i64 kd) ∧ (w.alloc (.cells #[.int .i64 kd, .int .i64 s, .int .i64 ck, .int .i64 cn, .int .i32 sta] 40)).cell? ⟨w.heap.size, 1, .none⟩ = some (.int .i64 s) ∧ (w.alloc (.cells #[.int .i64 kd, .int .i64 s, .int .i64 ck, .int .i64 cn, .int .i32 sta] 40)).cell? ⟨w.heap.size, 2, .none⟩ = some (.int .i64 ck) ∧ (w.alloc (.cells #[.int .i64 kd, .int .i64 s, .int .i64 ck, .int .i64 cn, .int .i32 sta] 40)).cell? ⟨w.heap.size, 3, .none⟩ = some (.int .i64 cn) ∧ (w.alloc (.cells #[.int .i64 kd, .int .i64 s, .int .i64 ck, .int .i64 cn, .int .i32 sta] 40)).cell? ⟨w.heap.size, 4, .none⟩ = some (.int .i32 sta)) := ⟨y0, y1, y2, y3, y4⟩
  clear h HP0 b1
  subst hk
  go_enter Try.func9, Try.ntmps9
  go_upto_region 19 with fail
  generalize w.alloc (.cells #[.int .i64 7, .int .i64 s, .int .i64 ck, .int .i64 cn, .int .i32 sta] 40) = w1 at *
  generalize w.heap.size = y at *
  clear y0 y1 y2 y3 y4
  refine wp_region_held_drew (S := (fun W => W.cell? ⟨p, 0, .none⟩ = some (.pointer (some ⟨t, 0, .none⟩)) ∧ W.cell? ⟨p, 1, .none⟩ = some (.pointer (some ⟨r, 0, .none⟩)) ∧ W.cell? ⟨y, 0, .none⟩ = some (.int .i64 7) ∧ W.cell? ⟨y, 1, .none⟩ = some (.int .i64 s) ∧ W.cell? ⟨y, 2, .none⟩ = some (.int .i64 ck) ∧ W.cell? ⟨y, 3, .none⟩ = some (.int .i64 cn) ∧ W.cell? ⟨y, 4, .none⟩ = some (.int .i32 sta))) (by kernel_rfl) ⟨HPP.out.c0, HPP.out.c1, HYY.out.1, HYY.out.2.1, HYY.out.2.2.1, HYY.out.2.2.2.1, HYY.out.2.2.2.2⟩ (fun hHeld => ?_)
  refine wpAnyH_take (i := 0) (v := (.pointer (some ⟨p, 0, .none⟩))) rfl (by kernel_rfl) (by kernel_rfl) (by kernel_rfl) (fun _ _ _ h => h) (Or.inl ⟨by rfl, fun ww hSw => by (try dsimp only at hSw); obtain ⟨s0, s1, s2, s3, s4, s5, s6⟩ := hSw; go_simp⟩) (by assumption) ?_
  simp only [Act.put, List.setIfInBounds_toArray, List.set_cons_zero, List.set_cons_succ, List.getElem_toArray, List.getElem_cons_succ, List.getElem_cons_zero]
  refine wpAnyH_take (i := 1) (v := (.pointer (some ⟨p, 0, .none⟩))) rfl (by kernel_rfl) (by kernel_rfl) (by kernel_rfl) (fun _ _ _ h => h) (Or.inl ⟨by rfl, fun ww hSw => by (try dsimp only at hSw); obtain ⟨s0, s1, s2, s3, s4, s5, s6⟩ := hSw; go_simp⟩) (by assumption) ?_
  simp only [Act.put, List.setIfInBounds_toArray, List.set_cons_zero, List.set_cons_succ, List.getElem_toArray, List.getElem_cons_succ, List.getElem_cons_zero]
  refine wpAnyH_take (i := 2) (v := (.pointer (some ⟨p, 0, .none⟩))) rfl (by kernel_rfl) (by kernel_rfl) (by kernel_rfl) (fun _ _ _ h => h) (Or.inl ⟨by rfl, fun ww hSw => by (try dsimp only at hSw); obtain ⟨s0, s1, s2, s3, s4, s5, s6⟩ := hSw; go_simp⟩) (by assumption) ?_
  simp only [Act.put, List.setIfInBounds_toArray, List.set_cons_zero, List.set_cons_succ, List.getElem_toArray, List.getElem_cons_succ, List.getElem_cons_zero]
  refine wpAnyH_take (i := 3) (v := (.pointer (some ⟨t, 0, .none⟩))) rfl (by kernel_rfl) (by kernel_rfl) (by kernel_rfl) (fun _ _ _ h => h) (Or.inl ⟨by rfl, fun ww hSw => by (try dsimp only at hSw); obtain ⟨s0, s1, s2, s3, s4, s5, s6⟩ := hSw; go_simp⟩) (by assumption) ?_
  simp only [Act.put, List.setIfInBounds_toArray, List.set_cons_zero, List.set_cons_succ, List.getElem_toArray, List.getElem_cons_succ, List.getElem_cons_zero]
  refine wpAnyH_take (i := 4) (v := (.pointer (some ⟨y, 1, .none⟩))) rfl (by kernel_rfl) (by kernel_rfl) (by kernel_rfl) (fun _ _ _ h => h) (Or.inl ⟨by rfl, fun ww hSw => by (try dsimp only at hSw); obtain ⟨s0, s1, s2, s3, s4, s5, s6⟩ := hSw; go_simp⟩) (by assumption) ?_
  simp only [Act.put, List.setIfInBounds_toArray, List.set_cons_zero, List.set_cons_succ, List.getElem_toArray, List.getElem_cons_succ, List.getElem_cons_zero]
  refine wpAnyH_take (i := 5) (v := (.int .i64 s)) rfl (by kernel_rfl) (by kernel_rfl) (by kernel_rfl) (fun _ _ _ h => h) (Or.inl ⟨by rfl, fun ww hSw => by (try dsimp only at hSw); obtain ⟨s0, s1, s2, s3, s4, s5, s6⟩ := hSw; go_simp⟩) (by assumption) ?_
  simp only [Act.put, List.setIfInBounds_toArray, List.set_cons_zero, List.set_cons_succ, List.getElem_toArray, List.getElem_cons_succ, List.getElem_cons_zero]
  refine wpAnyH_take (i := 6) (v := (.pointer (some ⟨y, 4, .none⟩))) rfl (by kernel_rfl) (by kernel_rfl) (by kernel_rfl) (fun _ _ _ h => h) (Or.inl ⟨by rfl, fun ww hSw => by (try dsimp only at hSw); obtain ⟨s0, s1, s2, s3, s4, s5, s6⟩ := hSw; go_simp⟩) (by assumption) ?_
  simp only [Act.put, List.setIfInBounds_toArray, List.set_cons_zero, List.set_cons_succ, List.getElem_toArray, List.getElem_cons_succ, List.getElem_cons_zero]
  refine wpAnyH_take (i := 7) (v := (.int .i32 sta)) rfl (by kernel_rfl) (by kernel_rfl) (by kernel_rfl) (fun _ _ _ h => h) (Or.inl ⟨by rfl, fun ww hSw => by (try dsimp only at hSw); obtain ⟨s0, s1, s2, s3, s4, s5, s6⟩ := hSw; go_simp⟩) (by assumption) ?_
  simp only [Act.put, List.setIfInBounds_toArray, List.set_cons_zero, List.set_cons_succ, List.getElem_toArray, List.getElem_cons_succ, List.getElem_cons_zero]
  refine wpAnyH_ready (rs := [8]) (by kernel_rfl) (by simp) ?_
  refine AllReadyH.cons rfl (fun K hK => ?_) AllReadyH.nil
  have HP : Pa B w1.drew p t r P nx := ⟨HPP.out.tT.keep rfl, HPP.out.tR.keep rfl, HPP.out.i, HPP.out.c0, HPP.out.c1, HPP.out.f0, HPP.out.ne, HPP.out.le⟩
  have HI := HP.i
  have kk := end_any HP.tT HI.n1 s sta
  go_simp
  refine kk.mono ?_
  rintro e w2 ⟨rfl, hT, hR⟩
  have tz : Trn t w1.drew w2 := hR
  have kS : w2.cell? ⟨p, 0, .none⟩ = some (.pointer (some ⟨t, 0, .none⟩)) ∧ w2.cell? ⟨p, 1, .none⟩ = some (.pointer (some ⟨r, 0, .none⟩)) ∧ w2.cell? ⟨y, 0, .none⟩ = some (.int .i64 7) ∧ w2.cell? ⟨y, 1, .none⟩ = some (.int .i64 s) ∧ w2.cell? ⟨y, 2, .none⟩ = some (.int .i64 ck) ∧ w2.cell? ⟨y, 3, .none⟩ = some (.int .i64 cn) ∧ w2.cell? ⟨y, 4, .none⟩ = some (.int .i32 sta) := ⟨(tz.cell (p := ⟨p, 0, .none⟩) (lt_cell hHeld.1) n1).trans hHeld.1, (tz.cell (p := ⟨p, 1, .none⟩) (lt_cell hHeld.2.1) n1).trans hHeld.2.1, (tz.cell (p := ⟨y, 0, .none⟩) (lt_cell hHeld.2.2.1) n3).trans hHeld.2.2.1, (tz.cell (p := ⟨y, 1, .none⟩) (lt_cell hHeld.2.2.2.1) n3).trans hHeld.2.2.2.1, (tz.cell (p := ⟨y, 2, .none⟩) (lt_cell hHeld.2.2.2.2.1) n3).trans hHeld.2.2.2.2.1, (tz.cell (p := ⟨y, 3, .none⟩) (lt_cell hHeld.2.2.2.2.2.1) n3).trans hHeld.2.2.2.2.2.1, (tz.cell (p := ⟨y, 4, .none⟩) (lt_cell hHeld.2.2.2.2.2.2) n3).trans hHeld.2.2.2.2.2.2⟩
  have H2 : Hid (Tb w2 t (enP P s sta) nx ∧ Tb w2 r P nx ∧ Trn t w1 w2) := ⟨hT, tz.tb HP.tR HP.ne.1.symm, (Trn.drew t w1).trans tz⟩
  clear kk HP tz
  refine hK.out _ _ kS (fun hHeld => ?_)
  clear hK K
  try simp only [Act.put, List.setIfInBounds_toArray, List.set_cons_zero, List.set_cons_succ, List.getElem_toArray, List.getElem_cons_succ, List.getElem_cons_zero]
  refine wpAnyH_take (i := 9) (v := (.tuple #[.bool (enZ P s sta), .int .i64 (enE P s)])) rfl (by kernel_rfl) (by kernel_rfl) (by kernel_rfl) (fun _ _ _ h => h) (Or.inl ⟨by rfl, fun ww hSw => by (try dsimp only at hSw); go_simp⟩) (by assumption) ?_
  simp only [Act.put, List.setIfInBounds_toArray, List.set_cons_zero, List.set_cons_succ, List.getElem_toArray, List.getElem_cons_succ, List.getElem_cons_zero]
  refine wpAnyH_take (i := 10) (v := (.bool (enZ P s sta))) rfl (by kernel_rfl) (by kernel_rfl) (by kernel_rfl) (fun _ _ _ h => h) (Or.inl ⟨by rfl, fun ww hSw => by (try dsimp only at hSw); go_simp⟩) (by assumption) ?_
  simp only [Act.put, List.setIfInBounds_toArray, List.set_cons_zero, List.set_cons_succ, List.getElem_toArray, List.getElem_cons_succ, List.getElem_cons_zero]
  refine wpAnyH_take (i := 11) (v := (.int .i64 (enE P s))) rfl (by kernel_rfl) (by kernel_rfl) (by kernel_rfl) (fun _ _ _ h => h) (Or.inl ⟨by rfl, fun ww hSw => by (try dsimp only at hSw); go_simp⟩) (by assumption) ?_
  simp only [Act.put, List.setIfInBounds_toArray, List.set_cons_zero, List.set_cons_succ, List.getElem_toArray, List.getElem_cons_succ, List.getElem_cons_zero]
  refine wpAnyH_take (i := 12) (v := (.bool (enZ P s sta))) rfl (by kernel_rfl) (by kernel_rfl) (by kernel_rfl) (fun _ _ _ h => h) (Or.inl ⟨by rfl, fun ww hSw => by (try dsimp only at hSw); go_simp⟩) (by assumption) ?_
  simp only [Act.put, List.setIfInBounds_toArray, List.set_cons_zero, List.set_cons_succ, List.getElem_toArray, List.getElem_cons_succ, List.getElem_cons_zero]
  refine wpAnyH_take (i := 13) (v := (.int .i64 (enE P s))) rfl (by kernel_rfl) (by kernel_rfl) (by kernel_rfl) (fun _ _ _ h => h) (Or.inl ⟨by rfl, fun ww hSw => by (try dsimp only at hSw); go_simp⟩) (by assumption) ?_
  simp only [Act.put, List.setIfInBounds_toArray, List.set_cons_zero, List.set_cons_succ, List.getElem_toArray, List.getElem_cons_succ, List.getElem_cons_zero]
  refine wpAnyH_done (by kernel_rfl) ?_ _
  have HS2 : Hid (w2.cell? ⟨p, 0, .none⟩ = some (.pointer (some ⟨t, 0, .none⟩)) ∧ w2.cell? ⟨p, 1, .none⟩ = some (.pointer (some ⟨r, 0, .none⟩)) ∧ w2.cell? ⟨y, 0, .none⟩ = some (.int .i64 7) ∧ w2.cell? ⟨y, 1, .none⟩ = some (.int .i64 s) ∧ w2.cell? ⟨y, 2, .none⟩ = some (.int .i64 ck) ∧ w2.cell? ⟨y, 3, .none⟩ = some (.int .i64 cn) ∧ w2.cell? ⟨y, 4, .none⟩ = some (.int .i32 sta)) := hHeld
  clear hHeld kS
  go_upto_region 20 with fail
  refine wp_region_held_drew (S := (fun W => W.cell? ⟨p, 0, .none⟩ = some (.pointer (some ⟨t, 0, .none⟩)) ∧ W.cell? ⟨p, 1, .none⟩ = some (.pointer (some ⟨r, 0, .none⟩)) ∧ W.cell? ⟨y, 0, .none⟩ = some (.int .i64 7) ∧ W.cell? ⟨y, 1, .none⟩ = some (.int .i64 s) ∧ W.cell? ⟨y, 2, .none⟩ = some (.int .i64 ck) ∧ W.cell? ⟨y, 3, .none⟩ = some (.int .i64 cn) ∧ W.cell? ⟨y, 4, .none⟩ = some (.int .i32 sta))) (by kernel_rfl) ⟨HS2.out.1, HS2.out.2.1, HS2.out.2.2.1, HS2.out.2.2.2.1, HS2.out.2.2.2.2.1, HS2.out.2.2.2.2.2.1, HS2.out.2.2.2.2.2.2⟩ (fun hHeld => ?_)
  refine wpAnyH_take (i := 0) (v := (.pointer (some ⟨p, 0, .none⟩))) rfl (by kernel_rfl) (by kernel_rfl) (by kernel_rfl) (fun _ _ _ h => h) (Or.inl ⟨by rfl, fun ww hSw => by (try dsimp only at hSw); obtain ⟨s0, s1, s2, s3, s4, s5, s6⟩ := hSw; go_simp⟩) (by assumption) ?_
  simp only [Act.put, List.setIfInBounds_toArray, List.set_cons_zero, List.set_cons_succ, List.getElem_toArray, List.getElem_cons_succ, List.getElem_cons_zero]
  refine wpAnyH_take (i := 1) (v := (.pointer (some ⟨p, 0, .none⟩))) rfl (by kernel_rfl) (by kernel_rfl) (by kernel_rfl) (fun _ _ _ h => h) (Or.inl ⟨by rfl, fun ww hSw => by (try dsimp only at hSw); obtain ⟨s0, s1, s2, s3, s4, s5, s6⟩ := hSw; go_simp⟩) (by assumption) ?_
  simp only [Act.put, List.setIfInBounds_toArray, List.set_cons_zero, List.set_cons_succ, List.getElem_toArray, List.getElem_cons_succ, List.getElem_cons_zero]
  refine wpAnyH_take (i := 2) (v := (.pointer (some ⟨p, 1, .none⟩))) rfl (by kernel_rfl) (by kernel_rfl) (by kernel_rfl) (fun _ _ _ h => h) (Or.inl ⟨by rfl, fun ww hSw => by (try dsimp only at hSw); obtain ⟨s0, s1, s2, s3, s4, s5, s6⟩ := hSw; go_simp⟩) (by assumption) ?_
  simp only [Act.put, List.setIfInBounds_toArray, List.set_cons_zero, List.set_cons_succ, List.getElem_toArray, List.getElem_cons_succ, List.getElem_cons_zero]
  refine wpAnyH_take (i := 3) (v := (.pointer (some ⟨r, 0, .none⟩))) rfl (by kernel_rfl) (by kernel_rfl) (by kernel_rfl) (fun _ _ _ h => h) (Or.inl ⟨by rfl, fun ww hSw => by (try dsimp only at hSw); obtain ⟨s0, s1, s2, s3, s4, s5, s6⟩ := hSw; go_simp⟩) (by assumption) ?_
  simp only [Act.put, List.setIfInBounds_toArray, List.set_cons_zero, List.set_cons_succ, List.getElem_toArray, List.getElem_cons_succ, List.getElem_cons_zero]
  refine wpAnyH_take (i := 4) (v := (.pointer (some ⟨y, 1, .none⟩))) rfl (by kernel_rfl) (by kernel_rfl) (by kernel_rfl) (fun _ _ _ h => h) (Or.inl ⟨by rfl, fun ww hSw => by (try dsimp only at hSw); obtain ⟨s0, s1, s2, s3, s4, s5, s6⟩ := hSw; go_simp⟩) (by assumption) ?_
  simp only [Act.put, List.setIfInBounds_toArray, List.set_cons_zero, List.set_cons_succ, List.getElem_toArray, List.getElem_cons_succ, List.getElem_cons_zero]
  refine wpAnyH_take (i := 5) (v := (.int .i64 s)) rfl (by kernel_rfl) (by kernel_rfl) (by kernel_rfl) (fun _ _ _ h => h) (Or.inl ⟨by rfl, fun ww hSw => by (try dsimp only at hSw); obtain ⟨s0, s1, s2, s3, s4, s5, s6⟩ := hSw; go_simp⟩) (by assumption) ?_
  simp only [Act.put, List.setIfInBounds_toArray, List.set_cons_zero, List.set_cons_succ, List.getElem_toArray, List.getElem_cons_succ, List.getElem_cons_zero]
  refine wpAnyH_take (i := 6) (v := (.pointer (some ⟨y, 4, .none⟩))) rfl (by kernel_rfl) (by kernel_rfl) (by kernel_rfl) (fun _ _ _ h => h) (Or.inl ⟨by rfl, fun ww hSw => by (try dsimp only at hSw); obtain ⟨s0, s1, s2, s3, s4, s5, s6⟩ := hSw; go_simp⟩) (by assumption) ?_
  simp only [Act.put, List.setIfInBounds_toArray, List.set_cons_zero, List.set_cons_succ, List.getElem_toArray, List.getElem_cons_succ, List.getElem_cons_zero]
  refine wpAnyH_take (i := 7) (v := (.int .i32 sta)) rfl (by kernel_rfl) (by kernel_rfl) (by kernel_rfl) (fun _ _ _ h => h) (Or.inl ⟨by rfl, fun ww hSw => by (try dsimp only at hSw); obtain ⟨s0, s1, s2, s3, s4, s5, s6⟩ := hSw; go_simp⟩) (by assumption) ?_
  simp only [Act.put, List.setIfInBounds_toArray, List.set_cons_zero, List.set_cons_succ, List.getElem_toArray, List.getElem_cons_succ, List.getElem_cons_zero]
  refine wpAnyH_ready (rs := [8]) (by kernel_rfl) (by simp) ?_
  refine AllReadyH.cons rfl (fun K hK => ?_) AllReadyH.nil
  have HP : Tb w2.drew r P nx ∧ Inv P nx := ⟨H2.out.2.1.keep rfl, HI⟩
  have kk := rend_any HP.1 HP.2 s sta
  go_simp
  refine kk.mono ?_
  rintro e w3 ⟨rfl, hT, hR⟩
  have tz : Trn r w2.drew w3 := hR
  have kS : w3.cell? ⟨p, 0, .none⟩ = some (.pointer (some ⟨t, 0, .none⟩)) ∧ w3.cell? ⟨p, 1, .none⟩ = some (.pointer (some ⟨r, 0, .none⟩)) ∧ w3.cell? ⟨y, 0, .none⟩ = some (.int .i64 7) ∧ w3.cell? ⟨y, 1, .none⟩ = some (.int .i64 s) ∧ w3.cell? ⟨y, 2, .none⟩ = some (.int .i64 ck) ∧ w3.cell? ⟨y, 3, .none⟩ = some (.int .i64 cn) ∧ w3.cell? ⟨y, 4, .none⟩ = some (.int .i32 sta) := ⟨(tz.cell (p := ⟨p, 0, .none⟩) (lt_cell hHeld.1) n2).trans hHeld.1, (tz.cell (p := ⟨p, 1, .none⟩) (lt_cell hHeld.2.1) n2).trans hHeld.2.1, (tz.cell (p := ⟨y, 0, .none⟩) (lt_cell hHeld.2.2.1) n4).trans hHeld.2.2.1, (tz.cell (p := ⟨y, 1, .none⟩) (lt_cell hHeld.2.2.2.1) n4).trans hHeld.2.2.2.1, (tz.cell (p := ⟨y, 2, .none⟩) (lt_cell hHeld.2.2.2.2.1) n4).trans hHeld.2.2.2.2.1, (tz.cell (p := ⟨y, 3, .none⟩) (lt_cell hHeld.2.2.2.2.2.1) n4).trans hHeld.2.2.2.2.2.1, (tz.cell (p := ⟨y, 4, .none⟩) (lt_cell hHeld.2.2.2.2.2.2) n4).trans hHeld.2.2.2.2.2.2⟩
  have H3 : Hid (Tb w3 t (enP P s sta) nx ∧ Tb w3 r (enP P s sta) nx ∧ Trn r w2 w3) := ⟨tz.tb (H2.out.1.keep (w' := w2.drew) rfl) HPP.out.ne.1, hT, (Trn.drew r w2).trans tz⟩
  clear kk HP tz
  refine hK.out _ _ kS (fun hHeld => ?_)
  clear hK K
  try simp only [Act.put, List.setIfInBounds_toArray, List.set_cons_zero, List.set_cons_succ, List.getElem_toArray, List.getElem_cons_succ, List.getElem_cons_zero]
  refine wpAnyH_take (i := 9) (v := (.tuple #[.bool (enZ P s sta), .int .i64 (enE P s)])) rfl (by kernel_rfl) (by kernel_rfl) (by kernel_rfl) (fun _ _ _ h => h) (Or.inl ⟨by rfl, fun ww hSw => by (try dsimp only at hSw); go_simp⟩) (by assumption) ?_
  simp only [Act.put, List.setIfInBounds_toArray, List.set_cons_zero, List.set_cons_succ, List.getElem_toArray, List.getElem_cons_succ, List.getElem_cons_zero]
  refine wpAnyH_take (i := 10) (v := (.bool (enZ P s sta))) rfl (by kernel_rfl) (by kernel_rfl) (by kernel_rfl) (fun _ _ _ h => h) (Or.inl ⟨by rfl, fun ww hSw => by (try dsimp only at hSw); go_simp⟩) (by assumption) ?_
  simp only [Act.put, List.setIfInBounds_toArray, List.set_cons_zero, List.set_cons_succ, List.getElem_toArray, List.getElem_cons_succ, List.getElem_cons_zero]
  refine wpAnyH_take (i := 11) (v := (.int .i64 (enE P s))) rfl (by kernel_rfl) (by kernel_rfl) (by kernel_rfl) (fun _ _ _ h => h) (Or.inl ⟨by rfl, fun ww hSw => by (try dsimp only at hSw); go_simp⟩) (by assumption) ?_
  simp only [Act.put, List.setIfInBounds_toArray, List.set_cons_zero, List.set_cons_succ, List.getElem_toArray, List.getElem_cons_succ, List.getElem_cons_zero]
  refine wpAnyH_take (i := 12) (v := (.bool (enZ P s sta))) rfl (by kernel_rfl) (by kernel_rfl) (by kernel_rfl) (fun _ _ _ h => h) (Or.inl ⟨by rfl, fun ww hSw => by (try dsimp only at hSw); go_simp⟩) (by assumption) ?_
  simp only [Act.put, List.setIfInBounds_toArray, List.set_cons_zero, List.set_cons_succ, List.getElem_toArray, List.getElem_cons_succ, List.getElem_cons_zero]
  refine wpAnyH_take (i := 13) (v := (.int .i64 (enE P s))) rfl (by kernel_rfl) (by kernel_rfl) (by kernel_rfl) (fun _ _ _ h => h) (Or.inl ⟨by rfl, fun ww hSw => by (try dsimp only at hSw); go_simp⟩) (by assumption) ?_
  simp only [Act.put, List.setIfInBounds_toArray, List.set_cons_zero, List.set_cons_succ, List.getElem_toArray, List.getElem_cons_succ, List.getElem_cons_zero]
  refine wpAnyH_done (by kernel_rfl) ?_ _
  have HIN : Hid (Inv (enP P s sta) nx) := HI.ends s sta
  clear HI kS
  have HH : Hid (w3.cell? ⟨p, 0, .none⟩ = some (.pointer (some ⟨t, 0, .none⟩)) ∧ w3.cell? ⟨p, 1, .none⟩ = some (.pointer (some ⟨r, 0, .none⟩)) ∧ w3.cell? ⟨y, 0, .none⟩ = some (.int .i64 7) ∧ w3.cell? ⟨y, 1, .none⟩ = some (.int .i64 s) ∧ w3.cell? ⟨y, 2, .none⟩ = some (.int .i64 ck) ∧ w3.cell? ⟨y, 3, .none⟩ = some (.int .i64 cn) ∧ w3.cell? ⟨y, 4, .none⟩ = some (.int .i32 sta)) := hHeld
  clear hHeld
  go_wp2
  go_ret
  refine ⟨by simp, t, (enP P s sta), nx, ⟨H3.out.1, H3.out.2.1, HIN.out, HH.out.1, HH.out.2.1, ?_, HPP.out.ne, HPP.out.le⟩, ?_⟩
  · have q1 := lt_cell HPP.out.c0
    have q2 : p < w2.heap.size := Nat.lt_of_lt_of_le q1 H2.out.2.2.size
    exact (H3.out.2.2.frozen (p := ⟨p, 0, .none⟩) q2 n2).trans ((H2.out.2.2.frozen (p := ⟨p, 0, .none⟩) q1 n1).trans HPP.out.f0)
  · have a1 : Below B w1 w2 := H2.out.2.2.toBelow HPP.out.le.2.1 hBw
    have a2 : Below B w2 w3 := H3.out.2.2.toBelow HPP.out.le.2.2 (Nat.le_trans hBw a1.size)
    exact (HB1.out.trans a1).trans a2
set_option maxHeartbeats 4000000 in
theorem step_8 (h : Pa B w p t r P nx) (hB : B ≤ w.heap.size) (kd s ck cn sta : Int) (hk : kd = 8) : Calls Try.prog 9 #[.pointer (some ⟨p, 0, .none⟩), .agg #[.int .i64 kd, .int .i64 s, .int .i64 ck, .int .i64 cn, .int .i32 sta]] w (SpP B w p r) := by
  have b1 := below1 w (.cells #[.int .i64 kd, .int .i64 s, .int .i64 ck, .int .i64 cn, .int .i32 sta] 40)
  have HP0 := h.bel b1
  have hBw : B ≤ (w.alloc (.cells #[.int .i64 kd, .int .i64 s, .int .i64 ck, .int .i64 cn, .int .i32 sta] 40)).heap.size := Nat.le_trans hB b1.size
  have HB1 : Hid (Below B w (w.alloc (.cells #[.int .i64 kd, .int .i64 s, .int .i64 ck, .int .i64 cn, .int .i32 sta] 40))) := b1.mono hB
  have y0 : (w.alloc (.cells #[.int .i64 kd, .int .i64 s, .int .i64 ck, .int .i64 cn, .int .i32 sta] 40)).cell? ⟨w.heap.size, 0, .none⟩ = some (.int .i64 kd) := by rw [World.cell?_alloc_at _ _ _ _ rfl]; rfl
  have y1 : (w.alloc (.cells #[.int .i64 kd, .int .i64 s, .int .i64 ck, .int .i64 cn, .int .i32 sta] 40)).cell? ⟨w.heap.size, 1, .none⟩ = some (.int .i64 s) := by rw [World.cell?_alloc_at _ _ _ _ rfl]; rfl
  have y2 : (w.alloc (.cells #[.int .i64 kd, .int .i64 s, .int .i64 ck, .int .i64 cn, .int .i32 sta] 40)).cell? ⟨w.heap.size, 2, .none⟩ = some (.int .i64 ck) := by rw [World.cell?_alloc_at _ _ _ _ rfl]; rfl
  have y3 : (w.alloc (.cells #[.int .i64 kd, .int .i64 s, .int .i64 ck, .int .i64 cn, .int .i32 sta] 40)).cell? ⟨w.heap.size, 3, .none⟩ = some (.int .i64 cn) := by rw [World.cell?_alloc_at _ _ _ _ rfl]; rfl
  have y4 : (w.alloc (.cells #[.int .i64 kd, .int .i64 s, .int .i64 ck, .int .i64 cn, .int .i32 sta] 40)).cell? ⟨w.heap.size, 4, .none⟩ = some (.int .i32 sta) := by rw [World.cell?_alloc_at _ _ _ _ rfl]; rfl
  have n1 : p ≠ t := h.ne.2.1
  have n2 : p ≠ r := h.ne.2.2
  have n3 : w.heap.size ≠ t := by have := h.tT.lt; omega
  have n4 : w.heap.size ≠ r := by have := h.tR.lt; omega
  have HPP : Hid (Pa B (w.alloc (.cells #[.int .i64 kd, .int .i64 s, .int .i64 ck, .int .i64 cn, .int .i32 sta] 40)) p t r P nx) := HP0
  have HYY : Hid ((w.alloc (.cells #[.int .i64 kd, .int .i64 s, .int .i64 ck, .int .i64 cn, .int .i32 sta] 40)).cell? ⟨w.heap.size, 0, .none⟩ = some (.int .i64 kd) ∧ (w.alloc (.cells #[.int .i64 kd, .int .i64 s, .int .i64 ck, .int .i64 cn, .int .i32 sta] 40)).cell? ⟨w.heap.size, 1, .none⟩ = some (.int .i64 s) ∧ (w.alloc (.cells #[.int .i64 kd, .int .i64 s, .int .i64 ck, .int .i64 cn, .int .i32 sta] 40)).cell? ⟨w.heap.size, 2, .none⟩ = some (.int .i64 ck) ∧ (w.alloc (.cells #[.int .i64 kd, .int .i64 s, .int .i64 ck, .int .i64 cn, .int .i32 sta] 40)).cell? ⟨w.heap.size, 3, .none⟩ = some (.int .i64 cn) ∧ (w.alloc (.cells #[.int .i64 kd, .int .i64 s, .int .i64 ck, .int .i64 cn, .int .i32 sta] 40)).cell? ⟨w.heap.size, 4, .none⟩ = some (.int .i32 sta)) := ⟨y0, y1, y2, y3, y4⟩
  clear h HP0 b1
  subst hk
  go_enter Try.func9, Try.ntmps9
  go_upto_region 23 with fail
  generalize w.alloc (.cells #[.int .i64 8, .int .i64 s, .int .i64 ck, .int .i64 cn, .int .i32 sta] 40) = w1 at *
  generalize w.heap.size = y at *
  clear y0 y1 y2 y3 y4
  refine wp_region_held_drew (S := (fun W => W.cell? ⟨p, 0, .none⟩ = some (.pointer (some ⟨t, 0, .none⟩)) ∧ W.cell? ⟨p, 1, .none⟩ = some (.pointer (some ⟨r, 0, .none⟩)) ∧ W.cell? ⟨y, 0, .none⟩ = some (.int .i64 8) ∧ W.cell? ⟨y, 1, .none⟩ = some (.int .i64 s) ∧ W.cell? ⟨y, 2, .none⟩ = some (.int .i64 ck) ∧ W.cell? ⟨y, 3, .none⟩ = some (.int .i64 cn) ∧ W.cell? ⟨y, 4, .none⟩ = some (.int .i32 sta))) (by kernel_rfl) ⟨HPP.out.c0, HPP.out.c1, HYY.out.1, HYY.out.2.1, HYY.out.2.2.1, HYY.out.2.2.2.1, HYY.out.2.2.2.2⟩ (fun hHeld => ?_)
  refine wpAnyH_take (i := 0) (v := (.pointer (some ⟨p, 0, .none⟩))) rfl (by kernel_rfl) (by kernel_rfl) (by kernel_rfl) (fun _ _ _ h => h) (Or.inl ⟨by rfl, fun ww hSw => by (try dsimp only at hSw); obtain ⟨s0, s1, s2, s3, s4, s5, s6⟩ := hSw; go_simp⟩) (by assumption) ?_
  simp only [Act.put, List.setIfInBounds_toArray, List.set_cons_zero, List.set_cons_succ, List.getElem_toArray, List.getElem_cons_succ, List.getElem_cons_zero]
  refine wpAnyH_take (i := 1) (v := (.pointer (some ⟨p, 0, .none⟩))) rfl (by kernel_rfl) (by kernel_rfl) (by kernel_rfl) (fun _ _ _ h => h) (Or.inl ⟨by rfl, fun ww hSw => by (try dsimp only at hSw); obtain ⟨s0, s1, s2, s3, s4, s5, s6⟩ := hSw; go_simp⟩) (by assumption) ?_
  simp only [Act.put, List.setIfInBounds_toArray, List.set_cons_zero, List.set_cons_succ, List.getElem_toArray, List.getElem_cons_succ, List.getElem_cons_zero]
  refine wpAnyH_take (i := 2) (v := (.pointer (some ⟨p, 0, .none⟩))) rfl (by kernel_rfl) (by kernel_rfl) (by kernel_rfl) (fun _ _ _ h => h) (Or.inl ⟨by rfl, fun ww hSw => by (try dsimp only at hSw); obtain ⟨s0, s1, s2, s3, s4, s5, s6⟩ := hSw; go_simp⟩) (by assumption) ?_
  simp only [Act.put, List.setIfInBounds_toArray, List.set_cons_zero, List.set_cons_succ, List.getElem_toArray, List.getElem_cons_succ, List.getElem_cons_zero]
  refine wpAnyH_take (i := 3) (v := (.pointer (some ⟨t, 0, .none⟩))) rfl (by kernel_rfl) (by kernel_rfl) (by kernel_rfl) (fun _ _ _ h => h) (Or.inl ⟨by rfl, fun ww hSw => by (try dsimp only at hSw); obtain ⟨s0, s1, s2, s3, s4, s5, s6⟩ := hSw; go_simp⟩) (by assumption) ?_
  simp only [Act.put, List.setIfInBounds_toArray, List.set_cons_zero, List.set_cons_succ, List.getElem_toArray, List.getElem_cons_succ, List.getElem_cons_zero]
  refine wpAnyH_take (i := 4) (v := (.pointer (some ⟨y, 1, .none⟩))) rfl (by kernel_rfl) (by kernel_rfl) (by kernel_rfl) (fun _ _ _ h => h) (Or.inl ⟨by rfl, fun ww hSw => by (try dsimp only at hSw); obtain ⟨s0, s1, s2, s3, s4, s5, s6⟩ := hSw; go_simp⟩) (by assumption) ?_
  simp only [Act.put, List.setIfInBounds_toArray, List.set_cons_zero, List.set_cons_succ, List.getElem_toArray, List.getElem_cons_succ, List.getElem_cons_zero]
  refine wpAnyH_take (i := 5) (v := (.int .i64 s)) rfl (by kernel_rfl) (by kernel_rfl) (by kernel_rfl) (fun _ _ _ h => h) (Or.inl ⟨by rfl, fun ww hSw => by (try dsimp only at hSw); obtain ⟨s0, s1, s2, s3, s4, s5, s6⟩ := hSw; go_simp⟩) (by assumption) ?_
  simp only [Act.put, List.setIfInBounds_toArray, List.set_cons_zero, List.set_cons_succ, List.getElem_toArray, List.getElem_cons_succ, List.getElem_cons_zero]
  refine wpAnyH_ready (rs := [6]) (by kernel_rfl) (by simp) ?_
  refine AllReadyH.cons rfl (fun K hK => ?_) AllReadyH.nil
  have HP : Pa B w1.drew p t r P nx := ⟨HPP.out.tT.keep rfl, HPP.out.tR.keep rfl, HPP.out.i, HPP.out.c0, HPP.out.c1, HPP.out.f0, HPP.out.ne, HPP.out.le⟩
  have HI := HP.i
  have kk := zombie_any HP.tT HI.n1 s
  go_simp
  refine kk.mono ?_
  rintro e w2 ⟨rfl, hB⟩
  have tz : Trn t w1.drew w2 := Trn.ofBelow hB
  have kS : w2.cell? ⟨p, 0, .none⟩ = some (.pointer (some ⟨t, 0, .none⟩)) ∧ w2.cell? ⟨p, 1, .none⟩ = some (.pointer (some ⟨r, 0, .none⟩)) ∧ w2.cell? ⟨y, 0, .none⟩ = some (.int .i64 8) ∧ w2.cell? ⟨y, 1, .none⟩ = some (.int .i64 s) ∧ w2.cell? ⟨y, 2, .none⟩ = some (.int .i64 ck) ∧ w2.cell? ⟨y, 3, .none⟩ = some (.int .i64 cn) ∧ w2.cell? ⟨y, 4, .none⟩ = some (.int .i32 sta) := ⟨(tz.cell (p := ⟨p, 0, .none⟩) (lt_cell hHeld.1) n1).trans hHeld.1, (tz.cell (p := ⟨p, 1, .none⟩) (lt_cell hHeld.2.1) n1).trans hHeld.2.1, (tz.cell (p := ⟨y, 0, .none⟩) (lt_cell hHeld.2.2.1) n3).trans hHeld.2.2.1, (tz.cell (p := ⟨y, 1, .none⟩) (lt_cell hHeld.2.2.2.1) n3).trans hHeld.2.2.2.1, (tz.cell (p := ⟨y, 2, .none⟩) (lt_cell hHeld.2.2.2.2.1) n3).trans hHeld.2.2.2.2.1, (tz.cell (p := ⟨y, 3, .none⟩) (lt_cell hHeld.2.2.2.2.2.1) n3).trans hHeld.2.2.2.2.2.1, (tz.cell (p := ⟨y, 4, .none⟩) (lt_cell hHeld.2.2.2.2.2.2) n3).trans hHeld.2.2.2.2.2.2⟩
  have H2 : Hid (Tb w2 t P nx ∧ Tb w2 r P nx ∧ Trn t w1 w2) := ⟨(HP.tT.bel hB), tz.tb HP.tR HP.ne.1.symm, (Trn.drew t w1).trans tz⟩
  clear kk HP tz
  refine hK.out _ _ kS (fun hHeld => ?_)
  clear hK K
  try simp only [Act.put, List.setIfInBounds_toArray, List.set_cons_zero, List.set_cons_succ, List.getElem_toArray, List.getElem_cons_succ, List.getElem_cons_zero]
  refine wpAnyH_take (i := 7) (v := (.tuple #[.int .i64 (zoS P s 64), .bool (zoA P s 64)])) rfl (by kernel_rfl) (by kernel_rfl) (by kernel_rfl) (fun _ _ _ h => h) (Or.inl ⟨by rfl, fun ww hSw => by (try dsimp only at hSw); go_simp⟩) (by assumption) ?_
  simp only [Act.put, List.setIfInBounds_toArray, List.set_cons_zero, List.set_cons_succ, List.getElem_toArray, List.getElem_cons_succ, List.getElem_cons_zero]
  refine wpAnyH_take (i := 8) (v := (.int .i64 (zoS P s 64))) rfl (by kernel_rfl) (by kernel_rfl) (by kernel_rfl) (fun _ _ _ h => h) (Or.inl ⟨by rfl, fun ww hSw => by (try dsimp only at hSw); go_simp⟩) (by assumption) ?_
  simp only [Act.put, List.setIfInBounds_toArray, List.set_cons_zero, List.set_cons_succ, List.getElem_toArray, List.getElem_cons_succ, List.getElem_cons_zero]
  refine wpAnyH_take (i := 9) (v := (.bool (zoA P s 64))) rfl (by kernel_rfl) (by kernel_rfl) (by kernel_rfl) (fun _ _ _ h => h) (Or.inl ⟨by rfl, fun ww hSw => by (try dsimp only at hSw); go_simp⟩) (by assumption) ?_
  simp only [Act.put, List.setIfInBounds_toArray, List.set_cons_zero, List.set_cons_succ, List.getElem_toArray, List.getElem_cons_succ, List.getElem_cons_zero]
  refine wpAnyH_take (i := 10) (v := (.int .i64 (zoS P s 64))) rfl (by kernel_rfl) (by kernel_rfl) (by kernel_rfl) (fun _ _ _ h => h) (Or.inl ⟨by rfl, fun ww hSw => by (try dsimp only at hSw); go_simp⟩) (by assumption) ?_
  simp only [Act.put, List.setIfInBounds_toArray, List.set_cons_zero, List.set_cons_succ, List.getElem_toArray, List.getElem_cons_succ, List.getElem_cons_zero]
  refine wpAnyH_take (i := 11) (v := (.bool (zoA P s 64))) rfl (by kernel_rfl) (by kernel_rfl) (by kernel_rfl) (fun _ _ _ h => h) (Or.inl ⟨by rfl, fun ww hSw => by (try dsimp only at hSw); go_simp⟩) (by assumption) ?_
  simp only [Act.put, List.setIfInBounds_toArray, List.set_cons_zero, List.set_cons_succ, List.getElem_toArray, List.getElem_cons_succ, List.getElem_cons_zero]
  refine wpAnyH_done (by kernel_rfl) ?_ _
  have HS2 : Hid (w2.cell? ⟨p, 0, .none⟩ = some (.pointer (some ⟨t, 0, .none⟩)) ∧ w2.cell? ⟨p, 1, .none⟩ = some (.pointer (some ⟨r, 0, .none⟩)) ∧ w2.cell? ⟨y, 0, .none⟩ = some (.int .i64 8) ∧ w2.cell? ⟨y, 1, .none⟩ = some (.int .i64 s) ∧ w2.cell? ⟨y, 2, .none⟩ = some (.int .i64 ck) ∧ w2.cell? ⟨y, 3, .none⟩ = some (.int .i64 cn) ∧ w2.cell? ⟨y, 4, .none⟩ = some (.int .i32 sta)) := hHeld
  clear hHeld kS
  go_upto_region 24 with fail
  refine wp_region_held_drew (S := (fun W => W.cell? ⟨p, 0, .none⟩ = some (.pointer (some ⟨t, 0, .none⟩)) ∧ W.cell? ⟨p, 1, .none⟩ = some (.pointer (some ⟨r, 0, .none⟩)) ∧ W.cell? ⟨y, 0, .none⟩ = some (.int .i64 8) ∧ W.cell? ⟨y, 1, .none⟩ = some (.int .i64 s) ∧ W.cell? ⟨y, 2, .none⟩ = some (.int .i64 ck) ∧ W.cell? ⟨y, 3, .none⟩ = some (.int .i64 cn) ∧ W.cell? ⟨y, 4, .none⟩ = some (.int .i32 sta))) (by kernel_rfl) ⟨HS2.out.1, HS2.out.2.1, HS2.out.2.2.1, HS2.out.2.2.2.1, HS2.out.2.2.2.2.1, HS2.out.2.2.2.2.2.1, HS2.out.2.2.2.2.2.2⟩ (fun hHeld => ?_)
  refine wpAnyH_take (i := 0) (v := (.pointer (some ⟨p, 0, .none⟩))) rfl (by kernel_rfl) (by kernel_rfl) (by kernel_rfl) (fun _ _ _ h => h) (Or.inl ⟨by rfl, fun ww hSw => by (try dsimp only at hSw); obtain ⟨s0, s1, s2, s3, s4, s5, s6⟩ := hSw; go_simp⟩) (by assumption) ?_
  simp only [Act.put, List.setIfInBounds_toArray, List.set_cons_zero, List.set_cons_succ, List.getElem_toArray, List.getElem_cons_succ, List.getElem_cons_zero]
  refine wpAnyH_take (i := 1) (v := (.pointer (some ⟨p, 0, .none⟩))) rfl (by kernel_rfl) (by kernel_rfl) (by kernel_rfl) (fun _ _ _ h => h) (Or.inl ⟨by rfl, fun ww hSw => by (try dsimp only at hSw); obtain ⟨s0, s1, s2, s3, s4, s5, s6⟩ := hSw; go_simp⟩) (by assumption) ?_
  simp only [Act.put, List.setIfInBounds_toArray, List.set_cons_zero, List.set_cons_succ, List.getElem_toArray, List.getElem_cons_succ, List.getElem_cons_zero]
  refine wpAnyH_take (i := 2) (v := (.pointer (some ⟨p, 1, .none⟩))) rfl (by kernel_rfl) (by kernel_rfl) (by kernel_rfl) (fun _ _ _ h => h) (Or.inl ⟨by rfl, fun ww hSw => by (try dsimp only at hSw); obtain ⟨s0, s1, s2, s3, s4, s5, s6⟩ := hSw; go_simp⟩) (by assumption) ?_
  simp only [Act.put, List.setIfInBounds_toArray, List.set_cons_zero, List.set_cons_succ, List.getElem_toArray, List.getElem_cons_succ, List.getElem_cons_zero]
  refine wpAnyH_take (i := 3) (v := (.pointer (some ⟨r, 0, .none⟩))) rfl (by kernel_rfl) (by kernel_rfl) (by kernel_rfl) (fun _ _ _ h => h) (Or.inl ⟨by rfl, fun ww hSw => by (try dsimp only at hSw); obtain ⟨s0, s1, s2, s3, s4, s5, s6⟩ := hSw; go_simp⟩) (by assumption) ?_
  simp only [Act.put, List.setIfInBounds_toArray, List.set_cons_zero, List.set_cons_succ, List.getElem_toArray, List.getElem_cons_succ, List.getElem_cons_zero]
  refine wpAnyH_take (i := 4) (v := (.pointer (some ⟨y, 1, .none⟩))) rfl (by kernel_rfl) (by kernel_rfl) (by kernel_rfl) (fun _ _ _ h => h) (Or.inl ⟨by rfl, fun ww hSw => by (try dsimp only at hSw); obtain ⟨s0, s1, s2, s3, s4, s5, s6⟩ := hSw; go_simp⟩) (by assumption) ?_
  simp only [Act.put, List.setIfInBounds_toArray, List.set_cons_zero, List.set_cons_succ, List.getElem_toArray, List.getElem_cons_succ, List.getElem_cons_zero]
  refine wpAnyH_take (i := 5) (v := (.int .i64 s)) rfl (by kernel_rfl) (by kernel_rfl) (by kernel_rfl) (fun _ _ _ h => h) (Or.inl ⟨by rfl, fun ww hSw => by (try dsimp only at hSw); obtain ⟨s0, s1, s2, s3, s4, s5, s6⟩ := hSw; go_simp⟩) (by assumption) ?_
  simp only [Act.put, List.setIfInBounds_toArray, List.set_cons_zero, List.set_cons_succ, List.getElem_toArray, List.getElem_cons_succ, List.getElem_cons_zero]
  refine wpAnyH_ready (rs := [6]) (by kernel_rfl) (by simp) ?_
  refine AllReadyH.cons rfl (fun K hK => ?_) AllReadyH.nil
  have HP : Tb w2.drew r P nx ∧ Inv P nx := ⟨H2.out.2.1.keep rfl, HI⟩
  have kk := (rzombie_any HP.1 HP.2 s).mono (fun e w' h => (⟨h.1, h.2 ▸ Below.refl _ _⟩ : e = _ ∧ Below w2.drew.heap.size w2.drew w'))
  go_simp
  refine kk.mono ?_
  rintro e w3 ⟨rfl, hB⟩
  have tz : Trn r w2.drew w3 := Trn.ofBelow hB
  have kS : w3.cell? ⟨p, 0, .none⟩ = some (.pointer (some ⟨t, 0, .none⟩)) ∧ w3.cell? ⟨p, 1, .none⟩ = some (.pointer (some ⟨r, 0, .none⟩)) ∧ w3.cell? ⟨y, 0, .none⟩ = some (.int .i64 8) ∧ w3.cell? ⟨y, 1, .none⟩ = some (.int .i64 s) ∧ w3.cell? ⟨y, 2, .none⟩ = some (.int .i64 ck) ∧ w3.cell? ⟨y, 3, .none⟩ = some (.int .i64 cn) ∧ w3.cell? ⟨y, 4, .none⟩ = some (.int .i32 sta) := ⟨(tz.cell (p := ⟨p, 0, .none⟩) (lt_cell hHeld.1) n2).trans hHeld.1, (tz.cell (p := ⟨p, 1, .none⟩) (lt_cell hHeld.2.1) n2).trans hHeld.2.1, (tz.cell (p := ⟨y, 0, .none⟩) (lt_cell hHeld.2.2.1) n4).trans hHeld.2.2.1, (tz.cell (p := ⟨y, 1, .none⟩) (lt_cell hHeld.2.2.2.1) n4).trans hHeld.2.2.2.1, (tz.cell (p := ⟨y, 2, .none⟩) (lt_cell hHeld.2.2.2.2.1) n4).trans hHeld.2.2.2.2.1, (tz.cell (p := ⟨y, 3, .none⟩) (lt_cell hHeld.2.2.2.2.2.1) n4).trans hHeld.2.2.2.2.2.1, (tz.cell (p := ⟨y, 4, .none⟩) (lt_cell hHeld.2.2.2.2.2.2) n4).trans hHeld.2.2.2.2.2.2⟩
  have H3 : Hid (Tb w3 t P nx ∧ Tb w3 r P nx ∧ Trn r w2 w3) := ⟨tz.tb (H2.out.1.keep (w' := w2.drew) rfl) HPP.out.ne.1, (HP.1.bel hB), (Trn.drew r w2).trans tz⟩
  clear kk HP tz
  refine hK.out _ _ kS (fun hHeld => ?_)
  clear hK K
  try simp only [Act.put, List.setIfInBounds_toArray, List.set_cons_zero, List.set_cons_succ, List.getElem_toArray, List.getElem_cons_succ, List.getElem_cons_zero]
  refine wpAnyH_take (i := 7) (v := (.tuple #[.int .i64 (zoS P s 64), .bool (zoA P s 64)])) rfl (by kernel_rfl) (by kernel_rfl) (by kernel_rfl) (fun _ _ _ h => h) (Or.inl ⟨by rfl, fun ww hSw => by (try dsimp only at hSw); go_simp⟩) (by assumption) ?_
  simp only [Act.put, List.setIfInBounds_toArray, List.set_cons_zero, List.set_cons_succ, List.getElem_toArray, List.getElem_cons_succ, List.getElem_cons_zero]
  refine wpAnyH_take (i := 8) (v := (.int .i64 (zoS P s 64))) rfl (by kernel_rfl) (by kernel_rfl) (by kernel_rfl) (fun _ _ _ h => h) (Or.inl ⟨by rfl, fun ww hSw => by (try dsimp only at hSw); go_simp⟩) (by assumption) ?_
  simp only [Act.put, List.setIfInBounds_toArray, List.set_cons_zero, List.set_cons_succ, List.getElem_toArray, List.getElem_cons_succ, List.getElem_cons_zero]
  refine wpAnyH_take (i := 9) (v := (.bool (zoA P s 64))) rfl (by kernel_rfl) (by kernel_rfl) (by kernel_rfl) (fun _ _ _ h => h) (Or.inl ⟨by rfl, fun ww hSw => by (try dsimp only at hSw); go_simp⟩) (by assumption) ?_
  simp only [Act.put, List.setIfInBounds_toArray, List.set_cons_zero, List.set_cons_succ, List.getElem_toArray, List.getElem_cons_succ, List.getElem_cons_zero]
  refine wpAnyH_take (i := 10) (v := (.int .i64 (zoS P s 64))) rfl (by kernel_rfl) (by kernel_rfl) (by kernel_rfl) (fun _ _ _ h => h) (Or.inl ⟨by rfl, fun ww hSw => by (try dsimp only at hSw); go_simp⟩) (by assumption) ?_
  simp only [Act.put, List.setIfInBounds_toArray, List.set_cons_zero, List.set_cons_succ, List.getElem_toArray, List.getElem_cons_succ, List.getElem_cons_zero]
  refine wpAnyH_take (i := 11) (v := (.bool (zoA P s 64))) rfl (by kernel_rfl) (by kernel_rfl) (by kernel_rfl) (fun _ _ _ h => h) (Or.inl ⟨by rfl, fun ww hSw => by (try dsimp only at hSw); go_simp⟩) (by assumption) ?_
  simp only [Act.put, List.setIfInBounds_toArray, List.set_cons_zero, List.set_cons_succ, List.getElem_toArray, List.getElem_cons_succ, List.getElem_cons_zero]
  refine wpAnyH_done (by kernel_rfl) ?_ _
  have HIN : Hid (Inv P nx) := HI
  clear HI kS
  have HH : Hid (w3.cell? ⟨p, 0, .none⟩ = some (.pointer (some ⟨t, 0, .none⟩)) ∧ w3.cell? ⟨p, 1, .none⟩ = some (.pointer (some ⟨r, 0, .none⟩)) ∧ w3.cell? ⟨y, 0, .none⟩ = some (.int .i64 8) ∧ w3.cell? ⟨y, 1, .none⟩ = some (.int .i64 s) ∧ w3.cell? ⟨y, 2, .none⟩ = some (.int .i64 ck) ∧ w3.cell? ⟨y, 3, .none⟩ = some (.int .i64 cn) ∧ w3.cell? ⟨y, 4, .none⟩ = some (.int .i32 sta)) := hHeld
  clear hHeld
  go_wp2
  go_ret
  refine ⟨by simp, t, P, nx, ⟨H3.out.1, H3.out.2.1, HIN.out, HH.out.1, HH.out.2.1, ?_, HPP.out.ne, HPP.out.le⟩, ?_⟩
  · have q1 := lt_cell HPP.out.c0
    have q2 : p < w2.heap.size := Nat.lt_of_lt_of_le q1 H2.out.2.2.size
    exact (H3.out.2.2.frozen (p := ⟨p, 0, .none⟩) q2 n2).trans ((H2.out.2.2.frozen (p := ⟨p, 0, .none⟩) q1 n1).trans HPP.out.f0)
  · have a1 : Below B w1 w2 := H2.out.2.2.toBelow HPP.out.le.2.1 hBw
    have a2 : Below B w2 w3 := H3.out.2.2.toBelow HPP.out.le.2.2 (Nat.le_trans hBw a1.size)
    exact (HB1.out.trans a1).trans a2
end
end Go.Proofs.Ytnlbomggadflmab
