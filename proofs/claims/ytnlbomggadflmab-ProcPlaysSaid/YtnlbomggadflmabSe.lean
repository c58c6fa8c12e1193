import Derived.Test.YtnlbomggadflmabSp
namespace Go.Proofs.Ytnlbomggadflmab
open Go.RowKit
set_option linter.unusedVariables false
set_option linter.unusedSimpArgs false
set_option maxRecDepth 100000
section
variable {w : World} {B p t r : Nat} {P : Nat → Pr} {nx : Int}
set_option maxHeartbeats 4000000 in
theorem step_10 (h : Pa B w p t r P nx) (hB : B ≤ w.heap.size) (kd s ck cn sta : Int) (hk : kd = 10) : Calls Try.prog 9 #[.pointer (some ⟨p, 0, .none⟩), .agg #[.int .i64 kd, .int .i64 s, .int .i64 ck, .int .i64 cn, .int .i32 sta]] w (SpP B w p r) := by
  have b1 := below1 w (.cells #[.int .i64 kd, .int .i64 s, .int .i64 ck, .int .i64 cn, .int .i32 sta] 40)
  have HP0 := h.bel b1
  have hBw : B ≤ (w.alloc (.cells #[.int .i64 kd, .int .i64 s, .int .i64 ck, .int .i64 cn, .int .i32 sta] 40)).heap.size := Nat.le_trans hB b1.size
  have HB1 : Hid (Below B w (w.alloc (.cells #[.int .i64 kd, .int .i64 s, .int .i64 ck, .int .i64 cn, .int .i32 sta] 40))) := b1.mono hB
  have y0 : (w.alloc (.cells #[.int .i64 kd, .int .i64 s, .int .i64 ck, .int .i64 cn, .int .i32 sta] 40)).cell? ⟨w.heap.size, 0, .none⟩ = some (.int .i64 kd) := by rw [World.cell?_alloc_at _ _ _ _ rfl]; rfl
  have y1 : (w.alloc (.cells #[.int .i64 kd, .int .i64 s, .int .i64 ck, .int .i64 cn, .int .i32 sta] 40)).cell? ⟨w.heap.size, 1, .none⟩ = some (.int .i64 s) := by rw [World.cell?_alloc_at _ _ _ _ rfl]; rfl
  have y2 : (w.alloc (.cells #[.int .i64 kd, .int .i64 s, .int .i64 ck, .int .i64 cn, .int .i32 sta] 40)).cell? ⟨w.heap.size, 2, .none⟩ = some (.int .i64 ck) := by rw [World.cell?_alloc_at _ _ _ _ rfl]; rfl
  have y3 : (w.alloc (.cells #[.int .i64 kd, .int .i64 s, .int .i64 ck, .int .i64 cn, .int .i32 sta] 40)).cell? ⟨w.heap.size, 3, .none⟩ = some (.int .i64 cn) := by rw [World.cell?_alloc_at _ _ _ _ rfl]; rfl
  have y4 : (w.alloc (.cells #[.int .i64 kd, .int .i64 s, .int .i64 ck, .int .i64 cn, .int .i32 sta] 40)).cell? ⟨w.heap.size, 4, .none⟩ = some (.int .i32 sta) := by rw [World.cell?_alloc_at _ _ _ _ rfl]; rfl
  have n1 : p ≠ t := h.ne.2.1
  have n2 : p ≠ r := h.ne.2.2
  have n3 : w.heap.size ≠ t := by have := h.tT.lt; omega
  have n4 : w.heap.size ≠ r := by have := h.tR.lt; omega
  have HPP : Hid (Pa B (w.alloc (.cells #[.int .i64 kd, .int .i64 s, .int .i64 ck, .int .i64 cn, .int .i32 sta] 40)) p t r P nx) := HP0
  have HYY : Hid ((w.alloc (.cells #[.int .i64 kd, .int .i64 s, .int .i64 ck, .int .i64 cn, .int .i32 sta] 40)).cell? ⟨w.heap.size, 0, .none⟩ = some (.int .i64 kd) ∧ (w.alloc (.cells #[.int .i64 kd, .int .i64 s, .int .i64 ck, .int .i64 cn, .int .i32 sta] 40)).cell? ⟨w.heap.size, 1, .none⟩ = some (.int .i64 s) ∧ (w.alloc (.cells #[.int .i64 kd, .int .i64 s, .int .i64 ck, .int .i64 cn, .int .i32 sta] 40)).cell? ⟨w.heap.size, 2, .none⟩ = some (.int .i64 ck) ∧ (w.alloc (.cells #[.int .i64 kd, .int .i64 s, .int .i64 ck, .int .i64 cn, .int .i32 sta] 40)).cell? ⟨w.heap.size, 3, .none⟩ = some (.int .i64 cn) ∧ (w.alloc (.cells #[.int .i64 kd, .int .i64 s, .int .i64 ck, .int .i64 cn, .int .i32 sta] 40)).cell? ⟨w.heap.size, 4, .none⟩ = some (.int .i32 sta)) := ⟨y0, y1, y2, y3, y4⟩
  clear h HP0 b1
  subst hk
  go_enter Try.func9, Try.ntmps9
  go_upto_region 29 with fail
  generalize w.alloc (.cells #[.int .i64 10, .int .i64 s, .int .i64 ck, .int .i64 cn, .int .i32 sta] 40) = w1 at *
  generalize w.heap.size = y at *
  clear y0 y1 y2 y3 y4
  have HI : Hid (Inv P nx) := HPP.out.i
  obtain ⟨lp, hlp⟩ : ∃ lp, lp = lkP P s := ⟨_, rfl⟩
  have HLP : Hid (lp = lkP P s) := hlp
  clear hlp
  refine wp_region_held_drew (S := (fun W => (W.cell? ⟨p, 0, .none⟩ = some (.pointer (some ⟨t, 0, .none⟩)) ∧ W.cell? ⟨p, 1, .none⟩ = some (.pointer (some ⟨r, 0, .none⟩)) ∧ W.cell? ⟨y, 0, .none⟩ = some (.int .i64 10) ∧ W.cell? ⟨y, 1, .none⟩ = some (.int .i64 s) ∧ W.cell? ⟨y, 2, .none⟩ = some (.int .i64 ck) ∧ W.cell? ⟨y, 3, .none⟩ = some (.int .i64 cn) ∧ W.cell? ⟨y, 4, .none⟩ = some (.int .i32 sta)) ∧ Tb W t P nx ∧ Tb W r P nx ∧ W.frozen? ⟨p, 0, .none⟩ = false ∧ Below B w W ∧ B ≤ W.heap.size)) (by kernel_rfl) ⟨⟨HPP.out.c0, HPP.out.c1, HYY.out.1, HYY.out.2.1, HYY.out.2.2.1, HYY.out.2.2.2.1, HYY.out.2.2.2.2⟩, HPP.out.tT.keep rfl, HPP.out.tR.keep rfl, HPP.out.f0, ⟨HB1.out.os, HB1.out.tape, HB1.out.output, HB1.out.size, HB1.out.block⟩, hBw⟩ (fun hHeld => ?_)
  refine wpAnyH_take (i := 0) (v := (.pointer (some ⟨p, 0, .none⟩))) rfl (by kernel_rfl) (by kernel_rfl) (by kernel_rfl) (fun _ _ _ h => h) (Or.inl ⟨by rfl, fun ww hSw => by (try dsimp only at hSw); obtain ⟨⟨s0, s1, s2, s3, s4, s5, s6⟩, _⟩ := hSw; go_simp⟩) (by assumption) ?_
  simp only [Act.put, List.setIfInBounds_toArray, List.set_cons_zero, List.set_cons_succ, List.getElem_toArray, List.getElem_cons_succ, List.getElem_cons_zero]
  refine wpAnyH_take (i := 1) (v := (.pointer (some ⟨p, 0, .none⟩))) rfl (by kernel_rfl) (by kernel_rfl) (by kernel_rfl) (fun _ _ _ h => h) (Or.inl ⟨by rfl, fun ww hSw => by (try dsimp only at hSw); obtain ⟨⟨s0, s1, s2, s3, s4, s5, s6⟩, _⟩ := hSw; go_simp⟩) (by assumption) ?_
  simp only [Act.put, List.setIfInBounds_toArray, List.set_cons_zero, List.set_cons_succ, List.getElem_toArray, List.getElem_cons_succ, List.getElem_cons_zero]
  refine wpAnyH_take (i := 2) (v := (.pointer (some ⟨p, 0, .none⟩))) rfl (by kernel_rfl) (by kernel_rfl) (by kernel_rfl) (fun _ _ _ h => h) (Or.inl ⟨by rfl, fun ww hSw => by (try dsimp only at hSw); obtain ⟨⟨s0, s1, s2, s3, s4, s5, s6⟩, _⟩ := hSw; go_simp⟩) (by assumption) ?_
  simp only [Act.put, List.setIfInBounds_toArray, List.set_cons_zero, List.set_cons_succ, List.getElem_toArray, List.getElem_cons_succ, List.getElem_cons_zero]
  refine wpAnyH_take (i := 3) (v := (.pointer (some ⟨t, 0, .none⟩))) rfl (by kernel_rfl) (by kernel_rfl) (by kernel_rfl) (fun _ _ _ h => h) (Or.inl ⟨by rfl, fun ww hSw => by (try dsimp only at hSw); obtain ⟨⟨s0, s1, s2, s3, s4, s5, s6⟩, _⟩ := hSw; go_simp⟩) (by assumption) ?_
  simp only [Act.put, List.setIfInBounds_toArray, List.set_cons_zero, List.set_cons_succ, List.getElem_toArray, List.getElem_cons_succ, List.getElem_cons_zero]
  refine wpAnyH_take (i := 4) (v := (.pointer (some ⟨y, 1, .none⟩))) rfl (by kernel_rfl) (by kernel_rfl) (by kernel_rfl) (fun _ _ _ h => h) (Or.inl ⟨by rfl, fun ww hSw => by (try dsimp only at hSw); obtain ⟨⟨s0, s1, s2, s3, s4, s5, s6⟩, _⟩ := hSw; go_simp⟩) (by assumption) ?_
  simp only [Act.put, List.setIfInBounds_toArray, List.set_cons_zero, List.set_cons_succ, List.getElem_toArray, List.getElem_cons_succ, List.getElem_cons_zero]
  refine wpAnyH_take (i := 5) (v := (.int .i64 s)) rfl (by kernel_rfl) (by kernel_rfl) (by kernel_rfl) (fun _ _ _ h => h) (Or.inl ⟨by rfl, fun ww hSw => by (try dsimp only at hSw); obtain ⟨⟨s0, s1, s2, s3, s4, s5, s6⟩, _⟩ := hSw; go_simp⟩) (by assumption) ?_
  simp only [Act.put, List.setIfInBounds_toArray, List.set_cons_zero, List.set_cons_succ, List.getElem_toArray, List.getElem_cons_succ, List.getElem_cons_zero]
  refine wpAnyH_take (i := 7) (v := (.pointer (some ⟨p, 0, .none⟩))) rfl (by kernel_rfl) (by kernel_rfl) (by kernel_rfl) (fun _ _ _ h => h) (Or.inl ⟨by rfl, fun ww hSw => by (try dsimp only at hSw); obtain ⟨⟨s0, s1, s2, s3, s4, s5, s6⟩, _⟩ := hSw; go_simp⟩) (by assumption) ?_
  simp only [Act.put, List.setIfInBounds_toArray, List.set_cons_zero, List.set_cons_succ, List.getElem_toArray, List.getElem_cons_succ, List.getElem_cons_zero]
  refine wpAnyH_take (i := 8) (v := (.pointer (some ⟨p, 0, .none⟩))) rfl (by kernel_rfl) (by kernel_rfl) (by kernel_rfl) (fun _ _ _ h => h) (Or.inl ⟨by rfl, fun ww hSw => by (try dsimp only at hSw); obtain ⟨⟨s0, s1, s2, s3, s4, s5, s6⟩, _⟩ := hSw; go_simp⟩) (by assumption) ?_
  simp only [Act.put, List.setIfInBounds_toArray, List.set_cons_zero, List.set_cons_succ, List.getElem_toArray, List.getElem_cons_succ, List.getElem_cons_zero]
  refine wpAnyH_take (i := 9) (v := (.pointer (some ⟨p, 1, .none⟩))) rfl (by kernel_rfl) (by kernel_rfl) (by kernel_rfl) (fun _ _ _ h => h) (Or.inl ⟨by rfl, fun ww hSw => by (try dsimp only at hSw); obtain ⟨⟨s0, s1, s2, s3, s4, s5, s6⟩, _⟩ := hSw; go_simp⟩) (by assumption) ?_
  simp only [Act.put, List.setIfInBounds_toArray, List.set_cons_zero, List.set_cons_succ, List.getElem_toArray, List.getElem_cons_succ, List.getElem_cons_zero]
  refine wpAnyH_take (i := 10) (v := (.pointer (some ⟨r, 0, .none⟩))) rfl (by kernel_rfl) (by kernel_rfl) (by kernel_rfl) (fun _ _ _ h => h) (Or.inl ⟨by rfl, fun ww hSw => by (try dsimp only at hSw); obtain ⟨⟨s0, s1, s2, s3, s4, s5, s6⟩, _⟩ := hSw; go_simp⟩) (by assumption) ?_
  simp only [Act.put, List.setIfInBounds_toArray, List.set_cons_zero, List.set_cons_succ, List.getElem_toArray, List.getElem_cons_succ, List.getElem_cons_zero]
  refine wpAnyH_take (i := 11) (v := (.pointer (some ⟨y, 1, .none⟩))) rfl (by kernel_rfl) (by kernel_rfl) (by kernel_rfl) (fun _ _ _ h => h) (Or.inl ⟨by rfl, fun ww hSw => by (try dsimp only at hSw); obtain ⟨⟨s0, s1, s2, s3, s4, s5, s6⟩, _⟩ := hSw; go_simp⟩) (by assumption) ?_
  simp only [Act.put, List.setIfInBounds_toArray, List.set_cons_zero, List.set_cons_succ, List.getElem_toArray, List.getElem_cons_succ, List.getElem_cons_zero]
  refine wpAnyH_take (i := 12) (v := (.int .i64 s)) rfl (by kernel_rfl) (by kernel_rfl) (by kernel_rfl) (fun _ _ _ h => h) (Or.inl ⟨by rfl, fun ww hSw => by (try dsimp only at hSw); obtain ⟨⟨s0, s1, s2, s3, s4, s5, s6⟩, _⟩ := hSw; go_simp⟩) (by assumption) ?_
  simp only [Act.put, List.setIfInBounds_toArray, List.set_cons_zero, List.set_cons_succ, List.getElem_toArray, List.getElem_cons_succ, List.getElem_cons_zero]
  refine wpAnyH_ready (rs := [6]) (by kernel_rfl) (by simp) ?_
  refine AllReadyH.cons rfl (fun K hK => ?_) AllReadyH.nil
  have kk := look_any hHeld.2.1 HI.out.n1 s
  rw [← HLP.out, Pr.l] at kk
  go_simp
  refine kk.mono ?_
  rintro e w2 ⟨rfl, hB2⟩
  have hB2' : Below w1.drew.heap.size w1.drew w2 := hB2
  have kS : (w2.cell? ⟨p, 0, .none⟩ = some (.pointer (some ⟨t, 0, .none⟩)) ∧ w2.cell? ⟨p, 1, .none⟩ = some (.pointer (some ⟨r, 0, .none⟩)) ∧ w2.cell? ⟨y, 0, .none⟩ = some (.int .i64 10) ∧ w2.cell? ⟨y, 1, .none⟩ = some (.int .i64 s) ∧ w2.cell? ⟨y, 2, .none⟩ = some (.int .i64 ck) ∧ w2.cell? ⟨y, 3, .none⟩ = some (.int .i64 cn) ∧ w2.cell? ⟨y, 4, .none⟩ = some (.int .i32 sta)) ∧ Tb w2 t P nx ∧ Tb w2 r P nx ∧ w2.frozen? ⟨p, 0, .none⟩ = false ∧ Below B w w2 ∧ B ≤ w2.heap.size := by
    obtain ⟨⟨s0, s1, s2, s3, s4, s5, s6⟩, t1, t2, t3, t4, t5⟩ := hHeld
    exact ⟨⟨(hB2'.cell (p := ⟨p, 0, .none⟩) (lt_cell s0)).trans s0, (hB2'.cell (p := ⟨p, 1, .none⟩) (lt_cell s1)).trans s1, (hB2'.cell (p := ⟨y, 0, .none⟩) (lt_cell s2)).trans s2, (hB2'.cell (p := ⟨y, 1, .none⟩) (lt_cell s3)).trans s3, (hB2'.cell (p := ⟨y, 2, .none⟩) (lt_cell s4)).trans s4, (hB2'.cell (p := ⟨y, 3, .none⟩) (lt_cell s5)).trans s5, (hB2'.cell (p := ⟨y, 4, .none⟩) (lt_cell s6)).trans s6⟩, t1.bel hB2', t2.bel hB2', (hB2'.frozen (p := ⟨p, 0, .none⟩) (lt_cell s0)).trans t3, t4.trans (hB2'.mono t5), Nat.le_trans t5 hB2'.size⟩
  clear kk hB2'
  refine hK.out _ _ kS (fun hHeld => ?_)
  clear hK K
  try simp only [Act.put, List.setIfInBounds_toArray, List.set_cons_zero, List.set_cons_succ, List.getElem_toArray, List.getElem_cons_succ, List.getElem_cons_zero]
  refine wpAnyH_ready (rs := [13]) (by kernel_rfl) (by simp) ?_
  refine AllReadyH.cons rfl (fun K hK => ?_) AllReadyH.nil
  have kk := rlook_any hHeld.2.2.1 HI.out.n1 s
  rw [← HLP.out, Pr.l] at kk
  go_simp
  refine kk.mono ?_
  rintro e w3 ⟨rfl, hB2⟩
  have hB2' : Below w2.heap.size w2 w3 := hB2
  have kS : (w3.cell? ⟨p, 0, .none⟩ = some (.pointer (some ⟨t, 0, .none⟩)) ∧ w3.cell? ⟨p, 1, .none⟩ = some (.pointer (some ⟨r, 0, .none⟩)) ∧ w3.cell? ⟨y, 0, .none⟩ = some (.int .i64 10) ∧ w3.cell? ⟨y, 1, .none⟩ = some (.int .i64 s) ∧ w3.cell? ⟨y, 2, .none⟩ = some (.int .i64 ck) ∧ w3.cell? ⟨y, 3, .none⟩ = some (.int .i64 cn) ∧ w3.cell? ⟨y, 4, .none⟩ = some (.int .i32 sta)) ∧ Tb w3 t P nx ∧ Tb w3 r P nx ∧ w3.frozen? ⟨p, 0, .none⟩ = false ∧ Below B w w3 ∧ B ≤ w3.heap.size := by
    obtain ⟨⟨s0, s1, s2, s3, s4, s5, s6⟩, t1, t2, t3, t4, t5⟩ := hHeld
    exact ⟨⟨(hB2'.cell (p := ⟨p, 0, .none⟩) (lt_cell s0)).trans s0, (hB2'.cell (p := ⟨p, 1, .none⟩) (lt_cell s1)).trans s1, (hB2'.cell (p := ⟨y, 0, .none⟩) (lt_cell s2)).trans s2, (hB2'.cell (p := ⟨y, 1, .none⟩) (lt_cell s3)).trans s3, (hB2'.cell (p := ⟨y, 2, .none⟩) (lt_cell s4)).trans s4, (hB2'.cell (p := ⟨y, 3, .none⟩) (lt_cell s5)).trans s5, (hB2'.cell (p := ⟨y, 4, .none⟩) (lt_cell s6)).trans s6⟩, t1.bel hB2', t2.bel hB2', (hB2'.frozen (p := ⟨p, 0, .none⟩) (lt_cell s0)).trans t3, t4.trans (hB2'.mono t5), Nat.le_trans t5 hB2'.size⟩
  clear kk hB2'
  refine hK.out _ _ kS (fun hHeld => ?_)
  clear hK K
  try simp only [Act.put, List.setIfInBounds_toArray, List.set_cons_zero, List.set_cons_succ, List.getElem_toArray, List.getElem_cons_succ, List.getElem_cons_zero]
  have heq : ∀ W, (binOp .eql 33 (.agg #[.int .i64 lp.pid, .int .i64 lp.st, .int .i64 lp.par, .int .i64 lp.ck, .int .i64 lp.cn, .bool lp.kil, .int .i32 lp.sta]) (.agg #[.int .i64 lp.pid, .int .i64 lp.st, .int .i64 lp.par, .int .i64 lp.ck, .int .i64 lp.cn, .bool lp.kil, .int .i32 lp.sta])).run Try.prog W = .ok (.bool true) W := fun W => by
    have := eqlp lp lp W
    rw [pEq_refl] at this
    exact this
  refine wpAnyH_take (i := 14) (v := (.bool true)) rfl (by kernel_rfl) (by kernel_rfl) (by kernel_rfl) (fun _ _ _ h => h) (Or.inl ⟨by rfl, fun ww hSw => by (try dsimp only at hSw); go_simp⟩) (by assumption) ?_
  simp only [Act.put, List.setIfInBounds_toArray, List.set_cons_zero, List.set_cons_succ, List.getElem_toArray, List.getElem_cons_succ, List.getElem_cons_zero]
  refine wpAnyH_take (i := 15) (v := (.bool true)) rfl (by kernel_rfl) (by kernel_rfl) (by kernel_rfl) (fun _ _ _ h => h) (Or.inl ⟨by rfl, fun ww hSw => by (try dsimp only at hSw); go_simp⟩) (by assumption) ?_
  simp only [Act.put, List.setIfInBounds_toArray, List.set_cons_zero, List.set_cons_succ, List.getElem_toArray, List.getElem_cons_succ, List.getElem_cons_zero]
  refine wpAnyH_take (i := 16) (v := (.pointer (some ⟨p, 0, .none⟩))) rfl (by kernel_rfl) (by kernel_rfl) (by kernel_rfl) (fun _ _ _ h => h) (Or.inl ⟨by rfl, fun ww hSw => by (try dsimp only at hSw); obtain ⟨⟨s0, s1, s2, s3, s4, s5, s6⟩, _⟩ := hSw; go_simp⟩) (by assumption) ?_
  simp only [Act.put, List.setIfInBounds_toArray, List.set_cons_zero, List.set_cons_succ, List.getElem_toArray, List.getElem_cons_succ, List.getElem_cons_zero]
  refine wpAnyH_take (i := 17) (v := (.pointer (some ⟨p, 0, .none⟩))) rfl (by kernel_rfl) (by kernel_rfl) (by kernel_rfl) (fun _ _ _ h => h) (Or.inl ⟨by rfl, fun ww hSw => by (try dsimp only at hSw); obtain ⟨⟨s0, s1, s2, s3, s4, s5, s6⟩, _⟩ := hSw; go_simp⟩) (by assumption) ?_
  simp only [Act.put, List.setIfInBounds_toArray, List.set_cons_zero, List.set_cons_succ, List.getElem_toArray, List.getElem_cons_succ, List.getElem_cons_zero]
  refine wpAnyH_take (i := 18) (v := (.pointer (some ⟨p, 0, .none⟩))) rfl (by kernel_rfl) (by kernel_rfl) (by kernel_rfl) (fun _ _ _ h => h) (Or.inl ⟨by rfl, fun ww hSw => by (try dsimp only at hSw); obtain ⟨⟨s0, s1, s2, s3, s4, s5, s6⟩, _⟩ := hSw; go_simp⟩) (by assumption) ?_
  simp only [Act.put, List.setIfInBounds_toArray, List.set_cons_zero, List.set_cons_succ, List.getElem_toArray, List.getElem_cons_succ, List.getElem_cons_zero]
  refine wpAnyH_take (i := 19) (v := (.pointer (some ⟨t, 0, .none⟩))) rfl (by kernel_rfl) (by kernel_rfl) (by kernel_rfl) (fun _ _ _ h => h) (Or.inl ⟨by rfl, fun ww hSw => by (try dsimp only at hSw); obtain ⟨⟨s0, s1, s2, s3, s4, s5, s6⟩, _⟩ := hSw; go_simp⟩) (by assumption) ?_
  simp only [Act.put, List.setIfInBounds_toArray, List.set_cons_zero, List.set_cons_succ, List.getElem_toArray, List.getElem_cons_succ, List.getElem_cons_zero]
  refine wpAnyH_take (i := 21) (v := (.pointer (some ⟨p, 0, .none⟩))) rfl (by kernel_rfl) (by kernel_rfl) (by kernel_rfl) (fun _ _ _ h => h) (Or.inl ⟨by rfl, fun ww hSw => by (try dsimp only at hSw); obtain ⟨⟨s0, s1, s2, s3, s4, s5, s6⟩, _⟩ := hSw; go_simp⟩) (by assumption) ?_
  simp only [Act.put, List.setIfInBounds_toArray, List.set_cons_zero, List.set_cons_succ, List.getElem_toArray, List.getElem_cons_succ, List.getElem_cons_zero]
  refine wpAnyH_take (i := 22) (v := (.pointer (some ⟨p, 0, .none⟩))) rfl (by kernel_rfl) (by kernel_rfl) (by kernel_rfl) (fun _ _ _ h => h) (Or.inl ⟨by rfl, fun ww hSw => by (try dsimp only at hSw); obtain ⟨⟨s0, s1, s2, s3, s4, s5, s6⟩, _⟩ := hSw; go_simp⟩) (by assumption) ?_
  simp only [Act.put, List.setIfInBounds_toArray, List.set_cons_zero, List.set_cons_succ, List.getElem_toArray, List.getElem_cons_succ, List.getElem_cons_zero]
  refine wpAnyH_take (i := 23) (v := (.pointer (some ⟨p, 1, .none⟩))) rfl (by kernel_rfl) (by kernel_rfl) (by kernel_rfl) (fun _ _ _ h => h) (Or.inl ⟨by rfl, fun ww hSw => by (try dsimp only at hSw); obtain ⟨⟨s0, s1, s2, s3, s4, s5, s6⟩, _⟩ := hSw; go_simp⟩) (by assumption) ?_
  simp only [Act.put, List.setIfInBounds_toArray, List.set_cons_zero, List.set_cons_succ, List.getElem_toArray, List.getElem_cons_succ, List.getElem_cons_zero]
  refine wpAnyH_take (i := 24) (v := (.pointer (some ⟨r, 0, .none⟩))) rfl (by kernel_rfl) (by kernel_rfl) (by kernel_rfl) (fun _ _ _ h => h) (Or.inl ⟨by rfl, fun ww hSw => by (try dsimp only at hSw); obtain ⟨⟨s0, s1, s2, s3, s4, s5, s6⟩, _⟩ := hSw; go_simp⟩) (by assumption) ?_
  simp only [Act.put, List.setIfInBounds_toArray, List.set_cons_zero, List.set_cons_succ, List.getElem_toArray, List.getElem_cons_succ, List.getElem_cons_zero]
  have HRM : Hid (∃ rm, rm = ((rnd (fun i => (P i).st == 0) 0).isSome && decide (nx ≤ 2147483647))) := ⟨_, rfl⟩
  obtain ⟨rm, hrm⟩ := HRM.out
  refine wpAnyH_ready (rs := [20]) (by kernel_rfl) (by simp) ?_
  refine AllReadyH.cons rfl (fun K hK => ?_) AllReadyH.nil
  have kk := room_any hHeld.2.1 HI.out.n1
  rw [← hrm] at kk
  go_simp
  refine kk.mono ?_
  rintro e w4 ⟨rfl, hB2⟩
  have hB2' : Below w3.heap.size w3 w4 := hB2
  have kS : (w4.cell? ⟨p, 0, .none⟩ = some (.pointer (some ⟨t, 0, .none⟩)) ∧ w4.cell? ⟨p, 1, .none⟩ = some (.pointer (some ⟨r, 0, .none⟩)) ∧ w4.cell? ⟨y, 0, .none⟩ = some (.int .i64 10) ∧ w4.cell? ⟨y, 1, .none⟩ = some (.int .i64 s) ∧ w4.cell? ⟨y, 2, .none⟩ = some (.int .i64 ck) ∧ w4.cell? ⟨y, 3, .none⟩ = some (.int .i64 cn) ∧ w4.cell? ⟨y, 4, .none⟩ = some (.int .i32 sta)) ∧ Tb w4 t P nx ∧ Tb w4 r P nx ∧ w4.frozen? ⟨p, 0, .none⟩ = false ∧ Below B w w4 ∧ B ≤ w4.heap.size := by
    obtain ⟨⟨s0, s1, s2, s3, s4, s5, s6⟩, t1, t2, t3, t4, t5⟩ := hHeld
    exact ⟨⟨(hB2'.cell (p := ⟨p, 0, .none⟩) (lt_cell s0)).trans s0, (hB2'.cell (p := ⟨p, 1, .none⟩) (lt_cell s1)).trans s1, (hB2'.cell (p := ⟨y, 0, .none⟩) (lt_cell s2)).trans s2, (hB2'.cell (p := ⟨y, 1, .none⟩) (lt_cell s3)).trans s3, (hB2'.cell (p := ⟨y, 2, .none⟩) (lt_cell s4)).trans s4, (hB2'.cell (p := ⟨y, 3, .none⟩) (lt_cell s5)).trans s5, (hB2'.cell (p := ⟨y, 4, .none⟩) (lt_cell s6)).trans s6⟩, t1.bel hB2', t2.bel hB2', (hB2'.frozen (p := ⟨p, 0, .none⟩) (lt_cell s0)).trans t3, t4.trans (hB2'.mono t5), Nat.le_trans t5 hB2'.size⟩
  clear kk hB2'
  refine hK.out _ _ kS (fun hHeld => ?_)
  clear hK K
  try simp only [Act.put, List.setIfInBounds_toArray, List.set_cons_zero, List.set_cons_succ, List.getElem_toArray, List.getElem_cons_succ, List.getElem_cons_zero]
  refine wpAnyH_ready (rs := [25]) (by kernel_rfl) (by simp) ?_
  refine AllReadyH.cons rfl (fun K hK => ?_) AllReadyH.nil
  have kk := rroom_any hHeld.2.2.1 HI.out.n1
  rw [← hrm] at kk
  go_simp
  refine kk.mono ?_
  rintro e w5 ⟨rfl, hw2⟩
  have hB2' : Below w4.heap.size w4 w5 := by rw [hw2]; exact Below.refl _ _
  have kS : (w5.cell? ⟨p, 0, .none⟩ = some (.pointer (some ⟨t, 0, .none⟩)) ∧ w5.cell? ⟨p, 1, .none⟩ = some (.pointer (some ⟨r, 0, .none⟩)) ∧ w5.cell? ⟨y, 0, .none⟩ = some (.int .i64 10) ∧ w5.cell? ⟨y, 1, .none⟩ = some (.int .i64 s) ∧ w5.cell? ⟨y, 2, .none⟩ = some (.int .i64 ck) ∧ w5.cell? ⟨y, 3, .none⟩ = some (.int .i64 cn) ∧ w5.cell? ⟨y, 4, .none⟩ = some (.int .i32 sta)) ∧ Tb w5 t P nx ∧ Tb w5 r P nx ∧ w5.frozen? ⟨p, 0, .none⟩ = false ∧ Below B w w5 ∧ B ≤ w5.heap.size := by
    obtain ⟨⟨s0, s1, s2, s3, s4, s5, s6⟩, t1, t2, t3, t4, t5⟩ := hHeld
    exact ⟨⟨(hB2'.cell (p := ⟨p, 0, .none⟩) (lt_cell s0)).trans s0, (hB2'.cell (p := ⟨p, 1, .none⟩) (lt_cell s1)).trans s1, (hB2'.cell (p := ⟨y, 0, .none⟩) (lt_cell s2)).trans s2, (hB2'.cell (p := ⟨y, 1, .none⟩) (lt_cell s3)).trans s3, (hB2'.cell (p := ⟨y, 2, .none⟩) (lt_cell s4)).trans s4, (hB2'.cell (p := ⟨y, 3, .none⟩) (lt_cell s5)).trans s5, (hB2'.cell (p := ⟨y, 4, .none⟩) (lt_cell s6)).trans s6⟩, t1.bel hB2', t2.bel hB2', (hB2'.frozen (p := ⟨p, 0, .none⟩) (lt_cell s0)).trans t3, t4.trans (hB2'.mono t5), Nat.le_trans t5 hB2'.size⟩
  clear kk hB2'
  refine hK.out _ _ kS (fun hHeld => ?_)
  clear hK K
  try simp only [Act.put, List.setIfInBounds_toArray, List.set_cons_zero, List.set_cons_succ, List.getElem_toArray, List.getElem_cons_succ, List.getElem_cons_zero]
  refine wpAnyH_take (i := 26) (v := (.bool true)) rfl (by kernel_rfl) (by kernel_rfl) (by kernel_rfl) (fun _ _ _ h => h) (Or.inl ⟨by rfl, fun ww hSw => by (try dsimp only at hSw); go_simp⟩) (by assumption) ?_
  simp only [Act.put, List.setIfInBounds_toArray, List.set_cons_zero, List.set_cons_succ, List.getElem_toArray, List.getElem_cons_succ, List.getElem_cons_zero]
  refine wpAnyH_take (i := 27) (v := (.bool true)) rfl (by kernel_rfl) (by kernel_rfl) (by kernel_rfl) (fun _ _ _ h => h) (Or.inl ⟨by rfl, fun ww hSw => by (try dsimp only at hSw); go_simp⟩) (by assumption) ?_
  simp only [Act.put, List.setIfInBounds_toArray, List.set_cons_zero, List.set_cons_succ, List.getElem_toArray, List.getElem_cons_succ, List.getElem_cons_zero]
  refine wpAnyH_take (i := 28) (v := (.bool true)) rfl (by kernel_rfl) (by kernel_rfl) (by kernel_rfl) (fun _ _ _ h => h) (Or.inl ⟨by rfl, fun ww hSw => by (try dsimp only at hSw); go_simp⟩) (by assumption) ?_
  simp only [Act.put, List.setIfInBounds_toArray, List.set_cons_zero, List.set_cons_succ, List.getElem_toArray, List.getElem_cons_succ, List.getElem_cons_zero]
  refine wpAnyH_done (by kernel_rfl) ?_ _
  have HH : Hid ((w5.cell? ⟨p, 0, .none⟩ = some (.pointer (some ⟨t, 0, .none⟩)) ∧ w5.cell? ⟨p, 1, .none⟩ = some (.pointer (some ⟨r, 0, .none⟩)) ∧ w5.cell? ⟨y, 0, .none⟩ = some (.int .i64 10) ∧ w5.cell? ⟨y, 1, .none⟩ = some (.int .i64 s) ∧ w5.cell? ⟨y, 2, .none⟩ = some (.int .i64 ck) ∧ w5.cell? ⟨y, 3, .none⟩ = some (.int .i64 cn) ∧ w5.cell? ⟨y, 4, .none⟩ = some (.int .i32 sta)) ∧ Tb w5 t P nx ∧ Tb w5 r P nx ∧ w5.frozen? ⟨p, 0, .none⟩ = false ∧ Below B w w5 ∧ B ≤ w5.heap.size) := hHeld
  clear hHeld kS
  go_wp2
  go_ret
  exact ⟨rfl, t, P, nx, ⟨HH.out.2.1, HH.out.2.2.1, HI.out, HH.out.1.1, HH.out.1.2.1, HH.out.2.2.2.1, HPP.out.ne, HPP.out.le⟩, HH.out.2.2.2.2.1⟩
set_option maxHeartbeats 4000000 in
theorem step_11 (h : Pa B w p t r P nx) (hB : B ≤ w.heap.size) (kd s ck cn sta : Int) (hk : kd = 11) : Calls Try.prog 9 #[.pointer (some ⟨p, 0, .none⟩), .agg #[.int .i64 kd, .int .i64 s, .int .i64 ck, .int .i64 cn, .int .i32 sta]] w (SpP B w p r) := by
  have b1 := below1 w (.cells #[.int .i64 kd, .int .i64 s, .int .i64 ck, .int .i64 cn, .int .i32 sta] 40)
  have HP0 := h.bel b1
  have hBw : B ≤ (w.alloc (.cells #[.int .i64 kd, .int .i64 s, .int .i64 ck, .int .i64 cn, .int .i32 sta] 40)).heap.size := Nat.le_trans hB b1.size
  have HB1 : Hid (Below B w (w.alloc (.cells #[.int .i64 kd, .int .i64 s, .int .i64 ck, .int .i64 cn, .int .i32 sta] 40))) := b1.mono hB
  have y0 : (w.alloc (.cells #[.int .i64 kd, .int .i64 s, .int .i64 ck, .int .i64 cn, .int .i32 sta] 40)).cell? ⟨w.heap.size, 0, .none⟩ = some (.int .i64 kd) := by rw [World.cell?_alloc_at _ _ _ _ rfl]; rfl
  have y1 : (w.alloc (.cells #[.int .i64 kd, .int .i64 s, .int .i64 ck, .int .i64 cn, .int .i32 sta] 40)).cell? ⟨w.heap.size, 1, .none⟩ = some (.int .i64 s) := by rw [World.cell?_alloc_at _ _ _ _ rfl]; rfl
  have y2 : (w.alloc (.cells #[.int .i64 kd, .int .i64 s, .int .i64 ck, .int .i64 cn, .int .i32 sta] 40)).cell? ⟨w.heap.size, 2, .none⟩ = some (.int .i64 ck) := by rw [World.cell?_alloc_at _ _ _ _ rfl]; rfl
  have y3 : (w.alloc (.cells #[.int .i64 kd, .int .i64 s, .int .i64 ck, .int .i64 cn, .int .i32 sta] 40)).cell? ⟨w.heap.size, 3, .none⟩ = some (.int .i64 cn) := by rw [World.cell?_alloc_at _ _ _ _ rfl]; rfl
  have y4 : (w.alloc (.cells #[.int .i64 kd, .int .i64 s, .int .i64 ck, .int .i64 cn, .int .i32 sta] 40)).cell? ⟨w.heap.size, 4, .none⟩ = some (.int .i32 sta) := by rw [World.cell?_alloc_at _ _ _ _ rfl]; rfl
  have n1 : p ≠ t := h.ne.2.1
  have n2 : p ≠ r := h.ne.2.2
  have n3 : w.heap.size ≠ t := by have := h.tT.lt; omega
  have n4 : w.heap.size ≠ r := by have := h.tR.lt; omega
  have HPP : Hid (Pa B (w.alloc (.cells #[.int .i64 kd, .int .i64 s, .int .i64 ck, .int .i64 cn, .int .i32 sta] 40)) p t r P nx) := HP0
  have HYY : Hid ((w.alloc (.cells #[.int .i64 kd, .int .i64 s, .int .i64 ck, .int .i64 cn, .int .i32 sta] 40)).cell? ⟨w.heap.size, 0, .none⟩ = some (.int .i64 kd) ∧ (w.alloc (.cells #[.int .i64 kd, .int .i64 s, .int .i64 ck, .int .i64 cn, .int .i32 sta] 40)).cell? ⟨w.heap.size, 1, .none⟩ = some (.int .i64 s) ∧ (w.alloc (.cells #[.int .i64 kd, .int .i64 s, .int .i64 ck, .int .i64 cn, .int .i32 sta] 40)).cell? ⟨w.heap.size, 2, .none⟩ = some (.int .i64 ck) ∧ (w.alloc (.cells #[.int .i64 kd, .int .i64 s, .int .i64 ck, .int .i64 cn, .int .i32 sta] 40)).cell? ⟨w.heap.size, 3, .none⟩ = some (.int .i64 cn) ∧ (w.alloc (.cells #[.int .i64 kd, .int .i64 s, .int .i64 ck, .int .i64 cn, .int .i32 sta] 40)).cell? ⟨w.heap.size, 4, .none⟩ = some (.int .i32 sta)) := ⟨y0, y1, y2, y3, y4⟩
  clear h HP0 b1
  subst hk
  go_enter Try.func9, Try.ntmps9
  go_upto_region 31 with fail
  generalize w.alloc (.cells #[.int .i64 11, .int .i64 s, .int .i64 ck, .int .i64 cn, .int .i32 sta] 40) = w1 at *
  generalize w.heap.size = y at *
  clear y0 y1 y2 y3 y4
  have HI : Hid (Inv P nx) := HPP.out.i
  obtain ⟨T, hTT⟩ : ∃ T, T = (tl P nx).toArray := ⟨_, rfl⟩
  have k1 := state_any HPP.out.tT HI.out.n1
  have k2 := from_any P nx
  rw [← hTT] at k1 k2
  have c0 := HPP.out.c0
  clear hTT
  go_wp2_with fail
  refine k1.mono ?_
  rintro e w2 ⟨rfl, hb2⟩
  have H2 : Hid (Pa B w2 p t r P nx ∧ Below B w w2 ∧ B ≤ w2.heap.size) := ⟨HPP.out.bel hb2, HB1.out.trans (hb2.mono hBw), Nat.le_trans hBw hb2.size⟩
  clear k1 hb2 c0
  have k2 := k2 w2
  go_wp2_with fail
  refine k2.mono ?_
  rintro e w3 ⟨hb3, hm⟩
  rw [frm_inv.2 HI.out] at hm
  obtain ⟨d, rfl, hTd, hd⟩ := hm
  have H3 : Hid (Pa B w3 p t r P nx ∧ Below B w w3 ∧ Tb w3 d P nx ∧ w2.heap.size ≤ d) := ⟨H2.out.1.bel hb3, H2.out.2.1.trans (hb3.mono H2.out.2.2), hTd, hd⟩
  have c0 := H3.out.1.c0
  have f0 := H3.out.1.f0
  clear k2 hb3 hTd hd
  go_wp2
  go_ret
  obtain ⟨q, b3, hTd, hd⟩ := H3.out
  have l1 := lt_cell H2.out.1.c0
  have l2 := H2.out.1.tR.lt
  have hl1 : p < w2.heap.size := l1
  have tz : Trn p w3 (w3.setCell ⟨p, 0, .none⟩ (.pointer (some ⟨d, 0, .none⟩))) := Trn.setCell _ _ _ _
  refine ⟨rfl, d, P, nx, ⟨tz.tb hTd (by omega), tz.tb q.tR (fun e => q.ne.2.2 e.symm), HI.out, ?_, ?_, ?_, ⟨by omega, by omega, q.ne.2.2⟩, ⟨q.le.1, by have := H2.out.2.2; omega, q.le.2.2⟩⟩, ?_⟩
  · exact World.cell?_setCell_same' _ _ _ (by rw [q.c0]; rfl)
  · rw [World.cell?_setCell_other _ _ _ _ (by intro e; injection e with e1 e2; cases e2)]; exact q.c1
  · rw [frozen_set]; exact q.f0
  · exact b3.setCell (p := ⟨p, 0, .none⟩) q.le.1 _
set_option maxHeartbeats 4000000 in
theorem step_o (h : Pa B w p t r P nx) (hB : B ≤ w.heap.size) (kd s ck cn sta : Int) (h1 : (kd == 1) = false) (h2 : (kd == 2) = false) (h3 : (kd == 3) = false) (h4 : (kd == 4) = false) (h5 : (kd == 5) = false) (h6 : (kd == 6) = false) (h7 : (kd == 7) = false) (h8 : (kd == 8) = false) (h9 : (kd == 9) = false) (h10 : (kd == 10) = false) (h11 : (kd == 11) = false) : Calls Try.prog 9 #[.pointer (some ⟨p, 0, .none⟩), .agg #[.int .i64 kd, .int .i64 s, .int .i64 ck, .int .i64 cn, .int .i32 sta]] w (SpP B w p r) := by
  have b1 := below1 w (.cells #[.int .i64 kd, .int .i64 s, .int .i64 ck, .int .i64 cn, .int .i32 sta] 40)
  have HP0 := h.bel b1
  have hBw : B ≤ (w.alloc (.cells #[.int .i64 kd, .int .i64 s, .int .i64 ck, .int .i64 cn, .int .i32 sta] 40)).heap.size := Nat.le_trans hB b1.size
  have HB1 : Hid (Below B w (w.alloc (.cells #[.int .i64 kd, .int .i64 s, .int .i64 ck, .int .i64 cn, .int .i32 sta] 40))) := b1.mono hB
  have y0 : (w.alloc (.cells #[.int .i64 kd, .int .i64 s, .int .i64 ck, .int .i64 cn, .int .i32 sta] 40)).cell? ⟨w.heap.size, 0, .none⟩ = some (.int .i64 kd) := by rw [World.cell?_alloc_at _ _ _ _ rfl]; rfl
  have y1 : (w.alloc (.cells #[.int .i64 kd, .int .i64 s, .int .i64 ck, .int .i64 cn, .int .i32 sta] 40)).cell? ⟨w.heap.size, 1, .none⟩ = some (.int .i64 s) := by rw [World.cell?_alloc_at _ _ _ _ rfl]; rfl
  have y2 : (w.alloc (.cells #[.int .i64 kd, .int .i64 s, .int .i64 ck, .int .i64 cn, .int .i32 sta] 40)).cell? ⟨w.heap.size, 2, .none⟩ = some (.int .i64 ck) := by rw [World.cell?_alloc_at _ _ _ _ rfl]; rfl
  have y3 : (w.alloc (.cells #[.int .i64 kd, .int .i64 s, .int .i64 ck, .int .i64 cn, .int .i32 sta] 40)).cell? ⟨w.heap.size, 3, .none⟩ = some (.int .i64 cn) := by rw [World.cell?_alloc_at _ _ _ _ rfl]; rfl
  have y4 : (w.alloc (.cells #[.int .i64 kd, .int .i64 s, .int .i64 ck, .int .i64 cn, .int .i32 sta] 40)).cell? ⟨w.heap.size, 4, .none⟩ = some (.int .i32 sta) := by rw [World.cell?_alloc_at _ _ _ _ rfl]; rfl
  have n1 : p ≠ t := h.ne.2.1
  have n2 : p ≠ r := h.ne.2.2
  have n3 : w.heap.size ≠ t := by have := h.tT.lt; omega
  have n4 : w.heap.size ≠ r := by have := h.tR.lt; omega
  have HPP : Hid (Pa B (w.alloc (.cells #[.int .i64 kd, .int .i64 s, .int .i64 ck, .int .i64 cn, .int .i32 sta] 40)) p t r P nx) := HP0
  have HYY : Hid ((w.alloc (.cells #[.int .i64 kd, .int .i64 s, .int .i64 ck, .int .i64 cn, .int .i32 sta] 40)).cell? ⟨w.heap.size, 0, .none⟩ = some (.int .i64 kd) ∧ (w.alloc (.cells #[.int .i64 kd, .int .i64 s, .int .i64 ck, .int .i64 cn, .int .i32 sta] 40)).cell? ⟨w.heap.size, 1, .none⟩ = some (.int .i64 s) ∧ (w.alloc (.cells #[.int .i64 kd, .int .i64 s, .int .i64 ck, .int .i64 cn, .int .i32 sta] 40)).cell? ⟨w.heap.size, 2, .none⟩ = some (.int .i64 ck) ∧ (w.alloc (.cells #[.int .i64 kd, .int .i64 s, .int .i64 ck, .int .i64 cn, .int .i32 sta] 40)).cell? ⟨w.heap.size, 3, .none⟩ = some (.int .i64 cn) ∧ (w.alloc (.cells #[.int .i64 kd, .int .i64 s, .int .i64 ck, .int .i64 cn, .int .i32 sta] 40)).cell? ⟨w.heap.size, 4, .none⟩ = some (.int .i32 sta)) := ⟨y0, y1, y2, y3, y4⟩
  clear h HP0 b1
  go_enter Try.func9, Try.ntmps9
  go_wp2
  go_ret
  exact ⟨rfl, t, P, nx, HPP.out, HB1.out⟩
end
end Go.Proofs.Ytnlbomggadflmab
