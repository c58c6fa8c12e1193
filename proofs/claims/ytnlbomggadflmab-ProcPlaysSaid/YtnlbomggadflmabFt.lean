import Derived.Test.YtnlbomggadflmabLg
import Derived.Test.YtnlbomggadflmabRg
namespace Go.Proofs.Ytnlbomggadflmab
open Go.RowKit
set_option linter.unusedVariables false
set_option linter.unusedSimpArgs false
set_option maxRecDepth 100000
theorem built_nx (nx : Int) : Try.prog.built 36 [(1, .int .i64 nx)] = some (tl zS nx).toArray := by kernel_rfl
theorem ArgS.cells {w W : World} {q : Option Addr} {m c : Nat} {A : Nat → Int × Pr} (h : ArgS w q m c A) (hB : Below w.heap.size w W) (i : Nat) (hi : i < m) : ∃ b o, q = some ⟨b, o, .none⟩ ∧ b < w.heap.size ∧ W.cell? ⟨b, o + i * 8, .none⟩ = some (.int .i64 (A i).1) ∧ W.cell? ⟨b, o + i * 8 + 1, .none⟩ = some (.int .i64 (A i).2.pid) ∧ W.cell? ⟨b, o + i * 8 + 2, .none⟩ = some (.int .i64 (A i).2.st) ∧ W.cell? ⟨b, o + i * 8 + 3, .none⟩ = some (.int .i64 (A i).2.par) ∧ W.cell? ⟨b, o + i * 8 + 4, .none⟩ = some (.int .i64 (A i).2.ck) ∧ W.cell? ⟨b, o + i * 8 + 5, .none⟩ = some (.int .i64 (A i).2.cn) ∧ W.cell? ⟨b, o + i * 8 + 6, .none⟩ = some (.bool (A i).2.kil) ∧ W.cell? ⟨b, o + i * 8 + 7, .none⟩ = some (.int .i32 (A i).2.sta) := by
  rcases h.at' with e | ⟨b, o, e, hb, hc⟩
  · omega
  · have hr := hc i hi
    exact ⟨b, o, e, hb, (hB.cell (p := ⟨b, o + i * 8, .none⟩) hb).trans (hr 0 _ rfl), (hB.cell (p := ⟨b, o + i * 8 + 1, .none⟩) hb).trans (hr 1 _ rfl), (hB.cell (p := ⟨b, o + i * 8 + 2, .none⟩) hb).trans (hr 2 _ rfl), (hB.cell (p := ⟨b, o + i * 8 + 3, .none⟩) hb).trans (hr 3 _ rfl), (hB.cell (p := ⟨b, o + i * 8 + 4, .none⟩) hb).trans (hr 4 _ rfl), (hB.cell (p := ⟨b, o + i * 8 + 5, .none⟩) hb).trans (hr 5 _ rfl), (hB.cell (p := ⟨b, o + i * 8 + 6, .none⟩) hb).trans (hr 6 _ rfl), (hB.cell (p := ⟨b, o + i * 8 + 7, .none⟩) hb).trans (hr 7 _ rfl)⟩
theorem pr_one (p : Pr) : ∀ v ∈ p.l, v.oneCell' = true := by
  intro v hv
  simp only [Pr.l, List.mem_cons, List.not_mem_nil, or_false] at hv
  rcases hv with rfl | rfl | rfl | rfl | rfl | rfl | rfl <;> rfl
section
attribute [local irreducible] sl tl zT
variable {w w0 : World}
set_option maxHeartbeats 4000000 in
theorem table_any {q : Option Addr} {m c : Nat} {A : Nat → Int × Pr} (h : ArgS w0 q m c A) (hw : Below w0.heap.size w0 w) (nx : Int) : Calls Try.prog 11 #[.agg #[.slice q m c, .int .i64 nx]] w fun e w' => (∃ P, e = .returned (.agg (tl P nx).toArray)) ∧ Below w.heap.size w w' := by
  have hml : m ≤ 9223372036854775807 := by have := h.lc; have h2 : c ≤ 9223372036854775807 := this.2; omega
  have HA : Hid (ArgS w0 q m c A) := h
  have HW0 : Hid (Below w0.heap.size w0 w) := hw
  have hws : w0.heap.size ≤ w.heap.size := hw.size
  clear h hw
  go_enter Try.func11, Try.ntmps11
  go_upto_region 0 with fail
  refine wp_region_lit ?_
  refine Great.wpList_boxTo rfl 44 (.tmp 0) rfl _ rfl w.heap.size rfl #[.slice q m c, .int .i64 nx] rfl ?_
  simp only [Act.put, List.setIfInBounds_toArray, List.set_cons_zero, List.set_cons_succ]
  refine Great.wpList_allocTo rfl _ rfl _ _ (alloc_state _ _ rfl _) ?_
  simp only [Act.put, List.setIfInBounds_toArray, List.set_cons_zero, List.set_cons_succ]
  have H1 : Hid (Below w.heap.size w ((w.alloc (.cells #[.slice q m c, .int .i64 nx] 44)).alloc (.cells (zT 0) 36)) ∧ ((w.alloc (.cells #[.slice q m c, .int .i64 nx] 44)).alloc (.cells (zT 0) 36)).cell? ⟨w.heap.size, 0, .none⟩ = some (.slice q m c) ∧ ((w.alloc (.cells #[.slice q m c, .int .i64 nx] 44)).alloc (.cells (zT 0) 36)).cell? ⟨w.heap.size, 1, .none⟩ = some (.int .i64 nx) ∧ Tb ((w.alloc (.cells #[.slice q m c, .int .i64 nx] 44)).alloc (.cells (zT 0) 36)) (w.alloc (.cells #[.slice q m c, .int .i64 nx] 44)).heap.size zS 0 ∧ w.heap.size < (w.alloc (.cells #[.slice q m c, .int .i64 nx] 44)).heap.size) := by
    have b1 := below1 w (.cells #[.slice q m c, .int .i64 nx] 44)
    refine ⟨b1.trans ((below1 _ _).mono b1.size), ?_, ?_, by rw [zT]; exact tb_new _ zS 0 _, by simp⟩
    · rw [World.cell?_alloc_past _ _ _ (by simp), World.cell?_alloc_at _ _ _ _ rfl]; rfl
    · rw [World.cell?_alloc_past _ _ _ (by simp), World.cell?_alloc_at _ _ _ _ rfl]; rfl
  obtain ⟨x, hx⟩ : ∃ x, x = w.heap.size := ⟨_, rfl⟩
  have HX : Hid (x = w.heap.size) := hx
  rw [← hx] at H1 ⊢
  have hwx : w0.heap.size ≤ x := by omega
  clear hx hws
  generalize (w.alloc (.cells #[.slice q m c, .int .i64 nx] 44)).alloc (.cells (zT 0) 36) = w2 at *
  generalize (w.alloc (.cells #[.slice q m c, .int .i64 nx] 44)).heap.size = y at *
  have cx := H1.out.2.2.1
  have hxy := H1.out.2.2.2.2
  go_upto_region 1 with fail
  refine wp_region_lit ?_
  refine wpList_read rfl (.pointer (some ⟨x, 1, .none⟩)) (by go_simp) ?_
  simp only [Act.put, List.setIfInBounds_toArray, List.set_cons_zero, List.set_cons_succ]
  refine wpList_read rfl (.int .i64 nx) (by go_simp) ?_
  simp only [Act.put, List.setIfInBounds_toArray, List.set_cons_zero, List.set_cons_succ]
  refine wpl_build2 rfl 36 #[(1, .tmp 6)] rfl (tl zS nx).toArray (by rw [List.map_toArray]; exact built_nx nx) ?_
  simp only [Act.put, List.setIfInBounds_toArray, List.set_cons_zero, List.set_cons_succ]
  refine wpList_laid (P := zS) (nx := nx) 3 7 _ _ rfl rfl rfl rfl rfl rfl rfl rfl ?_
  intro w3 hT3 hb3
  obtain ⟨z, hz⟩ : ∃ z, z = w2.heap.size := ⟨_, rfl⟩
  rw [← hz] at hT3 hb3 ⊢
  have hyz : y < z := by rw [hz]; exact H1.out.2.2.2.1.lt
  have H3 : Hid (∃ P, Below x w w3 ∧ w3.cell? ⟨x, 0, .none⟩ = some (.slice q m c) ∧ Tb w3 y zS 0 ∧ Tb w3 z P nx) := ⟨zS, H1.out.1.trans (hb3.mono (by omega)), (hb3.cell (p := ⟨x, 0, .none⟩) (show x < z by omega)).trans H1.out.2.1, H1.out.2.2.2.1.below hb3 hyz, hT3⟩
  clear hT3 hb3 hz H1 cx
  simp only [Act.put, List.setIfInBounds_toArray, List.set_cons_zero, List.set_cons_succ]
  obtain ⟨T1, hT1⟩ : ∃ T, T = (tl zS nx).toArray := ⟨_, rfl⟩
  rw [← hT1]
  clear hT1
  go_wp2
  go_loopw [4] (fun i wr => ∃ n : Nat, n ≤ m ∧ i = .int .i64 n ∧ Hid (∃ P, Below x w wr ∧ wr.cell? ⟨x, 0, .none⟩ = some (.slice q m c) ∧ Tb wr y zS 0 ∧ Tb wr z P nx)) (fun i _ => (m - intOf i).toNat)
  case atStart => exact ⟨0, by omega, rfl, H3.out⟩
  case round =>
    clear H3
    obtain ⟨n, hn, rfl, HV⟩ := hrel
    obtain ⟨P, v1, v2, v3, v4⟩ := HV.out
    have HV2 : Hid (Below x w wr ∧ wr.cell? ⟨x, 0, .none⟩ = some (.slice q m c) ∧ Tb wr y zS 0 ∧ Tb wr z P nx) := ⟨v1, v2, v3, v4⟩
    by_cases hl : n < m
    · have g0 : (n : Int) < m := by omega
      have hbw : Below w0.heap.size w0 wr := HW0.out.trans (v1.mono hwx)
      obtain ⟨ab, ao, rfl, hab, a0, a1, a2, a3, a4, a5, a6, a7⟩ := HA.out.cells hbw n hl
      clear HV v1 v3 v4 hbw
      by_cases hr : 0 ≤ (A n).1 ∧ (A n).1 < 64
      · obtain ⟨j, hj⟩ : ∃ j : Nat, (A n).1 = j := ⟨(A n).1.toNat, by omega⟩
        have hj64 : j < 64 := by omega
        have hr0 : 0 ≤ (A n).1 := hr.1
        have hr1 : (A n).1 < 64 := hr.2
        have hjj : (A n).1.toNat = j := by omega
        have HJ : Hid ((A n).1.toNat = j) := hjj
        obtain ⟨c0, c1, c2, c3, c4, c5, c6⟩ := HV2.out.2.2.2.cells j hj64
        have f0 := HV2.out.2.2.2.fr (j * 7) (by omega)
        have f1 := HV2.out.2.2.2.fr (j * 7 + 1) (by omega)
        have f2 := HV2.out.2.2.2.fr (j * 7 + 2) (by omega)
        have f3 := HV2.out.2.2.2.fr (j * 7 + 3) (by omega)
        have f4 := HV2.out.2.2.2.fr (j * 7 + 4) (by omega)
        have f5 := HV2.out.2.2.2.fr (j * 7 + 5) (by omega)
        have f6 := HV2.out.2.2.2.fr (j * 7 + 6) (by omega)
        rw [← hjj] at c0 c1 c2 c3 c4 c5 c6 f0 f1 f2 f3 f4 f5 f6
        have n1 : ab ≠ z := by omega
        have n2 : x ≠ z := by omega
        have n3 : z ≠ ab := by omega
        have n4 : z ≠ x := by omega
        have HF : Hid (∀ W, W = wr.drew.setCells z ((A n).1.toNat * 7) (A n).2.l → ∃ P, Below x w W ∧ W.cell? ⟨x, 0, .none⟩ = some (.slice (some ⟨ab, ao, .none⟩) m c) ∧ Tb W y zS 0 ∧ Tb W z P nx) := fun W hW => by
          obtain ⟨u1, u2, u3, u4⟩ := HV2.out
          subst hW
          have t : Trn z wr.drew (wr.drew.setCells z ((A n).1.toNat * 7) (A n).2.l) := Trn.setCells _ _ _ _
          refine ⟨up P j (A n).2, below_setCells (below_drw u1) _ (by omega) _ _, (t.cell (p := ⟨x, 0, .none⟩) (lt_cell (a := ⟨x, 0, .none⟩) u2) n2).trans u2, t.tb (u3.keep (w' := wr.drew) rfl) (by omega), ?_⟩
          rw [HJ.out]
          exact Tb.put (u4.keep (w' := wr.drew) rfl) j hj64 (A n).2
        clear hr hj hjj c0 c1 c2 c3 c4 c5 c6 f0 f1 f2 f3 f4 f5 f6
        go_upto_region 6 with fail
        have hTH : Hid (wr.drew.there z ((A n).1.toNat * 7) 7) := fun k hk => by
          have := HV2.out.2.2.2.th ((A n).1.toNat * 7 + k) (by rw [HJ.out]; omega)
          rw [Nat.zero_add] at this
          exact this
        have KC : Hid (∀ W, Trn z wr W → W.cell? ⟨x, 0, .none⟩ = some (.slice (some ⟨ab, ao, .none⟩) m c) ∧ W.cell? ⟨ab, ao + n * 8, .none⟩ = some (.int .i64 (A n).1) ∧ W.cell? ⟨ab, ao + n * 8 + 1, .none⟩ = some (.int .i64 (A n).2.pid) ∧ W.cell? ⟨ab, ao + n * 8 + 2, .none⟩ = some (.int .i64 (A n).2.st) ∧ W.cell? ⟨ab, ao + n * 8 + 3, .none⟩ = some (.int .i64 (A n).2.par) ∧ W.cell? ⟨ab, ao + n * 8 + 4, .none⟩ = some (.int .i64 (A n).2.ck) ∧ W.cell? ⟨ab, ao + n * 8 + 5, .none⟩ = some (.int .i64 (A n).2.cn) ∧ W.cell? ⟨ab, ao + n * 8 + 6, .none⟩ = some (.bool (A n).2.kil) ∧ W.cell? ⟨ab, ao + n * 8 + 7, .none⟩ = some (.int .i32 (A n).2.sta)) := fun W t => by
          have l1 : x < wr.heap.size := lt_cell v2
          have l2 : ab < wr.heap.size := lt_cell a0
          exact ⟨(t.cell (p := ⟨x, 0, .none⟩) l1 n2).trans v2, (t.cell (p := ⟨ab, ao + n * 8, .none⟩) l2 n1).trans a0, (t.cell (p := ⟨ab, ao + n * 8 + 1, .none⟩) l2 n1).trans a1, (t.cell (p := ⟨ab, ao + n * 8 + 2, .none⟩) l2 n1).trans a2, (t.cell (p := ⟨ab, ao + n * 8 + 3, .none⟩) l2 n1).trans a3, (t.cell (p := ⟨ab, ao + n * 8 + 4, .none⟩) l2 n1).trans a4, (t.cell (p := ⟨ab, ao + n * 8 + 5, .none⟩) l2 n1).trans a5, (t.cell (p := ⟨ab, ao + n * 8 + 6, .none⟩) l2 n1).trans a6, (t.cell (p := ⟨ab, ao + n * 8 + 7, .none⟩) l2 n1).trans a7⟩
        clear a0 a1 a2 a3 a4 a5 a6 a7
        refine wp_region_held_drew (S := (fun W => Trn z wr W)) (by kernel_rfl) (Trn.drew z wr) (fun hHeld => ?_)
        refine wpAnyH_take (i := 0) (v := (.pointer (some ⟨x, 0, .none⟩))) rfl (by kernel_rfl) (by kernel_rfl) (by kernel_rfl) (fun _ _ _ h => h) (Or.inl ⟨by rfl, fun ww hSw => by (try dsimp only at hSw); go_simp⟩) (by assumption) ?_
        simp only [Act.put, List.setIfInBounds_toArray, List.set_cons_zero, List.set_cons_succ, List.getElem_toArray, List.getElem_cons_succ, List.getElem_cons_zero]
        refine wpAnyH_take (i := 1) (v := (.slice (some ⟨ab, ao, .none⟩) m c)) rfl (by kernel_rfl) (by kernel_rfl) (by kernel_rfl) (fun _ _ _ h => h) (Or.inl ⟨by rfl, fun ww hSw => by (try dsimp only at hSw); obtain ⟨b0, b1, b2, b3, b4, b5, b6, b7, b8⟩ := KC.out ww hSw; go_simp⟩) (by assumption) ?_
        simp only [Act.put, List.setIfInBounds_toArray, List.set_cons_zero, List.set_cons_succ, List.getElem_toArray, List.getElem_cons_succ, List.getElem_cons_zero]
        refine wpAnyH_take (i := 2) (v := (.int .i64 (n : Int))) rfl (by kernel_rfl) (by kernel_rfl) (by kernel_rfl) (fun _ _ _ h => h) (Or.inl ⟨by rfl, fun ww hSw => by (try dsimp only at hSw); go_simp⟩) (by assumption) ?_
        simp only [Act.put, List.setIfInBounds_toArray, List.set_cons_zero, List.set_cons_succ, List.getElem_toArray, List.getElem_cons_succ, List.getElem_cons_zero]
        refine wpAnyH_take (i := 3) (v := (.pointer (some ⟨ab, ao + n * 8, .none⟩))) rfl (by kernel_rfl) (by kernel_rfl) (by kernel_rfl) (fun _ _ _ h => h) (Or.inl ⟨by rfl, fun ww hSw => by (try dsimp only at hSw); go_simp⟩) (by assumption) ?_
        simp only [Act.put, List.setIfInBounds_toArray, List.set_cons_zero, List.set_cons_succ, List.getElem_toArray, List.getElem_cons_succ, List.getElem_cons_zero]
        refine wpAnyH_take (i := 4) (v := (.pointer (some ⟨ab, ao + n * 8, .none⟩))) rfl (by kernel_rfl) (by kernel_rfl) (by kernel_rfl) (fun _ _ _ h => h) (Or.inl ⟨by rfl, fun ww hSw => by (try dsimp only at hSw); go_simp⟩) (by assumption) ?_
        simp only [Act.put, List.setIfInBounds_toArray, List.set_cons_zero, List.set_cons_succ, List.getElem_toArray, List.getElem_cons_succ, List.getElem_cons_zero]
        refine wpAnyH_take (i := 5) (v := (.int .i64 (A n).1)) rfl (by kernel_rfl) (by kernel_rfl) (by kernel_rfl) (fun _ _ _ h => h) (Or.inl ⟨by rfl, fun ww hSw => by (try dsimp only at hSw); obtain ⟨b0, b1, b2, b3, b4, b5, b6, b7, b8⟩ := KC.out ww hSw; go_simp⟩) (by assumption) ?_
        simp only [Act.put, List.setIfInBounds_toArray, List.set_cons_zero, List.set_cons_succ, List.getElem_toArray, List.getElem_cons_succ, List.getElem_cons_zero]
        refine wpAnyH_take (i := 6) (v := (.pointer (some ⟨x, 0, .none⟩))) rfl (by kernel_rfl) (by kernel_rfl) (by kernel_rfl) (fun _ _ _ h => h) (Or.inl ⟨by rfl, fun ww hSw => by (try dsimp only at hSw); go_simp⟩) (by assumption) ?_
        simp only [Act.put, List.setIfInBounds_toArray, List.set_cons_zero, List.set_cons_succ, List.getElem_toArray, List.getElem_cons_succ, List.getElem_cons_zero]
        refine wpAnyH_take (i := 7) (v := (.slice (some ⟨ab, ao, .none⟩) m c)) rfl (by kernel_rfl) (by kernel_rfl) (by kernel_rfl) (fun _ _ _ h => h) (Or.inl ⟨by rfl, fun ww hSw => by (try dsimp only at hSw); obtain ⟨b0, b1, b2, b3, b4, b5, b6, b7, b8⟩ := KC.out ww hSw; go_simp⟩) (by assumption) ?_
        simp only [Act.put, List.setIfInBounds_toArray, List.set_cons_zero, List.set_cons_succ, List.getElem_toArray, List.getElem_cons_succ, List.getElem_cons_zero]
        refine wpAnyH_take (i := 8) (v := (.int .i64 (n : Int))) rfl (by kernel_rfl) (by kernel_rfl) (by kernel_rfl) (fun _ _ _ h => h) (Or.inl ⟨by rfl, fun ww hSw => by (try dsimp only at hSw); go_simp⟩) (by assumption) ?_
        simp only [Act.put, List.setIfInBounds_toArray, List.set_cons_zero, List.set_cons_succ, List.getElem_toArray, List.getElem_cons_succ, List.getElem_cons_zero]
        refine wpAnyH_take (i := 9) (v := (.pointer (some ⟨ab, ao + n * 8, .none⟩))) rfl (by kernel_rfl) (by kernel_rfl) (by kernel_rfl) (fun _ _ _ h => h) (Or.inl ⟨by rfl, fun ww hSw => by (try dsimp only at hSw); go_simp⟩) (by assumption) ?_
        simp only [Act.put, List.setIfInBounds_toArray, List.set_cons_zero, List.set_cons_succ, List.getElem_toArray, List.getElem_cons_succ, List.getElem_cons_zero]
        refine wpAnyH_take (i := 10) (v := (.pointer (some ⟨ab, ao + n * 8 + 1, .none⟩))) rfl (by kernel_rfl) (by kernel_rfl) (by kernel_rfl) (fun _ _ _ h => h) (Or.inl ⟨by rfl, fun ww hSw => by (try dsimp only at hSw); go_simp⟩) (by assumption) ?_
        simp only [Act.put, List.setIfInBounds_toArray, List.set_cons_zero, List.set_cons_succ, List.getElem_toArray, List.getElem_cons_succ, List.getElem_cons_zero]
        refine wpAnyH_take (i := 11) (v := (.agg #[.int .i64 (A n).2.pid, .int .i64 (A n).2.st, .int .i64 (A n).2.par, .int .i64 (A n).2.ck, .int .i64 (A n).2.cn, .bool (A n).2.kil, .int .i32 (A n).2.sta])) rfl (by kernel_rfl) (by kernel_rfl) (by kernel_rfl) (fun _ _ _ h => h) (Or.inl ⟨by rfl, fun ww hSw => by (try dsimp only at hSw); obtain ⟨b0, b1, b2, b3, b4, b5, b6, b7, b8⟩ := KC.out ww hSw; go_simp⟩) (by assumption) ?_
        simp only [Act.put, List.setIfInBounds_toArray, List.set_cons_zero, List.set_cons_succ, List.getElem_toArray, List.getElem_cons_succ, List.getElem_cons_zero]
        refine wpAnyH_take (i := 12) (v := (.pointer (some ⟨z, 0, .none⟩))) rfl (by kernel_rfl) (by kernel_rfl) (by kernel_rfl) (fun _ _ _ h => h) (Or.inl ⟨by rfl, fun ww hSw => by (try dsimp only at hSw); go_simp⟩) (by assumption) ?_
        simp only [Act.put, List.setIfInBounds_toArray, List.set_cons_zero, List.set_cons_succ, List.getElem_toArray, List.getElem_cons_succ, List.getElem_cons_zero]
        refine wpAnyH_take (i := 13) (v := (.pointer (some ⟨z, (A n).1.toNat * 7, .none⟩))) rfl (by kernel_rfl) (by kernel_rfl) (by kernel_rfl) (fun _ _ _ h => h) (Or.inl ⟨by rfl, fun ww hSw => by (try dsimp only at hSw); go_simp⟩) (by assumption) ?_
        simp only [Act.put, List.setIfInBounds_toArray, List.set_cons_zero, List.set_cons_succ, List.getElem_toArray, List.getElem_cons_succ, List.getElem_cons_zero]
        refine wpAnyH_ready (rs := [14]) (by kernel_rfl) (by simp) ?_
        refine AllReadyH.cons rfl (fun K hK => ?_) AllReadyH.nil
        refine step_store_mid rfl 33 (.tmp 44) (.tmp 42) rfl z ((A n).1.toNat * 7) (A n).2.l.toArray rfl rfl hTH.out (by kernel_rfl) (all_oneCell_toArray (pr_one _)) ?_
        have kS : Trn z wr (wr.drew.setCells z ((A n).1.toNat * 7) (A n).2.l) := (Trn.drew z wr).trans (Trn.setCells _ _ _ _)
        refine hK.out _ _ kS (fun hHeld => ?_)
        clear hK K
        try simp only [Act.put, List.setIfInBounds_toArray, List.set_cons_zero, List.set_cons_succ, List.getElem_toArray, List.getElem_cons_succ, List.getElem_cons_zero]
        refine wpAnyH_done (by kernel_rfl) ?_ _
        have HFF := HF.out _ rfl
        have HFG : Hid (∃ P, Below x w (wr.drew.setCells z ((A n).1.toNat * 7) (A n).2.l) ∧ (wr.drew.setCells z ((A n).1.toNat * 7) (A n).2.l).cell? ⟨x, 0, .none⟩ = some (.slice (some ⟨ab, ao, .none⟩) m c) ∧ Tb (wr.drew.setCells z ((A n).1.toNat * 7) (A n).2.l) y zS 0 ∧ Tb (wr.drew.setCells z ((A n).1.toNat * 7) (A n).2.l) z P nx) := HFF
        clear HFF kS hHeld HF KC
        generalize wr.drew.setCells z ((A n).1.toNat * 7) (A n).2.l = w9 at *
        go_wp2
        exact ⟨⟨n + 1, by omega, rfl, HFG.out⟩, by simp only [intOf]; omega⟩
      · by_cases h1 : 0 ≤ (A n).1
        · have h2 : ¬ (A n).1 < 64 := fun x => hr ⟨h1, x⟩
          clear hr
          go_wp2
          exact ⟨⟨n + 1, by omega, rfl, P, HV2.out⟩, by simp only [intOf]; omega⟩
        · clear hr
          go_wp2
          exact ⟨⟨n + 1, by omega, rfl, P, HV2.out⟩, by simp only [intOf]; omega⟩
    · obtain rfl : n = m := by omega
      clear HV v1 v3 v4
      go_upto_region 7 with fail
      refine wp_region_lit ?_
      refine wpList_load_mid rfl 36 (.tmp 3) rfl z 0 rfl (tl P nx) _ HV2.out.2.2.2.rg Try.underlying36 rfl (by rw [tl_len]; exact info_tab) ?_
      simp only [Act.put, List.setIfInBounds_toArray, List.set_cons_zero, List.set_cons_succ]
      refine wpList_store_mid rfl 36 (.tmp 2) (.tmp 45) rfl y 0 (tl P nx).toArray rfl rfl (by have := HV2.out.2.2.1.th; rw [← tl_len P nx] at this; exact this) (by rw [List.size_toArray, tl_len]; exact info_tab) (all_oneCell_toArray (tl_one P nx)) ?_
      simp only [Act.put]
      have HF : Hid (Tb (wr.setCells y 0 (tl P nx)) y P nx ∧ Below x w (wr.setCells y 0 (tl P nx))) := ⟨HV2.out.2.2.1.setCells P nx, below_setCells HV2.out.1 _ (by omega) _ _⟩
      generalize wr.setCells y 0 (tl P nx) = w5 at *
      obtain ⟨T2, hT2⟩ : ∃ T, T = (tl P nx).toArray := ⟨_, rfl⟩
      rw [← hT2]
      have HT2 : Hid (T2 = (tl P nx).toArray) := hT2
      clear hT2
      go_wp2
      refine bodyPost_ret (v := .agg (tl P nx).toArray) (results_cell_any rfl _ _ ⟨y, 0, .none⟩ _ rfl ?_) rfl ⟨⟨P, rfl⟩, by rw [← HX.out]; exact HF.out.2⟩
      exact run_loadVar_mid w5 y 0 36 (tl P nx) _ HF.out.1.rg Try.underlying36 rfl (by rw [tl_len]; exact info_tab)
end
end Go.Proofs.Ytnlbomggadflmab
