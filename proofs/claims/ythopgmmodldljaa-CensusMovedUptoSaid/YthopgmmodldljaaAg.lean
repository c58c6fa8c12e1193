import Derived.Test.YthopgmmodldljaaAq
namespace Go.Proofs.Ythopgmmodldljaa
open Go Go.RowKit
set_option linter.unusedVariables false
set_option linter.unusedSimpArgs false
def sumN : List Nat → Nat
  | [] => 0
  | x :: l => x + sumN l
theorem sumN_app (l m : List Nat) : sumN (l ++ m) = sumN l + sumN m := by
  induction l with
  | nil => simp [sumN]
  | cons x l ih => simp only [List.cons_append, sumN, ih]; omega
theorem sumN_take (l : List Nat) (i : Nat) : sumN (l.take i) ≤ sumN l := by
  have := congrArg sumN (List.take_append_drop i l)
  rw [sumN_app] at this
  omega
/-- How much there is of a look and a free list. -/
def fewN (L : Lk) (nf : Nat) : Nat := nf + L.procs.length + L.files.length + L.inos.length + L.pipes.length + sumN (L.procs.map fun p => p.nodes.length + p.pages.length) + sumN (L.inos.map fun p => p.bl.length)
set_option maxRecDepth 100000 in
set_option maxHeartbeats 2000000 in
theorem few_any {w : World} {X : Nat} {pv fv iv qv rv lv : Value} {L : Lk} (h : LkW w X pv fv iv qv rv lv L) (hX : X ≤ w.heap.size) (fp : Option Addr) (nf fc : Nat) (hs : fewN L nf ≤ 1000000000000000000) : Calls Try.prog 10 #[.agg (lkL L.tramp pv fv iv qv rv lv L.ticks L.next L.free).toArray, .slice fp nf fc] w fun e w' => e = .returned (.bool (decide (fewN L nf ≤ 6000))) ∧ Below w.heap.size w w' := by
  obtain ⟨pp, pc, rfl⟩ := h.ps.form
  obtain ⟨ffp, ffc, rfl⟩ := h.fs.form
  obtain ⟨ip, ic, rfl⟩ := h.is.form
  obtain ⟨qp, qc, rfl⟩ := h.qs.form
  have HF : Hid (fewN L nf ≤ 1000000000000000000) := hs
  obtain ⟨np, hnp⟩ : ∃ n, n = L.procs.length := ⟨_, rfl⟩
  obtain ⟨nfi, hnf⟩ : ∃ n, n = L.files.length := ⟨_, rfl⟩
  obtain ⟨ni, hni⟩ : ∃ n, n = L.inos.length := ⟨_, rfl⟩
  obtain ⟨nq, hnq⟩ : ∃ n, n = L.pipes.length := ⟨_, rfl⟩
  obtain ⟨sp, hsp⟩ : ∃ n, n = sumN (L.procs.map fun p => p.nodes.length + p.pages.length) := ⟨_, rfl⟩
  obtain ⟨si, hsi⟩ : ∃ n, n = sumN (L.inos.map fun p => p.bl.length) := ⟨_, rfl⟩
  have hfew : fewN L nf = nf + np + nfi + ni + nq + sp + si := by rw [fewN, ← hnp, ← hnf, ← hni, ← hnq, ← hsp, ← hsi]
  rw [hfew] at hs HF ⊢
  rw [← hnp] at h ⊢
  rw [← hni] at h ⊢
  rw [← hnf, ← hnq] at h ⊢
  have H : Hid (LkW w X (.slice pp np pc) (.slice ffp nfi ffc) (.slice ip ni ic) (.slice qp nq qc) rv lv L) := h
  have HN : Hid (np = L.procs.length ∧ ni = L.inos.length ∧ sp = sumN (L.procs.map fun p => p.nodes.length + p.pages.length) ∧ si = sumN (L.inos.map fun p => p.bl.length)) := ⟨hnp, hni, hsp, hsi⟩
  clear h hnp hnf hni hnq hsp hsi hfew
  obtain ⟨lc, hlc⟩ : ∃ lc, lc = lkL L.tramp (.slice pp np pc) (.slice ffp nfi ffc) (.slice ip ni ic) (.slice qp nq qc) rv lv L.ticks L.next L.free := ⟨_, rfl⟩
  rw [← hlc]
  have HL1 : Hid (lc[1]? = some (.slice pp np pc) ∧ lc[2]? = some (.slice ffp nfi ffc) ∧ lc[3]? = some (.slice ip ni ic) ∧ lc[4]? = some (.slice qp nq qc)) := by rw [hlc]; exact ⟨rfl, rfl, rfl, rfl⟩
  clear hlc
  obtain ⟨z, hz⟩ : ∃ z, z = w.heap.size := ⟨_, rfl⟩
  have HZ0 : Hid (z = w.heap.size) := hz
  go_enter Try.func10, Try.ntmps10
  go_wp2_with (first
    | (refine wpList_is (.box 33 (.tmp 0)) rfl ?_; refine wpList_boxG 33 lc 2 (.tmp 0) _ rfl rfl rfl rfl ?_; intro W1 hW1 hB1 hs1; rw [← hz] at hW1 hB1 hs1 ⊢; have k1 := cell_heap (o := 1) hW1; have k2 := cell_heap (o := 2) hW1; have k3 := cell_heap (o := 3) hW1; have k4 := cell_heap (o := 4) hW1; rw [List.getElem?_toArray] at k1 k2 k3 k4; rw [HL1.out.1] at k1; rw [HL1.out.2.1] at k2; rw [HL1.out.2.2.1] at k3; rw [HL1.out.2.2.2] at k4; have hzl : z < W1.heap.size := (by rw [hs1]; omega); clear hs1 hz)
    | fail)
  obtain ⟨c0, hc0⟩ : ∃ c : Int, c = (nf : Int) + np + nfi + ni + nq := ⟨_, rfl⟩
  rw [← hc0]
  have HC0 : Hid (c0 = (nf : Int) + np + nfi + ni + nq) := hc0
  have HBW : Hid (Below z w W1 ∧ z = w.heap.size) := ⟨hB1, HZ0.out⟩
  have HZ1 : Hid (z < W1.heap.size) := hzl
  clear hc0 k2 k4 hB1 hzl hW1
  go_loopw [5, 6] (fun s k wr => ∃ (i : Nat), i ≤ np ∧ k = .int .i64 i ∧ s = .int .i64 (c0 + sumN ((L.procs.take i).map fun p => p.nodes.length + p.pages.length)) ∧ Hid (Below W1.heap.size W1 wr)) (fun _ v _ => (np - intOf v).toNat)
  case atStart => exact ⟨0, by omega, rfl, by simp [sumN], Below.refl _ _⟩
  case round =>
    obtain ⟨i, hi, rfl, rfl, HB⟩ := hrel
    have k1' := (HB.out.cell (p := ⟨z, 1, .none⟩) HZ1.out).trans k1
    have k3' := (HB.out.cell (p := ⟨z, 3, .none⟩) HZ1.out).trans k3
    obtain ⟨s, hsv⟩ : ∃ s : Int, s = c0 + sumN ((L.procs.take i).map fun p => p.nodes.length + p.pages.length) := ⟨_, rfl⟩
    rw [← hsv]
    have hb := sumN_take (L.procs.map fun p => p.nodes.length + p.pages.length) i
    rw [← List.map_take, ← HN.out.2.2.1] at hb
    by_cases hin : i < np
    · have i1 : (i : Int) < np := by omega
      obtain ⟨-, b, o, x, cs, rfl, hbX, hx, ⟨nv, gv, rfl, hN, hG⟩, hcl, hr⟩ := H.out.ps.at hin
      obtain ⟨np1, nc1, rfl⟩ := hN.form
      obtain ⟨gp1, gc1, rfl⟩ := hG.form
      have hnx : sumN ((L.procs.take (i + 1)).map fun p => p.nodes.length + p.pages.length) = sumN ((L.procs.take i).map fun p => p.nodes.length + p.pages.length) + (x.nodes.length + x.pages.length) := by
        rw [List.take_add_one, hx, List.map_append, sumN_app]
        simp [sumN]
      have hb2 := sumN_take (L.procs.map fun p => p.nodes.length + p.pages.length) (i + 1)
      rw [← List.map_take, ← HN.out.2.2.1, hnx] at hb2
      have hs0 : 0 ≤ s := by have := HC0.out; omega
      have hs9 : s + x.nodes.length + x.pages.length ≤ 1000000000000000000 := by have := HC0.out; have := HF.out; omega
      have e1 : IntKind.i64.wrap (s + (x.nodes.length : Nat)) = s + (x.nodes.length : Nat) := by rw [IntKind.wrap_i64]; omega
      have e2 : IntKind.i64.wrap (s + (x.nodes.length : Nat) + (x.pages.length : Nat)) = s + (x.nodes.length : Nat) + (x.pages.length : Nat) := by rw [IntKind.wrap_i64]; omega
      have HNX : Hid (s + (x.nodes.length : Nat) + (x.pages.length : Nat) = c0 + sumN ((L.procs.take (i + 1)).map fun p => p.nodes.length + p.pages.length)) := by show _ = _; rw [hnx]; omega
      have q1 := hr 44 _ rfl
      have q2 := hr 45 _ rfl
      have hS : (fun w' : World => w'.cell? ⟨z, 1, .none⟩ = some (.slice (some ⟨b, o, .none⟩) np pc) ∧ w'.cell? ⟨b, o + i * 70 + 44, .none⟩ = some (.slice np1 x.nodes.length nc1) ∧ w'.cell? ⟨b, o + i * 70 + 45, .none⟩ = some (.slice gp1 x.pages.length gc1)) wr.drew := by
        have hbb : b < W1.heap.size := by have := HBW.out.1.size; omega
        have hbw : b < z := by have := HBW.out.2; omega
        refine ⟨k1', ?_, ?_⟩
        · exact ((HB.out.cell (p := ⟨b, o + i * 70 + 44, .none⟩) hbb).trans (HBW.out.1.cell (p := ⟨b, o + i * 70 + 44, .none⟩) hbw)).trans q1
        · exact ((HB.out.cell (p := ⟨b, o + i * 70 + 45, .none⟩) hbb).trans (HBW.out.1.cell (p := ⟨b, o + i * 70 + 45, .none⟩) hbw)).trans q2
      clear hr hcl hN hG hx hbX hb hb2 hnx q1 q2 hsv
      go_upto_region 5 with fail
      refine wp_region_held (S := fun w' => w'.cell? ⟨z, 1, .none⟩ = some (.slice (some ⟨b, o, .none⟩) np pc) ∧ w'.cell? ⟨b, o + i * 70 + 44, .none⟩ = some (.slice np1 x.nodes.length nc1) ∧ w'.cell? ⟨b, o + i * 70 + 45, .none⟩ = some (.slice gp1 x.pages.length gc1)) (by kernel_rfl) ?_
      refine wpAnyH_take (i := 0) (v := .int .i64 s) rfl (by kernel_rfl) (by kernel_rfl) (by kernel_rfl) (fun _ _ _ h => h) (Or.inl ⟨by rfl, fun ww hSw => by obtain ⟨hs1, hs2, hs3⟩ := hSw; go_simp⟩) hS ?_
      simp only [Act.put, List.setIfInBounds_toArray, List.set_cons_zero, List.set_cons_succ, List.getElem_toArray, List.getElem_cons_succ, List.getElem_cons_zero]
      refine wpAnyH_take (i := 1) (v := .pointer (some ⟨z, 1, .none⟩)) rfl (by kernel_rfl) (by kernel_rfl) (by kernel_rfl) (fun _ _ _ h => h) (Or.inl ⟨by rfl, fun ww hSw => by obtain ⟨hs1, hs2, hs3⟩ := hSw; go_simp⟩) hS ?_
      simp only [Act.put, List.setIfInBounds_toArray, List.set_cons_zero, List.set_cons_succ, List.getElem_toArray, List.getElem_cons_succ, List.getElem_cons_zero]
      refine wpAnyH_take (i := 2) (v := .slice (some ⟨b, o, .none⟩) np pc) rfl (by kernel_rfl) (by kernel_rfl) (by kernel_rfl) (fun _ _ _ h => h) (Or.inl ⟨by rfl, fun ww hSw => by obtain ⟨hs1, hs2, hs3⟩ := hSw; go_simp⟩) hS ?_
      simp only [Act.put, List.setIfInBounds_toArray, List.set_cons_zero, List.set_cons_succ, List.getElem_toArray, List.getElem_cons_succ, List.getElem_cons_zero]
      refine wpAnyH_take (i := 3) (v := .int .i64 i) rfl (by kernel_rfl) (by kernel_rfl) (by kernel_rfl) (fun _ _ _ h => h) (Or.inl ⟨by rfl, fun ww hSw => by obtain ⟨hs1, hs2, hs3⟩ := hSw; go_simp⟩) hS ?_
      simp only [Act.put, List.setIfInBounds_toArray, List.set_cons_zero, List.set_cons_succ, List.getElem_toArray, List.getElem_cons_succ, List.getElem_cons_zero]
      refine wpAnyH_take (i := 4) (v := .pointer (some ⟨b, o + i * 70, .none⟩)) rfl (by kernel_rfl) (by kernel_rfl) (by kernel_rfl) (fun _ _ _ h => h) (Or.inl ⟨by rfl, fun ww hSw => by obtain ⟨hs1, hs2, hs3⟩ := hSw; go_simp⟩) hS ?_
      simp only [Act.put, List.setIfInBounds_toArray, List.set_cons_zero, List.set_cons_succ, List.getElem_toArray, List.getElem_cons_succ, List.getElem_cons_zero]
      refine wpAnyH_take (i := 5) (v := .pointer (some ⟨b, o + i * 70 + 44, .none⟩)) rfl (by kernel_rfl) (by kernel_rfl) (by kernel_rfl) (fun _ _ _ h => h) (Or.inl ⟨by rfl, fun ww hSw => by obtain ⟨hs1, hs2, hs3⟩ := hSw; go_simp⟩) hS ?_
      simp only [Act.put, List.setIfInBounds_toArray, List.set_cons_zero, List.set_cons_succ, List.getElem_toArray, List.getElem_cons_succ, List.getElem_cons_zero]
      refine wpAnyH_take (i := 6) (v := .slice np1 x.nodes.length nc1) rfl (by kernel_rfl) (by kernel_rfl) (by kernel_rfl) (fun _ _ _ h => h) (Or.inl ⟨by rfl, fun ww hSw => by obtain ⟨hs1, hs2, hs3⟩ := hSw; go_simp⟩) hS ?_
      simp only [Act.put, List.setIfInBounds_toArray, List.set_cons_zero, List.set_cons_succ, List.getElem_toArray, List.getElem_cons_succ, List.getElem_cons_zero]
      refine wpAnyH_take (i := 7) (v := .int .i64 (x.nodes.length : Nat)) rfl (by kernel_rfl) (by kernel_rfl) (by kernel_rfl) (fun _ _ _ h => h) (Or.inl ⟨by rfl, fun ww hSw => by obtain ⟨hs1, hs2, hs3⟩ := hSw; go_simp⟩) hS ?_
      simp only [Act.put, List.setIfInBounds_toArray, List.set_cons_zero, List.set_cons_succ, List.getElem_toArray, List.getElem_cons_succ, List.getElem_cons_zero]
      refine wpAnyH_take (i := 8) (v := .int .i64 (s + (x.nodes.length : Nat))) rfl (by kernel_rfl) (by kernel_rfl) (by kernel_rfl) (fun _ _ _ h => h) (Or.inl ⟨by rfl, fun ww hSw => by obtain ⟨hs1, hs2, hs3⟩ := hSw; go_simp⟩) hS ?_
      simp only [Act.put, List.setIfInBounds_toArray, List.set_cons_zero, List.set_cons_succ, List.getElem_toArray, List.getElem_cons_succ, List.getElem_cons_zero]
      refine wpAnyH_take (i := 9) (v := .pointer (some ⟨z, 1, .none⟩)) rfl (by kernel_rfl) (by kernel_rfl) (by kernel_rfl) (fun _ _ _ h => h) (Or.inl ⟨by rfl, fun ww hSw => by obtain ⟨hs1, hs2, hs3⟩ := hSw; go_simp⟩) hS ?_
      simp only [Act.put, List.setIfInBounds_toArray, List.set_cons_zero, List.set_cons_succ, List.getElem_toArray, List.getElem_cons_succ, List.getElem_cons_zero]
      refine wpAnyH_take (i := 10) (v := .slice (some ⟨b, o, .none⟩) np pc) rfl (by kernel_rfl) (by kernel_rfl) (by kernel_rfl) (fun _ _ _ h => h) (Or.inl ⟨by rfl, fun ww hSw => by obtain ⟨hs1, hs2, hs3⟩ := hSw; go_simp⟩) hS ?_
      simp only [Act.put, List.setIfInBounds_toArray, List.set_cons_zero, List.set_cons_succ, List.getElem_toArray, List.getElem_cons_succ, List.getElem_cons_zero]
      refine wpAnyH_take (i := 11) (v := .int .i64 i) rfl (by kernel_rfl) (by kernel_rfl) (by kernel_rfl) (fun _ _ _ h => h) (Or.inl ⟨by rfl, fun ww hSw => by obtain ⟨hs1, hs2, hs3⟩ := hSw; go_simp⟩) hS ?_
      simp only [Act.put, List.setIfInBounds_toArray, List.set_cons_zero, List.set_cons_succ, List.getElem_toArray, List.getElem_cons_succ, List.getElem_cons_zero]
      refine wpAnyH_take (i := 12) (v := .pointer (some ⟨b, o + i * 70, .none⟩)) rfl (by kernel_rfl) (by kernel_rfl) (by kernel_rfl) (fun _ _ _ h => h) (Or.inl ⟨by rfl, fun ww hSw => by obtain ⟨hs1, hs2, hs3⟩ := hSw; go_simp⟩) hS ?_
      simp only [Act.put, List.setIfInBounds_toArray, List.set_cons_zero, List.set_cons_succ, List.getElem_toArray, List.getElem_cons_succ, List.getElem_cons_zero]
      refine wpAnyH_take (i := 13) (v := .pointer (some ⟨b, o + i * 70 + 45, .none⟩)) rfl (by kernel_rfl) (by kernel_rfl) (by kernel_rfl) (fun _ _ _ h => h) (Or.inl ⟨by rfl, fun ww hSw => by obtain ⟨hs1, hs2, hs3⟩ := hSw; go_simp⟩) hS ?_
      simp only [Act.put, List.setIfInBounds_toArray, List.set_cons_zero, List.set_cons_succ, List.getElem_toArray, List.getElem_cons_succ, List.getElem_cons_zero]
      refine wpAnyH_take (i := 14) (v := .slice gp1 x.pages.length gc1) rfl (by kernel_rfl) (by kernel_rfl) (by kernel_rfl) (fun _ _ _ h => h) (Or.inl ⟨by rfl, fun ww hSw => by obtain ⟨hs1, hs2, hs3⟩ := hSw; go_simp⟩) hS ?_
      simp only [Act.put, List.setIfInBounds_toArray, List.set_cons_zero, List.set_cons_succ, List.getElem_toArray, List.getElem_cons_succ, List.getElem_cons_zero]
      refine wpAnyH_take (i := 15) (v := .int .i64 (x.pages.length : Nat)) rfl (by kernel_rfl) (by kernel_rfl) (by kernel_rfl) (fun _ _ _ h => h) (Or.inl ⟨by rfl, fun ww hSw => by obtain ⟨hs1, hs2, hs3⟩ := hSw; go_simp⟩) hS ?_
      simp only [Act.put, List.setIfInBounds_toArray, List.set_cons_zero, List.set_cons_succ, List.getElem_toArray, List.getElem_cons_succ, List.getElem_cons_zero]
      refine wpAnyH_take (i := 16) (v := .int .i64 (s + (x.nodes.length : Nat) + (x.pages.length : Nat))) rfl (by kernel_rfl) (by kernel_rfl) (by kernel_rfl) (fun _ _ _ h => h) (Or.inl ⟨by rfl, fun ww hSw => by obtain ⟨hs1, hs2, hs3⟩ := hSw; go_simp⟩) hS ?_
      simp only [Act.put, List.setIfInBounds_toArray, List.set_cons_zero, List.set_cons_succ, List.getElem_toArray, List.getElem_cons_succ, List.getElem_cons_zero]
      refine wpAnyH_take (i := 17) (v := .int .i64 (s + (x.nodes.length : Nat) + (x.pages.length : Nat))) rfl (by kernel_rfl) (by kernel_rfl) (by kernel_rfl) (fun _ _ _ h => h) (Or.inl ⟨by rfl, fun ww hSw => by obtain ⟨hs1, hs2, hs3⟩ := hSw; go_simp⟩) hS ?_
      simp only [Act.put, List.setIfInBounds_toArray, List.set_cons_zero, List.set_cons_succ, List.getElem_toArray, List.getElem_cons_succ, List.getElem_cons_zero]
      refine wpAnyH_done (by kernel_rfl) ?_ _
      clear hS
      go_wp2
      refine ⟨⟨i + 1, by omega, by go_num, by rw [HNX.out], HB.out.drew⟩, by simp [intOf]; omega⟩
    · have i1 : ¬ (i : Int) < np := by omega
      obtain rfl : i = np := by omega
      have hes : s = c0 + sp := by
        rw [hsv, List.take_of_length_le (by have := HN.out.1; omega), ← HN.out.2.2.1]
      have HES : Hid (s = c0 + sp) := hes
      have HB0 := HB
      clear hb hsv hes HB i1
      go_wp2
      clear k1'
      go_loopw [5, 7] (fun t k wq => ∃ (j : Nat), j ≤ ni ∧ k = .int .i64 j ∧ t = .int .i64 (s + sumN ((L.inos.take j).map fun p => p.bl.length)) ∧ Hid (Below W1.heap.size W1 wq)) (fun _ v _ => (ni - intOf v).toNat)
      case atStart => exact ⟨0, by omega, rfl, by simp [sumN], HB0.out⟩
      case round =>
        obtain ⟨j, hj, rfl, rfl, HB⟩ := hrel
        have k3'' := (HB.out.cell (p := ⟨z, 3, .none⟩) HZ1.out).trans k3
        clear k3' k3
        obtain ⟨t, htv⟩ : ∃ t : Int, t = s + sumN ((L.inos.take j).map fun p => p.bl.length) := ⟨_, rfl⟩
        rw [← htv]
        have hb := sumN_take (L.inos.map fun p => p.bl.length) j
        rw [← List.map_take, ← HN.out.2.2.2] at hb
        by_cases hjn : j < ni
        · have i1 : (j : Int) < ni := by omega
          obtain ⟨-, b, o, x, cs, rfl, hbX, hx, ⟨bv, rfl, hN⟩, hcl, hr⟩ := H.out.is.at hjn
          obtain ⟨np1, nc1, rfl⟩ := hN.form
          have hnx : sumN ((L.inos.take (j + 1)).map fun p => p.bl.length) = sumN ((L.inos.take j).map fun p => p.bl.length) + x.bl.length := by
            rw [List.take_add_one, hx, List.map_append, sumN_app]
            simp [sumN]
          have hb2 := sumN_take (L.inos.map fun p => p.bl.length) (j + 1)
          rw [← List.map_take, ← HN.out.2.2.2, hnx] at hb2
          have hs0 : 0 ≤ t := by have := HC0.out; have := HES.out; omega
          have hs9 : t + x.bl.length ≤ 1000000000000000000 := by have := HC0.out; have := HES.out; have := HF.out; omega
          have e1 : IntKind.i64.wrap (t + (x.bl.length : Nat)) = t + (x.bl.length : Nat) := by rw [IntKind.wrap_i64]; omega
          have HNX : Hid (t + (x.bl.length : Nat) = s + sumN ((L.inos.take (j + 1)).map fun p => p.bl.length)) := by show _ = _; rw [hnx]; omega
          have q1 := hr 7 _ rfl
          have hbb : b < W1.heap.size := by have := HBW.out.1.size; omega
          have hbw : b < z := by have := HBW.out.2; omega
          have q2 := ((HB.out.cell (p := ⟨b, o + j * 8 + 7, .none⟩) hbb).trans (HBW.out.1.cell (p := ⟨b, o + j * 8 + 7, .none⟩) hbw)).trans q1
          clear hr hcl hN hx hbX hb hb2 hnx q1 htv
          go_wp2
          refine ⟨⟨j + 1, by omega, by go_num, by rw [HNX.out], HB.out⟩, by simp [intOf]; omega⟩
        · have i1 : ¬ (j : Int) < ni := by omega
          obtain rfl : j = ni := by omega
          have HT : Hid (t = s + si) := by
            show _ = _
            rw [htv, List.take_of_length_le (by have := HN.out.2.1; omega), ← HN.out.2.2.2]
          clear hb htv
          have HD : Hid (decide (t ≤ 6000) = decide (nf + i + nfi + j + nq + sp + si ≤ 6000)) := by
            have h1 := HT.out
            have h2 := HES.out
            have h3 := HC0.out
            show _ = _
            rw [decide_eq_decide]
            omega
          go_wp2
          go_ret
          have hbz := HBW.out
          refine ⟨?_, ?_⟩
          · show Ending.returned (.bool _) = _
            rw [← HD.out]
          · rw [hbz.2] at hbz
            exact hbz.1.trans (HB.out.mono hbz.1.size)
end Go.Proofs.Ythopgmmodldljaa
