import Derived.Test.YthopgmmodldljabAq
namespace Go.Proofs.Ythopgmmodldljab
open Go Go.RowKit
set_option linter.unusedVariables false
set_option linter.unusedSimpArgs false
def sumN : List Nat → Nat
 | [] => 0
 | x :: l => x + sumN l
theorem sumN_app (l m : List Nat) : sumN (l ++ m) = sumN l + sumN m := by
 induction l with
 | nil => simp [sumN]
 | cons x l ih => simp only [List.cons_append, sumN, ih]; omega
theorem sumN_take (l : List Nat) (i : Nat) : sumN (l.take i) ≤ sumN l := by
 have := congrArg sumN (List.take_append_drop i l)
 rw [sumN_app] at this
 omega
/-- How much there is of a look and a free list. -/
def fewN (L : Lk) (nf : Nat) : Nat := nf + L.procs.length + L.files.length + L.inos.length + L.pipes.length + sumN (L.procs.map fun p => p.nodes.length + p.pages.length) + sumN (L.inos.map fun p => p.bl.length)
set_option maxRecDepth 100000 in
set_option maxHeartbeats 2000000 in
theorem few_any {w : World} {X : Nat} {pv fv iv qv rv lv : Value} {L : Lk} (h : LkW w X pv fv iv qv rv lv L) (hX : X ≤ w.heap.size) (fp : Option Addr) (nf fc : Nat) (hs : fewN L nf ≤ 1000000000000000000) : Calls Try.prog 4 #[.agg (lkL L.tramp pv fv iv qv rv lv L.ticks L.next L.free).toArray, .slice fp nf fc] w fun e w' => e = .returned (.bool (decide (fewN L nf ≤ 6000))) ∧ Below w.heap.size w w' := by
 obtain ⟨pp, pc, rfl⟩ := h.ps.form
 obtain ⟨ffp, ffc, rfl⟩ := h.fs.form
 obtain ⟨ip, ic, rfl⟩ := h.is.form
 obtain ⟨qp, qc, rfl⟩ := h.qs.form
 have HF : Hid (fewN L nf ≤ 1000000000000000000) := hs
 obtain ⟨np, hnp⟩ : ∃ n, n = L.procs.length := ⟨_, rfl⟩
 obtain ⟨nfi, hnf⟩ : ∃ n, n = L.files.length := ⟨_, rfl⟩
 obtain ⟨ni, hni⟩ : ∃ n, n = L.inos.length := ⟨_, rfl⟩
 obtain ⟨nq, hnq⟩ : ∃ n, n = L.pipes.length := ⟨_, rfl⟩
 obtain ⟨sp, hsp⟩ : ∃ n, n = sumN (L.procs.map fun p => p.nodes.length + p.pages.length) := ⟨_, rfl⟩
 obtain ⟨si, hsi⟩ : ∃ n, n = sumN (L.inos.map fun p => p.bl.length) := ⟨_, rfl⟩
 have hfew : fewN L nf = nf + np + nfi + ni + nq + sp + si := by rw [fewN, ← hnp, ← hnf, ← hni, ← hnq, ← hsp, ← hsi]
 rw [hfew] at hs HF ⊢
 rw [← hnp] at h ⊢
 rw [← hni] at h ⊢
 rw [← hnf, ← hnq] at h ⊢
 have H : Hid (LkW w X (.slice pp np pc) (.slice ffp nfi ffc) (.slice ip ni ic) (.slice qp nq qc) rv lv L) := h
 have HN : Hid (np = L.procs.length ∧ ni = L.inos.length ∧ sp = sumN (L.procs.map fun p => p.nodes.length + p.pages.length) ∧ si = sumN (L.inos.map fun p => p.bl.length)) := ⟨hnp, hni, hsp, hsi⟩
 clear h hnp hnf hni hnq hsp hsi hfew
 obtain ⟨lc, hlc⟩ : ∃ lc, lc = lkL L.tramp (.slice pp np pc) (.slice ffp nfi ffc) (.slice ip ni ic) (.slice qp nq qc) rv lv L.ticks L.next L.free := ⟨_, rfl⟩
 rw [← hlc]
 have HL1 : Hid (lc[1]? = some (.slice pp np pc) ∧ lc[2]? = some (.slice ffp nfi ffc) ∧ lc[3]? = some (.slice ip ni ic) ∧ lc[4]? = some (.slice qp nq qc)) := by rw [hlc]; exact ⟨rfl, rfl, rfl, rfl⟩
 clear hlc
 obtain ⟨z, hz⟩ : ∃ z, z = w.heap.size := ⟨_, rfl⟩
 have HZ0 : Hid (z = w.heap.size) := hz
 go_enter Try.func4, Try.ntmps4
 go_wp2_with (first
  | (refine wpList_is (.box 31 (.tmp 0)) rfl ?_; refine wpList_boxG 31 lc 2 (.tmp 0) _ rfl rfl rfl rfl ?_; intro W1 hW1 hB1 hs1; rw [← hz] at hW1 hB1 hs1 ⊢; have k1 := cell_heap (o := 1) hW1; have k2 := cell_heap (o := 2) hW1; have k3 := cell_heap (o := 3) hW1; have k4 := cell_heap (o := 4) hW1; rw [List.getElem?_toArray] at k1 k2 k3 k4; rw [HL1.out.1] at k1; rw [HL1.out.2.1] at k2; rw [HL1.out.2.2.1] at k3; rw [HL1.out.2.2.2] at k4; have hzl : z < W1.heap.size := (by rw [hs1]; omega); clear hs1 hz)
  | fail)
 obtain ⟨c0, hc0⟩ : ∃ c : Int, c = (nf : Int) + np + nfi + ni + nq := ⟨_, rfl⟩
 rw [← hc0]
 have HC0 : Hid (c0 = (nf : Int) + np + nfi + ni + nq) := hc0
 have HBW : Hid (Below z w W1 ∧ z = w.heap.size) := ⟨hB1, HZ0.out⟩
 have HZ1 : Hid (z < W1.heap.size) := hzl
 clear hc0 k2 k4 hB1 hzl hW1
 go_loopw [5, 6] (fun s k wr => ∃ (i : Nat), i ≤ np ∧ k = .int .i64 i ∧ s = .int .i64 (c0 + sumN ((L.procs.take i).map fun p => p.nodes.length + p.pages.length)) ∧ Hid (Below W1.heap.size W1 wr)) (fun _ v _ => (np - intOf v).toNat)
 case atStart => exact ⟨0, by omega, rfl, by simp [sumN], Below.refl _ _⟩
 case round =>
  obtain ⟨i, hi, rfl, rfl, HB⟩ := hrel
  have k1' := (HB.out.cell (p := ⟨z, 1, .none⟩) HZ1.out).trans k1
  have k3' := (HB.out.cell (p := ⟨z, 3, .none⟩) HZ1.out).trans k3
  obtain ⟨s, hsv⟩ : ∃ s : Int, s = c0 + sumN ((L.procs.take i).map fun p => p.nodes.length + p.pages.length) := ⟨_, rfl⟩
  rw [← hsv]
  have hb := sumN_take (L.procs.map fun p => p.nodes.length + p.pages.length) i
  rw [← List.map_take, ← HN.out.2.2.1] at hb
  by_cases hin : i < np
  ·have i1 : (i : Int) < np := by omega
   obtain ⟨-, b, o, x, cs, rfl, hbX, hx, ⟨nv, gv, rfl, hN, hG⟩, hcl, hr⟩ := H.out.ps.at hin
   obtain ⟨np1, nc1, rfl⟩ := hN.form
   obtain ⟨gp1, gc1, rfl⟩ := hG.form
   have hnx : sumN ((L.procs.take (i + 1)).map fun p => p.nodes.length + p.pages.length) = sumN ((L.procs.take i).map fun p => p.nodes.length + p.pages.length) + (x.nodes.length + x.pages.length) := by
    rw [List.take_add_one, hx, List.map_append, sumN_app]
    simp [sumN]
   have hb2 := sumN_take (L.procs.map fun p => p.nodes.length + p.pages.length) (i + 1)
   rw [← List.map_take, ← HN.out.2.2.1, hnx] at hb2
   have hs0 : 0 ≤ s := by have := HC0.out; omega
   have hs9 : s + x.nodes.length + x.pages.length ≤ 1000000000000000000 := by have := HC0.out; have := HF.out; omega
   have e1 : IntKind.i64.wrap (s + (x.nodes.length : Nat)) = s + (x.nodes.length : Nat) := by rw [IntKind.wrap_i64]; omega
   have e2 : IntKind.i64.wrap (s + (x.nodes.length : Nat) + (x.pages.length : Nat)) = s + (x.nodes.length : Nat) + (x.pages.length : Nat) := by rw [IntKind.wrap_i64]; omega
   have HNX : Hid (s + (x.nodes.length : Nat) + (x.pages.length : Nat) = c0 + sumN ((L.procs.take (i + 1)).map fun p => p.nodes.length + p.pages.length)) := by show _ = _; rw [hnx]; omega
   have q1 := hr 44 _ rfl
   have q2 := hr 45 _ rfl
   have hS : (fun w' : World => w'.cell? ⟨z, 1, .none⟩ = some (.slice (some ⟨b, o, .none⟩) np pc) ∧ w'.cell? ⟨b, o + i * 70 + 44, .none⟩ = some (.slice np1 x.nodes.length nc1) ∧ w'.cell? ⟨b, o + i * 70 + 45, .none⟩ = some (.slice gp1 x.pages.length gc1)) wr.drew := by
    have hbb : b < W1.heap.size := by have := HBW.out.1.size; omega
    have hbw : b < z := by have := HBW.out.2; omega
    refine ⟨k1', ?_, ?_⟩
    ·exact ((HB.out.cell (p := ⟨b, o + i * 70 + 44, .none⟩) hbb).trans (HBW.out.1.cell (p := ⟨b, o + i * 70 + 44, .none⟩) hbw)).trans q1
    ·exact ((HB.out.cell (p := ⟨b, o + i * 70 + 45, .none⟩) hbb).trans (HBW.out.1.cell (p := ⟨b, o + i * 70 + 45, .none⟩) hbw)).trans q2
   clear hr hcl hN hG hx hbX hb hb2 hnx q1 q2 hsv
   go_upto_region 5 with fail
   refine wp_region_held (S := fun w' => w'.cell? ⟨z, 1, .none⟩ = some (.slice (some ⟨b, o, .none⟩) np pc) ∧ w'.cell? ⟨b, o + i * 70 + 44, .none⟩ = some (.slice np1 x.nodes.length nc1) ∧ w'.cell? ⟨b, o + i * 70 + 45, .none⟩ = some (.slice gp1 x.pages.length gc1)) (by kernel_rfl) ?_
   refine nT 0 (.int .i64 s) rfl ?_ (fun ww hSw => by obtain ⟨hs1, hs2, hs3⟩ := hSw; go_simp) (hS := hS)
   simp only [x0,x1,x2,x3,x4,x5,x6]
   refine nT 1 (.pointer (some ⟨z, 1, .none⟩)) rfl ?_ (fun ww hSw => by obtain ⟨hs1, hs2, hs3⟩ := hSw; go_simp) (hS := hS)
   simp only [x0,x1,x2,x3,x4,x5,x6]
   refine nT 2 (.slice (some ⟨b, o, .none⟩) np pc) rfl ?_ (fun ww hSw => by obtain ⟨hs1, hs2, hs3⟩ := hSw; go_simp) (hS := hS)
   simp only [x0,x1,x2,x3,x4,x5,x6]
   refine nT 3 (.int .i64 i) rfl ?_ (fun ww hSw => by obtain ⟨hs1, hs2, hs3⟩ := hSw; go_simp) (hS := hS)
   simp only [x0,x1,x2,x3,x4,x5,x6]
   refine nT 4 (.pointer (some ⟨b, o + i * 70, .none⟩)) rfl ?_ (fun ww hSw => by obtain ⟨hs1, hs2, hs3⟩ := hSw; go_simp) (hS := hS)
   simp only [x0,x1,x2,x3,x4,x5,x6]
   refine nT 5 (.pointer (some ⟨b, o + i * 70 + 44, .none⟩)) rfl ?_ (fun ww hSw => by obtain ⟨hs1, hs2, hs3⟩ := hSw; go_simp) (hS := hS)
   simp only [x0,x1,x2,x3,x4,x5,x6]
   refine nT 6 (.slice np1 x.nodes.length nc1) rfl ?_ (fun ww hSw => by obtain ⟨hs1, hs2, hs3⟩ := hSw; go_simp) (hS := hS)
   simp only [x0,x1,x2,x3,x4,x5,x6]
   refine nT 7 (.int .i64 (x.nodes.length : Nat)) rfl ?_ (fun ww hSw => by obtain ⟨hs1, hs2, hs3⟩ := hSw; go_simp) (hS := hS)
   simp only [x0,x1,x2,x3,x4,x5,x6]
   refine nT 8 (.int .i64 (s + (x.nodes.length : Nat))) rfl ?_ (fun ww hSw => by obtain ⟨hs1, hs2, hs3⟩ := hSw; go_simp) (hS := hS)
   simp only [x0,x1,x2,x3,x4,x5,x6]
   refine nT 9 (.pointer (some ⟨z, 1, .none⟩)) rfl ?_ (fun ww hSw => by obtain ⟨hs1, hs2, hs3⟩ := hSw; go_simp) (hS := hS)
   simp only [x0,x1,x2,x3,x4,x5,x6]
   refine nT 10 (.slice (some ⟨b, o, .none⟩) np pc) rfl ?_ (fun ww hSw => by obtain ⟨hs1, hs2, hs3⟩ := hSw; go_simp) (hS := hS)
   simp only [x0,x1,x2,x3,x4,x5,x6]
   refine nT 11 (.int .i64 i) rfl ?_ (fun ww hSw => by obtain ⟨hs1, hs2, hs3⟩ := hSw; go_simp) (hS := hS)
   simp only [x0,x1,x2,x3,x4,x5,x6]
   refine nT 12 (.pointer (some ⟨b, o + i * 70, .none⟩)) rfl ?_ (fun ww hSw => by obtain ⟨hs1, hs2, hs3⟩ := hSw; go_simp) (hS := hS)
   simp only [x0,x1,x2,x3,x4,x5,x6]
   refine nT 13 (.pointer (some ⟨b, o + i * 70 + 45, .none⟩)) rfl ?_ (fun ww hSw => by obtain ⟨hs1, hs2, hs3⟩ := hSw; go_simp) (hS := hS)
   simp only [x0,x1,x2,x3,x4,x5,x6]
   refine nT 14 (.slice gp1 x.pages.length gc1) rfl ?_ (fun ww hSw => by obtain ⟨hs1, hs2, hs3⟩ := hSw; go_simp) (hS := hS)
   simp only [x0,x1,x2,x3,x4,x5,x6]
   refine nT 15 (.int .i64 (x.pages.length : Nat)) rfl ?_ (fun ww hSw => by obtain ⟨hs1, hs2, hs3⟩ := hSw; go_simp) (hS := hS)
   simp only [x0,x1,x2,x3,x4,x5,x6]
   refine nT 16 (.int .i64 (s + (x.nodes.length : Nat) + (x.pages.length : Nat))) rfl ?_ (fun ww hSw => by obtain ⟨hs1, hs2, hs3⟩ := hSw; go_simp) (hS := hS)
   simp only [x0,x1,x2,x3,x4,x5,x6]
   refine nT 17 (.int .i64 (s + (x.nodes.length : Nat) + (x.pages.length : Nat))) rfl ?_ (fun ww hSw => by obtain ⟨hs1, hs2, hs3⟩ := hSw; go_simp) (hS := hS)
   simp only [x0,x1,x2,x3,x4,x5,x6]
   refine wpAnyH_done (by kernel_rfl) ?_ _
   clear hS
   go_wp2
   refine ⟨⟨i + 1, by omega, by go_num, by rw [HNX.out], HB.out.drew⟩, by simp [intOf]; omega⟩
  ·have i1 : ¬ (i : Int) < np := by omega
   obtain rfl : i = np := by omega
   have hes : s = c0 + sp := by
    rw [hsv, List.take_of_length_le (by have := HN.out.1; omega), ← HN.out.2.2.1]
   have HES : Hid (s = c0 + sp) := hes
   have HB0 := HB
   clear hb hsv hes HB i1
   go_wp2
   clear k1'
   go_loopw [5, 7] (fun t k wq => ∃ (j : Nat), j ≤ ni ∧ k = .int .i64 j ∧ t = .int .i64 (s + sumN ((L.inos.take j).map fun p => p.bl.length)) ∧ Hid (Below W1.heap.size W1 wq)) (fun _ v _ => (ni - intOf v).toNat)
   case atStart => exact ⟨0, by omega, rfl, by simp [sumN], HB0.out⟩
   case round =>
    obtain ⟨j, hj, rfl, rfl, HB⟩ := hrel
    have k3'' := (HB.out.cell (p := ⟨z, 3, .none⟩) HZ1.out).trans k3
    clear k3' k3
    obtain ⟨t, htv⟩ : ∃ t : Int, t = s + sumN ((L.inos.take j).map fun p => p.bl.length) := ⟨_, rfl⟩
    rw [← htv]
    have hb := sumN_take (L.inos.map fun p => p.bl.length) j
    rw [← List.map_take, ← HN.out.2.2.2] at hb
    by_cases hjn : j < ni
    ·have i1 : (j : Int) < ni := by omega
     obtain ⟨-, b, o, x, cs, rfl, hbX, hx, ⟨bv, rfl, hN⟩, hcl, hr⟩ := H.out.is.at hjn
     obtain ⟨np1, nc1, rfl⟩ := hN.form
     have hnx : sumN ((L.inos.take (j + 1)).map fun p => p.bl.length) = sumN ((L.inos.take j).map fun p => p.bl.length) + x.bl.length := by
      rw [List.take_add_one, hx, List.map_append, sumN_app]
      simp [sumN]
     have hb2 := sumN_take (L.inos.map fun p => p.bl.length) (j + 1)
     rw [← List.map_take, ← HN.out.2.2.2, hnx] at hb2
     have hs0 : 0 ≤ t := by have := HC0.out; have := HES.out; omega
     have hs9 : t + x.bl.length ≤ 1000000000000000000 := by have := HC0.out; have := HES.out; have := HF.out; omega
     have e1 : IntKind.i64.wrap (t + (x.bl.length : Nat)) = t + (x.bl.length : Nat) := by rw [IntKind.wrap_i64]; omega
     have HNX : Hid (t + (x.bl.length : Nat) = s + sumN ((L.inos.take (j + 1)).map fun p => p.bl.length)) := by show _ = _; rw [hnx]; omega
     have q1 := hr 7 _ rfl
     have hbb : b < W1.heap.size := by have := HBW.out.1.size; omega
     have hbw : b < z := by have := HBW.out.2; omega
     have q2 := ((HB.out.cell (p := ⟨b, o + j * 8 + 7, .none⟩) hbb).trans (HBW.out.1.cell (p := ⟨b, o + j * 8 + 7, .none⟩) hbw)).trans q1
     clear hr hcl hN hx hbX hb hb2 hnx q1 htv
     go_wp2
     refine ⟨⟨j + 1, by omega, by go_num, by rw [HNX.out], HB.out⟩, by simp [intOf]; omega⟩
    ·have i1 : ¬ (j : Int) < ni := by omega
     obtain rfl : j = ni := by omega
     have HT : Hid (t = s + si) := by
      show _ = _
      rw [htv, List.take_of_length_le (by have := HN.out.2.1; omega), ← HN.out.2.2.2]
     clear hb htv
     have HD : Hid (decide (t ≤ 6000) = decide (nf + i + nfi + j + nq + sp + si ≤ 6000)) := by
      have h1 := HT.out
      have h2 := HES.out
      have h3 := HC0.out
      show _ = _
      rw [decide_eq_decide]
      omega
     go_wp2
     go_ret
     have hbz := HBW.out
     refine ⟨?_, ?_⟩
     ·show Ending.returned (.bool _) = _
      rw [← HD.out]
     ·rw [hbz.2] at hbz
      exact hbz.1.trans (HB.out.mono hbz.1.size)
end Go.Proofs.Ythopgmmodldljab
namespace Go.Proofs.Ythopgmmodldljab
open Go
set_option linter.unusedVariables false
/-! A region that draws: loads taken first under S; behind the operations Z S is not asked. -/
section
variable {P : Program} {ops : Array Oper} {Q : Exit → Act → World → Prop} {md : Region.Mode} {S : World → Prop} {Z : Nat → Bool}
def wpSet (P : Program) (md : Region.Mode) (ops : Array Oper) (Q : Exit → Act → World → Prop) (S : World → Prop) (Z : Nat → Bool) : Nat → Array Bool → Act → World → Prop
 | 0, listed, a, w => Region.ready md ops listed = [] ∧ Q .normal a w
 | n + 1, listed, a, w => (Region.ready md ops listed = [] → Q .normal a w) ∧ ∀ i ∈ Region.ready md ops listed, wpOp P ops Q i (fun a' w' => (Z i = false → S w') ∧ wpSet P md ops Q S Z n (listed.setIfInBounds i true) a' w') a w
theorem wpSet.any : ∀ (n : Nat) (listed : Array Bool) (a : Act) (w : World), wpSet P md ops Q S Z n listed a w → wpAny P md ops Q n listed a w
 | 0, _, _, _, h => h
 | n + 1, _, _, _, h => ⟨h.1, fun i hi => wpOp_mono (fun a' w' h' => wpSet.any n _ a' w' h'.2) (h.2 i hi)⟩
/-- Who waits for i, at first or second hand. -/
def clo (md : Region.Mode) (ops : Array Oper) (i : Nat) : List Bool := ops.toList.foldl (fun acc o => acc ++ [o.after.any fun e => Region.binds md e && (e.on == i || acc.getD e.on false)]) []
def chk (md : Region.Mode) (ops : Array Oper) (Z : Nat → Bool) (listed : Array Bool) (i : Nat) (D : List Bool) : Bool :=
 ((List.range ops.size).all fun j => !(D.getD j false) || (match ops[j]? with | some o => o.after.any fun e => Region.binds md e && (e.on == i || D.getD e.on false) | none => false)) &&
 ((List.range ops.size).all fun j => !(Z j) || D.getD j false || listed.getD j true) && ((List.range ops.size).all fun j => !(D.getD j false) || !(listed.getD j true)) && decide (D.length = ops.size)
theorem set_first {i : Nat} {oi : Oper} {v : Value} {D : List Bool} (hi : ops[i]? = some oi) (hD : ∀ (j : Nat) (oj : Oper), ops[j]? = some oj → D.getD j false = true → ∃ e ∈ oj.after, Region.binds md e = true ∧ (e.on = i ∨ D.getD e.on false = true))
  (hsel : ∀ (j : Nat) (o : Oper) cs b, ops[j]? = some o → o.op ≠ .select cs b) (hQ : ∀ c a w, Q (.panic c) (a.put oi.dst v) w → Q (.panic c) a w) (n : Nat) :
  ∀ (listed : Array Bool) (a : Act) (w : World), (∀ (j : Nat) (oj : Oper), ops[j]? = some oj → Z j = true → listed.getD j true = false → D.getD j false = true) → (∀ j, D.getD j false = true → listed.getD j true = false) → (∀ j oj, ops[j]? = some oj → j ≠ i → listed.getD j true = false → (∀ e ∈ oj.after, Region.binds md e = true → e.on ≠ i) → oi.apart ops oj = true) → i ∈ Region.ready md ops listed → YieldsIf P ops S oi v a → S w →
   wpSet P md ops Q S Z n (listed.setIfInBounds i true) (a.put oi.dst v) w → wpSet P md ops Q S Z (n + 1) listed a w := by
 induction n with
 | zero =>
  intro listed a w _ _ _ hr hy hS H
  refine ⟨fun h => absurd hr (by rw [h]; simp), fun j hj => ?_⟩
  by_cases hji : j = i
  ·rw [hji]
   exact hy.wpOp hi hS ⟨fun _ => hS, H⟩
  ·exact absurd (ready_mono hj hji) (by rw [H.1]; simp)
 | succ n ih =>
  intro listed a w hZ hL hfree hr hy hS H
  refine ⟨fun h => absurd hr (by rw [h]; simp), fun j hj => ?_⟩
  by_cases hji : j = i
  ·rw [hji]
   exact hy.wpOp hi hS ⟨fun _ => hS, H⟩
  obtain ⟨hjun, oj, hoj, hall⟩ := mem_ready.1 hj
  have hnot := waits hj hoj hr
  have hjD : D.getD j false = false := by
   cases hd : D.getD j false with
   | false => rfl
   | true =>
    obtain ⟨e, he, hb, hon⟩ := hD j oj hoj hd
    rcases hon with hon | hon
    ·exact absurd hon (hnot e he hb)
    ·have h1 := hall e he hb
     have h2 := hL _ hon
     rcases Nat.lt_or_ge e.on listed.size with h' | h'
     ·simp [h'] at h1 h2
      rw [h2] at h1
      cases h1
     ·simp [Array.getElem?_eq_none h'] at h1
  have hjZ : Z j = false := by
   cases hz : Z j with
   | false => rfl
   | true => rw [hZ j oj hoj hz hjun] at hjD; cases hjD
  refine wpOp_mono (fun a' w' h3 => ?_) (wpOp_putIf hoj (hfree j oj hoj hji hjun hnot) (fun cs b => hsel i oi cs b hi) (fun cs b => hsel j oj cs b hoj) hQ hy (H.2 j (ready_mono hj hji)))
  obtain ⟨y', s', h4⟩ := h3
  refine ⟨s', ih _ a' w' ?_ ?_ ?_ (ready_mono hr (Ne.symm hji)) y' (s' hjZ) (by rw [Array.setIfInBounds_comm _ _ hji]; exact h4)⟩
  ·intro k ok hk hzk hun
   refine hZ k ok hk hzk ?_
   by_cases hjk : j = k
   ·rw [← hjk]; exact hjun
   ·rw [getD_set_ne true hjk] at hun; exact hun
  ·intro k hk
   have hjk : j ≠ k := by rintro rfl; rw [hk] at hjD; cases hjD
   rw [getD_set_ne true hjk]
   exact hL k hk
  ·intro k ok hk hki hun hno
   refine hfree k ok hk hki ?_ hno
   by_cases hjk : j = k
   ·rw [← hjk]; exact hjun
   ·rw [getD_set_ne true hjk] at hun; exact hun
theorem set_take {i : Nat} {oi : Oper} {v : Value} {n : Nat} {listed : Array Bool} {a : Act} {w : World} (hi : ops[i]? = some oi) (hc : chk md ops Z listed i (clo md ops i) = true)
  (hs : Region.noSelect ops = true) (hf : Region.free md ops listed i = true) (hr : (Region.ready md ops listed).contains i = true)
  (hQ : ∀ c a w, Q (.panic c) (a.put oi.dst v) w → Q (.panic c) a w) (hy : YieldsIf P ops S oi v a) (hS : S w)
  (h : wpSet P md ops Q S Z n (listed.setIfInBounds i true) (a.put oi.dst v) w) : wpSet P md ops Q S Z (n + 1) listed a w := by
 unfold chk at hc
 simp only [Bool.and_eq_true, List.all_eq_true, List.mem_range, Bool.or_eq_true, Bool.not_eq_true', decide_eq_true_eq] at hc
 obtain ⟨⟨⟨c1, c2⟩, c3⟩, c4⟩ := hc
 refine set_first (D := clo md ops i) hi ?_ (Region.noSelect_spec hs) hQ n listed a w ?_ ?_ (Region.free_spec hi hf) (by simpa using hr) hy hS h
 ·intro j oj hoj hd
  have hj : j < ops.size := (Array.getElem?_eq_some_iff.1 hoj).1
  rcases c1 j hj with h1 | h1
  ·rw [h1] at hd; cases hd
  ·rw [hoj] at h1
   rw [Array.any_eq_true'] at h1
   obtain ⟨e, he, hb⟩ := h1
   simp only [Bool.and_eq_true, Bool.or_eq_true, beq_iff_eq] at hb
   exact ⟨e, he, hb.1, hb.2⟩
 ·intro j oj hoj hz hun
  have hj : j < ops.size := (Array.getElem?_eq_some_iff.1 hoj).1
  rcases c2 j hj with (h1 | h1) | h1
  ·rw [h1] at hz; cases hz
  ·exact h1
  ·rw [h1] at hun; cases hun
 ·intro j hd
  by_cases hj : j < ops.size
  ·rcases c3 j hj with h1 | h1
   ·rw [h1] at hd; cases hd
   ·exact h1
  ·rw [List.getD_eq_getElem?_getD, List.getElem?_eq_none (by omega)] at hd
   cases hd
theorem sV {i : Nat} {oi : Oper} {v : Value} {n : Nat} {listed : Array Bool} {a : Act} {w : World} (hi : ops[i]? = some oi) (hy : YieldsIf P ops S oi v a) (hS : S w)
  (h : wpSet P md ops Q S Z n (listed.setIfInBounds i true) (a.put oi.dst v) w) (hc : chk md ops Z listed i (clo md ops i) = true := by kernel_rfl)
  (hs : Region.noSelect ops = true := by kernel_rfl) (hf : Region.free md ops listed i = true := by kernel_rfl) (hr : (Region.ready md ops listed).contains i = true := by kernel_rfl)
  (hQ : ∀ c a w, Q (.panic c) (a.put oi.dst v) w → Q (.panic c) a w := by exact fun _ _ _ h => h) : wpSet P md ops Q S Z (n + 1) listed a w := set_take hi hc hs hf hr hQ hy hS h
theorem sT {oi : Oper} {n : Nat} {listed : Array Bool} {a : Act} {w : World} (i : Nat) (v : Value) (hi : ops[i]? = some oi) (hy : ∀ ww, S ww → (execOp a.eval oi).run P ww = .ok (.value v) ww) (hS : S w)
  (h : wpSet P md ops Q S Z n (listed.setIfInBounds i true) (a.put oi.dst v) w) (hw : Region.wanted oi (yielded ops a.tmps) = true := by rfl) (hc : chk md ops Z listed i (clo md ops i) = true := by kernel_rfl)
  (hs : Region.noSelect ops = true := by kernel_rfl) (hf : Region.free md ops listed i = true := by kernel_rfl) (hr : (Region.ready md ops listed).contains i = true := by kernel_rfl)
  (hQ : ∀ c a w, Q (.panic c) (a.put oi.dst v) w → Q (.panic c) a w := by exact fun _ _ _ h => h) : wpSet P md ops Q S Z (n + 1) listed a w := set_take hi hc hs hf hr hQ (.inl ⟨hw, hy⟩) hS h
/-- What yields in whatever world. -/
theorem set_pureN {i : Nat} {oi : Oper} {v : Value} (hi : ops[i]? = some oi) (hz : Z i = true) (hsel : ∀ (j : Nat) (o : Oper) cs b, ops[j]? = some o → o.op ≠ .select cs b) (hQ : ∀ c a w, Q (.panic c) (a.put oi.dst v) w → Q (.panic c) a w) (n : Nat) :
  ∀ (listed : Array Bool) (a : Act) (w : World), (∀ j oj, ops[j]? = some oj → j ≠ i → listed.getD j true = false → (∀ e ∈ oj.after, Region.binds md e = true → e.on ≠ i) → oi.apart ops oj = true) → i ∈ Region.ready md ops listed → YieldsIf P ops (fun _ => True) oi v a →
   wpSet P md ops Q S Z n (listed.setIfInBounds i true) (a.put oi.dst v) w → wpSet P md ops Q S Z (n + 1) listed a w := by
 induction n with
 | zero =>
  intro listed a w _ hr hy H
  refine ⟨fun h => absurd hr (by rw [h]; simp), fun j hj => ?_⟩
  by_cases hji : j = i
  ·rw [hji]
   exact hy.wpOp hi trivial ⟨fun h => (by rw [hz] at h; cases h), H⟩
  ·exact absurd (ready_mono hj hji) (by rw [H.1]; simp)
 | succ n ih =>
  intro listed a w hfree hr hy H
  refine ⟨fun h => absurd hr (by rw [h]; simp), fun j hj => ?_⟩
  by_cases hji : j = i
  ·rw [hji]
   exact hy.wpOp hi trivial ⟨fun h => (by rw [hz] at h; cases h), H⟩
  obtain ⟨hjun, oj, hoj, hall⟩ := mem_ready.1 hj
  have hnot := waits hj hoj hr
  refine wpOp_mono (fun a' w' h3 => ?_) (wpOp_putIf hoj (hfree j oj hoj hji hjun hnot) (fun cs b => hsel i oi cs b hi) (fun cs b => hsel j oj cs b hoj) hQ hy (H.2 j (ready_mono hj hji)))
  obtain ⟨y', s', h4⟩ := h3
  refine ⟨s', ih _ a' w' ?_ (ready_mono hr (Ne.symm hji)) y' (by rw [Array.setIfInBounds_comm _ _ hji]; exact h4)⟩
  intro k ok hk hki hun hno
  refine hfree k ok hk hki ?_ hno
  by_cases hjk : j = k
  ·rw [← hjk]; exact hjun
  ·rw [getD_set_ne true hjk] at hun; exact hun
/-- Number i yields in whatever world, and S is not asked behind it. -/
theorem set_pure {i : Nat} {oi : Oper} {v : Value} {n : Nat} {listed : Array Bool} {a : Act} {w : World} (hi : ops[i]? = some oi) (hz : Z i = true)
  (hs : Region.noSelect ops = true) (hf : Region.free md ops listed i = true) (hr : (Region.ready md ops listed).contains i = true)
  (hQ : ∀ c a w, Q (.panic c) (a.put oi.dst v) w → Q (.panic c) a w) (hy : YieldsIf P ops (fun _ => True) oi v a)
  (h : wpSet P md ops Q S Z n (listed.setIfInBounds i true) (a.put oi.dst v) w) : wpSet P md ops Q S Z (n + 1) listed a w :=
 set_pureN hi hz (Region.noSelect_spec hs) hQ n listed a w (Region.free_spec hi hf) (by simpa using hr) hy h
/-- The rest in its own order. -/
def seqB (md : Region.Mode) (ops : Array Oper) (Z : Nat → Bool) : Nat → Nat → Array Bool → Bool
 | 0, k, listed => (Region.ready md ops listed).isEmpty && decide (ops.size ≤ k)
 | m + 1, k, listed => decide (Region.ready md ops listed = [k]) && Z k && decide (k < ops.size) && seqB md ops Z m (k + 1) (listed.setIfInBounds k true)
theorem set_tail : ∀ (m k n : Nat) (listed : Array Bool) (a : Act) (w : World), seqB md ops Z m k listed = true → m ≤ n → wpList P ops Q (ops.toList.drop k) a w → wpSet P md ops Q S Z n listed a w
 | 0, k, n, listed, a, w, hq, _, h => by
  simp only [seqB, Bool.and_eq_true, List.isEmpty_iff, decide_eq_true_eq] at hq
  rw [List.drop_of_length_le (by simpa using hq.2)] at h
  cases n with
  | zero => exact ⟨hq.1, h⟩
  | succ n => exact ⟨fun _ => h, by rw [hq.1]; simp⟩
 | m + 1, k, 0, listed, a, w, _, hn, _ => by omega
 | m + 1, k, n + 1, listed, a, w, hq, hn, h => by
  simp only [seqB, Bool.and_eq_true, decide_eq_true_eq] at hq
  obtain ⟨⟨⟨q1, q2⟩, q3⟩, q4⟩ := hq
  refine ⟨fun h0 => (by rw [q1] at h0; cases h0), fun j hj => ?_⟩
  rw [q1, List.mem_singleton] at hj
  subst hj
  have hdrop : ops.toList.drop j = ops[j] :: ops.toList.drop (j + 1) := by
   rw [List.drop_eq_getElem_cons (by simpa using q3)]
   simp
  rw [hdrop] at h
  have h2 : wpOp P ops Q j (wpList P ops Q (ops.toList.drop (j + 1))) a w := by
   unfold wpOp
   rw [Array.getElem?_eq_getElem q3]
   exact h
  exact wpOp_mono (fun a' w' h3 => ⟨fun hz => (by rw [q2] at hz; cases hz), set_tail m (j + 1) n _ a' w' q4 (by omega) h3⟩) h2
theorem region_set {id : Nat} {a : Act} {w : World} (S : World → Prop) (k : Nat) (pu : List Nat) (hm : P.follows .mixedOrders = true) (h : wpSet P .any ops Q S (fun j => decide (k ≤ j) || pu.contains j) ops.size (Array.replicate ops.size false) a w.drew) : (Code.region id ops true).wp P Q a w :=
 wp_region_any hm (wpSet.any _ _ _ _ h)
end
end Go.Proofs.Ythopgmmodldljab
