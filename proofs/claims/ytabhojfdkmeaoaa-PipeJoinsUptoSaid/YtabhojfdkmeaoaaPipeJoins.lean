import Derived.Test.YtabhojfdkmeaoaaJo
import Derived.Test.YtabhojfdkmeaoaaLu
namespace Go.Proofs.Ytabhojfdkmeaoaa
open Go.ChangeShapes Go.WideShapes Go.ChangeAt Go.RowKit
set_option linter.unusedVariables false
set_option linter.unusedSimpArgs false
theorem pipeJoins_contract (H : Type) (enc : TypeId × Value → H) (W : World) (base : Nat) (args : Array Value) (ds gs : List (DataW H)) (before : List MemPlace)
    (hval0 : ∀ (j : Nat) t v, Try.f7.params[j]? = some t → args[j]? = some v → Value.okWide Try.prog W .any base t v)
    (hW : DataW.Whole enc Try.prog Try.f7.params.toList Rows.pipeJoinsSpec.vars false W args.toList ds gs before) (hk : Rows.uptoSmall H (ds ++ gs) = true)
    (hsz : (DataW.weightsEach Try.prog (Try.f7.params.toList ++ (Rows.OpenSpec.upto Rows.pipeJoinsSpec).bare.plain.varTypes Try.prog) (ds ++ gs)).all (· ≤ reachBytes) = true) :
    Calls Try.prog 7 args W fun e W' => ∃ v, e = .returned v ∧ Rows.pipeJoinsSpec.post enc Try.prog Try.f7 false true false false W args v W' := by
  have hval : ∀ (j : Nat) t v, Try.f7.params[j]? = some t → args[j]? = some v → Value.okWide Try.prog W .any base t v := hval0
  have hW' := hW
  obtain ⟨p, q, hA0, hV, rfl, hfz, hnd⟩ := hW
  have hA : DataW.TrodAll enc Try.prog W 0 (fun _ => true) true Try.f7.params.toList args.toList ds p := hA0
  rw [Try.params7] at hA hval
  obtain ⟨v0, vs0, d0, ds0, p0, q0, hargs, rfl, rfl, h0, r0⟩ := trodAll_cons hA
  obtain ⟨v1, vs1, d1, ds1, p1, q1, rfl, rfl, rfl, h1, r1⟩ := trodAll_cons r0
  obtain ⟨v2, vs2, d2, ds2, p2, q2, rfl, rfl, rfl, h2, r2⟩ := trodAll_cons r1
  obtain ⟨v3, vs3, d3, ds3, p3, q3, rfl, rfl, rfl, h3, r3⟩ := trodAll_cons r2
  obtain ⟨v4, vs4, d4, ds4, p4, q4, rfl, rfl, rfl, h4, r4⟩ := trodAll_cons r3
  obtain ⟨rfl, rfl, rfl⟩ := trodAll_nil r4
  obtain rfl : args = #[v0, v1, v2, v3, v4] := by cases args; simp_all
  obtain ⟨rfl, rfl⟩ := trodVars_none hV
  have k0 := h0
  have lt0 : ∀ x ∈ p0, x.block < W.heap.size := by obtain ⟨m, hm⟩ := k0; exact DataW.trod_lt m _ _ _ hm
  have k1 := h1
  have lt1 : ∀ x ∈ p1, x.block < W.heap.size := by obtain ⟨m, hm⟩ := k1; exact DataW.trod_lt m _ _ _ hm
  have k2 := h2
  have lt2 : ∀ x ∈ p2, x.block < W.heap.size := by obtain ⟨m, hm⟩ := k2; exact DataW.trod_lt m _ _ _ hm
  have k3 := h3
  have lt3 : ∀ x ∈ p3, x.block < W.heap.size := by obtain ⟨m, hm⟩ := k3; exact DataW.trod_lt m _ _ _ hm
  have k4 := h4
  have lt4 : ∀ x ∈ p4, x.block < W.heap.size := by obtain ⟨m, hm⟩ := k4; exact DataW.trod_lt m _ _ _ hm
  have hzz : (DataW.weightsEach Try.prog [36, 22, 22, 3, 3] [d0, d1, d2, d3, d4]).all (· ≤ reachBytes) = true := hsz
  have hbk := bound hk
  have hpl1 : Rows.uptoBulk d1 ≤ Rows.uptoBulkAll ([d0, d1, d2, d3, d4] ++ []) := part_le (by simp)
  have hpl2 : Rows.uptoBulk d2 ≤ Rows.uptoBulkAll ([d0, d1, d2, d3, d4] ++ []) := part_le (by simp)
  have rb : reachBytes = 140737488351232 := by decide
  have hb0 : ∀ k ∈ d0.weights Try.prog 36, k ≤ 140737488351232 := by
    intro k hk
    have h1 := List.all_eq_true.1 hzz k (DataW.weights_mem_each (P := Try.prog) (ts := [36, 22, 22, 3, 3]) (ds := [d0, d1, d2, d3, d4]) (j := 0) rfl rfl k hk)
    rw [rb] at h1
    exact of_decide_eq_true h1
  have hb1 : ∀ k ∈ d1.weights Try.prog 22, k ≤ 140737488351232 := by
    intro k hk
    have h1 := List.all_eq_true.1 hzz k (DataW.weights_mem_each (P := Try.prog) (ts := [36, 22, 22, 3, 3]) (ds := [d0, d1, d2, d3, d4]) (j := 1) rfl rfl k hk)
    rw [rb] at h1
    exact of_decide_eq_true h1
  have hb2 : ∀ k ∈ d2.weights Try.prog 22, k ≤ 140737488351232 := by
    intro k hk
    have h1 := List.all_eq_true.1 hzz k (DataW.weights_mem_each (P := Try.prog) (ts := [36, 22, 22, 3, 3]) (ds := [d0, d1, d2, d3, d4]) (j := 2) rfl rfl k hk)
    rw [rb] at h1
    exact of_decide_eq_true h1
  obtain ⟨sq0, sl0, sc0, xs0, R0, S0, rd0, wt0, rfl, hby0, hxb0, hR0, hS0, hwt0⟩ := open_st (hval 0 36 v0 rfl rfl) h0
  have hn0 := hwt0 _ hb0
  obtain ⟨fuel1, hf1⟩ := h1
  obtain ⟨sa1, len1, cap1, rfl⟩ := okWide_slice Try.underlying22 (hval 1 22 v1 rfl rfl)
  have hf'1 : DataW.trod enc Try.prog W 0 (fun _ => true) true fuel1 22 [.slice sa1 len1 cap1] = some (d1, p1) := hf1
  have hu1 := Nat.le_trans (Nat.le_trans (bulk_byt hf'1) hpl1) hbk
  obtain ⟨pp1, nn1, cc1, xs1, hvv1, hby1, hxb1, hwt1⟩ := open_byt hf'1
  injection hvv1 with hv1 hv2 hv3
  subst hv1 hv2 hv3
  have hn1 := hwt1 _ hb1
  obtain ⟨fuel2, hf2⟩ := h2
  obtain ⟨sa2, len2, cap2, rfl⟩ := okWide_slice Try.underlying22 (hval 2 22 v2 rfl rfl)
  have hf'2 : DataW.trod enc Try.prog W 0 (fun _ => true) true fuel2 22 [.slice sa2 len2 cap2] = some (d2, p2) := hf2
  have hu2 := Nat.le_trans (Nat.le_trans (bulk_byt hf'2) hpl2) hbk
  obtain ⟨pp2, nn2, cc2, xs2, hvv2, hby2, hxb2, hwt2⟩ := open_byt hf'2
  injection hvv2 with hv1 hv2 hv3
  subst hv1 hv2 hv3
  have hn2 := hwt2 _ hb2
  obtain ⟨a3, rfl, rfl, rfl, w3⟩ := open_int Try.underlying3 (hval 3 3 v3 rfl rfl) h3
  obtain ⟨a4, rfl, rfl, rfl, w4⟩ := open_int Try.underlying3 (hval 4 3 v4 rfl rfl) h4
  clear hA0 hval0
  refine (joins_any W sq0 sl0 sc0 xs0 R0 S0 rd0 wt0 hby0 hxb0 hR0 hS0 sa1 len1 cap1 xs1 hby1 hxb1 sa2 len2 cap2 xs2 hby2 hxb2 (by omega) (by omega) a3 a4).mono fun e W' ⟨he, bel⟩ => ?_
  subst he
  exact ⟨_, rfl, _, _, _, [], _, [], hW', trodAll_mk1 (shut_bool Try.underlying4 _), (trodAll_cons_mk (Below.trod laidOut (by kernel_rfl) (of_decide_eq_true (by kernel_rfl)) k0 bel lt0) (trodAll_cons_mk (Below.trod laidOut (by kernel_rfl) (of_decide_eq_true (by kernel_rfl)) k1 bel lt1) (trodAll_cons_mk (Below.trod laidOut (by kernel_rfl) (of_decide_eq_true (by kernel_rfl)) k2 bel lt2) (trodAll_cons_mk (Below.trod laidOut (by kernel_rfl) (of_decide_eq_true (by kernel_rfl)) k3 bel lt3) (trodAll_cons_mk (Below.trod laidOut (by kernel_rfl) (of_decide_eq_true (by kernel_rfl)) k4 bel lt4) trodAll_mk0))))), rfl, bel.frame _, fun h => by cases h⟩
set_option maxRecDepth 100000 in
theorem pipeJoins_lifted (os : Os) (started : os.Started) (H : Type) (enc : TypeId × Value → H) (F : Stop.Interp) :
    ReturnsInHanded {} Try.checked os 7 .any ((Rows.OpenSpec.upto Rows.pipeJoinsSpec).pre6 enc Try.prog Try.f7 Rows.pipeJoinsUptoRow.domain false) (((Rows.OpenSpec.upto Rows.pipeJoinsSpec).at F).post enc Try.prog Try.f7 false true false false) := by
  refine returnsInHanded_of_cond_sized (C := Try.checked) (s := Rows.OpenSpec.upto Rows.pipeJoinsSpec) (k := Rows.uptoSmall) rfl own started (by kernel_rfl) Try.func7
    (OpenSpec.witness (enc := enc) (C := Try.checked) (s := Rows.OpenSpec.upto Rows.pipeJoinsSpec) (k := Rows.uptoSmall) rfl false ⟨#[], #[.agg #[.slice .none 0 0, .int .u32 0, .int .u32 0, .bool false, .bool false], .slice .none 0 0, .slice .none 0 0, .int .i64 0, .int .i64 0], []⟩ 8 (by kernel_rfl) (by kernel_rfl) (by kernel_rfl)
      (x := ([.agg [.nil, .lit (.int .u32 0), .lit (.int .u32 0), .lit (.bool false), .lit (.bool false)], .nil, .nil, .lit (.int .i64 0), .lit (.int .i64 0)], [], [])) (by kernel_rfl) rfl (by kernel_rfl)) ?_
  intro W base args ds gs before hval hW _ hk hsz _
  exact pipeJoins_contract H enc W base args ds gs before hval hW hk hsz
theorem pipeJoins_holds : Rows.PipeJoinsUptoSaid :=
  OpenClaim.holds_of_cond 7 Try.f7 rfl rfl rfl rfl rfl rfl rfl ⟨rfl, rfl, rfl, rfl, rfl⟩ rfl rfl rfl rfl rfl (by kernel_rfl) Try.func7 (by kernel_rfl)
    (of_decide_eq_true (by kernel_rfl)) (by unfold Func.isWrapper; first | (rw [if_pos (by decide +kernel)]; kernel_rfl) | (rw [if_neg (by decide +kernel)]; exact ⟨rfl, rfl⟩))
    (fun os started H enc _ F => pipeJoins_lifted os started H enc F)
end Go.Proofs.Ytabhojfdkmeaoaa
