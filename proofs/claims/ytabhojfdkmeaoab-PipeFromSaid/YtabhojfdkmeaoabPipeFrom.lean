import Derived.Test.YtabhojfdkmeaoabFw
import Derived.Test.YtabhojfdkmeaoabLf
namespace Go.Proofs.Ytabhojfdkmeaoab
open Go.ChangeShapes Go.WideShapes Go.ChangeAt Go.RowKit
set_option linter.unusedVariables false
set_option linter.unusedSimpArgs false
set_option maxRecDepth 100000 in
theorem pipeFrom_lifted (os : Os) (started : os.Started) (H : Type) (enc : TypeId × Value → H) :
    ReturnsInHanded {} Try.checked os 3 .any (Rows.pipeFromSpec.pre6 enc Try.prog Try.f3 Rows.pipeFromRow.domain false) (Rows.pipeFromSpec.post enc Try.prog Try.f3 false true false false) := by
  refine returnsInHanded_of_change_sized (C := Try.checked) own started (by kernel_rfl) Try.func3
    (ChangeSpec.witness6 (enc := enc) (C := Try.checked) false ⟨#[], #[.agg #[.slice .none 0 0, .int .u32 0, .int .u32 0, .bool false, .bool false], .slice .none 0 0], []⟩ 8 (by kernel_rfl) (by kernel_rfl) (by kernel_rfl) (by kernel_rfl)) ?_
  intro W base args ds gs before hval0 hW hcnd hsz hsized
  have hval : ∀ (j : Nat) t v, Try.f3.params[j]? = some t → args[j]? = some v → Value.okWide Try.prog W .any base t v := hval0
  have hW' := hW
  obtain ⟨p, q, hA0, hV, rfl, hfz, hnd⟩ := hW
  have hA : DataW.TrodAll enc Try.prog W 0 (fun _ => true) true Try.f3.params.toList args.toList ds p := hA0
  rw [Try.params3] at hA hval
  obtain ⟨v0, vs0, d0, ds0, p0, q0, hargs, rfl, rfl, h0, r0⟩ := trodAll_cons hA
  obtain ⟨v1, vs1, d1, ds1, p1, q1, rfl, rfl, rfl, h1, r1⟩ := trodAll_cons r0
  obtain ⟨rfl, rfl, rfl⟩ := trodAll_nil r1
  obtain rfl : args = #[v0, v1] := by cases args; simp_all
  obtain ⟨rfl, rfl⟩ := trodVars_none hV
  have k0 := h0
  have lt0 : ∀ x ∈ p0, x.block < W.heap.size := by obtain ⟨m, hm⟩ := k0; exact DataW.trod_lt m _ _ _ hm
  have k1 := h1
  have lt1 : ∀ x ∈ p1, x.block < W.heap.size := by obtain ⟨m, hm⟩ := k1; exact DataW.trod_lt m _ _ _ hm
  have hzz : (DataW.weightsEach Try.prog [25, 26] [d0, d1]).all (· ≤ reachBytes) = true := hsz
  have rb : reachBytes = 140737488351232 := by decide
  have hb0 : ∀ k ∈ d0.weights Try.prog 25, k ≤ 140737488351232 := by
    intro k hk
    have h1 := List.all_eq_true.1 hzz k (DataW.weights_mem_each (P := Try.prog) (ts := [25, 26]) (ds := [d0, d1]) (j := 0) rfl rfl k hk)
    rw [rb] at h1
    exact of_decide_eq_true h1
  have hb1 : ∀ k ∈ d1.weights Try.prog 26, k ≤ 140737488351232 := by
    intro k hk
    have h1 := List.all_eq_true.1 hzz k (DataW.weights_mem_each (P := Try.prog) (ts := [25, 26]) (ds := [d0, d1]) (j := 1) rfl rfl k hk)
    rw [rb] at h1
    exact of_decide_eq_true h1
  obtain ⟨sq0, sl0, sc0, xs0, R0, S0, rd0, wt0, rfl, hby0, hxb0, hR0, hS0, hwt0⟩ := open_st (hval 0 25 v0 rfl rfl) h0
  have hn0 := hwt0 _ hb0
  obtain ⟨fuel1, hf1⟩ := h1
  obtain ⟨sa1, len1, cap1, rfl⟩ := okWide_slice Try.underlying26 (hval 1 26 v1 rfl rfl)
  have hf'1 : DataW.trod enc Try.prog W 0 (fun _ => true) true fuel1 26 [.slice sa1 len1 cap1] = some (d1, p1) := hf1
  obtain ⟨sq1, sl1, sc1, O1, e1, hArg1⟩ := open_ops hf'1 hb1
  injection e1 with e1 e2 e3
  subst e1 e2 e3
  clear hA0 hval0
  refine (from_law W sq0 sl0 sc0 xs0 R0 S0 rd0 wt0 hby0 hxb0 (by omega) hR0 hS0 sa1 len1 cap1 O1 hArg1).mono fun e W' ⟨he, bel⟩ => ?_
  subst he
  exact ⟨_, rfl, _, _, _, [], _, [], hW', trodAll_mk1 (shut_bool Try.underlying4 _), (trodAll_cons_mk (Below.trod laidOut (by kernel_rfl) (of_decide_eq_true (by kernel_rfl)) k0 bel lt0) (trodAll_cons_mk (Below.trod laidOut (by kernel_rfl) (of_decide_eq_true (by kernel_rfl)) k1 bel lt1) trodAll_mk0)), rfl, bel.frame _, fun h => by cases h⟩
theorem pipeFrom_holds : Rows.PipeFromSaid :=
  OpenClaim.holds_of_wide 3 Try.f3 rfl rfl rfl rfl rfl rfl rfl ⟨rfl, rfl, rfl, rfl, rfl⟩ rfl rfl rfl rfl rfl (by kernel_rfl) Try.func3 (by kernel_rfl)
    (of_decide_eq_true (by kernel_rfl)) (by unfold Func.isWrapper; first | (rw [if_pos (by decide +kernel)]; kernel_rfl) | (rw [if_neg (by decide +kernel)]; exact ⟨rfl, rfl⟩))
    (fun os started H enc _ => pipeFrom_lifted os started H enc)
end Go.Proofs.Ytabhojfdkmeaoab
