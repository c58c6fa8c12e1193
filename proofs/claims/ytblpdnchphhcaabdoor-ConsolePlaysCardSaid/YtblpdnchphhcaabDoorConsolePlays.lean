import Derived.Test.YtblpdnchphhcaabDoorPl
import Derived.Test.YtblpdnchphhcaabDoorLg
import Derived.Test.YtblpdnchphhcaabDoorTie
import Derived.Test.YtblpdnchphhcaabDoorCards
import Derived.SevenTiedAt
import Derived.Stop.Joined
namespace Go.Proofs.YtblpdnchphhcaabDoor
open Go.ChangeShapes Go.WideShapes Go.ChangeAt Go.RowKit Go.Joins
set_option linter.unusedVariables false
set_option linter.unusedSimpArgs false
theorem consolePlays_laid {W : World} (h : laidMetH Tryd.prog Rows.consolePlaysRow.laid W) : Dd W := by
  have h : laidMet Tryd.prog Rows.consolePlaysRow.laid W := by
    unfold laidMetH at h
    rw [show (Rows.consolePlaysRow.laid.filter fun x => x.2.handleName?.isSome) = [] by kernel_rfl] at h
    exact h
  exact laid_of h
set_option maxRecDepth 100000 in
theorem consolePlays_lifted (os : Os) (started : os.Started) (H : Type) (enc : TypeId × Value → H) :
    ReturnsInHanded {} Tryd.checked os 3 .any (fun w args => (Rows.consolePlaysSpec.pre enc Tryd.prog Tryd.f3 [] false w args ∧ laidMetH Tryd.prog Rows.consolePlaysRow.laid w) ∧ sizedMet enc Tryd.prog Tryd.f3 (OpenSpec.ofChange Rows.consolePlaysSpec) false w args)
      (Rows.consolePlaysSpec.post enc Tryd.prog Tryd.f3 false true false false) := by
  refine returnsInHanded_of_change_and (C := Tryd.checked) (X := fun w _ => laidMetH Tryd.prog Rows.consolePlaysRow.laid w) (fun _ _ _ hh h => h.of_heap hh) own started (by kernel_rfl) Tryd.func3
    (ChangeSpec.witness_shaped (enc := enc) (C := Tryd.checked) (os := os) (X := fun w _ => laidMetH Tryd.prog Rows.consolePlaysRow.laid w) false (World.doorLaid Tryd.prog 400 os) #[.agg #[.slice .none 0 0, .slice .none 0 0], .slice .none 0 0] 8 rfl (World.shaped_of_RefB (by kernel_rfl) (by kernel_rfl)) (by kernel_rfl) (by kernel_rfl) (by kernel_rfl) (door_met os _)) ?_
  intro W base args ds gs before hval0 hW hcnd hsz hL hsized
  have hval : ∀ (j : Nat) t v, Tryd.f3.params[j]? = some t → args[j]? = some v → Value.okWide Tryd.prog W .any base t v := hval0
  have hW' := hW
  obtain ⟨p, q, hA0, hV, rfl, hfz, hnd⟩ := hW
  have hA : DataW.TrodAll enc Tryd.prog W 0 (fun _ => true) true Tryd.f3.params.toList args.toList ds p := hA0
  rw [Tryd.params3] at hA hval
  obtain ⟨v0, vs0, d0, ds0, p0, q0, hargs, rfl, rfl, h0, r0⟩ := trodAll_cons hA
  obtain ⟨v1, vs1, d1, ds1, p1, q1, rfl, rfl, rfl, h1, r1⟩ := trodAll_cons r0
  obtain ⟨rfl, rfl, rfl⟩ := trodAll_nil r1
  obtain rfl : args = #[v0, v1] := by cases args; simp_all
  obtain ⟨rfl, rfl⟩ := trodVars_none hV
  have k0 := h0
  have lt0 : ∀ x ∈ p0, x.block < W.heap.size := by obtain ⟨m, hm⟩ := k0; exact DataW.trod_lt m _ _ _ hm
  have k1 := h1
  have lt1 : ∀ x ∈ p1, x.block < W.heap.size := by obtain ⟨m, hm⟩ := k1; exact DataW.trod_lt m _ _ _ hm
  have hzz : (DataW.weightsEach Tryd.prog [24, 25] [d0, d1]).all (· ≤ reachBytes) = true := hsz
  have rb : reachBytes = 140737488351232 := by decide
  have hb0 : ∀ k ∈ d0.weights Tryd.prog 24, k ≤ 140737488351232 := by
    intro k hk
    have h1 := List.all_eq_true.1 hzz k (DataW.weights_mem_each (P := Tryd.prog) (ts := [24, 25]) (ds := [d0, d1]) (j := 0) rfl rfl k hk)
    rw [rb] at h1
    exact of_decide_eq_true h1
  have hb1 : ∀ k ∈ d1.weights Tryd.prog 25, k ≤ 140737488351232 := by
    intro k hk
    have h1 := List.all_eq_true.1 hzz k (DataW.weights_mem_each (P := Tryd.prog) (ts := [24, 25]) (ds := [d0, d1]) (j := 1) rfl rfl k hk)
    rw [rb] at h1
    exact of_decide_eq_true h1
  obtain ⟨sp0, sn0, sc0, sq0, sm0, sd0, rs0, ls0, rfl, BY0, XB0, BZ0, XZ0, WT0⟩ := open_st (hval 0 24 v0 rfl rfl) h0
  have NN0 := WT0 _ hb0
  obtain ⟨fuel1, hf1⟩ := h1
  obtain ⟨sa1, len1, cap1, rfl⟩ := okWide_slice Tryd.underlying25 (hval 1 25 v1 rfl rfl)
  have hf'1 : DataW.trod enc Tryd.prog W 0 (fun _ => true) true fuel1 25 [.slice sa1 len1 cap1] = some (d1, p1) := hf1
  obtain ⟨oq1, om1, oc1, O1, hvv1, AO1⟩ := open_opsC hf'1 hb1
  injection hvv1 with hv1 hv2 hv3
  subst hv1 hv2 hv3
  clear hA0 hval0
  have LD := consolePlays_laid hL
  refine (plays_any BY0 XB0 BZ0 XZ0 NN0.1 NN0.2 LD AO1).mono fun e W' ⟨he, bel⟩ => ?_
  subst he
  exact ⟨_, rfl, _, _, _, [], _, [], hW', trodAll_mk1 (shut_bool Tryd.underlying4 _), (trodAll_cons_mk (Below.trod laidOut (by kernel_rfl) (of_decide_eq_true (by kernel_rfl)) k0 bel lt0) (trodAll_cons_mk (Below.trod laidOut (by kernel_rfl) (of_decide_eq_true (by kernel_rfl)) k1 bel lt1) trodAll_mk0)), rfl, bel.frame _, fun h => by cases h⟩
theorem consolePlays_row_holds : Rows.ConsolePlaysSaid :=
  OpenClaim.holds_of_wide 3 Tryd.f3 rfl rfl rfl rfl rfl rfl rfl ⟨rfl, rfl, rfl, rfl, rfl⟩ rfl rfl rfl rfl rfl (by kernel_rfl) Tryd.func3 (by kernel_rfl)
    (of_decide_eq_true (by kernel_rfl)) (by unfold Func.isWrapper; first | (rw [if_pos (by decide +kernel)]; kernel_rfl) | (rw [if_neg (by decide +kernel)]; exact ⟨rfl, rfl⟩))
    (fun os started H enc _ => consolePlays_lifted os started H enc)
theorem consolePlays_holds : Rows.ConsolePlaysCardSaid :=
  Claim7.holds_tied_plain_at .later [] [.data] true (true, "5116c92c48976670791c9a1293c34554ad3705f43784f261d5243825d723ff0e") true
    consolePlays_row_holds (fun _ h => by cases h) (by kernel_rfl) (fun _ h => by cases h) consolePlays_row_tie rfl ⟨rfl, rfl⟩ (by kernel_rfl) rfl
    (fun f fn hf hfn => by
      obtain rfl : f = 3 := Option.some.inj ((show Tryd.prog.funcNamed "hartix/hartixlaw11.ConsolePlays" = some 3 by kernel_rfl).symm.trans hf) |>.symm
      obtain rfl : fn = Tryd.f3 := (Option.some.inj (Tryd.func3.symm.trans hfn)).symm
      exact ⟨by kernel_rfl, fun j t ht => by
        rw [Tryd.params3] at ht
        have hm : t ∈ [24, 25] := by simpa using Array.mem_of_getElem? ht
        have hall : ([24, 25].all fun u => !Tryd.prog.wantsStandIn u) = true := by kernel_rfl
        exact (show Tryd.prog.wantsStandIn t = false by simpa using List.all_eq_true.1 hall t hm)⟩)
    (by kernel_rfl)
#print axioms consolePlays_holds
end Go.Proofs.YtblpdnchphhcaabDoor
