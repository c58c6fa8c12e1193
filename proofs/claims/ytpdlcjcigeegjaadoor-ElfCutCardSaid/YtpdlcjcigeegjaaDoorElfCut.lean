import Derived.Test.YtpdlcjcigeegjaaDoorLft
import Derived.Test.YtpdlcjcigeegjaaDoorCt
import Derived.Test.YtpdlcjcigeegjaaDoorTie
import Derived.Test.YtpdlcjcigeegjaaDoorCards
import Derived.ChangeOld
import Derived.Below
import Derived.Carry
import Derived.ProofKit
import Derived.OpenShut
import Derived.LaidMore
import Derived.SevenTiedAt
import Derived.Stop.Joined
import Derived.Lib.SmallJoins
import Derived.Lib.LaidTab
import Derived.Deep.Slices
namespace Go.Proofs.YtpdlcjcigeegjaaDoor
open Go.ChangeShapes Go.WideShapes Go.ChangeAt Go.RowKit Go.Joins
set_option linter.unusedVariables false
set_option linter.unusedSimpArgs false
theorem laid_cut {W : World} (h : laidMetH Tryd.prog Rows.elfCutRow.laid W) : Laid W := by
  have h : laidMet Tryd.prog Rows.elfCutRow.laid W := by
    unfold laidMetH at h
    rw [show (Rows.elfCutRow.laid.filter fun x => x.2.handleName?.isSome) = [] by kernel_rfl] at h
    exact h
  exact laid_of h
theorem door_met (os : Os) (args : Array Value) : laidMetH Tryd.prog Rows.elfCutRow.laid ((World.doorLaid Tryd.prog 400 os).forCall (fun _ _ => 0) ⟨#[], args, []⟩).memory :=
  laidMetH_of_parts3 (fuel := 8) (laidMet_of_run' 8 (by kernel_rfl) (by kernel_rfl)) (by kernel_rfl) (by kernel_rfl)
set_option maxRecDepth 100000 in
theorem elfCut_lifted (os : Os) (started : os.Started) (H : Type) (enc : TypeId × Value → H) :
    ReturnsInHanded {} Tryd.checked os 4 .any (fun w args => (Rows.elfCutSpec.pre enc Tryd.prog Tryd.f4 [] false w args ∧ laidMetH Tryd.prog Rows.elfCutRow.laid w) ∧ sizedMet enc Tryd.prog Tryd.f4 (OpenSpec.ofChange Rows.elfCutSpec) false w args)
      (Rows.elfCutSpec.post enc Tryd.prog Tryd.f4 false true false false) := by
  refine returnsInHanded_of_change_and (C := Tryd.checked) (X := fun w _ => laidMetH Tryd.prog Rows.elfCutRow.laid w) (fun _ _ _ hh h => h.of_heap hh) own started (by kernel_rfl) Tryd.func4
    (ChangeSpec.witness_shaped (enc := enc) (C := Tryd.checked) (os := os) (X := fun w _ => laidMetH Tryd.prog Rows.elfCutRow.laid w) false (World.doorLaid Tryd.prog 400 os) #[.agg #[.int .u64 0, .slice .none 0 0], .int .i64 0] 8 rfl (World.shaped_of_RefB (by kernel_rfl) (by kernel_rfl)) (by kernel_rfl) (by kernel_rfl) (by kernel_rfl) (door_met os _)) ?_
  intro W base args ds gs before hval0 hW _ hsz hL _
  have hval : ∀ (j : Nat) t v, Tryd.f4.params[j]? = some t → args[j]? = some v → Value.okWide Tryd.prog W .any base t v := hval0
  have hW' := hW
  obtain ⟨p, q, hA0, hV, rfl, hfz, hnd⟩ := hW
  have hA : DataW.TrodAll enc Tryd.prog W 0 (fun _ => true) true Tryd.f4.params.toList args.toList ds p := hA0
  rw [Tryd.params4] at hA hval
  obtain ⟨v0, vs0, d0, ds0, p0, q0, hargs, rfl, rfl, h0, r0⟩ := trodAll_cons hA
  obtain ⟨v1, vs1, d1, ds1, p1, q1, rfl, rfl, rfl, h1, r1⟩ := trodAll_cons r0
  obtain ⟨rfl, rfl, rfl⟩ := trodAll_nil r1
  obtain rfl : args = #[v0, v1] := by cases args; simp_all
  obtain ⟨rfl, rfl⟩ := trodVars_none hV
  obtain ⟨a1, rfl, rfl, rfl, w1⟩ := open_int Tryd.underlying3 (hval 1 3 v1 rfl rfl) h1
  have k0 := h0
  have lt0 : ∀ x ∈ p0, x.block < W.heap.size := by obtain ⟨m, hm⟩ := k0; exact DataW.trod_lt m _ _ _ hm
  have h00 : DataW.Trod enc Tryd.prog W 0 (fun _ => true) true 30 v0 d0 p0 := h0
  have hz : (DataW.weightsEach Tryd.prog [30, 3] [d0, .lit (.int .i64 a1)]).all (· ≤ reachBytes) = true := hsz
  have rb : reachBytes = 140737488351232 := by decide
  have hb : ∀ k ∈ d0.weights Tryd.prog 30, k ≤ 140737488351232 := by
    intro k hk
    have h1 := List.all_eq_true.1 hz k (DataW.weights_mem_each (P := Tryd.prog) (ts := [30, 3]) (ds := [d0, .lit (.int .i64 a1)]) (j := 0) rfl rfl k hk)
    rw [rb] at h1
    exact of_decide_eq_true h1
  obtain ⟨en, q, m, c, S, D, rfl, hen, hArg⟩ := open_elf (hval 0 30 v0 rfl rfl) h00 hb
  clear hA0 hval0
  refine (cutL_any hArg (laid_cut hL) en hen a1).mono fun e W' ⟨he, bel⟩ => ?_
  subst he
  exact ⟨_, rfl, _, _, _, [], _, [], hW', trodAll_mk1 (shut_bool Tryd.underlying4 _), (trodAll_cons_mk (Below.trod laidOut (by kernel_rfl) (of_decide_eq_true (by kernel_rfl)) k0 bel lt0) (trodAll_cons_mk (shut_int Tryd.underlying3 w1) trodAll_mk0)), rfl, bel.frame _, fun h => by cases h⟩
theorem elfCut_row_holds : Rows.ElfCutSaid :=
  OpenClaim.holds_of_wide 4 Tryd.f4 rfl rfl rfl rfl rfl rfl rfl ⟨rfl, rfl, rfl, rfl, rfl⟩ rfl rfl rfl rfl rfl (by kernel_rfl) Tryd.func4 (by kernel_rfl)
    (of_decide_eq_true (by kernel_rfl)) (by unfold Func.isWrapper; first | (rw [if_pos (by decide +kernel)]; kernel_rfl) | (rw [if_neg (by decide +kernel)]; exact ⟨rfl, rfl⟩))
    (fun os started H enc _ => elfCut_lifted os started H enc)
theorem elfCut_holds : Rows.ElfCutCardSaid :=
  Claim7.holds_tied_plain_at .later [] [.wider, .wider] true (true, "9d9388f4bbc9bbf481182eaf51b90f5963eb85c44acb2daa4afea23e307247df") true
    elfCut_row_holds (fun _ h => by cases h) (by kernel_rfl) (fun _ h => by cases h) elfCut_row_tie rfl ⟨rfl, rfl⟩ (by kernel_rfl) rfl
    (fun f fn hf hfn => by
      obtain rfl : f = 4 := Option.some.inj ((show Tryd.prog.funcNamed "hartix/hartixlaw7.ElfCut" = some 4 by kernel_rfl).symm.trans hf) |>.symm
      obtain rfl : fn = Tryd.f4 := (Option.some.inj (Tryd.func4.symm.trans hfn)).symm
      exact ⟨by kernel_rfl, fun j t ht => by
        rw [Tryd.params4] at ht
        have hm : t ∈ [30, 3] := by simpa using Array.mem_of_getElem? ht
        have hall : ([30, 3].all fun u => !Tryd.prog.wantsStandIn u) = true := by kernel_rfl
        exact (show Tryd.prog.wantsStandIn t = false by simpa using List.all_eq_true.1 hall t hm)⟩)
    (by kernel_rfl)
#print axioms elfCut_holds
end Go.Proofs.YtpdlcjcigeegjaaDoor
