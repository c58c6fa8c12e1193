import Derived.Test.YtfafinjbobmafaaNames
import Derived.ProofKit
import Derived.OpenShut
import Derived.ShutString
import Derived.ChangeOld
import Derived.LoopTactic
namespace Go.Proofs.Ytfafinjbobmafaa
open Go.ChangeShapes Go.WideShapes Go.ChangeAt Go.RowKit
theorem rshape_as (k : Int) (h0 : -1 ≤ k) (h1 : k ≤ 78) (w : World) :
    Calls Try.prog 8 #[.int .i64 k] w fun e w' => e = .returned (.int .i64 (sh k)) ∧ Below w.heap.size w w' := by
  rw [(alike k h0 h1).1]; exact rshape_any k w
theorem rname_as (k : Int) (h0 : -1 ≤ k) (h1 : k ≤ 78) (w : World) :
    Calls Try.prog 10 #[.int .i64 k] w fun e w' => e = .returned (.string (nm k)) ∧ Below w.heap.size w w' := by
  rw [(alike k h0 h1).2]; exact rname_any k w
set_option maxHeartbeats 1000000 in
theorem insnNames_walk (w : World) : Calls Try.prog 3 #[] w fun e w' => e = .returned (.bool true) ∧ Below w.heap.size w w' := by
  go_enter Try.func3, Try.ntmps3
  go_wp2
  go_loopw [1] (fun k wr => ∃ n : Int, -1 ≤ n ∧ n ≤ 79 ∧ k = .int .i64 n ∧ Below w.heap.size w wr) (fun k _ => (79 - intOf k).toNat)
  case atStart => exact ⟨-1, by omega, by omega, rfl, Below.refl _ _⟩
  case round =>
    obtain ⟨n, h0, h1, rfl, hb⟩ := hrel
    by_cases hlt : n ≤ 78
    · go_wp2_with (first
        | (go_at_call 7; refine (shape_any n _).mono ?_; rintro e w' ⟨rfl, hb1⟩)
        | (go_at_call 8; refine (rshape_as n h0 hlt _).mono ?_; rintro e w' ⟨rfl, hb2⟩)
        | (go_at_call 9; refine (name_any n _).mono ?_; rintro e w' ⟨rfl, hb3⟩)
        | (go_at_call 10; refine (rname_as n h0 hlt _).mono ?_; rintro e w' ⟨rfl, hb4⟩)
        | (go_at_call 11; refine (regName_all n _).mono ?_; rintro e w' ⟨rfl, hb5⟩)
        | (go_at_call 12; refine (rregName_all n _).mono ?_; rintro e w' ⟨rfl, hb6⟩))
      exact ⟨⟨n + 1, by omega, by omega, rfl, bseq (bseq (bseq (bseq (bseq (bseq hb hb1) hb2) hb3) hb4) hb5) hb6⟩, by simp [intOf]; omega⟩
    · go_wp2
      go_ret
      exact ⟨rfl, hb⟩
theorem own : ownKnob Try.prog.godebug = none := by kernel_rfl
set_option maxRecDepth 100000 in
theorem insnNames_lifted (os : Os) (started : os.Started) (H : Type) (enc : TypeId × Value → H) :
    ReturnsInHanded {} Try.checked os 3 .any (Rows.insnNamesSpec.pre6 enc Try.prog Try.f3 Rows.insnNamesRow.domain false) (Rows.insnNamesSpec.post enc Try.prog Try.f3 false true false false) := by
  refine returnsInHanded_of_change (C := Try.checked) own started (by kernel_rfl) Try.func3
    (ChangeSpec.witness6 (enc := enc) (C := Try.checked) false ⟨#[], #[], []⟩ 8 (by kernel_rfl) (by kernel_rfl) (by kernel_rfl) (by kernel_rfl)) ?_
  intro W base args ds gs before hval0 hW hcnd _
  have hW' := hW
  obtain ⟨p, q, hA0, hV, rfl, hfz, hnd⟩ := hW
  have hA : DataW.TrodAll enc Try.prog W 0 (fun _ => true) true Try.f3.params.toList args.toList ds p := hA0
  rw [Try.params3] at hA
  obtain ⟨rfl, rfl, rfl⟩ := trodAll_none hA
  obtain ⟨rfl, rfl⟩ := trodVars_none hV
  clear hA0 hval0
  simp only [List.append_nil] at hW'
  refine (insnNames_walk W).mono fun e W' ⟨he, bel⟩ => ?_
  subst he
  exact ⟨_, rfl, _, _, _, [], [], [], hW', trodAll_mk1 (shut_bool Try.underlying4 _), trodAll_mk0, rfl, bel.frame _, fun h => by cases h⟩
theorem insnNames_holds : Rows.InsnNamesSaid :=
  OpenClaim.holds_of_wide 3 Try.f3 rfl rfl rfl rfl rfl rfl rfl ⟨rfl, rfl, rfl, rfl, rfl⟩ rfl rfl rfl rfl rfl (by kernel_rfl) Try.func3 (by kernel_rfl)
    (of_decide_eq_true (by kernel_rfl)) (by unfold Func.isWrapper; first | (rw [if_pos (by decide +kernel)]; kernel_rfl) | (rw [if_neg (by decide +kernel)]; exact ⟨rfl, rfl⟩))
    (fun os started H enc _ => insnNames_lifted os started H enc)
#print axioms insnNames_holds
end Go.Proofs.Ytfafinjbobmafaa
