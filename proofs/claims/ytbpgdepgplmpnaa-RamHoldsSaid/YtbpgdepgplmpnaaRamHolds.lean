import Derived.Test.YtbpgdepgplmpnaaHold
import Derived.ProofKit
import Derived.OpenShut
import Derived.ShutString
import Derived.ChangeOld
import Derived.LoopTactic
import Derived.SizedLaws
import Derived.Carry
namespace Go.Proofs.Ytbpgdepgplmpnaa
open Go.ChangeShapes Go.WideShapes Go.ChangeAt Go.RowKit
theorem own : ownKnob Try.prog.godebug = none := by kernel_rfl
theorem laidOut : laidOutB Try.prog = true := by kernel_rfl
theorem cells22 : Try.prog.cellsOf 22 = 1 := by kernel_rfl
theorem u64_of {a : Int} (h : (Lit.int .u64 a).wf = true) : 0 ≤ a ∧ a < 18446744073709551616 := by
  have h1 : (decide (IntKind.u64.min ≤ a) && decide (a ≤ IntKind.u64.max)) = true := h
  rw [Bool.and_eq_true, decide_eq_true_eq, decide_eq_true_eq] at h1
  have h2 : (0 : Int) ≤ a ∧ a ≤ 18446744073709551615 := h1
  exact ⟨h2.1, by omega⟩
set_option maxRecDepth 100000 in
theorem ramHolds_lifted (os : Os) (started : os.Started) (H : Type) (enc : TypeId × Value → H) :
    ReturnsInHanded {} Try.checked os 5 .any (Rows.ramHoldsSpec.pre6 enc Try.prog Try.f5 Rows.ramHoldsRow.domain false) (Rows.ramHoldsSpec.post enc Try.prog Try.f5 false true false false) := by
  refine returnsInHanded_of_change (C := Try.checked) own started (by kernel_rfl) Try.func5
    (ChangeSpec.witness6 (enc := enc) (C := Try.checked) false ⟨#[], #[.int .i64 0, .slice .none 0 0], []⟩ 8 (by kernel_rfl) (by kernel_rfl) (by kernel_rfl) (by kernel_rfl)) ?_
  intro W base args ds gs before hval0 hW hcnd _
  have hval : ∀ (j : Nat) t v, Try.f5.params[j]? = some t → args[j]? = some v → Value.okWide Try.prog W .any base t v := hval0
  have hW' := hW
  obtain ⟨p, q, hA0, hV, rfl, hfz, hnd⟩ := hW
  have hA : DataW.TrodAll enc Try.prog W 0 (fun _ => true) true Try.f5.params.toList args.toList ds p := hA0
  rw [Try.params5] at hA hval
  obtain ⟨v0, vs0, d0, ds0, p0, q0, hargs, rfl, rfl, h0, r0⟩ := trodAll_cons hA
  obtain ⟨v1, vs1, d1, ds1, p1, q1, rfl, rfl, rfl, h1, r1⟩ := trodAll_cons r0
  obtain ⟨rfl, rfl, rfl⟩ := trodAll_nil r1
  obtain rfl : args = #[v0, v1] := by cases args; simp_all
  obtain ⟨rfl, rfl⟩ := trodVars_none hV
  obtain ⟨a0, rfl, rfl, rfl, w0⟩ := open_int Try.underlying3 (hval 0 3 v0 rfl rfl) h0
  obtain ⟨sa, len, cap, rfl⟩ := okWide_slice Try.underlying46 (hval 1 46 v1 rfl rfl)
  clear hA0 hval0
  simp only [List.append_nil, List.nil_append] at hW'
  have hlt : ∀ x ∈ p1, x.block < W.heap.size := fun x hx => by simpa using hW'.lt x (by simpa using hx)
  have h1k := h1
  obtain ⟨fuel, hf⟩ := h1
  have hargs' : ∀ W', Below W.heap.size W W' → DataW.Trod enc Try.prog W' 0 (fun b => decide (b < W.heap.size)) true 46 (.slice sa len cap) d1 p1 :=
    fun W' hn => Below.trod laidOut (by kernel_rfl) (of_decide_eq_true (by kernel_rfl)) h1k hn hlt
  have key : ∃ S, HasS W sa len S ∧ (∀ i, 0 ≤ S i ∧ S i < 18446744073709551616) ∧ len ≤ 9223372036854775807 := by
    rcases open_ints Try.underlying46 Try.underlying22 cells22 hf with ⟨hcs, hx⟩ | ⟨a, len', cap', zs, hcs, _, hlc, hmax, hlen, hx, hcell, hwf⟩
    · have : sa = none ∧ len = 0 ∧ cap = 0 := by simpa [Value.cells] using hcs
      exact ⟨fun _ => 0, .inl this.2.1, fun _ => (show (0 : Int) ≤ 0 ∧ (0 : Int) < 18446744073709551616 by omega), by omega⟩
    · have e : sa = some a ∧ len = len' ∧ cap = cap' := by simpa [Value.cells] using hcs
      obtain ⟨rfl, rfl, rfl⟩ := e
      have hz : zs.length = cap := by simpa using hlen
      refine ⟨fun i => zs.getD i 0, ?_, fun i => ?_, by simp only [maxLen] at hmax; omega⟩
      · by_cases hl0 : len = 0
        · exact .inl hl0
        · refine .inr ⟨a, rfl, ?_, fun i hi => hcell i (by omega)⟩
          have := lt_of_cell (hcell 0 (by omega))
          rwa [add_block] at this
      · show 0 ≤ zs.getD i 0 ∧ zs.getD i 0 < 18446744073709551616
        by_cases hi : i < zs.length
        · rw [List.getD_eq_getElem?_getD, List.getElem?_eq_getElem hi]
          exact u64_of (hwf _ (List.getElem_mem hi))
        · rw [List.getD_eq_getElem?_getD, List.getElem?_eq_none (by omega)]
          simp
  obtain ⟨S, hS, hSb, hln⟩ := key
  refine (holds_walk a0 sa len cap S W hS hSb hln).mono fun e W' ⟨he, bel⟩ => ?_
  subst he
  exact ⟨_, rfl, _, _, _, [], _, [], hW', trodAll_mk1 (shut_bool Try.underlying4 _), (trodAll_cons_mk (shut_int Try.underlying3 w0) (trodAll_cons_mk (hargs' W' bel) trodAll_mk0)), rfl, bel.frame _, fun h => by cases h⟩
theorem ramHolds_holds : Rows.RamHoldsSaid :=
  OpenClaim.holds_of_wide 5 Try.f5 rfl rfl rfl rfl rfl rfl rfl ⟨rfl, rfl, rfl, rfl, rfl⟩ rfl rfl rfl rfl rfl (by kernel_rfl) Try.func5 (by kernel_rfl)
    (of_decide_eq_true (by kernel_rfl)) (by unfold Func.isWrapper; first | (rw [if_pos (by decide +kernel)]; kernel_rfl) | (rw [if_neg (by decide +kernel)]; exact ⟨rfl, rfl⟩))
    (fun os started H enc _ => ramHolds_lifted os started H enc)
#print axioms ramHolds_holds
end Go.Proofs.Ytbpgdepgplmpnaa
