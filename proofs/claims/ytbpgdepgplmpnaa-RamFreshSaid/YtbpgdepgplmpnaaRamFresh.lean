import Derived.Test.YtbpgdepgplmpnaaFresh
import Derived.ProofKit
import Derived.OpenShut
import Derived.ShutString
import Derived.ChangeOld
import Derived.LoopTactic
import Derived.SizedLaws
import Derived.Carry
namespace Go.Proofs.Ytbpgdepgplmpnaa
open Go.ChangeShapes Go.WideShapes Go.ChangeAt Go.RowKit
theorem own : ownKnob Try.prog.godebug = none := by kernel_rfl
theorem laidOut : laidOutB Try.prog = true := by kernel_rfl
theorem cells5 : Try.prog.cellsOf 5 = 1 := by kernel_rfl
theorem u8_of {a : Int} (h : (Lit.int .u8 a).wf = true) : 0 ≤ a ∧ a < 256 := by
  have h1 : (decide (IntKind.u8.min ≤ a) && decide (a ≤ IntKind.u8.max)) = true := h
  rw [Bool.and_eq_true, decide_eq_true_eq, decide_eq_true_eq] at h1
  have h2 : (0 : Int) ≤ a ∧ a ≤ 255 := h1
  exact ⟨h2.1, by omega⟩
theorem u64_of {a : Int} (h : (Lit.int .u64 a).wf = true) : 0 ≤ a ∧ a < 18446744073709551616 := by
  have h1 : (decide (IntKind.u64.min ≤ a) && decide (a ≤ IntKind.u64.max)) = true := h
  rw [Bool.and_eq_true, decide_eq_true_eq, decide_eq_true_eq] at h1
  have h2 : (0 : Int) ≤ a ∧ a ≤ 18446744073709551615 := h1
  exact ⟨h2.1, by omega⟩
set_option maxRecDepth 100000 in
theorem ramFresh_lifted (os : Os) (started : os.Started) (H : Type) (enc : TypeId × Value → H) :
    ReturnsInHanded {} Try.checked os 7 .any (Rows.ramFreshSpec.pre6 enc Try.prog Try.f7 Rows.ramFreshRow.domain false) (Rows.ramFreshSpec.post enc Try.prog Try.f7 false true false false) := by
  refine returnsInHanded_of_change (C := Try.checked) own started (by kernel_rfl) Try.func7
    (ChangeSpec.witness6 (enc := enc) (C := Try.checked) false ⟨#[], #[.int .u64 0, .int .i64 0, .slice .none 0 0], []⟩ 8 (by kernel_rfl) (by kernel_rfl) (by kernel_rfl) (by kernel_rfl)) ?_
  intro W base args ds gs before hval0 hW hcnd _
  have hval : ∀ (j : Nat) t v, Try.f7.params[j]? = some t → args[j]? = some v → Value.okWide Try.prog W .any base t v := hval0
  have hW' := hW
  obtain ⟨p, q, hA0, hV, rfl, hfz, hnd⟩ := hW
  have hA : DataW.TrodAll enc Try.prog W 0 (fun _ => true) true Try.f7.params.toList args.toList ds p := hA0
  rw [Try.params7] at hA hval
  obtain ⟨v0, vs0, d0, ds0, p0, q0, hargs, rfl, rfl, h0, r0⟩ := trodAll_cons hA
  obtain ⟨v1, vs1, d1, ds1, p1, q1, rfl, rfl, rfl, h1, r1⟩ := trodAll_cons r0
  obtain ⟨v2, vs2, d2, ds2, p2, q2, rfl, rfl, rfl, h2, r2⟩ := trodAll_cons r1
  obtain ⟨rfl, rfl, rfl⟩ := trodAll_nil r2
  obtain rfl : args = #[v0, v1, v2] := by cases args; simp_all
  obtain ⟨rfl, rfl⟩ := trodVars_none hV
  obtain ⟨a0, rfl, rfl, rfl, w0⟩ := open_int Try.underlying22 (hval 0 22 v0 rfl rfl) h0
  obtain ⟨a1, rfl, rfl, rfl, w1⟩ := open_int Try.underlying3 (hval 1 3 v1 rfl rfl) h1
  obtain ⟨sa, len, cap, rfl⟩ := okWide_slice Try.underlying31 (hval 2 31 v2 rfl rfl)
  clear hA0 hval0
  simp only [List.append_nil, List.nil_append] at hW'
  have hlt : ∀ x ∈ p2, x.block < W.heap.size := fun x hx => by simpa using hW'.lt x (by simpa using hx)
  have h1k := h2
  obtain ⟨fuel, hf⟩ := h2
  have hargs' : ∀ W', Below W.heap.size W W' → DataW.Trod enc Try.prog W' 0 (fun b => decide (b < W.heap.size)) true 31 (.slice sa len cap) d2 p2 :=
    fun W' hn => Below.trod laidOut (by kernel_rfl) (of_decide_eq_true (by kernel_rfl)) h1k hn hlt
  have key : len ≤ cap ∧ cap ≤ 9223372036854775807 ∧ (len = 0 ∨ ∃ (g k : Nat) (R : Nat → Int), sa = some ⟨g, k, .none⟩ ∧ (∀ i, 0 ≤ R i ∧ R i < 256) ∧ ∀ i, i < len → W.cell? ⟨g, k + i, .none⟩ = some (.int .u8 (R i))) := by
    rcases open_ints Try.underlying31 Try.underlying5 cells5 hf with ⟨hcs, hx⟩ | ⟨a, len', cap', zs, hcs, _, hlc, hmax, hlen, hx, hcell, hwf⟩
    · have : sa = none ∧ len = 0 ∧ cap = 0 := by simpa [Value.cells] using hcs
      exact ⟨by omega, by omega, .inl this.2.1⟩
    · have e : sa = some a ∧ len = len' ∧ cap = cap' := by simpa [Value.cells] using hcs
      obtain ⟨rfl, rfl, rfl⟩ := e
      have hz : zs.length = cap := by simpa using hlen
      refine ⟨hlc, by simp only [maxLen] at hmax; omega, ?_⟩
      by_cases hl0 : len = 0
      · exact .inl hl0
      · have hsp : a.spot = none := by
          have h0 := hcell 0 (by omega)
          simp only [Addr.add, if_true] at h0
          cases hs : a.spot with
          | none => rfl
          | some x =>
            simp only [World.cell?, hs] at h0
            split at h0 <;> simp at h0
        obtain ⟨ab, ao, asp⟩ := a
        simp only at hsp
        subst hsp
        refine .inr ⟨ab, ao, fun i => zs.getD i 0, rfl, fun i => ?_, fun i hi => ?_⟩
        · show 0 ≤ zs.getD i 0 ∧ zs.getD i 0 < 256
          by_cases hi : i < zs.length
          · rw [List.getD_eq_getElem?_getD, List.getElem?_eq_getElem hi]
            exact u8_of (hwf _ (List.getElem_mem hi))
          · rw [List.getD_eq_getElem?_getD, List.getElem?_eq_none (by omega)]
            simp
        · have := hcell i (by omega)
          rwa [addr_add] at this
  obtain ⟨k1, k2, k3⟩ := key
  refine (fresh_walk a0 a1 sa len cap W (u64_of w0) k1 k2 k3).mono fun e W' ⟨he, bel⟩ => ?_
  subst he
  exact ⟨_, rfl, _, _, _, [], _, [], hW', trodAll_mk1 (shut_bool Try.underlying4 _), (trodAll_cons_mk (shut_int Try.underlying22 w0) (trodAll_cons_mk (shut_int Try.underlying3 w1) (trodAll_cons_mk (hargs' W' bel) trodAll_mk0))), rfl, bel.frame _, fun h => by cases h⟩
theorem ramFresh_holds : Rows.RamFreshSaid :=
  OpenClaim.holds_of_wide 7 Try.f7 rfl rfl rfl rfl rfl rfl rfl ⟨rfl, rfl, rfl, rfl, rfl⟩ rfl rfl rfl rfl rfl (by kernel_rfl) Try.func7 (by kernel_rfl)
    (of_decide_eq_true (by kernel_rfl)) (by unfold Func.isWrapper; first | (rw [if_pos (by decide +kernel)]; kernel_rfl) | (rw [if_neg (by decide +kernel)]; exact ⟨rfl, rfl⟩))
    (fun os started H enc _ => ramFresh_lifted os started H enc)
#print axioms ramFresh_holds
end Go.Proofs.Ytbpgdepgplmpnaa
