import Derived.Test.YtblmkkhiojbcjaaGreatHj
import Derived.ProofKit
import Derived.OpenShut
import Derived.ShutString
import Derived.ChangeOld
import Derived.LoopTactic
import Derived.SizedLaws
import Derived.Carry
namespace Go.Proofs.YtblmkkhiojbcjaaGreat
open Go.ChangeShapes Go.WideShapes Go.ChangeAt Go.RowKit Fz
set_option linter.unusedSimpArgs false
theorem own : ownKnob Tryz.prog.godebug = none := by kernel_rfl
theorem laidOut : laidOutB Tryz.prog = true := by kernel_rfl
theorem cells23 : Tryz.prog.cellsOf 23 = 1 := by kernel_rfl
theorem cells5 : Tryz.prog.cellsOf 5 = 1 := by kernel_rfl
theorem u64_of {a : Int} (h : (Lit.int .u64 a).wf = true) : 0 ≤ a ∧ a < 18446744073709551616 := by
  have h1 : (decide (IntKind.u64.min ≤ a) && decide (a ≤ IntKind.u64.max)) = true := h
  rw [Bool.and_eq_true, decide_eq_true_eq, decide_eq_true_eq] at h1
  have h2 : (0 : Int) ≤ a ∧ a ≤ 18446744073709551615 := h1
  exact ⟨h2.1, by omega⟩
theorem u8_of {a : Int} (h : (Lit.int .u8 a).wf = true) : 0 ≤ a ∧ a < 256 := by
  have h1 : (decide (IntKind.u8.min ≤ a) && decide (a ≤ IntKind.u8.max)) = true := h
  rw [Bool.and_eq_true, decide_eq_true_eq, decide_eq_true_eq] at h1
  have h2 : (0 : Int) ≤ a ∧ a ≤ 255 := h1
  exact ⟨h2.1, by omega⟩
theorem addr_add' (b k i : Nat) : (⟨b, k, .none⟩ : Addr).add i = ⟨b, k + i, .none⟩ := by
  simp only [Addr.add]
  split <;> simp_all
theorem words_in {H : Type} {enc : TypeId × Value → H} {W : World} {sa : Option Addr} {len cap : Nat} {d : DataW H} {p : List MemPlace} (h : DataW.Trod enc Tryz.prog W 0 (fun _ => true) true 22 (.slice sa len cap) d p) :
    ∃ R : Nat → Int, (∀ i, 0 ≤ R i ∧ R i < 18446744073709551616) ∧ See W .u64 sa len R ∧ len ≤ cap ∧ cap ≤ 9223372036854775807 := by
  obtain ⟨fuel, hf⟩ := h
  rcases open_ints Tryz.underlying22 Tryz.underlying23 cells23 hf with ⟨hcs, hx⟩ | ⟨a, len', cap', zs, hcs, _, hlc, hmax, hlen, hx, hcell, hwf⟩
  · have : sa = none ∧ len = 0 ∧ cap = 0 := by simpa [Value.cells] using hcs
    exact ⟨fun _ => 0, fun _ => by simp, .inl this.2.1, by omega, by omega⟩
  · have e : sa = some a ∧ len = len' ∧ cap = cap' := by simpa [Value.cells] using hcs
    obtain ⟨rfl, rfl, rfl⟩ := e
    have hmx : cap ≤ 9223372036854775807 := hmax
    have hz : zs.length = cap := by simpa using hlen
    by_cases hl0 : len = 0
    · exact ⟨fun _ => 0, fun _ => by simp, .inl hl0, hlc, hmx⟩
    · have hsp : a.spot = none := by
        have h0 := hcell 0 (by omega)
        simp only [Addr.add, if_true] at h0
        cases hs : a.spot with
        | none => rfl
        | some x =>
          simp only [World.cell?, hs] at h0
          split at h0 <;> simp at h0
      obtain ⟨ab, ao, asp⟩ := a
      simp only at hsp
      subst hsp
      have hc : ∀ i, i < len → W.cell? ⟨ab, ao + i, .none⟩ = some (.int .u64 (zs.getD i 0)) := fun i hi => by
        have := hcell i (by omega)
        rwa [addr_add'] at this
      refine ⟨fun i => zs.getD i 0, fun i => ?_, .inr ⟨ab, ao, rfl, lt_of_cell (hc 0 (by omega)), hc⟩, hlc, hmx⟩
      show 0 ≤ zs.getD i 0 ∧ zs.getD i 0 < 18446744073709551616
      by_cases hi : i < zs.length
      · rw [List.getD_eq_getElem?_getD, List.getElem?_eq_getElem hi]
        exact u64_of (hwf _ (List.getElem_mem hi))
      · rw [List.getD_eq_getElem?_getD, List.getElem?_eq_none (by omega)]
        simp
theorem bytes_in {H : Type} {enc : TypeId × Value → H} {W : World} {sa : Option Addr} {len cap : Nat} {d : DataW H} {p : List MemPlace} (h : DataW.Trod enc Tryz.prog W 0 (fun _ => true) true 24 (.slice sa len cap) d p) :
    ∃ R : Nat → Int, (∀ i, 0 ≤ R i ∧ R i < 256) ∧ See W .u8 sa len R ∧ len ≤ cap ∧ cap ≤ 9223372036854775807 := by
  obtain ⟨fuel, hf⟩ := h
  rcases open_ints Tryz.underlying24 Tryz.underlying5 cells5 hf with ⟨hcs, hx⟩ | ⟨a, len', cap', zs, hcs, _, hlc, hmax, hlen, hx, hcell, hwf⟩
  · have : sa = none ∧ len = 0 ∧ cap = 0 := by simpa [Value.cells] using hcs
    exact ⟨fun _ => 0, fun _ => by simp, .inl this.2.1, by omega, by omega⟩
  · have e : sa = some a ∧ len = len' ∧ cap = cap' := by simpa [Value.cells] using hcs
    obtain ⟨rfl, rfl, rfl⟩ := e
    have hmx : cap ≤ 9223372036854775807 := hmax
    have hz : zs.length = cap := by simpa using hlen
    by_cases hl0 : len = 0
    · exact ⟨fun _ => 0, fun _ => by simp, .inl hl0, hlc, hmx⟩
    · have hsp : a.spot = none := by
        have h0 := hcell 0 (by omega)
        simp only [Addr.add, if_true] at h0
        cases hs : a.spot with
        | none => rfl
        | some x =>
          simp only [World.cell?, hs] at h0
          split at h0 <;> simp at h0
      obtain ⟨ab, ao, asp⟩ := a
      simp only at hsp
      subst hsp
      have hc : ∀ i, i < len → W.cell? ⟨ab, ao + i, .none⟩ = some (.int .u8 (zs.getD i 0)) := fun i hi => by
        have := hcell i (by omega)
        rwa [addr_add'] at this
      refine ⟨fun i => zs.getD i 0, fun i => ?_, .inr ⟨ab, ao, rfl, lt_of_cell (hc 0 (by omega)), hc⟩, hlc, hmx⟩
      show 0 ≤ zs.getD i 0 ∧ zs.getD i 0 < 256
      by_cases hi : i < zs.length
      · rw [List.getD_eq_getElem?_getD, List.getElem?_eq_getElem hi]
        exact u8_of (hwf _ (List.getElem_mem hi))
      · rw [List.getD_eq_getElem?_getD, List.getElem?_eq_none (by omega)]
        simp
set_option maxRecDepth 100000 in
theorem spaceFresh_lifted (os : Os) (started : os.Started) (H : Type) (enc : TypeId × Value → H) :
    ReturnsInHanded {} Tryz.checked os 4 .any (Rows.spaceFreshSpec.pre6 enc Tryz.prog Tryz.f4 Rows.spaceFreshRow.domain false) (Rows.spaceFreshSpec.post enc Tryz.prog Tryz.f4 false true false false) := by
  refine returnsInHanded_of_change (C := Tryz.checked) own started (by kernel_rfl) Tryz.func4
    (ChangeSpec.witness6 (enc := enc) (C := Tryz.checked) false ⟨#[], #[.int .u64 0, .slice .none 0 0], []⟩ 8 (by kernel_rfl) (by kernel_rfl) (by kernel_rfl) (by kernel_rfl)) ?_
  intro W base args ds gs before hval0 hW hcnd _
  have hval : ∀ (j : Nat) t v, Tryz.f4.params[j]? = some t → args[j]? = some v → Value.okWide Tryz.prog W .any base t v := hval0
  have hW' := hW
  obtain ⟨p, q, hA0, hV, rfl, hfz, hnd⟩ := hW
  have hA : DataW.TrodAll enc Tryz.prog W 0 (fun _ => true) true Tryz.f4.params.toList args.toList ds p := hA0
  rw [Tryz.params4] at hA hval
  obtain ⟨v0, vs0, d0, ds0, p0, q0, hargs, rfl, rfl, h0, r0⟩ := trodAll_cons hA
  obtain ⟨v1, vs1, d1, ds1, p1, q1, rfl, rfl, rfl, h1, r1⟩ := trodAll_cons r0
  obtain ⟨rfl, rfl, rfl⟩ := trodAll_nil r1
  obtain rfl : args = #[v0, v1] := by cases args; simp_all
  obtain ⟨rfl, rfl⟩ := trodVars_none hV
  obtain ⟨a0, rfl, rfl, rfl, w0⟩ := open_int Tryz.underlying23 (hval 0 23 v0 rfl rfl) h0
  obtain ⟨sa1, la1, ca1, rfl⟩ := okWide_slice Tryz.underlying24 (hval 1 24 v1 rfl rfl)
  clear hA0 hval0
  simp only [List.append_nil, List.nil_append] at hW'
  have hlt : ∀ x ∈ p1, x.block < W.heap.size := fun x hx => by simpa using hW'.lt x (by simpa using hx)
  have hlt1 := hlt
  have ha1 : ∀ W', Below W.heap.size W W' → DataW.Trod enc Tryz.prog W' 0 (fun b => decide (b < W.heap.size)) true 24 (.slice sa1 la1 ca1) d1 p1 :=
    fun W' hn => Below.trod laidOut (by kernel_rfl) (of_decide_eq_true (by kernel_rfl)) h1 hn hlt1
  obtain ⟨R1, b1, s1, l1, m1⟩ := bytes_in h1
  refine (fresh_law a0 (u64_of w0) sa1 la1 ca1 ⟨l1, m1⟩ R1 b1 s1).mono fun e W' ⟨he, bel⟩ => ?_
  subst he
  exact ⟨_, rfl, _, _, _, [], _, [], hW', trodAll_mk1 (shut_bool Tryz.underlying4 _), (trodAll_cons_mk (shut_int Tryz.underlying23 w0) (trodAll_cons_mk (ha1 W' bel) trodAll_mk0)), rfl, bel.frame _, fun h => by cases h⟩
theorem spaceFresh_holds : Rows.SpaceFreshSaid :=
  OpenClaim.holds_of_wide 4 Tryz.f4 rfl rfl rfl rfl rfl rfl rfl ⟨rfl, rfl, rfl, rfl, rfl⟩ rfl rfl rfl rfl rfl (by kernel_rfl) Tryz.func4 (by kernel_rfl)
    (of_decide_eq_true (by kernel_rfl)) (by unfold Func.isWrapper; first | (rw [if_pos (by decide +kernel)]; kernel_rfl) | (rw [if_neg (by decide +kernel)]; exact ⟨rfl, rfl⟩))
    (fun os started H enc _ => spaceFresh_lifted os started H enc)
#print axioms spaceFresh_holds
end Go.Proofs.YtblmkkhiojbcjaaGreat
