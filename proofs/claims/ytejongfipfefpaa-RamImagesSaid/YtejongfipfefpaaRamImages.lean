import Derived.Test.YtejongfipfefpaaLwH
import Derived.Test.YtejongfipfefpaaRows
import Derived.ProofKit
import Derived.OpenShut
import Derived.ShutString
import Derived.ChangeOld
import Derived.SizedLaws
import Derived.Carry
import Derived.Deep.SlicePairs
import Derived.Test.YtejongfipfefpaaLwF
import Derived.JoinedCond
namespace Go.Proofs.Ytejongfipfefpaa
open Go.ChangeShapes Go.WideShapes Go.ChangeAt Go.RowKit
set_option linter.unusedVariables false
set_option linter.unusedSimpArgs false
theorem wts_all {H : Type} {e : TypeId} {d : DataW H} {k : Nat} : ∀ {l : List (DataW H)}, d ∈ l → k ∈ d.weights Try.prog e → k ∈ DataW.weightsAll Try.prog e l
  | x :: l, h, hk => by
    simp only [DataW.weightsAll, List.mem_append]
    rcases List.mem_cons.1 h with rfl | h
    · exact .inl hk
    · exact .inr (wts_all h hk)
theorem bytes5 : Try.prog.bytesOf 5 = 1 := by kernel_rfl
theorem bytes26 : Try.prog.bytesOf 26 = 8 := by kernel_rfl
theorem bytes29 : Try.prog.bytesOf 29 = 32 := by kernel_rfl
theorem cells5 : Try.prog.cellsOf 5 = 1 := by kernel_rfl
theorem cells26 : Try.prog.cellsOf 26 = 1 := by kernel_rfl
theorem cells29 : Try.prog.cellsOf 29 = 2 := by kernel_rfl
theorem cells27 : Try.prog.cellsOf 27 = 1 := by kernel_rfl
theorem cells3 : Try.prog.cellsOf 3 = 1 := by kernel_rfl
theorem cells22 : Try.prog.cellsOf 22 = 1 := by kernel_rfl
theorem cells23 : Try.prog.cellsOf 23 = 1 := by kernel_rfl
/-- A row of numbers, as a world has it. -/
theorem open_row {H : Type} {enc : TypeId × Value → H} {w : World} {base : Nat} {held : Bool} {fuel : Nat} {v : Value} {x : DataW H × List MemPlace} {t e : TypeId} {k : IntKind} {M : Int} (ht : Try.prog.underlying t = some (.slice e)) (he : Try.prog.underlying e = some (.int k)) (hc : Try.prog.cellsOf e = 1) (hM : 0 < M) (hwf : ∀ z, (Lit.int k z).wf = true → 0 ≤ z ∧ z < M)
    (h : DataW.trod enc Try.prog w base (fun _ => true) held fuel t [v] = some x) : ∃ (p : Option Addr) (n c : Nat) (R : Nat → Int), v = .slice p n c ∧ n ≤ c ∧ c ≤ 9223372036854775807 ∧ (n = 0 ∨ ∃ b o, p = some ⟨b, o, .none⟩ ∧ b < w.heap.size ∧ ∀ i, i < n → w.cell? ⟨b, o + i, .none⟩ = some (.int k (R i))) ∧ (∀ i, 0 ≤ R i ∧ R i < M) ∧ ∀ M', (∀ k ∈ x.1.weights Try.prog t, k ≤ M') → n * Try.prog.bytesOf e ≤ M' := by
  rcases open_ints ht he hc h with ⟨hcs, hx⟩ | ⟨a, len, cap, zs, hcs, _, hlc, hmax, hlen, hx, hcell, hw⟩
  · simp only [List.cons.injEq, and_true] at hcs
    exact ⟨none, 0, 0, fun _ => 0, hcs, Nat.le_refl _, by decide, .inl rfl, fun _ => ⟨Int.le_refl _, hM⟩, fun M' _ => by rw [Nat.zero_mul]; exact Nat.zero_le _⟩
  · simp only [List.cons.injEq, and_true] at hcs
    have hz : zs.length = cap := by simpa using hlen
    refine ⟨some a, len, cap, fun i => zs.getD i 0, hcs, hlc, hmax, ?_, fun i => ?_, ?_⟩
    · by_cases h0 : len = 0
      · exact .inl h0
      · have hc0 := hcell 0 (by omega)
        obtain ⟨b, off, spot⟩ := a
        have hspot : spot = none := by simpa [Addr.add] using World.cell?_spot hc0
        subst hspot
        refine .inr ⟨b, off, rfl, ?_, fun i hi => ?_⟩
        · rw [le_addr_add] at hc0
          exact lt_of_cell hc0
        · have := hcell i (by omega)
          rw [le_addr_add] at this
          exact this
    · show 0 ≤ zs.getD i 0 ∧ zs.getD i 0 < M
      rw [List.getD_eq_getElem?_getD]
      cases hg : zs[i]? with
      | none => exact ⟨by simp, by simpa using hM⟩
      | some z => exact hwf z (hw z (List.mem_of_getElem? hg))
    · intro M' hM'
      have h1 := hM' ((len + (cap - len)) * Try.prog.bytesOf e) (by
        rw [hx]
        simp only [DataW.weights, ht]
        have el : ((lits k (zs.take len)).length (α := DataW H)) = len := by simp [lits]; omega
        have ed : ((lits k (zs.drop len)).length (α := DataW H)) = cap - len := by simp [lits]; omega
        rw [el, ed]
        exact List.mem_cons_self ..)
      exact Nat.le_trans (Nat.mul_le_mul_right _ (by omega)) h1
theorem wf_u8 (z : Int) (h : (Lit.int .u8 z).wf = true) : 0 ≤ z ∧ z < 256 := by
  simp [Lit.wf, IntKind.min, IntKind.max, IntKind.signed, IntKind.bits] at h
  omega
theorem wf_u64 (z : Int) (h : (Lit.int .u64 z).wf = true) : 0 ≤ z ∧ z < 18446744073709551616 := by
  simp [Lit.wf, IntKind.min, IntKind.max, IntKind.signed, IntKind.bits] at h
  omega
/-- A held frame, as a world has it. -/
def HeldAt (w : World) (v0 v1 : Value) (m : Nat → Prop) (q : Int × Option Addr × Nat × Nat × (Nat → Int)) : Prop :=
  v0 = .int .u64 q.1 ∧ v1 = .slice q.2.1 q.2.2.1 q.2.2.2.1 ∧ (0 ≤ q.1 ∧ q.1 < 18446744073709551616) ∧ q.2.2.1 ≤ q.2.2.2.1 ∧ q.2.2.2.1 ≤ 9223372036854775807 ∧
  (q.2.2.1 = 0 ∨ ∃ b o, q.2.1 = some ⟨b, o, .none⟩ ∧ b < w.heap.size ∧ ∀ i, i < q.2.2.1 → w.cell? ⟨b, o + i, .none⟩ = some (.int .u8 (q.2.2.2.2 i))) ∧ (∀ i, 0 ≤ q.2.2.2.2 i ∧ q.2.2.2.2 i < 256) ∧ ∀ M', m M' → q.2.2.1 ≤ M'
theorem open_held {H : Type} {enc : TypeId × Value → H} {w : World} {base : Nat} {held : Bool} {fuel : Nat} {v : Value} {x : DataW H × List MemPlace}
    (h : DataW.trod enc Try.prog w base (fun _ => true) held fuel 23 [v] = some x) : ∃ (qh : Option Addr) (nh ch : Nat) (PA : Nat → Int) (P : Nat → Option Addr) (L C : Nat → Nat) (D : Nat → Nat → Int), v = .slice qh nh ch ∧ Hs w qh nh PA P L C ∧ (∀ i, 0 ≤ PA i ∧ PA i < 18446744073709551616) ∧ (∀ i, L i ≤ C i ∧ C i ≤ 9223372036854775807) ∧ Ds w nh P L D ∧ (∀ i j, 0 ≤ D i j ∧ D i j < 256) ∧ nh ≤ ch ∧ ch ≤ 9223372036854775807 ∧ ∀ M', (∀ k ∈ x.1.weights Try.prog 23, k ≤ M') → nh * 32 ≤ M' ∧ ∀ i, L i ≤ M' := by
  rcases Deep.open_slice_pairs Try.underlying23 Try.underlying29 cells29 rfl rfl cells26 cells27 h with ⟨hcs, hx⟩ | ⟨a, len, cap, m, n, V0, V1, D0, D1, P0, P1, hcs, _, hlc, hmax, hm, hx, hc⟩
  · simp only [List.cons.injEq, and_true] at hcs
    exact ⟨none, 0, 0, fun _ => 0, fun _ => none, fun _ => 0, fun _ => 0, fun _ _ => 0, hcs, .inl rfl, fun _ => ⟨by dsimp only; omega, by dsimp only; omega⟩, fun _ => ⟨Nat.le_refl _, by dsimp only; omega⟩, fun i hi => by omega, fun _ _ => ⟨by dsimp only; omega, by dsimp only; omega⟩, Nat.le_refl _, by omega, fun M' _ => ⟨by omega, fun _ => Nat.zero_le _⟩⟩
  · simp only [List.cons.injEq, and_true] at hcs
    have hlm : len ≤ m := by rw [hm]; split <;> omega
    have each : ∀ i, i < len → ∃ q, HeldAt w (V0 i) (V1 i) (fun M' => ∀ k ∈ (D1 i).weights Try.prog 27, k ≤ M') q := by
      intro i hi
      obtain ⟨_, _, h0, h1⟩ := hc i (by omega)
      obtain ⟨z, e0, _, hz⟩ := DataW.trod_int Try.underlying26 h0
      simp only [List.cons.injEq, and_true] at e0
      obtain ⟨p, k, c, R, e1, g1, g2, g3, g4, g5⟩ := open_row Try.underlying27 Try.underlying5 cells5 (by omega) wf_u8 h1
      exact ⟨(z, p, k, c, R), e0, e1, wf_u64 z hz, g1, g2, g3, g4, fun M' hm' => by have := g5 M' hm'; rw [bytes5] at this; show k ≤ M'; omega⟩
    obtain ⟨q, hq⟩ := Deep.choose_lt each
    have hb : ∀ M', (∀ k ∈ x.1.weights Try.prog 23, k ≤ M') → len * 32 ≤ M' ∧ ∀ i, i < len → ∀ k ∈ (D1 i).weights Try.prog 27, k ≤ M' := by
      intro M' hM'
      have hx1 : x.1 = .slice ((List.range len).map fun i => .agg [D0 i, D1 i]) ((List.range (m - len)).map fun j => .agg [D0 (len + j), D1 (len + j)]) := by rw [hx]
      rw [hx1] at hM'
      simp only [DataW.weights, Try.underlying23, bytes29] at hM'
      refine ⟨?_, fun i hi k hk => ?_⟩
      · have h1 := hM' _ (List.mem_cons_self ..)
        simp at h1
        omega
      · refine hM' k (List.mem_cons.2 (.inr (List.mem_append.2 (.inl ?_))))
        refine wts_all (d := DataW.agg [D0 i, D1 i]) (List.mem_map.2 ⟨i, List.mem_range.2 hi, rfl⟩) ?_
        simp only [DataW.weights, Try.underlying29]
        exact DataW.weights_mem_each (j := 1) (t := 27) (d := D1 i) rfl rfl k hk
    refine ⟨some a, len, cap, fun i => if i < len then (q i).1 else 0, fun i => if i < len then (q i).2.1 else none, fun i => if i < len then (q i).2.2.1 else 0, fun i => if i < len then (q i).2.2.2.1 else 0, fun i j => if i < len then (q i).2.2.2.2 j else 0, hcs, ?_, fun i => ?_, fun i => ?_, fun i hi => ?_, fun i j => ?_, hlc, hmax, fun M' hM' => ⟨(hb M' hM').1, fun i => ?_⟩⟩
    · by_cases h0 : len = 0
      · exact .inl h0
      · have hc0 := (hc 0 (by omega)).1
        obtain ⟨b, off, spot⟩ := a
        have hspot : spot = none := by simpa [Addr.add] using World.cell?_spot hc0
        subst hspot
        refine .inr ⟨b, off, rfl, ?_, fun i hi => ?_⟩
        · rw [le_addr_add] at hc0
          exact lt_of_cell hc0
        · obtain ⟨h1, h2, _⟩ := hc i (by omega)
          obtain ⟨g1, g2, _⟩ := hq i hi
          rw [le_addr_add] at h1 h2
          dsimp only
          rw [if_pos hi, if_pos hi, if_pos hi, if_pos hi, ← g1, ← g2]
          exact ⟨h1, h2⟩
    · dsimp only
      split
      · rename_i hi; exact (hq i hi).2.2.1
      · exact ⟨by omega, by omega⟩
    · dsimp only
      split
      · rename_i hi
        exact ⟨(hq i hi).2.2.2.1, (hq i hi).2.2.2.2.1⟩
      · exact ⟨Nat.le_refl _, by omega⟩
    · simp only [if_pos hi]
      exact (hq i hi).2.2.2.2.2.1
    · dsimp only
      split
      · rename_i hi; exact (hq i hi).2.2.2.2.2.2.1 j
      · exact ⟨by omega, by omega⟩
    · dsimp only
      split
      · rename_i hi
        exact (hq i hi).2.2.2.2.2.2.2 M' ((hb M' hM').2 i hi)
      · exact Nat.zero_le _
theorem list3 {l : List Value} (h : l.length = 3) : ∃ a b c, l = [a, b, c] := by
  match l, h with
  | [a, b, c], _ => exact ⟨a, b, c, rfl⟩
theorem open_img {H : Type} {enc : TypeId × Value → H} {w : World} {base base' : Nat} {held : Bool} {r : Reach} {v : Value} {d : DataW H} {p : List MemPlace}
    (hv : Value.okWide Try.prog w r base' 25 v) (h : DataW.Trod enc Try.prog w base (fun _ => true) held 25 v d p) (hk : ∀ k ∈ d.weights Try.prog 25, k ≤ 140737488351232) :
    ∃ (n : Int) (nf cf nh ch : Nat) (qf qh : Option Addr) (F PA : Nat → Int) (P : Nat → Option Addr) (L C : Nat → Nat) (D : Nat → Nat → Int), v = .agg #[.int .i64 n, .slice qf nf cf, .slice qh nh ch] ∧ Arg w nf cf nh ch qf qh F PA P L C D := by
  obtain ⟨cs, rfl, hsz⟩ := okWide_struct Try.underlying25 hv
  have hsz3 : cs.toList.length = 3 := by
    have : cs.size = 3 := hsz.trans (by kernel_rfl)
    simpa using this
  obtain ⟨c0, c1, c2, hcs⟩ := list3 hsz3
  obtain ⟨fuel, hf⟩ := h
  obtain ⟨xs, n, _, hx, hl, hlen, hf⟩ := DataW.trod_struct Try.underlying25 hf
  simp only [Value.cells, hcs] at hf
  have g0 := hf 0 _ rfl
  have g1 := hf 1 _ rfl
  have g2 := hf 2 _ rfl
  simp [cells3, cells22, cells23] at g0 g1 g2
  have hl3 : xs.length = 3 := hlen
  rw [List.getElem?_eq_getElem (by omega)] at g0 g1 g2
  obtain ⟨z, e0, _⟩ := DataW.trod_int Try.underlying3 g0
  obtain ⟨qf, nf, cf, F, e1, a1, a2, a3, a4, a5⟩ := open_row Try.underlying22 Try.underlying26 cells26 (by omega) wf_u64 g1
  obtain ⟨qh, nh, ch, PA, P, L, C, D, e2, b1, b2, b3, b4, b5, b6, b7, b8⟩ := open_held g2
  simp only [List.cons.injEq, and_true] at e0
  have hd : d = .agg (xs.map (·.1)) := congrArg Prod.fst hx
  have hp : ∀ j (hj : j < xs.length) t, ([3, 22, 23] : List TypeId)[j]? = some t → ∀ k ∈ xs[j].1.weights Try.prog t, k ≤ 140737488351232 := by
    intro j hj t ht k hkk
    refine hk k ?_
    rw [hd]
    simp only [DataW.weights, Try.underlying25]
    exact DataW.weights_mem_each (j := j) (t := t) (d := xs[j].1) (by simpa using ht) (by simp [hj]) k hkk
  have h1 := a5 _ (hp 1 (by omega) 22 rfl)
  have h2 := b8 _ (hp 2 (by omega) 23 rfl)
  rw [bytes26] at h1
  refine ⟨z, nf, cf, nh, ch, qf, qh, F, PA, P, L, C, D, ?_, a3, a4, b1, b2, b3, fun i => ?_, b4, b5, ⟨a1, a2⟩, ⟨b6, b7⟩, ⟨by omega, by omega⟩⟩
  · subst e0 e1 e2
    congr 1
    rw [← Array.toArray_toList (xs := cs), hcs]
  · have := h2.2 i
    omega
end Go.Proofs.Ytejongfipfefpaa
namespace Go.Proofs.Ytejongfipfefpaa
open Go.ChangeShapes Go.WideShapes Go.ChangeAt Go.RowKit
set_option linter.unusedVariables false
theorem own : ownKnob Try.prog.godebug = none := by kernel_rfl
theorem laidOut : laidOutB Try.prog = true := by kernel_rfl
set_option maxRecDepth 100000 in
theorem ramImages_lifted (os : Os) (started : os.Started) (H : Type) (enc : TypeId × Value → H) :
    ReturnsInHanded {} Try.checked os 3 .any (Rows.ramImagesSpec.pre6 enc Try.prog Try.f3 Rows.ramImagesRow.domain false) (Rows.ramImagesSpec.post enc Try.prog Try.f3 false true false false) := by
  refine returnsInHanded_of_change_sized (C := Try.checked) own started (by kernel_rfl) Try.func3
    (ChangeSpec.witness6 (enc := enc) (C := Try.checked) false ⟨#[], #[.agg #[.int .i64 0, .slice .none 0 0, .slice .none 0 0]], []⟩ 8 (by kernel_rfl) (by kernel_rfl) (by kernel_rfl) (by kernel_rfl)) ?_
  intro W base args ds gs before hval0 hW hcnd hsz hsized
  have hval : ∀ (j : Nat) t v, Try.f3.params[j]? = some t → args[j]? = some v → Value.okWide Try.prog W .any base t v := hval0
  have hW' := hW
  obtain ⟨p, q, hA0, hV, rfl, hfz, hnd⟩ := hW
  have hA : DataW.TrodAll enc Try.prog W 0 (fun _ => true) true Try.f3.params.toList args.toList ds p := hA0
  rw [Try.params3] at hA hval
  obtain ⟨v0, vs0, d0, ds0, p0, q0, hargs, rfl, rfl, h0, r0⟩ := trodAll_cons hA
  obtain ⟨rfl, rfl, rfl⟩ := trodAll_nil r0
  obtain rfl : args = #[v0] := by cases args; simp_all
  obtain ⟨rfl, rfl⟩ := trodVars_none hV
  clear hA0 hval0
  have k0 := h0
  have lt0 : ∀ x ∈ p0, x.block < W.heap.size := by obtain ⟨m, hm⟩ := k0; exact DataW.trod_lt m _ _ _ hm
  have h0' : DataW.Trod enc Try.prog W 0 (fun _ => true) true 25 v0 d0 p0 := h0
  have hz : (DataW.weightsEach Try.prog [25] [d0]).all (· ≤ reachBytes) = true := hsz
  have rb : reachBytes = 140737488351232 := by decide
  have hb : ∀ k ∈ d0.weights Try.prog 25, k ≤ 140737488351232 := by
    intro k hk
    have h1 := List.all_eq_true.1 hz k (DataW.weights_mem_each (P := Try.prog) (ts := [25]) (ds := [d0]) (j := 0) rfl rfl k hk)
    rw [rb] at h1
    exact of_decide_eq_true h1
  obtain ⟨n, nf, cf, nh, ch, qf, qh, F, PA, P, L, C, D, rfl, hArg⟩ := open_img (hval 0 25 v0 rfl rfl) h0' hb
  refine (law_any W nf cf nh ch n qf qh F PA P L C D hArg).mono fun e W' ⟨he, bel⟩ => ?_
  subst he
  exact ⟨_, rfl, _, _, _, [], _, [], hW', trodAll_mk1 (shut_bool Try.underlying4 _), (trodAll_cons_mk (Below.trod laidOut (by kernel_rfl) (of_decide_eq_true (by kernel_rfl)) k0 bel lt0) trodAll_mk0), rfl, bel.frame _, fun h => by cases h⟩
theorem ramImages_holds : Rows.RamImagesSaid :=
  OpenClaim.holds_of_wide 3 Try.f3 rfl rfl rfl rfl rfl rfl rfl ⟨rfl, rfl, rfl, rfl, rfl⟩ rfl rfl rfl rfl rfl (by kernel_rfl) Try.func3 (by kernel_rfl)
    (of_decide_eq_true (by kernel_rfl)) (by unfold Func.isWrapper; first | (rw [if_pos (by decide +kernel)]; kernel_rfl) | (rw [if_neg (by decide +kernel)]; exact ⟨rfl, rfl⟩))
    (fun os started H enc _ => ramImages_lifted os started H enc)
#print axioms ramImages_holds
end Go.Proofs.Ytejongfipfefpaa
