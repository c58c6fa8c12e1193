import Derived.Test.YtjbealefopajcaaDoorWr
namespace Go.Proofs.YtjbealefopajcaaDoor
open Go.ChangeShapes Go.WideShapes Go.ChangeAt Go.RowKit Go.Joins
set_option linter.unusedVariables false
set_option linter.unusedSimpArgs false
theorem own : ownKnob Tryd.prog.godebug = none := by kernel_rfl
theorem laidOut : laidOutB Tryd.prog = true := by kernel_rfl
theorem laid_tail {P : Program} {W : World} {x : String × DataW Unit} {l : List (String × DataW Unit)} (h : laidMet P (x :: l) W) : ∃ ps, DataW.LaidVars P W l ps := by
  obtain ⟨ps, ⟨g', t', cs, fuel, p, q, _, _, _, _, hl, _⟩, _⟩ := h
  exact ⟨q, hl⟩
theorem laid_of {W : World} (h : laidMetH Tryd.prog Rows.enginePrintsRow.laid W) : TB W ∧ 3 ≤ W.heap.size := by
  have h : laidMet Tryd.prog Rows.enginePrintsRow.laid W := by
    unfold laidMetH at h
    rw [show (Rows.enginePrintsRow.laid.filter fun x => x.2.handleName?.isSome) = [] by kernel_rfl] at h
    exact h
  have h : laidMet Tryd.prog [("math/bits.deBruijn32tab", Rows.laid_math_bits_deBruijn32tab), ("math/bits.deBruijn64tab", Rows.laid_math_bits_deBruijn64tab), ("internal/strconv.uint64pow10", Rows.laid_internal_strconv_uint64pow10)] W := h
  obtain ⟨ps, ⟨g1, t1, cs1, fuel1, p1, q1, hg1, ht1, hv1, hd1, ⟨g2, t2, cs2, fuel2, p2, q2, hg2, ht2, hv2, hd2, ⟨g3, t3, cs3, fuel3, p3, q3, hg3, ht3, hv3, hd3, _, _⟩, _⟩, _⟩, _⟩ := h
  have kp : Tryd.prog.globalNamed "internal/strconv.uint64pow10" = some 0 := by kernel_rfl
  have kt : (Tryd.prog.globals[0]?).map (·.type) = some 109 := by kernel_rfl
  have kq : Tryd.prog.globalNamed "math/bits.deBruijn32tab" = some 2 := by kernel_rfl
  obtain rfl := Option.some.inj (kp.symm.trans hg3)
  obtain rfl := Option.some.inj (kt.symm.trans ht3)
  constructor
  · unfold TB Lib.TabIs
    rw [hv3]
    have hd : DataW.trod (fun _ => ()) Tryd.prog W 0 (fun _ => true) false fuel3 109 cs3.toList = some (Lib.tabData .u64 Lib.pow10Tab, p3) := hd3
    have he := Lib.cells_of_tab Tryd.underlying109 Tryd.underlying100 (by kernel_rfl) (by kernel_rfl) hd
    rw [← he]
  · obtain rfl := Option.some.inj (kq.symm.trans hg1)
    unfold World.var? at hv1
    rw [kq] at hv1
    simp only [Option.bind_some] at hv1
    cases hc : W.heap[2]? with
    | none => rw [hc] at hv1; cases hv1
    | some o => have := (Array.getElem?_eq_some_iff.1 hc).1; omega
theorem door_met (os : Os) (args : Array Value) : laidMetH Tryd.prog Rows.enginePrintsRow.laid ((World.doorLaid Tryd.prog 400 os).forCall (fun _ _ => 0) ⟨#[], args, []⟩).memory :=
  laidMetH_of_parts3 (fuel := 8) (laidMet_of_run' 8 (by kernel_rfl) (by kernel_rfl)) (by kernel_rfl) (by kernel_rfl)
set_option maxRecDepth 100000 in
theorem enginePrints_lifted (os : Os) (started : os.Started) (H : Type) (enc : TypeId × Value → H) :
    ReturnsInHanded {} Tryd.checked os 3 .any (fun w args => (Rows.enginePrintsSpec.pre enc Tryd.prog Tryd.f3 [] false w args ∧ laidMetH Tryd.prog Rows.enginePrintsRow.laid w) ∧ sizedMet enc Tryd.prog Tryd.f3 (OpenSpec.ofChange Rows.enginePrintsSpec) false w args)
      (Rows.enginePrintsSpec.post enc Tryd.prog Tryd.f3 false true false false) := by
  refine returnsInHanded_of_change_and (C := Tryd.checked) (X := fun w _ => laidMetH Tryd.prog Rows.enginePrintsRow.laid w) (fun _ _ _ hh h => h.of_heap hh) own started (by kernel_rfl) Tryd.func3
    (ChangeSpec.witness_shaped (enc := enc) (C := Tryd.checked) (os := os) (X := fun w _ => laidMetH Tryd.prog Rows.enginePrintsRow.laid w) false (World.doorLaid Tryd.prog 400 os) #[.agg #[.int .i64 0, .slice .none 0 0, .string ⟨#[]⟩, .int .i64 0, .slice .none 0 0, .slice .none 0 0]] 8 rfl (World.shaped_of_RefB (by kernel_rfl) (by kernel_rfl)) (by kernel_rfl) (by kernel_rfl) (by kernel_rfl) (door_met os _)) ?_
  intro W base args ds gs before hval0 hW _ hsz hL _
  have hval : ∀ (j : Nat) t v, Tryd.f3.params[j]? = some t → args[j]? = some v → Value.okWide Tryd.prog W .any base t v := hval0
  have hW' := hW
  obtain ⟨p, q, hA0, hV, rfl, hfz, hnd⟩ := hW
  have hA : DataW.TrodAll enc Tryd.prog W 0 (fun _ => true) true Tryd.f3.params.toList args.toList ds p := hA0
  rw [Tryd.params3] at hA hval
  obtain ⟨v0, vs0, d0, ds0, p0, q0, hargs, rfl, rfl, h0, r0⟩ := trodAll_cons hA
  obtain ⟨rfl, rfl, rfl⟩ := trodAll_nil r0
  obtain rfl : args = #[v0] := by cases args; simp_all
  obtain ⟨rfl, rfl⟩ := trodVars_none hV
  have k0 := h0
  have lt0 : ∀ x ∈ p0, x.block < W.heap.size := by obtain ⟨m, hm⟩ := k0; exact DataW.trod_lt m _ _ _ hm
  have hzz : (DataW.weightsEach Tryd.prog [26] [d0]).all (· ≤ reachBytes) = true := hsz
  have rb : reachBytes = 140737488351232 := by decide
  have hb0 : ∀ k ∈ d0.weights Tryd.prog 26, k ≤ 140737488351232 := by
    intro k hk
    have h1 := List.all_eq_true.1 hzz k (DataW.weights_mem_each (P := Tryd.prog) (ts := [26]) (ds := [d0]) (j := 0) rfl rfl k hk)
    rw [rb] at h1
    exact of_decide_eq_true h1
  obtain ⟨S, fv, tv, iv, rfl, hsc, hB⟩ := open_script (hval 0 26 v0 rfl rfl) h0 hb0
  clear hA0 hval0
  obtain ⟨hTB, h3⟩ := laid_of hL
  refine (prints_any hsc (Nat.le_refl _) hB hTB h3).mono fun e W' ⟨he, bel⟩ => ?_
  subst he
  exact ⟨_, rfl, _, _, _, [], _, [], hW', trodAll_mk1 (shut_bool Tryd.underlying4 _), (trodAll_cons_mk (Below.trod laidOut (by kernel_rfl) (of_decide_eq_true (by kernel_rfl)) k0 bel lt0) trodAll_mk0), rfl, bel.frame _, fun h => by cases h⟩
theorem enginePrints_row_holds : Rows.EnginePrintsSaid :=
  OpenClaim.holds_of_wide 3 Tryd.f3 rfl rfl rfl rfl rfl rfl rfl ⟨rfl, rfl, rfl, rfl, rfl⟩ rfl rfl rfl rfl rfl (by kernel_rfl) Tryd.func3 (by kernel_rfl)
    (of_decide_eq_true (by kernel_rfl)) (by unfold Func.isWrapper; first | (rw [if_pos (by decide +kernel)]; kernel_rfl) | (rw [if_neg (by decide +kernel)]; exact ⟨rfl, rfl⟩))
    (fun os started H enc _ => enginePrints_lifted os started H enc)
theorem enginePrints_holds : Rows.EnginePrintsCardSaid :=
  Claim7.holds_tied_plain_at .later [] [.data, .data, .data] true (true, "1de11b2325b8b97fbc99eb9f19f6305b6bebb6f515fa901fb0654448c596c8f2") true
    enginePrints_row_holds (fun _ h => by cases h) (by kernel_rfl) (fun _ h => by cases h) enginePrints_row_tie rfl ⟨rfl, rfl⟩ (by kernel_rfl) rfl
    (fun f fn hf hfn => by
      obtain rfl : f = 3 := Option.some.inj ((show Tryd.prog.funcNamed "hartix/hartixlaw18.EnginePrints" = some 3 by kernel_rfl).symm.trans hf) |>.symm
      obtain rfl : fn = Tryd.f3 := (Option.some.inj (Tryd.func3.symm.trans hfn)).symm
      exact ⟨by kernel_rfl, fun j t ht => by
        rw [Tryd.params3] at ht
        have hm : t ∈ [26] := by simpa using Array.mem_of_getElem? ht
        have hall : ([26].all fun u => !Tryd.prog.wantsStandIn u) = true := by kernel_rfl
        exact (show Tryd.prog.wantsStandIn t = false by simpa using List.all_eq_true.1 hall t hm)⟩)
    (by kernel_rfl)
end Go.Proofs.YtjbealefopajcaaDoor
