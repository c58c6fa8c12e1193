import Derived.Test.YtabnipbdbnmmpaaGreatDoorTw50
import Derived.Test.YtabnipbdbnmmpaaGreatDoorTw51
set_option linter.unusedVariables false
set_option linter.unusedSimpArgs false
namespace Go.Proofs.YtabnipbdbnmmpaaGreatDoor
open Go.ChangeShapes Go.WideShapes Go.ChangeAt Go.RowKit Go.Joins
theorem laid_of {W : World} (h : laidMetH Tryz.prog Rows.execTwiceRow.laid W) : Laid W ∧ Laid3 W := by
 have h : laidMet Tryz.prog Rows.execTwiceRow.laid W := by
  unfold laidMetH at h
  rw [show (Rows.execTwiceRow.laid.filter fun x => x.2.handleName?.isSome) = [] by kernel_rfl] at h
  exact h
 exact laid_list h
theorem door_met (os : Os) (args : Array Value) : laidMetH Tryz.prog Rows.execTwiceRow.laid ((World.doorLaid Tryz.prog 400 os).forCall (fun _ _ => 0) ⟨#[], args, []⟩).memory :=
 laidMetH_of_parts3 (fuel := 8) (laidMet_of_run' 8 (by kernel_rfl) (by kernel_rfl)) (by kernel_rfl) (by kernel_rfl)
set_option maxRecDepth 100000 in
theorem execTwice_lifted (os : Os) (started : os.Started) (H : Type) (enc : TypeId × Value → H) :
  ReturnsInHanded {} Tryz.checked os 3 .any (fun w args => (Rows.execTwiceSpec.pre enc Tryz.prog Tryz.f3 [] false w args ∧ laidMetH Tryz.prog Rows.execTwiceRow.laid w) ∧ sizedMet enc Tryz.prog Tryz.f3 (OpenSpec.ofChange Rows.execTwiceSpec) false w args)
   (Rows.execTwiceSpec.post enc Tryz.prog Tryz.f3 false true false false) := by
 refine returnsInHanded_of_change_and (C := Tryz.checked) (X := fun w _ => laidMetH Tryz.prog Rows.execTwiceRow.laid w) (fun _ _ _ hh h => h.of_heap hh) own started (by kernel_rfl) Tryz.func3
  (ChangeSpec.witness_shaped (enc := enc) (C := Tryz.checked) (os := os) (X := fun w _ => laidMetH Tryz.prog Rows.execTwiceRow.laid w) false (World.doorLaid Tryz.prog 400 os) #[.slice .none 0 0, .int .u64 0, .slice .none 0 0] 8 rfl (World.shaped_of_RefB (by kernel_rfl) (by kernel_rfl)) (by kernel_rfl) (by kernel_rfl) (by kernel_rfl) (door_met os _)) ?_
 intro W base args ds gs before hval0 hW _ hsz hL _
 have hval : ∀ (j : Nat) t v, Tryz.f3.params[j]? = some t → args[j]? = some v → Value.okWide Tryz.prog W .any base t v := hval0
 have hW' := hW
 obtain ⟨p, q, hA0, hV, rfl, hfz, hnd⟩ := hW
 have hA : DataW.TrodAll enc Tryz.prog W 0 (fun _ => true) true Tryz.f3.params.toList args.toList ds p := hA0
 rw [Tryz.params3] at hA hval
 obtain ⟨v0, vs0, d0, ds0, p0, q0, hargs, rfl, rfl, h0, r0⟩ := trodAll_cons hA
 obtain ⟨v1, vs1, d1, ds1, p1, q1, rfl, rfl, rfl, h1, r1⟩ := trodAll_cons r0
 obtain ⟨v2, vs2, d2, ds2, p2, q2, rfl, rfl, rfl, h2, r2⟩ := trodAll_cons r1
 obtain ⟨rfl, rfl, rfl⟩ := trodAll_nil r2
 obtain rfl : args = #[v0, v1, v2] := by cases args; simp_all
 obtain ⟨rfl, rfl⟩ := trodVars_none hV
 have k0 := h0
 have k1 := h1
 have k2 := h2
 have lt0 : ∀ x ∈ p0, x.block < W.heap.size := by obtain ⟨m, hm⟩ := k0; exact DataW.trod_lt m _ _ _ hm
 have lt1 : ∀ x ∈ p1, x.block < W.heap.size := by obtain ⟨m, hm⟩ := k1; exact DataW.trod_lt m _ _ _ hm
 have lt2 : ∀ x ∈ p2, x.block < W.heap.size := by obtain ⟨m, hm⟩ := k2; exact DataW.trod_lt m _ _ _ hm
 have hzz : (DataW.weightsEach Tryz.prog [22, 23, 24] [d0, d1, d2]).all (· ≤ reachBytes) = true := hsz
 have rb : reachBytes = 140737488351232 := by decide
 have hb0 : ∀ k ∈ d0.weights Tryz.prog 22, k ≤ 140737488351232 := by
  intro k hk
  have h1 := List.all_eq_true.1 hzz k (DataW.weights_mem_each (P := Tryz.prog) (ts := [22, 23, 24]) (ds := [d0, d1, d2]) (j := 0) rfl rfl k hk)
  rw [rb] at h1
  exact of_decide_eq_true h1
 have hb2 : ∀ k ∈ d2.weights Tryz.prog 24, k ≤ 140737488351232 := by
  intro k hk
  have h1 := List.all_eq_true.1 hzz k (DataW.weights_mem_each (P := Tryz.prog) (ts := [22, 23, 24]) (ds := [d0, d1, d2]) (j := 2) rfl rfl k hk)
  rw [rb] at h1
  exact of_decide_eq_true h1
 obtain ⟨fuel0, hf0⟩ := h0
 obtain ⟨sa0, sl0, sc0, rfl⟩ := okWide_slice Tryz.underlying22 (hval 0 22 v0 rfl rfl)
 have hf0' : DataW.trod enc Tryz.prog W 0 (fun _ => true) true fuel0 22 [.slice sa0 sl0 sc0] = some (d0, p0) := hf0
 obtain ⟨pp, n, c, xs0, hvv, htx0, hw0⟩ := open_tex hf0'
 injection hvv with hv1 hv2 hv3
 subst hv1 hv2 hv3
 obtain ⟨n1, rfl, _, _, wtr1⟩ := open_int Tryz.underlying23 (hval 1 23 v1 rfl rfl) h1
 have hn1 : 0 ≤ n1 ∧ n1 < 18446744073709551616 := by
  have e1 : IntKind.u64.min = 0 := by decide
  have e2 : IntKind.u64.max = 18446744073709551615 := by decide
  simp [Lit.wf, e1, e2] at wtr1
  exact ⟨by omega, by omega⟩
 obtain ⟨fuel2, hf2⟩ := h2
 obtain ⟨sa2, sl2, sc2, rfl⟩ := okWide_slice Tryz.underlying24 (hval 2 24 v2 rfl rfl)
 have hf2' : DataW.trod enc Tryz.prog W 0 (fun _ => true) true fuel2 24 [.slice sa2 sl2 sc2] = some (d2, p2) := hf2
 obtain ⟨pp, n, c, xs2, hvv, hby2, hxb2, hw2⟩ := open_byt hf2'
 injection hvv with hv1 hv2 hv3
 subst hv1 hv2 hv3
 clear hA0 hval0
 obtain ⟨hLa, hLb⟩ := laid_of hL
 refine (twice_law htx0 (hw0 _ hb0).1 (hw0 _ hb0).2 hn1 hby2 hxb2 (hw2 _ hb2) hLa hLb).mono fun e W' ⟨he, bel⟩ => ?_
 subst he
 exact ⟨_, rfl, _, _, _, [], _, [], hW', trodAll_mk1 (shut_bool Tryz.underlying4 _), (trodAll_cons_mk (Below.trod laidOut (by kernel_rfl) (of_decide_eq_true (by kernel_rfl)) k0 bel lt0) (trodAll_cons_mk (Below.trod laidOut (by kernel_rfl) (of_decide_eq_true (by kernel_rfl)) k1 bel lt1) (trodAll_cons_mk (Below.trod laidOut (by kernel_rfl) (of_decide_eq_true (by kernel_rfl)) k2 bel lt2) trodAll_mk0))), rfl, bel.frame _, fun h => by cases h⟩
theorem execTwice_row_holds : Rows.ExecTwiceSaid :=
 OpenClaim.holds_of_wide 3 Tryz.f3 rfl rfl rfl rfl rfl rfl rfl ⟨rfl, rfl, rfl, rfl, rfl⟩ rfl rfl rfl rfl rfl (by kernel_rfl) Tryz.func3 (by kernel_rfl)
  (of_decide_eq_true (by kernel_rfl)) (by unfold Func.isWrapper; first | (rw [if_pos (by decide +kernel)]; kernel_rfl) | (rw [if_neg (by decide +kernel)]; exact ⟨rfl, rfl⟩))
  (fun os started H enc _ => execTwice_lifted os started H enc)
theorem execTwice_holds : Rows.ExecTwiceCardSaid :=
 Claim7.holds_tied_plain_at .later [] [.wider, .wider, .data] true (true, "11016494a37247b2d3092915c6d9da3ffd854f280a7eefa7d6ca01bf39836535") true
  execTwice_row_holds (fun _ h => by cases h) (by kernel_rfl) (fun _ h => by cases h) execTwice_row_tie rfl ⟨rfl, rfl⟩ (by kernel_rfl) rfl
  (fun f fn hf hfn => by
   obtain rfl : f = 3 := Option.some.inj ((show Tryz.prog.funcNamed "hartix/hartixlaw14.ExecTwice" = some 3 by kernel_rfl).symm.trans hf) |>.symm
   obtain rfl : fn = Tryz.f3 := (Option.some.inj (Tryz.func3.symm.trans hfn)).symm
   exact ⟨by kernel_rfl, fun j t ht => by
    rw [Tryz.params3] at ht
    have hm : t ∈ [22, 23, 24] := by simpa using Array.mem_of_getElem? ht
    have hall : ([22, 23, 24].all fun u => !Tryz.prog.wantsStandIn u) = true := by kernel_rfl
    exact (show Tryz.prog.wantsStandIn t = false by simpa using List.all_eq_true.1 hall t hm)⟩)
  (by kernel_rfl)
end Go.Proofs.YtabnipbdbnmmpaaGreatDoor
