import Derived.Test.YtabnipbdbnmmpaaGreatDoorSh01
import Derived.Test.YtabnipbdbnmmpaaGreatDoorSh51
import Derived.Test.YtabnipbdbnmmpaaGreatDoorSh52
set_option linter.unusedVariables false
set_option linter.unusedSimpArgs false
namespace Go.Proofs.YtabnipbdbnmmpaaGreatDoor
section
open Go.ChangeShapes Go.WideShapes Go.ChangeAt Go.RowKit Go.Joins
theorem laid_of {W:World} (h:laidMetH Tryz.prog Rows.execShowsRow.laid W) : Laid W∧Laid3 W := by
 have h : laidMet Tryz.prog Rows.execShowsRow.laid W := by
  unfold laidMetH at h
  rw [show (Rows.execShowsRow.laid.filter fun x => x.2.handleName?.isSome) = [] by kernel_rfl] at h
  exact h
 exact laid_list h
theorem door_met (os:Os) (args:Array Value) : laidMetH Tryz.prog Rows.execShowsRow.laid ((World.doorLaid Tryz.prog 400 os).forCall (fun _ _ => 0) ⟨#[],args,[]⟩).memory :=
 laidMetH_of_parts3 (fuel:=8) (laidMet_of_run' 8 (by kernel_rfl) (by kernel_rfl)) (by kernel_rfl) (by kernel_rfl)
set_option maxRecDepth 100000 in
theorem execShows_lifted (os:Os) (started:os.Started) (H:Type) (enc:TypeId × Value→H) :
  ReturnsInHanded {} Tryz.checked os 4 .any (fun w args => (Rows.execShowsSpec.pre enc Tryz.prog Tryz.f4 [] false w args∧laidMetH Tryz.prog Rows.execShowsRow.laid w)∧sizedMet enc Tryz.prog Tryz.f4 (OpenSpec.ofChange Rows.execShowsSpec) false w args)
   (Rows.execShowsSpec.post enc Tryz.prog Tryz.f4 false true false false) := by
 refine returnsInHanded_of_change_and (C:=Tryz.checked) (X:=fun w _ => laidMetH Tryz.prog Rows.execShowsRow.laid w) (fun _ _ _ hh h => h.of_heap hh) own started (by kernel_rfl) Tryz.func4
  (ChangeSpec.witness_shaped (enc:=enc) (C:=Tryz.checked) (os:=os) (X:=fun w _ => laidMetH Tryz.prog Rows.execShowsRow.laid w) false (World.doorLaid Tryz.prog 400 os) #[.agg #[.int .u64 0,.slice .none 0 0],.slice .none 0 0] 8 rfl (World.shaped_of_RefB (by kernel_rfl) (by kernel_rfl)) (by kernel_rfl) (by kernel_rfl) (by kernel_rfl) (door_met os _)) ?_
 intro W base args ds gs before hval0 hW _ hsz hL _
 have hval : ∀ (j:Nat) t v,Tryz.f4.params[j]? = some t→args[j]? = some v→Value.okWide Tryz.prog W .any base t v := hval0
 have hW' := hW
 obtain ⟨p,q,hA0,hV,rfl,hfz,hnd⟩ := hW
 have hA : DataW.TrodAll enc Tryz.prog W 0 (fun _ => true) true Tryz.f4.params.toList args.toList ds p := hA0
 rw [Tryz.params4] at hA hval
 obtain ⟨v0,vs0,d0,ds0,p0,q0,hargs,rfl,rfl,h0,r0⟩ := trodAll_cons hA
 obtain ⟨v1,vs1,d1,ds1,p1,q1,rfl,rfl,rfl,h1,r1⟩ := trodAll_cons r0
 obtain ⟨rfl,rfl,rfl⟩ := trodAll_nil r1
 obtain rfl : args = #[v0,v1] := by cases args; simp_all
 obtain ⟨rfl,rfl⟩ := trodVars_none hV
 have k0 := h0
 have k1 := h1
 have lt0 : ∀ x ∈ p0,x.block<W.heap.size := by obtain ⟨m,hm⟩ := k0; exact DataW.trod_lt m _ _ _ hm
 have lt1 : ∀ x ∈ p1,x.block<W.heap.size := by obtain ⟨m,hm⟩ := k1; exact DataW.trod_lt m _ _ _ hm
 have hzz : (DataW.weightsEach Tryz.prog [41,22] [d0,d1]).all (· ≤ reachBytes)=true := hsz
 have rb : reachBytes=140737488351232 := by decide
 have hb0 : ∀ k ∈ d0.weights Tryz.prog 41,k≤140737488351232 := by
  intro k hk
  have h1 := List.all_eq_true.1 hzz k (DataW.weights_mem_each (P:=Tryz.prog) (ts:=[41,22]) (ds:=[d0,d1]) (j:=0) rfl rfl k hk)
  rw [rb] at h1
  exact of_decide_eq_true h1
 have hb1 : ∀ k ∈ d1.weights Tryz.prog 22,k≤140737488351232 := by
  intro k hk
  have h1 := List.all_eq_true.1 hzz k (DataW.weights_mem_each (P:=Tryz.prog) (ts:=[41,22]) (ds:=[d0,d1]) (j:=1) rfl rfl k hk)
  rw [rb] at h1
  exact of_decide_eq_true h1
 obtain ⟨en,q,m,c,S,D,rfl,hen,hArg⟩ := open_elf (hval 0 41 v0 rfl rfl) h0 hb0
 obtain ⟨fuel1,hf1⟩ := h1
 obtain ⟨sa1,sl1,sc1,rfl⟩ := okWide_slice Tryz.underlying22 (hval 1 22 v1 rfl rfl)
 have hf1' : DataW.trod enc Tryz.prog W 0 (fun _ => true) true fuel1 22 [.slice sa1 sl1 sc1]=some (d1,p1) := hf1
 obtain ⟨pp,n,c,xs1,hvv,htx1,hw1⟩ := open_tex hf1'
 injection hvv with hv1 hv2 hv3
 subst hv1 hv2 hv3
 clear hA0 hval0
 obtain ⟨hLa,hLb⟩ := laid_of hL
 refine (shows_law hArg hen htx1 (hw1 _ hb1).1 (hw1 _ hb1).2 hLa hLb).mono fun e W' ⟨he,bel⟩ => ?_
 subst he
 exact ⟨_,rfl,_,_,_,[],_,[],hW',trodAll_mk1 (shut_bool Tryz.underlying4 _),(trodAll_cons_mk (Below.trod laidOut (by kernel_rfl) (of_decide_eq_true (by kernel_rfl)) k0 bel lt0) (trodAll_cons_mk (Below.trod laidOut (by kernel_rfl) (of_decide_eq_true (by kernel_rfl)) k1 bel lt1) trodAll_mk0)),rfl,bel.frame _,fun h => by cases h⟩
theorem execShows_row_holds : Rows.ExecShowsSaid :=
 OpenClaim.holds_of_wide 4 Tryz.f4 rfl rfl rfl rfl rfl rfl rfl ⟨rfl,rfl,rfl,rfl,rfl⟩ rfl rfl rfl rfl rfl (by kernel_rfl) Tryz.func4 (by kernel_rfl)
  (of_decide_eq_true (by kernel_rfl)) (by unfold Func.isWrapper; first | (rw [if_pos (by decide +kernel)]; kernel_rfl) | (rw [if_neg (by decide +kernel)]; exact ⟨rfl,rfl⟩))
  (fun os started H enc _ => execShows_lifted os started H enc)
theorem execShows_holds : Rows.ExecShowsCardSaid :=
 Claim7.holds_tied_plain_at .later [] [.wider, .wider, .data] true (true, "11016494a37247b2d3092915c6d9da3ffd854f280a7eefa7d6ca01bf39836535") true
  execShows_row_holds (fun _ h => by cases h) (by kernel_rfl) (fun _ h => by cases h) execShows_row_tie rfl ⟨rfl,rfl⟩ (by kernel_rfl) rfl
  (fun f fn hf hfn => by
   obtain rfl : f = 4 := Option.some.inj ((show Tryz.prog.funcNamed "hartix/hartixlaw14.ExecShows" = some 4 by kernel_rfl).symm.trans hf) |>.symm
   obtain rfl : fn=Tryz.f4 := (Option.some.inj (Tryz.func4.symm.trans hfn)).symm
   exact ⟨by kernel_rfl,fun j t ht => by
    rw [Tryz.params4] at ht
    have hm : t ∈ [41,22] := by simpa using Array.mem_of_getElem? ht
    have hall : ([41,22].all fun u => !Tryz.prog.wantsStandIn u)=true := by kernel_rfl
    exact (show Tryz.prog.wantsStandIn t=false by simpa using List.all_eq_true.1 hall t hm)⟩)
  (by kernel_rfl)
end
end Go.Proofs.YtabnipbdbnmmpaaGreatDoor
