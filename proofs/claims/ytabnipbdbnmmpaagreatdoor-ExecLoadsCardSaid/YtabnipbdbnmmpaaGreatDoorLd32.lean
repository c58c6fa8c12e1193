import Derived.Test.YtabnipbdbnmmpaaGreatDoorLd01
import Derived.Test.YtabnipbdbnmmpaaGreatDoorLd30
import Derived.Test.YtabnipbdbnmmpaaGreatDoorLd31
set_option linter.unusedVariables false
set_option linter.unusedSimpArgs false
set_option maxHeartbeats 8000000
namespace Go.Proofs.YtabnipbdbnmmpaaGreatDoor
section
open Go.ChangeShapes Go.WideShapes Go.ChangeAt Go.RowKit Go.Joins
theorem laid_of {W:World} (h:laidMetH Tryz.prog Rows.execLoadsRow.laid W):Laid W∧Laid3 W:=by
 have h:laidMet Tryz.prog Rows.execLoadsRow.laid W:=by
  unfold laidMetH at h
  rw[show (Rows.execLoadsRow.laid.filter fun x=>x.2.handleName?.isSome) = [] by kernel_rfl] at h
  exact h
 exact laid_list h
theorem door_met (os:Os) (args:Array Value):laidMetH Tryz.prog Rows.execLoadsRow.laid ((World.doorLaid Tryz.prog 400 os).forCall (fun _ _=>0) ⟨#[],args,[]⟩).memory:=
 laidMetH_of_parts3 (fuel:=8) (laidMet_of_run' 8 (by kernel_rfl) (by kernel_rfl)) (by kernel_rfl) (by kernel_rfl)
set_option maxRecDepth 100000 in
theorem execLoads_lifted (os:Os) (started:os.Started) (H:Type) (enc:TypeId×Value->H) :
  ReturnsInHanded {} Tryz.checked os 5 .any (fun w args=>(Rows.execLoadsSpec.pre enc Tryz.prog Tryz.f5 [] false w args∧laidMetH Tryz.prog Rows.execLoadsRow.laid w)∧sizedMet enc Tryz.prog Tryz.f5 (OpenSpec.ofChange Rows.execLoadsSpec) false w args)
   (Rows.execLoadsSpec.post enc Tryz.prog Tryz.f5 false true false false):=by
 refine returnsInHanded_of_change_and (C:=Tryz.checked) (X:=fun w _=>laidMetH Tryz.prog Rows.execLoadsRow.laid w) (fun _ _ _ hh h=>h.of_heap hh) own started (by kernel_rfl) Tryz.func5
  (ChangeSpec.witness_shaped (enc:=enc) (C:=Tryz.checked) (os:=os) (X:=fun w _=>laidMetH Tryz.prog Rows.execLoadsRow.laid w) false (World.doorLaid Tryz.prog 400 os) #[.int .i64 0,.slice .none 0 0,.slice .none 0 0] 8 rfl (World.shaped_of_RefB (by kernel_rfl) (by kernel_rfl)) (by kernel_rfl) (by kernel_rfl) (by kernel_rfl) (door_met os _)) ?_
 intro W base args ds gs before hval0 hW _ hsz hL _
 have hval:∀ (j:Nat) t v,Tryz.f5.params[j]? = some t->args[j]? = some v->Value.okWide Tryz.prog W .any base t v:=hval0
 have hW':=hW
 obtain⟨p,q,hA0,hV,rfl,hfz,hnd⟩:=hW
 have hA:DataW.TrodAll enc Tryz.prog W 0 (fun _=>true) true Tryz.f5.params.toList args.toList ds p:=hA0
 rw[Tryz.params5] at hA hval
 obtain⟨v0,vs0,d0,ds0,p0,q0,hargs,rfl,rfl,h0,r0⟩:=trodAll_cons hA
 obtain⟨v1,vs1,d1,ds1,p1,q1,rfl,rfl,rfl,h1,r1⟩:=trodAll_cons r0
 obtain⟨v2,vs2,d2,ds2,p2,q2,rfl,rfl,rfl,h2,r2⟩:=trodAll_cons r1
 obtain⟨rfl,rfl,rfl⟩:=trodAll_nil r2
 obtain rfl:args = #[v0,v1,v2]:=by cases args;simp_all
 obtain⟨rfl,rfl⟩:=trodVars_none hV
 have k0:=h0
 have k1:=h1
 have k2:=h2
 have lt0:∀ x∈p0,x.block<W.heap.size:=by obtain⟨m,hm⟩:=k0;exact DataW.trod_lt m _ _ _ hm
 have lt1:∀ x∈p1,x.block<W.heap.size:=by obtain⟨m,hm⟩:=k1;exact DataW.trod_lt m _ _ _ hm
 have lt2:∀ x∈p2,x.block<W.heap.size:=by obtain⟨m,hm⟩:=k2;exact DataW.trod_lt m _ _ _ hm
 have hzz:(DataW.weightsEach Tryz.prog [3,24,22] [d0,d1,d2]).all (· <= reachBytes)=true:=hsz
 have rb:reachBytes=140737488351232:=by decide
 have hb1:∀ k∈d1.weights Tryz.prog 24,k<=140737488351232:=by
  intro k hk
  have h1:=List.all_eq_true.1 hzz k (DataW.weights_mem_each (P:=Tryz.prog) (ts:=[3,24,22]) (ds:=[d0,d1,d2]) (j:=1) rfl rfl k hk)
  rw[rb] at h1
  exact of_decide_eq_true h1
 have hb2:∀ k∈d2.weights Tryz.prog 22,k<=140737488351232:=by
  intro k hk
  have h1:=List.all_eq_true.1 hzz k (DataW.weights_mem_each (P:=Tryz.prog) (ts:=[3,24,22]) (ds:=[d0,d1,d2]) (j:=2) rfl rfl k hk)
  rw[rb] at h1
  exact of_decide_eq_true h1
 obtain⟨n0,rfl,_,_,wtr0⟩:=open_int Tryz.underlying3 (hval 0 3 v0 rfl rfl) h0
 have hn0:-9223372036854775808<=n0∧n0<9223372036854775808:=by
  have e1:IntKind.i64.min = -9223372036854775808:=by decide
  have e2:IntKind.i64.max=9223372036854775807:=by decide
  simp[Lit.wf,e1,e2] at wtr0
  exact⟨by omega,by omega⟩
 obtain⟨fuel1,hf1⟩:=h1
 obtain⟨sa1,sl1,sc1,rfl⟩:=okWide_slice Tryz.underlying24 (hval 1 24 v1 rfl rfl)
 have hf1':DataW.trod enc Tryz.prog W 0 (fun _=>true) true fuel1 24 [.slice sa1 sl1 sc1]=some (d1,p1):=hf1
 obtain⟨pp,n,c,xs1,hvv,hby1,hxb1,hw1⟩:=open_byt hf1'
 injection hvv with hv1 hv2 hv3
 subst hv1 hv2 hv3
 obtain⟨fuel2,hf2⟩:=h2
 obtain⟨sa2,sl2,sc2,rfl⟩:=okWide_slice Tryz.underlying22 (hval 2 22 v2 rfl rfl)
 have hf2':DataW.trod enc Tryz.prog W 0 (fun _=>true) true fuel2 22 [.slice sa2 sl2 sc2]=some (d2,p2):=hf2
 obtain⟨pp,n,c,xs2,hvv,htx2,hw2⟩:=open_tex hf2'
 injection hvv with hv1 hv2 hv3
 subst hv1 hv2 hv3
 clear hA0 hval0
 obtain⟨hLa,hLb⟩:=laid_of hL
 refine(loads_law n0 hby1 hxb1 (hw1 _ hb1) htx2 (hw2 _ hb2).1 (hw2 _ hb2).2 hLa hLb).mono fun e W' ⟨he,bel⟩=>?_
 subst he
 exact⟨_,rfl,_,_,_,[],_,[],hW',trodAll_mk1 (shut_bool Tryz.underlying4 _),(trodAll_cons_mk (Below.trod laidOut (by kernel_rfl) (of_decide_eq_true (by kernel_rfl)) k0 bel lt0) (trodAll_cons_mk (Below.trod laidOut (by kernel_rfl) (of_decide_eq_true (by kernel_rfl)) k1 bel lt1) (trodAll_cons_mk (Below.trod laidOut (by kernel_rfl) (of_decide_eq_true (by kernel_rfl)) k2 bel lt2) trodAll_mk0))),rfl,bel.frame _,fun h=>by cases h⟩
theorem execLoads_row_holds:Rows.ExecLoadsSaid:=
 OpenClaim.holds_of_wide 5 Tryz.f5 rfl rfl rfl rfl rfl rfl rfl ⟨rfl,rfl,rfl,rfl,rfl⟩ rfl rfl rfl rfl rfl (by kernel_rfl) Tryz.func5 (by kernel_rfl)
  (of_decide_eq_true (by kernel_rfl)) (by unfold Func.isWrapper;first|(rw[if_pos (by decide +kernel)];kernel_rfl)|(rw[if_neg (by decide +kernel)];exact⟨rfl,rfl⟩))
  (fun os started H enc _=>execLoads_lifted os started H enc)
theorem execLoads_holds:Rows.ExecLoadsCardSaid:=
 Claim7.holds_tied_plain_at .later [] [.wider, .wider, .data] true (true, "11016494a37247b2d3092915c6d9da3ffd854f280a7eefa7d6ca01bf39836535") true
  execLoads_row_holds (fun _ h=>by cases h) (by kernel_rfl) (fun _ h=>by cases h) execLoads_row_tie rfl ⟨rfl,rfl⟩ (by kernel_rfl) rfl
  (fun f fn hf hfn=>by
   obtain rfl : f = 5 := Option.some.inj ((show Tryz.prog.funcNamed "hartix/hartixlaw14.ExecLoads" = some 5 by kernel_rfl).symm.trans hf) |>.symm
   obtain rfl:fn=Tryz.f5:=(Option.some.inj (Tryz.func5.symm.trans hfn)).symm
   exact⟨by kernel_rfl,fun j t ht=>by
    rw[Tryz.params5] at ht
    have hm:t ∈ [3,24,22]:=by simpa using Array.mem_of_getElem? ht
    have hall:([3,24,22].all fun u=>!Tryz.prog.wantsStandIn u)=true:=by kernel_rfl
    exact(show Tryz.prog.wantsStandIn t=false by simpa using List.all_eq_true.1 hall t hm)⟩)
  (by kernel_rfl)
end
end Go.Proofs.YtabnipbdbnmmpaaGreatDoor
