import Derived.Test.YtabnipbdbnmmpaaGreatDoorLd01
import Derived.Test.YtabnipbdbnmmpaaGreatDoorLd14
import Derived.Test.YtabnipbdbnmmpaaGreatDoorLd08
import Derived.Test.YtabnipbdbnmmpaaGreatDoorLd13
import Derived.Deep.RegionHeld3
import Derived.Test.YtabnipbdbnmmpaaGreatDoorLd10
set_option linter.unusedVariables false
set_option linter.unusedSimpArgs false
set_option maxHeartbeats 8000000
namespace Go.Proofs.YtabnipbdbnmmpaaGreatDoor
namespace Rm
open Go Go.RowKit Go.Shelf
section
variable {l n:Nat} {P:Program} {Q:Exit->Act->World->Prop} {ops:Array Oper} {md:Region.Mode} {S:World->Prop}
abbrev rF (l:Nat):Fence:=Fence.wide.inRound l
theorem wpOpIn_rd {i:Nat} {o:Oper} (hi:ops[i]? = some o) (hd:∀ c:Call,o.op≠Op.defer c) (K:Act->World->Prop) (a:Act) (w:World) :
  wpOpIn (rF l) n P ops Q i K a w↔(if Region.wanted o (yielded ops a.tmps)=true then o.uponIn (rF l) n P a K Q ((execOp a.eval o).run P w) else K (a.put o.dst undef) w):=by
 unfold wpOpIn
 simp only[hi,Oper.wpIn]
 rw[show (rF l).round=some l from rfl,Oper.semAt_some l _ o hd]
 split
 ·exact⟨fun h=>h.2,fun h=>⟨fun f _=>trivial,h⟩⟩
 ·exact⟨fun h=>h.2,fun h=>⟨fun f _=>trivial,h⟩⟩
theorem YieldsIf.wpOpIn_rd {i:Nat} {o:Oper} {v:Value} {a:Act} (hi:ops[i]? = some o) (hd:∀ c:Call,o.op≠Op.defer c) (hy:YieldsIf P ops S o v a)
  {K:Act->World->Prop} {w:World} (hS:S w) (h:K (a.put o.dst v) w):wpOpIn (rF l) n P ops Q i K a w:=by
 refine(Go.Proofs.YtabnipbdbnmmpaaGreatDoor.Rm.wpOpIn_rd hi hd K a w).2 ?_
 rcases hy with⟨hw,hv⟩|⟨hw,rfl⟩
 ·rw[if_pos hw,hv w hS];exact h
 ·simp only[hw,Bool.false_eq_true,if_false];exact h
theorem wpOpIn_putIf {j:Nat} {oi oj:Oper} {v:Value} (hj:ops[j]? = some oj) (hd:∀ c:Call,oj.op≠Op.defer c) (hap:oi.apart ops oj=true)
  (hsi:∀ cs b,oi.op ≠ .select cs b) (hsj:∀ cs b,oj.op ≠ .select cs b)
  (hQ:∀ c a w,Q (.panic c) (a.put oi.dst v) w->Q (.panic c) a w) {K:Act->World->Prop} {a:Act} {w:World}
  (hy:YieldsIf P ops S oi v a) (h:wpOpIn (rF l) n P ops Q j K (a.put oi.dst v) w) :
  wpOpIn (rF l) n P ops Q j (fun a' w'=>YieldsIf P ops S oi v a'∧K (a'.put oi.dst v) w') a w:=by
 obtain⟨h1,h2,h3⟩:=Oper.apart_spec hap
 have keep:∀ (a:Act),YieldsIf P ops S oi v a -> ∀ u,YieldsIf P ops S oi v (a.put oj.dst u):=fun a hy u=>
  hy.of_same (execOp_put oi hsi a oj.dst u h3) (wanted_put oi a oj.dst u h3)
 have keepD:∀ d,YieldsIf P ops S oi v { a with defers:=d :: a.defers }:=fun d=>hy.of_same rfl rfl
 refine(wpOpIn_rd hj hd _ a w).2 ?_
 have h:=(wpOpIn_rd hj hd K _ w).1 h
 rw[wanted_put oj a oi.dst v h1,execOp_put oj hsj a oi.dst v h1] at h
 split
 ·rename_i hw
  rw[if_pos hw] at h
  generalize (execOp a.eval oj).run P w=r at *
  cases r with
  |ok x w'=>
   cases x<;>simp only[Oper.uponIn] at h ⊢
   case value u=>exact⟨keep a hy u,by rw[<-Act.put_comm a v u h2];exact h⟩
   case skip=>exact⟨keep a hy _,by rw[<-Act.put_comm a v undef h2];exact h⟩
   case defer d=>
    refine⟨keep _ (keepD d) _,?_⟩
    rw[<-Act.put_comm _ v undef h2,<-Act.put_defers]
    exact h
   case enter f args=>
    refine⟨h.1,CallsIn.mono h.2 fun e w'' he=>?_⟩
    cases e with
    |returned u=>exact⟨keep a hy u,by rw[<-Act.put_comm a v u h2];exact he⟩
    |panicked c=>exact hQ _ _ _ he
    |outgrown=>exact he
   case row row args=>exact⟨h.1,RowsIn.mono h.2 fun u w'' he=>⟨keep a hy u,by rw[<-Act.put_comm a v u h2];exact he⟩⟩
   case round l f tmps assign body=>
    refine⟨h.1,RoundIn.mono h.2 fun e w'' he=>?_⟩
    cases e with
    |returned u=>exact⟨keep a hy u,by rw[<-Act.put_comm a v u h2];exact he⟩
    |panicked c=>exact hQ _ _ _ he
    |outgrown=>exact he
  |halt x w'=>
   cases x<;>simp only[Oper.uponIn] at h ⊢
   case panic u=>exact hQ _ _ _ h
 ·rename_i hw
  rw[if_neg hw] at h
  exact⟨keep a hy _,by rw[<-Act.put_comm a v undef h2];exact h⟩
def wpAnyR (l n:Nat) (P:Program) (md:Region.Mode) (ops:Array Oper) (Q:Exit->Act->World->Prop) (S:World->Prop):Nat->Array Bool->Act->World->Prop
 |0,listed,a,w=>Region.ready md ops listed = []∧Q .normal a w
 |fuel+1,listed,a,w=>
  (Region.ready md ops listed = []->Q .normal a w) ∧
  ∀ i∈Region.ready md ops listed,wpOpIn (rF l) n P ops Q i (fun a' w'=>S w'∧wpAnyR l n P md ops Q S fuel (listed.setIfInBounds i true) a' w') a w
theorem wpAnyIn_of_R:∀ (fuel:Nat) (listed:Array Bool) (a:Act) (w:World),wpAnyR l n P md ops Q S fuel listed a w->wpAnyIn (rF l) n P md ops Q fuel listed a w
 |0,_,_,_,h=>h
 |fuel+1,_,_,_,h=>⟨h.1,fun i hi=>wpOpIn_mono (fun a' w' h'=>wpAnyIn_of_R fuel _ a' w' h'.2) (h.2 i hi)⟩
theorem wpAnyR_first {i:Nat} {oi:Oper} {v:Value} (hd:∀ (i:Nat) (o:Oper),ops[i]? = some o -> ∀ c:Call,o.op≠Op.defer c) (hi:ops[i]? = some oi) (hsel:∀ (j:Nat) (o:Oper) cs b,ops[j]? = some o->o.op ≠ .select cs b)
  (hQ:∀ c a w,Q (.panic c) (a.put oi.dst v) w->Q (.panic c) a w) :
  ∀ (fuel:Nat) (listed:Array Bool) (a:Act) (w:World),
   (∀ j oj,ops[j]? = some oj->j≠i->listed.getD j true=false->(∀ e∈oj.after,Region.binds md e=true->e.on≠i)->oi.apart ops oj=true) ->
   i∈Region.ready md ops listed->YieldsIf P ops S oi v a->S w ->
   wpAnyR l n P md ops Q S fuel (listed.setIfInBounds i true) (a.put oi.dst v) w->wpAnyR l n P md ops Q S (fuel+1) listed a w:=by
 intro fuel
 induction fuel with
 |zero=>
  intro listed a w _ hr hy hS H
  refine⟨fun h=>(by rw[h] at hr;cases hr),fun j hj=>?_⟩
  by_cases hji:j=i
  ·subst hji;exact YieldsIf.wpOpIn_rd hi (hd _ _ hi) hy hS ⟨hS,H⟩
  ·have:=ready_mono hj hji
   rw[H.1] at this
   cases this
 |succ fuel ih=>
  intro listed a w hfree hr hy hS H
  refine⟨fun h=>(by rw[h] at hr;cases hr),fun j hj=>?_⟩
  by_cases hji:j=i
  ·subst hji;exact YieldsIf.wpOpIn_rd hi (hd _ _ hi) hy hS ⟨hS,H⟩
  ·have h1:=H.2 j (ready_mono hj hji)
   obtain⟨hjun,oj,hoj,hall⟩:=mem_ready.1 hj
   have hnot:∀ e∈oj.after,Region.binds md e=true->e.on≠i:=fun e he hb heq=>by
    have h1:=hall e he hb
    have h0:=(mem_ready.1 hr).1
    rw[heq] at h1
    rcases Nat.lt_or_ge i listed.size with h'|h'
    ·simp[h'] at h0 h1;rw[h0] at h1;cases h1
    ·simp[Array.getElem?_eq_none h'] at h1
   have h2:=wpOpIn_putIf hoj (hd _ _ hoj) (hfree j oj hoj hji hjun hnot) (fun cs b=>hsel i oi cs b hi) (fun cs b=>hsel j oj cs b hoj) hQ hy h1
   have hfree':∀ k ok,ops[k]? = some ok->k≠i->(listed.setIfInBounds j true).getD k true=false ->
     (∀ e∈ok.after,Region.binds md e=true->e.on≠i)->oi.apart ops ok=true:=fun k ok hk hki hun hno=>by
    refine hfree k ok hk hki ?_ hno
    by_cases hjk:j=k
    ·subst hjk;exact hjun
    ·rw[getD_set_ne true hjk] at hun;exact hun
   refine wpOpIn_mono (fun a' w' h3=>⟨h3.2.1,ih (listed.setIfInBounds j true) a' w' hfree' (ready_mono hr (Ne.symm hji)) h3.1 h3.2.1 ?_⟩) h2
   rw[Array.setIfInBounds_comm _ _ hji]
   exact h3.2.2
theorem wpAnyR_take {i:Nat} {oi:Oper} {v:Value} {fuel:Nat} {listed:Array Bool} {a:Act} {w:World} (hd:∀ (i:Nat) (o:Oper),ops[i]? = some o -> ∀ c:Call,o.op≠Op.defer c) (hi:ops[i]? = some oi)
  (hs:Region.noSelect ops=true) (hf:Region.free md ops listed i=true) (hr:(Region.ready md ops listed).contains i=true)
  (hQ:∀ c a w,Q (.panic c) (a.put oi.dst v) w->Q (.panic c) a w) (hy:YieldsIf P ops S oi v a) (hS:S w)
  (h:wpAnyR l n P md ops Q S fuel (listed.setIfInBounds i true) (a.put oi.dst v) w):wpAnyR l n P md ops Q S (fuel+1) listed a w:=
 wpAnyR_first hd hi (Region.noSelect_spec hs) hQ fuel listed a w (Region.free_spec hi hf) (by simpa using hr) hy hS h
theorem wpAnyR_one {i:Nat} {o:Oper} {fuel:Nat} {listed:Array Bool} {a:Act} {w:World} (hd:∀ (i:Nat) (o:Oper),ops[i]? = some o -> ∀ c:Call,o.op≠Op.defer c) (hi:ops[i]? = some o) (hr:Region.ready md ops listed = [i])
  (h:if Region.wanted o (yielded ops a.tmps)=true then o.uponIn (rF l) n P a (fun a' w'=>S w'∧wpAnyR l n P md ops Q S fuel (listed.setIfInBounds i true) a' w') Q ((execOp a.eval o).run P w) else S w∧wpAnyR l n P md ops Q S fuel (listed.setIfInBounds i true) (a.put o.dst undef) w):wpAnyR l n P md ops Q S (fuel+1) listed a w:=
 ⟨fun h0=>(by rw[hr] at h0;cases h0),fun j hj=>by
  rw[hr,List.mem_singleton] at hj
  subst hj
  exact(wpOpIn_rd hi (hd _ _ hi) _ a w).2 h⟩
theorem wpAnyR_call {i:Nat} {o:Oper} {fuel:Nat} {listed:Array Bool} {a:Act} {w:World} {f:Nat} {args:Array Value} {R:Ending->World->Prop} (hd:∀ (i:Nat) (o:Oper),ops[i]? = some o -> ∀ c:Call,o.op≠Op.defer c) (hi:ops[i]? = some o) (hr:Region.ready md ops listed = [i]) (hw:Region.wanted o (yielded ops a.tmps)=true)
  (he:(execOp a.eval o).run P w = .ok (.enter f args) w) (hc:Calls P f args w R) (hR:∀ e w',R e w' -> ∃ v,e = .returned v∧S w'∧wpAnyR l n P md ops Q S fuel (listed.setIfInBounds i true) (a.put o.dst v) w'):wpAnyR l n P md ops Q S (fuel+1) listed a w:=
 wpAnyR_one hd hi hr (by
  rw[if_pos hw,he]
  refine⟨fun e=>(by cases e),CallsIn.mono (CallsIn.inRound l (callsIn_wide.2 hc)) fun e w' h=>?_⟩
  obtain⟨v,rfl,h1,h2⟩:=hR e w' h
  exact⟨h1,h2⟩)
theorem wpAnyR_yield {i:Nat} {o:Oper} {fuel:Nat} {listed:Array Bool} {a:Act} {w:World} {l':Nat} {args:Array Value} {R:Ending->World->Prop} (hd:∀ (i:Nat) (o:Oper),ops[i]? = some o -> ∀ c:Call,o.op≠Op.defer c) (hi:ops[i]? = some o) (hr:Region.ready md ops listed = [i]) (hw:Region.wanted o (yielded ops a.tmps)=true)
  (he:∀ r,(Instr.yield l' args).run P w=r->(execOp a.eval o).run P w=r) (hc:YieldAt Fence.wide (n-1) P l' args w R) (hR:∀ e w',R e w' -> ∃ v,e = .returned v∧S w'∧wpAnyR l n P md ops Q S fuel (listed.setIfInBounds i true) (a.put o.dst v) w'):wpAnyR l n P md ops Q S (fuel+1) listed a w:=by
 obtain⟨fn,tmps,assign,body,hy,hRd⟩:=hc
 refine wpAnyR_one hd hi hr ?_
 rw[if_pos hw,he _ hy]
 have hRd':RoundIn (rF l) (n-1) P l' fn tmps assign body w R:=hRd
 refine⟨fun e=>(by cases e),hRd'.mono fun e w' h=>?_⟩
 obtain⟨v,rfl,h1,h2⟩:=hR e w' h
 exact⟨h1,h2⟩
theorem wpAnyR_done {listed:Array Bool} {a:Act} {w:World} (hr:Region.ready md ops listed = []) (h:Q .normal a w):∀ fuel,wpAnyR l n P md ops Q S fuel listed a w
 |0=>⟨hr,h⟩
 |_+1=>⟨fun _=>h,by rw[hr];simp⟩
theorem wpIn_region_R {id:Nat} {a:Act} {w:World} (hm:P.follows .mixedOrders=true)
  (h:wpAnyR l n P .any ops Q S ops.size (Array.replicate ops.size false) a w.drew):(Code.region id ops true).wpIn (rF l) n P Q a w:=
 wpIn_region_any hm (wpAnyIn_of_R _ _ _ _ h)
end
theorem range_GN {n:Nat} {α:Type} {g:Operand} {ps:Array Tmp} {assign body:Code} {Q:Exit->Act->World->Prop} {a:Act} {w:World}
  (h1:1<=n) {gf:Nat} {lb:Array Value} (hg:a.eval g = .func (.func gf) #[] lb) (eg:∀ args w,(callFunc gf args).run Tryz.prog w = .ok (.enter gf args) w)
  {encs:α -> Array Value} {L:List α} {w0:World} {p b mm:Nat} (hb0:Below w0.heap.size w0 w) (hseq:SeqG (n-1) gf lb encs L p b mm w0) (hpb:p<w.heap.size∧b<w.heap.size∧mm<w.heap.size)
  (hps:∀ x,(encs x).size=ps.size) (I:List α -> World->Prop) (Good:Nat->World->Prop) (hIb:∀ s W W',I s W->Below W.heap.size W W'->I s W') (hIp:∀ s W l o o',I s W->(l=w.heap.size∨l=w.heap.size+1)->W.heap[l]? = some o->o.isCells=false->I s (W.putObj l o')) (gd:GdJ Good I)
  (hgp:∀ s k W l o o',I s W->Good k W->k≠l->l=w.heap.size+1->W.heap[l]? = some o->o.isCells=false->Good k (W.putObj l o'))
  (h0:I [] w) (Ix:List α -> World->Prop) (hIx:∀ pre W l o o',Ix pre W->l=w.heap.size+1->W.heap[l]? = some o->o.isCells=false->Ix pre (W.putObj l o')) (Ax:α -> Act->World->Prop) (hAx:∀ s x a' W l o o',I s W->Ax x a' W->l=w.heap.size+1->W.heap[l]? = some o->o.isCells=false->Ax x a' (W.putObj l o'))
  (hassign:∀ (l:Nat) (pre:List α) (x:α) (W:World) (K:Act->World->Prop),I pre W->w.heap.size<=W.heap.size->(∀ a' W',Below W.heap.size W W'->Ax x a' W'->K a' W') ->
   assign.wpIn (Fence.wide.inRound l) (n-1-1) Tryz.prog (Exit.then K (fun _ _ _=>False)) { tmps:=(ps.zip (encs x)).foldl (fun t (p,v)=>t.setIfInBounds p v) a.tmps,defers:=[] } W)
  (hbody:∀ (l:Nat) (pre:List α) (x:α) (a':Act) (W:World),I pre W->Ax x a' W->pre ++ [x] <+: L->w.heap.size+1<W.heap.size->body.wpIn (Fence.wide.inRound l) (n-1-1) Tryz.prog (fun e _ W'=>(e = .normal∧Kp2 w.heap.size W W'∧KpG Good p b mm W W'∧I (pre ++ [x]) W')∨(e = .ret∧Kp2 w.heap.size W W'∧Ix (pre ++ [x]) W')) a' W)
  (hdone:∀ (D:Nat) (W:World),D=w.heap.size->I L W->W.heap[D]? = some (.deferred (some []))->Q .normal { a with defers:={ target:=.collected D,args:=#[] } :: a.defers } W)
  (hleft:∀ (D:Nat) (W:World) (pre:List α),D=w.heap.size->pre <+: L->Ix pre W->W.heap[D]? = some (.deferred (some []))->Q .ret { a with defers:={ target:=.collected D,args:=#[] } :: a.defers } W) :
  (Code.rangeFunc g ps assign body).wpIn Fence.wide n Tryz.prog Q a w:=by
 refine wpIn_rangeFunc fun fn hfn=>?_
 rw[show Fence.wide.round=none from rfl]
 let rec':LoopState->Option Code->Loop:=fun st pe=>{ state:=st,pending:=pe,fn:=fn,tmps:=a.tmps,params:=ps,assign:=assign,body:=body,defers:=w.heap.size }
 obtain⟨V,hV⟩:∃ V,(w.alloc (.deferred (some []))).alloc (.loop (rec' .ready none))=V:=⟨_,rfl⟩
 have hVs:V.heap.size=w.heap.size+2:=by rw[<-hV];simp
 have vL:V.heap[w.heap.size+1]? = some (.loop (rec' .ready none)):=by
  rw[<-hV];simpa using World.alloc_heap_new (w.alloc (.deferred (some []))) (.loop (rec' .ready none))
 have vD:V.heap[w.heap.size]? = some (.deferred (some [])):=by
  rw[<-hV];exact(Below.heap_alloc _ _ _ (by simp)).trans (World.alloc_heap_new w _)
 have vB:Below w.heap.size w V:=by rw[<-hV];exact((Below.refl _ w).alloc zL _).alloc (by simp) _
 have vI:I [] V:=hIb [] w V h0 vB
 refine⟨w.heap.size+1,[{ target:=.collected w.heap.size,args:=#[] }],V,{ target:=.fn (.func gf) lb,args:=#[.func (.yield (w.heap.size+1)) #[] #[]] },V,gf,#[.func (.yield (w.heap.size+1)) #[] #[]] ++ lb,V,?_,?_,?_,?_,fun _=>h1,?_⟩
 ·rw[<-hV];exact run_enterLoop_outer _ _ _ _ _
 ·simp only[resolve,hg];simp[go_sem]
 ·intro f' hf';exact trivial
 ·simp[invoke,go_sem,eg]
 have gdJ:GdJ (fun k W=>Good k W∧k≠w.heap.size∧k≠w.heap.size+1) (fun pre W=>I pre W∧W.heap[w.heap.size+1]? = some (.loop (rec' .ready none))∧W.heap[w.heap.size]? = some (.deferred (some []))):=by
  have low:∀ W W',Mv (fun k W=>Good k W∧k≠w.heap.size∧k≠w.heap.size+1) W W'->Mv Good W W':=fun W W' h=>⟨h.os,h.tape,h.output,h.size,fun k hk hn=>h.block k hk (fun e=>hn e.1)⟩
  refine⟨fun s W W' hs hm=>⟨gd.move s W W' hs.1 (low _ _ hm),?_,?_⟩,fun s W W' k hs hm hk=>⟨gd.mono s W W' k hs.1 (low _ _ hm) hk.1,hk.2⟩,fun s W W' k hs hm hk=>⟨gd.fresh s W W' k hs.1 (low _ _ hm) hk,?_,?_⟩⟩
  ·exact(hm.block _ (Array.getElem?_eq_some_iff.1 hs.2.1).1 (fun e=>e.2.2 rfl)).trans hs.2.1
  ·exact(hm.block _ (Array.getElem?_eq_some_iff.1 hs.2.2).1 (fun e=>e.2.1 rfl)).trans hs.2.2
  ·have:=(Array.getElem?_eq_some_iff.1 hs.2.2).1;omega
  ·have:=(Array.getElem?_eq_some_iff.1 hs.2.1).1;omega
 refine(hseq (w.heap.size+1) _ (fun pre W=>Ix pre W∧W.heap[w.heap.size+1]? = some (.loop (rec' .done (some .ret)))∧W.heap[w.heap.size]? = some (.deferred (some []))) _ V (hb0.trans (vB.mono hb0.size)) gdJ ?_ ⟨vI,vL,vD⟩).mono ?_
 ·rintro k pre x W ⟨hi,hl,hk⟩ hlen
  have hlt:w.heap.size+1<W.heap.size:=(Array.getElem?_eq_some_iff.1 hl).1
  refine yield_anyT rfl k (m:=n-1-1) ⟨fn,_,assign,body,run_yield (P:=Tryz.prog) (args:=encs x) hl (hps x),roundIn_of_wpIn hfn (hassign _ pre x W _ hi (by omega) (fun a' W1 hb1 hax=>?_))⟩
  have hi1:I pre W1:=hIb pre W W1 hi hb1
  have hl1:W1.heap[w.heap.size+1]? = some (.loop (rec' .ready none)):=(hb1.block _ hlt).trans hl
  have hk1:W1.heap[w.heap.size]? = some (.deferred (some [])):=(hb1.block _ (by omega)).trans hk
  have hlt1:w.heap.size+1<W1.heap.size:=(Array.getElem?_eq_some_iff.1 hl1).1
  refine⟨_,run_beginRound hl1 rfl,?_⟩
  refine wpIn_mono (hbody _ pre x a' _ (hIp _ _ _ _ _ hi1 (.inr rfl) hl1 rfl) (hAx _ _ _ _ _ _ _ hi1 hax rfl hl1 rfl) hlen (by simp only[World.putObj];simpa using hlt1)) ?_
  rintro e a3 W3 (⟨rfl,hk3,hkp,hi3⟩|⟨rfl,hk3,hix⟩)
  rotate_left
  ·have hl3:=hk3 (w.heap.size+1) _ (.inr rfl) (World.putObj_heap_same hlt1) rfl
   have hd3:=hk3 w.heap.size _ (.inl rfl) ((World.putObj_heap_other (by omega)).trans hk1) rfl
   exact⟨_,_,run_endRound (P:=Tryz.prog) (some .ret) hl3,.inr ⟨rfl,hIx _ _ _ _ _ hix rfl hl3 rfl,World.putObj_heap_same (Array.getElem?_eq_some_iff.1 hl3).1,(World.putObj_heap_other (by omega)).trans hd3⟩⟩
  have hl3:=hk3 (w.heap.size+1) _ (.inr rfl) (World.putObj_heap_same hlt1) rfl
  have hd3:=hk3 w.heap.size _ (.inl rfl) ((World.putObj_heap_other (by omega)).trans hk1) rfl
  refine⟨_,_,run_endRound (P:=Tryz.prog) none hl3,.inl ⟨rfl,⟨hIp _ _ _ _ _ hi3 (.inr rfl) hl3 rfl,World.putObj_heap_same (Array.getElem?_eq_some_iff.1 hl3).1,(World.putObj_heap_other (by omega)).trans hd3⟩,?_⟩⟩
  have sz:∀ (X:World) (l:Nat) (o:Obj),(X.putObj l o).heap.size=X.heap.size:=fun X l o=>by simp[World.putObj]
  refine⟨fun q o hq ho=>?_,?_,?_,?_,?_⟩
  ·have hql:q<W.heap.size:=(Array.getElem?_eq_some_iff.1 ho).1
   have g1:Good q W1:=gd.mono pre W W1 q hi (Mv.below hb1) hq.1
   have o1:W1.heap[q]? = some o:=(hb1.block q hql).trans ho
   have g2:=hgp pre q W1 _ _ (.loop { rec' .ready none with state:=.busy }) hi1 g1 hq.2.2 rfl hl1 rfl
   have o2:(W1.putObj (w.heap.size+1) (.loop { rec' .ready none with state:=.busy })).heap[q]? = some o:=(World.putObj_heap_other hq.2.2).trans o1
   obtain⟨o3,g3⟩:=hkp.1 q o g2 o2
   exact⟨(World.putObj_heap_other hq.2.2).trans o3,hgp _ q W3 _ _ _ hi3 g3 hq.2.2 rfl hl3 rfl,hq.2⟩
  ·rw[World.putObj_heap_other (by omega),hkp.2.1,World.putObj_heap_other (by omega)];exact hb1.block _ (by omega)
  ·rw[World.putObj_heap_other (by omega),hkp.2.2.1,World.putObj_heap_other (by omega)];exact hb1.block _ (by omega)
  ·rw[World.putObj_heap_other (by omega),hkp.2.2.2.1,World.putObj_heap_other (by omega)];exact hb1.block _ (by omega)
  ·rw[sz]
   have:=hkp.2.2.2.2
   rw[sz] at this
   exact Nat.le_trans hb1.size this
 ·rintro e W2 ⟨⟨v,rfl⟩,⟨hi,hl,hk⟩|⟨pre,hpre,hx,hl,hk⟩⟩
  ·exact⟨none,_,run_endLoop (P:=Tryz.prog) hl (by simp[rec']),hdone _ _ rfl (hIp _ _ _ _ _ hi (.inr rfl) hl rfl) ((World.putObj_heap_other (by omega)).trans hk)⟩
  ·exact⟨some .ret,_,run_endLoop (P:=Tryz.prog) hl (by simp[rec']),wpIn_ret (hleft _ _ pre rfl hpre (hIx _ _ _ _ _ hx rfl hl rfl) ((World.putObj_heap_other (by omega)).trans hk))⟩
end Rm
namespace Rm
open Go Go.RowKit Go.Shelf
attribute [local go_sem] Oper.semAt_some
attribute [local irreducible] eM evs
def lvO (x:Ev):Option (Int×Int):=if x.p.k=2 then some (ext x.va,x.p.e) else none
def lvl (l:List Ev):List (Int×Int):=l.filterMap lvO
def lvE (x:Int×Int):Array Value:=#[.int .u64 x.1,.int .u64 x.2]
theorem evs_mem' {F:Nat->Option Nat} {lf:Nat->Nat->Int} {x:Ev} (h:x∈evs F lf 0):∃ j,j<402653184∧ev F lf j=some x:=by
 unfold evs at h
 obtain⟨j,h1,hj⟩:=List.mem_filterMap.1 h
 rw[List.mem_range'_1] at h1
 rw[eM_val] at h1
 exact⟨j,by omega,hj⟩
theorem ev_va {F:Nat->Option Nat} {lf:Nat->Nat->Int} {j:Nat} {x:Ev} (hj:j<402653184) (hx:ev F lf j=some x):0<=x.va∧x.va<18446744073709551616:=by
 have:x.va=vaP (j/3):=by
  unfold ev at hx
  split at hx
  ·split at hx
   ·rw[Option.map_eq_some_iff] at hx
    obtain⟨g,hg,rfl⟩:=hx
    rfl
   ·cases hx
  ·split at hx
   ·split at hx
    ·rw[Option.bind_eq_some_iff] at hx
     obtain⟨g,hg,hx⟩:=hx
     rw[Option.map_eq_some_iff] at hx
     obtain⟨q,hq,rfl⟩:=hx
     rfl
    ·cases hx
   ·rw[Option.bind_eq_some_iff] at hx
    obtain⟨g,hg,hx⟩:=hx
    rw[Option.bind_eq_some_iff] at hx
    obtain⟨q,hq,hx⟩:=hx
    split at hx
    ·cases hx
    ·injection hx with hx
     subst hx
     rfl
 rw[this]
 unfold vaP
 omega
theorem Mv.drew {Good:Nat->World->Prop} (U:World):Mv Good U U.drew:=Mv.below ((Below.refl _ U).drew)
theorem mv_put {Good:Nat->World->Prop} {U:World} {l:Nat} (o':Obj) (h:Good l U):Mv Good U (U.putObj l o'):=
 ⟨rfl,rfl,rfl,by simp[World.putObj],fun k hk hn=>World.putObj_heap_other (fun e=>hn (by rw[e];exact h))⟩
def LvI (J:List (Int×Int)->World->Prop) (Good:Nat->World->Prop) (l z D:Nat) (pre:List Ev) (U:World):Prop:=J (lvl pre) U∧(Good z U∧Good D U∧Good (D+1) U)∧U.cell? ⟨z,0,.none⟩=some (.func (.yield l) #[] #[])
def LvX (Jx:List (Int×Int)->World->Prop) (Good:Nat->World->Prop) (D:Nat) (pre:List Ev) (U:World):Prop:=∃ U0,Jx (lvl pre) U0∧(Good D U0∧Good (D+1) U0)∧Mv (fun k _=>k=D∨k=D+1) U0 U
theorem LvI.mv {J:List (Int×Int)->World->Prop} {Good:Nat->World->Prop} {l z D:Nat} {pre:List Ev} {U U':World} (gd:GdJ Good J) (h:LvI J Good l z D pre U) (m:Mv Good U U') (hz:U'.heap[z]? = U.heap[z]?):LvI J Good l z D pre U':=
 ⟨gd.move _ _ _ h.1 m,⟨gd.mono _ _ _ _ h.1 m h.2.1.1,gd.mono _ _ _ _ h.1 m h.2.1.2.1,gd.mono _ _ _ _ h.1 m h.2.1.2.2⟩,(World.cell?_of_block (a:=⟨z,0,.none⟩) hz).trans h.2.2⟩
theorem LvI.gdI {J:List (Int×Int)->World->Prop} {Good:Nat->World->Prop} {l z D:Nat} (gd:GdJ Good J):GdJ (fun k U=>Good k U∧k≠z) (LvI J Good l z D):=by
 have low:∀ U U',Mv (fun k U=>Good k U∧k≠z) U U'->Mv Good U U':=fun U U' h=>⟨h.os,h.tape,h.output,h.size,fun k hk hn=>h.block k hk (fun e=>hn e.1)⟩
 refine⟨fun s U U' h m=>h.mv gd (low _ _ m) (m.block z (zC h.2.2) (fun e=>e.2 rfl)),fun s U U' k h m hk=>⟨gd.mono _ _ _ _ h.1 (low _ _ m) hk.1,hk.2⟩,fun s U U' k h m hk=>⟨gd.fresh _ _ _ _ h.1 (low _ _ m) hk,?_⟩⟩
 have:=zC h.2.2
 simp only at this
 omega
section
variable {w:World} {p b mm N r:Nat} {B:Nat->Int} {L:List Nat} {F:Nat->Option Nat} {lf:Nat->Nat->Int}
set_option maxRecDepth 100000 in
theorem leaves_seq (hR:Ram w p b mm N B L) (hP:PT N L B F lf) (hr:F 0=some r) (n z1 z2:Nat) (k1:w.cell? ⟨z1,0,.none⟩=some (.pointer (some ⟨p,0,.none⟩))) (k2:w.cell? ⟨z2,0,.none⟩=some (.int .u64 (ad r))) :
  SeqK n 169 #[.pointer (some ⟨z1,0,.none⟩),.pointer (some ⟨z2,0,.none⟩)] lvE (lvl (evs F lf 0)) p b mm w:=by
 intro l J Jx Good W hW gd hY hX h0
 have q1:=(hW.cell (zC k1)).trans k1
 have q2:=(hW.cell (zC k2)).trans k2
 obtain⟨W2,hW2⟩:∃ W2,W2=W.alloc (.cells #[.func (.yield l) #[] #[]] 239):=⟨_,rfl⟩
 obtain⟨W3,hW3⟩:∃ W3,W3=(W2.alloc (.cells #[.pointer (some ⟨p,0,.none⟩)] 27)).alloc (.cells #[.int .u64 (ad r)] 23):=⟨_,rfl⟩
 have c45:=toured_any p (ad r) W2
 rw[<-hW3] at c45
 have b2:Below W.heap.size W W2:=by rw[hW2];exact below1 _ _
 have b3:Below W2.heap.size W2 W3:=by rw[hW3];exact(zB.alloc zL _).alloc (by simp) _
 have hs2:W2.heap.size=W.heap.size+1:=by rw[hW2];simp
 have hs3:W3.heap.size=W2.heap.size+2:=by rw[hW3];simp
 have qy:W2.cell? ⟨W.heap.size,0,.none⟩=some (.func (.yield l) #[] #[]):=by rw[hW2];simp
 have q1':=(b2.cell (zC q1)).trans q1
 have q2':=(b2.cell (zC q2)).trans q2
 have t1:W3.cell? ⟨W2.heap.size,0,.none⟩=some (.pointer (some ⟨p,0,.none⟩)):=by rw[hW3];simp
 have t2:W3.cell? ⟨W2.heap.size+1,0,.none⟩=some (.int .u64 (ad r)):=by rw[hW3];simp
 have B3:Below W.heap.size W W3:=b2.trans (b3.mono b2.size)
 have hRW:=hR.below hW
 have hseq:=fun n=>tour_seq (hRW.below B3) hP hr n _ _ t1 t2
 have hpl:=hRW.mem.plt
 have hbl:=hRW.mem.blt
 have hml:=hRW.mem.mlt
 have gd3:∀ g,W.heap.size<=g->Good g W3:=fun g hg=>gd.fresh [] W W3 g h0 (Mv.below B3) hg
 have j3:J [] W3:=gd.move [] W W3 h0 (Mv.below B3)
 have qy3:=(b3.cell (zC qy)).trans qy
 have HS:Hid ((∀ n,SeqG n 192 #[.pointer (some ⟨W2.heap.size,0,.none⟩),.pointer (some ⟨W2.heap.size+1,0,.none⟩)] evE (evs F lf 0) p b mm W3)∧(∀ g,W.heap.size<=g->Good g W3)∧J [] W3∧W3.cell? ⟨W.heap.size,0,.none⟩=some (.func (.yield l) #[] #[])):=⟨hseq,gd3,j3,qy3⟩
 have HY:Hid (∀ k pre x W1,J pre W1->pre ++ [x] <+: lvl (evs F lf 0)->YieldAt Fence.wide k Tryz.prog l (lvE x) W1 fun e W'=>(e = .returned (.bool true)∧J (pre ++ [x]) W'∧KpG Good p b mm W1 W')∨(e = .returned (.bool false)∧Jx (pre ++ [x]) W'∧KpG Good p b mm W1 W')):=hY
 have HX:Hid ((∀ pre W1 W2,Jx pre W1->Mv Good W1 W2->Jx pre W2)∧GdJ Good J):=⟨hX,gd⟩
 have HP:Hid (PT N L B F lf∧N<=4096):=⟨hP,hRW.mem.n2⟩
 clear hY hX gd h0 hR hRW hP hr hseq t1 t2 gd3 j3 qy3 qy q1 q2 k1 k2 b3 B3 b2
 refine callsIn_of_wp_marks Tryz.func169 rfl trivial ?_ rfl
 refine wpIn_wide.2 ?_
 simp only[Tryz.ntmps169,List.size_toArray,List.length_cons,List.length_nil,Nat.reduceAdd,Nat.reduceSub,Array.replicate_succ,Array.replicate_zero,List.push_toArray,List.append_toArray,List.nil_append,List.cons_append]
 go_upto_region 1 with fail
 rw[<-hW2]
 clear hW2 hW3
 go_wp2_with (go_at_call 166;refine c45.mono ?_;rintro _ w4 ⟨rfl,e4⟩;obtain rfl:W3=w4:=e4.symm)
 have HZ:Hid (W2.heap.size=W.heap.size+1∧W3.heap.size=W.heap.size+3∧p<W.heap.size∧b<W.heap.size∧mm<W.heap.size):=⟨hs2,by omega,hpl,hbl,hml⟩
 refine(wpIn_wide (n:=3)).1 (range_GN (α:=Ev) (by omega) (gf:=192) (lb:=#[.pointer (some ⟨W.heap.size+1,0,.none⟩),.pointer (some ⟨W.heap.size+1+1,0,.none⟩)]) rfl (enters_of Tryz.func192 (by kernel_rfl) rfl) zB (by have:=HS.out.1 2;rw[hs2] at this;exact this) (by omega) (fun _=>rfl)
  (LvI J Good l W.heap.size W3.heap.size) (fun k U=>Good k U∧k≠W.heap.size)
  (fun s U U' h k=>h.mv HX.out.2 (Mv.below k) (k.block _ (zC h.2.2)))
  (fun s U l' o o' h hl ho hc=>h.mv HX.out.2 (mv_put o' (by rcases hl with rfl|rfl;exact h.2.1.2.1;exact h.2.1.2.2)) (World.putObj_heap_other (by have:=HZ.out.2.1;omega)))
  (LvI.gdI HX.out.2)
  (fun s k U l' o o' h hk hkl hl ho hc=>⟨HX.out.2.mono _ _ _ _ h.1 (mv_put o' (by rw[hl];exact h.2.1.2.2)) hk.1,hk.2⟩)
  ⟨HS.out.2.2.1,⟨HS.out.2.1 _ zL,HS.out.2.1 _ (by omega),HS.out.2.1 _ (by omega)⟩,HS.out.2.2.2⟩
  (LvX Jx Good W3.heap.size) ?ix (fun x a' U=>∃ br pb,a' = { tmps:=#[.func (.yield l) #[] #[],.pointer (some ⟨z1,0,.none⟩),.pointer (some ⟨z2,0,.none⟩),.pointer (some ⟨W.heap.size,0,.none⟩),.pointer (some ⟨br,0,.none⟩),.pointer (some ⟨pb,0,.none⟩),.pointer (some ⟨p,0,.none⟩),.int .u64 (ad r),.func (.func 192) #[] #[.pointer (some ⟨W.heap.size+1,0,.none⟩),.pointer (some ⟨W.heap.size+1+1,0,.none⟩)],.agg #[.int .u64 x.va,.int .i64 x.l],x.p.val,undef,undef,undef,undef,undef,undef,undef,undef,undef,undef,undef,undef,undef],defers:=[] } ∧ U.cell? ⟨br,0,.none⟩=some (.int .u64 x.va)∧U.cell? ⟨pb,4,.none⟩=some (.int .u64 x.p.e)∧U.cell? ⟨pb,5,.none⟩=some (.int .i64 x.p.k)∧W.heap.size<br∧W.heap.size<pb∧Good br U∧Good pb U) ?hax ?assign ?body ?done ?left)
 case ix=>
  rintro pre U l' o o' ⟨U0,h1,h2,h3⟩ hl ho hc
  refine⟨U0,h1,h2,⟨h3.os,h3.tape,h3.output,by simp only[World.putObj];simpa using h3.size,fun k hk hn=>?_⟩⟩
  exact(World.putObj_heap_other (fun e=>hn (.inr (by rw[e,hl])))).trans (h3.block k hk hn)
 case hax=>
  rintro s x a' U l' o o' hI ⟨br,pb,h1,h2,h3,h4,h5,h6,h7,h8⟩ hl ho hc
  have n1:br≠l':=fun e=>by
   subst e
   have:=cells_of h2 ho
   rw[hc] at this
   cases this
  have n2:pb≠l':=fun e=>by
   subst e
   have:=cells_of h3 ho
   rw[hc] at this
   cases this
  exact⟨br,pb,h1,(World.cell?_of_block (a:=⟨br,0,.none⟩) (World.putObj_heap_other n1)).trans h2,(World.cell?_of_block (a:=⟨pb,4,.none⟩) (World.putObj_heap_other n2)).trans h3,(World.cell?_of_block (a:=⟨pb,5,.none⟩) (World.putObj_heap_other n2)).trans h4,h5,h6,HX.out.2.mono _ _ _ _ hI.1 (mv_put o' (by rw[hl];exact hI.2.1.2.2)) h7,HX.out.2.mono _ _ _ _ hI.1 (mv_put o' (by rw[hl];exact hI.2.1.2.2)) h8⟩
 case assign=>
  intro l' pre x U K hI hU hK
  have HI:Hid (J (lvl pre) U):=hI.1
  clear hI
  simp only[evE,Pt.val]
  gi_wp2
  have hs:=HZ.out.2.1
  refine hK _ _ ?_ ⟨U.heap.size,U.heap.size+1,rfl,?_,?_,?_,by omega,by omega,HX.out.2.fresh _ _ _ _ HI.out (Mv.below ((zB.alloc zL _).alloc (by simp) _)) zL,HX.out.2.fresh _ _ _ _ HI.out (Mv.below ((zB.alloc zL _).alloc (by simp) _)) (Nat.le_succ _)⟩
  ·exact(zB.alloc zL _).alloc (by simp) _
  ·exact(below1 _ _ |>.cell (p:=⟨U.heap.size,0,.none⟩) (by simp)).trans (by simp)
  ·have:=C6.new (U.alloc (.cells #[.int .u64 x.va,.int .i64 x.l] 236)) (.int .u64 x.p.a0) (.int .u64 x.p.a1) (.int .u64 x.p.a2) (.int .i64 x.p.l) (.int .u64 x.p.e) (.int .i64 x.p.k) 169
   rw[World.size_alloc] at this
   exact this.c4
  ·have:=C6.new (U.alloc (.cells #[.int .u64 x.va,.int .i64 x.l] 236)) (.int .u64 x.p.a0) (.int .u64 x.p.a1) (.int .u64 x.p.a2) (.int .i64 x.p.l) (.int .u64 x.p.e) (.int .i64 x.p.k) 169
   rw[World.size_alloc] at this
   exact this.c5
 case done=>
  rintro D U rfl hI hDd
  have HI:Hid (J (lvl (evs F lf 0)) (U.putObj W3.heap.size (.deferred none))):=HX.out.2.move _ _ _ hI.1 (mv_put _ hI.2.1.2.1)
  clear hI
  go_wp2
  refine⟨by simp,.inl ⟨_,_,rfl,run_takeDeferred hDd,?_⟩⟩
  exact⟨.tuple #[],by simp[results,Tryz.results169,go_sem],⟨_,rfl⟩,.inl HI.out⟩
 case left=>
  rintro D U pre rfl hpre ⟨U0,h1,h2,h3⟩ hDd
  have HI:Hid (Jx (lvl pre) (U.putObj W3.heap.size (.deferred none))):=by
   refine HX.out.1 _ _ _ h1 ⟨h3.os,h3.tape,h3.output,by simp only[World.putObj];simpa using h3.size,fun k hk hn=>?_⟩
   exact(World.putObj_heap_other (fun e=>hn (by rw[e];exact h2.1))).trans (h3.block k hk (fun e=>hn (by rcases e with rfl|rfl;exact h2.1;exact h2.2)))
  clear h1 h2 h3
  go_wp2
  refine⟨by simp,.inl ⟨_,_,rfl,run_takeDeferred hDd,?_⟩⟩
  exact⟨.tuple #[],by simp[results,Tryz.results169,go_sem],⟨_,rfl⟩,.inr ⟨lvl pre,hpre.filterMap _,HI.out⟩⟩
 case body=>
  rintro l' pre x a' U hI ⟨br,pb,rfl,c1,c2,c3,n1,n2,gB,gP⟩ hlen hsz
  obtain⟨j,hj,hjx⟩:=evs_mem' (hlen.subset (by simp):x∈evs F lf 0)
  have hva:0<=x.va∧x.va<18446744073709551616:=ev_va hj hjx
  have heb:=ev_b HP.out.1 HP.out.2 hjx
  obtain⟨va,lv,⟨a0,a1,a2,l2,e,k⟩⟩:=x
  simp only[Pt.val] at c1 c2 c3 hva heb ⊢
  have HJ:Hid (LvI J Good l W.heap.size W3.heap.size pre U∧Good br U∧Good pb U):=⟨hI,gB,gP⟩
  have HL:Hid (pre ++ [⟨va,lv,⟨a0,a1,a2,l2,e,k⟩⟩] <+: evs F lf 0):=hlen
  have c4:=hI.2.2
  clear hI gB gP hlen hj hjx
  by_cases hk2:k=2
  ·subst hk2
   have c54:=fun W=>ext_any va hva W
   have kS:U.drew.cell? ⟨br,0,.none⟩=some (.int .u64 va)∧U.drew.cell? ⟨pb,4,.none⟩=some (.int .u64 e)∧U.drew.cell? ⟨pb,5,.none⟩=some (.int .i64 2)∧U.drew.cell? ⟨W.heap.size,0,.none⟩=some (.func (.yield l) #[] #[]):=⟨c1,c2,c3,c4⟩
   gi_wp2
   refine wpIn_region_R (S:=fun X=>X.cell? ⟨br,0,.none⟩=some (.int .u64 va)∧X.cell? ⟨pb,4,.none⟩=some (.int .u64 e)∧X.cell? ⟨pb,5,.none⟩=some (.int .i64 2)∧X.cell? ⟨W.heap.size,0,.none⟩=some (.func (.yield l) #[] #[])) (by kernel_rfl) ?_
   refine wpAnyR_take (i:=0) (v:=(.pointer (some ⟨pb,5,.none⟩))) (no_defer_of (by kernel_rfl)) rfl (by kernel_rfl) (by kernel_rfl) (by kernel_rfl) (fun _ _ _ h=>h) (Or.inl ⟨by rfl,fun ww hSw=>by (try dsimp only at hSw);go_simp⟩) (by assumption) ?_
   simp only[xX]
   refine wpAnyR_take (i:=1) (v:=(.int .i64 2)) (no_defer_of (by kernel_rfl)) rfl (by kernel_rfl) (by kernel_rfl) (by kernel_rfl) (fun _ _ _ h=>h) (Or.inl ⟨by rfl,fun ww hSw=>by (try dsimp only at hSw);obtain⟨q1,q2,q3,q4⟩:=hSw;go_simp⟩) (by assumption) ?_
   simp only[xX]
   refine wpAnyR_take (i:=2) (v:=(.bool true)) (no_defer_of (by kernel_rfl)) rfl (by kernel_rfl) (by kernel_rfl) (by kernel_rfl) (fun _ _ _ h=>h) (Or.inl ⟨by rfl,fun ww hSw=>by (try dsimp only at hSw);go_simp⟩) (by assumption) ?_
   simp only[xX]
   refine wpAnyR_take (i:=3) (v:=(.bool true)) (no_defer_of (by kernel_rfl)) rfl (by kernel_rfl) (by kernel_rfl) (by kernel_rfl) (fun _ _ _ h=>h) (Or.inl ⟨by rfl,fun ww hSw=>by (try dsimp only at hSw);go_simp⟩) (by assumption) ?_
   simp only[xX]
   refine wpAnyR_take (i:=4) (v:=(.func (.yield l) #[] #[])) (no_defer_of (by kernel_rfl)) rfl (by kernel_rfl) (by kernel_rfl) (by kernel_rfl) (fun _ _ _ h=>h) (Or.inl ⟨by rfl,fun ww hSw=>by (try dsimp only at hSw);obtain⟨q1,q2,q3,q4⟩:=hSw;go_simp⟩) (by assumption) ?_
   simp only[xX]
   refine wpAnyR_take (i:=5) (v:=(.pointer (some ⟨br,0,.none⟩))) (no_defer_of (by kernel_rfl)) rfl (by kernel_rfl) (by kernel_rfl) (by kernel_rfl) (fun _ _ _ h=>h) (Or.inl ⟨by rfl,fun ww hSw=>by (try dsimp only at hSw);go_simp⟩) (by assumption) ?_
   simp only[xX]
   refine wpAnyR_take (i:=6) (v:=(.int .u64 va)) (no_defer_of (by kernel_rfl)) rfl (by kernel_rfl) (by kernel_rfl) (by kernel_rfl) (fun _ _ _ h=>h) (Or.inl ⟨by rfl,fun ww hSw=>by (try dsimp only at hSw);obtain⟨q1,q2,q3,q4⟩:=hSw;go_simp⟩) (by assumption) ?_
   simp only[xX]
   refine wpAnyR_take (i:=8) (v:=(.pointer (some ⟨pb,4,.none⟩))) (no_defer_of (by kernel_rfl)) rfl (by kernel_rfl) (by kernel_rfl) (by kernel_rfl) (fun _ _ _ h=>h) (Or.inl ⟨by rfl,fun ww hSw=>by (try dsimp only at hSw);go_simp⟩) (by assumption) ?_
   simp only[xX]
   refine wpAnyR_take (i:=9) (v:=(.int .u64 e)) (no_defer_of (by kernel_rfl)) rfl (by kernel_rfl) (by kernel_rfl) (by kernel_rfl) (fun _ _ _ h=>h) (Or.inl ⟨by rfl,fun ww hSw=>by (try dsimp only at hSw);obtain⟨q1,q2,q3,q4⟩:=hSw;go_simp⟩) (by assumption) ?_
   simp only[xX]
   refine wpAnyR_call (i:=7) (no_defer_of (by kernel_rfl)) rfl (by kernel_rfl) (by rfl) (by go_simp) (c54 _) ?_
   rintro _ X ⟨rfl,rfl⟩
   refine⟨_,rfl,by assumption,?_⟩
   simp only[xX]
   refine wpAnyR_yield (i:=10) (l':=l) (args:=lvE (ext va,e)) (no_defer_of (by kernel_rfl)) rfl (by kernel_rfl) (by rfl) (fun r hr=>by go_simp;exact hr) (HY.out _ (lvl pre) (ext va,e) U.drew (HX.out.2.move _ _ _ HJ.out.1.1 (Mv.drew U)) ?hp) ?_
   case hp=>
    have:=HL.out.filterMap lvO
    rw[List.filterMap_append] at this
    exact this
   rintro e1 X hcase
   have hkp:KpG Good p b mm U.drew X:=by rcases hcase with⟨_,_,h⟩|⟨_,_,h⟩<;>exact h
   obtain⟨hI,gB,gP⟩:=HJ.out
   have gk:∀ k o,Good k U->U.heap[k]? = some o->X.heap[k]? = some o∧Good k X:=fun k o hk ho=>hkp.1 k o (HX.out.2.mono _ _ _ _ hI.1 (Mv.drew U) hk) ho
   have gs:∀ k,Good k U->k<U.heap.size->X.heap[k]? = U.heap[k]? ∧ Good k X:=fun k hk hl=>by
    have:=gk k _ hk (Array.getElem?_eq_getElem hl)
    exact⟨this.1.trans (Array.getElem?_eq_getElem hl).symm,this.2⟩
   have kX:X.cell? ⟨br,0,.none⟩=some (.int .u64 va)∧X.cell? ⟨pb,4,.none⟩=some (.int .u64 e)∧X.cell? ⟨pb,5,.none⟩=some (.int .i64 2)∧X.cell? ⟨W.heap.size,0,.none⟩=some (.func (.yield l) #[] #[]):=
    ⟨(World.cell?_of_block (a:=⟨br,0,.none⟩) (gs br gB (zC c1)).1).trans c1,(World.cell?_of_block (a:=⟨pb,4,.none⟩) (gs pb gP (zC c2)).1).trans c2,(World.cell?_of_block (a:=⟨pb,5,.none⟩) (gs pb gP (zC c3)).1).trans c3,(World.cell?_of_block (a:=⟨W.heap.size,0,.none⟩) (gs _ hI.2.1.1 (zC c4)).1).trans c4⟩
   have hlv:lvl (pre ++ [⟨va,lv,⟨a0,a1,a2,l2,e,2⟩⟩])=lvl pre ++ [(ext va,e)]:=by simp[lvl,lvO]
   have h2:Kp2 W3.heap.size U X:=fun k o hk ho _=>by
    rcases hk with rfl|rfl
    ·exact(gk _ o hI.2.1.2.1 ho).1
    ·exact(gk _ o hI.2.1.2.2 ho).1
   have hk3:KpG (fun k U=>Good k U∧k≠W.heap.size) p b mm U X:=⟨fun g o hg ho=>⟨(gk g o hg.1 ho).1,(gk g o hg.1 ho).2,hg.2⟩,hkp.2⟩
   have hgd:Good W.heap.size X∧Good W3.heap.size X∧Good (W3.heap.size+1) X:=⟨(gs _ hI.2.1.1 (zC c4)).2,(gs _ hI.2.1.2.1 (by omega)).2,(gs _ hI.2.1.2.2 hsz).2⟩
   rcases hcase with⟨rfl,hJ,_⟩|⟨rfl,hJ,_⟩
   ·have HE:Hid (Kp2 W3.heap.size U X∧KpG (fun k U=>Good k U∧k≠W.heap.size) p b mm U X∧LvI J Good l W.heap.size W3.heap.size (pre ++ [⟨va,lv,⟨a0,a1,a2,l2,e,2⟩⟩]) X):=⟨h2,hk3,by rw[hlv];exact hJ,hgd,kX.2.2.2⟩
    clear hkp hI gB gP gk gs hlv h2 hk3 hgd hJ HJ HL kS c1 c2 c3 c4
    refine⟨_,rfl,by assumption,?_⟩
    simp only[xX]
    refine wpAnyR_take (i:=11) (v:=(.bool false)) (no_defer_of (by kernel_rfl)) rfl (by kernel_rfl) (by kernel_rfl) (by kernel_rfl) (fun _ _ _ h=>h) (Or.inl ⟨by rfl,fun ww hSw=>by (try dsimp only at hSw);go_simp⟩) (by assumption) ?_
    simp only[xX]
    refine wpAnyR_take (i:=12) (v:=(.bool false)) (no_defer_of (by kernel_rfl)) rfl (by kernel_rfl) (by kernel_rfl) (by kernel_rfl) (fun _ _ _ h=>h) (Or.inl ⟨by rfl,fun ww hSw=>by (try dsimp only at hSw);go_simp⟩) (by assumption) ?_
    simp only[xX]
    refine wpAnyR_done (by kernel_rfl) ?_ _
    gi_wp2
    have h9:=HE.out
    rw[HZ.out.2.1] at h9
    exact h9
   ·have HE:Hid (Kp2 W3.heap.size U X∧LvX Jx Good W3.heap.size (pre ++ [⟨va,lv,⟨a0,a1,a2,l2,e,2⟩⟩]) X):=⟨h2,X,by rw[hlv];exact hJ,hgd.2,rfl,rfl,rfl,Nat.le_refl _,fun _ _ _=>rfl⟩
    clear hkp hI gB gP gk gs hlv h2 hk3 hgd hJ HJ HL kS c1 c2 c3 c4
    refine⟨_,rfl,by assumption,?_⟩
    simp only[xX]
    refine wpAnyR_take (i:=11) (v:=(.bool true)) (no_defer_of (by kernel_rfl)) rfl (by kernel_rfl) (by kernel_rfl) (by kernel_rfl) (fun _ _ _ h=>h) (Or.inl ⟨by rfl,fun ww hSw=>by (try dsimp only at hSw);go_simp⟩) (by assumption) ?_
    simp only[xX]
    refine wpAnyR_take (i:=12) (v:=(.bool true)) (no_defer_of (by kernel_rfl)) rfl (by kernel_rfl) (by kernel_rfl) (by kernel_rfl) (fun _ _ _ h=>h) (Or.inl ⟨by rfl,fun ww hSw=>by (try dsimp only at hSw);go_simp⟩) (by assumption) ?_
    simp only[xX]
    refine wpAnyR_done (by kernel_rfl) ?_ _
    gi_wp2
    have h9:=HE.out
    rw[HZ.out.2.1] at h9
    exact h9
  ·have kS:U.drew.cell? ⟨pb,5,.none⟩=some (.int .i64 k):=c3
   have hlv:lvl (pre ++ [⟨va,lv,⟨a0,a1,a2,l2,e,k⟩⟩])=lvl pre:=by simp[lvl,lvO,hk2]
   have HE:Hid (Kp2 W3.heap.size U U.drew∧KpG (fun k U=>Good k U∧k≠W.heap.size) p b mm U U.drew∧LvI J Good l W.heap.size W3.heap.size (pre ++ [⟨va,lv,⟨a0,a1,a2,l2,e,k⟩⟩]) U.drew):=by
    have hI:=HJ.out.1.mv HX.out.2 (Mv.drew U) rfl
    exact⟨fun k o _ ho _=>ho,⟨fun g o hg ho=>⟨ho,HX.out.2.mono _ _ _ _ HJ.out.1.1 (Mv.drew U) hg.1,hg.2⟩,rfl,rfl,rfl,Nat.le_refl _⟩,by rw[hlv];exact hI.1,hI.2⟩
   clear hlv HJ HL c1 c2 c3 c4
   gi_wp2
   refine wpIn_region_R (S:=fun X=>X.cell? ⟨pb,5,.none⟩=some (.int .i64 k)) (by kernel_rfl) ?_
   refine wpAnyR_take (i:=0) (v:=(.pointer (some ⟨pb,5,.none⟩))) (no_defer_of (by kernel_rfl)) rfl (by kernel_rfl) (by kernel_rfl) (by kernel_rfl) (fun _ _ _ h=>h) (Or.inl ⟨by rfl,fun ww hSw=>by (try dsimp only at hSw);go_simp⟩) (by assumption) ?_
   simp only[xX]
   refine wpAnyR_take (i:=1) (v:=(.int .i64 k)) (no_defer_of (by kernel_rfl)) rfl (by kernel_rfl) (by kernel_rfl) (by kernel_rfl) (fun _ _ _ h=>h) (Or.inl ⟨by rfl,fun ww hSw=>by (try dsimp only at hSw);go_simp⟩) (by assumption) ?_
   simp only[xX]
   refine wpAnyR_take (i:=2) (v:=(.bool false)) (no_defer_of (by kernel_rfl)) rfl (by kernel_rfl) (by kernel_rfl) (by kernel_rfl) (fun _ _ _ h=>h) (Or.inl ⟨by rfl,fun ww hSw=>by (try dsimp only at hSw);go_simp⟩) (by assumption) ?_
   simp only[xX]
   refine wpAnyR_take (i:=3) (v:=(.bool false)) (no_defer_of (by kernel_rfl)) rfl (by kernel_rfl) (by kernel_rfl) (by kernel_rfl) (fun _ _ _ h=>h) (Or.inl ⟨by rfl,fun ww hSw=>by (try dsimp only at hSw);go_simp⟩) (by assumption) ?_
   simp only[xX]
   refine wpAnyR_take (i:=4) (v:=undef) (no_defer_of (by kernel_rfl)) rfl (by kernel_rfl) (by kernel_rfl) (by kernel_rfl) (fun _ _ _ h=>h) (Or.inr ⟨by rfl,rfl⟩) (by assumption) ?_
   simp only[xX]
   refine wpAnyR_take (i:=5) (v:=undef) (no_defer_of (by kernel_rfl)) rfl (by kernel_rfl) (by kernel_rfl) (by kernel_rfl) (fun _ _ _ h=>h) (Or.inr ⟨by rfl,rfl⟩) (by assumption) ?_
   simp only[xX]
   refine wpAnyR_take (i:=6) (v:=undef) (no_defer_of (by kernel_rfl)) rfl (by kernel_rfl) (by kernel_rfl) (by kernel_rfl) (fun _ _ _ h=>h) (Or.inr ⟨by rfl,rfl⟩) (by assumption) ?_
   simp only[xX]
   refine wpAnyR_take (i:=7) (v:=undef) (no_defer_of (by kernel_rfl)) rfl (by kernel_rfl) (by kernel_rfl) (by kernel_rfl) (fun _ _ _ h=>h) (Or.inr ⟨by rfl,rfl⟩) (by assumption) ?_
   simp only[xX]
   refine wpAnyR_take (i:=8) (v:=undef) (no_defer_of (by kernel_rfl)) rfl (by kernel_rfl) (by kernel_rfl) (by kernel_rfl) (fun _ _ _ h=>h) (Or.inr ⟨by rfl,rfl⟩) (by assumption) ?_
   simp only[xX]
   refine wpAnyR_take (i:=9) (v:=undef) (no_defer_of (by kernel_rfl)) rfl (by kernel_rfl) (by kernel_rfl) (by kernel_rfl) (fun _ _ _ h=>h) (Or.inr ⟨by rfl,rfl⟩) (by assumption) ?_
   simp only[xX]
   refine wpAnyR_take (i:=10) (v:=undef) (no_defer_of (by kernel_rfl)) rfl (by kernel_rfl) (by kernel_rfl) (by kernel_rfl) (fun _ _ _ h=>h) (Or.inr ⟨by rfl,rfl⟩) (by assumption) ?_
   simp only[xX]
   refine wpAnyR_take (i:=11) (v:=undef) (no_defer_of (by kernel_rfl)) rfl (by kernel_rfl) (by kernel_rfl) (by kernel_rfl) (fun _ _ _ h=>h) (Or.inr ⟨by rfl,rfl⟩) (by assumption) ?_
   simp only[xX]
   refine wpAnyR_take (i:=12) (v:=(.bool false)) (no_defer_of (by kernel_rfl)) rfl (by kernel_rfl) (by kernel_rfl) (by kernel_rfl) (fun _ _ _ h=>h) (Or.inl ⟨by rfl,fun ww hSw=>by (try dsimp only at hSw);go_simp⟩) (by assumption) ?_
   simp only[xX]
   refine wpAnyR_done (by kernel_rfl) ?_ _
   gi_wp2
   have h9:=HE.out
   rw[HZ.out.2.1] at h9
   exact h9
end
end Rm
namespace Rm
open Go Go.RowKit Go.Shelf
attribute [local irreducible] eM
theorem ev_leaf {F:Nat->Option Nat} {lf:Nat->Nat->Int} {c:Nat} {x:Ev} (h:ev F lf c=some x) (hk:x.p.k=2):c%3=2∧x.va=vaP (c/3)∧x.p.e=lf (x0 (c/3)) (c/3%512)∧x.p.e≠0:=by
 unfold ev at h
 split at h
 ·split at h
  ·rw[Option.map_eq_some_iff] at h
   obtain⟨g,hg,rfl⟩:=h
   exact absurd (show (3:Int)=2 from hk) (by decide)
  ·cases h
 ·split at h
  ·split at h
   ·rw[Option.bind_eq_some_iff] at h
    obtain⟨g,hg,h⟩:=h
    rw[Option.map_eq_some_iff] at h
    obtain⟨q,hq,rfl⟩:=h
    exact absurd (show (3:Int)=2 from hk) (by decide)
   ·cases h
  ·rw[Option.bind_eq_some_iff] at h
   obtain⟨g,hg,h⟩:=h
   rw[Option.bind_eq_some_iff] at h
   obtain⟨q,hq,h⟩:=h
   split at h
   ·cases h
   ·rename_i h0 h1 hne
    injection h with h
    subst h
    exact⟨by omega,rfl,rfl,hne⟩
section
variable {N:Nat} {L:List Nat} {B:Nat->Int} {F:Nat->Option Nat} {lf:Nat->Nat->Int} {l:List Pg}
theorem ev_leaf_at (h:PT N L B F lf) (P:Nat) (hP:P<134217728) (hl:lf (x0 P) (P%512)≠0):∃ x,ev F lf (3*P+2)=some x∧x.p.k=2∧x.va=vaP P∧x.p.e=lf (x0 P) (P%512):=by
 obtain⟨g,q,h1,h0⟩:=h.way (vaP P) (by rw[vaP_y0 P hP,vaP_i0 P hP];exact hl)
 rw[vaP_y1 P hP] at h1
 rw[vaP_y0 P hP] at h0
 have e:ev F lf (3*P+2)=some ⟨vaP P,0,⟨st (ad q) (vaP P) 0,st (ad g) (vaP P) 1,st (ad (rtF F)) (vaP P) 2,0,lf (x0 P) (P%512),2⟩⟩:=by
  unfold ev
  rw[if_neg (by omega),if_neg (by omega),show (3*P+2)/3=P by omega,h1,h0]
  simp only[Option.bind_some]
  rw[if_neg hl]
 exact⟨_,e,rfl,rfl,rfl⟩
theorem TL.met (h:TL F lf l) (P:Nat) (hl:lf (x0 P) (P%512)≠0):∃ x∈l,x.1=vaP P∧lf (x0 P) (P%512)=toP x.2.1 x.2.2:=by
 obtain⟨x,hx,h1,h2⟩:=h.only (x0 P) (P%512) (by unfold x0;omega) (by omega) hl
 refine⟨x,hx,?_,by rw[h1,h2];exact h.leaf x hx⟩
 have hb:=(h.ok x hx).1
 rw[y0_val x.1 ⟨hb.1,hb.2.1⟩] at h1
 have e0:i0 x.1=(x.1/4096%512).toNat:=by
  unfold i0 ix
  rw[spn0]
 rw[e0] at h2
 unfold x0 at h1
 unfold vaP
 omega
theorem ext_low (va:Int) (h:0<=va∧va<274877906944):ext va=va:=by
 unfold ext
 rw[if_pos (by omega)]
 omega
structure LvS (l:List Pg) (ll:List (Int×Int)):Prop where
 len:ll.length=l.length
 mem:∀ y∈ll,∃ x∈l,y=(x.1,toP x.2.1 x.2.2)
 up:ll.Pairwise (fun a b=>a.1<b.1)
theorem cnt_pages (l:List Pg) (hok:∀ x∈l,0<=x.1∧x.1<274877906944∧x.1%4096=0) (hnd:l.Pairwise (fun a b=>a.1≠b.1)):cnt 402653184 (fun c=>decide (∃ x∈l,c=3*(x.1/4096).toNat+2))=l.length:=by
 induction l with
 |nil=>
  rw[cnt_ext (q:=fun _=>false) (fun v _=>by simp),cnt_zero]
  rfl
 |cons x l ih=>
  have hx:=hok x (by simp)
  rw[List.pairwise_cons] at hnd
  have:=ih (fun y hy=>hok y (by simp[hy])) hnd.2
  rw[cnt_add (v0:=3*(x.1/4096).toNat+2) (p:=fun c=>decide (∃ x∈l,c=3*(x.1/4096).toNat+2)) (by omega) ?_ ?_ ?_,this]
  ·rfl
  ·refine decide_eq_false ?_
   rintro⟨y,hy,e⟩
   have hy2:=hok y (by simp[hy])
   exact hnd.1 y hy (by omega)
  ·exact decide_eq_true ⟨x,by simp,rfl⟩
  ·intro v _ hv
   refine decide_eq_decide.2 ⟨?_,?_⟩
   ·rintro⟨y,hy,e⟩
    rcases List.mem_cons.1 hy with rfl|hy
    ·exact absurd e hv
    ·exact⟨y,hy,e⟩
   ·rintro⟨y,hy,e⟩
    exact⟨y,by simp[hy],e⟩
def lfo (F:Nat->Option Nat) (lf:Nat->Nat->Int) (c:Nat):Option (Int×Int):=(ev F lf c).bind lvO
theorem lvl_eq:lvl (evs F lf 0)=(List.range' 0 402653184).filterMap (lfo F lf):=by
 unfold lvl evs
 rw[List.filterMap_filterMap,eM_val]
 rfl
theorem lfo_some {c:Nat} {y:Int×Int} (h:lfo F lf c=some y):c%3=2∧y=(ext (vaP (c/3)),lf (x0 (c/3)) (c/3%512))∧lf (x0 (c/3)) (c/3%512)≠0:=by
 unfold lfo at h
 rw[Option.bind_eq_some_iff] at h
 obtain⟨x,hx,h⟩:=h
 unfold lvO at h
 split at h
 ·rename_i hk
  injection h with h
  obtain⟨h1,h2,h3,h4⟩:=ev_leaf hx hk
  rw[h2,h3] at h
  rw[h3] at h4
  exact⟨h1,h.symm,h4⟩
 ·cases h
theorem TL.lfo_iff (h:TL F lf l) (hP:PT N L B F lf) (c:Nat) (hc:c<402653184):(lfo F lf c).isSome=true↔∃ x∈l,c=3*(x.1/4096).toNat+2:=by
 constructor
 ·intro hs
  obtain⟨y,hy⟩:=Option.isSome_iff_exists.1 hs
  obtain⟨h1,_,h3⟩:=lfo_some hy
  obtain⟨x,hx,h4,_⟩:=h.met _ h3
  refine⟨x,hx,?_⟩
  rw[h4]
  unfold vaP
  omega
 ·rintro⟨x,hx,rfl⟩
  have hb:=(h.ok x hx).1
  obtain⟨P,hPe⟩:∃ P,P=(x.1/4096).toNat:=⟨_,rfl⟩
  rw[<-hPe]
  have hv:vaP P=x.1:=by unfold vaP;omega
  have hPl:P<134217728:=by omega
  have hl:=h.leaf x hx
  rw[<-hv,vaP_y0 P hPl,vaP_i0 P hPl] at hl
  obtain⟨y,hy,hk,_⟩:=ev_leaf_at hP P hPl (by rw[hl];exact(h.ok x hx).ne)
  unfold lfo
  rw[hy]
  simp[lvO,hk]
theorem TL.leaves (h:TL F lf l) (hP:PT N L B F lf) (hnd:l.Pairwise (fun a b=>a.1≠b.1)):LvS l (lvl (evs F lf 0)):=by
 have key:∀ c y,lfo F lf c=some y->c%3=2∧y.1=vaP (c/3)∧∃ x∈l,y=(x.1,toP x.2.1 x.2.2):=fun c y hy=>by
  obtain⟨h1,h2,h3⟩:=lfo_some hy
  obtain⟨x,hx,h4,h5⟩:=h.met _ h3
  have hb:=(h.ok x hx).1
  have e:ext (vaP (c/3))=x.1:=by rw[<-h4];exact ext_low _ ⟨hb.1,hb.2.1⟩
  rw[e,h5] at h2
  exact⟨h1,by rw[h2];exact h4,x,hx,h2⟩
 refine⟨?_,fun y hy=>?_,?_⟩
 ·rw[lvl_eq,List.length_filterMap_eq_countP]
  have:List.countP (fun c=>(lfo F lf c).isSome) (List.range' 0 402653184)=cnt 402653184 (fun c=>decide (∃ x∈l,c=3*(x.1/4096).toNat+2)):=by
   rw[<-cnt_ext (p:=fun c=>(lfo F lf c).isSome) (fun c hc=>?_)]
   ·unfold cnt
    rw[List.range_eq_range']
   ·have:=h.lfo_iff hP c hc
    by_cases hs:(lfo F lf c).isSome=true
    ·rw[hs];exact(decide_eq_true (this.1 hs)).symm
    ·rw[Bool.not_eq_true] at hs
     rw[hs];exact(decide_eq_false (fun e=>by rw[this.2 e] at hs;cases hs)).symm
  rw[this]
  exact cnt_pages l (fun x hx=>(h.ok x hx).1) hnd
 ·rw[lvl_eq] at hy
  obtain⟨c,_,hc⟩:=List.mem_filterMap.1 hy
  exact(key c y hc).2.2
 ·rw[lvl_eq]
  refine List.Pairwise.filterMap (R:=(· < ·)) _ (fun a a' hlt b hb b' hb'=>?_) List.pairwise_lt_range'
  obtain⟨a1,a2,_⟩:=key a b hb
  obtain⟨b1,b2,_⟩:=key a' b' hb'
  rw[a2,b2]
  unfold vaP
  omega
end
end Rm
namespace Rm
open Go Go.RowKit Go.Shelf
attribute [local go_sem] Oper.semAt_some
attribute [local irreducible] eM evs
theorem leaves_any (p:Nat) (root:Int) (w:World):Calls Tryz.prog 127 #[.pointer (some ⟨p,0,.none⟩),.int .u64 root] w fun e w'=>e = .returned (.func (.func 169) #[] #[.pointer (some ⟨w.heap.size,0,.none⟩),.pointer (some ⟨w.heap.size+1,0,.none⟩)])∧w'=(w.alloc (.cells #[.pointer (some ⟨p,0,.none⟩)] 27)).alloc (.cells #[.int .u64 root] 23):=by
 go_enter Tryz.func127,Tryz.ntmps127
 go_wp2
 go_ret
 exact⟨rfl,rfl⟩
theorem func_not_nil (X:Array Value) (V:World):Sem.run Tryz.prog (Go.binOp .eql 196 (.func (.func 169) #[] X) .nilFunc) V = .ok (.bool false) V:=by
 kernel_rfl
attribute [local go_sem] func_not_nil
theorem region_only {P:Program} {id:Nat} {ops:Array Oper} {Q:Exit->Act->World->Prop} {a:Act} {w:World} (h:(Code.region id ops true).wp P (fun e a w=>e = .normal∧Q .normal a w) a w):(Code.region id ops true).wp P Q a w:=
 wp_mono h (fun e a w h=>by obtain⟨rfl,h⟩:=h;exact h)
end Rm
namespace Rm
open Go Go.RowKit Go.Shelf
attribute [local irreducible] eM evs
theorem y_off (va o:Int) (hv:0<=va∧va<274877906944∧va%4096=0) (ho:0<=o∧o<4096):y0 (va+o)=y0 va∧i0 (va+o)=i0 va:=by
 have h1:ix (va+o) 0=ix va 0:=by unfold ix;rw[spn0];omega
 have h2:ix (va+o) 1=ix va 1:=by unfold ix;rw[spn1];omega
 have h3:ix (va+o) 2=ix va 2:=by unfold ix;rw[show spn 2=1073741824 from rfl];omega
 constructor
 ·unfold y0 y1 i1 i2
  rw[h2,h3]
 ·unfold i0
  rw[h1]
section
variable {w:World} {p b m N r:Nat} {B:Nat->Int} {L:List Nat} {F:Nat->Option Nat} {lf:Nat->Nat->Int} {l:List Pg}
theorem TL.none_at (h:TL F lf l) (va:Int) (hv:0<=va∧va<274877906944∧va%4096=0) (hn:∀ x∈l,x.1≠va):lf (y0 va) (i0 va)=0:=by
 by_cases hz:lf (y0 va) (i0 va)=0
 ·exact hz
 ·obtain⟨x,hx,h1,h2⟩:=h.only _ _ (y0_ge va) (i0_lt va) hz
  exact absurd (va_inj (h.ok x hx).1 hv h1.symm h2.symm) (hn x hx)
end
end Rm
namespace Rm
open Go Go.RowKit
structure SpU (W:World) (s p b m N r P:Nat) (size:Int) (B:Nat->Int) (L:List Nat) (F:Nat->Option Nat) (lf:Nat->Nat->Int) (fr:Nat->Nat) (c:Nat->Int):Prop where
 sp:Sp W s p (ad r) size
 sz:0<=size∧(size+4095)/4096=P
 pm:P<=4096
 ram:Ram W p b m N B L
 pt:PT N L B F lf
 rt:F 0=some r
 ne:s≠p∧s≠b∧s≠m
 pag:∀ i:Nat,i<P->Pag N L F lf ((i:Int)*4096) (fr i) (c i)
section
variable {W W':World} {s p b m N r P:Nat} {size:Int} {B:Nat->Int} {L:List Nat} {F:Nat->Option Nat} {lf:Nat->Nat->Int} {fr:Nat->Nat} {c:Nat->Int}
def btU (B:Nat->Int) (fr:Nat->Nat) (x:Nat):Int:=B (fr (x/4096)*4096+x%4096)
end
end Rm
end Go.Proofs.YtabnipbdbnmmpaaGreatDoor
