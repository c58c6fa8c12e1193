import Derived.Test.YtabnipbdbnmmpaaGreatDoorLd01
import Derived.Test.YtabnipbdbnmmpaaGreatDoorLd12
import Derived.RangeFuncWrites
import Derived.WalkKit
import Derived.OrdersIn
import Derived.Deep.RegionHeld3
import Derived.Maps.AppendAt
import Derived.Test.YtabnipbdbnmmpaaGreatDoorLd10
import Derived.Test.YtabnipbdbnmmpaaGreatDoorLd04
import Derived.Laws.AppendOwn
import Derived.Laws.OwnMore
import Derived.Below
import Derived.WalkSpells
import Derived.RowKit3
import Derived.Deep.Cut
import Derived.LoopTactic
import Derived.Laws.NewBlocks
import Derived.OwnWalk
import Derived.Test.YtabnipbdbnmmpaaGreatDoorLd08
import Derived.Deep.DeepCutAuto
set_option linter.unusedVariables false
set_option linter.unusedSimpArgs false
set_option maxHeartbeats 8000000
namespace Go.Proofs.YtabnipbdbnmmpaaGreatDoor
namespace Rm
open Go Go.RowKit Go.Shelf
attribute [local go_sem] Oper.semAt_some
attribute [local irreducible] eM evs
def KpG (Good:Nat->World->Prop) (p b mm:Nat) (W W':World):Prop:=(∀ g o,Good g W->W.heap[g]? = some o->W'.heap[g]? = some o∧Good g W')∧W'.heap[p]? = W.heap[p]? ∧ W'.heap[b]? = W.heap[b]? ∧ W'.heap[mm]? = W.heap[mm]? ∧ W.heap.size<=W'.heap.size
structure GdJ {α:Type} (Good:Nat->World->Prop) (J:List α -> World->Prop):Prop where
 move:∀ s W W',J s W->Mv Good W W'->J s W'
 mono:∀ s W W' g,J s W->Mv Good W W'->Good g W->Good g W'
 fresh:∀ s W W' g,J s W->Mv Good W W'->W.heap.size<=g->Good g W'
def SeqG {α:Type} (n g:Nat) (lb:Array Value) (encs:α -> Array Value) (L:List α) (p b mm:Nat) (w:World):Prop:=
 ∀ (l:Nat) (J Jx:List α -> World->Prop) (Good:Nat->World->Prop) (W:World),Below w.heap.size w W->GdJ Good J ->
  (∀ k pre x W1,J pre W1->pre ++ [x] <+: L->YieldAt Fence.wide k Tryz.prog l (encs x) W1 fun e W'=>(e = .returned (.bool true)∧J (pre ++ [x]) W'∧KpG Good p b mm W1 W')∨(e = .returned (.bool false)∧Jx (pre ++ [x]) W'))->J [] W ->
  CallsIn Fence.wide n Tryz.prog g (#[.func (.yield l) #[] #[]] ++ lb) W fun e W'=>(∃ v,e = .returned v)∧(J L W'∨∃ pre,pre <+: L∧Jx pre W')
section
variable {w:World} {p b mm N r:Nat} {B:Nat->Int} {L:List Nat} {F:Nat->Option Nat} {lf:Nat->Nat->Int}
set_option maxRecDepth 100000 in
theorem tour_seq (hR:Ram w p b mm N B L) (hP:PT N L B F lf) (hr:F 0=some r) (n z1 z2:Nat) (k1:w.cell? ⟨z1,0,.none⟩=some (.pointer (some ⟨p,0,.none⟩))) (k2:w.cell? ⟨z2,0,.none⟩=some (.int .u64 (ad r))) :
  SeqG n 192 #[.pointer (some ⟨z1,0,.none⟩),.pointer (some ⟨z2,0,.none⟩)] evE (evs F lf 0) p b mm w:=by
 intro l J Jx Good W hW gd hY h0
 have q1:=(hW.cell (zC k1)).trans k1
 have q2:=(hW.cell (zC k2)).trans k2
 obtain⟨W2,hW2⟩:∃ W2,W2=(W.alloc (.map #[] 0)).alloc (.cells #[.pointer (some ⟨p,0,.none⟩),.int .u64 (ad r),.int .u64 0,.map (some W.heap.size)] 261):=⟨_,rfl⟩
 have b2:Below W.heap.size W W2:=by rw[hW2];exact(zB.alloc zL _).alloc (by simp) _
 have hRW:=hR.below hW
 have t2:TS W2 (W.heap.size+1) p b mm N B L F r W.heap.size (fun _=>none) 0 0:=by
  refine⟨hRW.below b2,?_,?_,Nat.le_refl _,fun x f _ _=>rfl⟩
  ·rw[hW2]
   exact⟨by simp,by simp,by simp[vaP],by simp,by have:=World.frozen?_alloc_new (W.alloc (.map #[] 0)) #[.pointer (some ⟨p,0,.none⟩),.int .u64 (ad r),.int .u64 0,.map (some W.heap.size)] 261 2;rwa [World.size_alloc] at this⟩
  ·rw[hW2]
   exact(Tm.new W).below (zB.alloc zL _)
 have hpl:=hRW.mem.plt
 have hbl:=hRW.mem.blt
 have hml:=hRW.mem.mlt
 have cE:=each_in hP hr hR.mem.n2 hR.mem.bb (n-1) l J Jx Good (KpG Good p b mm) ⟨fun W W' g o hk hg ho=>hk.1 g o hg ho,gd.move,gd.mono,gd.fresh⟩ (fun W W' hk=>hk.2) hY W2 (W.heap.size+1) W.heap.size (fun _=>none) t2
  ⟨gd.fresh [] W W2 _ h0 (Mv.below b2) (by omega),gd.fresh [] W W2 _ h0 (Mv.below b2) zL,by omega⟩ (by omega) (gd.move _ _ _ h0 (Mv.below b2))
 have HC:Hid (CallsIn Fence.wide (n-1) Tryz.prog 193 #[.pointer (some ⟨W.heap.size+1,0,.none⟩),.func (.yield l) #[] #[]] W2 fun e W'=>(∃ v,e = .returned v)∧(J (evs F lf 0) W'∨∃ pre,pre <+: evs F lf 0∧Jx pre W')):=cE
 clear cE t2 b2 hRW hpl hbl hml hY gd h0 hR hP hr k1 k2 hW
 have hmk:(Instr.makeMap 259 none).run Tryz.prog W = .ok (.map (some W.heap.size)) (W.alloc (.map #[] 0)):=by kernel_rfl
 refine callsIn_of_wp Tryz.func192 rfl trivial ?_ rfl
 simp only[Tryz.ntmps192,List.size_toArray,List.length_cons,List.length_nil,Nat.reduceAdd,Nat.reduceSub,Array.replicate_succ,Array.replicate_zero,List.push_toArray,List.append_toArray,List.nil_append,List.cons_append]
 gi_wp2_with (refine⟨trivial,fun h=>(by cases h),?_⟩;gi_at_call 193;rw[hW2] at HC;refine HC.out.mono ?_;rintro e W3 ⟨⟨u,rfl⟩,hJJ⟩)
 go_end0
 exact⟨⟨_,rfl⟩,hJJ⟩
end
end Rm
namespace Rm
open Go Go.RowKit Go.Shelf
theorem range_G {n:Nat} {α:Type} {g:Operand} {ps:Array Tmp} {assign body:Code} {Q:Exit->Act->World->Prop} {a:Act} {w:World}
  (h1:1<=n) {gf:Nat} {lb:Array Value} (hg:a.eval g = .func (.func gf) #[] lb) (eg:∀ args w,(callFunc gf args).run Tryz.prog w = .ok (.enter gf args) w)
  {encs:α -> Array Value} {L:List α} {w0:World} {p b mm:Nat} (hb0:Below w0.heap.size w0 w) (hseq:SeqG (n-1) gf lb encs L p b mm w0) (hpb:p<w.heap.size∧b<w.heap.size∧mm<w.heap.size)
  (hps:∀ x,(encs x).size=ps.size) (I:List α -> World->Prop) (Good:Nat->World->Prop) (hI:OwnFrom w.heap.size I) (gd:GdJ Good I)
  (hgp:∀ k W l o o',Good k W->k≠l->w.heap.size<=l->W.heap[l]? = some o->o.isCells=false->Good k (W.putObj l o'))
  (h0:I [] w) (Ax:α -> Act->World->Prop) (hAx:∀ x a' W l o o',Ax x a' W->w.heap.size<=l->W.heap[l]? = some o->o.isCells=false->Ax x a' (W.putObj l o'))
  (hassign:∀ (l:Nat) (x:α) (W:World) (K:Act->World->Prop),w.heap.size<=W.heap.size->(∀ a' W',Below W.heap.size W W'->Ax x a' W'->K a' W') ->
   assign.wpIn (Fence.wide.inRound l) (n-1-1) Tryz.prog (Exit.then K (fun _ _ _=>False)) { tmps:=(ps.zip (encs x)).foldl (fun t (p,v)=>t.setIfInBounds p v) a.tmps,defers:=[] } W)
  (hbody:∀ (l:Nat) (pre:List α) (x:α) (a':Act) (W:World),I pre W->Ax x a' W->pre ++ [x] <+: L->body.wpIn (Fence.wide.inRound l) (n-1-1) Tryz.prog (fun e _ W'=>e = .normal∧KeepsFrom w.heap.size W W'∧KpG Good p b mm W W'∧I (pre ++ [x]) W') a' W)
  (hdone:∀ (D:Nat) (W:World),w.heap.size<=D->I L W->W.heap[D]? = some (.deferred (some []))->Q .normal { a with defers:={ target:=.collected D,args:=#[] } :: a.defers } W) :
  (Code.rangeFunc g ps assign body).wpIn Fence.wide n Tryz.prog Q a w:=by
 refine wpIn_rangeFunc fun fn hfn=>?_
 rw[show Fence.wide.round=none from rfl]
 let rec':LoopState->Option Code->Loop:=fun st pe=>{ state:=st,pending:=pe,fn:=fn,tmps:=a.tmps,params:=ps,assign:=assign,body:=body,defers:=w.heap.size }
 obtain⟨V,hV⟩:∃ V,(w.alloc (.deferred (some []))).alloc (.loop (rec' .ready none))=V:=⟨_,rfl⟩
 have hVs:V.heap.size=w.heap.size+2:=by rw[<-hV];simp
 have vL:V.heap[w.heap.size+1]? = some (.loop (rec' .ready none)):=by
  rw[<-hV];simpa using World.alloc_heap_new (w.alloc (.deferred (some []))) (.loop (rec' .ready none))
 have vD:V.heap[w.heap.size]? = some (.deferred (some [])):=by
  rw[<-hV];exact(Below.heap_alloc _ _ _ (by simp)).trans (World.alloc_heap_new w _)
 have vI:I [] V:=by rw[<-hV];exact hI.alloc _ (hI.alloc _ h0)
 have vB:Below w.heap.size w V:=by rw[<-hV];exact((Below.refl _ w).alloc zL _).alloc (by simp) _
 refine⟨w.heap.size+1,[{ target:=.collected w.heap.size,args:=#[] }],V,{ target:=.fn (.func gf) lb,args:=#[.func (.yield (w.heap.size+1)) #[] #[]] },V,gf,#[.func (.yield (w.heap.size+1)) #[] #[]] ++ lb,V,?_,?_,?_,?_,fun _=>h1,?_⟩
 ·rw[<-hV];exact run_enterLoop_outer _ _ _ _ _
 ·simp only[resolve,hg];simp[go_sem]
 ·intro f' hf';exact trivial
 ·simp[invoke,go_sem,eg]
 have gdJ:GdJ (fun k W=>Good k W∧k≠w.heap.size∧k≠w.heap.size+1) (fun pre W=>I pre W∧W.heap[w.heap.size+1]? = some (.loop (rec' .ready none))∧W.heap[w.heap.size]? = some (.deferred (some []))):=by
  have low:∀ W W',Mv (fun k W=>Good k W∧k≠w.heap.size∧k≠w.heap.size+1) W W'->Mv Good W W':=fun W W' h=>⟨h.os,h.tape,h.output,h.size,fun k hk hn=>h.block k hk (fun e=>hn e.1)⟩
  refine⟨fun s W W' hs hm=>⟨gd.move s W W' hs.1 (low _ _ hm),?_,?_⟩,fun s W W' k hs hm hk=>⟨gd.mono s W W' k hs.1 (low _ _ hm) hk.1,hk.2⟩,fun s W W' k hs hm hk=>⟨gd.fresh s W W' k hs.1 (low _ _ hm) hk,?_,?_⟩⟩
  ·exact(hm.block _ (Array.getElem?_eq_some_iff.1 hs.2.1).1 (fun e=>e.2.2 rfl)).trans hs.2.1
  ·exact(hm.block _ (Array.getElem?_eq_some_iff.1 hs.2.2).1 (fun e=>e.2.1 rfl)).trans hs.2.2
  ·have:=(Array.getElem?_eq_some_iff.1 hs.2.2).1;omega
  ·have:=(Array.getElem?_eq_some_iff.1 hs.2.1).1;omega
 refine(hseq (w.heap.size+1) _ (fun _ _=>False) _ V (hb0.trans (vB.mono hb0.size)) gdJ ?_ ⟨vI,vL,vD⟩).mono ?_
 ·rintro k pre x W ⟨hi,hl,hk⟩ hlen
  have hlt:w.heap.size+1<W.heap.size:=(Array.getElem?_eq_some_iff.1 hl).1
  refine yield_anyT rfl k (m:=n-1-1) ⟨fn,_,assign,body,run_yield (P:=Tryz.prog) (args:=encs x) hl (hps x),roundIn_of_wpIn hfn (hassign _ x W _ (by omega) (fun a' W1 hb1 hax=>?_))⟩
  have hi1:I pre W1:=hI pre W W1 none hi ⟨hb1.os,hb1.tape,hb1.output,hb1.size,fun k hk _=>hb1.block k hk⟩ (fun r e=>by cases e)
  have hl1:W1.heap[w.heap.size+1]? = some (.loop (rec' .ready none)):=(hb1.block _ hlt).trans hl
  have hk1:W1.heap[w.heap.size]? = some (.deferred (some [])):=(hb1.block _ (by omega)).trans hk
  have hlt1:w.heap.size+1<W1.heap.size:=(Array.getElem?_eq_some_iff.1 hl1).1
  refine⟨_,run_beginRound hl1 rfl,?_⟩
  refine wpIn_mono (hbody _ pre x a' _ (hI.putObj _ hi1 (by omega) hl1 rfl) (hAx _ _ _ _ _ _ hax (by omega) hl1 rfl) hlen) ?_
  rintro e a3 W3 ⟨rfl,hk3,hkp,hi3⟩
  have hl3:=hk3.same (w.heap.size+1) _ (by omega) (World.putObj_heap_same hlt1) rfl
  have hd3:=hk3.same w.heap.size _ zL ((World.putObj_heap_other (by omega)).trans hk1) rfl
  refine⟨_,_,run_endRound (P:=Tryz.prog) none hl3,.inl ⟨rfl,⟨hI.putObj _ hi3 (by omega) hl3 rfl,World.putObj_heap_same (Array.getElem?_eq_some_iff.1 hl3).1,(World.putObj_heap_other (by omega)).trans hd3⟩,?_⟩⟩
  have sz:∀ (X:World) (l:Nat) (o:Obj),(X.putObj l o).heap.size=X.heap.size:=fun X l o=>by simp[World.putObj]
  refine⟨fun q o hq ho=>?_,?_,?_,?_,?_⟩
  ·have hql:q<W.heap.size:=(Array.getElem?_eq_some_iff.1 ho).1
   have g1:Good q W1:=gd.mono pre W W1 q hi (Mv.below hb1) hq.1
   have o1:W1.heap[q]? = some o:=(hb1.block q hql).trans ho
   have g2:=hgp q W1 _ _ (.loop { rec' .ready none with state:=.busy }) g1 hq.2.2 (by omega) hl1 rfl
   have o2:(W1.putObj (w.heap.size+1) (.loop { rec' .ready none with state:=.busy })).heap[q]? = some o:=(World.putObj_heap_other hq.2.2).trans o1
   obtain⟨o3,g3⟩:=hkp.1 q o g2 o2
   exact⟨(World.putObj_heap_other hq.2.2).trans o3,hgp q W3 _ _ _ g3 hq.2.2 (by omega) hl3 rfl,hq.2⟩
  ·rw[World.putObj_heap_other (by omega),hkp.2.1,World.putObj_heap_other (by omega)];exact hb1.block _ (by omega)
  ·rw[World.putObj_heap_other (by omega),hkp.2.2.1,World.putObj_heap_other (by omega)];exact hb1.block _ (by omega)
  ·rw[World.putObj_heap_other (by omega),hkp.2.2.2.1,World.putObj_heap_other (by omega)];exact hb1.block _ (by omega)
  ·rw[sz]
   have:=hkp.2.2.2.2
   rw[sz] at this
   exact Nat.le_trans hb1.size this
 ·rintro e W2 ⟨⟨v,rfl⟩,⟨hi,hl,hk⟩|⟨_,_,hf⟩⟩
  ·exact⟨none,_,run_endLoop (P:=Tryz.prog) hl (by simp[rec']),hdone _ _ zL (hI.putObj _ hi (by omega) hl rfl) ((World.putObj_heap_other (by omega)).trans hk)⟩
  ·exact hf.elim
end Rm
namespace Rm
open Go Go.RowKit Go.Shelf
section
variable {l n:Nat} {P:Program} {Q:Exit->Act->World->Prop} {ops:Array Oper} {md:Region.Mode}
theorem rowsIn_round {row:String} {args:Array Value} {w:World} {R:Value->World->Prop} (h:Rows P row args w R):RowsIn (Fence.wide.inRound l) n P row args w R:=
 fun c cs _=>let ⟨v,w',r,s⟩:=h c cs;⟨v,w',r,stepsIn_wide.2 s⟩
theorem uponIn_of_upon {o:Oper} {a:Act} {next:Act->World->Prop} {r:Result Next} (h:o.upon P a next Q r):o.uponIn (Fence.wide.inRound l) n P a next Q r:=by
 cases r with
 |ok x w'=>
  cases x with
  |value v=>exact h
  |skip=>exact h
  |defer d=>exact h
  |enter f args=>exact⟨fun e=>(by cases e),CallsIn.inRound l (callsIn_wide.2 h)⟩
  |row row args=>exact⟨fun e=>(by cases e),rowsIn_round h⟩
  |_=>exact h.elim
 |halt hh w'=>
  cases hh with
  |panic v=>exact h
  |_=>exact h.elim
theorem wpOpIn_of_wpOp {i:Nat} {K:Act->World->Prop} {a:Act} {w:World} (hd:∀ (i:Nat) (o:Oper),ops[i]? = some o -> ∀ c:Call,o.op≠Op.defer c) (hL:¬ LetsOut Q) (h:wpOp P ops Q i K a w):wpOpIn (Fence.wide.inRound l) n P ops Q i K a w:=by
 unfold wpOp at h
 unfold wpOpIn
 cases hi:ops[i]? with
 |none=>rw[hi] at h;exact h
 |some o=>
  rw[hi] at h
  simp only at h ⊢
  split at h
  ·rename_i hw
   rw[if_pos hw]
   rcases h with h|h
   ·refine⟨fun f _=>trivial,?_⟩
    have:=uponIn_of_upon (l:=l) (n:=n) h
    rw[show (Fence.wide.inRound l).round=some l from rfl,Oper.semAt_some l _ o (hd i o hi)]
    exact this
   ·exact absurd h.2 hL
  ·rename_i hw
   rw[if_neg hw]
   exact⟨fun f _=>trivial,h⟩
theorem wpOp_mono' {i:Nat} {K K':Act->World->Prop} {a:Act} {w:World} (hk:∀ a w,K a w->K' a w) (h:wpOpIn (Fence.wide.inRound l) n P ops Q i K a w):wpOpIn (Fence.wide.inRound l) n P ops Q i K' a w:=wpOpIn_mono hk h
theorem wpAnyIn_of_wpAny (hd:∀ (i:Nat) (o:Oper),ops[i]? = some o -> ∀ c:Call,o.op≠Op.defer c) (hL:¬ LetsOut Q):∀ (fuel:Nat) (listed:Array Bool) (a:Act) (w:World),wpAny P md ops Q fuel listed a w->wpAnyIn (Fence.wide.inRound l) n P md ops Q fuel listed a w
 |0,listed,a,w,h=>h
 |fuel+1,listed,a,w,h=>⟨h.1,fun i hi=>wpOp_mono' (fun a w=>wpAnyIn_of_wpAny hd hL fuel _ a w) (wpOpIn_of_wpOp hd hL (h.2 i hi))⟩
theorem wpIn_region_held {id:Nat} {S:World->Prop} {a:Act} {w:World} (hm:P.follows .mixedOrders=true) (hd:∀ (i:Nat) (o:Oper),ops[i]? = some o -> ∀ c:Call,o.op≠Op.defer c) (hL:¬ LetsOut Q) (hS:S w.drew)
  (h:S w.drew->wpAnyH P .any ops Q S ops.size (Array.replicate ops.size false) a w.drew):(Code.region id ops true).wpIn (Fence.wide.inRound l) n P Q a w:=
 wpIn_region_any hm (wpAnyIn_of_wpAny hd hL _ _ _ _ (wpAny_of_held _ _ _ _ (h hS)))
theorem no_defer_of (h:(ops.all fun o=>match o.op with|Op.defer _=>false|_=>true)=true):∀ (i:Nat) (o:Oper),ops[i]? = some o -> ∀ c:Call,o.op≠Op.defer c:=fun i o hi c e=>by
 have hlt:i<ops.size:=(Array.getElem?_eq_some_iff.1 hi).1
 have:=Array.all_eq_true.1 h i hlt
 rw[(Array.getElem?_eq_some_iff.1 hi).2,e] at this
 cases this
end
theorem step_append_at {P:Program} {ops:Array Oper} {o:Oper} {a:Act} {w:World} {K:Act->World->Prop} {Q:Exit->Act->World->Prop} {E:Prop} (hgd:o.guard=none) (s x:Operand) (t:TypeId)
  (hop:o.op = .call { callee:=.builtin .append,args:=#[s,x],argTypes:=#[t,t] }) (base:Nat) (e:TypeId) (i:TypeInfo) (z:Value) (size bytes:Nat) (ht:P.underlying t=some (.slice e)) (hi:P.info? e=some i) (hz:i.zero=some z)
  (hsize:i.size=size) (hby:i.bytes=bytes) (hzs:z.cells.size=size) (hsz:0<size) (v:Value) (k:Nat) (xs:List Value) (hs:a.eval s=v) (hown:w.ownsRow base e size v k xs)
  (ad:Addr) (m c:Nat) (news:List Value) (hx:a.eval x = .slice (some ad) m c) (hl:news.length=m*size) (hnews:∀ j u,news[j]? = some u->w.cell? (ad.add j)=some u) (h1:∀ u∈news,u.oneCell'=true)
  (h63:k+m<=maxLen) (hbytes:(k+m)*bytes<=140737488355328) (hbase:base<=w.heap.size)
  (h:∀ v' w',w'.ownsRow base e size v' (k+m) (xs ++ news)->w.grownBy w' v.ownBlock->(v'.ownBlock=v.ownBlock∨v'.ownBlock=some w.heap.size)->K (a.put o.dst v') w'):if Region.wanted o (yielded ops a.tmps)=true then Oper.wp P o a w K Q else E:=by
 have hw:Region.wanted o (yielded ops a.tmps)=true:=by simp[Region.wanted,hgd]
 rw[if_pos hw]
 obtain⟨v',w',hrun,r1,r2,_,r4⟩:=run_append_own_at (P:=P) w base t o.type e i z size bytes ht hi hz hsize hby hzs hsz v k xs hown ad m c news hl hnews h1 h63 hbytes hbase
 unfold Oper.wp
 simp[execOp,hop,resolve,invoke,builtin,hs,hx,hrun,Result.andThen]
 exact h v' w' r1 r2 r4
theorem toured_any (p:Nat) (root:Int) (w:World):Calls Tryz.prog 166 #[.pointer (some ⟨p,0,.none⟩),.int .u64 root] w fun e w'=>e = .returned (.func (.func 192) #[] #[.pointer (some ⟨w.heap.size,0,.none⟩),.pointer (some ⟨w.heap.size+1,0,.none⟩)])∧w'=(w.alloc (.cells #[.pointer (some ⟨p,0,.none⟩)] 27)).alloc (.cells #[.int .u64 root] 23):=by
 go_enter Tryz.func166,Tryz.ntmps166
 go_wp2
 go_ret
 exact⟨rfl,rfl⟩
def ndl (r:Nat) (pre:List Ev):List Int:=ad r :: pre.filterMap (fun x=>if x.p.k=3 then some (adE x.p.e) else none)
end Rm
namespace Rm
open Go Go.RowKit Go.Shelf
attribute [local go_sem] Oper.semAt_some
attribute [local irreducible] eM evs
theorem info_of (t:TypeId) (k b:Nat) (h1:(Tryz.prog.info? t).map (fun i=>(i.size,i.bytes))=some (k,b)) (h2:((Tryz.prog.info? t).bind (·.zero)).map (·.cells.size)=some k) :
  ∃ i z,Tryz.prog.info? t=some i∧i.zero=some z∧i.size=k∧i.bytes=b∧z.cells.size=k:=by
 cases hi:Tryz.prog.info? t with
 |none=>rw[hi] at h1;cases h1
 |some i=>
  rw[hi] at h1 h2
  simp only[Option.map_some,Option.some.injEq,Prod.mk.injEq,Option.bind_some] at h1 h2
  cases hz:i.zero with
  |none=>rw[hz] at h2;cases h2
  |some z=>
   rw[hz] at h2
   exact⟨i,z,rfl,hz,h1.1,h1.2,by simpa using h2⟩
theorem word_info:∃ i z,Tryz.prog.info? 23=some i∧i.zero=some z∧i.size=1∧i.bytes=8∧z.cells.size=1:=info_of 23 1 8 (by kernel_rfl) (by kernel_rfl)
def wv (l:List Int):List Value:=l.map (Value.int .u64)
theorem own_block {w w':World} {X e k n c g:Nat} {xs:List Value} (h:w.ownsRow X e k (.slice (some ⟨g,0,.none⟩) n c) n xs) (hb:w'.heap[g]? = w.heap[g]?):w'.ownsRow X e k (.slice (some ⟨g,0,.none⟩) n c) n xs:=by
 refine⟨h.1,?_⟩
 rcases h.2 with⟨hv,_⟩|⟨g',cap,cur,hv,h1,h2,h3⟩
 ·cases hv
 ·refine .inr ⟨g',cap,cur,hv,h1,?_,h3⟩
  injection hv with e1 e2 e3
  injection e1 with e1
  injection e1 with e1
  subst e1
  exact hb.trans h2
theorem own_lt {w:World} {X e k n c g:Nat} {xs:List Value} (h:w.ownsRow X e k (.slice (some ⟨g,0,.none⟩) n c) n xs):X<=g∧g<w.heap.size∧∃ cur t f,w.heap[g]? = some (.cells cur t f):=by
 rcases h.2 with⟨hv,_⟩|⟨g',cap,cur,hv,h1,h2,h3⟩
 ·cases hv
 ·injection hv with e1 e2 e3
  injection e1 with e1
  injection e1 with e1
  subst e1
  exact⟨h1,(Array.getElem?_eq_some_iff.1 h2).1,_,_,_,h2⟩
structure NdI (w0:World) (p b mm N:Nat) (B:Nat->Int) (L:List Nat) (r Bn:Nat) (pre:List Ev) (W:World):Prop where
 ram:Ram W p b mm N B L
 bel:Below w0.heap.size w0 W
 row:∃ g c,W.cell? ⟨Bn,0,.none⟩=some (.slice (some ⟨g,0,.none⟩) (ndl r pre).length c)∧W.ownsRow w0.heap.size 23 1 (.slice (some ⟨g,0,.none⟩) (ndl r pre).length c) (ndl r pre).length (wv (ndl r pre))∧g≠Bn
 frz:W.frozen? ⟨Bn,0,.none⟩=false
def NdG (w0:World) (Bn:Nat) (k:Nat) (W:World):Prop:=w0.heap.size<=k∧k≠Bn∧∀ g n c,W.cell? ⟨Bn,0,.none⟩=some (.slice (some ⟨g,0,.none⟩) n c)->k≠g
section
variable {w0 w:World} {p b mm N r Bn:Nat} {B:Nat->Int} {L:List Nat}
theorem NdI.keep {pre:List Ev} {W W':World} (h:NdI w0 p b mm N B L r Bn pre W) (hlow:∀ k,k<w0.heap.size->W'.heap[k]? = W.heap[k]?) (hB:W'.heap[Bn]? = W.heap[Bn]?) (hg:∀ g n c,W.cell? ⟨Bn,0,.none⟩=some (.slice (some ⟨g,0,.none⟩) n c)->W'.heap[g]? = W.heap[g]?) (hp:p<w0.heap.size∧b<w0.heap.size∧mm<w0.heap.size) (h1:W'.os=W.os) (h2:W'.tape=W.tape) (h3:W'.output=W.output) (h4:W.heap.size<=W'.heap.size):NdI w0 p b mm N B L r Bn pre W':=by
 obtain⟨g,c,k1,k2,k3⟩:=h.row
 refine⟨⟨h.ram.mem.keep (hlow p hp.1) (hlow b hp.2.1) (hlow mm hp.2.2),h.ram.nd,h.ram.lt,h.ram.thr⟩,⟨h1.trans h.bel.os,h2.trans h.bel.tape,h3.trans h.bel.output,Nat.le_trans h.bel.size h4,fun k hk=>(hlow k hk).trans (h.bel.block k hk)⟩,⟨g,c,(World.cell?_of_block (a:=⟨Bn,0,.none⟩) hB).trans k1,own_block k2 (hg g _ _ k1),k3⟩,(World.frozen?_of_block (a:=⟨Bn,0,.none⟩) hB).trans h.frz⟩
theorem NdI.gd (hp:p<w0.heap.size∧b<w0.heap.size∧mm<w0.heap.size):GdJ (NdG w0 Bn) (NdI w0 p b mm N B L r Bn):=by
 have cellB:∀ W W',Mv (NdG w0 Bn) W W'->Bn<W.heap.size->W'.heap[Bn]? = W.heap[Bn]?:=fun W W' hm hl=>hm.block Bn hl (fun e=>e.2.1 rfl)
 have lt:∀ s W,NdI w0 p b mm N B L r Bn s W->Bn<W.heap.size:=fun s W h=>by obtain⟨g,c,k1,_⟩:=h.row;exact zC k1
 refine⟨fun s W W' hs hm=>?_,fun s W W' k hs hm hk=>⟨hk.1,hk.2.1,fun g n c hc=>?_⟩,fun s W W' k hs hm hk=>⟨Nat.le_trans hs.bel.size hk,?_,fun g n c hc=>?_⟩⟩
 ·refine hs.keep (fun k hk=>hm.block k (Nat.lt_of_lt_of_le hk hs.bel.size) (fun e=>by have:=e.1;omega)) (cellB W W' hm (lt s W hs)) (fun g n c hc=>?_) hp hm.os hm.tape hm.output hm.size
  obtain⟨g',c',k1,k2,k3⟩:=hs.row
  rw[k1] at hc
  simp only[Option.some.injEq,Value.slice.injEq,Addr.mk.injEq,and_true] at hc
  obtain⟨rfl,_,_⟩:=hc
  exact hm.block _ (own_lt k2).2.1 (fun e=>e.2.2 _ _ _ k1 rfl)
 ·rw[World.cell?_of_block (a:=⟨Bn,0,.none⟩) (cellB W W' hm (lt s W hs))] at hc
  exact hk.2.2 g n c hc
 ·have:=lt s W hs;omega
 ·rw[World.cell?_of_block (a:=⟨Bn,0,.none⟩) (cellB W W' hm (lt s W hs))] at hc
  obtain⟨g',c',k1,k2,k3⟩:=hs.row
  rw[k1] at hc
  simp only[Option.some.injEq,Value.slice.injEq,Addr.mk.injEq,and_true] at hc
  obtain⟨rfl,_,_⟩:=hc
  have:=(own_lt k2).2.1
  omega
theorem NdI.own (hp:p<w0.heap.size∧b<w0.heap.size∧mm<w0.heap.size) (hw:w0.heap.size<=w.heap.size∧Bn<w.heap.size):OwnFrom w.heap.size (NdI w0 p b mm N B L r Bn):=by
 intro s W W' row hs hg hr
 have key:∀ k,k<W.heap.size->(k<w.heap.size∨∃ cur t f,W.heap[k]? = some (.cells cur t f))->W'.heap[k]? = W.heap[k]?:=fun k hk hor=>hg.block k hk (fun e=>by
  obtain⟨h1,o,ho,hc⟩:=hr k e.symm
  rcases hor with h|⟨cur,t,f,h⟩
  ·omega
  ·rw[h] at ho
   injection ho with ho
   subst ho
   cases hc)
 obtain⟨g',c',k1,k2,k3⟩:=hs.row
 refine hs.keep (fun k hk=>key k (Nat.lt_of_lt_of_le hk hs.bel.size) (.inl (by omega))) (key Bn (zC k1) (.inl hw.2)) (fun g n c hc=>?_) hp hg.os hg.tape hg.output hg.size
 rw[k1] at hc
 simp only[Option.some.injEq,Value.slice.injEq,Addr.mk.injEq,and_true] at hc
 obtain⟨rfl,_,_⟩:=hc
 have h5:=own_lt k2
 exact key _ h5.2.1 (.inr h5.2.2)
end
theorem evs_mem {F:Nat->Option Nat} {lf:Nat->Nat->Int} {c:Nat} {x:Ev} (h:x∈evs F lf c):∃ j,ev F lf j=some x:=by
 unfold evs at h
 obtain⟨j,_,hj⟩:=List.mem_filterMap.1 h
 exact⟨j,hj⟩
theorem evs_len (F:Nat->Option Nat) (lf:Nat->Nat->Int):(evs F lf 0).length<=402653184:=by
 unfold evs
 refine Nat.le_trans (List.length_filterMap_le _ _) ?_
 rw[List.length_range',eM_val]
 omega
theorem ev_b {N:Nat} {L:List Nat} {B:Nat->Int} {F:Nat->Option Nat} {lf:Nat->Nat->Int} (h:PT N L B F lf) (hN:N<=4096) {j:Nat} {x:Ev} (hx:ev F lf j=some x):0<=x.p.e∧x.p.e<18446744073709551616:=by
 unfold ev at hx
 split at hx
 ·split at hx
  ·rw[Option.map_eq_some_iff] at hx
   obtain⟨g,hg,rfl⟩:=hx
   exact toPb g N (h.held _ _ hg).2.1 hN
  ·cases hx
 ·split at hx
  ·split at hx
   ·rw[Option.bind_eq_some_iff] at hx
    obtain⟨g,hg,hx⟩:=hx
    rw[Option.map_eq_some_iff] at hx
    obtain⟨q,hq,rfl⟩:=hx
    exact toPb q N (h.held _ _ hq).2.1 hN
   ·cases hx
  ·rw[Option.bind_eq_some_iff] at hx
   obtain⟨g,hg,hx⟩:=hx
   rw[Option.bind_eq_some_iff] at hx
   obtain⟨q,hq,hx⟩:=hx
   split at hx
   ·cases hx
   ·injection hx with hx
    subst hx
    rcases h.lv (x0 (j/3)) (j/3%512) with e|⟨_,e1,e2⟩
    ·rename_i hne;exact absurd e hne
    ·exact⟨e1,e2⟩
theorem C6.keep {W W':World} {P:Nat} {x0 x1 x2 x3 x4 x5:Value} (h:C6 W P x0 x1 x2 x3 x4 x5) (e:W'.heap[P]? = W.heap[P]?):C6 W' P x0 x1 x2 x3 x4 x5:=
 ⟨(World.cell?_of_block (a:=⟨P,0,.none⟩) e).trans h.c0,(World.cell?_of_block (a:=⟨P,1,.none⟩) e).trans h.c1,(World.cell?_of_block (a:=⟨P,2,.none⟩) e).trans h.c2,(World.cell?_of_block (a:=⟨P,3,.none⟩) e).trans h.c3,(World.cell?_of_block (a:=⟨P,4,.none⟩) e).trans h.c4,(World.cell?_of_block (a:=⟨P,5,.none⟩) e).trans h.c5,
  (World.frozen?_of_block (a:=⟨P,0,.none⟩) e).trans h.f0,(World.frozen?_of_block (a:=⟨P,1,.none⟩) e).trans h.f1,(World.frozen?_of_block (a:=⟨P,2,.none⟩) e).trans h.f2,(World.frozen?_of_block (a:=⟨P,3,.none⟩) e).trans h.f3,(World.frozen?_of_block (a:=⟨P,4,.none⟩) e).trans h.f4,(World.frozen?_of_block (a:=⟨P,5,.none⟩) e).trans h.f5⟩
theorem cells_of {W:World} {P i:Nat} {v:Value} (h:W.cell? ⟨P,i,.none⟩=some v) {o:Obj} (ho:W.heap[P]? = some o):o.isCells=true:=by
 unfold World.cell? at h
 simp only[ho] at h
 cases o<;>first|rfl|simp at h
section
variable {w0:World} {p b mm N r Bn:Nat} {B:Nat->Int} {L:List Nat}
theorem NdI.step {pre:List Ev} {x:Ev} {W W1 V:World} {Y g c g' c' n:Nat} (hI:NdI w0 p b mm N B L r Bn pre W) (k1:W.cell? ⟨Bn,0,.none⟩=some (.slice (some ⟨g,0,.none⟩) n c)) (k2:W.ownsRow w0.heap.size 23 1 (.slice (some ⟨g,0,.none⟩) n c) n (wv (ndl r pre))) (k3:g≠Bn) (b1:Below W.heap.size W W1)
  (own':V.ownsRow w0.heap.size 23 1 (.slice (some ⟨g',0,.none⟩) (ndl r (pre ++ [x])).length c') (ndl r (pre ++ [x])).length (wv (ndl r (pre ++ [x])))) (grow:W1.grownBy V (some g)) (hg':g'=g∨g'=W1.heap.size) (hBn:w0.heap.size<=Bn) (hp:p<w0.heap.size∧b<w0.heap.size∧mm<w0.heap.size) :
  KeepsFrom Y W (V.setCell ⟨Bn,0,.none⟩ (.slice (some ⟨g',0,.none⟩) (ndl r (pre ++ [x])).length c'))∧KpG (NdG w0 Bn) p b mm W (V.setCell ⟨Bn,0,.none⟩ (.slice (some ⟨g',0,.none⟩) (ndl r (pre ++ [x])).length c'))∧NdI w0 p b mm N B L r Bn (pre ++ [x]) (V.setCell ⟨Bn,0,.none⟩ (.slice (some ⟨g',0,.none⟩) (ndl r (pre ++ [x])).length c')):=by
 have hBl:Bn<W.heap.size:=zC k1
 obtain⟨hg0,hgl,cur,t,f,hgc⟩:=own_lt k2
 have hs1:=b1.size
 have hs2:=grow.size
 obtain⟨v',hv'⟩:∃ v',v'=Value.slice (some ⟨g',0,.none⟩) (ndl r (pre ++ [x])).length c':=⟨_,rfl⟩
 rw[<-hv'] at own' ⊢
 have kV:∀ k,k<W.heap.size->k≠g->V.heap[k]? = W.heap[k]?:=fun k hk hg=>(grow.block k (by omega) (by simp;exact hg)).trans (b1.block k hk)
 have kk:∀ k,k<W.heap.size->k≠g->k≠Bn->(V.setCell ⟨Bn,0,.none⟩ v').heap[k]? = W.heap[k]?:=fun k hk hg hb=>(Below.heap_setCell V ⟨Bn,0,.none⟩ v' k hb).trans (kV k hk hg)
 have sz:(V.setCell ⟨Bn,0,.none⟩ v').heap.size=V.heap.size:=by simp
 have hcB:(V.setCell ⟨Bn,0,.none⟩ v').cell? ⟨Bn,0,.none⟩=some v':=World.cell?_setCell_same' _ _ _ (by rw[World.cell?_of_block (a:=⟨Bn,0,.none⟩) (kV Bn hBl (Ne.symm k3)),k1];rfl)
 refine⟨⟨by omega,fun k o _ hk ho=>?_⟩,⟨fun k o hk ho=>⟨?_,hk.1,hk.2.1,fun g2 n2 c2 h2=>?_⟩,?_,?_,?_,by omega⟩,?_⟩
 ·have hkl:k<W.heap.size:=(Array.getElem?_eq_some_iff.1 hk).1
  refine(kk k hkl (fun e=>?_) (fun e=>?_)).trans hk
  ·subst e;rw[hgc] at hk;injection hk with hk;subst hk;cases ho
  ·subst e;have:=cells_of k1 hk;rw[ho] at this;cases this
 ·exact(kk k (Array.getElem?_eq_some_iff.1 ho).1 (hk.2.2 g n c k1) hk.2.1).trans ho
 ·rw[hcB,hv'] at h2
  simp only[Option.some.injEq,Value.slice.injEq,Addr.mk.injEq,and_true] at h2
  obtain⟨rfl,_,_⟩:=h2
  have hkl:k<W.heap.size:=(Array.getElem?_eq_some_iff.1 ho).1
  rcases hg' with e|e
  ·rw[e];exact hk.2.2 g n c k1
  ·omega
 ·exact kk p (by have:=hI.bel.size;omega) (by omega) (by omega)
 ·exact kk b (by have:=hI.bel.size;omega) (by omega) (by omega)
 ·exact kk mm (by have:=hI.bel.size;omega) (by omega) (by omega)
 ·have hbs:=hI.bel.size
  have low:∀ k,k<w0.heap.size->(V.setCell ⟨Bn,0,.none⟩ v').heap[k]? = W.heap[k]?:=fun k hk=>kk k (by omega) (by omega) (by omega)
  have hgB:g'≠Bn:=by
   rcases hg' with e|e
   ·rw[e];exact k3
   ·omega
  refine⟨⟨hI.ram.mem.keep (low p hp.1) (low b hp.2.1) (low mm hp.2.2),hI.ram.nd,hI.ram.lt,hI.ram.thr⟩,⟨grow.os.trans (b1.os.trans hI.bel.os),grow.tape.trans (b1.tape.trans hI.bel.tape),grow.output.trans (b1.output.trans hI.bel.output),by omega,fun k hk=>(low k hk).trans (hI.bel.block k hk)⟩,⟨g',c',by rw[hcB,hv'],?_,hgB⟩,?_⟩
  ·rw[hv'] at own'
   exact own_block own' (Below.heap_setCell V ⟨Bn,0,.none⟩ v' g' hgB)
  ·rw[World.frozen?_setCell]
   exact(World.frozen?_of_block (a:=⟨Bn,0,.none⟩) (kV Bn hBl (Ne.symm k3))).trans hI.frz
end
set_option maxRecDepth 100000 in
theorem nodes_any {w:World} {p b mm N r:Nat} {B:Nat->Int} {L:List Nat} {F:Nat->Option Nat} {lf:Nat->Nat->Int} (hR:Ram w p b mm N B L) (hP:PT N L B F lf) (hr:F 0=some r) :
  Calls Tryz.prog 125 #[.pointer (some ⟨p,0,.none⟩),.int .u64 (ad r)] w fun e w'=>∃ g c,e = .returned (.slice (some ⟨g,0,.none⟩) (ndl r (evs F lf 0)).length c)∧w'.ownsRow w.heap.size 23 1 (.slice (some ⟨g,0,.none⟩) (ndl r (evs F lf 0)).length c) (ndl r (evs F lf 0)).length (wv (ndl r (evs F lf 0)))∧Below w.heap.size w w':=by
 have hrb:0<=ad r∧ad r<18446744073709551616:=by have h1:=hP.held 0 r hr;have h2:=hR.mem.n2;unfold ad;omega
 have c42:=isNode_any hR (ad r) hrb
 rw[hP.ndB hr] at c42
 have HR:Hid (Ram w p b mm N B L∧PT N L B F lf∧F 0=some r):=⟨hR,hP,hr⟩
 clear hR hP hr
 refine(callsIn_wide (n:=3)).1 ?_
 refine callsIn_of_wp_marks Tryz.func125 rfl trivial ?_ rfl
 refine wpIn_wide.2 ?_
 simp only[Tryz.ntmps125,List.size_toArray,List.length_cons,List.length_nil,Nat.reduceAdd,Nat.reduceSub,Array.replicate_succ,Array.replicate_zero,List.push_toArray,List.append_toArray,List.nil_append,List.cons_append]
 go_upto_region 4 with(go_at_call 159;refine c42.mono ?_;rintro _ w1 ⟨rfl,b1⟩;have H1:Hid (Below w.heap.size w w1):=b1;clear b1 c42)
 obtain⟨W2,hW2⟩:∃ W2,W2=(w1.alloc (.cells #[.int .u64 (ad r)] 23)).alloc (.cells #[.slice (some ⟨w1.heap.size,0,.none⟩) 1 1] 133):=⟨_,rfl⟩
 obtain⟨W3,hW3⟩:∃ W3,W3=(W2.alloc (.cells #[.pointer (some ⟨p,0,.none⟩)] 27)).alloc (.cells #[.int .u64 (ad r)] 23):=⟨_,rfl⟩
 have b2:Below w.heap.size w W2:=by rw[hW2];exact(H1.out.alloc H1.out.size _).alloc (by simp only[World.size_alloc];have:=H1.out.size;omega) _
 have b3:Below W2.heap.size W2 W3:=by rw[hW3];exact(zB.alloc zL _).alloc (by simp) _
 have hs2:W2.heap.size=w1.heap.size+2:=by rw[hW2];simp
 have hs3:W3.heap.size=W2.heap.size+2:=by rw[hW3];simp
 have q1:W3.cell? ⟨W2.heap.size,0,.none⟩=some (.pointer (some ⟨p,0,.none⟩)):=by rw[hW3];simp
 have q2:W3.cell? ⟨W2.heap.size+1,0,.none⟩=some (.int .u64 (ad r)):=by rw[hW3];simp
 have hpw:p<w.heap.size∧b<w.heap.size∧mm<w.heap.size:=⟨HR.out.1.mem.plt,HR.out.1.mem.blt,HR.out.1.mem.mlt⟩
 have hsz1:=H1.out.size
 have hI2:NdI w p b mm N B L r (w1.heap.size+1) [] W2:=by
  refine⟨HR.out.1.below b2,b2,⟨w1.heap.size,1,?_,?_,by omega⟩,?_⟩
  ·rw[hW2];simp[ndl]
  ·rw[hW2]
   refine⟨by simp[wv,ndl],.inr ⟨w1.heap.size,1,#[.int .u64 (ad r)],rfl,hsz1,?_,by simp[ndl],by decide,?_⟩⟩
   ·rw[Below.heap_alloc _ _ _ (by simp)]
    exact World.alloc_heap_new _ _
   ·simp[ndl,wv]
  ·rw[hW2]
   have:=World.frozen?_alloc_new (w1.alloc (.cells #[.int .u64 (ad r)] 23)) #[.slice (some ⟨w1.heap.size,0,.none⟩) 1 1] 133 0
   rwa [World.size_alloc] at this
 have hI3:NdI w p b mm N B L r (w1.heap.size+1) [] W3:=(NdI.gd hpw).move _ _ _ hI2 (Mv.below b3)
 have c45:=toured_any p (ad r) W2
 rw[<-hW3] at c45
 have hseq:=fun n=>tour_seq (HR.out.1.below (b2.trans (b3.mono b2.size))) HR.out.2.1 HR.out.2.2 n _ _ q1 q2
 have HS:Hid ((∀ n,SeqG n 192 #[.pointer (some ⟨W2.heap.size,0,.none⟩),.pointer (some ⟨W2.heap.size+1,0,.none⟩)] evE (evs F lf 0) p b mm W3)∧NdI w p b mm N B L r (w1.heap.size+1) [] W3∧(p<w.heap.size∧b<w.heap.size∧mm<w.heap.size)∧w.heap.size<=W3.heap.size∧w1.heap.size+1<W3.heap.size∧w.heap.size<=w1.heap.size):=⟨hseq,hI3,hpw,by omega,by omega,hsz1⟩
 rw[<-hW2]
 clear hW2 hW3 b2 b3 hs2 hs3 q1 q2 hpw hsz1 hI2 hI3 hseq
 have HBN0:Hid (w.heap.size<=w1.heap.size+1):=by have:=HS.out.2.2.2.2.2;exact Nat.le_succ_of_le this
 generalize w1.heap.size+1=Bn at *
 generalize W2.heap.size=z1 at *
 go_wp2_with (go_at_call 166;refine c45.mono ?_;rintro _ w4 ⟨rfl,e4⟩;obtain rfl:W3=w4:=e4.symm)
 have HBN:Hid (w.heap.size<=Bn):=HBN0
 refine(wpIn_wide (n:=3)).1 (range_G (α:=Ev) (by omega) (gf:=192) (lb:=#[.pointer (some ⟨z1,0,.none⟩),.pointer (some ⟨z1+1,0,.none⟩)]) rfl (enters_of Tryz.func192 (by kernel_rfl) rfl) zB (HS.out.1 2) (by have:=HS.out.2.2;omega) (fun _=>rfl)
  (NdI w p b mm N B L r Bn) (NdG w Bn) (NdI.own HS.out.2.2.1 ⟨HS.out.2.2.2.1,HS.out.2.2.2.2.1⟩) (NdI.gd HS.out.2.2.1) (fun k W l o o' hk hkl hl ho hc=>⟨hk.1,hk.2.1,fun g n c h=>hk.2.2 g n c (by
   have hBl:Bn≠l:=by have:=HS.out.2.2.2.2.1;omega
   rw[World.cell?_of_block (a:=⟨Bn,0,.none⟩) (World.putObj_heap_other hBl)] at h
   exact h)⟩) HS.out.2.1
  (fun x a' W=>∃ pb,a' = { tmps:=#[.pointer (some ⟨p,0,.none⟩),.int .u64 (ad r),undef,undef,.slice none 0 0,.pointer (some ⟨Bn,0,.none⟩),undef,.pointer (some ⟨pb,0,.none⟩),.pointer (some ⟨p,0,.none⟩),.int .u64 (ad r),.bool true,.bool false,.int .u64 (ad r),.slice (some ⟨w1.heap.size,0,.none⟩) 1 1,.pointer (some ⟨p,0,.none⟩),.int .u64 (ad r),.func (.func 192) #[] #[.pointer (some ⟨z1,0,.none⟩),.pointer (some ⟨z1+1,0,.none⟩)],.agg #[.int .u64 x.va,.int .i64 x.l],x.p.val,undef,undef,undef,undef,undef,undef,undef,undef,undef,undef],defers:=[] } ∧ C6 W pb (.int .u64 x.p.a0) (.int .u64 x.p.a1) (.int .u64 x.p.a2) (.int .i64 x.p.l) (.int .u64 x.p.e) (.int .i64 x.p.k)∧W3.heap.size<=pb) ?ax ?assign ?body ?done)
 case ax=>
  rintro x a' W l o o' ⟨pb,h1,h2,h3⟩ hl ho hc
  have hne:pb≠l:=fun e=>by
   subst e
   have:=cells_of h2.c0 ho
   rw[hc] at this
   cases this
  exact⟨pb,h1,h2.keep (World.putObj_heap_other hne),h3⟩
 case assign=>
  intro l x W K hW hK
  simp only[evE,Pt.val]
  gi_wp2
  exact hK _ _ (below1 W _) ⟨W.heap.size,rfl,C6.new W _ _ _ _ _ _ 169,hW⟩
 case body=>
  rintro l pre x a' W hI ⟨pb,rfl,C,hpb⟩ hlen
  obtain⟨va,lv,⟨a0,a1,a2,l2,e,k⟩⟩:=x
  simp only[Pt.val] at C ⊢
  have z4:=C.c4
  have z5:=C.c5
  by_cases hk:k=3
  ·subst hk
   have hxm:(⟨va,lv,⟨a0,a1,a2,l2,e,3⟩⟩:Ev)∈evs F lf 0:=hlen.subset (by simp)
   obtain⟨j9,hj9⟩:=evs_mem hxm
   have heb:0<=e∧e<18446744073709551616:=ev_b HR.out.2.1 HR.out.1.mem.n2 hj9
   have c46:=fun W=>address_any e W heb
   have hplen:pre.length<=402653184:=by
    have h1:=hlen.length_le
    have h2:=evs_len F lf
    simp at h1
    omega
   have hnl:(ndl r pre).length<=402653185:=by
    unfold ndl
    have:=List.length_filterMap_le (fun x:Ev=>if x.p.k=3 then some (adE x.p.e) else none) pre
    simp only[List.length_cons]
    omega
   have hnd:ndl r (pre ++ [⟨va,lv,⟨a0,a1,a2,l2,e,3⟩⟩])=ndl r pre ++ [adE e]:=by simp[ndl,List.filterMap_append]
   obtain⟨g,c,k1,k2,k3⟩:=hI.row
   obtain⟨nn,hnn⟩:∃ nn,nn=(ndl r pre).length:=⟨_,rfl⟩
   rw[<-hnn] at k1 k2 hnl
   obtain⟨i3,z3,hi3,hz3,hs3,hb3,hzs3⟩:=word_info
   obtain⟨ae,hae⟩:∃ ae,ae=adE e:=⟨_,rfl⟩
   rw[<-hae] at c46 hnd
   obtain⟨V1,hV1⟩:∃ V1,V1=(W.alloc (.cells #[.int .u64 ae] 23)).drew:=⟨_,rfl⟩
   have bV1:Below W.heap.size W V1:=by rw[hV1];exact(below1 W _).drew
   have cV1:V1.cell? ⟨W.heap.size,0,.none⟩=some (.int .u64 ae):=by rw[hV1];show (W.alloc _).cell? _=_;simp
   have kS:W.drew.cell? ⟨pb,4,.none⟩=some (.int .u64 e):=z4
   have kS1:V1.cell? ⟨pb,4,.none⟩=some (.int .u64 e):=(bV1.cell (zC z4)).trans z4
   have kB:W.drew.cell? ⟨Bn,0,.none⟩=some (.slice (some ⟨g,0,.none⟩) nn c):=k1
   have kB1:V1.cell? ⟨Bn,0,.none⟩=some (.slice (some ⟨g,0,.none⟩) nn c):=(bV1.cell (zC k1)).trans k1
   have ownV:V1.ownsRow w.heap.size 23 1 (.slice (some ⟨g,0,.none⟩) nn c) nn (wv (ndl r pre)):=own_block k2 (bV1.block g (own_lt k2).2.1)
   have HST:Hid (∀ V g' c',V.ownsRow w.heap.size 23 1 (.slice (some ⟨g',0,.none⟩) (nn+1) c') (nn+1) (wv (ndl r pre) ++ [.int .u64 ae])->V1.grownBy V (some g)->(g'=g∨g'=V1.heap.size)->KeepsFrom W3.heap.size W (V.setCell ⟨Bn,0,.none⟩ (.slice (some ⟨g',0,.none⟩) (nn+1) c'))∧KpG (NdG w Bn) p b mm W (V.setCell ⟨Bn,0,.none⟩ (.slice (some ⟨g',0,.none⟩) (nn+1) c'))∧NdI w p b mm N B L r Bn (pre ++ [⟨va,lv,⟨a0,a1,a2,l2,e,3⟩⟩]) (V.setCell ⟨Bn,0,.none⟩ (.slice (some ⟨g',0,.none⟩) (nn+1) c'))):=fun V g' c' ho hg hor=>by
    have el:(ndl r (pre ++ [⟨va,lv,⟨a0,a1,a2,l2,e,3⟩⟩])).length=nn+1:=by rw[hnd,hnn];simp
    have ew:wv (ndl r (pre ++ [⟨va,lv,⟨a0,a1,a2,l2,e,3⟩⟩]))=wv (ndl r pre) ++ [.int .u64 ae]:=by rw[hnd];simp[wv]
    have:=hI.step (x:=⟨va,lv,⟨a0,a1,a2,l2,e,3⟩⟩) (Y:=W3.heap.size) (g':=g') (c':=c') (V:=V) k1 k2 k3 bV1 (by rw[el,ew];exact ho) hg hor HBN.out HS.out.2.2.1
    rw[el] at this
    exact this
   have hsW:V1.heap.size=W.heap.size+1:=by rw[hV1];show (W.alloc _).heap.size=_;simp
   have hwW:=hI.bel.size
   have hBne:∀ V:World,V1.grownBy V (some g)->V.cell? ⟨Bn,0,.none⟩=some (.slice (some ⟨g,0,.none⟩) nn c)∧V.frozen? ⟨Bn,0,.none⟩=false∧V.cell? ⟨pb,4,.none⟩=V.cell? ⟨pb,4,.none⟩:=fun V hg=>by
    have hb:=hg.block Bn (zC kB1) (by simp;exact Ne.symm k3)
    exact⟨(World.cell?_of_block (a:=⟨Bn,0,.none⟩) hb).trans kB1,(World.frozen?_of_block (a:=⟨Bn,0,.none⟩) hb).trans ((bV1.frozen (p:=⟨Bn,0,.none⟩) (zC k1)).trans hI.frz),rfl⟩
   have HBE:Hid (∀ V:World,V1.grownBy V (some g)->V.cell? ⟨Bn,0,.none⟩=some (.slice (some ⟨g,0,.none⟩) nn c)∧V.frozen? ⟨Bn,0,.none⟩=false∧V.cell? ⟨pb,4,.none⟩=V.cell? ⟨pb,4,.none⟩):=hBne
   have HOV:Hid (V1.ownsRow w.heap.size 23 1 (.slice (some ⟨g,0,.none⟩) nn c) nn (wv (ndl r pre))):=ownV
   have HV1:Hid (V1=(W.alloc (.cells #[.int .u64 ae] 23)).drew):=hV1
   clear hI k1 k2 hnd hxm hj9 hlen hplen hBne ownV hV1 hae C hnn
   gi_wp2
   refine wpIn_region_held (S:=(fun _:World=>True)) (by kernel_rfl) (no_defer_of (by kernel_rfl)) (fun hL=>by obtain⟨_,_,hL⟩:=hL;first|exact hL|(obtain⟨h,_⟩:=hL;cases h)) trivial (fun hHeld=>?_)
   refine aT 1 (.pointer (some ⟨pb,4,.none⟩)) rfl ?_
   simp only[xX]
   refine wpAnyH_ready (rs:=[0,2]) (by kernel_rfl) (by simp) ?_
   refine AllReadyH.cons rfl (fun K hK=>?_) (AllReadyH.cons rfl (fun K hK=>?_) AllReadyH.nil)
   ·skip
    go_simp
    refine hK.out _ _ trivial (fun hHeld=>?_)
    clear hK K
    try simp only[xX]
    refine zR 2 rfl (fun K hK=>?_)
    go_simp
    refine hK.out _ _ trivial (fun hHeld=>?_)
    clear hK K
    try simp only[xX]
    refine zR 3 rfl (fun K hK=>?_)
    go_simp
    go_at_call 56
    refine(c46 _).mono ?_
    rintro _ W4 ⟨rfl,e4⟩
    obtain rfl:W.drew=W4:=e4.symm
    refine hK.out _ _ trivial (fun hHeld=>?_)
    clear hK K
    try simp only[xX]
    refine zR 4 rfl (fun K hK=>?_)
    go_simp
    rw[<-HV1.out]
    refine hK.out _ _ trivial (fun hHeld=>?_)
    clear hK K
    try simp only[xX]
    refine zR 5 rfl (fun K hK=>?_)
    refine step_append_at rfl (.tmp 22) (.tmp 26) 133 rfl w.heap.size 23 i3 z3 1 8 Tryz.underlying133 hi3 hz3 hs3 hb3 hzs3 (by decide) (.slice (some ⟨g,0,.none⟩) nn c) nn (wv (ndl r pre)) (by simp[Act.eval,Act.put]) HOV.out ⟨W.heap.size,0,.none⟩ 1 1 [.int .u64 ae] (by simp[Act.eval,Act.put]) rfl (fun j u hj=>by cases j with|zero=>simp at hj;subst hj;exact cV1|succ j=>simp at hj) (fun u hu=>by simp at hu;subst hu;rfl) (by simp only[maxLen];omega) (by omega) (by omega) ?_
    intro v' V own' grow fb
    obtain⟨g',c',rfl⟩:∃ g' c',v' = .slice (some ⟨g',0,.none⟩) (nn+1) c':=by
     rcases own'.2 with⟨_,h0⟩|⟨g',cap,cur,hv,_⟩
     ·omega
     ·exact⟨g',cap,hv⟩
    have hor:g'=g∨g'=V1.heap.size:=by
     rcases fb with h|h
     ·left;simpa [Value.ownBlock] using h
     ·right;simpa [Value.ownBlock] using h
    have HP9:=HST.out V g' c' own' grow hor
    obtain⟨v1,v2,_⟩:=HBE.out V grow
    clear own' grow fb
    refine hK.out _ _ trivial (fun hHeld=>?_)
    clear hK K
    try simp only[xX]
    refine zR 6 rfl (fun K hK=>?_)
    go_simp
    refine hK.out _ _ trivial (fun hHeld=>?_)
    clear hK K
    try simp only[xX]
    refine wpAnyH_done (by kernel_rfl) ?_ _
    have HP8:Hid _:=HP9
    clear HP9 v1 v2
    gi_wp2
    exact HP8.out
   ·skip
    go_simp
    refine hK.out _ _ trivial (fun hHeld=>?_)
    clear hK K
    try simp only[xX]
    refine wpAnyH_ready (rs:=[0,3]) (by kernel_rfl) (by simp) ?_
    refine AllReadyH.cons rfl (fun K hK=>?_) (AllReadyH.cons rfl (fun K hK=>?_) AllReadyH.nil)
    ·skip
     go_simp
     refine hK.out _ _ trivial (fun hHeld=>?_)
     clear hK K
     try simp only[xX]
     refine zR 3 rfl (fun K hK=>?_)
     go_simp
     go_at_call 56
     refine(c46 _).mono ?_
     rintro _ W4 ⟨rfl,e4⟩
     obtain rfl:W.drew=W4:=e4.symm
     refine hK.out _ _ trivial (fun hHeld=>?_)
     clear hK K
     try simp only[xX]
     refine zR 4 rfl (fun K hK=>?_)
     go_simp
     rw[<-HV1.out]
     refine hK.out _ _ trivial (fun hHeld=>?_)
     clear hK K
     try simp only[xX]
     refine zR 5 rfl (fun K hK=>?_)
     refine step_append_at rfl (.tmp 22) (.tmp 26) 133 rfl w.heap.size 23 i3 z3 1 8 Tryz.underlying133 hi3 hz3 hs3 hb3 hzs3 (by decide) (.slice (some ⟨g,0,.none⟩) nn c) nn (wv (ndl r pre)) (by simp[Act.eval,Act.put]) HOV.out ⟨W.heap.size,0,.none⟩ 1 1 [.int .u64 ae] (by simp[Act.eval,Act.put]) rfl (fun j u hj=>by cases j with|zero=>simp at hj;subst hj;exact cV1|succ j=>simp at hj) (fun u hu=>by simp at hu;subst hu;rfl) (by simp only[maxLen];omega) (by omega) (by omega) ?_
     intro v' V own' grow fb
     obtain⟨g',c',rfl⟩:∃ g' c',v' = .slice (some ⟨g',0,.none⟩) (nn+1) c':=by
      rcases own'.2 with⟨_,h0⟩|⟨g',cap,cur,hv,_⟩
      ·omega
      ·exact⟨g',cap,hv⟩
     have hor:g'=g∨g'=V1.heap.size:=by
      rcases fb with h|h
      ·left;simpa [Value.ownBlock] using h
      ·right;simpa [Value.ownBlock] using h
     have HP9:=HST.out V g' c' own' grow hor
     obtain⟨v1,v2,_⟩:=HBE.out V grow
     clear own' grow fb
     refine hK.out _ _ trivial (fun hHeld=>?_)
     clear hK K
     try simp only[xX]
     refine zR 6 rfl (fun K hK=>?_)
     go_simp
     refine hK.out _ _ trivial (fun hHeld=>?_)
     clear hK K
     try simp only[xX]
     refine wpAnyH_done (by kernel_rfl) ?_ _
     have HP8:Hid _:=HP9
     clear HP9 v1 v2
     gi_wp2
     exact HP8.out
    ·skip
     go_simp
     go_at_call 56
     refine(c46 _).mono ?_
     rintro _ W4 ⟨rfl,e4⟩
     obtain rfl:W.drew=W4:=e4.symm
     refine hK.out _ _ trivial (fun hHeld=>?_)
     clear hK K
     try simp only[xX]
     refine wpAnyH_ready (rs:=[0,4]) (by kernel_rfl) (by simp) ?_
     refine AllReadyH.cons rfl (fun K hK=>?_) (AllReadyH.cons rfl (fun K hK=>?_) AllReadyH.nil)
     ·skip
      go_simp
      refine hK.out _ _ trivial (fun hHeld=>?_)
      clear hK K
      try simp only[xX]
      refine zR 4 rfl (fun K hK=>?_)
      go_simp
      rw[<-HV1.out]
      refine hK.out _ _ trivial (fun hHeld=>?_)
      clear hK K
      try simp only[xX]
      refine zR 5 rfl (fun K hK=>?_)
      refine step_append_at rfl (.tmp 22) (.tmp 26) 133 rfl w.heap.size 23 i3 z3 1 8 Tryz.underlying133 hi3 hz3 hs3 hb3 hzs3 (by decide) (.slice (some ⟨g,0,.none⟩) nn c) nn (wv (ndl r pre)) (by simp[Act.eval,Act.put]) HOV.out ⟨W.heap.size,0,.none⟩ 1 1 [.int .u64 ae] (by simp[Act.eval,Act.put]) rfl (fun j u hj=>by cases j with|zero=>simp at hj;subst hj;exact cV1|succ j=>simp at hj) (fun u hu=>by simp at hu;subst hu;rfl) (by simp only[maxLen];omega) (by omega) (by omega) ?_
      intro v' V own' grow fb
      obtain⟨g',c',rfl⟩:∃ g' c',v' = .slice (some ⟨g',0,.none⟩) (nn+1) c':=by
       rcases own'.2 with⟨_,h0⟩|⟨g',cap,cur,hv,_⟩
       ·omega
       ·exact⟨g',cap,hv⟩
      have hor:g'=g∨g'=V1.heap.size:=by
       rcases fb with h|h
       ·left;simpa [Value.ownBlock] using h
       ·right;simpa [Value.ownBlock] using h
      have HP9:=HST.out V g' c' own' grow hor
      obtain⟨v1,v2,_⟩:=HBE.out V grow
      clear own' grow fb
      refine hK.out _ _ trivial (fun hHeld=>?_)
      clear hK K
      try simp only[xX]
      refine zR 6 rfl (fun K hK=>?_)
      go_simp
      refine hK.out _ _ trivial (fun hHeld=>?_)
      clear hK K
      try simp only[xX]
      refine wpAnyH_done (by kernel_rfl) ?_ _
      have HP8:Hid _:=HP9
      clear HP9 v1 v2
      gi_wp2
      exact HP8.out
     ·skip
      go_simp
      rw[<-HV1.out]
      refine hK.out _ _ trivial (fun hHeld=>?_)
      clear hK K
      try simp only[xX]
      refine zR 0 rfl (fun K hK=>?_)
      go_simp
      refine hK.out _ _ trivial (fun hHeld=>?_)
      clear hK K
      try simp only[xX]
      refine zR 5 rfl (fun K hK=>?_)
      refine step_append_at rfl (.tmp 22) (.tmp 26) 133 rfl w.heap.size 23 i3 z3 1 8 Tryz.underlying133 hi3 hz3 hs3 hb3 hzs3 (by decide) (.slice (some ⟨g,0,.none⟩) nn c) nn (wv (ndl r pre)) (by simp[Act.eval,Act.put]) HOV.out ⟨W.heap.size,0,.none⟩ 1 1 [.int .u64 ae] (by simp[Act.eval,Act.put]) rfl (fun j u hj=>by cases j with|zero=>simp at hj;subst hj;exact cV1|succ j=>simp at hj) (fun u hu=>by simp at hu;subst hu;rfl) (by simp only[maxLen];omega) (by omega) (by omega) ?_
      intro v' V own' grow fb
      obtain⟨g',c',rfl⟩:∃ g' c',v' = .slice (some ⟨g',0,.none⟩) (nn+1) c':=by
       rcases own'.2 with⟨_,h0⟩|⟨g',cap,cur,hv,_⟩
       ·omega
       ·exact⟨g',cap,hv⟩
      have hor:g'=g∨g'=V1.heap.size:=by
       rcases fb with h|h
       ·left;simpa [Value.ownBlock] using h
       ·right;simpa [Value.ownBlock] using h
      have HP9:=HST.out V g' c' own' grow hor
      obtain⟨v1,v2,_⟩:=HBE.out V grow
      clear own' grow fb
      refine hK.out _ _ trivial (fun hHeld=>?_)
      clear hK K
      try simp only[xX]
      refine zR 6 rfl (fun K hK=>?_)
      go_simp
      refine hK.out _ _ trivial (fun hHeld=>?_)
      clear hK K
      try simp only[xX]
      refine wpAnyH_done (by kernel_rfl) ?_ _
      have HP8:Hid _:=HP9
      clear HP9 v1 v2
      gi_wp2
      exact HP8.out
  ·have hk3:(k == 3)=false:=by simpa using hk
   have HB:Hid (KeepsFrom W3.heap.size W W∧KpG (NdG w Bn) p b mm W W∧NdI w p b mm N B L r Bn (pre ++ [⟨va,lv,⟨a0,a1,a2,l2,e,k⟩⟩]) W):=by
    refine⟨KeepsFrom.refl _ _,⟨fun g o hg ho=>⟨ho,hg⟩,rfl,rfl,rfl,Nat.le_refl _⟩,?_⟩
    have e1:ndl r (pre ++ [⟨va,lv,⟨a0,a1,a2,l2,e,k⟩⟩])=ndl r pre:=by simp[ndl,List.filterMap_append,hk]
    refine⟨hI.ram,hI.bel,?_,hI.frz⟩
    rw[e1]
    exact hI.row
   clear hI C hk
   gi_wp2
   exact HB.out
 case done=>
  rintro D W hD hI hK
  obtain⟨g,c,k1,k2,k3⟩:=hI.row
  have hBl:Bn<W3.heap.size:=HS.out.2.2.2.2.1
  have hBD:Bn≠D:=by omega
  have hgD:g≠D:=fun e9=>by
   obtain⟨_,_,cur,t,f,h9⟩:=own_lt k2
   rw[e9,hK] at h9
   cases h9
  have HI:Hid (NdI w p b mm N B L r Bn (evs F lf 0) W∧W.ownsRow w.heap.size 23 1 (.slice (some ⟨g,0,.none⟩) (ndl r (evs F lf 0)).length c) (ndl r (evs F lf 0)).length (wv (ndl r (evs F lf 0)))∧Bn≠D∧g≠D∧w.heap.size<=D):=⟨hI,k2,hBD,hgD,by have:=HS.out.2.2.2.1;omega⟩
  clear hI k2 hBD hgD
  go_wp2
  refine⟨by simp,.inl ⟨_,_,rfl,run_takeDeferred hK,?_⟩⟩
  refine⟨.slice (some ⟨g,0,.none⟩) (ndl r (evs F lf 0)).length c,by simp[results,Tryz.results125,go_sem],g,c,rfl,?_,?_⟩
  ·exact own_block HI.out.2.1 (World.putObj_heap_other HI.out.2.2.2.1)
  ·have hb:=HI.out.1.bel
   have hD9:=HI.out.2.2.2.2
   exact⟨hb.os,hb.tape,hb.output,by simp[World.putObj];exact hb.size,fun k hk=>(World.putObj_heap_other (by omega)).trans (hb.block k hk)⟩
end Rm
namespace Rm
open Go.RowKit
structure Tch (p b m x:Nat) (w w':World):Prop where
 os:w'.os=w.os
 tape:w'.tape=w.tape
 output:w'.output=w.output
 size:w.heap.size<=w'.heap.size
 block:∀ k,k<w.heap.size->k≠p->k≠b->k≠m->k≠x->w'.heap[k]? = w.heap[k]?
theorem Tch.trans {p b m x:Nat} {u v w:World} (h:Tch p b m x u v) (k:Tch p b m x v w):Tch p b m x u w:=
 ⟨k.os.trans h.os,k.tape.trans h.tape,k.output.trans h.output,Nat.le_trans h.size k.size,fun i hi a c d e=>(k.block i (Nat.lt_of_lt_of_le hi h.size) a c d e).trans (h.block i hi a c d e)⟩
theorem Tch.of {p b m x:Nat} {w w':World} (h:Fra p b m w w'):Tch p b m x w w':=⟨h.os,h.tape,h.output,h.size,fun k hk a c d _=>h.block k hk a c d⟩
theorem Tch.fra {p b m x:Nat} {w v w':World} (hv:Fra p b m w v) (h:Tch p b m x v w') (hx:w.heap.size<=x):Fra p b m w w':=
 ⟨h.os.trans hv.os,h.tape.trans hv.tape,h.output.trans hv.output,Nat.le_trans hv.size h.size,fun k hk a c d=>(h.block k (Nat.lt_of_lt_of_le hk hv.size) a c d (by omega)).trans (hv.block k hk a c d)⟩
theorem Tch.set {p b m x:Nat} {w:World} (k:Nat) (v:Value):Tch p b m x w (w.setCell ⟨x,k,.none⟩ v):=⟨rfl,rfl,rfl,by simp[World.setCell],fun i hi _ _ _ e=>Below.heap_setCell _ _ _ _ (fun h=>e h)⟩
theorem elemU8 (W:World):(sizeOf (Tryz.prog.elem 24)).run Tryz.prog W = .ok 1 W:=by
 have e:Tryz.prog.elem 24=5:=by kernel_rfl
 obtain⟨i,z,hi,_,hs,_⟩:=info_of 5 1 1 (by kernel_rfl) (by kernel_rfl)
 rw[e]
 simp[sizeOf,typeInfo,hi,hs]
section
variable {w:World} {s p b m N:Nat} {B:Nat->Int} {L:List Nat} {F:Nat->Option Nat} {lf:Nat->Nat->Int}
end
end Rm
namespace Rm
open Go Go.RowKit
def pce (va:Int) (n k:Nat):Nat:=min (n-k) (4096-((va+k)%4096).toNat)
theorem pce_b (va:Int) (n k:Nat) (h:k<n):1<=pce va n k∧k+pce va n k<=n∧((va+k)%4096).toNat+pce va n k<=4096:=by
 unfold pce
 omega
def EaP (n:Nat) (J:Nat->World->Prop) (Jf:World->Prop) (e:Ending) (w':World):Prop:=(e = .returned (.bool true)∧J n w')∨(e = .returned (.bool false)∧Jf w')
end Rm
namespace Rm.Fz
open Go.RowKit
variable {E M:Nat} {n:Nat->Nat} {v:Nat->Value} {w wr:World} {xs:Nat->List Value}
end Rm.Fz
namespace Rm.Fz
open Go.RowKit
def See (w:World) (k:IntKind) (q:Option Addr) (n:Nat) (R:Nat->Int):Prop:=n=0∨∃ g o,q=some ⟨g,o,.none⟩∧g<w.heap.size∧∀ i,i<n->w.cell? ⟨g,o+i,.none⟩=some (.int k (R i))
end Rm.Fz
namespace Rm
open Go Go.RowKit Fz
attribute [local go_sem] Oper.semAt_some
attribute [local irreducible] eM evs
section
variable {N:Nat} {L:List Nat} {B:Nat->Int}
end
end Rm
namespace Rm
open Go Go.RowKit
def setN (F:Nat->Option Nat) (x:Nat):Nat->Option Nat:=fun y=>if y=x then none else F y
def clrE (lf:Nat->Nat->Int) (c:Nat):Nat->Nat->Int:=fun a b=>if a=c then 0 else lf a b
section
variable {N:Nat} {L:List Nat} {B:Nat->Int} {F:Nat->Option Nat} {lf:Nat->Nat->Int}
theorem PT.drop {f x g e:Nat} {B1:Nat->Int} (h:PT N L B F lf) (hx:x<=512) (hg:F x=some g) (he:e<512) (hf:F (ch x e)=some f) (hc:ch x e<=512 -> ∀ d,d<512->F (ch (ch x e) d)=none)
  (hB:∀ q,q≠f -> ∀ k,k<4096->B1 (q*4096+k)=B (q*4096+k)):PT N (f :: L) (over B1 (g*4096+e*8) (le 0 8)) (setN F (ch x e)) (clrE lf (ch x e)):=by
 have sF:∀ z,z≠ch x e->setN F (ch x e) z=F z:=fun z hz=>by unfold setN;rw[if_neg hz]
 have sT:setN F (ch x e) (ch x e)=none:=by unfold setN;rw[if_pos rfl]
 have nc:∀ z q,setN F (ch x e) z=some q->z≠ch x e∧F z=some q:=fun z q hz=>by
  by_cases e2:z=ch x e
  ·rw[e2,sT] at hz;cases hz
  ·exact⟨e2,by rw[sF z e2] at hz;exact hz⟩
 have hqf:∀ z q,z≠ch x e->F z=some q->q≠f:=fun z q hz hq e2=>hz (h.inj z (ch x e) q hq (by rw[e2];exact hf))
 have ev1:∀ q d,d<512->q≠f->evn B1 q d=evn B q d:=fun q d hd hq=>num_ext _ _ _ _ fun k hk=>by rw[Nat.add_assoc];exact hB q hq _ (by omega)
 refine⟨?_,fun z q hz=>?_,fun z y q hz hy=>?_,fun z d hz hd hne=>?_,fun z hz=>?_,fun z q hz hq d hd=>?_,fun z q hz hq d hd=>?_,fun y k=>?_,fun y hy k=>?_⟩
 ·obtain⟨r,hr⟩:=h.root
  exact⟨r,by rw[sF 0 (by have:=ch_pos x e;omega)];exact hr⟩
 ·obtain⟨h1,h2⟩:=nc z q hz
  have h3:=h.held z q h2
  refine⟨h3.1,h3.2.1,fun hm=>?_⟩
  rcases List.mem_cons.1 hm with h4|h4
  ·exact hqf z q h1 h2 h4
  ·exact h3.2.2 h4
 ·exact h.inj z y q (nc z q hz).2 (nc y q hy).2
 ·by_cases e2:ch z d=ch x e
  ·rw[e2,sT] at hne
   exact absurd rfl hne
  ·rw[sF _ e2] at hne
   have e3:z≠ch x e:=fun e3=>by
    subst e3
    exact hne (hc hz d hd)
   rw[sF z e3]
   exact h.up z d hz hd hne
 ·by_cases e2:z=ch x e
  ·rw[e2,sT] at hz
   exact absurd rfl hz
  ·rw[sF z e2] at hz
   exact h.dom z hz
 ·obtain⟨h1,h2⟩:=nc z q hq
  have h3:=hqf z q h1 h2
  by_cases e3:q=g∧d=e
  ·obtain⟨rfl,rfl⟩:=e3
   obtain rfl:z=x:=h.inj z x q h2 hg
   rw[sT,evn_over_same _ _ _ _ (by omega)]
   rfl
  ·rw[evn_over_other _ _ _ _ _ _ he hd (by
     by_cases e4:q=g
     ·exact .inr (fun e5=>e3 ⟨e4,e5⟩)
     ·exact .inl e4),ev1 q d hd h3,h.ep z q hz h2 d hd,sF]
   intro e4
   obtain⟨rfl,rfl⟩:=ch_inj hz hx hd he e4
   rw[hg] at h2
   injection h2 with h2
   exact e3 ⟨h2.symm,rfl⟩
 ·obtain⟨h1,h2⟩:=nc z q hq
  have h3:=hqf z q h1 h2
  rw[evn_over_other _ _ _ _ _ _ he hd (.inl (fun e3=>by subst e3;have:=h.inj z x q h2 hg;omega)),ev1 q d hd h3,h.el z q hz h2 d hd]
  unfold clrE
  rw[if_neg h1]
 ·unfold clrE
  split
  ·exact .inl rfl
  ·exact h.lv y k
 ·unfold clrE
  split
  ·rfl
  ·next e2=>
   rw[sF y e2] at hy
   exact h.ln y hy k
end
end Rm
end Go.Proofs.YtabnipbdbnmmpaaGreatDoor
