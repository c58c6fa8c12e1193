import Derived.Test.YtabnipbdbnmmpaaGreatDoorLd01
import Derived.Test.YtabnipbdbnmmpaaGreatDoorLd26
import Derived.Test.YtabnipbdbnmmpaaGreatDoorLd17
import Derived.Test.YtabnipbdbnmmpaaGreatDoorLd16
set_option linter.unusedVariables false
set_option linter.unusedSimpArgs false
set_option maxHeartbeats 8000000
namespace Go.Proofs.YtabnipbdbnmmpaaGreatDoor
namespace Rm
open Go Go.RowKit
theorem range_KB {n id:Nat} {α:Type} {g:Operand} {ps:Array Tmp} {assign body:Code} {Q:Exit->Act->World->Prop} {a:Act} {w:World}
  (h1:1<=n) {gf:Nat} {lb:Array Value} (hg:a.eval g = .func (.func gf) #[] lb) (eg:∀ args w,(callFunc gf args).run Tryz.prog w = .ok (.enter gf args) w)
  {encs:α -> Array Value} {L:List α} {w0:World} {p b mm:Nat} (hb0:Below w0.heap.size w0 w) (hseq:SeqK (n-1) gf lb encs L p b mm w0) (hpb:p<w.heap.size∧b<w.heap.size∧mm<w.heap.size)
  (hps:∀ x,(encs x).size=ps.size) (I:List α -> World->Prop) (Good:Nat->World->Prop) (hI:OwnFrom w.heap.size I) (gd:GdJ Good I)
  (hgp:∀ s k W l o o',I s W->Good k W->k≠l->w.heap.size<=l->W.heap[l]? = some o->o.isCells=false->Good k (W.putObj l o'))
  (h0:I [] w) (Ix:List α -> World->Prop) (hIx:∀ pre W l o o',Ix pre W->w.heap.size<=l->W.heap[l]? = some o->o.isCells=false->Ix pre (W.putObj l o')) (hIxm:∀ pre W1 W2,Ix pre W1->Mv Good W1 W2->Ix pre W2)
  (hgx:∀ s k W l o o',Ix s W->Good k W->k≠l->w.heap.size<=l->W.heap[l]? = some o->o.isCells=false->Good k (W.putObj l o')) (Ax:α -> Act->World->Prop) (hAx:∀ x a' W l o o',Ax x a' W->w.heap.size<=l->W.heap[l]? = some o->o.isCells=false->Ax x a' (W.putObj l o'))
  (hassign:∀ (l:Nat) (x:α) (W:World) (K:Act->World->Prop),w.heap.size<=W.heap.size->(∀ a' W',Below W.heap.size W W'->Ax x a' W'->K a' W') ->
   assign.wpIn (Fence.wide.inRound l) (n-1-1) Tryz.prog (Exit.then K (fun _ _ _=>False)) { tmps:=(ps.zip (encs x)).foldl (fun t (p,v)=>t.setIfInBounds p v) a.tmps,defers:=[] } W)
  (hbody:∀ (l:Nat) (pre:List α) (x:α) (a':Act) (W:World),I pre W->Ax x a' W->pre ++ [x] <+: L->body.wpIn (Fence.wide.inRound l) (n-1-1) Tryz.prog (fun e _ W'=>(e = .normal∧KeepsFrom w.heap.size W W'∧KpG Good p b mm W W'∧I (pre ++ [x]) W')∨(e = .exit id∧KeepsFrom w.heap.size W W'∧KpG Good p b mm W W'∧Ix (pre ++ [x]) W')) a' W)
  (hdone:∀ (D:Nat) (W:World),w.heap.size<=D->I L W->W.heap[D]? = some (.deferred (some []))->Q .normal { a with defers:={ target:=.collected D,args:=#[] } :: a.defers } W)
  (hleft:∀ (D:Nat) (W:World) (pre:List α),w.heap.size<=D->pre <+: L->Ix pre W->W.heap[D]? = some (.deferred (some []))->Q (.exit id) { a with defers:={ target:=.collected D,args:=#[] } :: a.defers } W) :
  (Code.rangeFunc g ps assign body).wpIn Fence.wide n Tryz.prog Q a w:=by
 refine wpIn_rangeFunc fun fn hfn=>?_
 rw[show Fence.wide.round=none from rfl]
 let rec':LoopState->Option Code->Loop:=fun st pe=>{ state:=st,pending:=pe,fn:=fn,tmps:=a.tmps,params:=ps,assign:=assign,body:=body,defers:=w.heap.size }
 obtain⟨V,hV⟩:∃ V,(w.alloc (.deferred (some []))).alloc (.loop (rec' .ready none))=V:=⟨_,rfl⟩
 have hVs:V.heap.size=w.heap.size+2:=by rw[<-hV];simp
 have vL:V.heap[w.heap.size+1]? = some (.loop (rec' .ready none)):=by
  rw[<-hV];simpa using World.alloc_heap_new (w.alloc (.deferred (some []))) (.loop (rec' .ready none))
 have vD:V.heap[w.heap.size]? = some (.deferred (some [])):=by
  rw[<-hV];exact(Below.heap_alloc _ _ _ (by simp)).trans (World.alloc_heap_new w _)
 have vI:I [] V:=by rw[<-hV];exact hI.alloc _ (hI.alloc _ h0)
 have vB:Below w.heap.size w V:=by rw[<-hV];exact((Below.refl _ w).alloc zL _).alloc (by simp) _
 refine⟨w.heap.size+1,[{ target:=.collected w.heap.size,args:=#[] }],V,{ target:=.fn (.func gf) lb,args:=#[.func (.yield (w.heap.size+1)) #[] #[]] },V,gf,#[.func (.yield (w.heap.size+1)) #[] #[]] ++ lb,V,?_,?_,?_,?_,fun _=>h1,?_⟩
 ·rw[<-hV];exact run_enterLoop_outer _ _ _ _ _
 ·simp only[resolve,hg];simp[go_sem]
 ·intro f' hf';exact trivial
 ·simp[invoke,go_sem,eg]
 have gdJ:GdJ (fun k W=>Good k W∧k≠w.heap.size∧k≠w.heap.size+1) (fun pre W=>I pre W∧W.heap[w.heap.size+1]? = some (.loop (rec' .ready none))∧W.heap[w.heap.size]? = some (.deferred (some []))):=by
  have low:∀ W W',Mv (fun k W=>Good k W∧k≠w.heap.size∧k≠w.heap.size+1) W W'->Mv Good W W':=fun W W' h=>⟨h.os,h.tape,h.output,h.size,fun k hk hn=>h.block k hk (fun e=>hn e.1)⟩
  refine⟨fun s W W' hs hm=>⟨gd.move s W W' hs.1 (low _ _ hm),?_,?_⟩,fun s W W' k hs hm hk=>⟨gd.mono s W W' k hs.1 (low _ _ hm) hk.1,hk.2⟩,fun s W W' k hs hm hk=>⟨gd.fresh s W W' k hs.1 (low _ _ hm) hk,?_,?_⟩⟩
  ·exact(hm.block _ (Array.getElem?_eq_some_iff.1 hs.2.1).1 (fun e=>e.2.2 rfl)).trans hs.2.1
  ·exact(hm.block _ (Array.getElem?_eq_some_iff.1 hs.2.2).1 (fun e=>e.2.1 rfl)).trans hs.2.2
  ·have:=(Array.getElem?_eq_some_iff.1 hs.2.2).1;omega
  ·have:=(Array.getElem?_eq_some_iff.1 hs.2.1).1;omega
 refine(hseq (w.heap.size+1) _ (fun pre W=>Ix pre W∧W.heap[w.heap.size+1]? = some (.loop (rec' .done (some (.exit id))))∧W.heap[w.heap.size]? = some (.deferred (some []))) _ V (hb0.trans (vB.mono hb0.size)) gdJ ?_ ?_ ⟨vI,vL,vD⟩).mono ?_
 ·rintro k pre x W ⟨hi,hl,hk⟩ hlen
  have hlt:w.heap.size+1<W.heap.size:=(Array.getElem?_eq_some_iff.1 hl).1
  refine yield_anyT rfl k (m:=n-1-1) ⟨fn,_,assign,body,run_yield (P:=Tryz.prog) (args:=encs x) hl (hps x),roundIn_of_wpIn hfn (hassign _ x W _ (by omega) (fun a' W1 hb1 hax=>?_))⟩
  have hi1:I pre W1:=hI pre W W1 none hi ⟨hb1.os,hb1.tape,hb1.output,hb1.size,fun k hk _=>hb1.block k hk⟩ (fun r e=>by cases e)
  have hl1:W1.heap[w.heap.size+1]? = some (.loop (rec' .ready none)):=(hb1.block _ hlt).trans hl
  have hk1:W1.heap[w.heap.size]? = some (.deferred (some [])):=(hb1.block _ (by omega)).trans hk
  have hlt1:w.heap.size+1<W1.heap.size:=(Array.getElem?_eq_some_iff.1 hl1).1
  refine⟨_,run_beginRound hl1 rfl,?_⟩
  refine wpIn_mono (hbody _ pre x a' _ (hI.putObj _ hi1 (by omega) hl1 rfl) (hAx _ _ _ _ _ _ hax (by omega) hl1 rfl) hlen) ?_
  rintro e a3 W3 (⟨rfl,hk3,hkp,hi3⟩|⟨rfl,hk3,hkp,hix⟩)
  rotate_left
  ·have hl3:=hk3.same (w.heap.size+1) _ (by omega) (World.putObj_heap_same hlt1) rfl
   have hd3:=hk3.same w.heap.size _ zL ((World.putObj_heap_other (by omega)).trans hk1) rfl
   refine⟨_,_,run_endRound (P:=Tryz.prog) (some (.exit id)) hl3,.inr ⟨rfl,⟨hIx _ _ _ _ _ hix (by omega) hl3 rfl,World.putObj_heap_same (Array.getElem?_eq_some_iff.1 hl3).1,(World.putObj_heap_other (by omega)).trans hd3⟩,?_⟩⟩
   have sz:∀ (X:World) (l:Nat) (o:Obj),(X.putObj l o).heap.size=X.heap.size:=fun X l o=>by simp[World.putObj]
   refine⟨fun q o hq ho=>?_,?_,?_,?_,?_⟩
   ·have hql:q<W.heap.size:=(Array.getElem?_eq_some_iff.1 ho).1
    have g1:Good q W1:=gd.mono pre W W1 q hi (Mv.below hb1) hq.1
    have o1:W1.heap[q]? = some o:=(hb1.block q hql).trans ho
    have g2:=hgp pre q W1 _ _ (.loop { rec' .ready none with state:=.busy }) hi1 g1 hq.2.2 (by omega) hl1 rfl
    have o2:(W1.putObj (w.heap.size+1) (.loop { rec' .ready none with state:=.busy })).heap[q]? = some o:=(World.putObj_heap_other hq.2.2).trans o1
    obtain⟨o3,g3⟩:=hkp.1 q o g2 o2
    exact⟨(World.putObj_heap_other hq.2.2).trans o3,hgx _ q W3 _ _ _ hix g3 hq.2.2 (by omega) hl3 rfl,hq.2⟩
   ·rw[World.putObj_heap_other (by omega),hkp.2.1,World.putObj_heap_other (by omega)];exact hb1.block _ (by omega)
   ·rw[World.putObj_heap_other (by omega),hkp.2.2.1,World.putObj_heap_other (by omega)];exact hb1.block _ (by omega)
   ·rw[World.putObj_heap_other (by omega),hkp.2.2.2.1,World.putObj_heap_other (by omega)];exact hb1.block _ (by omega)
   ·rw[sz]
    have:=hkp.2.2.2.2
    rw[sz] at this
    exact Nat.le_trans hb1.size this
  have hl3:=hk3.same (w.heap.size+1) _ (by omega) (World.putObj_heap_same hlt1) rfl
  have hd3:=hk3.same w.heap.size _ zL ((World.putObj_heap_other (by omega)).trans hk1) rfl
  refine⟨_,_,run_endRound (P:=Tryz.prog) none hl3,.inl ⟨rfl,⟨hI.putObj _ hi3 (by omega) hl3 rfl,World.putObj_heap_same (Array.getElem?_eq_some_iff.1 hl3).1,(World.putObj_heap_other (by omega)).trans hd3⟩,?_⟩⟩
  have sz:∀ (X:World) (l:Nat) (o:Obj),(X.putObj l o).heap.size=X.heap.size:=fun X l o=>by simp[World.putObj]
  refine⟨fun q o hq ho=>?_,?_,?_,?_,?_⟩
  ·have hql:q<W.heap.size:=(Array.getElem?_eq_some_iff.1 ho).1
   have g1:Good q W1:=gd.mono pre W W1 q hi (Mv.below hb1) hq.1
   have o1:W1.heap[q]? = some o:=(hb1.block q hql).trans ho
   have g2:=hgp pre q W1 _ _ (.loop { rec' .ready none with state:=.busy }) hi1 g1 hq.2.2 (by omega) hl1 rfl
   have o2:(W1.putObj (w.heap.size+1) (.loop { rec' .ready none with state:=.busy })).heap[q]? = some o:=(World.putObj_heap_other hq.2.2).trans o1
   obtain⟨o3,g3⟩:=hkp.1 q o g2 o2
   exact⟨(World.putObj_heap_other hq.2.2).trans o3,hgp _ q W3 _ _ _ hi3 g3 hq.2.2 (by omega) hl3 rfl,hq.2⟩
  ·rw[World.putObj_heap_other (by omega),hkp.2.1,World.putObj_heap_other (by omega)];exact hb1.block _ (by omega)
  ·rw[World.putObj_heap_other (by omega),hkp.2.2.1,World.putObj_heap_other (by omega)];exact hb1.block _ (by omega)
  ·rw[World.putObj_heap_other (by omega),hkp.2.2.2.1,World.putObj_heap_other (by omega)];exact hb1.block _ (by omega)
  ·rw[sz]
   have:=hkp.2.2.2.2
   rw[sz] at this
   exact Nat.le_trans hb1.size this
 ·rintro pre W1 W2 ⟨hx,hl,hk⟩ hm
  refine⟨hIxm pre W1 W2 hx ⟨hm.os,hm.tape,hm.output,hm.size,fun k hk2 hn=>hm.block k hk2 (fun e=>hn e.1)⟩,?_,?_⟩
  ·exact(hm.block _ (Array.getElem?_eq_some_iff.1 hl).1 (fun e=>e.2.2 rfl)).trans hl
  ·exact(hm.block _ (Array.getElem?_eq_some_iff.1 hk).1 (fun e=>e.2.1 rfl)).trans hk
 ·rintro e W2 ⟨⟨v,rfl⟩,⟨hi,hl,hk⟩|⟨pre,hpre,hx,hl,hk⟩⟩
  ·exact⟨none,_,run_endLoop (P:=Tryz.prog) hl (by simp[rec']),hdone _ _ zL (hI.putObj _ hi (by omega) hl rfl) ((World.putObj_heap_other (by omega)).trans hk)⟩
  ·exact⟨some (.exit id),_,run_endLoop (P:=Tryz.prog) hl (by simp[rec']),wpIn_exit (hleft _ _ pre zL hpre (hIx _ _ _ _ _ hx (by omega) hl rfl) ((World.putObj_heap_other (by omega)).trans hk))⟩

def lkF (y:Int×Int):Pg:=(y.1/4096,y.2/1024*4096,bits .and .u64 y.2 30)
structure LkI (V:World) (Bn:Nat) (pre:List (Int×Int)) (W:World):Prop where
 size:V.heap.size<=W.heap.size
 os:W.os=V.os
 tape:W.tape=V.tape
 output:W.output=V.output
 block:∀ k,k<V.heap.size->k≠Bn->W.heap[k]? = V.heap[k]?
 row:∃ v,W.cell? ⟨Bn,0,.none⟩=some v∧W.ownsRow V.heap.size 139 3 v pre.length (pcs (pre.map lkF))
 frz:W.frozen? ⟨Bn,0,.none⟩=false
 low:∀ y∈pre,y.1<274877894656
def LkG (V:World) (Bn k:Nat) (W:World):Prop:=V.heap.size<=k∧∀ v,W.cell? ⟨Bn,0,.none⟩=some v->v.ownBlock≠some k
def LkX (V:World) (Bn:Nat) (pre:List (Int×Int)) (W:World):Prop:=∃ q x,pre=q ++ [x]∧274877894656<=x.1∧LkI V Bn q W
section
variable {V W W':World} {Bn:Nat} {pre:List (Int×Int)}
theorem own_cells {base e size n:Nat} {v:Value} {xs:List Value} (h:W.ownsRow base e size v n xs) {g:Nat} (hg:v.ownBlock=some g):base<=g∧g<W.heap.size∧∃ cur t f,W.heap[g]? = some (.cells cur t f):=by
 rcases h.2 with⟨rfl,_⟩|⟨g',cap,cur,rfl,hb,hh,_⟩
 ·cases hg
 ·simp only[Value.ownBlock,Option.map_some,Option.some.injEq] at hg
  subst hg
  exact⟨hb,(Array.getElem?_eq_some_iff.1 hh).1,cur,_,_,hh⟩
theorem LkI.keep (h:LkI V Bn pre W) (hB:Bn<V.heap.size) (hlow:∀ k,k<V.heap.size->W'.heap[k]? = W.heap[k]?) (hg:∀ v g,W.cell? ⟨Bn,0,.none⟩=some v->v.ownBlock=some g->W'.heap[g]? = W.heap[g]?) (h1:W'.os=W.os) (h2:W'.tape=W.tape) (h3:W'.output=W.output) (h4:W.heap.size<=W'.heap.size):LkI V Bn pre W':=by
 obtain⟨v,k1,k2⟩:=h.row
 exact⟨Nat.le_trans h.size h4,h1.trans h.os,h2.trans h.tape,h3.trans h.output,fun k hk hn=>(hlow k hk).trans (h.block k hk hn),⟨v,(World.cell?_of_block (a:=⟨Bn,0,.none⟩) (hlow Bn hB)).trans k1,own_blk k2 (fun g hv _=>hg v g k1 hv)⟩,(World.frozen?_of_block (a:=⟨Bn,0,.none⟩) (hlow Bn hB)).trans h.frz,h.low⟩
theorem LkI.gd (hB:Bn<V.heap.size):GdJ (LkG V Bn) (LkI V Bn):=by
 have cellB:∀ s W W',LkI V Bn s W->Mv (LkG V Bn) W W'->W'.heap[Bn]? = W.heap[Bn]?:=fun s W W' hs hm=>hm.block Bn (Nat.lt_of_lt_of_le hB hs.size) (fun e=>by have:=e.1;omega)
 refine⟨fun s W W' hs hm=>?_,fun s W W' k hs hm hk=>⟨hk.1,fun v hv=>?_⟩,fun s W W' k hs hm hk=>⟨Nat.le_trans hs.size hk,fun v hv e=>?_⟩⟩
 ·refine hs.keep hB (fun k hk=>hm.block k (Nat.lt_of_lt_of_le hk hs.size) (fun e=>by have:=e.1;omega)) (fun v g hv hg=>?_) hm.os hm.tape hm.output hm.size
  obtain⟨v',k1,k2⟩:=hs.row
  have:v'=v:=by rw[k1] at hv;exact Option.some.inj hv
  subst this
  exact hm.block g (own_cells k2 hg).2.1 (fun e=>e.2 _ k1 hg)
 ·rw[World.cell?_of_block (a:=⟨Bn,0,.none⟩) (cellB s W W' hs hm)] at hv
  exact hk.2 v hv
 ·rw[World.cell?_of_block (a:=⟨Bn,0,.none⟩) (cellB s W W' hs hm)] at hv
  obtain⟨v',k1,k2⟩:=hs.row
  have:v'=v:=by rw[k1] at hv;exact Option.some.inj hv
  subst this
  have:=(own_cells k2 e).2.1
  omega
theorem LkI.own (hB:Bn<V.heap.size):OwnFrom V.heap.size (LkI V Bn):=by
 intro s W W' row hs hg hr
 have key:∀ k,k<W.heap.size->(k<V.heap.size∨∃ cur t f,W.heap[k]? = some (.cells cur t f))->W'.heap[k]? = W.heap[k]?:=fun k hk hor=>hg.block k hk (fun e=>by
  obtain⟨h1,o,ho,hc⟩:=hr k e.symm
  rcases hor with h|⟨cur,t,f,h⟩
  ·omega
  ·rw[h] at ho
   injection ho with ho
   subst ho
   cases hc)
 refine hs.keep hB (fun k hk=>key k (Nat.lt_of_lt_of_le hk hs.size) (.inl hk)) (fun v g hv hgo=>?_) hg.os hg.tape hg.output hg.size
 obtain⟨v',k1,k2⟩:=hs.row
 have:v'=v:=by rw[k1] at hv;exact Option.some.inj hv
 subst this
 have h5:=own_cells k2 hgo
 exact key g h5.2.1 (.inr h5.2.2)
theorem LkG.put (hB:Bn<V.heap.size) {k l:Nat} {o':Obj} (h:LkG V Bn k W) (hl:V.heap.size<=l):LkG V Bn k (W.putObj l o'):=⟨h.1,fun v hv=>h.2 v (by
 rw[World.cell?_of_block (a:=⟨Bn,0,.none⟩) (World.putObj_heap_other (by show Bn≠l;omega))] at hv
 exact hv)⟩
theorem LkX.put (hB:Bn<V.heap.size) {l:Nat} {o o':Obj} (h:LkX V Bn pre W) (hl:V.heap.size<=l) (ho:W.heap[l]? = some o) (hc:o.isCells=false):LkX V Bn pre (W.putObj l o'):=by
 obtain⟨q,x,h1,h2,h3⟩:=h
 exact⟨q,x,h1,h2,(LkI.own hB).putObj _ h3 hl ho hc⟩
theorem LkX.mv (hB:Bn<V.heap.size) (h:LkX V Bn pre W) (hm:Mv (LkG V Bn) W W'):LkX V Bn pre W':=by
 obtain⟨q,x,h1,h2,h3⟩:=h
 exact⟨q,x,h1,h2,(LkI.gd hB).move _ _ _ h3 hm⟩
theorem LkI.step {x:Int×Int} {W1 U:World} {Y p b mm:Nat} {v v':Value} (hI:LkI V Bn pre W) (hB:Bn<V.heap.size) (k1:W.cell? ⟨Bn,0,.none⟩=some v) (k2:W.ownsRow V.heap.size 139 3 v pre.length (pcs (pre.map lkF))) (b1:Below W.heap.size W W1)
  (own':U.ownsRow V.heap.size 139 3 v' (pre.length+1) (pcs (pre.map lkF) ++ pc (lkF x))) (grow:W1.grownBy U v.ownBlock) (hg':v'.ownBlock=v.ownBlock∨v'.ownBlock=some W1.heap.size) (hp:p<V.heap.size∧b<V.heap.size∧mm<V.heap.size∧p≠Bn∧b≠Bn∧mm≠Bn) (hx:x.1<274877894656) :
  KeepsFrom Y W (U.setCell ⟨Bn,0,.none⟩ v')∧KpG (LkG V Bn) p b mm W (U.setCell ⟨Bn,0,.none⟩ v')∧LkI V Bn (pre ++ [x]) (U.setCell ⟨Bn,0,.none⟩ v'):=by
 have hBl:Bn<W.heap.size:=zC k1
 have hs1:=b1.size
 have hs2:=grow.size
 have hsV:=hI.size
 have oB:v.ownBlock≠some Bn:=fun e=>by have:=(own_cells k2 e).1;omega
 have kV:∀ k,k<W.heap.size->v.ownBlock≠some k->U.heap[k]? = W.heap[k]?:=fun k hk hg=>(grow.block k (by omega) (fun e=>hg e.symm)).trans (b1.block k hk)
 have kk:∀ k,k<W.heap.size->v.ownBlock≠some k->k≠Bn->(U.setCell ⟨Bn,0,.none⟩ v').heap[k]? = W.heap[k]?:=fun k hk hg hb=>(Below.heap_setCell U ⟨Bn,0,.none⟩ v' k hb).trans (kV k hk hg)
 have sz:(U.setCell ⟨Bn,0,.none⟩ v').heap.size=U.heap.size:=by simp
 have hcB:(U.setCell ⟨Bn,0,.none⟩ v').cell? ⟨Bn,0,.none⟩=some v':=World.cell?_setCell_same' _ _ _ (by rw[World.cell?_of_block (a:=⟨Bn,0,.none⟩) (kV Bn hBl oB),k1];rfl)
 have nlow:∀ k,k<V.heap.size->v.ownBlock≠some k:=fun k hk e=>by have:=(own_cells k2 e).1;omega
 refine⟨⟨by omega,fun k o _ hk ho=>?_⟩,⟨fun k o hk ho=>⟨?_,hk.1,fun u hu e=>?_⟩,?_,?_,?_,by omega⟩,?_⟩
 ·have hkl:k<W.heap.size:=(Array.getElem?_eq_some_iff.1 hk).1
  refine(kk k hkl (fun e=>?_) (fun e=>?_)).trans hk
  ·obtain⟨_,_,cur,t,f,hgc⟩:=own_cells k2 e
   rw[hgc] at hk;injection hk with hk;subst hk;cases ho
  ·subst e;have:=cells_of k1 hk;rw[ho] at this;cases this
 ·exact(kk k (Array.getElem?_eq_some_iff.1 ho).1 (hk.2 v k1) (fun e=>by have:=hk.1;omega)).trans ho
 ·rw[hcB] at hu
  have:v'=u:=Option.some.inj hu
  subst this
  have hkl:k<W.heap.size:=(Array.getElem?_eq_some_iff.1 ho).1
  rcases hg' with e2|e2
  ·exact hk.2 v k1 (e2 ▸ e)
  ·rw[e2] at e;have:=Option.some.inj e;omega
 ·exact kk p (by omega) (nlow p hp.1) hp.2.2.2.1
 ·exact kk b (by omega) (nlow b hp.2.1) hp.2.2.2.2.1
 ·exact kk mm (by omega) (nlow mm hp.2.2.1) hp.2.2.2.2.2
 ·refine⟨by omega,grow.os.trans (b1.os.trans hI.os),grow.tape.trans (b1.tape.trans hI.tape),grow.output.trans (b1.output.trans hI.output),fun k hk hn=>(kk k (by omega) (nlow k hk) hn).trans (hI.block k hk hn),⟨v',hcB,?_⟩,?_,fun y hy=>?_⟩
  ·rw[List.length_append,List.length_singleton,List.map_append,List.map_cons,List.map_nil,pcs_app]
   refine own_blk own' (fun g hg _=>Below.heap_setCell U ⟨Bn,0,.none⟩ v' g (fun e=>?_))
   subst e
   rcases hg' with e2|e2
   ·exact oB (e2 ▸ hg)
   ·rw[e2] at hg;have:=Option.some.inj hg;omega
  ·rw[World.frozen?_setCell]
   exact(World.frozen?_of_block (a:=⟨Bn,0,.none⟩) (kV Bn hBl oB)).trans hI.frz
  ·rcases List.mem_append.1 hy with h|h
   ·exact hI.low y h
   ·rw[List.mem_singleton.1 h];exact hx
end
theorem sub_sorted:∀ (l2 l1:List (Int×Int)),l1.Pairwise (fun a b=>a.1<b.1)->l2.Pairwise (fun a b=>a.1<b.1)->(∀ y∈l1,y∈l2)->l1.Sublist l2
 |[],l1,_,_,h=>by
  cases l1 with
  |nil=>exact List.Sublist.refl _
  |cons a t=>exact absurd (h a (List.mem_cons_self ..)) (by simp)
 |b :: t2,[],_,_,_=>List.nil_sublist _
 |b :: t2,a :: t1,h1,h2,h=>by
  obtain⟨p1,p2⟩:=List.pairwise_cons.1 h1
  obtain⟨q1,q2⟩:=List.pairwise_cons.1 h2
  rcases List.mem_cons.1 (h a (List.mem_cons_self ..)) with e|e
  ·subst e
   refine List.Sublist.cons_cons _ (sub_sorted t2 t1 p2 q2 fun y hy=>?_)
   rcases List.mem_cons.1 (h y (List.mem_cons_of_mem _ hy)) with e|e
   ·subst e;have:=p1 y hy;omega
   ·exact e
  ·refine List.Sublist.cons _ (sub_sorted t2 (a :: t1) h1 q2 fun y hy=>?_)
   have hab:=q1 a e
   rcases List.mem_cons.1 (h y hy) with e2|e2
   ·subst e2
    rcases List.mem_cons.1 hy with e3|e3
    ·subst e3;omega
    ·have:=p1 y e3;omega
   ·exact e2
def lvA (fr:Nat->Nat) (c:Nat->Int) (P:Nat):List (Int×Int):=(List.range P).map fun (i:Nat)=>((i:Int)*4096,toP (ad (fr i)) (c i))
def lvZ (ft:Nat):List (Int×Int):=[(274877898752,toP (ad ft) 198),(274877902848,toP (ad 0) 74)]
theorem SpL.leaves {N r ft P:Nat} {B:Nat->Int} {L:List Nat} {F:Nat->Option Nat} {lf:Nat->Nat->Int} {fr:Nat->Nat} {c:Nat->Int} (h:SpL N r ft B L F lf fr c (List.range P)):lvl (evs F lf 0)=lvA fr c P ++ lvZ ft:=by
 have hv:=h.tl.leaves h.pt h.pw
 have hs:(lvA fr c P ++ lvZ ft).Pairwise (fun a b=>a.1<b.1):=by
  rw[List.pairwise_append]
  refine⟨?_,by unfold lvZ;simp,fun a ha b hb=>?_⟩
  ·unfold lvA
   rw[List.pairwise_map]
   exact List.pairwise_lt_range.imp (fun h=>by omega)
  ·obtain⟨i,hi,rfl⟩:=List.mem_map.1 ha
   have:=h.bd i hi
   unfold lvZ at hb
   simp at hb
   rcases hb with rfl|rfl<;>simp only<;>omega
 refine List.Sublist.eq_of_length (sub_sorted _ _ hv.up hs fun y hy=>?_) ?_
 ·obtain⟨x,hx,rfl⟩:=hv.mem y hy
  rw[List.mem_append]
  rcases mem_pgL.1 hx with rfl|rfl|⟨i,hi,rfl⟩
  ·right;unfold lvZ;simp
  ·right;unfold lvZ;simp
  ·left;exact List.mem_map.2 ⟨i,hi,rfl⟩
 ·rw[hv.len]
  unfold pgL lvA tpg lvZ
  simp
theorem pre_split {A Z:List (Int×Int)} {t:Int} (hA:∀ y∈A,y.1<t) (hZ:∀ y∈Z,t<=y.1):∀ (q:List (Int×Int)) (x:Int×Int),(∀ y∈q,y.1<t)->t<=x.1->q ++ [x] <+: A ++ Z->q=A:=by
 induction A with
 |nil=>
  intro q x hq hx hp
  cases q with
  |nil=>rfl
  |cons y q=>
   have h1:y∈Z:=hp.subset (by simp)
   have:=hZ y h1
   have:=hq y (List.mem_cons_self ..)
   omega
 |cons a A ih=>
  intro q x hq hx hp
  cases q with
  |nil=>
   simp only[List.nil_append,List.cons_append] at hp
   have:=(List.cons_prefix_cons.1 hp).1
   subst this
   have:=hA x (List.mem_cons_self ..)
   omega
  |cons y q=>
   simp only[List.cons_append] at hp
   obtain⟨e,hp2⟩:=List.cons_prefix_cons.1 hp
   rw[e,ih (fun z hz=>hA z (List.mem_cons_of_mem _ hz)) q x (fun z hz=>hq z (List.mem_cons_of_mem _ hz)) hx hp2]
end Rm
namespace Rm
open Go Go.RowKit
attribute [local go_sem] Oper.semAt_some
theorem look_info:∃ i z,Tryz.prog.info? 139=some i∧i.zero=some z∧i.size=3∧i.bytes=24∧z.cells.size=3:=info_of 139 3 24 (by kernel_rfl) (by kernel_rfl)
def lkP (fr:Nat->Nat) (c:Nat->Int) (P:Nat):List Pg:=(List.range P).map fun (i:Nat)=>((i:Int),ad (fr i),bits .and .u64 (toP (ad (fr i)) (c i)) 30)
def LkP (w:World) (n P:Nat) (xs:List Int) (fr:Nat->Nat) (c:Nat->Int) (e:Ending) (w':World):Prop:=∃ g cp ys q cq,e = .returned (.tuple #[.slice (some ⟨g,0,.none⟩) n cp,.slice q P cq])∧(ys.Perm xs∧ys.Pairwise (· <= ·))∧w'.ownsRow w.heap.size 23 1 (.slice (some ⟨g,0,.none⟩) n cp) n (wv ys)∧w'.ownsRow w.heap.size 139 3 (.slice q P cq) P (pcs (lkP fr c P))∧Below w.heap.size w w'
theorem own_low {W:World} {base base' e size n:Nat} {v:Value} {xs:List Value} (h:W.ownsRow base e size v n xs) (hb:base'<=base):W.ownsRow base' e size v n xs:=
 ⟨h.1,h.2.imp id fun ⟨g,cap,cur,h1,h2,h3⟩=>⟨g,cap,cur,h1,Nat.le_trans hb h2,h3⟩⟩
theorem own_shape {W:World} {base e size n:Nat} {v:Value} {xs:List Value} (h:W.ownsRow base e size v n xs):∃ q cq,v = .slice q n cq:=by
 rcases h.2 with⟨h1,h2⟩|⟨g,cap,cur,h1,_⟩
 ·exact⟨none,0,by rw[h1,h2]⟩
 ·exact⟨_,_,h1⟩
section
variable {w:World} {s p b m N r P ft:Nat} {size:Int} {B:Nat->Int} {L:List Nat} {F:Nat->Option Nat} {lf:Nat->Nat->Int} {fr:Nat->Nat} {c:Nat->Int}
theorem SpL.lkF {i:Nat} (h:SpL N r ft B L F lf fr c (List.range P)) (hN:N<=4096) (hi:i<P):0<=toP (ad (fr i)) (c i)∧toP (ad (fr i)) (c i)<18014398509481984∧toP (ad (fr i)) (c i)/1024*4096=ad (fr i):=by
 have hq:=h.pag (List.mem_range.2 hi)
 have hval:=hq.val hN
 have:=hq.cb
 have:=hq.qb.1
 rw[hval]
 unfold ad
 omega
theorem lvA_lkF (h:SpL N r ft B L F lf fr c (List.range P)) (hN:N<=4096):(lvA fr c P).map Go.Proofs.YtabnipbdbnmmpaaGreatDoor.Rm.lkF=lkP fr c P:=by
 unfold lvA lkP
 rw[List.map_map]
 refine List.map_congr_left fun i hi=>?_
 have:=h.lkF hN (List.mem_range.1 hi)
 simp only[Function.comp,Go.Proofs.YtabnipbdbnmmpaaGreatDoor.Rm.lkF,this.2.2]
 congr 1
 omega
theorem SpT.ndlen (h:SpT w s p b m N r P ft size B L F lf fr c):(ndl r (evs F lf 0)).length=nodesF F+1:=by
 rw[ndl_nodes h.tab.pt r]
 unfold nodesF
 omega
set_option maxRecDepth 100000 in
theorem slook_any (h:SpT w s p b m N r P ft size B L F lf fr c) (hn:nodesF F+1<=12):Calls Tryz.prog 69 #[.pointer (some ⟨s,0,.none⟩)] w (LkP w (nodesF F+1) P (ndl r (evs F lf 0)) fr c):=by
 have hnl:=h.ndlen
 have hpm:=h.pm
 obtain⟨n,hnn⟩:∃ n,n=nodesF F+1:=⟨_,rfl⟩
 rw[<-hnn] at hn hnl ⊢
 have hn1:1<=n:=by omega
 obtain⟨xs,hxs⟩:∃ xs,xs=ndl r (evs F lf 0):=⟨_,rfl⟩
 rw[<-hxs] at hnl ⊢
 obtain⟨W0,hW0⟩:∃ W0,W0=w.alloc (.cells #[.slice none 0 0] 134):=⟨_,rfl⟩
 obtain⟨Bn,hBn⟩:∃ Bn,Bn=w.heap.size:=⟨_,rfl⟩
 have b0:Below w.heap.size w W0:=by rw[hW0];exact below1 _ _
 have s0:W0.heap.size=Bn+1:=by rw[hW0,hBn];simp
 have q0:W0.cell? ⟨Bn,0,.none⟩=some (.slice none 0 0):=by rw[hW0,hBn];simp
 have f0:W0.frozen? ⟨Bn,0,.none⟩=false:=by rw[hW0,hBn];simp
 have S0:=h.below b0
 have c43:=made_sp S0.sp
 have c59:=nodes_any (w:=W0.drew) S0.ram.drew S0.tab.pt S0.tab.rt
 rw[<-hxs,hnl] at c59
 have k0:=S0.sp.c0
 have k1:=S0.sp.c1
 have HW:Hid (SpT w s p b m N r P ft size B L F lf fr c∧Below w.heap.size w W0∧W0.heap.size=Bn+1∧W0.cell? ⟨Bn,0,.none⟩=some (.slice none 0 0)∧W0.frozen? ⟨Bn,0,.none⟩=false∧Bn=w.heap.size):=⟨h,b0,s0,q0,f0,hBn⟩
 have HX:Hid (xs.length=n∧xs=ndl r (evs F lf 0)):=⟨hnl,hxs⟩
 clear h b0 s0 q0 f0 S0 hnl hxs hnn
 refine(callsIn_wide (n:=3)).1 ?_
 refine callsIn_of_wp_marks Tryz.func69 rfl trivial ?_ rfl
 refine wpIn_wide.2 ?_
 simp only[Tryz.ntmps69,List.size_toArray,List.length_cons,List.length_nil,Nat.reduceAdd,Nat.reduceSub,Array.replicate_succ,Array.replicate_zero,List.push_toArray,List.append_toArray,List.nil_append,List.cons_append]
 go_upto_region 1 with fail
 rw[<-hW0,<-hBn]
 clear hW0 hBn
 go_upto_region 3 with(go_at_call 46;refine c43.mono ?_;rintro _ w2 ⟨rfl,e2⟩;obtain rfl:W0=w2:=e2.symm;clear e2)
 have kS:W0.drew.cell? ⟨s,0,.none⟩=some (.pointer (some ⟨p,0,.none⟩))∧W0.drew.cell? ⟨s,1,.none⟩=some (.int .u64 (ad r)):=⟨k0,k1⟩
 refine region_only ?_
 refine wp_region_held_drew (S:=(fun U=>U.cell? ⟨s,0,.none⟩=some (.pointer (some ⟨p,0,.none⟩))∧U.cell? ⟨s,1,.none⟩=some (.int .u64 (ad r)))) (by kernel_rfl) kS (fun hHeld=>?_)
 refine wpAnyH_take (i:=0) (v:=(.pointer (some ⟨s,0,.none⟩))) rfl (by kernel_rfl) (by kernel_rfl) (by kernel_rfl) (fun _ _ _ h=>by cases h.1) (Or.inl ⟨by rfl,fun ww hSw=>by (try dsimp only at hSw);go_simp⟩) (by assumption) ?_
 simp only[xX]
 refine wpAnyH_take (i:=1) (v:=(.pointer (some ⟨s,0,.none⟩))) rfl (by kernel_rfl) (by kernel_rfl) (by kernel_rfl) (fun _ _ _ h=>by cases h.1) (Or.inl ⟨by rfl,fun ww hSw=>by (try dsimp only at hSw);go_simp⟩) (by assumption) ?_
 simp only[xX]
 refine wpAnyH_take (i:=2) (v:=(.pointer (some ⟨s,0,.none⟩))) rfl (by kernel_rfl) (by kernel_rfl) (by kernel_rfl) (fun _ _ _ h=>by cases h.1) (Or.inl ⟨by rfl,fun ww hSw=>by (try dsimp only at hSw);go_simp⟩) (by assumption) ?_
 simp only[xX]
 refine wpAnyH_take (i:=3) (v:=(.pointer (some ⟨s,0,.none⟩))) rfl (by kernel_rfl) (by kernel_rfl) (by kernel_rfl) (fun _ _ _ h=>by cases h.1) (Or.inl ⟨by rfl,fun ww hSw=>by (try dsimp only at hSw);go_simp⟩) (by assumption) ?_
 simp only[xX]
 refine wpAnyH_take (i:=4) (v:=(.pointer (some ⟨p,0,.none⟩))) rfl (by kernel_rfl) (by kernel_rfl) (by kernel_rfl) (fun _ _ _ h=>by cases h.1) (Or.inl ⟨by rfl,fun ww hSw=>by (try dsimp only at hSw);go_simp⟩) (by assumption) ?_
 simp only[xX]
 refine wpAnyH_take (i:=5) (v:=(.pointer (some ⟨s,0,.none⟩))) rfl (by kernel_rfl) (by kernel_rfl) (by kernel_rfl) (fun _ _ _ h=>by cases h.1) (Or.inl ⟨by rfl,fun ww hSw=>by (try dsimp only at hSw);go_simp⟩) (by assumption) ?_
 simp only[xX]
 refine wpAnyH_take (i:=6) (v:=(.pointer (some ⟨s,0,.none⟩))) rfl (by kernel_rfl) (by kernel_rfl) (by kernel_rfl) (fun _ _ _ h=>by cases h.1) (Or.inl ⟨by rfl,fun ww hSw=>by (try dsimp only at hSw);go_simp⟩) (by assumption) ?_
 simp only[xX]
 refine wpAnyH_take (i:=7) (v:=(.pointer (some ⟨s,0,.none⟩))) rfl (by kernel_rfl) (by kernel_rfl) (by kernel_rfl) (fun _ _ _ h=>by cases h.1) (Or.inl ⟨by rfl,fun ww hSw=>by (try dsimp only at hSw);go_simp⟩) (by assumption) ?_
 simp only[xX]
 refine wpAnyH_take (i:=8) (v:=(.pointer (some ⟨s,1,.none⟩))) rfl (by kernel_rfl) (by kernel_rfl) (by kernel_rfl) (fun _ _ _ h=>by cases h.1) (Or.inl ⟨by rfl,fun ww hSw=>by (try dsimp only at hSw);go_simp⟩) (by assumption) ?_
 simp only[xX]
 refine wpAnyH_take (i:=9) (v:=(.int .u64 (ad r))) rfl (by kernel_rfl) (by kernel_rfl) (by kernel_rfl) (fun _ _ _ h=>by cases h.1) (Or.inl ⟨by rfl,fun ww hSw=>by (try dsimp only at hSw);go_simp⟩) (by assumption) ?_
 simp only[xX]
 refine zR 10 rfl (fun K hK=>?_)
 go_simp
 go_at_call 125
 refine(c59).mono ?_
 rintro _ w3 ⟨g,cp,rfl,o3,b3⟩
 have b3:Below W0.heap.size W0 w3:=zB.drew.trans b3
 have H3:Hid (w3.ownsRow W0.heap.size 23 1 (.slice (some ⟨g,0,.none⟩) n cp) n (wv xs)∧Below W0.heap.size W0 w3):=⟨o3,b3⟩
 have kS3:w3.cell? ⟨s,0,.none⟩=some (.pointer (some ⟨p,0,.none⟩))∧w3.cell? ⟨s,1,.none⟩=some (.int .u64 (ad r)):=⟨(b3.cell (p:=⟨s,0,.none⟩) (zC k0)).trans k0,(b3.cell (p:=⟨s,1,.none⟩) (zC k1)).trans k1⟩
 clear o3 b3 c59
 refine hK.out _ _ kS3 (fun hHeld=>?_)
 clear hK K
 try simp only[xX]
 refine wpAnyH_take (i:=11) (v:=(.slice (some ⟨g,0,.none⟩) n cp)) rfl (by kernel_rfl) (by kernel_rfl) (by kernel_rfl) (fun _ _ _ h=>by cases h.1) (Or.inl ⟨by rfl,fun ww hSw=>by (try dsimp only at hSw);go_simp⟩) (by assumption) ?_
 simp only[xX]
 refine wpAnyH_done (by kernel_rfl) ?_ _
 refine⟨rfl,?_⟩
 go_upto_region 4 with fail
 have c60:=sort_small HX.out.1 ⟨hn1,hn⟩ H3.out.1
 unfold SoP at c60
 have H4:Hid (Below w.heap.size w w3):=HW.out.2.1.trans (H3.out.2.mono HW.out.2.1.size)
 clear k0 k1
 go_upto_region 5 with(go_at_call 126;refine c60.mono ?_;rintro _ w4 ⟨rfl,ys,y1,y2,y3⟩;have H5:Hid (ys.Perm xs∧ys.Pairwise (· <= ·)∧SrI w3 W0.heap.size g n cp ys w4):=⟨y1,y2,y3⟩;clear y1 y2 y3 c60)
 have b4:Below W0.heap.size W0 w4:=by
  have hg:=own_lt H3.out.1
  have i4:=H5.out.2.2
  have b3:=H3.out.2
  exact⟨i4.os.trans b3.os,i4.tape.trans b3.tape,i4.output.trans b3.output,Nat.le_trans b3.size i4.size,fun k hk=>(i4.block k (Nat.lt_of_lt_of_le hk b3.size) (by omega)).trans (b3.block k hk)⟩
 have S4:SpT w4 s p b m N r P ft size B L F lf fr c:=(HW.out.1.below HW.out.2.1).below b4
 have k0:=S4.sp.c0
 have k1:=S4.sp.c1
 have kS:w4.drew.cell? ⟨s,0,.none⟩=some (.pointer (some ⟨p,0,.none⟩))∧w4.drew.cell? ⟨s,1,.none⟩=some (.int .u64 (ad r)):=⟨k0,k1⟩
 obtain⟨wd,hwd⟩:∃ wd,wd=w4.drew:=⟨_,rfl⟩
 obtain⟨V,hV⟩:∃ V,V=((wd.alloc (.cells #[.pointer (some ⟨p,0,.none⟩)] 27)).alloc (.cells #[.int .u64 (ad r)] 23)):=⟨_,rfl⟩
 obtain⟨z1,hz1⟩:∃ z1,z1=wd.heap.size:=⟨_,rfl⟩
 have hz4:z1=w4.heap.size:=by rw[hz1,hwd];rfl
 have bV:Below w4.heap.size w4 V:=by rw[hV,hwd];exact(zB.drew.alloc zL _).alloc (by simp) _
 have sV:V.heap.size=z1+2:=by rw[hV,hz1];simp
 have v1:V.cell? ⟨z1,0,.none⟩=some (.pointer (some ⟨p,0,.none⟩)):=by rw[hV,hz1];simp
 have v2:V.cell? ⟨z1+1,0,.none⟩=some (.int .u64 (ad r)):=by rw[hV,hz1];simp
 have SV:=S4.below bV
 have hseq:=fun k=>leaves_seq SV.ram SV.tab.pt SV.tab.rt k _ _ v1 v2
 rw[SV.tab.leaves] at hseq
 have c61:=leaves_any p (ad r) wd
 rw[<-hV,<-hz1,hwd] at c61
 have hBs:Bn<W0.heap.size:=by have:=HW.out.2.2.1;omega
 have hBV:V.cell? ⟨Bn,0,.none⟩=some (.slice none 0 0)∧V.frozen? ⟨Bn,0,.none⟩=false:=by
  have hs:=b4.size
  exact⟨(bV.cell (p:=⟨Bn,0,.none⟩) (by show Bn<w4.heap.size;omega)).trans ((b4.cell (p:=⟨Bn,0,.none⟩) hBs).trans HW.out.2.2.2.1),(bV.frozen (p:=⟨Bn,0,.none⟩) (by show Bn<w4.heap.size;omega)).trans ((b4.frozen (p:=⟨Bn,0,.none⟩) hBs).trans HW.out.2.2.2.2.1)⟩
 have hI0:LkI V Bn [] V:=⟨Nat.le_refl _,rfl,rfl,rfl,fun _ _ _=>rfl,⟨_,hBV.1,World.ownsRow_nil V _ _ _⟩,hBV.2,fun y hy=>(by cases hy)⟩
 have hpl:p<Bn∧b<Bn∧m<Bn:=by rw[HW.out.2.2.2.2.2];exact⟨HW.out.1.ram.mem.plt,HW.out.1.ram.mem.blt,HW.out.1.ram.mem.mlt⟩
 have oV:V.ownsRow w.heap.size 23 1 (.slice (some ⟨g,0,.none⟩) n cp) n (wv ys):=by
  have o4:=H5.out.2.2.own
  have hg:=own_lt o4
  exact own_low (own_block o4 (bV.block g hg.2.1)) HW.out.2.1.size
 have hgV:g<V.heap.size∧g≠Bn:=by
  have hg:=own_lt H5.out.2.2.own
  have:=bV.size
  omega
 have HV:Hid ((∀ k,SeqK k 169 #[.pointer (some ⟨z1,0,.none⟩),.pointer (some ⟨z1+1,0,.none⟩)] lvE (lvA fr c P ++ lvZ ft) p b m V)∧LkI V Bn [] V∧(p<Bn∧b<Bn∧m<Bn)∧V.ownsRow w.heap.size 23 1 (.slice (some ⟨g,0,.none⟩) n cp) n (wv ys)∧(g<V.heap.size∧g≠Bn)∧SpL N r ft B L F lf fr c (List.range P)∧N<=4096∧Below W0.heap.size W0 V∧ys.Perm xs∧ys.Pairwise (· <= ·)):=⟨hseq,hI0,hpl,oV,hgV,SV.tab,SV.ram.mem.n2,b4.trans (bV.mono b4.size),H5.out.1,H5.out.2.1⟩
 have HKV:Hid (V.cell? ⟨s,0,.none⟩=some (.pointer (some ⟨p,0,.none⟩))∧V.cell? ⟨s,1,.none⟩=some (.int .u64 (ad r))):=⟨SV.sp.c0,SV.sp.c1⟩
 have hB:Bn<V.heap.size:=by have:=b4.size;have:=bV.size;omega
 clear hseq hI0 hpl oV hgV SV v1 v2 bV hBV S4 b4 k0 k1 H5 H3 H4
 refine region_only ?_
 refine wp_region_held_drew (S:=(fun U=>U.cell? ⟨s,0,.none⟩=some (.pointer (some ⟨p,0,.none⟩))∧U.cell? ⟨s,1,.none⟩=some (.int .u64 (ad r)))) (by kernel_rfl) kS (fun hHeld=>?_)
 refine wpAnyH_take (i:=0) (v:=(.pointer (some ⟨s,0,.none⟩))) rfl (by kernel_rfl) (by kernel_rfl) (by kernel_rfl) (fun _ _ _ h=>by cases h.1) (Or.inl ⟨by rfl,fun ww hSw=>by (try dsimp only at hSw);go_simp⟩) (by assumption) ?_
 simp only[xX]
 refine wpAnyH_take (i:=1) (v:=(.pointer (some ⟨s,0,.none⟩))) rfl (by kernel_rfl) (by kernel_rfl) (by kernel_rfl) (fun _ _ _ h=>by cases h.1) (Or.inl ⟨by rfl,fun ww hSw=>by (try dsimp only at hSw);go_simp⟩) (by assumption) ?_
 simp only[xX]
 refine wpAnyH_take (i:=2) (v:=(.pointer (some ⟨s,0,.none⟩))) rfl (by kernel_rfl) (by kernel_rfl) (by kernel_rfl) (fun _ _ _ h=>by cases h.1) (Or.inl ⟨by rfl,fun ww hSw=>by (try dsimp only at hSw);go_simp⟩) (by assumption) ?_
 simp only[xX]
 refine wpAnyH_take (i:=3) (v:=(.pointer (some ⟨s,0,.none⟩))) rfl (by kernel_rfl) (by kernel_rfl) (by kernel_rfl) (fun _ _ _ h=>by cases h.1) (Or.inl ⟨by rfl,fun ww hSw=>by (try dsimp only at hSw);go_simp⟩) (by assumption) ?_
 simp only[xX]
 refine wpAnyH_take (i:=4) (v:=(.pointer (some ⟨p,0,.none⟩))) rfl (by kernel_rfl) (by kernel_rfl) (by kernel_rfl) (fun _ _ _ h=>by cases h.1) (Or.inl ⟨by rfl,fun ww hSw=>by (try dsimp only at hSw);go_simp⟩) (by assumption) ?_
 simp only[xX]
 refine wpAnyH_take (i:=5) (v:=(.pointer (some ⟨s,0,.none⟩))) rfl (by kernel_rfl) (by kernel_rfl) (by kernel_rfl) (fun _ _ _ h=>by cases h.1) (Or.inl ⟨by rfl,fun ww hSw=>by (try dsimp only at hSw);go_simp⟩) (by assumption) ?_
 simp only[xX]
 refine wpAnyH_take (i:=6) (v:=(.pointer (some ⟨s,0,.none⟩))) rfl (by kernel_rfl) (by kernel_rfl) (by kernel_rfl) (fun _ _ _ h=>by cases h.1) (Or.inl ⟨by rfl,fun ww hSw=>by (try dsimp only at hSw);go_simp⟩) (by assumption) ?_
 simp only[xX]
 refine wpAnyH_take (i:=7) (v:=(.pointer (some ⟨s,0,.none⟩))) rfl (by kernel_rfl) (by kernel_rfl) (by kernel_rfl) (fun _ _ _ h=>by cases h.1) (Or.inl ⟨by rfl,fun ww hSw=>by (try dsimp only at hSw);go_simp⟩) (by assumption) ?_
 simp only[xX]
 refine wpAnyH_take (i:=8) (v:=(.pointer (some ⟨s,1,.none⟩))) rfl (by kernel_rfl) (by kernel_rfl) (by kernel_rfl) (fun _ _ _ h=>by cases h.1) (Or.inl ⟨by rfl,fun ww hSw=>by (try dsimp only at hSw);go_simp⟩) (by assumption) ?_
 simp only[xX]
 refine wpAnyH_take (i:=9) (v:=(.int .u64 (ad r))) rfl (by kernel_rfl) (by kernel_rfl) (by kernel_rfl) (fun _ _ _ h=>by cases h.1) (Or.inl ⟨by rfl,fun ww hSw=>by (try dsimp only at hSw);go_simp⟩) (by assumption) ?_
 simp only[xX]
 refine zR 10 rfl (fun K hK=>?_)
 go_simp
 go_at_call 127
 refine(c61).mono ?_
 rintro _ w5 ⟨rfl,e5⟩
 obtain rfl:V=w5:=e5.symm
 have kSV:V.cell? ⟨s,0,.none⟩=some (.pointer (some ⟨p,0,.none⟩))∧V.cell? ⟨s,1,.none⟩=some (.int .u64 (ad r)):=HKV.out
 clear e5 c61 hV hz1 hz4 hwd sV
 refine hK.out _ _ kSV (fun hHeld=>?_)
 clear hK K
 try simp only[xX]
 refine wpAnyH_done (by kernel_rfl) ?_ _
 refine⟨rfl,?_⟩
 go_wp2_with fail
 refine(wpIn_wide (n:=3)).1 (range_KB (id:=0) (α:=Int×Int) (by omega) (gf:=169) (lb:=#[.pointer (some ⟨z1,0,.none⟩),.pointer (some ⟨z1+1,0,.none⟩)]) rfl (enters_of Tryz.func169 (by kernel_rfl) rfl) zB (HV.out.1 2) (by have:=HV.out.2.2.1;omega) (fun _=>rfl)
  (LkI V Bn) (LkG V Bn) (LkI.own hB) (LkI.gd hB) (fun s k W l o o' h hk _ hl _ _=>hk.put hB hl) HV.out.2.1 (LkX V Bn) (fun pre W l o o' h hl ho hc=>h.put hB hl ho hc) (fun _ _ _ h hm=>h.mv hB hm) (fun s k W l o o' h hk _ hl _ _=>hk.put hB hl)
  (fun x a' W=>a' = { tmps:=#[.pointer (some ⟨s,0,.none⟩),undef,.slice (some ⟨g,0,.none⟩) n cp,.pointer (some ⟨Bn,0,.none⟩),.int .u64 x.1,.int .u64 x.2,.pointer (some ⟨s,0,.none⟩),.bool true,.bool false,.pointer (some ⟨s,0,.none⟩),.pointer (some ⟨s,0,.none⟩),.pointer (some ⟨s,0,.none⟩),.pointer (some ⟨s,0,.none⟩),.pointer (some ⟨p,0,.none⟩),.pointer (some ⟨s,0,.none⟩),.pointer (some ⟨s,0,.none⟩),.pointer (some ⟨s,0,.none⟩),.pointer (some ⟨s,1,.none⟩),.int .u64 (ad r),.slice (some ⟨g,0,.none⟩) n cp,.slice (some ⟨g,0,.none⟩) n cp,.tuple #[],.pointer (some ⟨s,0,.none⟩),.pointer (some ⟨s,0,.none⟩),.pointer (some ⟨s,0,.none⟩),.pointer (some ⟨s,0,.none⟩),.pointer (some ⟨p,0,.none⟩),.pointer (some ⟨s,0,.none⟩),.pointer (some ⟨s,0,.none⟩),.pointer (some ⟨s,0,.none⟩),.pointer (some ⟨s,1,.none⟩),.int .u64 (ad r),.func (.func 169) #[] #[.pointer (some ⟨z1,0,.none⟩),.pointer (some ⟨z1+1,0,.none⟩)],.int .u64 x.1,.int .u64 x.2,undef,undef,undef,undef,undef,undef,undef,undef,undef,undef,undef,undef,undef,undef],defers:=[] }) (fun x a' W l o o' h _ _ _=>h) ?assign ?body ?done ?left)
 case assign=>
  intro l' x U K hU hK
  simp only[lvE]
  gi_wp2
  exact hK _ _ zB rfl
 case done=>
  rintro D U hD hI hDd
  have:=hI.low (274877898752,toP (ad ft) 198) (by unfold lvZ;simp)
  simp only at this
  omega
 case left=>
  rintro D U pre hD hpre ⟨q,x,rfl,hx,hI⟩ hDd
  have hq:q=lvA fr c P:=pre_split (fun y hy=>by obtain⟨i,hi,rfl⟩:=List.mem_map.1 hy;have:=List.mem_range.1 hi;simp only;omega) (fun y hy=>by unfold lvZ at hy;simp at hy;rcases hy with rfl|rfl<;>simp only<;>omega) q x hI.low hx hpre
  subst hq
  obtain⟨v,k1,k2⟩:=hI.row
  rw[lvA_lkF HV.out.2.2.2.2.2.1 HV.out.2.2.2.2.2.2.1] at k2
  have hlA:(lvA fr c P).length=P:=by unfold lvA;simp
  rw[hlA] at k2
  obtain⟨qq,cq,rfl⟩:=own_shape k2
  have kf:=hI.frz
  have HI:Hid (LkI V Bn (lvA fr c P) U∧U.ownsRow V.heap.size 139 3 (.slice qq P cq) P (pcs (lkP fr c P))∧V.heap.size<=D∧U.heap[D]? = some (.deferred (some []))):=⟨hI,k2,hD,hDd⟩
  clear hI k2 hpre hx hD hDd
  go_wp2_with fail
  refine region_only ?_
  go_region
  refine⟨rfl,?_⟩
  go_wp2_with fail
  obtain⟨U2,hU2⟩:∃ U2,U2=(U.setCell ⟨Bn,0,.none⟩ (.slice qq P cq)).drew:=⟨_,rfl⟩
  rw[<-hU2]
  obtain⟨hI,k2,hD,hDd⟩:=HI.out
  have hDB:D≠Bn:=by omega
  have kb:∀ k,k≠Bn->U2.heap[k]? = U.heap[k]?:=fun k hk=>by rw[hU2];exact Below.heap_setCell U _ _ k hk
  have sz:U2.heap.size=U.heap.size:=by rw[hU2];show (U.setCell _ _).heap.size=_;simp
  have cB:U2.cell? ⟨Bn,0,.none⟩=some (.slice qq P cq):=by rw[hU2];exact World.cell?_setCell_same' _ _ _ (by rw[k1];rfl)
  have hO:U2.os=U.os∧U2.tape=U.tape∧U2.output=U.output:=by rw[hU2];exact⟨rfl,rfl,rfl⟩
  have hD2:=(kb D hDB).trans hDd
  have hres:(U2.putObj D (.deferred none)).cell? ⟨Bn,0,.none⟩=some (.slice qq P cq):=(World.cell?_of_block (a:=⟨Bn,0,.none⟩) (World.putObj_heap_other (by show Bn≠D;omega))).trans cB
  refine⟨by simp,.inl ⟨_,_,rfl,run_takeDeferred hD2,?_⟩⟩
  have kp:∀ k,k≠Bn->k≠D->(U2.putObj D (.deferred none)).heap[k]? = U.heap[k]?:=fun k h1 h2=>(World.putObj_heap_other h2).trans (kb k h1)
  have hw0:=HW.out
  refine⟨.tuple #[.slice (some ⟨g,0,.none⟩) n cp,.slice qq P cq],by simp[results,Tryz.results69,go_sem,hres],g,cp,ys,qq,cq,rfl,⟨HV.out.2.2.2.2.2.2.2.2.1,HV.out.2.2.2.2.2.2.2.2.2⟩,?_,?_,?_⟩
  ·have hg:=HV.out.2.2.2.2.1
   have hDg:g≠D:=by omega
   exact own_block HV.out.2.2.2.1 ((kp g hg.2 hDg).trans (hI.block g hg.1 hg.2))
  ·refine own_low (own_blk k2 (fun gg hgg _=>kp gg (fun e=>?_) (fun e=>?_))) (by have:=hw0.2.1.size;have:=HV.out.2.2.2.2.2.2.2.1.size;omega)
   ·have:=(own_cells k2 hgg).1;omega
   ·obtain⟨_,_,cur,t,f,h9⟩:=own_cells k2 hgg
    rw[e,hDd] at h9
    cases h9
  ·have bb:=HV.out.2.2.2.2.2.2.2.1
   have b9:=hw0.2.1
   have hs9:=hI.size
   have z9:=bb.size
   have z8:=b9.size
   refine⟨hO.1.trans (hI.os.trans (bb.os.trans b9.os)),hO.2.1.trans (hI.tape.trans (bb.tape.trans b9.tape)),hO.2.2.trans (hI.output.trans (bb.output.trans b9.output)),?_,fun k hk=>?_⟩
   ·simp[World.putObj]
    omega
   ·have hkB:k≠Bn:=by rw[hw0.2.2.2.2.2];omega
    rw[kp k hkB (by omega),hI.block k (by omega) hkB,bb.block k (by omega),b9.block k hk]
 case body=>
  rintro l' pre ⟨xa,xe⟩ a' U hI rfl hlen
  dsimp only
  obtain⟨x,hxx⟩:∃ x:Int×Int,x=(xa,xe):=⟨_,rfl⟩
  have e1:x.1=xa:=by rw[hxx]
  have e2:x.2=xe:=by rw[hxx]
  have HXX:Hid (x=(xa,xe)):=hxx
  rw[<-hxx] at hlen ⊢
  clear hxx
  have hxl:x∈lvA fr c P ++ lvZ ft:=hlen.subset (by simp)
  by_cases hxt:274877894656<=x.1
  ·have HE:Hid (KeepsFrom V.heap.size U U∧KpG (LkG V Bn) p b m U U∧LkX V Bn (pre ++ [x]) U):=⟨KeepsFrom.refl _ _,⟨fun g o hg ho=>⟨ho,hg⟩,rfl,rfl,rfl,Nat.le_refl _⟩,pre,x,rfl,hxt,hI⟩
   have hxt2:274877894656<=xa:=by omega
   clear hI hlen hxl hxt e1 e2
   gi_wp2
   exact HE.out
  ·have hxA:∃ i,i<P∧x=((i:Int)*4096,toP (ad (fr i)) (c i)):=by
    rcases List.mem_append.1 hxl with h|h
    ·obtain⟨i,hi,rfl⟩:=List.mem_map.1 h
     exact⟨i,List.mem_range.1 hi,rfl⟩
    ·unfold lvZ at h
     simp at h
     rcases h with rfl|rfl<;>simp only at hxt<;>omega
   obtain⟨i,hi,hxe⟩:=hxA
   have hfb:=HV.out.2.2.2.2.2.1.lkF HV.out.2.2.2.2.2.2.1 hi
   have hx0:0<=x.1∧x.1<274877894656:=by rw[hxe];simp only;omega
   have hx2:0<=x.2∧x.2<18014398509481984:=by rw[hxe];exact⟨hfb.1,hfb.2.1⟩
   have hplen:pre.length<=4098:=by
    have h1:=hlen.length_le
    unfold lvA lvZ at h1
    simp at h1
    omega
   have c62:=fun W=>frameOf_any xe (by omega) W
   obtain⟨pgn,hpgn⟩:∃ pgn,pgn=xa/4096:=⟨_,rfl⟩
   obtain⟨frm,hfrm⟩:∃ frm,frm=xe/1024*4096:=⟨_,rfl⟩
   obtain⟨prm,hprm⟩:∃ prm,prm=bits .and .u64 xe 30:=⟨_,rfl⟩
   rw[<-hfrm] at c62
   have hpc:pc (lkF x) = [.int .u64 pgn,.int .u64 frm,.int .u64 prm]:=by unfold pc lkF;rw[hpgn,hfrm,hprm,e1,e2]
   have hdv:IntKind.u64.wrap (xa.tdiv 4096)=pgn:=by rw[Int.tdiv_eq_ediv_of_nonneg (by omega),IntKind.wrap_u64,hpgn];omega
   obtain⟨v,k1,k2⟩:=hI.row
   obtain⟨i3,z3,hi3,hz3,hs3,hb3,hzs3⟩:=look_info
   obtain⟨V1,hV1⟩:∃ V1,V1=(U.alloc (.cells #[.int .u64 pgn,.int .u64 frm,.int .u64 prm] 139)).drew:=⟨_,rfl⟩
   have bV1:Below U.heap.size U V1:=by rw[hV1];exact(below1 U _).drew
   have cV1:∀ j u,[Value.int .u64 pgn,.int .u64 frm,.int .u64 prm][j]? = some u->V1.cell? ((⟨U.heap.size,0,.none⟩:Addr).add j)=some u:=by rw[hV1];exact three_new U _ _ _ _
   have kB:U.drew.cell? ⟨Bn,0,.none⟩=some v:=k1
   have kB1:V1.cell? ⟨Bn,0,.none⟩=some v:=(bV1.cell (zC k1)).trans k1
   have HOV:Hid (V1.ownsRow V.heap.size 139 3 v pre.length (pcs (pre.map lkF))):=own_blk k2 (fun g _ hg=>bV1.block g hg)
   have hsW:V.heap.size<=V1.heap.size:=Nat.le_trans hI.size bV1.size
   have oB:v.ownBlock≠some Bn:=fun e=>by have:=(own_cells k2 e).1;omega
   have HST:Hid (∀ V2 v',V2.ownsRow V.heap.size 139 3 v' (pre.length+1) (pcs (pre.map lkF) ++ [.int .u64 pgn,.int .u64 frm,.int .u64 prm])->V1.grownBy V2 v.ownBlock->(v'.ownBlock=v.ownBlock∨v'.ownBlock=some V1.heap.size)->KeepsFrom V.heap.size U (V2.setCell ⟨Bn,0,.none⟩ v')∧KpG (LkG V Bn) p b m U (V2.setCell ⟨Bn,0,.none⟩ v')∧LkI V Bn (pre ++ [x]) (V2.setCell ⟨Bn,0,.none⟩ v')):=fun V2 v' ho hg hor=>by
    rw[<-hpc] at ho
    exact hI.step (x:=x) (Y:=V.heap.size) hB k1 k2 bV1 ho hg hor ⟨by have:=HV.out.2.2.1;omega,by have:=HV.out.2.2.1;omega,by have:=HV.out.2.2.1;omega,by have:=HV.out.2.2.1;omega,by have:=HV.out.2.2.1;omega,by have:=HV.out.2.2.1;omega⟩ hx0.2
   have HBE:Hid (∀ V2:World,V1.grownBy V2 v.ownBlock->V2.cell? ⟨Bn,0,.none⟩=some v∧V2.frozen? ⟨Bn,0,.none⟩=false):=fun V2 hg=>by
    have hb:=hg.block Bn (zC kB1) (fun e=>oB e.symm)
    exact⟨(World.cell?_of_block (a:=⟨Bn,0,.none⟩) hb).trans kB1,(World.frozen?_of_block (a:=⟨Bn,0,.none⟩) hb).trans ((bV1.frozen (p:=⟨Bn,0,.none⟩) (zC k1)).trans hI.frz)⟩
   have hpr2:bits .and .u64 xe 30=prm:=hprm.symm
   clear hprm
   have HV1:Hid (V1=(U.alloc (.cells #[.int .u64 pgn,.int .u64 frm,.int .u64 prm] 139)).drew):=hV1
   have HC1:Hid (∀ j u,[Value.int .u64 pgn,.int .u64 frm,.int .u64 prm][j]? = some u->V1.cell? ((⟨U.heap.size,0,.none⟩:Addr).add j)=some u):=cV1
   have HVU:Hid (V.heap.size<=V1.heap.size):=hsW
   have hxn:¬ 274877894656<=xa:=by omega
   clear hI k1 k2 hlen hxl hV1 hpc cV1 bV1 hsW hxe hfb oB hfrm hpgn e1 e2 hxt hx0 hx2
   gi_wp2
   refine wpIn_region_held (S:=(fun _:World=>True)) (by kernel_rfl) (no_defer_of (by kernel_rfl)) (fun hL=>by obtain⟨_,_,hL⟩:=hL;first|exact hL|(rcases hL with⟨h,_⟩|⟨h,_⟩<;>cases h)) trivial (fun hHeld=>?_)
   refine aT 1 (.int .u64 xa) rfl ?_
   simp only[xX]
   refine aT 2 (.int .u64 pgn) rfl ?_
   simp only[xX]
   refine aT 3 (.int .u64 xe) rfl ?_
   simp only[xX]
   refine aT 5 (.int .u64 xe) rfl ?_
   simp only[xX]
   refine aT 6 (.int .u64 prm) rfl ?_
   simp only[xX]
   refine wpAnyH_ready (rs:=[0,4]) (by kernel_rfl) (by simp) ?_
   refine AllReadyH.cons rfl (fun K hK=>?_) (AllReadyH.cons rfl (fun K hK=>?_) AllReadyH.nil)
   ·skip
    go_simp
    refine hK.out _ _ trivial (fun hHeld=>?_)
    clear hK K
    try simp only[xX]
    refine zR 4 rfl (fun K hK=>?_)
    go_simp
    go_at_call 128
    refine(c62 _).mono ?_
    rintro _ W4 ⟨rfl,e4⟩
    obtain rfl:U.drew=W4:=e4.symm
    refine hK.out _ _ trivial (fun hHeld=>?_)
    clear hK K
    try simp only[xX]
    refine aT 7 (.agg #[.int .u64 pgn,.int .u64 frm,.int .u64 prm]) rfl ?_
    simp only[xX]
    refine zR 8 rfl (fun K hK=>?_)
    go_simp
    rw[<-HV1.out]
    refine hK.out _ _ trivial (fun hHeld=>?_)
    clear hK K
    try simp only[xX]
    refine zR 9 rfl (fun K hK=>?_)
    refine step_append_at rfl (.tmp 37) (.tmp 45) 134 rfl V.heap.size 139 i3 z3 3 24 Tryz.underlying134 hi3 hz3 hs3 hb3 hzs3 (by decide) v pre.length (pcs (pre.map lkF)) (by simp[Act.eval,Act.put]) HOV.out ⟨U.heap.size,0,.none⟩ 1 1 [.int .u64 pgn,.int .u64 frm,.int .u64 prm] (by simp[Act.eval,Act.put]) rfl HC1.out (fun u hu=>by simp at hu;rcases hu with rfl|rfl|rfl<;>rfl) (by simp only[maxLen];omega) (by omega) HVU.out ?_
    intro v' V2 own' grow fb
    obtain⟨g',c',rfl⟩:∃ g' c',v' = .slice (some ⟨g',0,.none⟩) (pre.length+1) c':=by
     rcases own'.2 with⟨_,h0⟩|⟨g',cap,cur,hv,_⟩
     ·omega
     ·exact⟨g',cap,hv⟩
    have HP9:=HST.out V2 _ own' grow fb
    obtain⟨v1,v2⟩:=HBE.out V2 grow
    clear own' grow fb
    refine hK.out _ _ trivial (fun hHeld=>?_)
    clear hK K
    try simp only[xX]
    refine zR 10 rfl (fun K hK=>?_)
    go_simp
    refine hK.out _ _ trivial (fun hHeld=>?_)
    clear hK K
    try simp only[xX]
    refine wpAnyH_done (by kernel_rfl) ?_ _
    have HP8:Hid _:=HP9
    clear HP9 v1 v2
    gi_wp2
    exact HP8.out
   ·skip
    go_simp
    go_at_call 128
    refine(c62 _).mono ?_
    rintro _ W4 ⟨rfl,e4⟩
    obtain rfl:U.drew=W4:=e4.symm
    refine hK.out _ _ trivial (fun hHeld=>?_)
    clear hK K
    try simp only[xX]
    refine aT 7 (.agg #[.int .u64 pgn,.int .u64 frm,.int .u64 prm]) rfl ?_
    simp only[xX]
    refine wpAnyH_ready (rs:=[0,8]) (by kernel_rfl) (by simp) ?_
    refine AllReadyH.cons rfl (fun K hK=>?_) (AllReadyH.cons rfl (fun K hK=>?_) AllReadyH.nil)
    ·skip
     go_simp
     refine hK.out _ _ trivial (fun hHeld=>?_)
     clear hK K
     try simp only[xX]
     refine zR 8 rfl (fun K hK=>?_)
     go_simp
     rw[<-HV1.out]
     refine hK.out _ _ trivial (fun hHeld=>?_)
     clear hK K
     try simp only[xX]
     refine zR 9 rfl (fun K hK=>?_)
     refine step_append_at rfl (.tmp 37) (.tmp 45) 134 rfl V.heap.size 139 i3 z3 3 24 Tryz.underlying134 hi3 hz3 hs3 hb3 hzs3 (by decide) v pre.length (pcs (pre.map lkF)) (by simp[Act.eval,Act.put]) HOV.out ⟨U.heap.size,0,.none⟩ 1 1 [.int .u64 pgn,.int .u64 frm,.int .u64 prm] (by simp[Act.eval,Act.put]) rfl HC1.out (fun u hu=>by simp at hu;rcases hu with rfl|rfl|rfl<;>rfl) (by simp only[maxLen];omega) (by omega) HVU.out ?_
     intro v' V2 own' grow fb
     obtain⟨g',c',rfl⟩:∃ g' c',v' = .slice (some ⟨g',0,.none⟩) (pre.length+1) c':=by
      rcases own'.2 with⟨_,h0⟩|⟨g',cap,cur,hv,_⟩
      ·omega
      ·exact⟨g',cap,hv⟩
     have HP9:=HST.out V2 _ own' grow fb
     obtain⟨v1,v2⟩:=HBE.out V2 grow
     clear own' grow fb
     refine hK.out _ _ trivial (fun hHeld=>?_)
     clear hK K
     try simp only[xX]
     refine zR 10 rfl (fun K hK=>?_)
     go_simp
     refine hK.out _ _ trivial (fun hHeld=>?_)
     clear hK K
     try simp only[xX]
     refine wpAnyH_done (by kernel_rfl) ?_ _
     have HP8:Hid _:=HP9
     clear HP9 v1 v2
     gi_wp2
     exact HP8.out
    ·skip
     go_simp
     rw[<-HV1.out]
     refine hK.out _ _ trivial (fun hHeld=>?_)
     clear hK K
     try simp only[xX]
     refine zR 0 rfl (fun K hK=>?_)
     go_simp
     refine hK.out _ _ trivial (fun hHeld=>?_)
     clear hK K
     try simp only[xX]
     refine zR 9 rfl (fun K hK=>?_)
     refine step_append_at rfl (.tmp 37) (.tmp 45) 134 rfl V.heap.size 139 i3 z3 3 24 Tryz.underlying134 hi3 hz3 hs3 hb3 hzs3 (by decide) v pre.length (pcs (pre.map lkF)) (by simp[Act.eval,Act.put]) HOV.out ⟨U.heap.size,0,.none⟩ 1 1 [.int .u64 pgn,.int .u64 frm,.int .u64 prm] (by simp[Act.eval,Act.put]) rfl HC1.out (fun u hu=>by simp at hu;rcases hu with rfl|rfl|rfl<;>rfl) (by simp only[maxLen];omega) (by omega) HVU.out ?_
     intro v' V2 own' grow fb
     obtain⟨g',c',rfl⟩:∃ g' c',v' = .slice (some ⟨g',0,.none⟩) (pre.length+1) c':=by
      rcases own'.2 with⟨_,h0⟩|⟨g',cap,cur,hv,_⟩
      ·omega
      ·exact⟨g',cap,hv⟩
     have HP9:=HST.out V2 _ own' grow fb
     obtain⟨v1,v2⟩:=HBE.out V2 grow
     clear own' grow fb
     refine hK.out _ _ trivial (fun hHeld=>?_)
     clear hK K
     try simp only[xX]
     refine zR 10 rfl (fun K hK=>?_)
     go_simp
     refine hK.out _ _ trivial (fun hHeld=>?_)
     clear hK K
     try simp only[xX]
     refine wpAnyH_done (by kernel_rfl) ?_ _
     have HP8:Hid _:=HP9
     clear HP9 v1 v2
     gi_wp2
     exact HP8.out
end
end Rm
end Go.Proofs.YtabnipbdbnmmpaaGreatDoor
