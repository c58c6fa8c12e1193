import Derived.Test.YtabnipbdbnmmpaaGreatDoorSh01
import Derived.Test.YtabnipbdbnmmpaaGreatDoorSh26
import Derived.RangeFuncWrites
import Derived.WalkKit
import Derived.OrdersIn
import Derived.Deep.RegionHeld3
import Derived.Maps.AppendAt
set_option linter.unusedVariables false
set_option linter.unusedSimpArgs false
namespace Go.Proofs.YtabnipbdbnmmpaaGreatDoor
namespace Rm
open Go Go.RowKit Go.Shelf
attribute [local go_sem] Oper.semAt_some
attribute [local irreducible] eM evs
def KpG (Good:Nat→World→Prop) (p b mm:Nat) (W W':World) : Prop := (∀ g o,Good g W→W.heap[g]? = some o→W'.heap[g]? = some o∧Good g W')∧W'.heap[p]? = W.heap[p]? ∧ W'.heap[b]? = W.heap[b]? ∧ W'.heap[mm]? = W.heap[mm]? ∧ W.heap.size≤W'.heap.size
structure GdJ {α:Type} (Good:Nat→World→Prop) (J:List α → World→Prop) : Prop where
 move : ∀ s W W',J s W→Mv Good W W'→J s W'
 mono : ∀ s W W' g,J s W→Mv Good W W'→Good g W→Good g W'
 fresh : ∀ s W W' g,J s W→Mv Good W W'→W.heap.size≤g→Good g W'
def SeqG {α:Type} (n g:Nat) (lb:Array Value) (encs:α → Array Value) (L:List α) (p b mm:Nat) (w:World) : Prop :=
 ∀ (l:Nat) (J Jx:List α → World→Prop) (Good:Nat→World→Prop) (W:World),Below w.heap.size w W→GdJ Good J →
  (∀ k pre x W1,J pre W1→pre ++ [x] <+: L→YieldAt Fence.wide k Tryz.prog l (encs x) W1 fun e W' => (e = .returned (.bool true)∧J (pre ++ [x]) W'∧KpG Good p b mm W1 W')∨(e = .returned (.bool false)∧Jx (pre ++ [x]) W'))→J [] W →
  CallsIn Fence.wide n Tryz.prog g (#[.func (.yield l) #[] #[]] ++ lb) W fun e W' => (∃ v,e = .returned v)∧(J L W' ∨ ∃ pre,pre <+: L∧Jx pre W')
section
variable {w:World} {p b mm N r:Nat} {B:Nat→Int} {L:List Nat} {F:Nat→Option Nat} {lf:Nat→Nat→Int}
set_option maxRecDepth 100000 in
set_option maxHeartbeats 1000000 in
theorem tour_seq (hR:Ram w p b mm N B L) (hP:PT N L B F lf) (hr:F 0=some r) (n z1 z2:Nat) (k1:w.cell? ⟨z1,0,.none⟩=some (.pointer (some ⟨p,0,.none⟩))) (k2:w.cell? ⟨z2,0,.none⟩=some (.int .u64 (ad r))) :
  SeqG n 192 #[.pointer (some ⟨z1,0,.none⟩),.pointer (some ⟨z2,0,.none⟩)] evE (evs F lf 0) p b mm w := by
 intro l J Jx Good W hW gd hY h0
 have q1 := (hW.cell (lt_of_cell k1)).trans k1
 have q2 := (hW.cell (lt_of_cell k2)).trans k2
 obtain ⟨W2,hW2⟩ : ∃ W2,W2=(W.alloc (.map #[] 0)).alloc (.cells #[.pointer (some ⟨p,0,.none⟩),.int .u64 (ad r),.int .u64 0,.map (some W.heap.size)] 261) := ⟨_,rfl⟩
 have b2 : Below W.heap.size W W2 := by rw [hW2]; exact ((Below.refl _ _).alloc (Nat.le_refl _) _).alloc (by simp) _
 have hRW := hR.below hW
 have t2 : TS W2 (W.heap.size+1) p b mm N B L F r W.heap.size (fun _ => none) 0 0 := by
  refine ⟨hRW.below b2,?_,?_,Nat.le_refl _,fun x f _ _ => rfl⟩
  ·rw [hW2]
   exact ⟨by simp,by simp,by simp [vaP],by simp,by have := World.frozen?_alloc_new (W.alloc (.map #[] 0)) #[.pointer (some ⟨p,0,.none⟩),.int .u64 (ad r),.int .u64 0,.map (some W.heap.size)] 261 2; rwa [World.size_alloc] at this⟩
  ·rw [hW2]
   exact (Tm.new W).below ((Below.refl _ _).alloc (Nat.le_refl _) _)
 have hpl := hRW.mem.plt
 have hbl := hRW.mem.blt
 have hml := hRW.mem.mlt
 have cE := each_in hP hr hR.mem.n2 hR.mem.bb (n - 1) l J Jx Good (KpG Good p b mm) ⟨fun W W' g o hk hg ho => hk.1 g o hg ho,gd.move,gd.mono,gd.fresh⟩ (fun W W' hk => hk.2) hY W2 (W.heap.size+1) W.heap.size (fun _ => none) t2
  ⟨gd.fresh [] W W2 _ h0 (Mv.below b2) (by omega),gd.fresh [] W W2 _ h0 (Mv.below b2) (Nat.le_refl _),by omega⟩ (by omega) (gd.move _ _ _ h0 (Mv.below b2))
 have HC : Hid (CallsIn Fence.wide (n - 1) Tryz.prog 193 #[.pointer (some ⟨W.heap.size+1,0,.none⟩),.func (.yield l) #[] #[]] W2 fun e W' => (∃ v,e = .returned v)∧(J (evs F lf 0) W' ∨ ∃ pre,pre <+: evs F lf 0∧Jx pre W')) := cE
 clear cE t2 b2 hRW hpl hbl hml hY gd h0 hR hP hr k1 k2 hW
 have hmk : (Instr.makeMap 259 none).run Tryz.prog W = .ok (.map (some W.heap.size)) (W.alloc (.map #[] 0)) := by kernel_rfl
 refine callsIn_of_wp Tryz.func192 rfl trivial ?_ rfl
 simp only [Tryz.ntmps192,List.size_toArray,List.length_cons,List.length_nil,Nat.reduceAdd,Nat.reduceSub,Array.replicate_succ,Array.replicate_zero,List.push_toArray,List.append_toArray,List.nil_append,List.cons_append]
 gi_wp2_with (refine ⟨trivial,fun h => (by cases h),?_⟩; gi_at_call 193; rw [hW2] at HC; refine HC.out.mono ?_; rintro e W3 ⟨⟨u,rfl⟩,hJJ⟩)
 go_end0
 exact ⟨⟨_,rfl⟩,hJJ⟩
end
end Rm
namespace Rm
open Go Go.RowKit Go.Shelf
theorem range_G {n:Nat} {α:Type} {g:Operand} {ps:Array Tmp} {assign body:Code} {Q:Exit→Act→World→Prop} {a:Act} {w:World}
  (h1:1≤n) {gf:Nat} {lb:Array Value} (hg:a.eval g = .func (.func gf) #[] lb) (eg:∀ args w,(callFunc gf args).run Tryz.prog w = .ok (.enter gf args) w)
  {encs:α → Array Value} {L:List α} {w0:World} {p b mm:Nat} (hb0:Below w0.heap.size w0 w) (hseq:SeqG (n - 1) gf lb encs L p b mm w0) (hpb:p<w.heap.size∧b<w.heap.size∧mm<w.heap.size)
  (hps:∀ x,(encs x).size=ps.size) (I:List α → World→Prop) (Good:Nat→World→Prop) (hI:OwnFrom w.heap.size I) (gd:GdJ Good I)
  (hgp:∀ k W l o o',Good k W→k≠l→w.heap.size≤l→W.heap[l]? = some o→o.isCells=false→Good k (W.putObj l o'))
  (h0:I [] w) (Ax:α → Act→World→Prop) (hAx:∀ x a' W l o o',Ax x a' W→w.heap.size≤l→W.heap[l]? = some o→o.isCells=false→Ax x a' (W.putObj l o'))
  (hassign:∀ (l:Nat) (x:α) (W:World) (K:Act→World→Prop),w.heap.size≤W.heap.size→(∀ a' W',Below W.heap.size W W'→Ax x a' W'→K a' W') →
   assign.wpIn (Fence.wide.inRound l) (n - 1 - 1) Tryz.prog (Exit.then K (fun _ _ _ => False)) { tmps := (ps.zip (encs x)).foldl (fun t (p,v) => t.setIfInBounds p v) a.tmps,defers := [] } W)
  (hbody:∀ (l:Nat) (pre:List α) (x:α) (a':Act) (W:World),I pre W→Ax x a' W→pre ++ [x] <+: L→body.wpIn (Fence.wide.inRound l) (n - 1 - 1) Tryz.prog (fun e _ W' => e = .normal∧KeepsFrom w.heap.size W W'∧KpG Good p b mm W W'∧I (pre ++ [x]) W') a' W)
  (hdone:∀ (D:Nat) (W:World),w.heap.size≤D→I L W→W.heap[D]? = some (.deferred (some []))→Q .normal { a with defers := { target := .collected D,args := #[] } :: a.defers } W) :
  (Code.rangeFunc g ps assign body).wpIn Fence.wide n Tryz.prog Q a w := by
 refine wpIn_rangeFunc fun fn hfn => ?_
 rw [show Fence.wide.round=none from rfl]
 let rec' : LoopState→Option Code→Loop := fun st pe => { state := st,pending := pe,fn := fn,tmps := a.tmps,params := ps,assign := assign,body := body,defers := w.heap.size }
 obtain ⟨V,hV⟩ : ∃ V,(w.alloc (.deferred (some []))).alloc (.loop (rec' .ready none))=V := ⟨_,rfl⟩
 have hVs : V.heap.size=w.heap.size+2 := by rw [← hV]; simp
 have vL : V.heap[w.heap.size+1]? = some (.loop (rec' .ready none)) := by
  rw [← hV]; simpa using World.alloc_heap_new (w.alloc (.deferred (some []))) (.loop (rec' .ready none))
 have vD : V.heap[w.heap.size]? = some (.deferred (some [])) := by
  rw [← hV]; exact (Below.heap_alloc _ _ _ (by simp)).trans (World.alloc_heap_new w _)
 have vI : I [] V := by rw [← hV]; exact hI.alloc _ (hI.alloc _ h0)
 have vB : Below w.heap.size w V := by rw [← hV]; exact ((Below.refl _ w).alloc (Nat.le_refl _) _).alloc (by simp) _
 refine ⟨w.heap.size+1,[{ target := .collected w.heap.size,args := #[] }],V,{ target := .fn (.func gf) lb,args := #[.func (.yield (w.heap.size+1)) #[] #[]] },V,gf,#[.func (.yield (w.heap.size+1)) #[] #[]] ++ lb,V,?_,?_,?_,?_,fun _ => h1,?_⟩
 ·rw [← hV]; exact run_enterLoop_outer _ _ _ _ _
 ·simp only [resolve,hg]; simp [go_sem]
 ·intro f' hf'; exact trivial
 ·simp [invoke,go_sem,eg]
 have gdJ : GdJ (fun k W => Good k W∧k≠w.heap.size∧k≠w.heap.size+1) (fun pre W => I pre W∧W.heap[w.heap.size+1]? = some (.loop (rec' .ready none))∧W.heap[w.heap.size]? = some (.deferred (some []))) := by
  have low : ∀ W W',Mv (fun k W => Good k W∧k≠w.heap.size∧k≠w.heap.size+1) W W'→Mv Good W W' := fun W W' h => ⟨h.os,h.tape,h.output,h.size,fun k hk hn => h.block k hk (fun e => hn e.1)⟩
  refine ⟨fun s W W' hs hm => ⟨gd.move s W W' hs.1 (low _ _ hm),?_,?_⟩,fun s W W' k hs hm hk => ⟨gd.mono s W W' k hs.1 (low _ _ hm) hk.1,hk.2⟩,fun s W W' k hs hm hk => ⟨gd.fresh s W W' k hs.1 (low _ _ hm) hk,?_,?_⟩⟩
  ·exact (hm.block _ (Array.getElem?_eq_some_iff.1 hs.2.1).1 (fun e => e.2.2 rfl)).trans hs.2.1
  ·exact (hm.block _ (Array.getElem?_eq_some_iff.1 hs.2.2).1 (fun e => e.2.1 rfl)).trans hs.2.2
  ·have := (Array.getElem?_eq_some_iff.1 hs.2.2).1; omega
  ·have := (Array.getElem?_eq_some_iff.1 hs.2.1).1; omega
 refine (hseq (w.heap.size+1) _ (fun _ _ => False) _ V (hb0.trans (vB.mono hb0.size)) gdJ ?_ ⟨vI,vL,vD⟩).mono ?_
 ·rintro k pre x W ⟨hi,hl,hk⟩ hlen
  have hlt : w.heap.size+1<W.heap.size := (Array.getElem?_eq_some_iff.1 hl).1
  refine yield_anyT rfl k (m:=n - 1 - 1) ⟨fn,_,assign,body,run_yield (P:=Tryz.prog) (args:=encs x) hl (hps x),roundIn_of_wpIn hfn (hassign _ x W _ (by omega) (fun a' W1 hb1 hax => ?_))⟩
  have hi1 : I pre W1 := hI pre W W1 none hi ⟨hb1.os,hb1.tape,hb1.output,hb1.size,fun k hk _ => hb1.block k hk⟩ (fun r e => by cases e)
  have hl1 : W1.heap[w.heap.size+1]? = some (.loop (rec' .ready none)) := (hb1.block _ hlt).trans hl
  have hk1 : W1.heap[w.heap.size]? = some (.deferred (some [])) := (hb1.block _ (by omega)).trans hk
  have hlt1 : w.heap.size+1<W1.heap.size := (Array.getElem?_eq_some_iff.1 hl1).1
  refine ⟨_,run_beginRound hl1 rfl,?_⟩
  refine wpIn_mono (hbody _ pre x a' _ (hI.putObj _ hi1 (by omega) hl1 rfl) (hAx _ _ _ _ _ _ hax (by omega) hl1 rfl) hlen) ?_
  rintro e a3 W3 ⟨rfl,hk3,hkp,hi3⟩
  have hl3 := hk3.same (w.heap.size+1) _ (by omega) (World.putObj_heap_same hlt1) rfl
  have hd3 := hk3.same w.heap.size _ (Nat.le_refl _) ((World.putObj_heap_other (by omega)).trans hk1) rfl
  refine ⟨_,_,run_endRound (P:=Tryz.prog) none hl3,.inl ⟨rfl,⟨hI.putObj _ hi3 (by omega) hl3 rfl,World.putObj_heap_same (Array.getElem?_eq_some_iff.1 hl3).1,(World.putObj_heap_other (by omega)).trans hd3⟩,?_⟩⟩
  have sz : ∀ (X:World) (l:Nat) (o:Obj),(X.putObj l o).heap.size=X.heap.size := fun X l o => by simp [World.putObj]
  refine ⟨fun q o hq ho => ?_,?_,?_,?_,?_⟩
  ·have hql : q<W.heap.size := (Array.getElem?_eq_some_iff.1 ho).1
   have g1 : Good q W1 := gd.mono pre W W1 q hi (Mv.below hb1) hq.1
   have o1 : W1.heap[q]? = some o := (hb1.block q hql).trans ho
   have g2 := hgp q W1 _ _ (.loop { rec' .ready none with state := .busy }) g1 hq.2.2 (by omega) hl1 rfl
   have o2 : (W1.putObj (w.heap.size+1) (.loop { rec' .ready none with state := .busy })).heap[q]? = some o := (World.putObj_heap_other hq.2.2).trans o1
   obtain ⟨o3,g3⟩ := hkp.1 q o g2 o2
   exact ⟨(World.putObj_heap_other hq.2.2).trans o3,hgp q W3 _ _ _ g3 hq.2.2 (by omega) hl3 rfl,hq.2⟩
  ·rw [World.putObj_heap_other (by omega),hkp.2.1,World.putObj_heap_other (by omega)]; exact hb1.block _ (by omega)
  ·rw [World.putObj_heap_other (by omega),hkp.2.2.1,World.putObj_heap_other (by omega)]; exact hb1.block _ (by omega)
  ·rw [World.putObj_heap_other (by omega),hkp.2.2.2.1,World.putObj_heap_other (by omega)]; exact hb1.block _ (by omega)
  ·rw [sz]
   have := hkp.2.2.2.2
   rw [sz] at this
   exact Nat.le_trans hb1.size this
 ·rintro e W2 ⟨⟨v,rfl⟩,⟨hi,hl,hk⟩ | ⟨_,_,hf⟩⟩
  ·exact ⟨none,_,run_endLoop (P:=Tryz.prog) hl (by simp [rec']),hdone _ _ (Nat.le_refl _) (hI.putObj _ hi (by omega) hl rfl) ((World.putObj_heap_other (by omega)).trans hk)⟩
  ·exact hf.elim
end Rm
namespace Rm
open Go Go.RowKit Go.Shelf
section
variable {l n:Nat} {P:Program} {Q:Exit→Act→World→Prop} {ops:Array Oper} {md:Region.Mode}
theorem rowsIn_round {row:String} {args:Array Value} {w:World} {R:Value→World→Prop} (h:Rows P row args w R) : RowsIn (Fence.wide.inRound l) n P row args w R :=
 fun c cs _ => let ⟨v,w',r,s⟩ := h c cs; ⟨v,w',r,stepsIn_wide.2 s⟩
theorem uponIn_of_upon {o:Oper} {a:Act} {next:Act→World→Prop} {r:Result Next} (h:o.upon P a next Q r) : o.uponIn (Fence.wide.inRound l) n P a next Q r := by
 cases r with
 | ok x w' =>
  cases x with
  | value v => exact h
  | skip => exact h
  | defer d => exact h
  | enter f args => exact ⟨fun e => (by cases e),CallsIn.inRound l (callsIn_wide.2 h)⟩
  | row row args => exact ⟨fun e => (by cases e),rowsIn_round h⟩
  | _ => exact h.elim
 | halt hh w' =>
  cases hh with
  | panic v => exact h
  | _ => exact h.elim
theorem wpOpIn_of_wpOp {i:Nat} {K:Act→World→Prop} {a:Act} {w:World} (hd:∀ (i:Nat) (o:Oper),ops[i]? = some o → ∀ c : Call,o.op≠Op.defer c) (hL:¬ LetsOut Q) (h:wpOp P ops Q i K a w) : wpOpIn (Fence.wide.inRound l) n P ops Q i K a w := by
 unfold wpOp at h
 unfold wpOpIn
 cases hi : ops[i]? with
 | none => rw [hi] at h; exact h
 | some o =>
  rw [hi] at h
  simp only at h ⊢
  split at h
  ·rename_i hw
   rw [if_pos hw]
   rcases h with h | h
   ·refine ⟨fun f _ => trivial,?_⟩
    have := uponIn_of_upon (l:=l) (n:=n) h
    rw [show (Fence.wide.inRound l).round=some l from rfl,Oper.semAt_some l _ o (hd i o hi)]
    exact this
   ·exact absurd h.2 hL
  ·rename_i hw
   rw [if_neg hw]
   exact ⟨fun f _ => trivial,h⟩
theorem wpOp_mono' {i:Nat} {K K':Act→World→Prop} {a:Act} {w:World} (hk:∀ a w,K a w→K' a w) (h:wpOpIn (Fence.wide.inRound l) n P ops Q i K a w) : wpOpIn (Fence.wide.inRound l) n P ops Q i K' a w := wpOpIn_mono hk h
theorem wpAnyIn_of_wpAny (hd:∀ (i:Nat) (o:Oper),ops[i]? = some o → ∀ c : Call,o.op≠Op.defer c) (hL:¬ LetsOut Q) : ∀ (fuel:Nat) (listed:Array Bool) (a:Act) (w:World),wpAny P md ops Q fuel listed a w→wpAnyIn (Fence.wide.inRound l) n P md ops Q fuel listed a w
 | 0,listed,a,w,h => h
 | fuel+1,listed,a,w,h => ⟨h.1,fun i hi => wpOp_mono' (fun a w => wpAnyIn_of_wpAny hd hL fuel _ a w) (wpOpIn_of_wpOp hd hL (h.2 i hi))⟩
theorem wpIn_region_held {id:Nat} {S:World→Prop} {a:Act} {w:World} (hm:P.follows .mixedOrders=true) (hd:∀ (i:Nat) (o:Oper),ops[i]? = some o → ∀ c : Call,o.op≠Op.defer c) (hL:¬ LetsOut Q) (hS:S w.drew)
  (h:S w.drew→wpAnyH P .any ops Q S ops.size (Array.replicate ops.size false) a w.drew) : (Code.region id ops true).wpIn (Fence.wide.inRound l) n P Q a w :=
 wpIn_region_any hm (wpAnyIn_of_wpAny hd hL _ _ _ _ (wpAny_of_held _ _ _ _ (h hS)))
theorem no_defer_of (h:(ops.all fun o => match o.op with | Op.defer _ => false | _ => true)=true) : ∀ (i:Nat) (o:Oper),ops[i]? = some o → ∀ c : Call,o.op≠Op.defer c := fun i o hi c e => by
 have hlt : i<ops.size := (Array.getElem?_eq_some_iff.1 hi).1
 have := Array.all_eq_true.1 h i hlt
 rw [(Array.getElem?_eq_some_iff.1 hi).2,e] at this
 cases this
end
theorem step_append_at {P:Program} {ops:Array Oper} {o:Oper} {a:Act} {w:World} {K:Act→World→Prop} {Q:Exit→Act→World→Prop} {E:Prop} (hgd:o.guard=none) (s x:Operand) (t:TypeId)
  (hop:o.op = .call { callee := .builtin .append,args := #[s,x],argTypes := #[t,t] }) (base:Nat) (e:TypeId) (i:TypeInfo) (z:Value) (size bytes:Nat) (ht:P.underlying t=some (.slice e)) (hi:P.info? e=some i) (hz:i.zero=some z)
  (hsize:i.size=size) (hby:i.bytes=bytes) (hzs:z.cells.size=size) (hsz:0<size) (v:Value) (k:Nat) (xs:List Value) (hs:a.eval s=v) (hown:w.ownsRow base e size v k xs)
  (ad:Addr) (m c:Nat) (news:List Value) (hx:a.eval x = .slice (some ad) m c) (hl:news.length=m*size) (hnews:∀ j u,news[j]? = some u→w.cell? (ad.add j)=some u) (h1:∀ u ∈ news,u.oneCell'=true)
  (h63:k+m≤maxLen) (hbytes:(k+m)*bytes≤140737488355328) (hbase:base≤w.heap.size)
  (h:∀ v' w',w'.ownsRow base e size v' (k+m) (xs ++ news)→w.grownBy w' v.ownBlock→(v'.ownBlock=v.ownBlock∨v'.ownBlock=some w.heap.size)→K (a.put o.dst v') w') : if Region.wanted o (yielded ops a.tmps)=true then Oper.wp P o a w K Q else E := by
 have hw : Region.wanted o (yielded ops a.tmps)=true := by simp [Region.wanted,hgd]
 rw [if_pos hw]
 obtain ⟨v',w',hrun,r1,r2,_,r4⟩ := run_append_own_at (P:=P) w base t o.type e i z size bytes ht hi hz hsize hby hzs hsz v k xs hown ad m c news hl hnews h1 h63 hbytes hbase
 unfold Oper.wp
 simp [execOp,hop,resolve,invoke,builtin,hs,hx,hrun,Result.andThen]
 exact h v' w' r1 r2 r4
theorem toured_any (p:Nat) (root:Int) (w:World) : Calls Tryz.prog 166 #[.pointer (some ⟨p,0,.none⟩),.int .u64 root] w fun e w' => e = .returned (.func (.func 192) #[] #[.pointer (some ⟨w.heap.size,0,.none⟩),.pointer (some ⟨w.heap.size+1,0,.none⟩)])∧w'=(w.alloc (.cells #[.pointer (some ⟨p,0,.none⟩)] 27)).alloc (.cells #[.int .u64 root] 23) := by
 go_enter Tryz.func166,Tryz.ntmps166
 go_wp2
 go_ret
 exact ⟨rfl,rfl⟩
def ndl (r:Nat) (pre:List Ev) : List Int := ad r :: pre.filterMap (fun x => if x.p.k=3 then some (adE x.p.e) else none)
end Rm
end Go.Proofs.YtabnipbdbnmmpaaGreatDoor
