import Derived.Test.YtabnipbdbnmmpaaGreatDoorSh01
import Derived.Test.YtabnipbdbnmmpaaGreatDoorSh30
set_option linter.unusedVariables false
set_option linter.unusedSimpArgs false
namespace Go.Proofs.YtabnipbdbnmmpaaGreatDoor
namespace Rm
open Go Go.RowKit Go.Shelf
def SeqK {α:Type} (n g:Nat) (lb:Array Value) (encs:α → Array Value) (L:List α) (p b mm:Nat) (w:World) : Prop :=
 ∀ (l:Nat) (J Jx:List α → World→Prop) (Good:Nat→World→Prop) (W:World),Below w.heap.size w W→GdJ Good J →
  (∀ k pre x W1,J pre W1→pre ++ [x] <+: L→YieldAt Fence.wide k Tryz.prog l (encs x) W1 fun e W' => (e = .returned (.bool true)∧J (pre ++ [x]) W'∧KpG Good p b mm W1 W')∨(e = .returned (.bool false)∧Jx (pre ++ [x]) W'∧KpG Good p b mm W1 W')) →
  (∀ pre W1 W2,Jx pre W1→Mv Good W1 W2→Jx pre W2)→J [] W →
  CallsIn Fence.wide n Tryz.prog g (#[.func (.yield l) #[] #[]] ++ lb) W fun e W' => (∃ v,e = .returned v)∧(J L W' ∨ ∃ pre,pre <+: L∧Jx pre W')
theorem range_K {n:Nat} {α:Type} {g:Operand} {ps:Array Tmp} {assign body:Code} {Q:Exit→Act→World→Prop} {a:Act} {w:World}
  (h1:1≤n) {gf:Nat} {lb:Array Value} (hg:a.eval g = .func (.func gf) #[] lb) (eg:∀ args w,(callFunc gf args).run Tryz.prog w = .ok (.enter gf args) w)
  {encs:α → Array Value} {L:List α} {w0:World} {p b mm:Nat} (hb0:Below w0.heap.size w0 w) (hseq:SeqK (n - 1) gf lb encs L p b mm w0) (hpb:p<w.heap.size∧b<w.heap.size∧mm<w.heap.size)
  (hps:∀ x,(encs x).size=ps.size) (I:List α → World→Prop) (Good:Nat→World→Prop) (hI:OwnFrom w.heap.size I) (gd:GdJ Good I)
  (hgp:∀ s k W l o o',I s W→Good k W→k≠l→w.heap.size≤l→W.heap[l]? = some o→o.isCells=false→Good k (W.putObj l o'))
  (h0:I [] w) (Ix:List α → World→Prop) (hIx:∀ pre W l o o',Ix pre W→w.heap.size≤l→W.heap[l]? = some o→o.isCells=false→Ix pre (W.putObj l o')) (hIxm:∀ pre W1 W2,Ix pre W1→Mv Good W1 W2→Ix pre W2)
  (hgx:∀ s k W l o o',Ix s W→Good k W→k≠l→w.heap.size≤l→W.heap[l]? = some o→o.isCells=false→Good k (W.putObj l o')) (Ax:α → Act→World→Prop) (hAx:∀ x a' W l o o',Ax x a' W→w.heap.size≤l→W.heap[l]? = some o→o.isCells=false→Ax x a' (W.putObj l o'))
  (hassign:∀ (l:Nat) (x:α) (W:World) (K:Act→World→Prop),w.heap.size≤W.heap.size→(∀ a' W',Below W.heap.size W W'→Ax x a' W'→K a' W') →
   assign.wpIn (Fence.wide.inRound l) (n - 1 - 1) Tryz.prog (Exit.then K (fun _ _ _ => False)) { tmps := (ps.zip (encs x)).foldl (fun t (p,v) => t.setIfInBounds p v) a.tmps,defers := [] } W)
  (hbody:∀ (l:Nat) (pre:List α) (x:α) (a':Act) (W:World),I pre W→Ax x a' W→pre ++ [x] <+: L→body.wpIn (Fence.wide.inRound l) (n - 1 - 1) Tryz.prog (fun e _ W' => (e = .normal∧KeepsFrom w.heap.size W W'∧KpG Good p b mm W W'∧I (pre ++ [x]) W')∨(e = .ret∧KeepsFrom w.heap.size W W'∧KpG Good p b mm W W'∧Ix (pre ++ [x]) W')) a' W)
  (hdone:∀ (D:Nat) (W:World),w.heap.size≤D→I L W→W.heap[D]? = some (.deferred (some []))→Q .normal { a with defers := { target := .collected D,args := #[] } :: a.defers } W)
  (hleft:∀ (D:Nat) (W:World) (pre:List α),w.heap.size≤D→pre <+: L→Ix pre W→W.heap[D]? = some (.deferred (some []))→Q .ret { a with defers := { target := .collected D,args := #[] } :: a.defers } W) :
  (Code.rangeFunc g ps assign body).wpIn Fence.wide n Tryz.prog Q a w := by
 refine wpIn_rangeFunc fun fn hfn => ?_
 rw [show Fence.wide.round=none from rfl]
 let rec' : LoopState→Option Code→Loop := fun st pe => { state := st,pending := pe,fn := fn,tmps := a.tmps,params := ps,assign := assign,body := body,defers := w.heap.size }
 obtain ⟨V,hV⟩ : ∃ V,(w.alloc (.deferred (some []))).alloc (.loop (rec' .ready none))=V := ⟨_,rfl⟩
 have hVs : V.heap.size=w.heap.size+2 := by rw [← hV]; simp
 have vL : V.heap[w.heap.size+1]? = some (.loop (rec' .ready none)) := by
  rw [← hV]; simpa using World.alloc_heap_new (w.alloc (.deferred (some []))) (.loop (rec' .ready none))
 have vD : V.heap[w.heap.size]? = some (.deferred (some [])) := by
  rw [← hV]; exact (Below.heap_alloc _ _ _ (by simp)).trans (World.alloc_heap_new w _)
 have vI : I [] V := by rw [← hV]; exact hI.alloc _ (hI.alloc _ h0)
 have vB : Below w.heap.size w V := by rw [← hV]; exact ((Below.refl _ w).alloc (Nat.le_refl _) _).alloc (by simp) _
 refine ⟨w.heap.size+1,[{ target := .collected w.heap.size,args := #[] }],V,{ target := .fn (.func gf) lb,args := #[.func (.yield (w.heap.size+1)) #[] #[]] },V,gf,#[.func (.yield (w.heap.size+1)) #[] #[]] ++ lb,V,?_,?_,?_,?_,fun _ => h1,?_⟩
 ·rw [← hV]; exact run_enterLoop_outer _ _ _ _ _
 ·simp only [resolve,hg]; simp [go_sem]
 ·intro f' hf'; exact trivial
 ·simp [invoke,go_sem,eg]
 have gdJ : GdJ (fun k W => Good k W∧k≠w.heap.size∧k≠w.heap.size+1) (fun pre W => I pre W∧W.heap[w.heap.size+1]? = some (.loop (rec' .ready none))∧W.heap[w.heap.size]? = some (.deferred (some []))) := by
  have low : ∀ W W',Mv (fun k W => Good k W∧k≠w.heap.size∧k≠w.heap.size+1) W W'→Mv Good W W' := fun W W' h => ⟨h.os,h.tape,h.output,h.size,fun k hk hn => h.block k hk (fun e => hn e.1)⟩
  refine ⟨fun s W W' hs hm => ⟨gd.move s W W' hs.1 (low _ _ hm),?_,?_⟩,fun s W W' k hs hm hk => ⟨gd.mono s W W' k hs.1 (low _ _ hm) hk.1,hk.2⟩,fun s W W' k hs hm hk => ⟨gd.fresh s W W' k hs.1 (low _ _ hm) hk,?_,?_⟩⟩
  ·exact (hm.block _ (Array.getElem?_eq_some_iff.1 hs.2.1).1 (fun e => e.2.2 rfl)).trans hs.2.1
  ·exact (hm.block _ (Array.getElem?_eq_some_iff.1 hs.2.2).1 (fun e => e.2.1 rfl)).trans hs.2.2
  ·have := (Array.getElem?_eq_some_iff.1 hs.2.2).1; omega
  ·have := (Array.getElem?_eq_some_iff.1 hs.2.1).1; omega
 refine (hseq (w.heap.size+1) _ (fun pre W => Ix pre W∧W.heap[w.heap.size+1]? = some (.loop (rec' .done (some .ret)))∧W.heap[w.heap.size]? = some (.deferred (some []))) _ V (hb0.trans (vB.mono hb0.size)) gdJ ?_ ?_ ⟨vI,vL,vD⟩).mono ?_
 ·rintro k pre x W ⟨hi,hl,hk⟩ hlen
  have hlt : w.heap.size+1<W.heap.size := (Array.getElem?_eq_some_iff.1 hl).1
  refine yield_anyT rfl k (m:=n - 1 - 1) ⟨fn,_,assign,body,run_yield (P:=Tryz.prog) (args:=encs x) hl (hps x),roundIn_of_wpIn hfn (hassign _ x W _ (by omega) (fun a' W1 hb1 hax => ?_))⟩
  have hi1 : I pre W1 := hI pre W W1 none hi ⟨hb1.os,hb1.tape,hb1.output,hb1.size,fun k hk _ => hb1.block k hk⟩ (fun r e => by cases e)
  have hl1 : W1.heap[w.heap.size+1]? = some (.loop (rec' .ready none)) := (hb1.block _ hlt).trans hl
  have hk1 : W1.heap[w.heap.size]? = some (.deferred (some [])) := (hb1.block _ (by omega)).trans hk
  have hlt1 : w.heap.size+1<W1.heap.size := (Array.getElem?_eq_some_iff.1 hl1).1
  refine ⟨_,run_beginRound hl1 rfl,?_⟩
  refine wpIn_mono (hbody _ pre x a' _ (hI.putObj _ hi1 (by omega) hl1 rfl) (hAx _ _ _ _ _ _ hax (by omega) hl1 rfl) hlen) ?_
  rintro e a3 W3 (⟨rfl,hk3,hkp,hi3⟩ | ⟨rfl,hk3,hkp,hix⟩)
  rotate_left
  ·have hl3 := hk3.same (w.heap.size+1) _ (by omega) (World.putObj_heap_same hlt1) rfl
   have hd3 := hk3.same w.heap.size _ (Nat.le_refl _) ((World.putObj_heap_other (by omega)).trans hk1) rfl
   refine ⟨_,_,run_endRound (P:=Tryz.prog) (some .ret) hl3,.inr ⟨rfl,⟨hIx _ _ _ _ _ hix (by omega) hl3 rfl,World.putObj_heap_same (Array.getElem?_eq_some_iff.1 hl3).1,(World.putObj_heap_other (by omega)).trans hd3⟩,?_⟩⟩
   have sz : ∀ (X:World) (l:Nat) (o:Obj),(X.putObj l o).heap.size=X.heap.size := fun X l o => by simp [World.putObj]
   refine ⟨fun q o hq ho => ?_,?_,?_,?_,?_⟩
   ·have hql : q<W.heap.size := (Array.getElem?_eq_some_iff.1 ho).1
    have g1 : Good q W1 := gd.mono pre W W1 q hi (Mv.below hb1) hq.1
    have o1 : W1.heap[q]? = some o := (hb1.block q hql).trans ho
    have g2 := hgp pre q W1 _ _ (.loop { rec' .ready none with state := .busy }) hi1 g1 hq.2.2 (by omega) hl1 rfl
    have o2 : (W1.putObj (w.heap.size+1) (.loop { rec' .ready none with state := .busy })).heap[q]? = some o := (World.putObj_heap_other hq.2.2).trans o1
    obtain ⟨o3,g3⟩ := hkp.1 q o g2 o2
    exact ⟨(World.putObj_heap_other hq.2.2).trans o3,hgx _ q W3 _ _ _ hix g3 hq.2.2 (by omega) hl3 rfl,hq.2⟩
   ·rw [World.putObj_heap_other (by omega),hkp.2.1,World.putObj_heap_other (by omega)]; exact hb1.block _ (by omega)
   ·rw [World.putObj_heap_other (by omega),hkp.2.2.1,World.putObj_heap_other (by omega)]; exact hb1.block _ (by omega)
   ·rw [World.putObj_heap_other (by omega),hkp.2.2.2.1,World.putObj_heap_other (by omega)]; exact hb1.block _ (by omega)
   ·rw [sz]
    have := hkp.2.2.2.2
    rw [sz] at this
    exact Nat.le_trans hb1.size this
  have hl3 := hk3.same (w.heap.size+1) _ (by omega) (World.putObj_heap_same hlt1) rfl
  have hd3 := hk3.same w.heap.size _ (Nat.le_refl _) ((World.putObj_heap_other (by omega)).trans hk1) rfl
  refine ⟨_,_,run_endRound (P:=Tryz.prog) none hl3,.inl ⟨rfl,⟨hI.putObj _ hi3 (by omega) hl3 rfl,World.putObj_heap_same (Array.getElem?_eq_some_iff.1 hl3).1,(World.putObj_heap_other (by omega)).trans hd3⟩,?_⟩⟩
  have sz : ∀ (X:World) (l:Nat) (o:Obj),(X.putObj l o).heap.size=X.heap.size := fun X l o => by simp [World.putObj]
  refine ⟨fun q o hq ho => ?_,?_,?_,?_,?_⟩
  ·have hql : q<W.heap.size := (Array.getElem?_eq_some_iff.1 ho).1
   have g1 : Good q W1 := gd.mono pre W W1 q hi (Mv.below hb1) hq.1
   have o1 : W1.heap[q]? = some o := (hb1.block q hql).trans ho
   have g2 := hgp pre q W1 _ _ (.loop { rec' .ready none with state := .busy }) hi1 g1 hq.2.2 (by omega) hl1 rfl
   have o2 : (W1.putObj (w.heap.size+1) (.loop { rec' .ready none with state := .busy })).heap[q]? = some o := (World.putObj_heap_other hq.2.2).trans o1
   obtain ⟨o3,g3⟩ := hkp.1 q o g2 o2
   exact ⟨(World.putObj_heap_other hq.2.2).trans o3,hgp _ q W3 _ _ _ hi3 g3 hq.2.2 (by omega) hl3 rfl,hq.2⟩
  ·rw [World.putObj_heap_other (by omega),hkp.2.1,World.putObj_heap_other (by omega)]; exact hb1.block _ (by omega)
  ·rw [World.putObj_heap_other (by omega),hkp.2.2.1,World.putObj_heap_other (by omega)]; exact hb1.block _ (by omega)
  ·rw [World.putObj_heap_other (by omega),hkp.2.2.2.1,World.putObj_heap_other (by omega)]; exact hb1.block _ (by omega)
  ·rw [sz]
   have := hkp.2.2.2.2
   rw [sz] at this
   exact Nat.le_trans hb1.size this
 ·rintro pre W1 W2 ⟨hx,hl,hk⟩ hm
  refine ⟨hIxm pre W1 W2 hx ⟨hm.os,hm.tape,hm.output,hm.size,fun k hk2 hn => hm.block k hk2 (fun e => hn e.1)⟩,?_,?_⟩
  ·exact (hm.block _ (Array.getElem?_eq_some_iff.1 hl).1 (fun e => e.2.2 rfl)).trans hl
  ·exact (hm.block _ (Array.getElem?_eq_some_iff.1 hk).1 (fun e => e.2.1 rfl)).trans hk
 ·rintro e W2 ⟨⟨v,rfl⟩,⟨hi,hl,hk⟩ | ⟨pre,hpre,hx,hl,hk⟩⟩
  ·exact ⟨none,_,run_endLoop (P:=Tryz.prog) hl (by simp [rec']),hdone _ _ (Nat.le_refl _) (hI.putObj _ hi (by omega) hl rfl) ((World.putObj_heap_other (by omega)).trans hk)⟩
  ·exact ⟨some .ret,_,run_endLoop (P:=Tryz.prog) hl (by simp [rec']),wpIn_ret (hleft _ _ pre (Nat.le_refl _) hpre (hIx _ _ _ _ _ hx (by omega) hl rfl) ((World.putObj_heap_other (by omega)).trans hk))⟩
end Rm
namespace Rm
open Go Go.RowKit Go.Shelf
def Kp2 (B:Nat) (W W':World) : Prop := ∀ l o,(l=B∨l=B+1)→W.heap[l]? = some o→o.isCells=false→W'.heap[l]? = some o
end Rm
namespace Rm
open Go Go.RowKit Go.Shelf
section
variable {l n:Nat} {P:Program} {Q:Exit→Act→World→Prop} {ops:Array Oper} {md:Region.Mode} {S:World→Prop}
abbrev rF (l:Nat) : Fence := Fence.wide.inRound l
theorem wpOpIn_rd {i:Nat} {o:Oper} (hi:ops[i]? = some o) (hd:∀ c : Call,o.op≠Op.defer c) (K:Act→World→Prop) (a:Act) (w:World) :
  wpOpIn (rF l) n P ops Q i K a w ↔ (if Region.wanted o (yielded ops a.tmps)=true then o.uponIn (rF l) n P a K Q ((execOp a.eval o).run P w) else K (a.put o.dst undef) w) := by
 unfold wpOpIn
 simp only [hi,Oper.wpIn]
 rw [show (rF l).round=some l from rfl,Oper.semAt_some l _ o hd]
 split
 ·exact ⟨fun h => h.2,fun h => ⟨fun f _ => trivial,h⟩⟩
 ·exact ⟨fun h => h.2,fun h => ⟨fun f _ => trivial,h⟩⟩
theorem YieldsIf.wpOpIn_rd {i:Nat} {o:Oper} {v:Value} {a:Act} (hi:ops[i]? = some o) (hd:∀ c : Call,o.op≠Op.defer c) (hy:YieldsIf P ops S o v a)
  {K:Act→World→Prop} {w:World} (hS:S w) (h:K (a.put o.dst v) w) : wpOpIn (rF l) n P ops Q i K a w := by
 refine (Go.Proofs.YtabnipbdbnmmpaaGreatDoor.Rm.wpOpIn_rd hi hd K a w).2 ?_
 rcases hy with ⟨hw,hv⟩ | ⟨hw,rfl⟩
 ·rw [if_pos hw,hv w hS]; exact h
 ·simp only [hw,Bool.false_eq_true,if_false]; exact h
theorem wpOpIn_putIf {j:Nat} {oi oj:Oper} {v:Value} (hj:ops[j]? = some oj) (hd:∀ c : Call,oj.op≠Op.defer c) (hap:oi.apart ops oj=true)
  (hsi:∀ cs b,oi.op ≠ .select cs b) (hsj:∀ cs b,oj.op ≠ .select cs b)
  (hQ:∀ c a w,Q (.panic c) (a.put oi.dst v) w→Q (.panic c) a w) {K:Act→World→Prop} {a:Act} {w:World}
  (hy:YieldsIf P ops S oi v a) (h:wpOpIn (rF l) n P ops Q j K (a.put oi.dst v) w) :
  wpOpIn (rF l) n P ops Q j (fun a' w' => YieldsIf P ops S oi v a'∧K (a'.put oi.dst v) w') a w := by
 obtain ⟨h1,h2,h3⟩ := Oper.apart_spec hap
 have keep : ∀ (a:Act),YieldsIf P ops S oi v a → ∀ u,YieldsIf P ops S oi v (a.put oj.dst u) := fun a hy u =>
  hy.of_same (execOp_put oi hsi a oj.dst u h3) (wanted_put oi a oj.dst u h3)
 have keepD : ∀ d,YieldsIf P ops S oi v { a with defers := d :: a.defers } := fun d => hy.of_same rfl rfl
 refine (wpOpIn_rd hj hd _ a w).2 ?_
 have h := (wpOpIn_rd hj hd K _ w).1 h
 rw [wanted_put oj a oi.dst v h1,execOp_put oj hsj a oi.dst v h1] at h
 split
 ·rename_i hw
  rw [if_pos hw] at h
  generalize (execOp a.eval oj).run P w=r at *
  cases r with
  | ok x w' =>
   cases x <;> simp only [Oper.uponIn] at h ⊢
   case value u => exact ⟨keep a hy u,by rw [← Act.put_comm a v u h2]; exact h⟩
   case skip => exact ⟨keep a hy _,by rw [← Act.put_comm a v undef h2]; exact h⟩
   case defer d =>
    refine ⟨keep _ (keepD d) _,?_⟩
    rw [← Act.put_comm _ v undef h2,← Act.put_defers]
    exact h
   case enter f args =>
    refine ⟨h.1,CallsIn.mono h.2 fun e w'' he => ?_⟩
    cases e with
    | returned u => exact ⟨keep a hy u,by rw [← Act.put_comm a v u h2]; exact he⟩
    | panicked c => exact hQ _ _ _ he
    | outgrown => exact he
   case row row args => exact ⟨h.1,RowsIn.mono h.2 fun u w'' he => ⟨keep a hy u,by rw [← Act.put_comm a v u h2]; exact he⟩⟩
   case round l f tmps assign body =>
    refine ⟨h.1,RoundIn.mono h.2 fun e w'' he => ?_⟩
    cases e with
    | returned u => exact ⟨keep a hy u,by rw [← Act.put_comm a v u h2]; exact he⟩
    | panicked c => exact hQ _ _ _ he
    | outgrown => exact he
  | halt x w' =>
   cases x <;> simp only [Oper.uponIn] at h ⊢
   case panic u => exact hQ _ _ _ h
 ·rename_i hw
  rw [if_neg hw] at h
  exact ⟨keep a hy _,by rw [← Act.put_comm a v undef h2]; exact h⟩
def wpAnyR (l n:Nat) (P:Program) (md:Region.Mode) (ops:Array Oper) (Q:Exit→Act→World→Prop) (S:World→Prop) : Nat→Array Bool→Act→World→Prop
 | 0,listed,a,w => Region.ready md ops listed = []∧Q .normal a w
 | fuel+1,listed,a,w =>
  (Region.ready md ops listed = []→Q .normal a w) ∧
  ∀ i ∈ Region.ready md ops listed,wpOpIn (rF l) n P ops Q i (fun a' w' => S w'∧wpAnyR l n P md ops Q S fuel (listed.setIfInBounds i true) a' w') a w
theorem wpAnyIn_of_R : ∀ (fuel:Nat) (listed:Array Bool) (a:Act) (w:World),wpAnyR l n P md ops Q S fuel listed a w→wpAnyIn (rF l) n P md ops Q fuel listed a w
 | 0,_,_,_,h => h
 | fuel+1,_,_,_,h => ⟨h.1,fun i hi => wpOpIn_mono (fun a' w' h' => wpAnyIn_of_R fuel _ a' w' h'.2) (h.2 i hi)⟩
theorem wpAnyR_first {i:Nat} {oi:Oper} {v:Value} (hd:∀ (i:Nat) (o:Oper),ops[i]? = some o → ∀ c : Call,o.op≠Op.defer c) (hi:ops[i]? = some oi) (hsel:∀ (j:Nat) (o:Oper) cs b,ops[j]? = some o→o.op ≠ .select cs b)
  (hQ:∀ c a w,Q (.panic c) (a.put oi.dst v) w→Q (.panic c) a w) :
  ∀ (fuel:Nat) (listed:Array Bool) (a:Act) (w:World),
   (∀ j oj,ops[j]? = some oj→j≠i→listed.getD j true=false→(∀ e ∈ oj.after,Region.binds md e=true→e.on≠i)→oi.apart ops oj=true) →
   i ∈ Region.ready md ops listed→YieldsIf P ops S oi v a→S w →
   wpAnyR l n P md ops Q S fuel (listed.setIfInBounds i true) (a.put oi.dst v) w→wpAnyR l n P md ops Q S (fuel+1) listed a w := by
 intro fuel
 induction fuel with
 | zero =>
  intro listed a w _ hr hy hS H
  refine ⟨fun h => (by rw [h] at hr; cases hr),fun j hj => ?_⟩
  by_cases hji : j=i
  ·subst hji; exact YieldsIf.wpOpIn_rd hi (hd _ _ hi) hy hS ⟨hS,H⟩
  ·have := ready_mono hj hji
   rw [H.1] at this
   cases this
 | succ fuel ih =>
  intro listed a w hfree hr hy hS H
  refine ⟨fun h => (by rw [h] at hr; cases hr),fun j hj => ?_⟩
  by_cases hji : j=i
  ·subst hji; exact YieldsIf.wpOpIn_rd hi (hd _ _ hi) hy hS ⟨hS,H⟩
  ·have h1 := H.2 j (ready_mono hj hji)
   obtain ⟨hjun,oj,hoj,hall⟩ := mem_ready.1 hj
   have hnot : ∀ e ∈ oj.after,Region.binds md e=true→e.on≠i := fun e he hb heq => by
    have h1 := hall e he hb
    have h0 := (mem_ready.1 hr).1
    rw [heq] at h1
    rcases Nat.lt_or_ge i listed.size with h' | h'
    ·simp [h'] at h0 h1; rw [h0] at h1; cases h1
    ·simp [Array.getElem?_eq_none h'] at h1
   have h2 := wpOpIn_putIf hoj (hd _ _ hoj) (hfree j oj hoj hji hjun hnot) (fun cs b => hsel i oi cs b hi) (fun cs b => hsel j oj cs b hoj) hQ hy h1
   have hfree' : ∀ k ok,ops[k]? = some ok→k≠i→(listed.setIfInBounds j true).getD k true=false →
     (∀ e ∈ ok.after,Region.binds md e=true→e.on≠i)→oi.apart ops ok=true := fun k ok hk hki hun hno => by
    refine hfree k ok hk hki ?_ hno
    by_cases hjk : j=k
    ·subst hjk; exact hjun
    ·rw [getD_set_ne true hjk] at hun; exact hun
   refine wpOpIn_mono (fun a' w' h3 => ⟨h3.2.1,ih (listed.setIfInBounds j true) a' w' hfree' (ready_mono hr (Ne.symm hji)) h3.1 h3.2.1 ?_⟩) h2
   rw [Array.setIfInBounds_comm _ _ hji]
   exact h3.2.2
theorem wpAnyR_take {i:Nat} {oi:Oper} {v:Value} {fuel:Nat} {listed:Array Bool} {a:Act} {w:World} (hd:∀ (i:Nat) (o:Oper),ops[i]? = some o → ∀ c : Call,o.op≠Op.defer c) (hi:ops[i]? = some oi)
  (hs:Region.noSelect ops=true) (hf:Region.free md ops listed i=true) (hr:(Region.ready md ops listed).contains i=true)
  (hQ:∀ c a w,Q (.panic c) (a.put oi.dst v) w→Q (.panic c) a w) (hy:YieldsIf P ops S oi v a) (hS:S w)
  (h:wpAnyR l n P md ops Q S fuel (listed.setIfInBounds i true) (a.put oi.dst v) w) : wpAnyR l n P md ops Q S (fuel+1) listed a w :=
 wpAnyR_first hd hi (Region.noSelect_spec hs) hQ fuel listed a w (Region.free_spec hi hf) (by simpa using hr) hy hS h
theorem wpAnyR_one {i:Nat} {o:Oper} {fuel:Nat} {listed:Array Bool} {a:Act} {w:World} (hd:∀ (i:Nat) (o:Oper),ops[i]? = some o → ∀ c : Call,o.op≠Op.defer c) (hi:ops[i]? = some o) (hr:Region.ready md ops listed = [i])
  (h:if Region.wanted o (yielded ops a.tmps)=true then o.uponIn (rF l) n P a (fun a' w' => S w'∧wpAnyR l n P md ops Q S fuel (listed.setIfInBounds i true) a' w') Q ((execOp a.eval o).run P w) else S w∧wpAnyR l n P md ops Q S fuel (listed.setIfInBounds i true) (a.put o.dst undef) w) : wpAnyR l n P md ops Q S (fuel+1) listed a w :=
 ⟨fun h0 => (by rw [hr] at h0; cases h0),fun j hj => by
  rw [hr,List.mem_singleton] at hj
  subst hj
  exact (wpOpIn_rd hi (hd _ _ hi) _ a w).2 h⟩
theorem wpAnyR_call {i:Nat} {o:Oper} {fuel:Nat} {listed:Array Bool} {a:Act} {w:World} {f:Nat} {args:Array Value} {R:Ending→World→Prop} (hd:∀ (i:Nat) (o:Oper),ops[i]? = some o → ∀ c : Call,o.op≠Op.defer c) (hi:ops[i]? = some o) (hr:Region.ready md ops listed = [i]) (hw:Region.wanted o (yielded ops a.tmps)=true)
  (he:(execOp a.eval o).run P w = .ok (.enter f args) w) (hc:Calls P f args w R) (hR:∀ e w',R e w' → ∃ v,e = .returned v∧S w'∧wpAnyR l n P md ops Q S fuel (listed.setIfInBounds i true) (a.put o.dst v) w') : wpAnyR l n P md ops Q S (fuel+1) listed a w :=
 wpAnyR_one hd hi hr (by
  rw [if_pos hw,he]
  refine ⟨fun e => (by cases e),CallsIn.mono (CallsIn.inRound l (callsIn_wide.2 hc)) fun e w' h => ?_⟩
  obtain ⟨v,rfl,h1,h2⟩ := hR e w' h
  exact ⟨h1,h2⟩)
theorem wpAnyR_yield {i:Nat} {o:Oper} {fuel:Nat} {listed:Array Bool} {a:Act} {w:World} {l':Nat} {args:Array Value} {R:Ending→World→Prop} (hd:∀ (i:Nat) (o:Oper),ops[i]? = some o → ∀ c : Call,o.op≠Op.defer c) (hi:ops[i]? = some o) (hr:Region.ready md ops listed = [i]) (hw:Region.wanted o (yielded ops a.tmps)=true)
  (he:∀ r,(Instr.yield l' args).run P w=r→(execOp a.eval o).run P w=r) (hc:YieldAt Fence.wide (n - 1) P l' args w R) (hR:∀ e w',R e w' → ∃ v,e = .returned v∧S w'∧wpAnyR l n P md ops Q S fuel (listed.setIfInBounds i true) (a.put o.dst v) w') : wpAnyR l n P md ops Q S (fuel+1) listed a w := by
 obtain ⟨fn,tmps,assign,body,hy,hRd⟩ := hc
 refine wpAnyR_one hd hi hr ?_
 rw [if_pos hw,he _ hy]
 have hRd' : RoundIn (rF l) (n - 1) P l' fn tmps assign body w R := hRd
 refine ⟨fun e => (by cases e),hRd'.mono fun e w' h => ?_⟩
 obtain ⟨v,rfl,h1,h2⟩ := hR e w' h
 exact ⟨h1,h2⟩
theorem wpAnyR_done {listed:Array Bool} {a:Act} {w:World} (hr:Region.ready md ops listed = []) (h:Q .normal a w) : ∀ fuel,wpAnyR l n P md ops Q S fuel listed a w
 | 0 => ⟨hr,h⟩
 | _ + 1 => ⟨fun _ => h,by rw [hr]; simp⟩
theorem wpIn_region_R {id:Nat} {a:Act} {w:World} (hm:P.follows .mixedOrders=true)
  (h:wpAnyR l n P .any ops Q S ops.size (Array.replicate ops.size false) a w.drew) : (Code.region id ops true).wpIn (rF l) n P Q a w :=
 wpIn_region_any hm (wpAnyIn_of_R _ _ _ _ h)
end
theorem range_GN {n:Nat} {α:Type} {g:Operand} {ps:Array Tmp} {assign body:Code} {Q:Exit→Act→World→Prop} {a:Act} {w:World}
  (h1:1≤n) {gf:Nat} {lb:Array Value} (hg:a.eval g = .func (.func gf) #[] lb) (eg:∀ args w,(callFunc gf args).run Tryz.prog w = .ok (.enter gf args) w)
  {encs:α → Array Value} {L:List α} {w0:World} {p b mm:Nat} (hb0:Below w0.heap.size w0 w) (hseq:SeqG (n - 1) gf lb encs L p b mm w0) (hpb:p<w.heap.size∧b<w.heap.size∧mm<w.heap.size)
  (hps:∀ x,(encs x).size=ps.size) (I:List α → World→Prop) (Good:Nat→World→Prop) (hIb:∀ s W W',I s W→Below W.heap.size W W'→I s W') (hIp:∀ s W l o o',I s W→(l=w.heap.size∨l=w.heap.size+1)→W.heap[l]? = some o→o.isCells=false→I s (W.putObj l o')) (gd:GdJ Good I)
  (hgp:∀ s k W l o o',I s W→Good k W→k≠l→l=w.heap.size+1→W.heap[l]? = some o→o.isCells=false→Good k (W.putObj l o'))
  (h0:I [] w) (Ix:List α → World→Prop) (hIx:∀ pre W l o o',Ix pre W→l=w.heap.size+1→W.heap[l]? = some o→o.isCells=false→Ix pre (W.putObj l o')) (Ax:α → Act→World→Prop) (hAx:∀ s x a' W l o o',I s W→Ax x a' W→l=w.heap.size+1→W.heap[l]? = some o→o.isCells=false→Ax x a' (W.putObj l o'))
  (hassign:∀ (l:Nat) (pre:List α) (x:α) (W:World) (K:Act→World→Prop),I pre W→w.heap.size≤W.heap.size→(∀ a' W',Below W.heap.size W W'→Ax x a' W'→K a' W') →
   assign.wpIn (Fence.wide.inRound l) (n - 1 - 1) Tryz.prog (Exit.then K (fun _ _ _ => False)) { tmps := (ps.zip (encs x)).foldl (fun t (p,v) => t.setIfInBounds p v) a.tmps,defers := [] } W)
  (hbody:∀ (l:Nat) (pre:List α) (x:α) (a':Act) (W:World),I pre W→Ax x a' W→pre ++ [x] <+: L→w.heap.size+1<W.heap.size→body.wpIn (Fence.wide.inRound l) (n - 1 - 1) Tryz.prog (fun e _ W' => (e = .normal∧Kp2 w.heap.size W W'∧KpG Good p b mm W W'∧I (pre ++ [x]) W')∨(e = .ret∧Kp2 w.heap.size W W'∧Ix (pre ++ [x]) W')) a' W)
  (hdone:∀ (D:Nat) (W:World),D=w.heap.size→I L W→W.heap[D]? = some (.deferred (some []))→Q .normal { a with defers := { target := .collected D,args := #[] } :: a.defers } W)
  (hleft:∀ (D:Nat) (W:World) (pre:List α),D=w.heap.size→pre <+: L→Ix pre W→W.heap[D]? = some (.deferred (some []))→Q .ret { a with defers := { target := .collected D,args := #[] } :: a.defers } W) :
  (Code.rangeFunc g ps assign body).wpIn Fence.wide n Tryz.prog Q a w := by
 refine wpIn_rangeFunc fun fn hfn => ?_
 rw [show Fence.wide.round=none from rfl]
 let rec' : LoopState→Option Code→Loop := fun st pe => { state := st,pending := pe,fn := fn,tmps := a.tmps,params := ps,assign := assign,body := body,defers := w.heap.size }
 obtain ⟨V,hV⟩ : ∃ V,(w.alloc (.deferred (some []))).alloc (.loop (rec' .ready none))=V := ⟨_,rfl⟩
 have hVs : V.heap.size=w.heap.size+2 := by rw [← hV]; simp
 have vL : V.heap[w.heap.size+1]? = some (.loop (rec' .ready none)) := by
  rw [← hV]; simpa using World.alloc_heap_new (w.alloc (.deferred (some []))) (.loop (rec' .ready none))
 have vD : V.heap[w.heap.size]? = some (.deferred (some [])) := by
  rw [← hV]; exact (Below.heap_alloc _ _ _ (by simp)).trans (World.alloc_heap_new w _)
 have vB : Below w.heap.size w V := by rw [← hV]; exact ((Below.refl _ w).alloc (Nat.le_refl _) _).alloc (by simp) _
 have vI : I [] V := hIb [] w V h0 vB
 refine ⟨w.heap.size+1,[{ target := .collected w.heap.size,args := #[] }],V,{ target := .fn (.func gf) lb,args := #[.func (.yield (w.heap.size+1)) #[] #[]] },V,gf,#[.func (.yield (w.heap.size+1)) #[] #[]] ++ lb,V,?_,?_,?_,?_,fun _ => h1,?_⟩
 ·rw [← hV]; exact run_enterLoop_outer _ _ _ _ _
 ·simp only [resolve,hg]; simp [go_sem]
 ·intro f' hf'; exact trivial
 ·simp [invoke,go_sem,eg]
 have gdJ : GdJ (fun k W => Good k W∧k≠w.heap.size∧k≠w.heap.size+1) (fun pre W => I pre W∧W.heap[w.heap.size+1]? = some (.loop (rec' .ready none))∧W.heap[w.heap.size]? = some (.deferred (some []))) := by
  have low : ∀ W W',Mv (fun k W => Good k W∧k≠w.heap.size∧k≠w.heap.size+1) W W'→Mv Good W W' := fun W W' h => ⟨h.os,h.tape,h.output,h.size,fun k hk hn => h.block k hk (fun e => hn e.1)⟩
  refine ⟨fun s W W' hs hm => ⟨gd.move s W W' hs.1 (low _ _ hm),?_,?_⟩,fun s W W' k hs hm hk => ⟨gd.mono s W W' k hs.1 (low _ _ hm) hk.1,hk.2⟩,fun s W W' k hs hm hk => ⟨gd.fresh s W W' k hs.1 (low _ _ hm) hk,?_,?_⟩⟩
  ·exact (hm.block _ (Array.getElem?_eq_some_iff.1 hs.2.1).1 (fun e => e.2.2 rfl)).trans hs.2.1
  ·exact (hm.block _ (Array.getElem?_eq_some_iff.1 hs.2.2).1 (fun e => e.2.1 rfl)).trans hs.2.2
  ·have := (Array.getElem?_eq_some_iff.1 hs.2.2).1; omega
  ·have := (Array.getElem?_eq_some_iff.1 hs.2.1).1; omega
 refine (hseq (w.heap.size+1) _ (fun pre W => Ix pre W∧W.heap[w.heap.size+1]? = some (.loop (rec' .done (some .ret)))∧W.heap[w.heap.size]? = some (.deferred (some []))) _ V (hb0.trans (vB.mono hb0.size)) gdJ ?_ ⟨vI,vL,vD⟩).mono ?_
 ·rintro k pre x W ⟨hi,hl,hk⟩ hlen
  have hlt : w.heap.size+1<W.heap.size := (Array.getElem?_eq_some_iff.1 hl).1
  refine yield_anyT rfl k (m:=n - 1 - 1) ⟨fn,_,assign,body,run_yield (P:=Tryz.prog) (args:=encs x) hl (hps x),roundIn_of_wpIn hfn (hassign _ pre x W _ hi (by omega) (fun a' W1 hb1 hax => ?_))⟩
  have hi1 : I pre W1 := hIb pre W W1 hi hb1
  have hl1 : W1.heap[w.heap.size+1]? = some (.loop (rec' .ready none)) := (hb1.block _ hlt).trans hl
  have hk1 : W1.heap[w.heap.size]? = some (.deferred (some [])) := (hb1.block _ (by omega)).trans hk
  have hlt1 : w.heap.size+1<W1.heap.size := (Array.getElem?_eq_some_iff.1 hl1).1
  refine ⟨_,run_beginRound hl1 rfl,?_⟩
  refine wpIn_mono (hbody _ pre x a' _ (hIp _ _ _ _ _ hi1 (.inr rfl) hl1 rfl) (hAx _ _ _ _ _ _ _ hi1 hax rfl hl1 rfl) hlen (by simp only [World.putObj]; simpa using hlt1)) ?_
  rintro e a3 W3 (⟨rfl,hk3,hkp,hi3⟩ | ⟨rfl,hk3,hix⟩)
  rotate_left
  ·have hl3 := hk3 (w.heap.size+1) _ (.inr rfl) (World.putObj_heap_same hlt1) rfl
   have hd3 := hk3 w.heap.size _ (.inl rfl) ((World.putObj_heap_other (by omega)).trans hk1) rfl
   exact ⟨_,_,run_endRound (P:=Tryz.prog) (some .ret) hl3,.inr ⟨rfl,hIx _ _ _ _ _ hix rfl hl3 rfl,World.putObj_heap_same (Array.getElem?_eq_some_iff.1 hl3).1,(World.putObj_heap_other (by omega)).trans hd3⟩⟩
  have hl3 := hk3 (w.heap.size+1) _ (.inr rfl) (World.putObj_heap_same hlt1) rfl
  have hd3 := hk3 w.heap.size _ (.inl rfl) ((World.putObj_heap_other (by omega)).trans hk1) rfl
  refine ⟨_,_,run_endRound (P:=Tryz.prog) none hl3,.inl ⟨rfl,⟨hIp _ _ _ _ _ hi3 (.inr rfl) hl3 rfl,World.putObj_heap_same (Array.getElem?_eq_some_iff.1 hl3).1,(World.putObj_heap_other (by omega)).trans hd3⟩,?_⟩⟩
  have sz : ∀ (X:World) (l:Nat) (o:Obj),(X.putObj l o).heap.size=X.heap.size := fun X l o => by simp [World.putObj]
  refine ⟨fun q o hq ho => ?_,?_,?_,?_,?_⟩
  ·have hql : q<W.heap.size := (Array.getElem?_eq_some_iff.1 ho).1
   have g1 : Good q W1 := gd.mono pre W W1 q hi (Mv.below hb1) hq.1
   have o1 : W1.heap[q]? = some o := (hb1.block q hql).trans ho
   have g2 := hgp pre q W1 _ _ (.loop { rec' .ready none with state := .busy }) hi1 g1 hq.2.2 rfl hl1 rfl
   have o2 : (W1.putObj (w.heap.size+1) (.loop { rec' .ready none with state := .busy })).heap[q]? = some o := (World.putObj_heap_other hq.2.2).trans o1
   obtain ⟨o3,g3⟩ := hkp.1 q o g2 o2
   exact ⟨(World.putObj_heap_other hq.2.2).trans o3,hgp _ q W3 _ _ _ hi3 g3 hq.2.2 rfl hl3 rfl,hq.2⟩
  ·rw [World.putObj_heap_other (by omega),hkp.2.1,World.putObj_heap_other (by omega)]; exact hb1.block _ (by omega)
  ·rw [World.putObj_heap_other (by omega),hkp.2.2.1,World.putObj_heap_other (by omega)]; exact hb1.block _ (by omega)
  ·rw [World.putObj_heap_other (by omega),hkp.2.2.2.1,World.putObj_heap_other (by omega)]; exact hb1.block _ (by omega)
  ·rw [sz]
   have := hkp.2.2.2.2
   rw [sz] at this
   exact Nat.le_trans hb1.size this
 ·rintro e W2 ⟨⟨v,rfl⟩,⟨hi,hl,hk⟩ | ⟨pre,hpre,hx,hl,hk⟩⟩
  ·exact ⟨none,_,run_endLoop (P:=Tryz.prog) hl (by simp [rec']),hdone _ _ rfl (hIp _ _ _ _ _ hi (.inr rfl) hl rfl) ((World.putObj_heap_other (by omega)).trans hk)⟩
  ·exact ⟨some .ret,_,run_endLoop (P:=Tryz.prog) hl (by simp [rec']),wpIn_ret (hleft _ _ pre rfl hpre (hIx _ _ _ _ _ hx rfl hl rfl) ((World.putObj_heap_other (by omega)).trans hk))⟩
end Rm
end Go.Proofs.YtabnipbdbnmmpaaGreatDoor
