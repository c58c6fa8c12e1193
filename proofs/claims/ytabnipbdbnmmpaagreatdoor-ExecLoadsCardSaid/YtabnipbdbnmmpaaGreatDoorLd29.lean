import Derived.Test.YtabnipbdbnmmpaaGreatDoorLd01
import Derived.Test.YtabnipbdbnmmpaaGreatDoorLd24
import Derived.Test.YtabnipbdbnmmpaaGreatDoorLd28
set_option linter.unusedVariables false
set_option linter.unusedSimpArgs false
set_option maxHeartbeats 8000000
namespace Go.Proofs.YtabnipbdbnmmpaaGreatDoor
namespace Rg
open Go Go.RowKit
section
variable {P:Program} {ops:Array Oper} {Q:Exit->Act->World->Prop} {md:Region.Mode} {S:World->Prop} {Z:Nat->Bool}
theorem waits {i j:Nat} {listed:Array Bool} {oj:Oper} (hj:j∈Region.ready md ops listed) (hoj:ops[j]? = some oj) (hi:i∈Region.ready md ops listed):∀ e∈oj.after,Region.binds md e=true->e.on≠i:=by
 intro e he hb heq
 obtain⟨_,oj',hoj',hall⟩:=mem_ready.1 hj
 rw[hoj] at hoj'
 cases hoj'
 have h1:=hall e he hb
 have h0:=(mem_ready.1 hi).1
 rw[heq] at h1
 rcases Nat.lt_or_ge i listed.size with h'|h'
 ·simp[h'] at h0 h1
  rw[h0] at h1
  cases h1
 ·simp[Array.getElem?_eq_none h'] at h1
def wpSet (P:Program) (md:Region.Mode) (ops:Array Oper) (Q:Exit->Act->World->Prop) (S:World->Prop) (Z:Nat->Bool):Nat->Array Bool->Act->World->Prop
 |0,listed,a,w=>Region.ready md ops listed = []∧Q .normal a w
 |n+1,listed,a,w=>(Region.ready md ops listed = []->Q .normal a w)∧∀ i∈Region.ready md ops listed,wpOp P ops Q i (fun a' w'=>(Z i=false->S w')∧wpSet P md ops Q S Z n (listed.setIfInBounds i true) a' w') a w
theorem wpSet.any:∀ (n:Nat) (listed:Array Bool) (a:Act) (w:World),wpSet P md ops Q S Z n listed a w->wpAny P md ops Q n listed a w
 |0,_,_,_,h=>h
 |n+1,_,_,_,h=>⟨h.1,fun i hi=>wpOp_mono (fun a' w' h'=>wpSet.any n _ a' w' h'.2) (h.2 i hi)⟩
def clo (md:Region.Mode) (ops:Array Oper) (i:Nat):List Bool:=ops.toList.foldl (fun acc o=>acc ++ [o.after.any fun e=>Region.binds md e && (e.on == i || acc.getD e.on false)]) []
def chk (md:Region.Mode) (ops:Array Oper) (Z:Nat->Bool) (listed:Array Bool) (i:Nat) (D:List Bool):Bool:=
 ((List.range ops.size).all fun j=>!(D.getD j false) || (match ops[j]? with|some o=>o.after.any fun e=>Region.binds md e && (e.on == i || D.getD e.on false)|none=>false)) &&
 ((List.range ops.size).all fun j=>!(Z j) || D.getD j false || listed.getD j true) && ((List.range ops.size).all fun j=>!(D.getD j false) || !(listed.getD j true)) && decide (D.length=ops.size)
theorem set_first {i:Nat} {oi:Oper} {v:Value} {D:List Bool} (hi:ops[i]? = some oi) (hD:∀ (j:Nat) (oj:Oper),ops[j]? = some oj->D.getD j false=true -> ∃ e∈oj.after,Region.binds md e=true∧(e.on=i∨D.getD e.on false=true))
  (hsel:∀ (j:Nat) (o:Oper) cs b,ops[j]? = some o->o.op ≠ .select cs b) (hQ:∀ c a w,Q (.panic c) (a.put oi.dst v) w->Q (.panic c) a w) (n:Nat) :
  ∀ (listed:Array Bool) (a:Act) (w:World),(∀ (j:Nat) (oj:Oper),ops[j]? = some oj->Z j=true->listed.getD j true=false->D.getD j false=true)->(∀ j,D.getD j false=true->listed.getD j true=false)->(∀ j oj,ops[j]? = some oj->j≠i->listed.getD j true=false->(∀ e∈oj.after,Region.binds md e=true->e.on≠i)->oi.apart ops oj=true)->i∈Region.ready md ops listed->YieldsIf P ops S oi v a->S w ->
   wpSet P md ops Q S Z n (listed.setIfInBounds i true) (a.put oi.dst v) w->wpSet P md ops Q S Z (n+1) listed a w:=by
 induction n with
 |zero=>
  intro listed a w _ _ _ hr hy hS H
  refine⟨fun h=>absurd hr (by rw[h];simp),fun j hj=>?_⟩
  by_cases hji:j=i
  ·rw[hji]
   exact hy.wpOp hi hS ⟨fun _=>hS,H⟩
  ·exact absurd (ready_mono hj hji) (by rw[H.1];simp)
 |succ n ih=>
  intro listed a w hZ hL hfree hr hy hS H
  refine⟨fun h=>absurd hr (by rw[h];simp),fun j hj=>?_⟩
  by_cases hji:j=i
  ·rw[hji]
   exact hy.wpOp hi hS ⟨fun _=>hS,H⟩
  obtain⟨hjun,oj,hoj,hall⟩:=mem_ready.1 hj
  have hnot:=waits hj hoj hr
  have hjD:D.getD j false=false:=by
   cases hd:D.getD j false with
   |false=>rfl
   |true=>
    obtain⟨e,he,hb,hon⟩:=hD j oj hoj hd
    rcases hon with hon|hon
    ·exact absurd hon (hnot e he hb)
    ·have h1:=hall e he hb
     have h2:=hL _ hon
     rcases Nat.lt_or_ge e.on listed.size with h'|h'
     ·simp[h'] at h1 h2
      rw[h2] at h1
      cases h1
     ·simp[Array.getElem?_eq_none h'] at h1
  have hjZ:Z j=false:=by
   cases hz:Z j with
   |false=>rfl
   |true=>rw[hZ j oj hoj hz hjun] at hjD;cases hjD
  refine wpOp_mono (fun a' w' h3=>?_) (wpOp_putIf hoj (hfree j oj hoj hji hjun hnot) (fun cs b=>hsel i oi cs b hi) (fun cs b=>hsel j oj cs b hoj) hQ hy (H.2 j (ready_mono hj hji)))
  obtain⟨y',s',h4⟩:=h3
  refine⟨s',ih _ a' w' ?_ ?_ ?_ (ready_mono hr (Ne.symm hji)) y' (s' hjZ) (by rw[Array.setIfInBounds_comm _ _ hji];exact h4)⟩
  ·intro k ok hk hzk hun
   refine hZ k ok hk hzk ?_
   by_cases hjk:j=k
   ·rw[<-hjk];exact hjun
   ·rw[getD_set_ne true hjk] at hun;exact hun
  ·intro k hk
   have hjk:j≠k:=by rintro rfl;rw[hk] at hjD;cases hjD
   rw[getD_set_ne true hjk]
   exact hL k hk
  ·intro k ok hk hki hun hno
   refine hfree k ok hk hki ?_ hno
   by_cases hjk:j=k
   ·rw[<-hjk];exact hjun
   ·rw[getD_set_ne true hjk] at hun;exact hun
theorem set_take {i:Nat} {oi:Oper} {v:Value} {n:Nat} {listed:Array Bool} {a:Act} {w:World} (hi:ops[i]? = some oi) (hc:chk md ops Z listed i (clo md ops i)=true)
  (hs:Region.noSelect ops=true) (hf:Region.free md ops listed i=true) (hr:(Region.ready md ops listed).contains i=true)
  (hQ:∀ c a w,Q (.panic c) (a.put oi.dst v) w->Q (.panic c) a w) (hy:YieldsIf P ops S oi v a) (hS:S w)
  (h:wpSet P md ops Q S Z n (listed.setIfInBounds i true) (a.put oi.dst v) w):wpSet P md ops Q S Z (n+1) listed a w:=by
 unfold chk at hc
 simp only[Bool.and_eq_true,List.all_eq_true,List.mem_range,Bool.or_eq_true,Bool.not_eq_true',decide_eq_true_eq] at hc
 obtain⟨⟨⟨c1,c2⟩,c3⟩,c4⟩:=hc
 refine set_first (D:=clo md ops i) hi ?_ (Region.noSelect_spec hs) hQ n listed a w ?_ ?_ (Region.free_spec hi hf) (by simpa using hr) hy hS h
 ·intro j oj hoj hd
  have hj:j<ops.size:=(Array.getElem?_eq_some_iff.1 hoj).1
  rcases c1 j hj with h1|h1
  ·rw[h1] at hd;cases hd
  ·rw[hoj] at h1
   rw[Array.any_eq_true'] at h1
   obtain⟨e,he,hb⟩:=h1
   simp only[Bool.and_eq_true,Bool.or_eq_true,beq_iff_eq] at hb
   exact⟨e,he,hb.1,hb.2⟩
 ·intro j oj hoj hz hun
  have hj:j<ops.size:=(Array.getElem?_eq_some_iff.1 hoj).1
  rcases c2 j hj with(h1|h1)|h1
  ·rw[h1] at hz;cases hz
  ·exact h1
  ·rw[h1] at hun;cases hun
 ·intro j hd
  by_cases hj:j<ops.size
  ·rcases c3 j hj with h1|h1
   ·rw[h1] at hd;cases hd
   ·exact h1
  ·rw[List.getD_eq_getElem?_getD,List.getElem?_eq_none (by omega)] at hd
   cases hd
theorem set_pureN {i:Nat} {oi:Oper} {v:Value} (hi:ops[i]? = some oi) (hz:Z i=true) (hsel:∀ (j:Nat) (o:Oper) cs b,ops[j]? = some o->o.op ≠ .select cs b) (hQ:∀ c a w,Q (.panic c) (a.put oi.dst v) w->Q (.panic c) a w) (n:Nat) :
  ∀ (listed:Array Bool) (a:Act) (w:World),(∀ j oj,ops[j]? = some oj->j≠i->listed.getD j true=false->(∀ e∈oj.after,Region.binds md e=true->e.on≠i)->oi.apart ops oj=true)->i∈Region.ready md ops listed->YieldsIf P ops (fun _=>True) oi v a ->
   wpSet P md ops Q S Z n (listed.setIfInBounds i true) (a.put oi.dst v) w->wpSet P md ops Q S Z (n+1) listed a w:=by
 induction n with
 |zero=>
  intro listed a w _ hr hy H
  refine⟨fun h=>absurd hr (by rw[h];simp),fun j hj=>?_⟩
  by_cases hji:j=i
  ·rw[hji]
   exact hy.wpOp hi trivial ⟨fun h=>(by rw[hz] at h;cases h),H⟩
  ·exact absurd (ready_mono hj hji) (by rw[H.1];simp)
 |succ n ih=>
  intro listed a w hfree hr hy H
  refine⟨fun h=>absurd hr (by rw[h];simp),fun j hj=>?_⟩
  by_cases hji:j=i
  ·rw[hji]
   exact hy.wpOp hi trivial ⟨fun h=>(by rw[hz] at h;cases h),H⟩
  obtain⟨hjun,oj,hoj,hall⟩:=mem_ready.1 hj
  have hnot:=waits hj hoj hr
  refine wpOp_mono (fun a' w' h3=>?_) (wpOp_putIf hoj (hfree j oj hoj hji hjun hnot) (fun cs b=>hsel i oi cs b hi) (fun cs b=>hsel j oj cs b hoj) hQ hy (H.2 j (ready_mono hj hji)))
  obtain⟨y',s',h4⟩:=h3
  refine⟨s',ih _ a' w' ?_ (ready_mono hr (Ne.symm hji)) y' (by rw[Array.setIfInBounds_comm _ _ hji];exact h4)⟩
  intro k ok hk hki hun hno
  refine hfree k ok hk hki ?_ hno
  by_cases hjk:j=k
  ·rw[<-hjk];exact hjun
  ·rw[getD_set_ne true hjk] at hun;exact hun
theorem set_pure {i:Nat} {oi:Oper} {v:Value} {n:Nat} {listed:Array Bool} {a:Act} {w:World} (hi:ops[i]? = some oi) (hz:Z i=true)
  (hs:Region.noSelect ops=true) (hf:Region.free md ops listed i=true) (hr:(Region.ready md ops listed).contains i=true)
  (hQ:∀ c a w,Q (.panic c) (a.put oi.dst v) w->Q (.panic c) a w) (hy:YieldsIf P ops (fun _=>True) oi v a)
  (h:wpSet P md ops Q S Z n (listed.setIfInBounds i true) (a.put oi.dst v) w):wpSet P md ops Q S Z (n+1) listed a w:=
 set_pureN hi hz (Region.noSelect_spec hs) hQ n listed a w (Region.free_spec hi hf) (by simpa using hr) hy h
def seqB (md:Region.Mode) (ops:Array Oper) (Z:Nat->Bool):Nat->Nat->Array Bool->Bool
 |0,k,listed=>(Region.ready md ops listed).isEmpty && decide (ops.size<=k)
 |m+1,k,listed=>decide (Region.ready md ops listed = [k]) && Z k && decide (k<ops.size) && seqB md ops Z m (k+1) (listed.setIfInBounds k true)
theorem set_tail:∀ (m k n:Nat) (listed:Array Bool) (a:Act) (w:World),seqB md ops Z m k listed=true->m<=n->wpList P ops Q (ops.toList.drop k) a w->wpSet P md ops Q S Z n listed a w
 |0,k,n,listed,a,w,hq,_,h=>by
  simp only[seqB,Bool.and_eq_true,List.isEmpty_iff,decide_eq_true_eq] at hq
  rw[List.drop_of_length_le (by simpa using hq.2)] at h
  cases n with
  |zero=>exact⟨hq.1,h⟩
  |succ n=>exact⟨fun _=>h,by rw[hq.1];simp⟩
 |m+1,k,0,listed,a,w,_,hn,_=>by omega
 |m+1,k,n+1,listed,a,w,hq,hn,h=>by
  simp only[seqB,Bool.and_eq_true,decide_eq_true_eq] at hq
  obtain⟨⟨⟨q1,q2⟩,q3⟩,q4⟩:=hq
  refine⟨fun h0=>(by rw[q1] at h0;cases h0),fun j hj=>?_⟩
  rw[q1,List.mem_singleton] at hj
  subst hj
  have hdrop:ops.toList.drop j=ops[j] :: ops.toList.drop (j+1):=by
   rw[List.drop_eq_getElem_cons (by simpa using q3)]
   simp
  rw[hdrop] at h
  have h2:wpOp P ops Q j (wpList P ops Q (ops.toList.drop (j+1))) a w:=by
   unfold wpOp
   rw[Array.getElem?_eq_getElem q3]
   exact h
  exact wpOp_mono (fun a' w' h3=>⟨fun hz=>(by rw[q2] at hz;cases hz),set_tail m (j+1) n _ a' w' q4 (by omega) h3⟩) h2
theorem region_set {id:Nat} {a:Act} {w:World} (S:World->Prop) (k:Nat) (pu:List Nat) (hm:P.follows .mixedOrders=true) (h:wpSet P .any ops Q S (fun j=>decide (k<=j) || pu.contains j) ops.size (Array.replicate ops.size false) a w.drew):(Code.region id ops true).wp P Q a w:=
 wp_region_any hm (wpSet.any _ _ _ _ h)
theorem set_only {i n:Nat} {oi:Oper} {listed:Array Bool} {a:Act} {w:World} (hr:Region.ready md ops listed = [i]) (hi:ops[i]? = some oi) (hwd:Region.wanted oi (yielded ops a.tmps)=true)
  (h:∀ K:Act->World->Prop,Hid (∀ a' w',(Z i=false->S w')->wpSet P md ops Q S Z n (listed.setIfInBounds i true) a' w'->K a' w')->oi.wp P a w K Q):wpSet P md ops Q S Z (n+1) listed a w:=by
 refine⟨fun h0=>(by rw[hr] at h0;cases h0),fun j hj=>?_⟩
 rw[hr,List.mem_singleton] at hj
 subst hj
 unfold wpOp
 simp only[hi,hwd,if_true]
 exact .inl (h _ (fun a' w' h1 h2=>⟨h1,h2⟩))

theorem set_two {i j n:Nat} {oi oj:Oper} {listed:Array Bool} {a:Act} {w:World} (hr:Region.ready md ops listed = [i,j]) (hi:ops[i]? = some oi) (hj:ops[j]? = some oj) (hwi:Region.wanted oi (yielded ops a.tmps)=true) (hwj:Region.wanted oj (yielded ops a.tmps)=true)
  (h1:∀ K:Act->World->Prop,Hid (∀ a' w',(Z i=false->S w')->wpSet P md ops Q S Z n (listed.setIfInBounds i true) a' w'->K a' w')->oi.wp P a w K Q)
  (h2:∀ K:Act->World->Prop,Hid (∀ a' w',(Z j=false->S w')->wpSet P md ops Q S Z n (listed.setIfInBounds j true) a' w'->K a' w')->oj.wp P a w K Q):wpSet P md ops Q S Z (n+1) listed a w:=by
 refine⟨fun h0=>(by rw[hr] at h0;cases h0),fun k hk=>?_⟩
 rw[hr,List.mem_cons,List.mem_singleton] at hk
 rcases hk with rfl|rfl
 ·unfold wpOp
  simp only[hi,hwi,if_true]
  exact .inl (h1 _ (fun a' w' h1 h2=>⟨h1,h2⟩))
 ·unfold wpOp
  simp only[hj,hwj,if_true]
  exact .inl (h2 _ (fun a' w' h1 h2=>⟨h1,h2⟩))
theorem sT {n:Nat} {listed:Array Bool} {a:Act} {w:World} {oi:Oper} (i:Nat) (v:Value) (hi:ops[i]? = some oi) (h:wpSet P md ops Q S Z n (listed.setIfInBounds i true) (a.put oi.dst v) w) (hy:∀ ww,S ww->(execOp a.eval oi).run P ww = .ok (.value v) ww:=by exact fun ww hSw=>by (try dsimp only at hSw);go_simp) (hw:Region.wanted oi (yielded ops a.tmps)=true:=by kernel_rfl) (hc:chk md ops Z listed i (clo md ops i)=true:=by kernel_rfl) (hs:Region.noSelect ops=true:=by kernel_rfl) (hf:Region.free md ops listed i=true:=by kernel_rfl) (hr:(Region.ready md ops listed).contains i=true:=by kernel_rfl) (hS:S w:=by assumption) (hQ:∀ c a w,Q (.panic c) (a.put oi.dst v) w->Q (.panic c) a w:=by exact fun _ _ _ h=>h):wpSet P md ops Q S Z (n+1) listed a w:=
 set_take hi hc hs hf hr hQ (.inl ⟨hw,hy⟩) hS h
theorem sP {n:Nat} {listed:Array Bool} {a:Act} {w:World} {oi:Oper} (i:Nat) (v:Value) (hi:ops[i]? = some oi) (h:wpSet P md ops Q S Z n (listed.setIfInBounds i true) (a.put oi.dst v) w) (hy:∀ ww,(execOp a.eval oi).run P ww = .ok (.value v) ww:=by exact fun ww=>by go_simp) (hw:Region.wanted oi (yielded ops a.tmps)=true:=by kernel_rfl) (hz:Z i=true:=by kernel_rfl) (hs:Region.noSelect ops=true:=by kernel_rfl) (hf:Region.free md ops listed i=true:=by kernel_rfl) (hr:(Region.ready md ops listed).contains i=true:=by kernel_rfl) (hQ:∀ c a w,Q (.panic c) (a.put oi.dst v) w->Q (.panic c) a w:=by exact fun _ _ _ h=>h):wpSet P md ops Q S Z (n+1) listed a w:=
 set_pure hi hz hs hf hr hQ (.inl ⟨hw,fun ww _=>hy ww⟩) h
end
end Rg
section
open Go.RowKit Go.Shelf Rg
theorem row_grown {w w5:World} {o:Obj} {X e k n:Nat} {v:Value} {xs:List Value} (h:w.ownsRow X e k v n xs) (gr:(w.alloc o).grownBy w5 v.ownBlock) (he:e≠5) {g:Nat} {cur:Array Value} {f:Nat×Nat} (hg:w.heap[g]? = some (.cells cur 5 f)):w5.heap[g]? = w.heap[g]?:=by
 have hlt:g<w.heap.size:=(Array.getElem?_eq_some_iff.1 hg).1
 refine(gr.block g (by simp;omega) ?_).trans (Below.heap_alloc w o g hlt)
 intro e9
 rcases h.2 with⟨hv,h0⟩|⟨g',cap,cur',hv,h1,h2,h3⟩
 ·rw[hv] at e9
  cases e9
 ·rw[hv] at e9
  obtain rfl:g=g':=by simpa [Value.ownBlock] using e9
  rw[hg] at h2
  injection h2 with h2
  injection h2 with _ h2 _
  exact he h2.symm
theorem DPg.push {w w5:World} {o:Obj} {X k dk:Nat} {v v':Value} {pr:Nat->Int} {d:Nat->Nat} {M M' R:Nat->Int} (h:DPg w X v k pr d M) (hn:w.rowIs dk 5 4096 (fun i=>.int .u8 (R i))) (hX:X<=dk) (hne:∀ j,j<k->d j≠dk)
  (own:w5.ownsRow X 130 2 v' (k+1) (flP pr d k ++ [.int .u64 (pr k),.slice (some ⟨dk,0,.none⟩) 4096 4096])) (gr:(w.alloc o).grownBy w5 v.ownBlock) (h1:∀ a,a<k*4096->M' a=M a) (h2:∀ i,i<4096->M' (k*4096+i)=R i):DPg w5 X v' (k+1) pr (fun j=>if j=k then dk else d j) M':=by
 have e1:flP pr (fun j=>if j=k then dk else d j) (k+1)=flP pr d k ++ [.int .u64 (pr k),.slice (some ⟨dk,0,.none⟩) 4096 4096]:=by
  rw[flP_next,flP_congr (d':=d) (fun j hj=>if_neg (by omega)),if_pos rfl]
 have key:∀ g,(∃ R0:Nat->Value,w.rowIs g 5 4096 R0)->w5.heap[g]? = w.heap[g]?:=fun g ⟨R0,c9,h9,_⟩=>row_grown h.own gr (by decide) h9
 refine⟨by rw[e1];exact own,fun j hj=>?_,fun j hj=>?_,fun i j hi hj e=>?_⟩
 ·by_cases hjk:j=k
  ·subst hjk
   rw[if_pos rfl]
   refine(hn.of_block (key _ ⟨_,hn⟩)).congr fun i hi=>?_
   rw[h2 i hi]
  ·rw[if_neg hjk]
   refine((h.row j (by omega)).of_block (key _ ⟨_,h.row j (by omega)⟩)).congr fun i hi=>?_
   rw[h1 _ (by omega)]
 ·show X<=if j=k then dk else d j
  split
  ·exact hX
  ·exact h.bd j (by omega)
 ·have e:(if i=k then dk else d i)=if j=k then dk else d j:=e
  by_cases hik:i=k
  ·by_cases hjk:j=k
   ·omega
   ·rw[if_pos hik,if_neg hjk] at e
    exact absurd e.symm (hne j (by omega))
  ·by_cases hjk:j=k
   ·rw[if_neg hik,if_pos hjk] at e
    exact absurd e (hne i (by omega))
   ·rw[if_neg hik,if_neg hjk] at e
    exact h.inj i j (by omega) (by omega) e
theorem DPg.lt {w:World} {X k:Nat} {v:Value} {pr:Nat->Int} {d:Nat->Nat} {M:Nat->Int} (h:DPg w X v k pr d M) {j:Nat} (hj:j<k):d j<w.heap.size:=(h.row j hj).lt
theorem DPg.low {w:World} {X k:Nat} {v:Value} {pr:Nat->Int} {d:Nat->Nat} {M:Nat->Int} (h:DPg w X v k pr d M) {a:Addr} (ha:a.block<X) (u:Value):DPg (w.setCell a u) X v k pr d M:=
 ⟨own_same h.own (fun g hg=>Below.heap_setCell _ _ _ _ (by omega)),fun j hj=>(h.row j hj).of_block (Below.heap_setCell _ _ _ _ (by have:=h.bd j hj;omega)),h.bd,h.inj⟩
structure LqI (w8 wr:World) (s pl e k:Nat) (v:Value) (pr:Nat->Int) (d:Nat->Nat) (M:Nat->Int):Prop where
 hs:s=w8.heap.size
 b:Below s w8 wr
 c0:wr.cell? ⟨s,0,.none⟩=some (.int .u64 (((e:Int)+2)*4096))
 c1:wr.cell? ⟨s,1,.none⟩=some v
 c2:wr.cell? ⟨s,2,.none⟩=some (.pointer (some ⟨pl,0,.none⟩))
 fz:∀ i,wr.frozen? ⟨s,i,.none⟩=false
 pg:DPg wr (s+1) v k pr d M
section
variable {w8 wr w':World} {s pl e k:Nat} {v v':Value} {pr:Nat->Int} {d:Nat->Nat} {M:Nat->Int}
theorem LqI.lt (h:LqI w8 wr s pl e k v pr d M):s<wr.heap.size:=zC h.c0
theorem LqI.below (h:LqI w8 wr s pl e k v pr d M) (hb:Below wr.heap.size wr w'):LqI w8 w' s pl e k v pr d M:=
 ⟨h.hs,h.b.trans (hb.mono (Nat.le_of_lt h.lt)),(hb.cell (zC h.c0)).trans h.c0,(hb.cell (zC h.c1)).trans h.c1,(hb.cell (zC h.c2)).trans h.c2,fun i=>(hb.frozen (p:=⟨s,i,.none⟩) h.lt).trans (h.fz i),h.pg.keep hb⟩
theorem LqI.mid (h:LqI w8 wr s pl e k v pr d M) {o:Obj} (gr:(wr.alloc o).grownBy w' v.ownBlock):w'.heap[s]? = wr.heap[s]?:=by
 refine(gr.block s (by have:=h.lt;simp;omega) (fun e9=>?_)).trans (Below.heap_alloc _ _ _ h.lt)
 have:=own_block h.pg.own s e9.symm
 omega
theorem LqI.push (h:LqI w8 wr s pl e k v pr d M) {o:Obj} {dk:Nat} {M' R:Nat->Int} (hn:wr.rowIs dk 5 4096 (fun i=>.int .u8 (R i))) (hX:s+1<=dk) (hne:∀ j,j<k->d j≠dk)
  (own:w'.ownsRow (s+1) 130 2 v' (k+1) (flP pr d k ++ [.int .u64 (pr k),.slice (some ⟨dk,0,.none⟩) 4096 4096])) (gr:(wr.alloc o).grownBy w' v.ownBlock) (h1:∀ a,a<k*4096->M' a=M a) (h2:∀ i,i<4096->M' (k*4096+i)=R i):LqI w8 (w'.setCell ⟨s,1,.none⟩ v') s pl e (k+1) v' pr (fun j=>if j=k then dk else d j) M':=by
 have hm:=h.mid gr
 have hc:∀ i,i≠1->(w'.setCell ⟨s,1,.none⟩ v').cell? ⟨s,i,.none⟩=wr.cell? ⟨s,i,.none⟩:=fun i hi=>(zO (by simp only[ne_eq,Addr.mk.injEq,not_and];omega)).trans (cell_heap hm _ _)
 refine⟨h.hs,(below_append h.b o gr (Nat.le_of_lt h.lt) (fun k hk=>by have:=own_block h.pg.own k hk;omega)).setCell zL _,(hc 0 (by omega)).trans h.c0,World.cell?_setCell_same _ _ _ ((cell_heap hm _ _).trans h.c1),(hc 2 (by omega)).trans h.c2,fun i=>?_,(h.pg.push hn hX hne own gr h1 h2).low (by show s<s+1;omega) _⟩
 rw[World.frozen?_setCell]
 exact(World.frozen?_of_block (a:=⟨s,i,.none⟩) hm).trans (h.fz i)
theorem LqI.write (h:LqI w8 wr s pl e k v pr d M) {j i:Nat} (hj:j<k) (hi:i<4096) (z:Int):LqI w8 (wr.setCell ⟨d j,i,.none⟩ (.int .u8 z)) s pl e k v pr d (fun a=>if a=j*4096+i then z else M a):=by
 have hd:=h.pg.bd j hj
 have hm:(wr.setCell ⟨d j,i,.none⟩ (.int .u8 z)).heap[s]? = wr.heap[s]?:=Below.heap_setCell _ _ _ _ (by show s≠d j;omega)
 refine⟨h.hs,h.b.setCell (by show s<=d j;omega) _,(cell_heap hm _ _).trans h.c0,(cell_heap hm _ _).trans h.c1,(cell_heap hm _ _).trans h.c2,fun i=>?_,h.pg.write hj hi z⟩
 rw[World.frozen?_setCell]
 exact h.fz i
end
theorem QSp_beside {w:World} {q pl P g cq:Nat} {pr:Nat->Int} {d:Nat->Nat} {M:Nat->Int} (h:Rm.QSp w q pl P g cq pr d M) (a:Addr) (v:Value) (h1:a.block≠q) (h2:a.block≠g) (h3:∀ k,k<P->a.block≠d k):Rm.QSp (w.setCell a v) q pl P g cq pr d M:=by
 have K:∀ b,a.block≠b -> ∀ i,(w.setCell a v).cell? ⟨b,i,.none⟩=w.cell? ⟨b,i,.none⟩:=fun b hb i=>cell_heap (Below.heap_setCell _ _ _ _ (fun e=>hb e.symm)) _ _
 exact⟨(K q h1 0).trans h.c0,(K q h1 1).trans h.c1,(K q h1 2).trans h.c2,h.cp,fun k hk=>⟨(K g h2 _).trans (h.pg k hk).1,(K g h2 _).trans (h.pg k hk).2⟩,fun k hk i hi=>(K (d k) (h3 k hk) i).trans (h.by_ k hk i hi)⟩
theorem LqI.qsp {w8 wr:World} {s pl e g c:Nat} {pr:Nat->Int} {d:Nat->Nat} {M:Nat->Int} (h:LqI w8 wr s pl e (e+2) (.slice (some ⟨g,0,.none⟩) (e+2) c) pr d M):Rm.QSp wr s pl (e+2) g c pr d M∧s+1<=g∧∀ k,k<e+2->s+1<=d k:=by
 have hc:=own_cap h.pg.own
 refine⟨⟨?_,h.c1,h.c2,⟨hc.1,hc.2⟩,fun k hk=>h.pg.cell hk,fun k hk i hi=>(h.pg.row k hk).cell hi⟩,own_block h.pg.own g rfl,h.pg.bd⟩
 rw[show (((e+2:Nat):Int))=(e:Int)+2 by omega]
 exact h.c0
theorem wrM_step (M:Nat->Int) (va j:Nat) (R:Nat->Int):(fun a=>if a=va+j then R j else Rm.wrM M va j R a)=Rm.wrM M va (j+1) R:=by
 funext a
 unfold Rm.wrM
 by_cases h:a=va+j
 ·subst h
  rw[if_pos rfl,if_pos (by omega),show va+j-va=j by omega]
 ·rw[if_neg h]
  by_cases h2:va<=a∧a<va+j
  ·rw[if_pos h2,if_pos (by omega)]
  ·rw[if_neg h2,if_neg (by omega)]
theorem wrM_nil (M:Nat->Int) (va:Nat) (R:Nat->Int):Rm.wrM M va 0 R=M:=by
 funext a
 unfold Rm.wrM
 rw[if_neg (by omega)]
theorem info130:∃ i z,Tryz.prog.info? 130=some i∧i.zero=some z∧i.size=2∧i.bytes=32∧z.cells.size=2:=info_of 130 2 32 (by kernel_rfl) (by kernel_rfl)
theorem cell2_new (w:World) (a b:Value) (t:TypeId):∀ j u,[a,b][j]? = some u->(w.alloc (.cells #[a,b] t)).cell? ((⟨w.heap.size,0,.none⟩:Addr).add j)=some u:=by
 intro j u hu
 match j,hu with
 |0,hu=>injection hu with hu;subst hu;simp[Addr.add]
 |1,hu=>injection hu with hu;subst hu;simp[Addr.add]
theorem below_set2 {n:Nat} {W w:World} (h:Below n W w) (a:Addr) (v:Value):Below n (W.setCell a v) (w.setCell a v):=
 ⟨h.os,h.tape,h.output,by simpa [World.setCell] using h.size,fun k hk=>by
  simp only[World.setCell,Array.getElem?_modify]
  rw[h.block k hk]⟩
theorem sgM_zero (Bq:Nat->Int) (S:List Sg) (e:Nat) (h:∀ y∈S,0<=y.va∧y.va+y.sz<=(e:Int)*4096):∀ a,e*4096<=a->sgM Bq S a=0:=by
 suffices H:∀ (S:List Sg) (M:Nat->Int),(∀ y∈S,0<=y.va∧y.va+y.sz<=(e:Int)*4096) -> ∀ a,e*4096<=a->S.foldl (fun M x=>Rm.wrM M x.va.toNat x.sz (fun j=>Bq (x.wh+j))) M a=M a from fun a ha=>H S _ h a ha
 intro S
 induction S with
 |nil=>intro M _ a _;rfl
 |cons y S ih=>
  intro M h a ha
  rw[List.foldl_cons,ih _ (fun z hz=>h z (by simp[hz])) a ha]
  have:=h y (by simp)
  unfold Rm.wrM
  rw[if_neg (by omega)]
end
section
open Go.RowKit Go.Shelf Rg
theorem ePg_hex {S:List Sg} (hne:S ≠ []) {e:Nat} (he:ePg S=(e:Int)):∃ (j:Nat) (y:Sg),S[j]? = some y∧∀ k:Nat,k<e->(k:Int)<pgs y:=by
 have hl:S.getLast? = S[S.length-1]?:=List.getLast?_eq_getElem? ..
 have hlen:0<S.length:=List.length_pos_iff.2 hne
 obtain⟨l,hll⟩:∃ l,S[S.length-1]? = some l:=⟨S[S.length-1],List.getElem?_eq_getElem (by omega)⟩
 refine⟨_,l,hll,fun k hk=>?_⟩
 unfold ePg at he
 rw[hl,hll] at he
 unfold pgs
 simp only at he
 omega
theorem sok_past {S:List Sg} (h:Sok S) (hne:S ≠ []) {e:Nat} (he:ePg S=(e:Int)) {k:Int} (hk:(e:Int)<=k):rgP S k=6:=by
 have hl:S.getLast? = S[S.length-1]?:=List.getLast?_eq_getElem? ..
 have hlen:0<S.length:=List.length_pos_iff.2 hne
 obtain⟨l,hll⟩:∃ l,S[S.length-1]? = some l:=⟨S[S.length-1],List.getElem?_eq_getElem (by omega)⟩
 have hg:=(h _ l hll).1
 have he:(l.va+l.mem+4095)/4096=(e:Int):=by unfold ePg at he;rw[hl,hll] at he;exact he
 refine rgP_miss fun j y hy=>?_
 have hend:y.va+y.mem<=l.va+l.mem:=by
  have hj:=(List.getElem?_eq_some_iff.1 hy).1
  by_cases e:j=S.length-1
  ·rw[e,hll] at hy
   injection hy with hy
   rw[<-hy];exact Int.le_refl _
  ·have h1:=(h _ l hll).2 j y (by omega) hy
   have h2:=hg.m
   omega
 unfold pgs
 omega
def LqP (U:World) (pl e:Nat) (S:List Sg) (B:Nat->Int) (xs:List Bs) (en:Int) (E:Ending) (w':World):Prop:=∃ q g cq d spn,E = .returned (.tuple #[.pointer (some ⟨q,0,.none⟩),.agg #[.int .u64 en,.int .u64 (((e:Int)+1)*4096+(spn:Nat)),.int .u64 (((e:Int)+1)*4096+(spn:Nat))],.int .i64 0])∧Below U.heap.size U w'∧(stx 4096 xs-8*(xs.length+1))/16*16=(spn:Int)∧Rm.QSp w' q pl (e+2) g cq (Rm.prS S e) d (pgM B S e (ptR (((e:Int)+1)*4096) xs (stF xs xs.length) spn (8*xs.length)))∧U.heap.size<=q∧U.heap.size<=g∧∀ k,k<e+2->U.heap.size<=d k
set_option maxRecDepth 10000 in
theorem loadQ_ok {W:World} {pl f kn:Nat} (hpl:W.cell? ⟨pl,0,.none⟩=some (.int .i64 f)) (hpz:W.frozen? ⟨pl,0,.none⟩=false) (hf:f<=1000000) {fp:Option Addr} {b o fn fc:Nat} {B:Nat->Int} (hp:64<=fn->fp=some ⟨b,o,.none⟩) (hrow:Row W b o fn B) (hrowU:Row (W.setCell ⟨pl,0,.none⟩ (.int .i64 ((f:Int)-kn))) b o fn B) (hB:∀ i,0<=B i∧B i<256) (hc:fn<=fc∧fc<=9223372036854775807) (hn3:fn<=400000) (ha hr:Int) (hH:Hd B ha hr)
  {p:Option Addr} {n c:Nat} {xs:List Bs} (hA:Arg W p n c xs) (hAU:Arg (W.setCell ⟨pl,0,.none⟩ (.int .i64 ((f:Int)-kn))) p n c xs) (hrd:(rdF fn B ha hr).1.2=0) (hne:dmE 0 xs=0) {S:List Sg} (hS:sgO fn B ha hr=S) (en:Int) (hen:enO fn B ha hr=en) (e:Nat) (he:ePg S=(e:Int)) (he2:1<=e∧e+2<=4096) (hin:∀ y∈S,0<=y.va∧y.va+y.sz<=(e:Int)*4096) (hS0:S ≠ []) (hso:Sok S) (hk:(e:Int)+6+((e:Int)+513)/512=(kn:Int)) (hle:kn<=f) :
  Calls Tryz.prog 26 #[.pointer (some ⟨pl,0,.none⟩),.slice fp fn fc,.slice p n c] W (LqP (W.setCell ⟨pl,0,.none⟩ (.int .i64 ((f:Int)-kn))) pl e S B xs en):=by
 obtain⟨W1,hW1⟩:∃ W1,W1=W.alloc (.cells #[.int .u64 0,.int .u64 0,.int .u64 0] 44):=⟨_,rfl⟩
 have b1:Below W.heap.size W W1:=by rw[hW1];exact zB.alloc zL _
 have k0:W1.cell? ⟨W.heap.size,0,.none⟩=some (.int .u64 0):=by rw[hW1];simp
 have k1:W1.cell? ⟨W.heap.size,1,.none⟩=some (.int .u64 0):=by rw[hW1];simp
 have k2:W1.cell? ⟨W.heap.size,2,.none⟩=some (.int .u64 0):=by rw[hW1];simp
 have k4:∀ i,W1.frozen? ⟨W.heap.size,i,.none⟩=false:=fun i=>by rw[hW1];exact World.frozen?_alloc_new _ _ _ i
 have cD:=demandQ_any hp (hrow.keep b1) hB hc hn3 ha hr hH (hA.below b1)
 rw[hrd,hS,he] at cD
 have hN:dmN 0 (e:Int) xs=kn:=by rw[<-hk];simp[dmN,hne]
 rw[hN,hne] at cD
 have hkn:kn<=1000000:=by omega
 obtain⟨U,hU⟩:∃ U,U=W.setCell ⟨pl,0,.none⟩ (.int .i64 ((f:Int)-kn)):=⟨_,rfl⟩
 rw[<-hU] at hrowU hAU ⊢
 have hUs:U.heap.size=W.heap.size:=by rw[hU];simp[World.setCell]
 have HU:Hid (Below W.heap.size W W1∧(∀ i,W1.frozen? ⟨W.heap.size,i,.none⟩=false)∧U=W.setCell ⟨pl,0,.none⟩ (.int .i64 ((f:Int)-kn))∧U.heap.size=W.heap.size):=⟨b1,k4,hU,hUs⟩
 have HP:Hid (W1.cell? ⟨pl,0,.none⟩=some (.int .i64 f)∧W1.frozen? ⟨pl,0,.none⟩=false∧pl<W1.heap.size∧pl<W.heap.size):=⟨(b1.cell (zC hpl)).trans hpl,(b1.frozen (p:=⟨pl,0,.none⟩) (zC hpl)).trans hpz,Nat.lt_of_lt_of_le (zC hpl) b1.size,zC hpl⟩
 have HF:Hid ((64<=fn->fp=some ⟨b,o,.none⟩)∧Row U b o fn B∧(∀ i,0<=B i∧B i<256)∧Hd B ha hr∧Arg U p n c xs):=⟨hp,hrowU,hB,hH,hAU⟩
 have HS:Hid ((rdF fn B ha hr).1.2=0∧sgO fn B ha hr=S∧enO fn B ha hr=en∧ePg S=(e:Int)∧(∀ y∈S,0<=y.va∧y.va+y.sz<=(e:Int)*4096)∧S ≠ []∧dmE 0 xs=0∧Sok S):=⟨hrd,hS,hen,he,hin,hS0,hne,hso⟩
 have hapc:n<=c∧c<=9223372036854775807:=⟨hA.tex.2.1,hA.tex.2.2.1⟩
 clear hp hrow hrowU hB hH hA hAU b1 k4 hN hpl hpz hU hUs hrd hS hen he hin hS0 hne hk hso
 obtain⟨x,hx⟩:∃ x,x=W.heap.size:=⟨_,rfl⟩
 have HX:Hid (x=W.heap.size):=hx
 go_enter Tryz.func26,Tryz.ntmps26
 go_upto_region 1 with fail
 rw[<-hW1,<-hx]
 rw[<-hx] at k0 k1 k2
 clear hW1 hx
 go_upto_region 2 with(go_at_call 62;refine cD.mono ?_;rintro _ w3 ⟨rfl,b3⟩)
 have B3:Hid (Below W1.heap.size W1 w3):=b3
 clear b3 cD
 have c63:=take_any ((B3.out.cell HP.out.2.2.1).trans HP.out.1) ((B3.out.frozen (p:=⟨pl,0,.none⟩) HP.out.2.2.1).trans HP.out.2.1) hf kn hkn
 have L0:Hid (w3.cell? ⟨x,0,.none⟩=some (.int .u64 0)∧w3.cell? ⟨x,1,.none⟩=some (.int .u64 0)∧w3.cell? ⟨x,2,.none⟩=some (.int .u64 0)∧∀ i,w3.frozen? ⟨x,i,.none⟩=false):=⟨(B3.out.cell (zC k0)).trans k0,(B3.out.cell (zC k1)).trans k1,(B3.out.cell (zC k2)).trans k2,fun i=>(B3.out.frozen (p:=⟨x,i,.none⟩) (show x<W1.heap.size from zC k0)).trans (by rw[HX.out];exact HU.out.2.1 i)⟩
 clear k0 k1 k2
 go_upto_region 7 with(go_at_call 63;refine c63.mono ?_;rintro _ w4 h4;obtain⟨rfl,e4⟩:_∧w4=w3.setCell ⟨pl,0,.none⟩ (.int .i64 ((f:Int)-kn)):=(by rcases h4 with⟨_,h1,h2⟩|⟨h,_⟩;exact⟨h1,h2⟩;exact absurd hle (by omega));have HW4:Hid (w4=w3.setCell ⟨pl,0,.none⟩ (.int .i64 ((f:Int)-kn))):=e4;clear h4 c63 e4)
 have B4:Hid (Below U.heap.size U w4):=by
  rw[HU.out.2.2.2,HU.out.2.2.1,HW4.out]
  exact below_set2 (HU.out.1.trans (B3.out.mono HU.out.1.size)) _ _
 have L4:Hid (w4.cell? ⟨x,0,.none⟩=some (.int .u64 0)∧w4.cell? ⟨x,1,.none⟩=some (.int .u64 0)∧w4.cell? ⟨x,2,.none⟩=some (.int .u64 0)∧(∀ i,w4.frozen? ⟨x,i,.none⟩=false)∧x<w4.heap.size):=by
  have hxp:x≠pl:=by have:=HX.out;have:=HP.out.2.2.2;omega
  have hk:w4.heap[x]? = w3.heap[x]?:=by rw[HW4.out];exact Below.heap_setCell _ _ _ _ hxp
  refine⟨(cell_heap hk _ _).trans L0.out.1,(cell_heap hk _ _).trans L0.out.2.1,(cell_heap hk _ _).trans L0.out.2.2.1,fun i=>(World.frozen?_of_block (a:=⟨x,i,.none⟩) hk).trans (L0.out.2.2.2 i),?_⟩
  have:=zC L0.out.1
  rw[HW4.out]
  simpa [World.setCell] using this
 clear L0
 have c64:=readR HF.out.1 (HF.out.2.1.keep B4.out) HF.out.2.2.1 hc hn3 ha hr HF.out.2.2.2.1
 go_upto_region 10 with(go_at_call 64;refine c64.mono ?_;rintro _ w5 ⟨q,cs,E,gp,gn,gc,rfl,hSE,sg,hl8,-,b5⟩;clear c64)
 rw[HS.out.2.2.1]
 rw[HS.out.2.1] at hSE
 obtain⟨w7,hw7⟩:∃ w7,w7=(w5.alloc (.cells #[.int .u64 en,.slice q E.length cs] 41)).alloc (.cells #[.slice gp gn gc,.int .i64 (rdF fn B ha hr).1.2] 121):=⟨_,rfl⟩
 obtain⟨zp,hzp⟩:∃ zp,zp=w5.heap.size:=⟨_,rfl⟩
 have b7:Below w5.heap.size w5 w7:=by rw[hw7];exact(zB.alloc zL _).alloc (by simp) _
 have B7:Hid (w7.cell? ⟨zp,0,.none⟩=some (.int .u64 en)∧w7.cell? ⟨zp,1,.none⟩=some (.slice q E.length cs)∧Below w4.heap.size w4 w7∧Segs w7 w4.heap.size (.slice q E.length cs) E B∧E.map (·.1)=S∧E.length<=8∧E ≠ []):=by
  refine⟨by rw[hw7,hzp];simp,by rw[hw7,hzp];simp,b5.trans (b7.mono b5.size),sg.below b7,hSE,hl8,fun h=>HS.out.2.2.2.2.2.1 (by rw[<-hSE,h];rfl)⟩
 rw[<-hw7,<-hzp]
 have k0:=B7.out.1
 have k1:=B7.out.2.1
 have c65:=fun V (k:Below w7.heap.size w7 V)=>pagesQ_any (B7.out.2.2.2.1.below k) B7.out.2.2.2.2.2.2 hl8 en
 rw[hSE,HS.out.2.2.2.1] at c65
 clear hw7 hzp b5 b7 sg hSE
 go_upto_region 11 with(go_at_call 65;refine(c65 _ zB).mono ?_;rintro _ w8 ⟨rfl,b8⟩;clear c65)
 have B8:Hid (Below w7.heap.size w7 w8∧Below w4.heap.size w4 w8∧zp<w8.heap.size):=⟨b8,B7.out.2.2.1.trans (b8.mono B7.out.2.2.1.size),Nat.lt_of_lt_of_le (zC B7.out.1) b8.size⟩
 clear b8 k0 k1
 have hw1:IntKind.u64.wrap ((e:Int)+2)=(e:Int)+2:=by rw[IntKind.wrap_u64];omega
 have hw2:IntKind.u64.wrap (((e:Int)+2)*4096)=((e:Int)+2)*4096:=by rw[IntKind.wrap_u64];omega
 have hs8:w8.heap.size=w8.heap.size:=rfl
 have HI0:Hid (LqI w8 (w8.alloc (.cells #[.int .u64 (((e:Int)+2)*4096),.slice .none 0 0,.pointer (some ⟨pl,0,.none⟩)] 127)) w8.heap.size pl e 0 (.slice .none 0 0) (Rm.prS S e) (fun _=>0) (fun _=>0)):=⟨rfl,zB.alloc zL _,by simp,by simp,by simp,fun i=>World.frozen?_alloc_new _ _ _ i,⟨World.ownsRow_nil _ _ _ _,fun j hj=>by omega,fun j hj=>by omega,fun i j hi=>by omega⟩⟩
 have HB8:Hid (zp<w8.heap.size∧w8.cell? ⟨zp,0,.none⟩=some (.int .u64 en)∧w8.cell? ⟨zp,1,.none⟩=some (.slice q E.length cs)∧Segs w8 w4.heap.size (.slice q E.length cs) E B):=⟨B8.out.2.2,(B8.out.1.cell (zC B7.out.1)).trans B7.out.1,(B8.out.1.cell (zC B7.out.2.1)).trans B7.out.2.1,B7.out.2.2.2.1.below B8.out.1⟩
 obtain⟨i3,z3,hi3,hz3,hs3,hb3,hzs3⟩:=info130
 have HI3:Hid (Tryz.prog.info? 130=some i3∧i3.zero=some z3∧i3.size=2∧i3.bytes=32∧z3.cells.size=2):=⟨hi3,hz3,hs3,hb3,hzs3⟩
 have HEx:Hid (∃ (j:Nat) (y:Sg),S[j]? = some y∧∀ k:Nat,k<e->(k:Int)<pgs y):=ePg_hex HS.out.2.2.2.2.2.1 HS.out.2.2.2.1
 clear hi3 hz3 hs3 hb3 hzs3 hs8
 go_upto_region 12 with fail
 generalize (w8.alloc (.cells #[.int .u64 (((e:Int)+2)*4096),.slice .none 0 0,.pointer (some ⟨pl,0,.none⟩)] 127))=w9 at *
 go_wp2_with fail
 go_loopw [16] (fun a wr=>∃ k:Nat,k<=e∧a = .int .i64 k∧Hid (∃ pv cv d,LqI w8 wr w8.heap.size pl e k (.slice pv k cv) (Rm.prS S e) d (fun _=>0))) (fun a _=>(e-intOf a).toNat)
 case atStart=>exact⟨0,by omega,rfl,_,_,_,HI0.out⟩
 case round=>
  obtain⟨k,hk,rfl,HR⟩:=hrel
  by_cases hlt:k<e
  ·have g0:(k:Int)<e:=by omega
   obtain⟨pv,cv,d,hI⟩:=HR.out
   have HI:Hid (LqI w8 wr w8.heap.size pl e k (.slice pv k cv) (Rm.prS S e) d (fun _=>0)):=hI
   have kS:wr.drew.cell? ⟨w8.heap.size,1,.none⟩=some (.slice pv k cv)∧wr.drew.cell? ⟨zp,0,.none⟩=some (.int .u64 en)∧wr.drew.cell? ⟨zp,1,.none⟩=some (.slice q E.length cs):=⟨hI.c1,(hI.b.cell HB8.out.1).trans HB8.out.2.1,(hI.b.cell HB8.out.1).trans HB8.out.2.2.1⟩
   have c66:∀ V,Below wr.heap.size wr V->Calls Tryz.prog 66 #[.agg #[.int .u64 en,.slice q E.length cs],.int .i64 k] V fun e9 w'=>e9 = .returned (.int .u64 (Rm.prS S e k))∧Below V.heap.size V w':=fun V hV=>by
    have hSg:=HB8.out.2.2.2.below ((HI.out.b.trans (hV.mono (Nat.le_of_lt HI.out.lt))))
    have h1:=rights8_any hSg hl8 en k (by omega) (by rw[B7.out.2.2.2.2.1];obtain⟨j,y,hy,hp⟩:=HEx.out;exact⟨j,y,hy,hp k hlt⟩)
    rw[B7.out.2.2.2.2.1] at h1
    have h2:Rm.prS S e k=rgP S k+16:=by unfold Rm.prS;rw[if_neg (by omega)]
    rw[h2]
    exact h1
   clear hI
   generalize hpr:Rm.prS S e k=px at c66
   have HPr:Hid (Rm.prS S e k=px):=hpr
   clear hpr
   go_wp2_with fail
   refine region_set (fun U=>U.cell? ⟨w8.heap.size,1,.none⟩=some (.slice pv k cv)∧U.cell? ⟨zp,0,.none⟩=some (.int .u64 en)∧U.cell? ⟨zp,1,.none⟩=some (.slice q E.length cs)) 11 [0] (by kernel_rfl) ?_
   refine sP 0 (.pointer (some ⟨w8.heap.size,0,.none⟩)) rfl ?_
   simp only[xX]
   refine sT 1 (.pointer (some ⟨w8.heap.size,0,.none⟩)) rfl ?_ (fun ww hSw=>by (try dsimp only at hSw);obtain⟨q0,q1,q2⟩:=hSw;go_simp)
   simp only[xX]
   refine sT 2 (.pointer (some ⟨w8.heap.size,0,.none⟩)) rfl ?_ (fun ww hSw=>by (try dsimp only at hSw);obtain⟨q0,q1,q2⟩:=hSw;go_simp)
   simp only[xX]
   refine sT 3 (.pointer (some ⟨w8.heap.size,1,.none⟩)) rfl ?_ (fun ww hSw=>by (try dsimp only at hSw);obtain⟨q0,q1,q2⟩:=hSw;go_simp)
   simp only[xX]
   refine sT 4 (.slice pv k cv) rfl ?_ (fun ww hSw=>by (try dsimp only at hSw);obtain⟨q0,q1,q2⟩:=hSw;go_simp)
   simp only[xX]
   refine sT 5 (.agg #[.int .u64 en,.slice q E.length cs]) rfl ?_ (fun ww hSw=>by (try dsimp only at hSw);obtain⟨q0,q1,q2⟩:=hSw;go_simp)
   simp only[xX]
   refine sT 6 (.int .i64 k) rfl ?_ (fun ww hSw=>by (try dsimp only at hSw);obtain⟨q0,q1,q2⟩:=hSw;go_simp)
   simp only[xX]
   refine set_two (i:=7) (j:=8) (by kernel_rfl) rfl rfl (by kernel_rfl) (by kernel_rfl) (fun K hK=>?_) (fun K hK=>?_)
   ·skip
    go_simp
    go_at_call 66
    refine(c66 _ zB.drew).mono ?_
    rintro _ wa ⟨rfl,b66⟩
    have B66:Hid (Below wr.drew.heap.size wr.drew wa):=b66
    clear b66
    have kS2:wa.cell? ⟨w8.heap.size,1,.none⟩=some (.slice pv k cv)∧wa.cell? ⟨zp,0,.none⟩=some (.int .u64 en)∧wa.cell? ⟨zp,1,.none⟩=some (.slice q E.length cs):=⟨(B66.out.cell (zC kS.1)).trans kS.1,(B66.out.cell (zC kS.2.1)).trans kS.2.1,(B66.out.cell (zC kS.2.2)).trans kS.2.2⟩
    refine hK.out _ _ (fun _=>kS2) ?_
    clear hK K
    try simp only[xX]
    refine set_only (i:=8) (by kernel_rfl) rfl (by kernel_rfl) (fun K hK=>?_)
    obtain⟨w6,hmk,HP0⟩:=pageR_new wa
    go_simp
    clear hmk
    have kS3:w6.cell? ⟨w8.heap.size,1,.none⟩=some (.slice pv k cv)∧w6.cell? ⟨zp,0,.none⟩=some (.int .u64 en)∧w6.cell? ⟨zp,1,.none⟩=some (.slice q E.length cs):=⟨(HP0.out.bel.cell (zC kS2.1)).trans kS2.1,(HP0.out.bel.cell (zC kS2.2.1)).trans kS2.2.1,(HP0.out.bel.cell (zC kS2.2.2)).trans kS2.2.2⟩
    refine hK.out _ _ (fun _=>kS3) ?_
    clear hK K
    try simp only[xX]
    obtain⟨dk,hdk⟩:∃ dk,dk=wa.heap.size:=⟨_,rfl⟩
    have HD:Hid (LqI w8 w6 w8.heap.size pl e k (.slice pv k cv) (Rm.prS S e) d (fun _=>0)∧w6.rowIs dk 5 4096 (fun _=>.int .u8 0)∧w8.heap.size+1<=dk∧(∀ j,j<k->d j≠dk)):=by
     have h1:=HI.out.below zB.drew
     have h2:=(h1.below B66.out).below HP0.out.bel
     have h3:=B66.out.size
     have h4:=h1.lt
     refine⟨h2,by rw[hdk];exact HP0.out.pg,by omega,fun j hj=>?_⟩
     have:=h1.pg.lt hj
     omega
    rw[<-hdk]
    clear hdk HP0
    clear kS kS2
    refine sT 9 (.agg #[.int .u64 px,.slice (some ⟨dk,0,.none⟩) 4096 4096]) rfl ?_
    simp only[xX]
    refine set_only (i:=10) (by kernel_rfl) rfl (by kernel_rfl) (fun K hK=>?_)
    go_simp
    refine hK.out _ _ (fun _=>⟨((Below.refl w6.heap.size w6 |>.alloc zL _).cell (zC kS3.1)).trans kS3.1,((Below.refl w6.heap.size w6 |>.alloc zL _).cell (zC kS3.2.1)).trans kS3.2.1,((Below.refl w6.heap.size w6 |>.alloc zL _).cell (zC kS3.2.2)).trans kS3.2.2⟩) ?_
    clear hK K
    try simp only[xX]
    refine set_tail 4 11 _ _ _ _ (by kernel_rfl) (by decide) ?_
    simp only[List.toList_toArray,List.drop_succ_cons,List.drop_zero]
    clear kS3
    have hz6:w8.heap.size+1<=w6.heap.size:=HD.out.1.lt
    have hflp:(flP (Rm.prS S e) d k ++ [.int .u64 px,.slice (some ⟨dk,0,.none⟩) 4096 4096])=(flP (Rm.prS S e) d k ++ [.int .u64 (Rm.prS S e k),.slice (some ⟨dk,0,.none⟩) 4096 4096]):=by rw[HPr.out]
    have HFl:Hid ((flP (Rm.prS S e) d k ++ [.int .u64 px,.slice (some ⟨dk,0,.none⟩) 4096 4096])=(flP (Rm.prS S e) d k ++ [.int .u64 (Rm.prS S e k),.slice (some ⟨dk,0,.none⟩) 4096 4096])):=hflp
    clear hflp
    go_wp2_with (first|(at_builtin;refine wpList_append_own _ rfl _ _ 125 rfl (w8.heap.size+1) 130 i3 z3 2 32 Tryz.underlying125 HI3.out.1 HI3.out.2.1 HI3.out.2.2.1 HI3.out.2.2.2.1 HI3.out.2.2.2.2 (by decide) (.slice pv k cv) k (flP (Rm.prS S e) d k) rfl (HD.out.1.pg.own.alloc _) ⟨w6.heap.size,0,.none⟩ 1 1 [.int .u64 px,.slice (some ⟨dk,0,.none⟩) 4096 4096] rfl rfl (cell2_new _ _ _ _) (fun u hu=>by simp only[List.mem_cons,List.not_mem_nil,or_false] at hu;rcases hu with rfl|rfl<;>rfl) ?c4 ?c5 ?c6 ?_)|fail)
    case c4=>simp only[maxLen];omega
    case c5=>omega
    case c6=>simp only[World.size_alloc];omega
    intro v' w7' own' grow fb
    clear fb
    rw[HFl.out] at own'
    obtain⟨g',c',rfl⟩:=ownsRow_succ own'
    have HN:Hid (LqI w8 (w7'.setCell ⟨w8.heap.size,1,.none⟩ (.slice (some ⟨g',0,.none⟩) (k+1) c')) w8.heap.size pl e (k+1) (.slice (some ⟨g',0,.none⟩) (k+1) c') (Rm.prS S e) (fun j=>if j=k then dk else d j) (fun _=>0)):=HD.out.1.push HD.out.2.1 HD.out.2.2.1 HD.out.2.2.2 own' grow (fun _ _=>rfl) (fun _ _=>rfl)
    have m1:w7'.cell? ⟨w8.heap.size,1,.none⟩=some (.slice pv k cv):=(cell_heap (HD.out.1.mid grow) _ _).trans HD.out.1.c1
    have m2:w7'.frozen? ⟨w8.heap.size,1,.none⟩=false:=(World.frozen?_of_block (a:=⟨w8.heap.size,1,.none⟩) (HD.out.1.mid grow)).trans (HD.out.1.fz 1)
    clear own' grow HFl hz6
    go_wp2_with fail
    exact⟨⟨k+1,by omega,rfl,_,_,_,HN.out⟩,by simp only[intOf];omega⟩
   ·skip
    obtain⟨wa,hmk,HP0⟩:=pageR_new wr.drew
    go_simp
    clear hmk
    have kS2:wa.cell? ⟨w8.heap.size,1,.none⟩=some (.slice pv k cv)∧wa.cell? ⟨zp,0,.none⟩=some (.int .u64 en)∧wa.cell? ⟨zp,1,.none⟩=some (.slice q E.length cs):=⟨(HP0.out.bel.cell (zC kS.1)).trans kS.1,(HP0.out.bel.cell (zC kS.2.1)).trans kS.2.1,(HP0.out.bel.cell (zC kS.2.2)).trans kS.2.2⟩
    refine hK.out _ _ (fun _=>kS2) ?_
    clear hK K
    try simp only[xX]
    have BM:Hid (Below wr.heap.size wr wa):=zB.drew.trans HP0.out.bel
    refine set_only (i:=7) (by kernel_rfl) rfl (by kernel_rfl) (fun K hK=>?_)
    go_simp
    go_at_call 66
    refine(c66 _ BM.out).mono ?_
    rintro _ w6 ⟨rfl,b66⟩
    have B66:Hid (Below wa.heap.size wa w6):=b66
    clear b66
    have kS3:w6.cell? ⟨w8.heap.size,1,.none⟩=some (.slice pv k cv)∧w6.cell? ⟨zp,0,.none⟩=some (.int .u64 en)∧w6.cell? ⟨zp,1,.none⟩=some (.slice q E.length cs):=⟨(B66.out.cell (zC kS2.1)).trans kS2.1,(B66.out.cell (zC kS2.2.1)).trans kS2.2.1,(B66.out.cell (zC kS2.2.2)).trans kS2.2.2⟩
    refine hK.out _ _ (fun _=>kS3) ?_
    clear hK K
    try simp only[xX]
    obtain⟨dk,hdk⟩:∃ dk,dk=wr.drew.heap.size:=⟨_,rfl⟩
    have HD:Hid (LqI w8 w6 w8.heap.size pl e k (.slice pv k cv) (Rm.prS S e) d (fun _=>0)∧w6.rowIs dk 5 4096 (fun _=>.int .u8 0)∧w8.heap.size+1<=dk∧(∀ j,j<k->d j≠dk)):=by
     have h1:=HI.out.below zB.drew
     have h2:=(h1.below HP0.out.bel).below B66.out
     have h4:=h1.lt
     have h5:=HP0.out.pg
     refine⟨h2,by rw[hdk];exact h5.of_block (B66.out.block _ h5.lt),by omega,fun j hj=>?_⟩
     have:=h1.pg.lt hj
     omega
    have hdk':dk=wr.heap.size:=hdk
    try rw[<-hdk]
    try simp only[<-hdk']
    clear hdk hdk' HP0 BM
    clear kS kS2
    refine sT 9 (.agg #[.int .u64 px,.slice (some ⟨dk,0,.none⟩) 4096 4096]) rfl ?_
    simp only[xX]
    refine set_only (i:=10) (by kernel_rfl) rfl (by kernel_rfl) (fun K hK=>?_)
    go_simp
    refine hK.out _ _ (fun _=>⟨((Below.refl w6.heap.size w6 |>.alloc zL _).cell (zC kS3.1)).trans kS3.1,((Below.refl w6.heap.size w6 |>.alloc zL _).cell (zC kS3.2.1)).trans kS3.2.1,((Below.refl w6.heap.size w6 |>.alloc zL _).cell (zC kS3.2.2)).trans kS3.2.2⟩) ?_
    clear hK K
    try simp only[xX]
    refine set_tail 4 11 _ _ _ _ (by kernel_rfl) (by decide) ?_
    simp only[List.toList_toArray,List.drop_succ_cons,List.drop_zero]
    clear kS3
    have hz6:w8.heap.size+1<=w6.heap.size:=HD.out.1.lt
    have hflp:(flP (Rm.prS S e) d k ++ [.int .u64 px,.slice (some ⟨dk,0,.none⟩) 4096 4096])=(flP (Rm.prS S e) d k ++ [.int .u64 (Rm.prS S e k),.slice (some ⟨dk,0,.none⟩) 4096 4096]):=by rw[HPr.out]
    have HFl:Hid ((flP (Rm.prS S e) d k ++ [.int .u64 px,.slice (some ⟨dk,0,.none⟩) 4096 4096])=(flP (Rm.prS S e) d k ++ [.int .u64 (Rm.prS S e k),.slice (some ⟨dk,0,.none⟩) 4096 4096])):=hflp
    clear hflp
    go_wp2_with (first|(at_builtin;refine wpList_append_own _ rfl _ _ 125 rfl (w8.heap.size+1) 130 i3 z3 2 32 Tryz.underlying125 HI3.out.1 HI3.out.2.1 HI3.out.2.2.1 HI3.out.2.2.2.1 HI3.out.2.2.2.2 (by decide) (.slice pv k cv) k (flP (Rm.prS S e) d k) rfl (HD.out.1.pg.own.alloc _) ⟨w6.heap.size,0,.none⟩ 1 1 [.int .u64 px,.slice (some ⟨dk,0,.none⟩) 4096 4096] rfl rfl (cell2_new _ _ _ _) (fun u hu=>by simp only[List.mem_cons,List.not_mem_nil,or_false] at hu;rcases hu with rfl|rfl<;>rfl) ?c4 ?c5 ?c6 ?_)|fail)
    case c4=>simp only[maxLen];omega
    case c5=>omega
    case c6=>simp only[World.size_alloc];omega
    intro v' w7' own' grow fb
    clear fb
    rw[HFl.out] at own'
    obtain⟨g',c',rfl⟩:=ownsRow_succ own'
    have HN:Hid (LqI w8 (w7'.setCell ⟨w8.heap.size,1,.none⟩ (.slice (some ⟨g',0,.none⟩) (k+1) c')) w8.heap.size pl e (k+1) (.slice (some ⟨g',0,.none⟩) (k+1) c') (Rm.prS S e) (fun j=>if j=k then dk else d j) (fun _=>0)):=HD.out.1.push HD.out.2.1 HD.out.2.2.1 HD.out.2.2.2 own' grow (fun _ _=>rfl) (fun _ _=>rfl)
    have m1:w7'.cell? ⟨w8.heap.size,1,.none⟩=some (.slice pv k cv):=(cell_heap (HD.out.1.mid grow) _ _).trans HD.out.1.c1
    have m2:w7'.frozen? ⟨w8.heap.size,1,.none⟩=false:=(World.frozen?_of_block (a:=⟨w8.heap.size,1,.none⟩) (HD.out.1.mid grow)).trans (HD.out.1.fz 1)
    clear own' grow HFl hz6
    go_wp2_with fail
    exact⟨⟨k+1,by omega,rfl,_,_,_,HN.out⟩,by simp only[intOf];omega⟩
  ·obtain rfl:k=e:=by omega
   obtain⟨pv,cv,d,hI⟩:=HR.out
   have HI:Hid (LqI w8 wr w8.heap.size pl k k (.slice pv k cv) (Rm.prS S k) d (fun _=>0)):=hI
   have hlE:(0:Int)<=E.length:=by omega
   clear hI hlt hk
   go_upto_region 16 with fail
   clear HR HI0
   go_wp2_with fail
   go_loopw [17] (fun a wr=>∃ i:Nat,i<=E.length∧a = .int .i64 i∧Hid (∃ pv cv d,LqI w8 wr w8.heap.size pl k k (.slice pv k cv) (Rm.prS S k) d (sgM B (S.take i)))) (fun a _=>(E.length-intOf a).toNat)
   case atStart=>exact⟨0,by omega,rfl,_,_,_,HI.out⟩
   case round=>
    obtain⟨i,hi,rfl,HR⟩:=hrel
    obtain⟨pv,cv,d,hI⟩:=HR.out
    have kz1:wr.cell? ⟨zp,1,.none⟩=some (.slice q E.length cs):=(hI.b.cell HB8.out.1).trans HB8.out.2.2.1
    have HI:Hid (LqI w8 wr w8.heap.size pl k k (.slice pv k cv) (Rm.prS S k) d (sgM B (S.take i))):=hI
    clear hI
    by_cases hlt:i<E.length
    ·have g0:(i:Int)<E.length:=by omega
     obtain⟨x9,hx9⟩:∃ x9,E[i]? = some x9:=⟨E[i],List.getElem?_eq_getElem hlt⟩
     have hS1:=HB8.out.2.2.2.below HI.out.b
     have hxm:=List.mem_of_getElem? hx9
     obtain⟨f0,f1,f2,f3⟩:=flatE_get E _ x9 hx9
     obtain⟨_,_,ef,hcE1,hcE2,_⟩:=own_form hS1.own
     cases ef
     obtain⟨g,rfl,a0⟩:=own_cell hS1.own f0 (by omega) (by omega)
     obtain⟨g2,e2,a2⟩:=own_cell hS1.own f2 (by omega) (by omega)
     simp only[Option.some.injEq,Addr.mk.injEq,and_true] at e2
     subst e2
     have hSx:S[i]? = some x9.1:=by rw[<-B7.out.2.2.2.2.1,List.getElem?_map,hx9];rfl
     have hii:=HS.out.2.2.2.2.1 x9.1 (List.mem_of_getElem? hSx)
     have hdat:=hS1.dat x9 hxm
     obtain⟨dq,dc,hld,hdc1,hdc2,hdn⟩:=own_form hdat
     rw[hld] at a2 hdat
     obtain⟨va,hva⟩:∃ va:Nat,x9.1.va=va:=⟨x9.1.va.toNat,by omega⟩
     rw[hva] at a0 hii
     obtain⟨sz,hsz⟩:∃ sz,x9.1.sz=sz:=⟨_,rfl⟩
     have HXN:Hid (sgM B (S.take (i+1))=Rm.wrM (sgM B (S.take i)) va sz (fun j=>B (x9.1.wh+j))):=by
      have h9:=sgM_next B hSx
      rw[hva,hsz] at h9
      exact h9
     have HD9:Hid (∀ j,j<sz -> ∃ gd,dq=some ⟨gd,0,.none⟩∧w8.cell? ⟨gd,j,.none⟩=some (.int .u8 (B (x9.1.wh+j)))∧gd<w8.heap.size):=fun j hj=>by
      have hd8:=HB8.out.2.2.2.dat x9 hxm
      rw[hld] at hd8
      have h1:(by8 (byt B x9.1))[j]? = some (.int .u8 (B (x9.1.wh+j))):=by8_get (byt_get B x9.1 j (by omega))
      obtain⟨g',eg,hc⟩:=own_cell hd8 h1 (by omega) (by omega)
      exact⟨g',eg,hc,zC hc⟩
     have hg8:g<w8.heap.size:=own_lt HB8.out.2.2.2.own
     have HG8:Hid (g<w8.heap.size∧wr.cell? ⟨g,i*4,.none⟩=some (.int .u64 va)∧wr.cell? ⟨g,i*4+2,.none⟩=some (.slice dq sz dc)):=⟨hg8,a0,by rw[<-hsz];exact a2⟩
     have HG9:Hid (w8.cell? ⟨g,i*4,.none⟩=some (.int .u64 va)∧w8.cell? ⟨g,i*4+2,.none⟩=some (.slice dq sz dc)):=⟨(HI.out.b.cell hg8).symm.trans HG8.out.2.1,(HI.out.b.cell hg8).symm.trans HG8.out.2.2⟩
     have hvs:va+sz<=k*4096:=by omega
     have hdcs:sz<=dc∧dc<=9223372036854775807:=⟨by omega,hdc2⟩
     generalize hwh:x9.1.wh=wh at *
     clear hS1 hxm f0 f1 f2 f3 hSx hii hdat hld hdn a0 a2 hdc1 hdc2 hx9 hva hsz hwh hg8
     go_upto_region 19 with fail
     go_wp2_with fail
     go_loopw [18] (fun a wv=>∃ j:Nat,j<=sz∧a = .int .i64 j∧Hid (∃ pv cv d,LqI w8 wv w8.heap.size pl k k (.slice pv k cv) (Rm.prS S k) d (Rm.wrM (sgM B (S.take i)) va j (fun j=>B (wh+j))))) (fun a _=>(sz-intOf a).toNat)
     case atStart=>exact⟨0,by omega,rfl,_,_,_,by rw[wrM_nil];exact HI.out⟩
     case round=>
      obtain⟨j,hj,rfl,HRj⟩:=hrel
      obtain⟨pv,cv,d,hI⟩:=HRj.out
      have kz1:wr.cell? ⟨zp,1,.none⟩=some (.slice (some ⟨g,0,.none⟩) E.length cs):=(hI.b.cell HB8.out.1).trans HB8.out.2.2.1
      have kg0:wr.cell? ⟨g,i*4,.none⟩=some (.int .u64 va):=(hI.b.cell HG8.out.1).trans HG9.out.1
      have kg2:wr.cell? ⟨g,i*4+2,.none⟩=some (.slice dq sz dc):=(hI.b.cell HG8.out.1).trans HG9.out.2
      have HJ:Hid (LqI w8 wr w8.heap.size pl k k (.slice pv k cv) (Rm.prS S k) d (Rm.wrM (sgM B (S.take i)) va j (fun j=>B (wh+j)))):=hI
      clear hI
      by_cases hjl:j<sz
      ·have gj:(j:Int)<sz:=by omega
       obtain⟨gd,rfl,kgd,hgd⟩:=HD9.out j hjl
       obtain⟨P0,hP0⟩:∃ P0,P0=(va+j)/4096:=⟨_,rfl⟩
       obtain⟨O0,hO0⟩:∃ O0,O0=(va+j)%4096:=⟨_,rfl⟩
       have hP0k:P0<k:=by omega
       have hO0l:O0<4096:=by omega
       have HPO:Hid (va+j=P0*4096+O0):=by show va+j=P0*4096+O0;omega
       have hq1:((va:Int)+(j:Int)).tdiv 4096=(P0:Int):=by rw[Int.tdiv_eq_ediv_of_nonneg (by omega)];omega
       have hr1:((va:Int)+(j:Int)).tmod 4096=(O0:Int):=by rw[Int.tmod_eq_emod_of_nonneg (by omega)];omega
       have hw7:IntKind.u64.wrap (P0:Int)=(P0:Int):=by rw[IntKind.wrap_u64];omega
       have hO1:(O0:Int)<4096:=by omega
       have hw5:IntKind.u64.wrap (j:Int)=(j:Int):=by rw[IntKind.wrap_u64];omega
       have hw6:IntKind.u64.wrap ((va:Int)+(j:Int))=(va:Int)+(j:Int):=by rw[IntKind.wrap_u64];omega
       have hgp:∃ gp9,pv=some ⟨gp9,0,.none⟩:=by
        obtain⟨k1,hk1⟩:∃ k1,k=k1+1:=⟨k-1,by omega⟩
        have h9:=HJ.out.pg.own
        have:=flP_get (Rm.prS S k) d k 0 (by omega)
        obtain⟨gg,e9,_⟩:=own_cell h9 this.1 (by omega) (by omega)
        exact⟨gg,e9⟩
       obtain⟨gp9,rfl⟩:=hgp
       have hpg:=HJ.out.pg.cell hP0k
       obtain⟨dP,hdP⟩:∃ dP,dP=d P0:=⟨_,rfl⟩
       have hrw:=HJ.out.pg.row P0 hP0k
       have kd1:∃ v9,wr.cell? ⟨dP,O0,.none⟩=some v9:=by rw[hdP];exact⟨_,hrw.cell hO0l⟩
       have kd2:wr.frozen? ⟨dP,O0,.none⟩=false:=by rw[hdP];exact hrw.frozen O0
       obtain⟨by8v,hby8⟩:∃ v,v=B (wh+j):=⟨_,rfl⟩
       have hcv:=own_cap HJ.out.pg.own
       have hcv2:k<=cv∧cv<=9223372036854775807:=⟨hcv.1,hcv.2⟩
       have hcE3:E.length<=cs∧cs<=9223372036854775807:=⟨hcE1,hcE2⟩
       rw[<-hby8] at kgd
       rw[<-hdP] at hpg
       have kS:wr.drew.cell? ⟨w8.heap.size,1,.none⟩=some (.slice (some ⟨gp9,0,.none⟩) k cv)∧wr.drew.cell? ⟨gp9,P0*2+1,.none⟩=some (.slice (some ⟨dP,0,.none⟩) 4096 4096)∧wr.drew.cell? ⟨zp,1,.none⟩=some (.slice (some ⟨g,0,.none⟩) E.length cs)∧wr.drew.cell? ⟨g,i*4+2,.none⟩=some (.slice (some ⟨gd,0,.none⟩) sz dc)∧wr.drew.cell? ⟨gd,j,.none⟩=some (.int .u8 by8v):=⟨HJ.out.c1,hpg.2,kz1,kg2,(HJ.out.b.cell hgd).trans kgd⟩
       have HW:Hid (LqI w8 (wr.drew.setCell ⟨dP,O0,.none⟩ (.int .u8 by8v)) w8.heap.size pl k k (.slice (some ⟨gp9,0,.none⟩) k cv) (Rm.prS S k) d (Rm.wrM (sgM B (S.take i)) va (j+1) (fun j=>B (wh+j)))):=by
        have h9:=(HJ.out.below zB.drew).write hP0k hO0l by8v
        rw[<-hdP,<-HPO.out,hby8] at h9
        have h8:=wrM_step (sgM B (S.take i)) va j (fun j=>B (wh+j))
        rw[h8] at h9
        rw[hby8]
        exact h9
       obtain⟨v9,kd1⟩:=kd1
       clear hdP hrw hby8 hcv hP0 hO0 hpg kgd
       go_upto_region 23 with fail
       refine region_set (fun U=>U.cell? ⟨w8.heap.size,1,.none⟩=some (.slice (some ⟨gp9,0,.none⟩) k cv)∧U.cell? ⟨gp9,P0*2+1,.none⟩=some (.slice (some ⟨dP,0,.none⟩) 4096 4096)∧U.cell? ⟨zp,1,.none⟩=some (.slice (some ⟨g,0,.none⟩) E.length cs)∧U.cell? ⟨g,i*4+2,.none⟩=some (.slice (some ⟨gd,0,.none⟩) sz dc)∧U.cell? ⟨gd,j,.none⟩=some (.int .u8 by8v)) 21 [] (by kernel_rfl) ?_
       refine sT 0 (.pointer (some ⟨w8.heap.size,0,.none⟩)) rfl ?_ (fun ww hSw=>by (try dsimp only at hSw);obtain⟨q0,q1,q2,q3,q4⟩:=hSw;go_simp)
       simp only[xX]
       refine sT 1 (.pointer (some ⟨w8.heap.size,0,.none⟩)) rfl ?_ (fun ww hSw=>by (try dsimp only at hSw);obtain⟨q0,q1,q2,q3,q4⟩:=hSw;go_simp)
       simp only[xX]
       refine sT 2 (.pointer (some ⟨w8.heap.size,1,.none⟩)) rfl ?_ (fun ww hSw=>by (try dsimp only at hSw);obtain⟨q0,q1,q2,q3,q4⟩:=hSw;go_simp)
       simp only[xX]
       refine sT 3 (.slice (some ⟨gp9,0,.none⟩) k cv) rfl ?_ (fun ww hSw=>by (try dsimp only at hSw);obtain⟨q0,q1,q2,q3,q4⟩:=hSw;go_simp)
       simp only[xX]
       refine sT 4 (.int .u64 ((va:Int)+(j:Int))) rfl ?_ (fun ww hSw=>by (try dsimp only at hSw);obtain⟨q0,q1,q2,q3,q4⟩:=hSw;go_simp)
       simp only[xX]
       refine sT 5 (.int .u64 P0) rfl ?_ (fun ww hSw=>by (try dsimp only at hSw);obtain⟨q0,q1,q2,q3,q4⟩:=hSw;go_simp)
       simp only[xX]
       refine sT 6 (.pointer (some ⟨gp9,P0*2,.none⟩)) rfl ?_ (fun ww hSw=>by (try dsimp only at hSw);obtain⟨q0,q1,q2,q3,q4⟩:=hSw;go_simp)
       simp only[xX]
       refine sT 7 (.pointer (some ⟨gp9,P0*2+1,.none⟩)) rfl ?_ (fun ww hSw=>by (try dsimp only at hSw);obtain⟨q0,q1,q2,q3,q4⟩:=hSw;go_simp)
       simp only[xX]
       refine sT 8 (.slice (some ⟨dP,0,.none⟩) 4096 4096) rfl ?_ (fun ww hSw=>by (try dsimp only at hSw);obtain⟨q0,q1,q2,q3,q4⟩:=hSw;go_simp)
       simp only[xX]
       refine sT 9 (.int .u64 ((va:Int)+(j:Int))) rfl ?_ (fun ww hSw=>by (try dsimp only at hSw);obtain⟨q0,q1,q2,q3,q4⟩:=hSw;go_simp)
       simp only[xX]
       refine sT 10 (.int .u64 O0) rfl ?_ (fun ww hSw=>by (try dsimp only at hSw);obtain⟨q0,q1,q2,q3,q4⟩:=hSw;go_simp)
       simp only[xX]
       refine sT 11 (.pointer (some ⟨zp,1,.none⟩)) rfl ?_ (fun ww hSw=>by (try dsimp only at hSw);obtain⟨q0,q1,q2,q3,q4⟩:=hSw;go_simp)
       simp only[xX]
       refine sT 12 (.slice (some ⟨g,0,.none⟩) E.length cs) rfl ?_ (fun ww hSw=>by (try dsimp only at hSw);obtain⟨q0,q1,q2,q3,q4⟩:=hSw;go_simp)
       simp only[xX]
       refine sT 13 (.int .i64 i) rfl ?_ (fun ww hSw=>by (try dsimp only at hSw);obtain⟨q0,q1,q2,q3,q4⟩:=hSw;go_simp)
       simp only[xX]
       refine sT 14 (.pointer (some ⟨g,i*4,.none⟩)) rfl ?_ (fun ww hSw=>by (try dsimp only at hSw);obtain⟨q0,q1,q2,q3,q4⟩:=hSw;go_simp)
       simp only[xX]
       refine sT 15 (.pointer (some ⟨g,i*4+2,.none⟩)) rfl ?_ (fun ww hSw=>by (try dsimp only at hSw);obtain⟨q0,q1,q2,q3,q4⟩:=hSw;go_simp)
       simp only[xX]
       refine sT 16 (.slice (some ⟨gd,0,.none⟩) sz dc) rfl ?_ (fun ww hSw=>by (try dsimp only at hSw);obtain⟨q0,q1,q2,q3,q4⟩:=hSw;go_simp)
       simp only[xX]
       refine sT 17 (.int .i64 j) rfl ?_ (fun ww hSw=>by (try dsimp only at hSw);obtain⟨q0,q1,q2,q3,q4⟩:=hSw;go_simp)
       simp only[xX]
       refine sT 18 (.pointer (some ⟨gd,j,.none⟩)) rfl ?_ (fun ww hSw=>by (try dsimp only at hSw);obtain⟨q0,q1,q2,q3,q4⟩:=hSw;go_simp)
       simp only[xX]
       refine sT 19 (.int .u8 by8v) rfl ?_ (fun ww hSw=>by (try dsimp only at hSw);obtain⟨q0,q1,q2,q3,q4⟩:=hSw;go_simp)
       simp only[xX]
       refine sT 20 (.pointer (some ⟨dP,O0,.none⟩)) rfl ?_ (fun ww hSw=>by (try dsimp only at hSw);obtain⟨q0,q1,q2,q3,q4⟩:=hSw;go_simp)
       simp only[xX]
       refine set_tail 1 21 _ _ _ _ (by kernel_rfl) (by decide) ?_
       simp only[List.toList_toArray,List.drop_succ_cons,List.drop_zero]
       clear kS kz1 kg0 kg2
       go_wp2_with fail
       exact⟨⟨j+1,by omega,rfl,_,_,_,HW.out⟩,by simp only[intOf];omega⟩
      ·obtain rfl:j=sz:=by omega
       have HW:Hid (LqI w8 wr w8.heap.size pl k k (.slice pv k cv) (Rm.prS S k) d (sgM B (S.take (i+1)))):=by rw[HXN.out];exact HJ.out
       go_wp2_with fail
       exact⟨⟨i+1,by omega,rfl,_,_,_,HW.out⟩,by simp only[intOf];omega⟩
    ·obtain rfl:i=E.length:=by omega
     have hST:S.take E.length=S:=List.take_of_length_le (by rw[<-B7.out.2.2.2.2.1,List.length_map];exact Nat.le_refl _)
     rw[hST] at HI
     have hw9:IntKind.u64.wrap ((k:Int)+1)=(k:Int)+1:=by rw[IntKind.wrap_u64];omega
     have hw10:IntKind.u64.wrap (((k:Int)+1)*4096)=((k:Int)+1)*4096:=by rw[IntKind.wrap_u64];omega
     have hU8:Below U.heap.size U wr:=(B4.out.trans (B8.out.2.1.mono B4.out.size)).trans (HI.out.b.mono (Nat.le_trans B4.out.size B8.out.2.1.size))
     have hAr:Arg wr p n c xs:=HF.out.2.2.2.2.below hU8
     have hdm:=HS.out.2.2.2.2.2.2.1
     have hn32:n<=32:=by
      have hl:=hAr.tex.1
      unfold dmE at hdm
      rw[if_neg (by decide)] at hdm
      by_cases h32:32<xs.length
      ·rw[if_pos h32] at hdm
       exact absurd hdm (by decide)
      ·omega
     have hrm:rm xs=true:=by
      unfold dmE at hdm
      rw[if_neg (by decide)] at hdm
      by_cases h32:32<xs.length
      ·rw[if_pos h32] at hdm
       exact absurd hdm (by decide)
      ·rw[if_neg h32] at hdm
       by_cases hzz:xs.any hz=true
       ·rw[if_pos hzz] at hdm
        exact absurd hdm (by decide)
       ·rw[if_neg hzz] at hdm
        by_cases hrr:rm xs=false
        ·rw[if_pos hrr] at hdm
         exact absurd hdm (by decide)
        ·simpa using hrr
     have c67:=stackD_any wr (((k:Int)+1)*4096) ⟨by omega,by omega⟩ p n c xs hAr.tex hn32 hAr.len hrm
     have HUW:Hid (Below U.heap.size U wr):=hU8
     clear hST hAr hdm hn32 hrm hU8 HR hlt hi
     go_upto_region 25 with(go_at_call 67;refine c67.mono ?_;rintro _ wa ⟨gs,sp,rfl,ba,hgs,hsp,hrow⟩;clear c67)
     have HA:Hid (LqI w8 wa w8.heap.size pl k k (.slice pv k cv) (Rm.prS S k) d (sgM B S)∧Below wr.heap.size wr wa∧wr.heap.size<=gs∧(stx 4096 xs-8*(xs.length+1))/16*16=(sp:Int)∧wa.rowIs gs 5 4096 (fun j=>.int .u8 (ptR (((k:Int)+1)*4096) xs (stF xs xs.length) sp (8*xs.length) j))∧(∀ j,j<k->d j≠gs)):=⟨HI.out.below ba,ba,hgs,hsp,hrow,fun j hj=>by have:=HI.out.pg.lt hj;omega⟩
     clear ba hgs hsp hrow
     have kS:wa.drew.cell? ⟨w8.heap.size,1,.none⟩=some (.slice pv k cv):=HA.out.1.c1
     obtain⟨wb,hmk,HP0⟩:=pageR_new wa.drew
     refine region_set (fun U=>U.cell? ⟨w8.heap.size,1,.none⟩=some (.slice pv k cv)) 8 [0] (by kernel_rfl) ?_
     refine sP 0 (.pointer (some ⟨w8.heap.size,0,.none⟩)) rfl ?_
     simp only[xX]
     refine sT 1 (.pointer (some ⟨w8.heap.size,0,.none⟩)) rfl ?_
     simp only[xX]
     refine sT 2 (.pointer (some ⟨w8.heap.size,0,.none⟩)) rfl ?_
     simp only[xX]
     refine sT 3 (.pointer (some ⟨w8.heap.size,1,.none⟩)) rfl ?_
     simp only[xX]
     refine sT 4 (.slice pv k cv) rfl ?_
     simp only[xX]
     refine set_only (i:=5) (by kernel_rfl) rfl (by kernel_rfl) (fun K hK=>?_)
     go_simp
     clear hmk
     have kS2:wb.cell? ⟨w8.heap.size,1,.none⟩=some (.slice pv k cv):=(HP0.out.bel.cell (zC kS)).trans kS
     refine hK.out _ _ (fun _=>kS2) ?_
     clear hK K
     try simp only[xX]
     obtain⟨dk,hdk⟩:∃ dk,dk=wa.drew.heap.size:=⟨_,rfl⟩
     have HD:Hid (LqI w8 wb w8.heap.size pl k k (.slice pv k cv) (Rm.prS S k) d (sgM B S)∧wb.rowIs dk 5 4096 (fun _=>.int .u8 0)∧w8.heap.size+1<=dk∧(∀ j,j<k->d j≠dk)∧wb.rowIs gs 5 4096 (fun j=>.int .u8 (ptR (((k:Int)+1)*4096) xs (stF xs xs.length) sp (8*xs.length) j))∧dk≠gs):=by
      have h1:=HA.out.1.below zB.drew
      have h2:=h1.below HP0.out.bel
      have h4:=h1.lt
      have h6:=HA.out.2.2.2.2.1
      have h7:=h6.lt
      have h8:wa.drew.heap.size=wa.heap.size:=rfl
      refine⟨h2,by rw[hdk];exact HP0.out.pg,by omega,fun j hj=>?_,h6.of_block (HP0.out.bel.block _ h7),by omega⟩
      have:=h1.pg.lt hj
      omega
     have hdk':dk=wa.heap.size:=hdk
     try rw[<-hdk]
     try simp only[<-hdk']
     clear hdk hdk' HP0
     refine sT 6 (.agg #[.int .u64 6,.slice (some ⟨dk,0,.none⟩) 4096 4096]) rfl ?_
     simp only[xX]
     refine set_only (i:=7) (by kernel_rfl) rfl (by kernel_rfl) (fun K hK=>?_)
     go_simp
     refine hK.out _ _ (fun _=>((Below.refl wb.heap.size wb |>.alloc zL _).cell (zC kS2)).trans kS2) ?_
     clear hK K
     try simp only[xX]
     refine set_tail 4 8 _ _ _ _ (by kernel_rfl) (by decide) ?_
     simp only[List.toList_toArray,List.drop_succ_cons,List.drop_zero]
     clear kS kS2
     have hz6:w8.heap.size+1<=wb.heap.size:=HD.out.1.lt
     have HP6:Hid (Rm.prS S k k=6):=by show Rm.prS S k k=6;unfold Rm.prS;rw[if_pos rfl]
     go_wp2_with (first|(at_builtin;refine wpList_append_own _ rfl _ _ 125 rfl (w8.heap.size+1) 130 i3 z3 2 32 Tryz.underlying125 HI3.out.1 HI3.out.2.1 HI3.out.2.2.1 HI3.out.2.2.2.1 HI3.out.2.2.2.2 (by decide) (.slice pv k cv) k (flP (Rm.prS S k) d k) rfl (HD.out.1.pg.own.alloc _) ⟨wb.heap.size,0,.none⟩ 1 1 [.int .u64 6,.slice (some ⟨dk,0,.none⟩) 4096 4096] rfl rfl (cell2_new _ _ _ _) (fun u hu=>by simp only[List.mem_cons,List.not_mem_nil,or_false] at hu;rcases hu with rfl|rfl<;>rfl) ?c4 ?c5 ?c6 ?_)|fail)
     case c4=>simp only[maxLen];omega
     case c5=>omega
     case c6=>simp only[World.size_alloc];omega
     intro v' wc own' grow fb
     clear fb
     rw[show (.int .u64 6:Value) = .int .u64 (Rm.prS S k k) by rw[HP6.out]] at own'
     obtain⟨g',c',rfl⟩:=ownsRow_succ own'
     have hM0:∀ i,i<4096->sgM B S (k*4096+i)=0:=fun i _=>sgM_zero B S k HS.out.2.2.2.2.1 _ (by omega)
     obtain⟨d2,hd2⟩:∃ d2:Nat->Nat,d2=fun j=>if j=k then dk else d j:=⟨_,rfl⟩
     have HN:Hid (LqI w8 (wc.setCell ⟨w8.heap.size,1,.none⟩ (.slice (some ⟨g',0,.none⟩) (k+1) c')) w8.heap.size pl k (k+1) (.slice (some ⟨g',0,.none⟩) (k+1) c') (Rm.prS S k) d2 (sgM B S)∧(wc.setCell ⟨w8.heap.size,1,.none⟩ (.slice (some ⟨g',0,.none⟩) (k+1) c')).rowIs gs 5 4096 (fun j=>.int .u8 (ptR (((k:Int)+1)*4096) xs (stF xs xs.length) sp (8*xs.length) j))∧(∀ j,j<k+1->d2 j≠gs)∧w8.heap.size+1<=gs):=by
      have hgs8:w8.heap.size+1<=gs:=by have:=HI.out.lt;have:=HA.out.2.2.1;omega
      refine⟨by rw[hd2];exact HD.out.1.push HD.out.2.1 HD.out.2.2.1 HD.out.2.2.2.1 own' grow (fun _ _=>rfl) hM0,?_,fun j hj=>?_,hgs8⟩
      ·obtain⟨c9,h9,h9b⟩:=HD.out.2.2.2.2.1
       refine(HD.out.2.2.2.2.1.of_block (row_grown HD.out.1.pg.own grow (by decide) h9)).of_block (Below.heap_setCell _ _ _ _ (by show gs≠w8.heap.size;omega))
      ·rw[hd2]
       show (if j=k then dk else d j)≠gs
       split
       ·exact HD.out.2.2.2.2.2
       ·exact HA.out.2.2.2.2.2 j (by omega)
     have m1:wc.cell? ⟨w8.heap.size,1,.none⟩=some (.slice pv k cv):=(cell_heap (HD.out.1.mid grow) _ _).trans HD.out.1.c1
     have m2:wc.frozen? ⟨w8.heap.size,1,.none⟩=false:=(World.frozen?_of_block (a:=⟨w8.heap.size,1,.none⟩) (HD.out.1.mid grow)).trans (HD.out.1.fz 1)
     clear own' grow hz6 hM0 hd2
     go_upto_region 26 with fail
     generalize (wc.setCell ⟨w8.heap.size,1,.none⟩ (.slice (some ⟨g',0,.none⟩) (k+1) c'))=wn at *
     clear m1 m2
     have m1:=HN.out.1.c1
     have hz6:w8.heap.size+1<=wn.heap.size:=HN.out.1.lt
     have HP6:Hid (Rm.prS S k (k+1)=22):=by
      show Rm.prS S k (k+1)=22
      unfold Rm.prS
      rw[if_neg (by omega),sok_past HS.out.2.2.2.2.2.2.2 HS.out.2.2.2.2.2.1 HS.out.2.2.2.1 (by omega)]
      rfl
     go_wp2_with (first|(at_builtin;refine wpList_append_own _ rfl _ _ 125 rfl (w8.heap.size+1) 130 i3 z3 2 32 Tryz.underlying125 HI3.out.1 HI3.out.2.1 HI3.out.2.2.1 HI3.out.2.2.2.1 HI3.out.2.2.2.2 (by decide) (.slice (some ⟨g',0,.none⟩) (k+1) c') (k+1) (flP (Rm.prS S k) d2 (k+1)) rfl (HN.out.1.pg.own.alloc _) ⟨wn.heap.size,0,.none⟩ 1 1 [.int .u64 22,.slice (some ⟨gs,0,.none⟩) 4096 4096] rfl rfl (cell2_new _ _ _ _) (fun u hu=>by simp only[List.mem_cons,List.not_mem_nil,or_false] at hu;rcases hu with rfl|rfl<;>rfl) ?c4 ?c5 ?c6 ?_)|fail)
     case c4=>simp only[maxLen];omega
     case c5=>omega
     case c6=>simp only[World.size_alloc];omega
     intro v' wd own' grow fb
     clear fb
     rw[show (.int .u64 22:Value) = .int .u64 (Rm.prS S k (k+1)) by rw[HP6.out]] at own'
     obtain⟨g7,c7,rfl⟩:=ownsRow_succ own'
     obtain⟨d3,hd3⟩:∃ d3:Nat->Nat,d3=fun j=>if j=k+1 then gs else d2 j:=⟨_,rfl⟩
     have HQ:Hid (LqI w8 (wd.setCell ⟨w8.heap.size,1,.none⟩ (.slice (some ⟨g7,0,.none⟩) (k+1+1) c7)) w8.heap.size pl k (k+1+1) (.slice (some ⟨g7,0,.none⟩) (k+1+1) c7) (Rm.prS S k) d3 (pgM B S k (ptR (((k:Int)+1)*4096) xs (stF xs xs.length) sp (8*xs.length)))):=by
      rw[hd3]
      refine HN.out.1.push HN.out.2.1 HN.out.2.2.2 HN.out.2.2.1 own' grow (fun a ha=>?_) (fun i hi=>?_)
      ·unfold pgM Rm.wrM
       rw[if_neg (by omega)]
      ·unfold pgM Rm.wrM
       rw[if_pos (by omega),show (k+1)*4096+i-(k+1)*4096=i by omega]
     have n1:wd.cell? ⟨w8.heap.size,1,.none⟩=some (.slice (some ⟨g',0,.none⟩) (k+1) c'):=(cell_heap (HN.out.1.mid grow) _ _).trans HN.out.1.c1
     have n2:wd.frozen? ⟨w8.heap.size,1,.none⟩=false:=(World.frozen?_of_block (a:=⟨w8.heap.size,1,.none⟩) (HN.out.1.mid grow)).trans (HN.out.1.fz 1)
     clear own' grow hz6 hd3 m1
     go_upto_region 27 with fail
     generalize (wd.setCell ⟨w8.heap.size,1,.none⟩ (.slice (some ⟨g7,0,.none⟩) (k+1+1) c7))=wq at *
     clear n1 n2 HN
     have hx8:x<w8.heap.size:=Nat.lt_of_lt_of_le L4.out.2.2.2.2 B8.out.2.1.size
     have hxk:∀ i,wq.cell? ⟨x,i,.none⟩=w4.cell? ⟨x,i,.none⟩:=fun i=>(HQ.out.b.cell (p:=⟨x,i,.none⟩) hx8).trans (B8.out.2.1.cell (p:=⟨x,i,.none⟩) L4.out.2.2.2.2)
     have kS:wq.drew.cell? ⟨zp,0,.none⟩=some (.int .u64 en):=(HQ.out.b.cell HB8.out.1).trans HB8.out.2.1
     have t0:wq.cell? ⟨x,0,.none⟩=some (.int .u64 0):=(hxk 0).trans L4.out.1
     have t1:wq.cell? ⟨x,1,.none⟩=some (.int .u64 0):=(hxk 1).trans L4.out.2.1
     have t2:wq.cell? ⟨x,2,.none⟩=some (.int .u64 0):=(hxk 2).trans L4.out.2.2.1
     have tf:∀ i,wq.frozen? ⟨x,i,.none⟩=false:=fun i=>(HQ.out.b.frozen (p:=⟨x,i,.none⟩) hx8).trans ((B8.out.2.1.frozen (p:=⟨x,i,.none⟩) L4.out.2.2.2.2).trans (L4.out.2.2.2.1 i))
     have f0:wq.frozen? ⟨x,0,.none⟩=false:=tf 0
     have f1:wq.frozen? ⟨x,1,.none⟩=false:=tf 1
     have f2:wq.frozen? ⟨x,2,.none⟩=false:=tf 2
     have HX8:Hid (x<w8.heap.size):=hx8
     obtain⟨st,hst⟩:∃ st,st=((k:Int)+1)*4096+(sp:Int):=⟨_,rfl⟩
     have HST:Hid (st=((k:Int)+1)*4096+(sp:Int)):=hst
     rw[<-hst]
     clear hxk tf hx8 hst
     refine region_set (fun U=>U.cell? ⟨zp,0,.none⟩=some (.int .u64 en)) 7 [] (by kernel_rfl) ?_
     refine sT 0 (.pointer (some ⟨w8.heap.size,0,.none⟩)) rfl ?_
     simp only[xX]
     refine sT 1 (.pointer (some ⟨zp,0,.none⟩)) rfl ?_
     simp only[xX]
     refine sT 2 (.int .u64 en) rfl ?_
     simp only[xX]
     refine sT 3 (.int .u64 st) rfl ?_
     simp only[xX]
     refine sT 4 (.int .u64 st) rfl ?_
     simp only[xX]
     refine sT 5 (.agg #[.int .u64 en,.int .u64 st,.int .u64 st]) rfl ?_
     simp only[xX]
     refine sT 6 (.pointer (some ⟨w8.heap.size,0,.none⟩)) rfl ?_
     simp only[xX]
     refine set_tail 2 7 _ _ _ _ (by kernel_rfl) (by decide) ?_
     simp only[List.toList_toArray,List.drop_succ_cons,List.drop_zero]
     clear kS
     go_wp2_with fail
     refine bodyPost_ret (v:=.tuple #[.pointer (some ⟨w8.heap.size,0,.none⟩),.agg #[.int .u64 en,.int .u64 st,.int .u64 st],.int .i64 0]) (by simp[results,Tryz.results26,go_sem,t0,t1,t2]) rfl ?_
     obtain⟨hq1,hq2,hq3⟩:=HQ.out.qsp
     have hUx:U.heap.size<=x:=by rw[HU.out.2.2.2,HX.out];exact Nat.le_refl _
     have hU8:U.heap.size<=w8.heap.size:=Nat.le_trans B4.out.size B8.out.2.1.size
     have hx8:=HX8.out
     have hbq:Below U.heap.size U wq.drew:=((B4.out.trans (B8.out.2.1.mono B4.out.size)).trans (HQ.out.b.mono hU8)).drew
     have hqd:=hq1.below zB.drew
     refine⟨w8.heap.size,g7,c7,d3,sp,by rw[HST.out],((hbq.setCell hUx _).setCell hUx _).setCell hUx _,HA.out.2.2.2.1,?_,hU8,by omega,fun k hk=>by have:=hq3 k hk;omega⟩
     refine QSp_beside (QSp_beside (QSp_beside hqd _ _ ?_ ?_ ?_) _ _ ?_ ?_ ?_) _ _ ?_ ?_ ?_
     all_goals first|(intro k' hk';have:=hq3 k' hk';show x≠_;omega)|(show x≠_;omega)
end
end Go.Proofs.YtabnipbdbnmmpaaGreatDoor
