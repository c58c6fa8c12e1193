import Derived.Test.YtabnipbdbnmmpaaGreatDoorSh01
import Derived.Test.YtabnipbdbnmmpaaGreatDoorSh36
import Derived.Test.YtabnipbdbnmmpaaGreatDoorSh35
set_option linter.unusedVariables false
set_option linter.unusedSimpArgs false
namespace Go.Proofs.YtabnipbdbnmmpaaGreatDoor
namespace Rm
open Go Go.RowKit
def tpg (ft:Nat) : List Pg := [(274877898752,ad ft,198),(274877902848,ad 0,74)]
def upg (fr:Nat→Nat) (c:Nat→Int) (i:Nat) : Pg := ((i:Int)*4096,ad (fr i),c i)
def pgL (ft:Nat) (fr:Nat→Nat) (c:Nat→Int) (I:List Nat) : List Pg := tpg ft ++ I.map (upg fr c)
theorem mem_pgL {ft:Nat} {fr:Nat→Nat} {c:Nat→Int} {I:List Nat} {x:Pg} : x ∈ pgL ft fr c I ↔ x=(274877898752,ad ft,198)∨x=(274877902848,ad 0,74) ∨ ∃ i ∈ I,x=upg fr c i := by
 unfold pgL tpg
 rw [List.mem_append,List.mem_map]
 constructor
 ·rintro (h | ⟨i,hi,rfl⟩)
  ·simp at h
   rcases h with h | h
   ·exact .inl h
   ·exact .inr (.inl h)
  ·exact .inr (.inr ⟨i,hi,rfl⟩)
 ·rintro (rfl | rfl | ⟨i,hi,rfl⟩)
  ·exact .inl (by simp)
  ·exact .inl (by simp)
  ·exact .inr ⟨i,hi,rfl⟩
structure SpL (N r ft:Nat) (B:Nat→Int) (L:List Nat) (F:Nat→Option Nat) (lf:Nat→Nat→Int) (fr:Nat→Nat) (c:Nat→Int) (I:List Nat) : Prop where
 pt : PT N L B F lf
 rt : F 0=some r
 tl : TL F lf (pgL ft fr c I)
 nd : I.Nodup
 bd : ∀ i ∈ I,i<4096
 inj : ∀ i ∈ I,∀ j ∈ I,fr i=fr j→i=j
 pg : ∀ i ∈ I,1≤fr i∧fr i<N∧fr i ∉ L∧(∀ x,F x≠some (fr i))∧fr i≠ft
 ftb : 1≤ft∧ft<N∧ft ∉ L ∧ ∀ x,F x≠some ft
def Oth (L:List Nat) (F:Nat→Option Nat) (fr:Nat→Nat) (I:List Nat) (B:Nat→Int) (L':List Nat) (F':Nat→Option Nat) (fr':Nat→Nat) (I':List Nat) (B':Nat→Int) : Prop :=
 ∀ f,f ∉ L→(∀ x,F x≠some f)→(∀ i ∈ I,fr i≠f)→f ∉ L'∧(∀ x,F' x≠some f)∧(∀ i ∈ I',fr' i≠f) ∧ ∀ j,j<4096→B' (f*4096+j)=B (f*4096+j)
theorem Oth.refl (L:List Nat) (F:Nat→Option Nat) (fr:Nat→Nat) (I:List Nat) (B:Nat→Int) : Oth L F fr I B L F fr I B := fun f h1 h2 h3 => ⟨h1,h2,h3,fun _ _ => rfl⟩
theorem Oth.trans {L F fr I B L' F' fr' I' B' L2 F2 fr2 I2 B2} (h:Oth L F fr I B L' F' fr' I' B') (k:Oth L' F' fr' I' B' L2 F2 fr2 I2 B2) : Oth L F fr I B L2 F2 fr2 I2 B2 := fun f h1 h2 h3 => by
 obtain ⟨a1,a2,a3,a4⟩ := h f h1 h2 h3
 obtain ⟨b1,b2,b3,b4⟩ := k f a1 a2 a3
 exact ⟨b1,b2,b3,fun j hj => (b4 j hj).trans (a4 j hj)⟩
section
variable {N r ft:Nat} {B B':Nat→Int} {L L':List Nat} {F F':Nat→Option Nat} {lf lf':Nat→Nat→Int} {fr:Nat→Nat} {c:Nat→Int} {I I':List Nat}
theorem SpL.ok (h:SpL N r ft B L F lf fr c I) {i:Nat} (hi:i ∈ I) : okP (upg fr c i) := h.tl.ok _ (mem_pgL.2 (.inr (.inr ⟨i,hi,rfl⟩)))
theorem SpL.leaf (h:SpL N r ft B L F lf fr c I) {i:Nat} (hi:i ∈ I) : lf (y0 ((i:Int)*4096)) (i0 ((i:Int)*4096))=toP (ad (fr i)) (c i) := h.tl.leaf _ (mem_pgL.2 (.inr (.inr ⟨i,hi,rfl⟩)))
theorem SpL.pag (h:SpL N r ft B L F lf fr c I) {i:Nat} (hi:i ∈ I) : Pag N L F lf ((i:Int)*4096) (fr i) (c i) := by
 have hk := h.ok hi
 have hl := h.leaf hi
 have hp := h.pg i hi
 obtain ⟨g,q,e1,e0⟩ := h.pt.way ((i:Int)*4096) (by rw [hl]; exact hk.ne)
 exact ⟨⟨g,e1⟩,⟨q,e0⟩,hl,hk.2.2.2,hk.2.2.1,⟨hp.2.1,hp.2.2.1⟩,hp.2.2.2.1⟩
theorem SpL.zero (h:SpL N r ft B L F lf fr c I) {i:Nat} (hi:i ∉ I) (hb:i<4096) : lf (y0 ((i:Int)*4096)) (i0 ((i:Int)*4096))=0 := by
 refine h.tl.none_at _ ⟨by omega,by omega,by omega⟩ fun x hx => ?_
 rcases mem_pgL.1 hx with rfl | rfl | ⟨j,hj,rfl⟩
 ·simp only [ne_eq]; omega
 ·simp only [ne_eq]; omega
 ·unfold upg
  simp only [ne_eq]
  intro e
  have : j=i := by omega
  exact hi (this ▸ hj)
theorem need_eq (F:Nat→Option Nat) (va:Int) : needY F va=need F va := rfl
theorem SpL.add {i f:Nat} {x:Int} {L1:List Nat} (h:SpL N r ft B (f :: L1) F lf fr c I) (hd:(f :: L1).Nodup) (hf:1≤f∧f<N) (hN:N≤4096) (hi:i ∉ I) (hb:i<4096) (hx:0≤x∧x<256∧x % 2=0) (hk:kd (toP (ad f) x) 0=2)
  (R:LP N ((i:Int)*4096) (toP (ad f) x) L1 (zer B f) F lf L' B' F') (hl:L1.length=need F ((i:Int)*4096)+L'.length) :
  SpL N r ft B' L' F' (setE lf (y0 ((i:Int)*4096)) (i0 ((i:Int)*4096)) (toP (ad f) x)) (upd fr i f) (upd c i x) (I ++ [i])∧L'.length+nodesF F'+1=(f :: L1).length+nodesF F∧Oth (f :: L1) F fr I B L' F' (upd fr i f) (I ++ [i]) B' := by
 have hnd := List.nodup_cons.1 hd
 have hfL' : f ∉ L' := fun hm => hnd.1 (R.sub f hm)
 have hfn : ∀ j ∈ I,fr j≠f := fun j hj e => (h.pg j hj).2.2.1 (by rw [e]; exact List.mem_cons_self ..)
 have hff : f≠ft := fun e => h.ftb.2.2.1 (by rw [← e]; exact List.mem_cons_self ..)
 have hFf : ∀ y,F' y≠some f := fun y hy => by
  rcases R.new y f hy with e | ⟨e,_⟩
  ·exact (h.pt.held y f e).2.2 (List.mem_cons_self ..)
  ·exact hnd.1 e
 have hu : ∀ j ∈ I,upd fr i f j=fr j := fun j hj => by unfold upd; rw [if_neg (fun e:j=i => hi (e ▸ hj))]
 have huc : ∀ j ∈ I,upd c i x j=c j := fun j hj => by unfold upd; rw [if_neg (fun e:j=i => hi (e ▸ hj))]
 have hui : upd fr i f i=f := by unfold upd; rw [if_pos rfl]
 have huci : upd c i x i=x := by unfold upd; rw [if_pos rfl]
 have hok : okP ((i:Int)*4096,ad f,x) := ⟨⟨by simp only; omega,by simp only; omega,by simp only; omega⟩,ad_b f N hf.2 hN,hx,hk⟩
 have hpn : ∀ y ∈ pgL ft fr c I,y.1≠(i:Int)*4096 := fun y hy => by
  rcases mem_pgL.1 hy with rfl | rfl | ⟨j,hj,rfl⟩
  ·simp only [ne_eq]; omega
  ·simp only [ne_eq]; omega
  ·unfold upg
   simp only [ne_eq]
   intro e
   have : j=i := by omega
   exact hi (this ▸ hj)
 have hT := TL.map (x:=((i:Int)*4096,ad f,x)) h.tl hok hpn R
 have e1 : I.map (upg (upd fr i f) (upd c i x))=I.map (upg fr c) := List.map_congr_left fun j hj => by unfold upg; rw [hu j hj,huc j hj]
 have e2 : [i].map (upg (upd fr i f) (upd c i x)) = [((i:Int)*4096,ad f,x)] := by
  unfold upg
  simp only [List.map_cons,List.map_nil]
  rw [hui,huci]
 have heq : pgL ft (upd fr i f) (upd c i x) (I ++ [i])=pgL ft fr c I ++ [((i:Int)*4096,ad f,x)] := by
  unfold pgL
  rw [List.map_append,e1,e2,List.append_assoc]
 refine ⟨⟨R.pt,R.ext 0 r h.rt,by rw [heq]; exact hT,?_,fun j hj => ?_,fun j hj k hk2 e => ?_,fun j hj => ?_,?_⟩,?_,fun g h1 h2 h3 => ?_⟩
 ·rw [List.nodup_append]
  exact ⟨h.nd,by simp,fun a ha b hb2 e => by rw [List.mem_singleton.1 hb2] at e; exact hi (e ▸ ha)⟩
 ·rcases List.mem_append.1 hj with e | e
  ·exact h.bd j e
  ·rw [List.mem_singleton.1 e]; exact hb
 ·rcases List.mem_append.1 hj with e1 | e1 <;> rcases List.mem_append.1 hk2 with e2 | e2
  ·rw [hu j e1,hu k e2] at e
   exact h.inj j e1 k e2 e
  ·rw [List.mem_singleton.1 e2,hu j e1,hui] at e
   exact absurd e (hfn j e1)
  ·rw [List.mem_singleton.1 e1,hu k e2,hui] at e
   exact absurd e.symm (hfn k e2)
  ·rw [List.mem_singleton.1 e1,List.mem_singleton.1 e2]
 ·rcases List.mem_append.1 hj with e | e
  ·rw [hu j e]
   have hp := h.pg j e
   refine ⟨hp.1,hp.2.1,fun hm => hp.2.2.1 (List.mem_cons_of_mem _ (R.sub _ hm)),fun y hy => ?_,hp.2.2.2.2⟩
   rcases R.new y _ hy with e2 | ⟨e2,_⟩
   ·exact hp.2.2.2.1 y e2
   ·exact hp.2.2.1 (List.mem_cons_of_mem _ e2)
  ·rw [List.mem_singleton.1 e,hui]
   exact ⟨hf.1,hf.2,hfL',hFf,hff⟩
 ·refine ⟨h.ftb.1,h.ftb.2.1,fun hm => h.ftb.2.2.1 (List.mem_cons_of_mem _ (R.sub _ hm)),fun y hy => ?_⟩
  rcases R.new y _ hy with e2 | ⟨e2,_⟩
  ·exact h.ftb.2.2.2 y e2
  ·exact h.ftb.2.2.1 (List.mem_cons_of_mem _ e2)
 ·have := R.len h.pt.zero
  rw [List.length_cons]
  omega
 ·have hgf : g≠f := fun e => h1 (by rw [e]; exact List.mem_cons_self ..)
  have hgF : ∀ y,F' y≠some g := fun y hy => by
   rcases R.new y g hy with e | ⟨e,_⟩
   ·exact h2 y e
   ·exact h1 (List.mem_cons_of_mem _ e)
  refine ⟨fun hm => h1 (List.mem_cons_of_mem _ (R.sub _ hm)),hgF,fun j hj => ?_,fun k hk2 => ?_⟩
  ·rcases List.mem_append.1 hj with e | e
   ·rw [hu j e]; exact h3 j e
   ·rw [List.mem_singleton.1 e,hui]; exact fun e2 => hgf e2.symm
  ·rw [R.byt g hgF k hk2,zer_out]
   rcases Nat.lt_or_gt_of_ne hgf with e | e <;> omega
theorem PrR.sub {va:Int} {q g:Nat} (R:PrR L F lf va q g L' F' lf') : (∀ x f,F' x=some f→F x=some f)∧(∀ f,f ∈ L'→f ∈ L∨f=q∨f=g)∧F' 0=F 0 := by
 have h0 := y0_ge va
 have h1 := y1_le va
 rcases R with ⟨rfl,rfl,rfl,_⟩ | ⟨rfl,rfl,rfl,_⟩ | ⟨rfl,rfl,rfl,_⟩
 ·exact ⟨fun _ _ h => h,fun _ h => .inl h,rfl⟩
 ·refine ⟨fun x f h => ?_,fun f h => ?_,?_⟩
  ·unfold setN at h
   split at h
   ·cases h
   ·exact h
  ·rcases List.mem_cons.1 h with e | e
   ·exact .inr (.inl e)
   ·exact .inl e
  ·unfold setN
   rw [if_neg (by omega)]
 ·refine ⟨fun x f h => ?_,fun f h => ?_,?_⟩
  ·unfold setN at h
   split at h
   ·cases h
   ·split at h
    ·cases h
    ·exact h
  ·rcases List.mem_cons.1 h with e | e
   ·exact .inr (.inr e)
   ·rcases List.mem_cons.1 e with e | e
    ·exact .inr (.inl e)
    ·exact .inl e
  ·unfold setN
   rw [if_neg (by omega),if_neg (by omega)]
theorem SpL.del {i q g:Nat} (h:SpL N r ft B L F lf fr c I) (hi:i ∈ I) (hI:∀ j,j ∈ I' ↔ j ∈ I∧j≠i) (hd:I'.Nodup) (hg:F (y1 ((i:Int)*4096))=some g) (hq:F (y0 ((i:Int)*4096))=some q) (hp:PT N L' B' F' lf')
  (R:PrR L F (setE lf (y0 ((i:Int)*4096)) (i0 ((i:Int)*4096)) 0) ((i:Int)*4096) q g L' F' lf') (hB:Byo F B B') (v:Int) :
  fr i ∉ L'∧SpL N r ft (thr B' (fr i) v) (fr i :: L') F' lf' fr c I'∧(fr i :: L').length+nodesF F'=L.length+nodesF F+1∧Oth L F fr I B (fr i :: L') F' fr I' (thr B' (fr i) v) := by
 obtain ⟨s1,s2,s3⟩ := PrR.sub R
 have hpi := h.pg i hi
 have hiL : fr i ∉ L' := fun hm => by
  rcases s2 _ hm with e | e | e
  ·exact hpi.2.2.1 e
  ·exact hpi.2.2.2.1 _ (by rw [e]; exact hq)
  ·exact hpi.2.2.2.1 _ (by rw [e]; exact hg)
 have hnL : ∀ f,f ∉ L→(∀ x,F x≠some f)→f ∉ L' := fun f h1 h2 hm => by
  rcases s2 _ hm with e | e | e
  ·exact h1 e
  ·exact h2 _ (by rw [e]; exact hq)
  ·exact h2 _ (by rw [e]; exact hg)
 have hinj : ∀ a ∈ I,∀ b ∈ I,upg fr c a=upg fr c b→a=b := fun a ha b hb e => by
  have := congrArg (fun x:Pg => x.1) e
  unfold upg at this
  simp only at this
  omega
 have hT := TL.unmap (lm:=pgL ft fr c I') h.tl (x:=upg fr c i) (mem_pgL.2 (.inr (.inr ⟨i,hi,rfl⟩))) (fun y => by
  rw [mem_pgL,mem_pgL]
  have hb := h.bd i hi
  constructor
  ·rintro (rfl | rfl | ⟨j,hj,rfl⟩)
   ·exact ⟨.inl rfl,fun e => by have := congrArg (fun x:Pg => x.1) e; unfold upg at this; simp only at this; omega⟩
   ·exact ⟨.inr (.inl rfl),fun e => by have := congrArg (fun x:Pg => x.1) e; unfold upg at this; simp only at this; omega⟩
   ·exact ⟨.inr (.inr ⟨j,((hI j).1 hj).1,rfl⟩),fun e => ((hI j).1 hj).2 (hinj j ((hI j).1 hj).1 i hi e)⟩
  ·rintro ⟨rfl | rfl | ⟨j,hj,rfl⟩,hne⟩
   ·exact .inl rfl
   ·exact .inr (.inl rfl)
   ·exact .inr (.inr ⟨j,(hI j).2 ⟨hj,fun e => hne (by rw [e])⟩,rfl⟩)) R
 have hfi : ∀ f,f≠fr i → ∀ k,k<4096→thr B' (fr i) v (f*4096+k)=B' (f*4096+k) := fun f hf k hk => thr_frame B' v hf k hk
 refine ⟨hiL,⟨hp.keep (fun x f hx k hk => hfi f (fun e => hpi.2.2.2.1 x (by rw [← e]; exact s1 x f hx)) k hk) (fun x f hx hm => ?_),s3.trans h.rt,hT,hd,fun j hj => h.bd j ((hI j).1 hj).1,fun a ha b hb => h.inj a ((hI a).1 ha).1 b ((hI b).1 hb).1,fun j hj => ?_,?_⟩,?_,fun f h1 h2 h3 => ?_⟩
 ·rcases List.mem_cons.1 hm with e | e
  ·exact hpi.2.2.2.1 x (by rw [← e]; exact s1 x f hx)
  ·exact (hp.held x f hx).2.2 e
 ·obtain ⟨hj1,hj2⟩ := (hI j).1 hj
  have hpj := h.pg j hj1
  refine ⟨hpj.1,hpj.2.1,fun hm => ?_,fun x hx => hpj.2.2.2.1 x (s1 x _ hx),hpj.2.2.2.2⟩
  rcases List.mem_cons.1 hm with e | e
  ·exact hj2 (h.inj j hj1 i hi e)
  ·exact hnL _ hpj.2.2.1 hpj.2.2.2.1 e
 ·refine ⟨h.ftb.1,h.ftb.2.1,fun hm => ?_,fun x hx => h.ftb.2.2.2 x (s1 x _ hx)⟩
  rcases List.mem_cons.1 hm with e | e
  ·exact hpi.2.2.2.2 e.symm
  ·exact hnL _ h.ftb.2.2.1 h.ftb.2.2.2 e
 ·have := R.len hg hq
  rw [List.length_cons]
  omega
 ·refine ⟨fun hm => ?_,fun x hx => h2 x (s1 x _ hx),fun j hj => h3 j ((hI j).1 hj).1,fun k hk => ?_⟩
  ·rcases List.mem_cons.1 hm with e | e
   ·exact h3 i hi e.symm
   ·exact hnL f h1 h2 e
  ·rw [hfi f (fun e => h3 i hi e.symm) k hk]
   exact hB f h2 k hk
theorem cnt_low (M k a:Nat) (hk:k≤a) (ha:a<M) : cnt M (fun v => decide (v<k∨v=a))=k+1 := by
 have h1 : ∀ M k,k≤M→cnt M (fun v => decide (v<k))=k := fun M => by
  induction M with
  | zero => intro k hk; have : k = 0 := by omega
            subst this; rfl
  | succ M ih =>
   intro k hk
   rw [cnt_succ]
   by_cases e : k=M+1
   ·subst e
    rw [cnt_ext (q:=fun v => decide (v<M)) (fun v hv => decide_eq_decide.2 (by omega)),ih M (Nat.le_refl _)]
    simp
   ·rw [ih k (by omega),if_neg (by simp; omega)]
    rfl
 rw [cnt_add (v0:=a) (p:=fun v => decide (v<k)) ha (decide_eq_false (by omega)) (decide_eq_true (.inr rfl)) (fun v hv hne => decide_eq_decide.2 (by omega)),h1 M k (by omega)]
theorem SpL.perm (h:SpL N r ft B L F lf fr c I) (hI:∀ j,j ∈ I' ↔ j ∈ I) (hd:I'.Nodup) : SpL N r ft B L F lf fr c I' := by
 have hm : ∀ x,x ∈ pgL ft fr c I' ↔ x ∈ pgL ft fr c I := fun x => by
  rw [mem_pgL,mem_pgL]
  constructor
  ·rintro (e | e | ⟨i,hi,e⟩)
   ·exact .inl e
   ·exact .inr (.inl e)
   ·exact .inr (.inr ⟨i,(hI i).1 hi,e⟩)
  ·rintro (e | e | ⟨i,hi,e⟩)
   ·exact .inl e
   ·exact .inr (.inl e)
   ·exact .inr (.inr ⟨i,(hI i).2 hi,e⟩)
 have t := h.tl
 exact ⟨h.pt,h.rt,⟨fun x hx => t.ok x ((hm x).1 hx),fun x hx y hy => t.uniq x ((hm x).1 hx) y ((hm y).1 hy),fun x hx => t.leaf x ((hm x).1 hx),fun y k h1 h2 h3 => by obtain ⟨x,hx,e⟩ := t.only y k h1 h2 h3; exact ⟨x,(hm x).2 hx,e⟩,t.n0,t.n1⟩,hd,
  fun i hi => h.bd i ((hI i).1 hi),fun i hi j hj => h.inj i ((hI i).1 hi) j ((hI j).1 hj),fun i hi => h.pg i ((hI i).1 hi),h.ftb⟩
theorem Oth.perm {fr':Nat→Nat} {I2 I3:List Nat} (h:Oth L F fr I B L' F' fr' I' B') (h1:∀ j,j ∈ I2 ↔ j ∈ I) (h2:∀ j,j ∈ I3 ↔ j ∈ I') : Oth L F fr I2 B L' F' fr' I3 B' := fun f a1 a2 a3 => by
 obtain ⟨b1,b2,b3,b4⟩ := h f a1 a2 (fun i hi => a3 i ((h1 i).2 hi))
 exact ⟨b1,b2,fun i hi => b3 i ((h2 i).1 hi),b4⟩
theorem SpL.nodes {P:Nat} (h:SpL N r ft B L F lf fr c (List.range P)) (hP:P≤4096) : ((nodesF F:Nat) : Int)+1=ndP P := by
 have e1 : cnt 512 (fun v => decide (F (1+v)≠none))=(if P=0 then 0 else 1)+1 := by
  rw [← cnt_low 512 (if P=0 then 0 else 1) 255 (by split <;> omega) (by omega)]
  refine cnt_ext fun v hv => decide_eq_decide.2 ((h.tl.has1 h.pt v hv).trans ⟨?_,?_⟩)
  ·rintro ⟨x,hx,e⟩
   rcases mem_pgL.1 hx with rfl | rfl | ⟨i,hi,rfl⟩
   ·right; simp only at e; omega
   ·right; simp only at e; omega
   ·have := List.mem_range.1 hi
    left
    unfold upg at e
    simp only at e
    rw [if_neg (by omega)]
    omega
  ·rintro (e | rfl)
   ·have h0 : P≠0 := fun h0 => by rw [if_pos h0] at e; omega
    rw [if_neg h0] at e
    refine ⟨upg fr c 0,mem_pgL.2 (.inr (.inr ⟨0,List.mem_range.2 (by omega),rfl⟩)),?_⟩
    unfold upg
    simp only
    omega
   ·exact ⟨_,mem_pgL.2 (.inl rfl),by simp only; omega⟩
 have e0 : cnt 262144 (fun v => decide (F (513+v)≠none))=(P+511) / 512+1 := by
  rw [← cnt_low 262144 ((P+511) / 512) 131071 (by omega) (by omega)]
  refine cnt_ext fun v hv => decide_eq_decide.2 ((h.tl.has0 h.pt v).trans ⟨?_,?_⟩)
  ·rintro ⟨x,hx,e⟩
   rcases mem_pgL.1 hx with rfl | rfl | ⟨i,hi,rfl⟩
   ·right; simp only at e; omega
   ·right; simp only at e; omega
   ·have := List.mem_range.1 hi
    left
    unfold upg at e
    simp only at e
    omega
  ·rintro (e | rfl)
   ·refine ⟨upg fr c (v*512),mem_pgL.2 (.inr (.inr ⟨v*512,List.mem_range.2 (by omega),rfl⟩)),?_⟩
    unfold upg
    simp only
    omega
   ·exact ⟨_,mem_pgL.2 (.inl rfl),by simp only; omega⟩
 unfold nodesF ndP
 rw [e1,e0]
 by_cases h0 : P=0
 ·subst h0; rfl
 ·rw [if_neg h0,if_neg (by omega)]
  omega
end
end Rm
end Go.Proofs.YtabnipbdbnmmpaaGreatDoor
