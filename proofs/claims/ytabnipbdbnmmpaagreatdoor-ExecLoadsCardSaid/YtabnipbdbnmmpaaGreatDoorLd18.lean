import Derived.Test.YtabnipbdbnmmpaaGreatDoorLd01
import Derived.Test.YtabnipbdbnmmpaaGreatDoorLd17
import Derived.Test.YtabnipbdbnmmpaaGreatDoorLd15
import Derived.Test.YtabnipbdbnmmpaaGreatDoorLd10
import Derived.Test.YtabnipbdbnmmpaaGreatDoorRows
import Derived.Test.YtabnipbdbnmmpaaGreatDoorLd02
import Derived.Shelf.Abstract
import Derived.Shelf.RegionOpen
import Derived.WalkKit
import Derived.WalkSpells
import Derived.RowKit3
import Derived.LoopTactic
import Derived.WalkSmall
import Derived.Laws.Externs
import Derived.Lib.Bytealg
import Derived.Lib.IndexLaws
import Derived.Lib.BytesEntry
import Derived.Test.YtabnipbdbnmmpaaGreatDoorLd04
import Derived.WalkLawsBesides
import Derived.Defers
import Derived.Recover
import Derived.Lib.LazyBuf
import Derived.Laws.Bits128
set_option linter.unusedVariables false
set_option linter.unusedSimpArgs false
set_option maxHeartbeats 8000000
namespace Go.Proofs.YtabnipbdbnmmpaaGreatDoor
namespace Rm
open Go Go.RowKit
theorem ndP_mono {a c:Int} (h0:0<=a) (h:a<=c):ndP a<=ndP c:=by
 unfold ndP
 split<;>split<;>omega
structure Oxt where
 ft:Nat
 T:Nat->Prop
 Z:Nat->Int
def Ots (ox:Oxt) (L:List Nat) (F:Nat->Option Nat) (P:Nat) (fr:Nat->Nat) (B:Nat->Int):Prop:=∀ f,ox.T f->f∉L∧(∀ x,F x≠some f)∧(∀ i,i<P->fr i≠f)∧∀ j,j<4096->B (f*4096+j)=ox.Z (f*4096+j)
section
variable {N r ft P P':Nat} {B B':Nat->Int} {L L':List Nat} {F F':Nat->Option Nat} {lf lf':Nat->Nat->Int} {fr fr':Nat->Nat} {c:Nat->Int} {I I':List Nat} {ox:Oxt}
theorem Ots.oth (h:Ots ox L F P fr B) (k:Oth L F fr (List.range P) B L' F' fr' (List.range P') B'):Ots ox L' F' P' fr' B':=fun f hf=>by
 obtain⟨h1,h2,h3,h4⟩:=h f hf
 obtain⟨k1,k2,k3,k4⟩:=k f h1 h2 (fun i hi=>h3 i (List.mem_range.1 hi))
 exact⟨k1,k2,fun i hi=>k3 i (List.mem_range.2 hi),fun j hj=>(k4 j hj).trans (h4 j hj)⟩
theorem Ots.bytes (h:Ots ox L F P fr B) (k:∀ f,ox.T f -> ∀ j,j<4096->B' (f*4096+j)=B (f*4096+j)):Ots ox L F P fr B':=fun f hf=>by
 obtain⟨h1,h2,h3,h4⟩:=h f hf
 exact⟨h1,h2,h3,fun j hj=>(k f hf j hj).trans (h4 j hj)⟩
theorem TL.turn {l l':List Pg} {x x':Pg} (h:TL F lf l) (hx:x∈l) (hk:okP x') (he:x'.1=x.1) (hm:∀ y,y∈l'↔y=x'∨(y∈l∧y.1≠x.1)):TL F (setE lf (y0 x.1) (i0 x.1) (toP x'.2.1 x'.2.2)) l':=by
 have hne:=hk.ne
 have hok:=h.ok x hx
 refine⟨fun y hy=>?_,fun y hy z hz e=>?_,fun y hy=>?_,fun y k h1 h2 h3=>?_,fun y h1 h2=>?_,h.n1⟩
 ·rcases (hm y).1 hy with rfl|h1
  ·exact hk
  ·exact h.ok y h1.1
 ·rcases (hm y).1 hy with rfl|h1<;>rcases (hm z).1 hz with rfl|h2
  ·rfl
  ·exact absurd (e.symm.trans he) h2.2
  ·exact absurd (e.trans he) h1.2
  ·exact h.uniq y h1.1 z h2.1 e
 ·unfold setE
  rcases (hm y).1 hy with rfl|h1
  ·rw[he,if_pos ⟨rfl,rfl⟩]
  ·rw[if_neg (fun e=>h1.2 (va_inj (h.ok y h1.1).1 hok.1 e.1 e.2))]
   exact h.leaf y h1.1
 ·by_cases e:y=y0 x.1∧k=i0 x.1
  ·exact⟨x',(hm x').2 (.inl rfl),by rw[he];exact e.1,by rw[he];exact e.2⟩
  ·unfold setE at h3
   rw[if_neg e] at h3
   obtain⟨z,hz,e1,e2⟩:=h.only y k h1 h2 h3
   refine⟨z,(hm z).2 (.inr ⟨hz,fun e3=>e ⟨by rw[e1,e3],by rw[e2,e3]⟩⟩),e1,e2⟩
 ·obtain⟨k,h3,h4⟩:=h.n0 y h1 h2
  refine⟨k,h3,?_⟩
  unfold setE
  split
  ·exact hne
  ·exact h4
theorem SpL.turn {i:Nat} {d:Int} (h:SpL N r ft B L F lf fr c I) (hi:i∈I) (hd:0<=d∧d<256∧d%2=0) (hb:0<=ad (fr i)∧ad (fr i)<72057594037927936∧ad (fr i)%4096=0) (hk:kd (toP (ad (fr i)) d) 0=2)
  (hp:PT N L B' F (setE lf (y0 ((i:Int)*4096)) (i0 ((i:Int)*4096)) (toP (ad (fr i)) d))):SpL N r ft B' L F (setE lf (y0 ((i:Int)*4096)) (i0 ((i:Int)*4096)) (toP (ad (fr i)) d)) fr (upd c i d) I:=by
 have hbi:=h.bd i hi
 have hok:=h.ok hi
 refine⟨hp,h.rt,?_,h.nd,h.bd,h.inj,h.pg,h.ftb⟩
 refine TL.turn (x:=upg fr c i) (x':=((i:Int)*4096,ad (fr i),d)) h.tl (mem_pgL.2 (.inr (.inr ⟨i,hi,rfl⟩))) ⟨hok.1,hb,hd,hk⟩ rfl fun y=>?_
 rw[mem_pgL,mem_pgL]
 constructor
 ·rintro(rfl|rfl|⟨j,hj,rfl⟩)
  ·exact .inr ⟨.inl rfl,by unfold upg;simp only[ne_eq];omega⟩
  ·exact .inr ⟨.inr (.inl rfl),by unfold upg;simp only[ne_eq];omega⟩
  ·by_cases e:j=i
   ·subst e
    left
    unfold upg upd
    rw[if_pos rfl]
   ·right
    refine⟨.inr (.inr ⟨j,hj,?_⟩),?_⟩
    ·unfold upg upd
     rw[if_neg e]
    ·unfold upg
     simp only[ne_eq]
     omega
 ·rintro(rfl|⟨rfl|rfl|⟨j,hj,rfl⟩,hne⟩)
  ·refine .inr (.inr ⟨i,hi,?_⟩)
   unfold upg upd
   rw[if_pos rfl]
  ·exact .inl rfl
  ·exact .inr (.inl rfl)
  ·refine .inr (.inr ⟨j,hj,?_⟩)
   have e:j≠i:=fun e=>hne (by rw[e])
   unfold upg upd
   rw[if_neg e]
theorem SpL.extc {c':Nat->Int} (h:SpL N r ft B L F lf fr c I) (e:∀ i,i∈I->c' i=c i):SpL N r ft B L F lf fr c' I:=by
 have e1:pgL ft fr c' I=pgL ft fr c I:=by
  unfold pgL
  congr 1
  refine List.map_congr_left fun j hj=>?_
  unfold upg
  rw[e j hj]
 exact⟨h.pt,h.rt,by rw[e1];exact h.tl,h.nd,h.bd,h.inj,h.pg,h.ftb⟩
theorem SpL.need {j:Nat} (h:SpL N r ft B L F lf fr c (List.range j)) (hj:j<4096):((need F ((j:Int)*4096):Nat):Int)=ndP (j+1)-ndP j:=by
 have e1:y1 ((j:Int)*4096)=1+0:=by rw[y1_val _ (by omega)];omega
 have e0:y0 ((j:Int)*4096)=513+j/512:=by rw[y0_val _ (by omega)];omega
 have h1:=h.tl.has1 h.pt 0 (by omega)
 have h0:=h.tl.has0 h.pt (j/512)
 unfold Go.Proofs.YtabnipbdbnmmpaaGreatDoor.Rm.need ndP
 rw[e1,e0]
 by_cases hj0:j=0
 ·subst hj0
  have hn:F (1+0)=none:=by
   cases hF:F (1+0) with
   |none=>rfl
   |some f=>
    obtain⟨x,hx,e⟩:=h1.1 (by rw[hF];simp)
    rcases mem_pgL.1 hx with rfl|rfl|⟨i,hi,rfl⟩
    ·simp only at e;omega
    ·simp only at e;omega
    ·simp at hi
  rw[if_pos hn]
  decide
 ·have hs:F (1+0)≠none:=h1.2 ⟨upg fr c 0,mem_pgL.2 (.inr (.inr ⟨0,List.mem_range.2 (by omega),rfl⟩)),by unfold upg;simp only;omega⟩
  rw[if_neg hs,if_neg (show ¬ (j:Int)+1=0 by omega),if_neg (show ¬ (j:Int)=0 by omega)]
  by_cases hm:j%512=0
  ·have hn:F (513+j/512)=none:=by
    cases hF:F (513+j/512) with
    |none=>rfl
    |some f=>
     obtain⟨x,hx,e⟩:=h0.1 (by rw[hF];simp)
     rcases mem_pgL.1 hx with rfl|rfl|⟨i,hi,rfl⟩
     ·simp only at e;omega
     ·simp only at e;omega
     ·have:=List.mem_range.1 hi
      unfold upg at e
      simp only at e
      omega
   rw[if_pos hn]
   omega
  ·have hn:F (513+j/512)≠none:=h0.2 ⟨upg fr c (j-1),mem_pgL.2 (.inr (.inr ⟨j-1,List.mem_range.2 (by omega),rfl⟩)),by unfold upg;simp only;omega⟩
   rw[if_neg hn]
   omega
theorem low_iq (i:Nat):i0 ((i:Int)*4096)=i%512:=by
 unfold i0 ix spn
 simp
 omega
theorem low_yq (i:Nat) (h:i<4096):y0 ((i:Int)*4096)=513+i/512:=by rw[y0_val _ (by omega)];omega
end
end Rm
namespace Rm
open Go Go.RowKit
theorem wrU_off {P:Nat} {B:Nat->Int} {fr:Nat->Nat} (hi:∀ i j,i<P->j<P->fr i=fr j->i=j) (va:Nat) (R:Nat->Int) (x:Nat) (hx:x<P*4096):∀ n,va+n<=P*4096->(∀ j,j<n->va+j≠x)->btU (wrU B fr va R n) fr x=btU B fr x
 |0,_,_=>rfl
 |n+1,hv,hne=>by
  have ih:=wrU_off (B:=B) hi va R x hx n (by omega) (fun j hj=>hne j (by omega))
  unfold btU at ih ⊢
  unfold wrU
  rw[if_neg,ih]
  intro e
  have h1:fr (x/4096)=fr ((va+n)/4096):=by omega
  have h2:=hi _ _ (by omega) (by omega) h1
  exact hne n (by omega) (by omega)
theorem wrU_at (B:Nat->Int) (fr:Nat->Nat) (va:Nat) (R:Nat->Int) (P:Nat) (hi:∀ i j,i<P->j<P->fr i=fr j->i=j):∀ n,va+n<=P*4096 -> ∀ j,j<n->btU (wrU B fr va R n) fr (va+j)=R j
 |0,_,j,hj=>by omega
 |k+1,hk,j,hj=>by
  unfold btU wrU
  by_cases e:j=k
  ·subst e
   rw[if_pos rfl]
  ·rw[if_neg ?_]
   ·exact wrU_at B fr va R P hi k (by omega) j (by omega)
   ·intro h
    have h1:fr ((va+j)/4096)=fr ((va+k)/4096):=by omega
    have h2:=hi _ _ (by omega) (by omega) h1
    omega
def wrM (M:Nat->Int) (va n:Nat) (R:Nat->Int):Nat->Int:=fun a=>if va<=a∧a<va+n then R (a-va) else M a
def grM (M:Nat->Int) (P:Nat):Nat->Int:=fun a=>if a<P*4096 then M a else 0
def SpM (ox:Oxt) (w:World) (s p b m N r P K:Nat) (M:Nat->Int) (c:Nat->Int):Prop:=∃ B L F lf fr,SpT w s p b m N r P ox.ft ((P:Int)*4096) B L F lf fr c∧(∀ a,a<P*4096->btU B fr a=M a)∧Ots ox L F P fr B∧L.length+nodesF F+P+1=K
section
variable {ox:Oxt} {w w':World} {s p b m N r P K:Nat} {M:Nat->Int} {c:Nat->Int}
theorem SpM.below (h:SpM ox w s p b m N r P K M c) (k:Below w.heap.size w w'):SpM ox w' s p b m N r P K M c:=by
 obtain⟨B,L,F,lf,fr,h1,h2,h4,h5⟩:=h
 exact⟨B,L,F,lf,fr,h1.below k,h2,h4,h5⟩
theorem SpM.ext (h:SpM ox w s p b m N r P K M c) {M':Nat->Int} (e:∀ a,a<P*4096->M' a=M a):SpM ox w s p b m N r P K M' c:=by
 obtain⟨B,L,F,lf,fr,h1,h2,h4,h5⟩:=h
 exact⟨B,L,F,lf,fr,h1,fun a ha=>(h2 a ha).trans (e a ha).symm,h4,h5⟩
theorem SpT.inj {B:Nat->Int} {L:List Nat} {F:Nat->Option Nat} {lf:Nat->Nat->Int} {fr:Nat->Nat} {ft:Nat} {size:Int} (h:SpT w s p b m N r P ft size B L F lf fr c):∀ i j,i<P->j<P->fr i=fr j->i=j:=fun i j hi hj=>h.tab.inj i (List.mem_range.2 hi) j (List.mem_range.2 hj)
def GmP (ox:Oxt) (w:World) (s p b m N r P K:Nat) (M:Nat->Int) (c:Nat->Int) (x:Int) (e:Ending) (w':World):Prop:=e = .returned (.int .i64 0)∧SpM ox w' s p b m N r (P+1) K (grM M P) (upd c P (x+208)) ∧
 w.heap.size<=w'.heap.size∧w'.os=w.os∧w'.tape=w.tape∧w'.output=w.output∧∀ k,k<w.heap.size->k≠p->k≠b->k≠m->k≠s->w'.heap[k]? = w.heap[k]?
theorem SpM.grow (h:SpM ox w s p b m N r P K M c) (hP:P<4096) (hK:(P:Int)+1+ndP (P+1)<=K) (x:Int) (hx:rgt x):Calls Tryz.prog 146 #[.pointer (some ⟨s,0,.none⟩),.int .u64 (((P:Int)+1)*4096),.int .u64 x] w (GmP ox w s p b m N r P K M c x):=by
 obtain⟨B,L,F,lf,fr,h,hM,hO,hlen⟩:=h
 have hnd:=h.tab.nodes h.pm
 have hneed:=h.tab.need hP
 have hmono:=ndP_mono (a:=(P:Int)) (c:=(P:Int)+1) (by omega) (by omega)
 obtain⟨f,L1,rfl⟩:∃ f L1,L=f :: L1:=by
  cases L with
  |nil=>rw[List.length_nil] at hlen;omega
  |cons f L1=>exact⟨f,L1,rfl⟩
 rw[List.length_cons] at hlen
 have hN:=h.ram.mem.n2
 have hf:=h.ram.lt f (List.mem_cons_self ..)
 have hz:lf (y0 ((P:Int)*4096)) (i0 ((P:Int)*4096))=0:=h.tab.zero (fun e=>Nat.lt_irrefl _ (List.mem_range.1 e)) hP
 have hw:needY F ((P:Int)*4096)<=L1.length:=by rw[need_eq];omega
 refine(grow_pt h.sp h.ram h.tab.pt h.tab.rt h.ne (by omega) hx hz hw ?_).mono fun e w' h9=>?_
 ·rw[List.length_cons]
  omega
 ·obtain⟨he,hsp,⟨B',L',F',hR,hL,hr⟩,hrest⟩:=h9
  have hlen2:L1.length=need F ((P:Int)*4096)+L'.length:=by
   have:=congrArg List.length hL
   rw[List.length_append,List.length_take,Nat.min_eq_left hw,need_eq] at this
   exact this
  obtain⟨t1,t2,t3⟩:=h.tab.add (i:=P) h.ram.nd ⟨hf.1,hf.2⟩ hN (fun e=>Nat.lt_irrefl _ (List.mem_range.1 e)) hP (rgt_b hx) (rgt_leaf hx hf.2 hN).1 hR hlen2
  rw[<-List.range_succ] at t1 t3
  have hT:SpT w' s p b m N r (P+1) ox.ft (((P+1:Nat):Int)*4096) B' L' F' (setE lf (y0 ((P:Int)*4096)) (i0 ((P:Int)*4096)) (toP (ad f) (x+208))) (upd fr P f) (upd c P (x+208)):=⟨by rw[show ((P+1:Nat):Int)=(P:Int)+1 by omega];exact hsp,by omega,by omega,hr,h.ne,t1⟩
  refine⟨he,⟨B',L',F',_,_,hT,fun a ha=>?_,hO.oth t3,by rw[List.length_cons] at t2;omega⟩,hrest⟩
  have hq:=hT.su.pag (a/4096) (by omega)
  have hm:a%4096<4096:=by omega
  by_cases hPa:a/4096=P
  ·have hn:¬ a<P*4096:=by omega
   have e1:=hR.byt _ hq.nn (a%4096) hm
   have:upd fr P f (a/4096)=f:=by unfold upd;rw[if_pos hPa]
   unfold btU grM
   rw[e1,if_neg hn,this]
   exact zer_in B f _ hm
  ·have hi:a/4096<P:=Nat.lt_of_le_of_ne (Nat.le_of_lt_succ (Nat.div_lt_of_lt_mul (by rw[Nat.mul_comm];exact ha))) hPa
   have hn:a<P*4096:=by
    clear hPa ha
    omega
   have hff:fr (a/4096)≠f:=fun e=>(h.tab.pg (a/4096) (List.mem_range.2 hi)).2.2.1 (by rw[e];exact List.mem_cons_self ..)
   have hx2:fr (a/4096)*4096+a%4096<f*4096∨f*4096+4096<=fr (a/4096)*4096+a%4096:=by rcases Nat.lt_or_gt_of_ne hff with h1|h1<;>omega
   have e2:upd fr P f (a/4096)=fr (a/4096):=by unfold upd;rw[if_neg hPa]
   have e1:=hR.byt _ hq.nn (a%4096) hm
   have e3:=hM a hn
   unfold btU at e1 e3 ⊢
   unfold grM
   rw[e1,if_pos hn,e2,<-e3]
   exact zer_out B f _ hx2
def PmP (ox:Oxt) (w:World) (s p b m N r P K:Nat) (M:Nat->Int) (c:Nat->Int) (e:Ending) (w':World):Prop:=e = .returned (.bool true)∧SpM ox w' s p b m N r P K M c∧Fra p b m w w'
theorem SpM.wr_of {B:Nat->Int} {L:List Nat} {F:Nat->Option Nat} {lf:Nat->Nat->Int} {fr:Nat->Nat} (h:SpT w s p b m N r P ox.ft ((P:Int)*4096) B L F lf fr c) (hM:∀ a,a<P*4096->btU B fr a=M a) (hO:Ots ox L F P fr B) (hK:L.length+nodesF F+P+1=K) {va n:Nat} {R:Nat->Int} (hv:va+n<=P*4096) (h':SpU w' s p b m N r P ((P:Int)*4096) (wrU B fr va R n) L F lf fr c):SpM ox w' s p b m N r P K (wrM M va n R) c:=by
 refine⟨_,L,F,lf,fr,⟨h'.sp,h'.sz,h'.pm,h'.ram,h'.ne,⟨h'.pt,h.tab.rt,h.tab.tl,h.tab.nd,h.tab.bd,h.tab.inj,h.tab.pg,h.tab.ftb⟩⟩,fun a ha=>?_,hO.bytes fun f hf j hj=>wrU_else B fr va R f j hj n fun k hk e=>(hO f hf).2.2.1 _ (by omega) e,hK⟩
 unfold wrM
 by_cases e:va<=a∧a<va+n
 ·rw[if_pos e]
  have:=wrU_at B fr va R P h.inj n hv (a-va) (by omega)
  rw[show va+(a-va)=a by omega] at this
  exact this
 ·rw[if_neg e,wrU_off h.inj va R a ha n hv (fun j hj e2=>e ⟨by omega,by omega⟩)]
  exact hM a ha
theorem SpM.poke (h:SpM ox w s p b m N r P K M c) (va n:Nat) (hn:1<=n) (hv:va+n<=P*4096) (g k0 cc:Nat) (hcc:n<=cc∧cc<=9223372036854775807) (R:Nat->Int) (hR:∀ i,0<=R i∧R i<256) (hg:∀ i,i<n->w.cell? ⟨g,k0+i,.none⟩=some (.int .u8 (R i))) (hgp:g≠p∧g≠b∧g≠m) :
  Calls Tryz.prog 95 #[.pointer (some ⟨s,0,.none⟩),.int .u64 va,.slice (some ⟨g,k0,.none⟩) n cc] w (PmP ox w s p b m N r P K (wrM M va n R) c):=by
 obtain⟨B,L,F,lf,fr,h,hM,hO,hK⟩:=h
 have hm:=h.pm
 refine(poke_gen h.su va n hn (by omega) g k0 cc hcc R hR hg hgp).mono fun e w' h9=>?_
 rcases h9 with⟨_,h1,h2,h3⟩|⟨h1,_⟩
 ·exact⟨h1,SpM.wr_of h hM hO hK hv h2,h3⟩
 ·exact absurd (show (va:Int)+n<=(P:Int)*4096 by omega) h1
theorem SpM.guard (h:SpM ox w s p b m N r P K M c) (i:Nat) (hi:1<=i∧i+1<P) {d:Int} (hd:rdb (c i) d):Calls Tryz.prog 96 #[.pointer (some ⟨s,0,.none⟩),.int .i64 (i:Int)] w fun e w'=>e = .returned (.int .i64 0)∧SpM ox w' s p b m N r P K M (upd c i d)∧Fra p b m w w':=by
 obtain⟨B,L,F,lf,fr,h,hM,hO,hK⟩:=h
 have hN:=h.ram.mem.n2
 have hpm:=h.pm
 have hq:=h.su.pag i (by omega)
 obtain⟨j,hj1,hj2,hj3⟩:∃ j,j<P∧j/512=i/512∧j%512≠i%512:=by
  by_cases e:i%512=511
  ·exact⟨i-1,by omega,by omega,by omega⟩
  ·exact⟨i+1,by omega,by omega,by omega⟩
 have hqj:=h.su.pag j hj1
 refine(guard_pt h.sp h.ram h.tab.pt h.tab.rt h.ne (i:Int) (by omega) (by omega) hd hq (j%512) ⟨by omega,by rw[low_iq];exact hj3,?_⟩).mono fun e w' h9=>?_
 ·have hl:=hqj.l
  have hk:=hqj.k
  rw[low_yq j (by omega),low_iq,hj2] at hl
  rw[low_yq i (by omega),hl]
  exact hk
 ·obtain⟨he,hfra,B',hram,hpt,hby⟩:=h9
  have hlf:=rdb_leaf hd hq.qb.1 hN
  have hfb:=ad_b (fr i) N hq.qb.1 hN
  have hT2:=h.tab.turn (i:=i) (List.mem_range.2 (by omega)) (d:=d) (B':=B') ⟨by unfold rdb at hd;omega,by unfold rdb at hd;omega,by unfold rdb at hd;omega⟩ ⟨hfb.1,hfb.2.1,hfb.2.2⟩ hlf.1 hpt
  refine⟨he,⟨B',L,F,_,fr,⟨h.sp.fra hfra h.ne.1 h.ne.2.1 h.ne.2.2,h.sz,h.pm,hram,h.ne,hT2⟩,fun a ha=>?_,hO.bytes fun f hf j hj=>hby f (hO f hf).2.1 j hj,hK⟩,hfra⟩
  rw[<-hM a ha]
  unfold btU
  exact hby _ (h.su.pag (a/4096) (by omega)).nn _ (by omega)
end
end Rm
section
open Go.RowKit Go.Shelf
attribute [local go_sem] Oper.semAt_some
set_option maxRecDepth 10000
abbrev Bs:=List UInt8
abbrev ix (l:Bs) (c:UInt8):Int:=Lib.indexByte l c
theorem ix_cases (l:Bs) (c:UInt8):ix l c = -1∨∃ o:Nat,ix l c=o∧o<l.length:=by
 have h:-1<=ix l c:=Lib.indexByte_ge l c
 by_cases e:ix l c = -1
 ·exact .inl e
 ·right
  refine⟨(ix l c).toNat,by omega,?_⟩
  have h1:=(Lib.indexByte_some (l:=l) (c:=c) (o:=(ix l c).toNat) (show ix l c=_ by omega)).1
  exact(List.getElem?_eq_some_iff.1 h1).1
def hz (l:Bs):Bool:=decide (0∈l)
theorem ix_hz (l:Bs):decide (0<=ix l 0)=hz l:=by
 unfold hz
 rcases ix_cases l 0 with e|⟨o,e,ho⟩
 ·have hn:(0:UInt8)∉l:=fun hm=>by
   obtain⟨k,hk⟩:=List.mem_iff_getElem?.1 hm
   exact absurd hk (Lib.indexByte_none e k)
  rw[e]
  simp[hn]
 ·have hm:(0:UInt8)∈l:=List.mem_iff_getElem?.2 ⟨o,(Lib.indexByte_some e).1⟩
  rw[e]
  simp[hm]
theorem idxS_any (s:ByteArray) (c:Int) (w:World):Calls Tryz.prog 177 #[.string s,.int .u8 c] w fun e w'=>e = .returned (.int .i64 (ix s.data.toList c.toNat.toUInt8))∧w'=w:=by
 go_enter Tryz.func177,Tryz.ntmps177
 go_wp2
 rw[run_callFunc_extern Tryz.func206 (by kernel_rfl) (by kernel_rfl) (by kernel_rfl) (e:=Extern.BytealgIndexByte.indexByte) (by kernel_rfl),Lib.run_indexByteString]
 simp only[Result.andThen]
 rw[Oper.upon_value]
 go_wp2
 go_ret
 exact⟨rfl,rfl⟩
theorem indexByte_any (s:ByteArray) (c:Int) (w:World):Calls Tryz.prog 139 #[.string s,.int .u8 c] w fun e w'=>e = .returned (.int .i64 (ix s.data.toList c.toNat.toUInt8))∧w'=w:=by
 have c1:=idxS_any s c w
 go_enter Tryz.func139,Tryz.ntmps139
 go_wp2_with (go_at_call 177;refine c1.mono ?_;rintro _ _ ⟨rfl,rfl⟩)
 go_ret
 exact⟨rfl,rfl⟩
def sv (x:Bs):Value:=.string ⟨x.toArray⟩
theorem hasZero_any (l:Bs) (w:World):Calls Tryz.prog 87 #[sv l] w fun e w'=>e = .returned (.bool (hz l))∧w'=w:=by
 have c1:Calls Tryz.prog 139 #[.string ⟨l.toArray⟩,.int .u8 0] w fun e w'=>e = .returned (.int .i64 (ix l 0))∧w'=w:=indexByte_any ⟨l.toArray⟩ 0 w
 have h0:=ix_hz l
 unfold sv
 generalize ix l 0=z at *
 rw[<-h0]
 clear h0
 go_enter Tryz.func87,Tryz.ntmps87
 go_wp2_with (go_at_call 139;refine c1.mono ?_;rintro _ _ ⟨rfl,rfl⟩)
 go_ret
 exact⟨rfl,rfl⟩
def Tex (w:World) (p:Option Addr) (n c:Nat) (xs:List Bs):Prop:=
 xs.length=n∧n<=c∧c<=maxLen∧(n=0∨∃ b o,p=some ⟨b,o,.none⟩∧b<w.heap.size∧∀ i x,xs[i]? = some x->w.cell? ⟨b,o+i,.none⟩=some (sv x))
theorem Tex.below {w w':World} {p:Option Addr} {n c:Nat} {xs:List Bs} (h:Tex w p n c xs) (hb:Below w.heap.size w w'):Tex w' p n c xs:=by
 obtain⟨h1,h2,h3,h4⟩:=h
 refine⟨h1,h2,h3,?_⟩
 rcases h4 with h4|⟨b,o,rfl,h5,h6⟩
 ·exact .inl h4
 ·exact .inr ⟨b,o,rfl,Nat.lt_of_lt_of_le h5 hb.size,fun i x hx=>(hb.cell (p:=⟨b,o+i,.none⟩) h5).trans (h6 i x hx)⟩
theorem Tex.at {w:World} {p:Option Addr} {n c i:Nat} {xs:List Bs} (h:Tex w p n c xs) (hi:i<n):∃ b o x,p=some ⟨b,o,.none⟩∧xs[i]? = some x∧w.cell? ⟨b,o+i,.none⟩=some (.string ⟨x.toArray⟩):=by
 obtain⟨h1,h2,h3,h4⟩:=h
 rcases h4 with h4|⟨b,o,rfl,h5,h6⟩
 ·omega
 ·exact⟨b,o,xs[i]'(by omega),rfl,List.getElem?_eq_getElem _,h6 i _ (List.getElem?_eq_getElem _)⟩
theorem indexF_any (p:Option Addr) (n c:Nat) (xs:List Bs) (w:World) (hn:n<1000000) (h:Tex w p n c xs) :
  Calls Tryz.prog 138 #[.slice p n c,.func (.func 87) #[] #[]] w fun e w'=>(∃ z:Int,e = .returned (.int .i64 z)∧decide (0<=z)=xs.any hz)∧w'=w:=by
 have HT:Hid (Tex w p n c xs):=h
 have hc:c<=9223372036854775807:=h.2.2.1
 have hnc:n<=c:=h.2.1
 have HL:Hid (xs.length=n):=h.1
 clear h
 go_enter Tryz.func138,Tryz.ntmps138
 go_wp2_with fail
 go_loopw [8] (fun a wr=>∃ i:Nat,i<=n∧a = .int .i64 i∧Hid ((xs.take i).any hz=false)∧wr=w) (fun a _=>(n-intOf a).toNat)
 case atStart=>exact⟨0,by omega,rfl,by show _=_;simp,rfl⟩
 case round=>
  obtain⟨i,hi,rfl,HA,rfl⟩:=hrel
  by_cases hlt:i<n
  ·have g0:(i:Int)<n:=by omega
   obtain⟨b,o,x,rfl,hx,a0⟩:=HT.out.at hlt
   have hnext:(xs.take (i+1)).any hz=hz x:=by
    rw[List.take_add_one,hx,List.any_append,HA.out]
    simp
   have c1:=hasZero_any x wr
   unfold sv at c1
   have HX:Hid (xs[i]? = some x):=hx
   clear hx
   cases hzx:hz x with
   |true=>
    rw[hzx] at c1 hnext
    have HN:Hid ((xs.take (i+1)).any hz=true):=hnext
    clear hnext hzx
    go_wp2_with (go_at_call 87;refine c1.mono ?_;rintro _ _ ⟨rfl,rfl⟩)
    go_ret
    refine⟨⟨i,rfl,?_⟩,rfl⟩
    have:xs.any hz=true:=by
     rw[<-List.take_append_drop (i+1) xs,List.any_append,HN.out];rfl
    rw[this];simp
   |false=>
    rw[hzx] at c1 hnext
    have HN:Hid ((xs.take (i+1)).any hz=false):=hnext
    clear hnext hzx
    go_wp2_with (go_at_call 87;refine c1.mono ?_;rintro _ _ ⟨rfl,rfl⟩)
    exact⟨⟨i+1,by omega,rfl,HN,trivial⟩,by simp only[intOf];omega⟩
  ·obtain rfl:i=n:=by omega
   go_wp2
   go_ret
   refine⟨⟨-1,rfl,?_⟩,rfl⟩
   have:=HA.out
   rw[<-HL.out,List.take_length] at this
   rw[this];rfl
theorem contains_any (p:Option Addr) (n c:Nat) (xs:List Bs) (w:World) (hn:n<1000000) (h:Tex w p n c xs) :
  Calls Tryz.prog 86 #[.slice p n c,.func (.func 87) #[] #[]] w fun e w'=>e = .returned (.bool (xs.any hz))∧w'=w:=by
 have c1:=indexF_any p n c xs w hn h
 clear h
 go_enter Tryz.func86,Tryz.ntmps86
 go_wp2_with (go_at_call 138;refine c1.mono ?_;rintro _ _ ⟨⟨z,rfl,hz1⟩,rfl⟩;have HZ:Hid (decide (0<=z)=xs.any hz):=hz1;clear hz1 c1)
 go_ret
 exact⟨by rw[<-HZ.out];rfl,rfl⟩
end
section
open Go.RowKit
theorem ta_yes (p:Option Addr) (w:World):(Instr.typeAssert (.iface 86 (.pointer p)) 20 86 true).run Tryz.prog w = .ok (.tuple #[.pointer p,.bool true]) w:=by kernel_rfl
theorem ta_no (w:World):(Instr.typeAssert .nilIface 20 86 true).run Tryz.prog w = .ok (.tuple #[.pointer none,.bool false]) w:=by kernel_rfl
set_option maxRecDepth 10000 in
theorem catch_up (T U:Nat) (p:Option Addr) (older:List PanicEntry) (w:World) (x0 x1 x2:Value) (h0:w.cell? ⟨T,0,.none⟩=some x0) (h1:w.cell? ⟨T,1,.none⟩=some x1) (h2:w.cell? ⟨U,0,.none⟩=some x2) (f0:w.frozen? ⟨T,0,.none⟩=false) (f1:w.frozen? ⟨T,1,.none⟩=false) (f2:w.frozen? ⟨U,0,.none⟩=false) (hne:T≠U) :
  CallsD Tryz.prog 136 #[.pointer (some ⟨T,0,.none⟩),.pointer (some ⟨U,0,.none⟩)] (.panicking ({ v:=.iface 86 (.pointer p),recovered:=false } :: older)) w fun e u' w'=>
   e = .returned (.tuple #[])∧u' = .panicking ({ v:=.iface 86 (.pointer p),recovered:=true } :: older)∧w'=((w.setCell ⟨T,0,.none⟩ (.int .u64 0)).setCell ⟨T,1,.none⟩ (.slice .none 0 0)).setCell ⟨U,0,.none⟩ (.iface 86 (.pointer p)):=by
 refine callsD_of_wpS Tryz.func136 rfl fun c₀ cs hu=>?_
 apply wpS_seq
 apply wpS_region
 simp[wpOpsS,go_sem,recoverD,hu,Tryz.ntmps136,Exit.thenS,ta_yes,Array.replicate]
 apply wpS_seq
 apply wpS_region
 simp[wpOpsS,go_sem,Exit.thenS]
 refine wpS_cond (t:=true) (by simp[Act.eval]) ?_
 simp only[if_true]
 apply wpS_region
 have hT:T<w.heap.size:=zC h0
 have e2:((w.setCell ⟨T,0,.none⟩ (.int .u64 0)).setCell ⟨T,1,.none⟩ (.slice .none 0 0)).cell? ⟨U,0,.none⟩=some x2:=by
  rw[zO (by simp[hne]),zO (by simp[hne])]
  exact h2
 simp[wpOpsS,go_sem,h0,h1,h2,f0,f1,f2,e2,bodyPostS,results,Tryz.results136]
theorem catch_idle (T U:Nat) (w:World):CallsD Tryz.prog 136 #[.pointer (some ⟨T,0,.none⟩),.pointer (some ⟨U,0,.none⟩)] .returning w fun e u' w'=>e = .returned (.tuple #[])∧u' = .returning∧w'=w:=by
 refine callsD_of_wpS Tryz.func136 rfl fun c₀ cs hu=>?_
 apply wpS_seq
 apply wpS_region
 simp[wpOpsS,go_sem,recoverD,hu,Tryz.ntmps136,Exit.thenS,ta_no,Array.replicate]
 apply wpS_seq
 apply wpS_region
 simp[wpOpsS,go_sem,Exit.thenS]
 refine wpS_cond (t:=false) (by simp[Act.eval]) ?_
 simp only[Bool.false_eq_true,if_false]
 refine wpS_of_wp (wp_skip ?_)
 cases c₀
 simp_all [bodyPostS,results,Tryz.results136]
theorem read_any {W:World} {b o n c:Nat} {B:Nat->Int} (hL:Laid W) (hrow:Row W b o n B) (hbW:b<W.heap.size) (hB:∀ i,0<=B i∧B i<256) (hc:n<=c∧c<=9223372036854775807) (ha hr:Int) (hH:Hd B ha hr) :
  Calls Tryz.prog 85 #[.slice (some ⟨b,o,.none⟩) n c] W fun e w'=>((rdF n B ha hr).1.2≠0∧∃ v,e = .returned (.tuple #[.agg #[.int .u64 0,.slice .none 0 0],v])∧FaultIn w' 0 v (rdF n B ha hr).1.1 (rdF n B ha hr).1.2∧Below W.heap.size W w')∨((rdF n B ha hr).1.2=0∧∃ sv E,e = .returned (.tuple #[.agg #[.int .u64 (num B 24 8),sv],.nilIface])∧E.map (·.1)=(rdF n B ha hr).2∧Segs w' W.heap.size sv E B∧E.length<=8∧Below W.heap.size W w'):=by
 have hz0:((W.alloc (.cells #[.int .u64 0,.slice .none 0 0] 41)).alloc (.cells #[.nilIface] 33)).heap.size=W.heap.size+1+1:=by simp only[World.size_alloc]
 have HB0:Hid (Below W.heap.size W ((W.alloc (.cells #[.int .u64 0,.slice .none 0 0] 41)).alloc (.cells #[.nilIface] 33))):=(zB.alloc zL _).alloc (by simp only[World.size_alloc];omega) _
 have HE:Hid (((W.alloc (.cells #[.int .u64 0,.slice .none 0 0] 41)).alloc (.cells #[.nilIface] 33)).heap[W.heap.size]? = some (.cells #[.int .u64 0,.slice .none 0 0] 41 (0,0))∧((W.alloc (.cells #[.int .u64 0,.slice .none 0 0] 41)).alloc (.cells #[.nilIface] 33)).heap[W.heap.size+1]? = some (.cells #[.nilIface] 33 (0,0))):=by
  constructor
  ·rw[Below.heap_alloc _ _ _ (by simp only[World.size_alloc];omega)]
   exact heap_new _ _
  ·have:=heap_new (W.alloc (.cells #[.int .u64 0,.slice .none 0 0] 41)) (.cells #[.nilIface] 33)
   rwa [World.size_alloc] at this
 go_enter_defers Tryz.func85,Tryz.ntmps85
 go_wp2_with fail
 generalize hW0:((W.alloc (.cells #[.int .u64 0,.slice .none 0 0] 41)).alloc (.cells #[.nilIface] 33))=W0 at *
 clear hW0
 have hk:Below W0.heap.size W0 (W0.alloc (.cells #[.slice (some ⟨b,o,.none⟩) n c,.slice .none 0 0] 210)):=zB.alloc zL _
 have hp:=prog_any (W0:=W0) (w:=W0.alloc (.cells #[.slice (some ⟨b,o,.none⟩) n c,.slice .none 0 0] 210)) (rb:=W0.heap.size) (b:=b) (o:=o) (n:=n) (c:=c) (B:=B)
  ⟨⟨World.cell?_alloc_at _ _ _ _ rfl,(hrow.keep HB0.out).keep hk,hB,hc⟩,World.cell?_alloc_at _ _ _ _ rfl,World.frozen?_alloc_new _ _ _ _,⟨World.ownsRow_nil _ _ _ _,fun x hx=>by simp at hx,fun x hx=>by simp at hx⟩,hk,Nat.le_refl _,by rw[World.size_alloc];exact Nat.le_refl _,by omega,by simp⟩ (hL.below HB0.out) ha hr hH
 rw[hz0] at hp
 refine hp.mono ?_
 clear hk hp
 intro e V hP
 rcases hP with⟨h1,v,rfl,hf,hbV⟩|⟨h1,sv,E,rfl,hE,hS,hln,hbV⟩
 ·obtain⟨fb,_,hfl,rfl,f0,f1,f2⟩:=hf
  have q0:=(hbV.block W.heap.size (by omega)).trans HE.out.1
  have q1:=(hbV.block (W.heap.size+1) (by omega)).trans HE.out.2
  have r0:V.cell? ⟨W.heap.size,0,.none⟩=some (.int .u64 0):=by simp[World.cell?,q0]
  have r1:V.cell? ⟨W.heap.size,1,.none⟩=some (.slice .none 0 0):=by simp[World.cell?,q0]
  have r2:V.cell? ⟨W.heap.size+1,0,.none⟩=some .nilIface:=by simp[World.cell?,q1]
  have z0:V.frozen? ⟨W.heap.size,0,.none⟩=false:=by simp[World.frozen?,q0]
  have z1:V.frozen? ⟨W.heap.size,1,.none⟩=false:=by simp[World.frozen?,q0]
  have z2:V.frozen? ⟨W.heap.size+1,0,.none⟩=false:=by simp[World.frozen?,q1]
  refine leaves_cons (f:=136) (args:=#[.pointer (some ⟨W.heap.size,0,.none⟩),.pointer (some ⟨W.heap.size+1,0,.none⟩)]) (by simp) (by simp[go_sem]) ?_
  refine(catch_up W.heap.size (W.heap.size+1) (some ⟨fb,0,.none⟩) [] V _ _ _ r0 r1 r2 z0 z1 z2 (by omega)).mono ?_
  rintro e u' w'' ⟨rfl,rfl,rfl⟩
  have s0:(((V.setCell ⟨W.heap.size,0,.none⟩ (.int .u64 0)).setCell ⟨W.heap.size,1,.none⟩ (.slice .none 0 0)).setCell ⟨W.heap.size+1,0,.none⟩ (.iface 86 (.pointer (some ⟨fb,0,.none⟩)))).cell? ⟨W.heap.size,0,.none⟩=some (.int .u64 0):=by
   rw[zO (by simp),zO (by simp)]
   exact World.cell?_setCell_same' _ _ _ (by rw[r0];rfl)
  have s1:(((V.setCell ⟨W.heap.size,0,.none⟩ (.int .u64 0)).setCell ⟨W.heap.size,1,.none⟩ (.slice .none 0 0)).setCell ⟨W.heap.size+1,0,.none⟩ (.iface 86 (.pointer (some ⟨fb,0,.none⟩)))).cell? ⟨W.heap.size,1,.none⟩=some (.slice .none 0 0):=by
   rw[zO (by simp)]
   exact World.cell?_setCell_same' _ _ _ (by rw[zO (by simp),r1];rfl)
  have s2:(((V.setCell ⟨W.heap.size,0,.none⟩ (.int .u64 0)).setCell ⟨W.heap.size,1,.none⟩ (.slice .none 0 0)).setCell ⟨W.heap.size+1,0,.none⟩ (.iface 86 (.pointer (some ⟨fb,0,.none⟩)))).cell? ⟨W.heap.size+1,0,.none⟩=some (.iface 86 (.pointer (some ⟨fb,0,.none⟩))):=World.cell?_setCell_same' _ _ _ (by rw[zO (by simp),zO (by simp),r2];rfl)
  have bq:Below W.heap.size W (((V.setCell ⟨W.heap.size,0,.none⟩ (.int .u64 0)).setCell ⟨W.heap.size,1,.none⟩ (.slice .none 0 0)).setCell ⟨W.heap.size+1,0,.none⟩ (.iface 86 (.pointer (some ⟨fb,0,.none⟩)))):=(((HB0.out.trans (hbV.mono HB0.out.size)).setCell (p:=⟨W.heap.size,0,.none⟩) zL _).setCell (p:=⟨W.heap.size,1,.none⟩) zL _).setCell (p:=⟨W.heap.size+1,0,.none⟩) (Nat.le_succ _) _
  have hne:∀ k:Nat,fb≠W.heap.size∧fb≠W.heap.size+1:=fun _=>by
   constructor
   ·intro e
    rw[e] at f0
    rw[r0] at f0
    cases f0
   ·intro e
    rw[e] at f0
    rw[r2] at f0
    cases f0
  have so:∀ k:Nat,(((V.setCell ⟨W.heap.size,0,.none⟩ (.int .u64 0)).setCell ⟨W.heap.size,1,.none⟩ (.slice .none 0 0)).setCell ⟨W.heap.size+1,0,.none⟩ (.iface 86 (.pointer (some ⟨fb,0,.none⟩)))).cell? ⟨fb,k,.none⟩=V.cell? ⟨fb,k,.none⟩:=fun k=>by
   have h9:=hne 0
   rw[zO (by simp only[ne_eq,Addr.mk.injEq,not_and];intro e;omega),zO (by simp only[ne_eq,Addr.mk.injEq,not_and];intro e;omega),zO (by simp only[ne_eq,Addr.mk.injEq,not_and];intro e;omega)]
  have hfl':fb<(((V.setCell ⟨W.heap.size,0,.none⟩ (.int .u64 0)).setCell ⟨W.heap.size,1,.none⟩ (.slice .none 0 0)).setCell ⟨W.heap.size+1,0,.none⟩ (.iface 86 (.pointer (some ⟨fb,0,.none⟩)))).heap.size:=zC (x:=⟨fb,0,.none⟩) ((so 0).trans f0)
  have g0:=(so 0).trans f0
  have g1:=(so 1).trans f1
  have g2:=(so 2).trans f2
  generalize (((V.setCell ⟨W.heap.size,0,.none⟩ (.int .u64 0)).setCell ⟨W.heap.size,1,.none⟩ (.slice .none 0 0)).setCell ⟨W.heap.size+1,0,.none⟩ (.iface 86 (.pointer (some ⟨fb,0,.none⟩))))=W9 at *
  have l0:W.heap.size<W9.heap.size:=zC (x:=⟨W.heap.size,0,.none⟩) s0
  have l1:W.heap.size+1<W9.heap.size:=zC (x:=⟨W.heap.size+1,0,.none⟩) s2
  exact⟨.tuple #[.agg #[.int .u64 0,.slice .none 0 0],.iface 86 (.pointer (some ⟨fb,0,.none⟩))],by simp[results,Tryz.results85,go_sem,s0,s1,s2,l0,l1],.inl ⟨h1,_,rfl,⟨fb,Nat.zero_le _,hfl',rfl,g0,g1,g2⟩,bq⟩⟩
 ·obtain⟨q,cs,rfl,_⟩:=own_form hS.own
  have q0:=(hbV.block W.heap.size (by omega)).trans HE.out.1
  have q1:=(hbV.block (W.heap.size+1) (by omega)).trans HE.out.2
  have r0:V.cell? ⟨W.heap.size,0,.none⟩=some (.int .u64 0):=by simp[World.cell?,q0]
  have r1:V.cell? ⟨W.heap.size,1,.none⟩=some (.slice .none 0 0):=by simp[World.cell?,q0]
  have r2:V.cell? ⟨W.heap.size+1,0,.none⟩=some .nilIface:=by simp[World.cell?,q1]
  have z0:V.frozen? ⟨W.heap.size,0,.none⟩=false:=by simp[World.frozen?,q0]
  have z1:V.frozen? ⟨W.heap.size,1,.none⟩=false:=by simp[World.frozen?,q0]
  have z2:V.frozen? ⟨W.heap.size+1,0,.none⟩=false:=by simp[World.frozen?,q1]
  go_wp2_with fail
  refine leaves_cons (f:=136) (args:=#[.pointer (some ⟨W.heap.size,0,.none⟩),.pointer (some ⟨W.heap.size+1,0,.none⟩)]) (by simp) (by simp[go_sem]) ?_
  refine(catch_idle W.heap.size (W.heap.size+1) _).mono ?_
  rintro e u' w'' ⟨rfl,rfl,rfl⟩
  have s0:(((V.setCell ⟨W.heap.size,0,.none⟩ (.int .u64 (num B 24 8))).setCell ⟨W.heap.size,1,.none⟩ (.slice q E.length cs)).setCell ⟨W.heap.size+1,0,.none⟩ .nilIface).cell? ⟨W.heap.size,0,.none⟩=some (.int .u64 (num B 24 8)):=by
   rw[zO (by simp),zO (by simp)]
   exact World.cell?_setCell_same' _ _ _ (by rw[r0];rfl)
  have s1:(((V.setCell ⟨W.heap.size,0,.none⟩ (.int .u64 (num B 24 8))).setCell ⟨W.heap.size,1,.none⟩ (.slice q E.length cs)).setCell ⟨W.heap.size+1,0,.none⟩ .nilIface).cell? ⟨W.heap.size,1,.none⟩=some (.slice q E.length cs):=by
   rw[zO (by simp)]
   exact World.cell?_setCell_same' _ _ _ (by rw[zO (by simp),r1];rfl)
  have s2:(((V.setCell ⟨W.heap.size,0,.none⟩ (.int .u64 (num B 24 8))).setCell ⟨W.heap.size,1,.none⟩ (.slice q E.length cs)).setCell ⟨W.heap.size+1,0,.none⟩ .nilIface).cell? ⟨W.heap.size+1,0,.none⟩=some .nilIface:=World.cell?_setCell_same' _ _ _ (by rw[zO (by simp),zO (by simp),r2];rfl)
  have bq:Below W.heap.size W (((V.setCell ⟨W.heap.size,0,.none⟩ (.int .u64 (num B 24 8))).setCell ⟨W.heap.size,1,.none⟩ (.slice q E.length cs)).setCell ⟨W.heap.size+1,0,.none⟩ .nilIface):=(((HB0.out.trans (hbV.mono HB0.out.size)).setCell (p:=⟨W.heap.size,0,.none⟩) zL _).setCell (p:=⟨W.heap.size,1,.none⟩) zL _).setCell (p:=⟨W.heap.size+1,0,.none⟩) (Nat.le_succ _) _
  have low:∀ {ee s k:Nat} {vv:Value} {xs:List Value},V.ownsRow (W.heap.size+1+1+1) ee s vv k xs->(((V.setCell ⟨W.heap.size,0,.none⟩ (.int .u64 (num B 24 8))).setCell ⟨W.heap.size,1,.none⟩ (.slice q E.length cs)).setCell ⟨W.heap.size+1,0,.none⟩ .nilIface).ownsRow W.heap.size ee s vv k xs:=fun {ee s k vv xs} hv=>
   own_base (ownsRow_setCell_below (ownsRow_setCell_below (ownsRow_setCell_below hv (a:=⟨W.heap.size,0,.none⟩) (by show W.heap.size<W.heap.size+1+1+1;omega) _) (a:=⟨W.heap.size,1,.none⟩) (by show W.heap.size<W.heap.size+1+1+1;omega) _) (a:=⟨W.heap.size+1,0,.none⟩) (by show W.heap.size+1<W.heap.size+1+1+1;omega) _) (by omega)
  have hS9:Segs (((V.setCell ⟨W.heap.size,0,.none⟩ (.int .u64 (num B 24 8))).setCell ⟨W.heap.size,1,.none⟩ (.slice q E.length cs)).setCell ⟨W.heap.size+1,0,.none⟩ .nilIface) W.heap.size (.slice q E.length cs) E B:=⟨low hS.own,fun x hx=>low (hS.dat x hx),hS.gd⟩
  clear low
  generalize (((V.setCell ⟨W.heap.size,0,.none⟩ (.int .u64 (num B 24 8))).setCell ⟨W.heap.size,1,.none⟩ (.slice q E.length cs)).setCell ⟨W.heap.size+1,0,.none⟩ .nilIface)=W9 at *
  have l0:W.heap.size<W9.heap.size:=zC (x:=⟨W.heap.size,0,.none⟩) s0
  have l1:W.heap.size+1<W9.heap.size:=zC (x:=⟨W.heap.size+1,0,.none⟩) s2
  exact⟨.tuple #[.agg #[.int .u64 (num B 24 8),.slice q E.length cs],.nilIface],by simp[results,Tryz.results85,go_sem,s0,s1,s2,l0,l1],.inr ⟨h1,_,E,rfl,hE,hS9,hln,bq⟩⟩
end
section
open Go.RowKit
def ePg (S:List Sg):Int:=match S.getLast? with|none=>0|some l=>(l.va+l.mem+4095)/4096
theorem ePg_bound (E:List (Sg×Value)) (h:∀ x∈E,Gd x.1):0<=ePg (E.map (·.1))∧ePg (E.map (·.1))<=262144:=by
 unfold ePg
 rw[List.getLast?_map]
 cases hl:E.getLast? with
 |none=>simp
 |some l=>
  have hg:=h l (List.mem_of_getLast? hl)
  have h1:=hg.v
  have h2:=hg.m
  have h3:=hg.e
  simp only[Option.map_some]
  omega
theorem below_any (va fl mem:Int) (dp:Option Addr) (dn dc:Nat) (w:World) (hv:0<=va) (hm:0<=mem) (he:va+mem<=1073741824) :
  Calls Tryz.prog 147 #[.agg #[.int .u64 va,.int .u32 fl,.slice dp dn dc,.int .u64 mem]] w fun e w'=>e = .returned (.int .i64 ((va+mem+4095)/4096))∧Below w.heap.size w w':=by
 have h1:IntKind.u64.wrap (va+mem)=va+mem:=by rw[IntKind.wrap_u64];omega
 have h2:IntKind.u64.wrap (va+mem+4096)=va+mem+4096:=by rw[IntKind.wrap_u64];omega
 have h3:IntKind.u64.wrap (va+mem+4096-1)=va+mem+4095:=by rw[IntKind.wrap_u64];omega
 go_enter Tryz.func147,Tryz.ntmps147
 go_wp2
 go_ret
 exact⟨rfl,zB.alloc zL _⟩
theorem addr_any (k:Int) (w:World) (h:0<=k∧k<=1000000):Calls Tryz.prog 142 #[.int .i64 k] w fun e w'=>e = .returned (.int .u64 (k*4096))∧w'=w:=by
 have h1:IntKind.u64.wrap k=k:=by rw[IntKind.wrap_u64];omega
 have h2:IntKind.u64.wrap (k*4096)=k*4096:=by rw[IntKind.wrap_u64];omega
 go_enter Tryz.func142,Tryz.ntmps142
 go_wp2
 go_ret
 exact⟨rfl,rfl⟩
theorem nodes_any (k:Int) (w:World) (h:0<=k∧k<=1000000):Calls Tryz.prog 117 #[.int .i64 k] w fun e w'=>e = .returned (.int .i64 (4+(k+511)/512))∧w'=w:=by
 go_enter Tryz.func117,Tryz.ntmps117
 go_wp2
 go_ret
 exact⟨rfl,rfl⟩
theorem guard_any {w:World} {X c:Nat} {q:Option Addr} {E:List (Sg×Value)} {B:Nat->Int} (h:Segs w X (.slice q E.length c) E B) (h0:E ≠ []) (hl:E.length<=8) (en sp:Int) (dp:Option Addr) (dn dc:Nat) :
  Calls Tryz.prog 97 #[.agg #[.int .u64 en,.slice q E.length c,.slice dp dn dc,.int .u64 sp]] w fun e w'=>e = .returned (.int .i64 (ePg (E.map (·.1))))∧Below w.heap.size w w':=by
 obtain⟨q',c',e',hc1,hc2,hq⟩:=own_form h.own
 cases e'
 obtain⟨l,hlast⟩:∃ l,E.getLast? = some l:=⟨E.getLast h0,List.getLast?_eq_some_getLast h0⟩
 have hn:0<E.length:=List.length_pos_iff.2 h0
 obtain⟨m,hm⟩:∃ m,E.length=m+1:=⟨E.length-1,by omega⟩
 have hg:E[m]? = some l:=by
  have:E.length-1=m:=by omega
  rw[<-this,<-List.getLast?_eq_getElem?]
  exact hlast
 have hP:ePg (E.map (·.1))=(l.1.va+l.1.mem+4095)/4096:=by simp[ePg,List.getLast?_map,hlast]
 obtain⟨f0,f1,f2,f3⟩:=flatE_get E _ l hg
 obtain⟨g,rfl,a0⟩:=own_cell h.own f0 hn (by omega)
 obtain⟨g1,e1,a1⟩:=own_cell h.own f1 hn (by omega)
 obtain⟨g2,e2,a2⟩:=own_cell h.own f2 hn (by omega)
 obtain⟨g3,e3,a3⟩:=own_cell h.own f3 hn (by omega)
 simp only[Option.some.injEq,Addr.mk.injEq,and_true] at e1 e2 e3
 subst e1 e2 e3
 have hgd:=h.gd l (List.mem_of_getElem? hg)
 obtain⟨ldq,ldc,hld,_⟩:=own_form (h.dat l (List.mem_of_getElem? hg))
 rw[hld] at a2
 have HB:Hid (Below w.heap.size w (w.alloc (.cells #[.int .u64 en,.slice (some ⟨g,0,.none⟩) E.length c,.slice dp dn dc,.int .u64 sp] 92))):=zB.alloc zL _
 have b0:=(HB.out.cell (zC a0)).trans a0
 have b1:=(HB.out.cell (zC a1)).trans a1
 have b2:=(HB.out.cell (zC a2)).trans a2
 have b3:=(HB.out.cell (zC a3)).trans a3
 have hv:=hgd.v
 have hmm:=hgd.m
 have he:=hgd.e
 have c1:=fun wx=>below_any l.1.va l.1.fl l.1.mem ldq l.1.sz ldc wx hv hmm he
 rw[hP,hm]
 rw[hm] at HB b0 b1 b2 b3
 have hm8:m<8:=by omega
 have gi:(m:Int)<m+1:=by omega
 clear h hlast hg f0 f1 f2 f3 a0 a1 a2 a3 hld hgd hP hl hc1 hn hm h0 hq
 go_enter Tryz.func97,Tryz.ntmps97
 go_wp2_with (go_at_call 147;refine(c1 _).mono ?_;rintro _ w1 ⟨rfl,hb1⟩)
 go_ret
 exact⟨rfl,HB.out.trans (hb1.mono HB.out.size)⟩
theorem pages_any {w:World} {X c:Nat} {q:Option Addr} {E:List (Sg×Value)} {B:Nat->Int} (h:Segs w X (.slice q E.length c) E B) (h0:E ≠ []) (hl:E.length<=8) (en sp:Int) (dp:Option Addr) (dn dc:Nat) :
  Calls Tryz.prog 90 #[.agg #[.int .u64 en,.slice q E.length c,.slice dp dn dc,.int .u64 sp]] w fun e w'=>e = .returned (.int .i64 (ePg (E.map (·.1))+2))∧Below w.heap.size w w':=by
 have HB:Hid (Below w.heap.size w (w.alloc (.cells #[.int .u64 en,.slice q E.length c,.slice dp dn dc,.int .u64 sp] 92))):=zB.alloc zL _
 have c1:=guard_any (h.below HB.out) h0 hl en sp dp dn dc
 have hb:=ePg_bound E h.gd
 clear h
 go_enter Tryz.func90,Tryz.ntmps90
 go_wp2_with (go_at_call 97;refine c1.mono ?_;rintro _ w1 ⟨rfl,hb1⟩)
 go_ret
 exact⟨rfl,HB.out.trans (hb1.mono HB.out.size)⟩
theorem stackAt_any {w:World} {X c:Nat} {q:Option Addr} {E:List (Sg×Value)} {B:Nat->Int} (h:Segs w X (.slice q E.length c) E B) (h0:E ≠ []) (hl:E.length<=8) (en sp:Int) (dp:Option Addr) (dn dc:Nat) :
  Calls Tryz.prog 89 #[.agg #[.int .u64 en,.slice q E.length c,.slice dp dn dc,.int .u64 sp]] w fun e w'=>e = .returned (.int .u64 ((ePg (E.map (·.1))+1)*4096))∧Below w.heap.size w w':=by
 have HB:Hid (Below w.heap.size w (w.alloc (.cells #[.int .u64 en,.slice q E.length c,.slice dp dn dc,.int .u64 sp] 92))):=zB.alloc zL _
 have c1:=pages_any (h.below HB.out) h0 hl en sp dp dn dc
 have hb:=ePg_bound E h.gd
 clear h
 go_enter Tryz.func89,Tryz.ntmps89
 go_wp2_with first|(go_at_call 90;refine c1.mono ?_;rintro _ w1 ⟨rfl,hb1⟩)|(go_at_call 142;refine(addr_any _ _ (by omega)).mono ?_;rintro _ _ ⟨rfl,rfl⟩)
 go_ret
 refine⟨congrArg Ending.returned (congrArg (Value.int .u64) ?_),HB.out.trans (hb1.mono HB.out.size)⟩
 omega
theorem demandP_any {w:World} {X c:Nat} {q:Option Addr} {E:List (Sg×Value)} {B:Nat->Int} (h:Segs w X (.slice q E.length c) E B) (h0:E ≠ []) (hl:E.length<=8) (en sp:Int) (dp:Option Addr) (dn dc:Nat) :
  Calls Tryz.prog 42 #[.agg #[.int .u64 en,.slice q E.length c,.slice dp dn dc,.int .u64 sp]] w fun e w'=>e = .returned (.int .i64 (ePg (E.map (·.1))+6+(ePg (E.map (·.1))+513)/512))∧Below w.heap.size w w':=by
 have HB:Hid (Below w.heap.size w (w.alloc (.cells #[.int .u64 en,.slice q E.length c,.slice dp dn dc,.int .u64 sp] 92))):=zB.alloc zL _
 have c1:=pages_any (h.below HB.out) h0 hl en sp dp dn dc
 have hb:=ePg_bound E h.gd
 clear h
 go_enter Tryz.func42,Tryz.ntmps42
 go_wp2_with (go_at_call 90;refine c1.mono ?_;rintro _ w1 ⟨rfl,hb1⟩)
 go_ret
 refine⟨congrArg Ending.returned (congrArg (Value.int .i64) ?_),HB.out.trans (hb1.mono HB.out.size)⟩
 omega
theorem pagesQ_any {w:World} {X c:Nat} {q:Option Addr} {E:List (Sg×Value)} {B:Nat->Int} (h:Segs w X (.slice q E.length c) E B) (h0:E ≠ []) (hl:E.length<=8) (en:Int) :
  Calls Tryz.prog 65 #[.agg #[.int .u64 en,.slice q E.length c]] w fun e w'=>e = .returned (.int .i64 (ePg (E.map (·.1))))∧Below w.heap.size w w':=by
 obtain⟨q',c',e',hc1,hc2,hq⟩:=own_form h.own
 cases e'
 obtain⟨l,hlast⟩:∃ l,E.getLast? = some l:=⟨E.getLast h0,List.getLast?_eq_some_getLast h0⟩
 have hn:0<E.length:=List.length_pos_iff.2 h0
 obtain⟨m,hm⟩:∃ m,E.length=m+1:=⟨E.length-1,by omega⟩
 have hg:E[m]? = some l:=by
  have:E.length-1=m:=by omega
  rw[<-this,<-List.getLast?_eq_getElem?]
  exact hlast
 have hP:ePg (E.map (·.1))=(l.1.va+l.1.mem+4095)/4096:=by simp[ePg,List.getLast?_map,hlast]
 obtain⟨f0,f1,f2,f3⟩:=flatE_get E _ l hg
 obtain⟨g,rfl,a0⟩:=own_cell h.own f0 hn (by omega)
 obtain⟨g1,e1,a1⟩:=own_cell h.own f1 hn (by omega)
 obtain⟨g2,e2,a2⟩:=own_cell h.own f2 hn (by omega)
 obtain⟨g3,e3,a3⟩:=own_cell h.own f3 hn (by omega)
 simp only[Option.some.injEq,Addr.mk.injEq,and_true] at e1 e2 e3
 subst e1 e2 e3
 have hgd:=h.gd l (List.mem_of_getElem? hg)
 obtain⟨ldq,ldc,hld,_⟩:=own_form (h.dat l (List.mem_of_getElem? hg))
 rw[hld] at a2
 have HB:Hid (Below w.heap.size w (w.alloc (.cells #[.int .u64 en,.slice (some ⟨g,0,.none⟩) E.length c] 41))):=zB.alloc zL _
 have b0:=(HB.out.cell (zC a0)).trans a0
 have b1:=(HB.out.cell (zC a1)).trans a1
 have b2:=(HB.out.cell (zC a2)).trans a2
 have b3:=(HB.out.cell (zC a3)).trans a3
 have hv:=hgd.v
 have hmm:=hgd.m
 have he:=hgd.e
 rw[hP,hm]
 rw[hm] at HB b0 b1 b2 b3
 have hm8:m<8:=by omega
 have gi:(m:Int)<m+1:=by omega
 have h1:IntKind.u64.wrap (l.1.va+l.1.mem)=l.1.va+l.1.mem:=by rw[IntKind.wrap_u64];omega
 have h2:IntKind.u64.wrap (l.1.va+l.1.mem+4096)=l.1.va+l.1.mem+4096:=by rw[IntKind.wrap_u64];omega
 have h3:IntKind.u64.wrap (l.1.va+l.1.mem+4096-1)=l.1.va+l.1.mem+4095:=by rw[IntKind.wrap_u64];omega
 clear h hlast hg f0 f1 f2 f3 a0 a1 a2 a3 hld hgd hP hl hc1 hn hm h0 hq
 go_enter Tryz.func65,Tryz.ntmps65
 go_wp2
 go_ret
 exact⟨rfl,HB.out.alloc HB.out.size _⟩
end
section
open Go.RowKit Go.Shelf
theorem nat_and15 (y:Nat):y &&& 18446744073709551600=y%18446744073709551616/16*16:=by
 apply Nat.eq_of_testBit_eq
 intro i
 rw[Nat.testBit_and,show 18446744073709551600=(2 ^ 60-1) <<< 4 by decide,show y%18446744073709551616/16*16=((y%2 ^ 64) >>> 4) <<< 4 by simp[Nat.shiftRight_eq_div_pow,Nat.shiftLeft_eq],Nat.testBit_shiftLeft,Nat.testBit_shiftLeft,Nat.testBit_two_pow_sub_one,Nat.testBit_shiftRight,Nat.testBit_mod_two_pow]
 by_cases h:4<=i
 ·rw[show 4+(i-4)=i by omega]
  by_cases h2:i<64
  ·simp[h,h2,show i-4<60 by omega]
  ·simp[h,h2,show ¬ i-4<60 by omega]
 ·simp[h]
theorem andNot15 (x:Int) (h:-4611686018427387904<=x∧x<4611686018427387904):bits .andNot .i64 x 15=x/16*16:=by
 show IntKind.i64.wrap ((BitVec.ofInt 64 x &&& ~~~BitVec.ofInt 64 15).toNat:Int)=_
 have h1:(BitVec.ofInt 64 15).toNat=15:=by decide
 rw[BitVec.toNat_and,BitVec.toNat_not,h1,show 2 ^ 64-1-15=18446744073709551600 by decide,nat_and15,BitVec.toNat_ofInt]
 rw[IntKind.wrap_i64]
 omega
def U8 (bs:List Int):Prop:=∀ b∈bs,0<=b∧b<256
def l8 (x:Int) (n:Nat):List Int:=(List.range n).map fun i=>x/256 ^ i%256
theorem l8_succ (x:Int) (n:Nat):l8 x (n+1)=l8 x n ++ [x/256 ^ n%256]:=by
 unfold l8
 rw[List.range_succ,List.map_append]
 rfl
theorem l8_len (x:Int) (n:Nat):(l8 x n).length=n:=by simp[l8]
theorem l8_get (x:Int) {n i:Nat} (h:i<n):(l8 x n)[i]? = some (x/256 ^ i%256):=by
 unfold l8
 rw[List.getElem?_map,List.getElem?_range h]
 rfl
theorem div_next (x:Int) (i:Nat):x/256 ^ i/256=x/256 ^ (i+1):=by
 have h:(0:Int)<=256 ^ i:=Int.pow_nonneg (by decide)
 rw[Int.pow_succ,Int.ediv_ediv,if_neg (fun e=>by omega),Int.sub_zero]
def ApP (w:World) (base n:Nat) (bs':List Int) (e:Ending) (w':World):Prop:=∃ q' c',e = .returned (.slice q' n c')∧w'.ownsRow base 5 1 (.slice q' n c') n (by8 bs')∧U8 bs'∧Below base w w'
theorem appendA_any {w:World} {base n c:Nat} {q:Option Addr} {bs:List Int} (h:w.ownsRow base 5 1 (.slice q n c) n (by8 bs)) (hU:U8 bs) (hbase:base<=w.heap.size) (hn:n<1000) (x:Int) (hx:0<=x∧x<18446744073709551616) :
  Calls Tryz.prog 141 #[.slice q n c,.int .u64 x] w (ApP w base (n+8) (bs ++ l8 x 8)):=by
 obtain⟨i3,z3,hi3,hz3,hs3,hb3,hzs3⟩:=byte_info
 have HI:Hid (Tryz.prog.info? 5=some i3∧i3.zero=some z3∧i3.size=1∧i3.bytes=1∧z3.cells.size=1):=⟨hi3,hz3,hs3,hb3,hzs3⟩
 clear hi3 hz3 hs3 hb3 hzs3
 have HO:Hid (w.ownsRow base 5 1 (.slice q n c) n (by8 bs)∧U8 bs):=⟨h,hU⟩
 clear h hU
 go_enter Tryz.func141,Tryz.ntmps141
 go_wp2_with fail
 go_loopw [0,1,5] (fun v a k wr=>∃ i:Nat,i<=8∧k = .int .i64 i∧∃ q' c' bs' y,v = .slice q' (n+i) c'∧a = .int .u64 y∧Hid (0<=y∧y<18446744073709551616)∧Hid (wr.ownsRow base 5 1 (.slice q' (n+i) c') (n+i) (by8 bs')∧U8 bs'∧Below base w wr)∧Hid (bs'=bs ++ l8 x i∧y=x/256 ^ i)) (fun _ _ k _=>(8-intOf k).toNat)
 case atStart=>exact⟨0,by omega,rfl,q,c,bs,x,rfl,rfl,hx,⟨HO.out.1,HO.out.2,Below.refl _ _⟩,by simp[l8],by simp⟩
 case round=>
  obtain⟨i,hi,rfl,q',c',bs',y,rfl,rfl,HY,HR,HE⟩:=hrel
  by_cases hlt:i<8
  ·have g0:(i:Int)<8:=by omega
   have hy1:=HY.out.1
   have hy2:=HY.out.2
   have z1:=HR.out.2.2.size
   have hw8:IntKind.u8.wrap y=y%256:=by simp only[IntKind.wrap,IntKind.bits,IntKind.signed];simp
   go_wp2_with (first|(at_builtin;refine wpList_append_own _ rfl _ _ 24 rfl base 5 i3 z3 1 1 Tryz.underlying24 HI.out.1 HI.out.2.1 HI.out.2.2.1 HI.out.2.2.2.1 HI.out.2.2.2.2 (by decide) (.slice q' (n+i) c') (n+i) (by8 bs') rfl (HR.out.1.alloc _) ⟨wr.heap.size,0,.none⟩ 1 1 (by8 [y%256]) rfl rfl (le_cell1_new _ _ _) (by8_one _) ?c4 ?c5 ?c6 ?_)|go_in)
   case c4=>simp only[maxLen];omega
   case c5=>omega
   case c6=>simp only[World.size_alloc];omega
   intro v' w2 own' grow fb
   clear fb
   obtain⟨p',c2,rfl⟩:=one_slice own'
   have HW:Hid (w2.ownsRow base 5 1 (.slice p' (n+(i+1)) c2) (n+(i+1)) (by8 (bs' ++ [y%256]))∧U8 (bs' ++ [y%256])∧Below base w w2):=by
    refine⟨?_,?_,below_append HR.out.2.2 _ grow (by omega) (own_block HR.out.1)⟩
    ·rw[by8_app]
     exact own'
    ·intro b hb
     rcases List.mem_append.1 hb with hb|hb
     ·exact HR.out.2.1 b hb
     ·rw[List.mem_singleton] at hb
      omega
   clear own' grow
   go_wp2
   exact⟨⟨i+1,by omega,rfl,p',c2,_,y/256,rfl,rfl,⟨by omega,by omega⟩,HW.out,by rw[HE.out.1,HE.out.2,l8_succ,List.append_assoc],by rw[HE.out.2,div_next]⟩,by simp only[intOf];omega⟩
  ·obtain rfl:i=8:=by omega
   go_wp2
   go_ret
   exact⟨_,_,rfl,by rw[<-HE.out.1];exact HR.out.1,by rw[<-HE.out.1];exact HR.out.2.1,HR.out.2.2⟩
theorem cell_heap {w w':World} {b:Nat} (h:w'.heap[b]? = w.heap[b]?) (o:Nat) (x):w'.cell? ⟨b,o,x⟩=w.cell? ⟨b,o,x⟩:=by
 unfold World.cell?
 simp only[h]
theorem frozen_heap {w w':World} {b:Nat} (h:w'.heap[b]? = w.heap[b]?) (o:Nat) (x):w'.frozen? ⟨b,o,x⟩=w.frozen? ⟨b,o,x⟩:=by
 unfold World.frozen?
 simp only[h]
theorem elem22 (W:World):(sizeOf (Tryz.prog.elem 24)).run Tryz.prog W = .ok 1 W:=by
 have e:Tryz.prog.elem 24=5:=by kernel_rfl
 obtain⟨i,z,hi,_,hs,_⟩:=byte_info
 rw[e]
 simp[sizeOf,typeInfo,hi,hs]
theorem cut_from (p:Option Addr) (n c:Nat) (x:Int) (W:World) (h:0<=x∧x<n∧x<c∧n<=c):(Instr.slice 24 (.slice p n c) (some (.int .i64 x)) none none).run Tryz.prog W = .ok (.slice (p.map (·.add x.toNat)) (n-x.toNat) (c-x.toNat)) W:=by
 rw[run_slice_l W 24 p n c (by kernel_rfl) .i64 x (by omega) (by omega),elem22]
 have:¬ c=x.toNat:=by omega
 simp[Result.andThen,sliced,this]
structure Pgs (w:World) (s:Nat) (R:Nat->Int) (pl:Int):Prop where
 pg:(∀ i,0<=R i∧R i<256)∧w.rowIs (s+1) 5 4096 (fun i=>.int .u8 (R i))
 pp:w.cell? ⟨s+2,0,.none⟩=some (.slice (some ⟨s+1,0,.none⟩) 4096 4096)
 pc:w.cell? ⟨s+3,0,.none⟩=some (.int .i64 pl)
 pf:w.frozen? ⟨s+3,0,.none⟩=false
structure Lyd (s:Nat) (w w':World):Prop where
 bel:Below (s+1) w w'
 sz:w'.heap.size=w.heap.size
 oth:∀ k,k≠s+1->k≠s+3->w'.heap[k]? = w.heap[k]?
theorem setCells_other (b k:Nat) (h:k≠b):∀ (vs:List Value) (o:Nat) (w:World),(w.setCells b o vs).heap[k]? = w.heap[k]?
 |[],o,w=>rfl
 |v :: r,o,w=>(setCells_other b k h r (o+1) _).trans (Below.heap_setCell _ _ _ _ (fun e=>h e))
theorem setCells_size (b:Nat):∀ (vs:List Value) (o:Nat) (w:World),(w.setCells b o vs).heap.size=w.heap.size
 |[],o,w=>rfl
 |v :: r,o,w=>(setCells_size b r (o+1) _).trans (by simp[World.setCell])
theorem own_same {w w':World} {B e k n:Nat} {v:Value} {xs:List Value} (h:w.ownsRow B e k v n xs) (hk:∀ g,B<=g->w'.heap[g]? = w.heap[g]?):w'.ownsRow B e k v n xs:=by
 refine⟨h.1,?_⟩
 rcases h.2 with h0|⟨g,cap,cur,hv,h1,h2,h3⟩
 ·exact .inl h0
 ·exact .inr ⟨g,cap,cur,hv,h1,(hk g h1).trans h2,h3⟩
def layR (R:Nat->Int) (m:Nat) (t:Bs):Nat->Int:=fun j=>if m<=j∧j<m+t.length then ((t.getD (j-m) 0).toNat:Int) else R j
def LyP (w:World) (s:Nat) (R:Nat->Int) (t:Bs) (x:Int) (e:Ending) (w':World):Prop:=e = .returned (.bool (decide (0<=x)))∧Pgs w' s (if 0<=x then layR R (x/16*16).toNat t else R) (x/16*16)∧Lyd s w w'
set_option maxRecDepth 10000 in
theorem lay_any {w:World} {s:Nat} {R:Nat->Int} {pl:Int} (h:Pgs w s R pl) (hpl:0<=pl∧pl<=4096) (t:Bs) (ht:t.length<=400000) (z:Int) (hz:1<=z∧z<=8) :
  Calls Tryz.prog 140 #[.string ⟨t.toArray⟩,.int .i64 z,.pointer (some ⟨s+3,0,.none⟩),.pointer (some ⟨s+2,0,.none⟩)] w (LyP w s R t (pl-t.length-z)):=by
 obtain⟨⟨hR,hpg⟩,hpp,hpc,hpf⟩:=h
 have hsz:(⟨t.toArray⟩:ByteArray).size=t.length:=by simp[ByteArray.size]
 have hb:=andNot15 (pl-t.length-z) (by omega)
 by_cases hneg:pl-t.length-z<0
 ·have hq:(pl-t.length-z)/16*16<0:=by omega
  obtain⟨y,hy⟩:∃ y,y=(pl-t.length-z)/16*16:=⟨_,rfl⟩
  rw[<-hy] at hb hq
  have HH:Hid (LyP w s R t (pl-t.length-z) (.returned (.bool false)) (w.setCell ⟨s+3,0,.none⟩ (.int .i64 y))):=by
   refine⟨by simp;omega,?_,⟨zB.setCell (by simp) _,by simp[World.setCell],fun k h1 h2=>Below.heap_setCell _ _ _ _ (fun e=>h2 e)⟩⟩
   rw[<-hy,if_neg (by omega)]
   exact⟨⟨hR,hpg.setOther (by simp) _⟩,(zO (by simp)).trans hpp,World.cell?_setCell_same' _ _ _ (by rw[hpc];rfl),by rw[World.frozen?_setCell];exact hpf⟩
  have HY:Hid (y=(pl-t.length-z)/16*16):=hy
  clear hpg hy hsz hR
  go_enter Tryz.func140,Tryz.ntmps140
  go_wp2
  go_ret
  exact HH.out
 ·obtain⟨m,hm⟩:∃ m:Nat,(pl-t.length-z)/16*16=m:=⟨((pl-t.length-z)/16*16).toNat,by omega⟩
  rw[hm] at hb
  have hm1:m+t.length<4096:=by omega
  obtain⟨w1,hw1⟩:∃ w1,w1=w.setCell ⟨s+3,0,.none⟩ (.int .i64 m):=⟨_,rfl⟩
  have P1:w1.rowIs (s+1) 5 4096 (fun i=>.int .u8 (R i)):=by rw[hw1];exact hpg.setOther (by simp) _
  have c2:w1.cell? ⟨s+2,0,.none⟩=some (.slice (some ⟨s+1,0,.none⟩) 4096 4096):=by rw[hw1];exact(zO (by simp)).trans hpp
  have c3:w1.cell? ⟨s+3,0,.none⟩=some (.int .i64 m):=by rw[hw1];exact World.cell?_setCell_same' _ _ _ (by rw[hpc];rfl)
  have c4:w1.frozen? ⟨s+3,0,.none⟩=false:=by rw[hw1,World.frozen?_setCell];exact hpf
  have hcp:=run_copy_string (P:=Tryz.prog) w1 24 9 3 5 (s+1) m (4096-m) (4096-m) ⟨t.toArray⟩ Tryz.underlying24 (fun w=>by kernel_rfl) (by rw[hsz];omega) (fun j hj=>by rw[P1.cell (by rw[hsz] at hj;omega)];rfl) (fun j _=>P1.frozen _)
  rw[hsz] at hcp
  have HH:Hid (LyP w s R t (pl-t.length-z) (.returned (.bool true)) (w1.setCells (s+1) m ((⟨t.toArray⟩:ByteArray).data.toList.map fun x=>Value.int .u8 (x.toNat:Int)))):=by
   refine⟨by simp;omega,?_,⟨?_,?_,fun k h1 h2=>?_⟩⟩
   ·rw[if_pos (by omega),hm,Int.toNat_natCast]
    refine⟨⟨fun j=>?_,(rowIs_setCells _ _ _ _ P1).congr (fun j hj=>?_)⟩,?_,?_,?_⟩
    ·unfold layR
     split
     ·have:=(t.getD (j-m) 0).toNat_lt
      omega
     ·exact hR j
    ·unfold layR
     simp only[List.length_map]
     by_cases e:m<=j∧j<m+t.length
     ·rw[if_pos e,if_pos (by simpa using e)]
      have hjl:j-m<t.length:=by omega
      simp[List.getD_eq_getElem?_getD,hjl]
     ·rw[if_neg e,if_neg (by simpa using e)]
    ·rw[<-c2];exact cell_heap (setCells_other _ _ (by omega) _ _ _) _ _
    ·rw[<-c3];exact cell_heap (setCells_other _ _ (by omega) _ _ _) _ _
    ·rw[<-c4];exact frozen_heap (setCells_other _ _ (by omega) _ _ _) _ _
   ·exact Go.below_setCells zL _ _ _ (hw1 ▸ zB.setCell (by simp) _)
   ·rw[setCells_size,hw1];simp[World.setCell]
   ·rw[setCells_other _ _ h1,hw1];exact Below.heap_setCell _ _ _ _ (fun e=>h2 e)
  have hm0:(m:Int)<4096:=by omega
  obtain⟨y,hy⟩:∃ y:Int,y=m:=⟨_,rfl⟩
  have hy0:0<=y:=by omega
  have hcut:=cut_from (some ⟨s+1,0,.none⟩) 4096 4096 y (w.setCell ⟨s+3,0,.none⟩ (.int .i64 y)) (by omega)
  have ey:y.toNat=m:=by omega
  rw[ey] at hcut
  rw[<-hy] at hb hm0 hw1
  have HM:Hid ((pl-t.length-z)/16*16=m∧y=m):=⟨hm,hy⟩
  clear ey hy
  clear hneg hpg hsz hm P1 c3 c4 hm1 hR
  subst hw1
  clear c2
  go_enter Tryz.func140,Tryz.ntmps140
  go_wp2
  go_ret
  exact HH.out
end
end Go.Proofs.YtabnipbdbnmmpaaGreatDoor
