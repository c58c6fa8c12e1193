import Derived.Test.YtabnipbdbnmmpaaGreatDoorLd01
import Derived.Test.YtabnipbdbnmmpaaGreatDoorLd11
import Derived.Test.YtabnipbdbnmmpaaGreatDoorLd08
import Derived.Test.YtabnipbdbnmmpaaGreatDoorLd10
import Derived.Deep.LoopGhost
import Derived.RangeFuncNested
import Derived.RangeFuncBound
import Derived.RangeFuncCalls
import Derived.RangeFuncLeaves
import Derived.RangeFuncFrom
import Derived.Shelf.Abstract
import Derived.OwnWalkIn
import Derived.TacticsInMore
import Derived.LoopNIn
import Derived.LoopIn
set_option linter.unusedVariables false
set_option linter.unusedSimpArgs false
set_option maxHeartbeats 8000000
namespace Go.Proofs.YtabnipbdbnmmpaaGreatDoor
namespace Rm
open Go.RowKit
def nP (x:Nat):Nat:=if x<=512 then (x-1)*262144 else (x-513)/512*262144+(x-513)%512*512
def nK (x:Nat):Nat:=if x<=512 then 3*nP x else 3*nP x+1
def nB (x:Nat):Int×Int:=(vaP (nP x),if x<=512 then 2 else 1)
theorem nP_1 (P:Nat) (h:P<134217728):nP (x1 P)=P/262144*262144:=by
 unfold nP x1
 rw[if_pos (by omega),Nat.add_sub_cancel_left]
theorem nP_0 (P:Nat) (h:P<134217728):nP (x0 P)=P/512*512:=by
 unfold nP x0
 rw[if_neg (by omega)]
 omega
theorem nK_1 (P:Nat) (h:P<134217728):nK (x1 P)=3*(P/262144*262144):=by
 have:=nP_1 P h
 unfold nK
 rw[if_pos (by unfold x1;omega),this]
theorem nK_0 (P:Nat) (h:P<134217728):nK (x0 P)=3*(P/512*512)+1:=by
 have:=nP_0 P h
 unfold nK
 rw[if_neg (by unfold x0;omega),this]
theorem nB_1 (P:Nat) (h:P<134217728):nB (x1 P)=(vaP P-vaP P%spn 2,2):=by
 unfold nB
 rw[nP_1 P h,if_pos (by unfold x1;omega),spn2]
 unfold vaP
 congr 1
 omega
theorem nB_0 (P:Nat) (h:P<134217728):nB (x0 P)=(vaP P-vaP P%spn 1,1):=by
 unfold nB
 rw[nP_0 P h,if_neg (by unfold x0;omega),spn1]
 unfold vaP
 congr 1
 omega
theorem node_form (x:Nat) (h0:x≠0) (hx:x<262657):∃ P,P<134217728∧nP x=P∧((x=x1 P∧P%262144=0∧nK x=3*P)∨(x=x0 P∧P%512=0∧nK x=3*P+1)):=by
 by_cases h:x<=512
 ·refine⟨(x-1)*262144,by omega,by unfold nP;rw[if_pos h],.inl ⟨by unfold x1;omega,by omega,by unfold nK nP;rw[if_pos h,if_pos h]⟩⟩
 ·refine⟨(x-513)/512*262144+(x-513)%512*512,by omega,by unfold nP;rw[if_neg h],.inr ⟨by unfold x0;omega,by omega,by unfold nK nP;rw[if_neg h,if_neg h]⟩⟩
theorem nK_inj {x y:Nat} (hx:x≠0) (hy:y≠0) (h:nK x=nK y):x=y:=by
 unfold nK nP at h
 split at h<;>split at h<;>omega
section
variable {N:Nat} {L:List Nat} {B:Nat->Int} {F:Nat->Option Nat} {lf:Nat->Nat->Int}
def TI (F:Nat->Option Nat) (c:Nat) (tm:Int->Option (Int×Int)):Prop:=∀ x f,x≠0->F x=some f->tm (ad f)=if nK x<c then some (nB x) else none
theorem ev_node (h:PT N L B F lf) {x f:Nat} (h0:x≠0) (hf:F x=some f):ev F lf (nK x)≠none:=by
 obtain⟨P,hP,_,⟨h1,h2,h3⟩|⟨h1,h2,h3⟩⟩:=node_form x h0 (h.dom x (by rw[hf];simp))
 ·unfold ev
  rw[h3,if_pos (by omega),show 3*P/3=P by omega,if_pos h2,<-h1,hf]
  simp
 ·unfold ev
  have hu:F (x1 P)≠none:=by
   have:=h.up (x1 P) (P/512%512) (by unfold x1;omega) (by omega)
   have e:ch (x1 P) (P/512%512)=x0 P:=by unfold ch x1 x0;rw[if_neg (by omega)];omega
   rw[e,<-h1,hf] at this
   exact this (by simp)
  cases hg:F (x1 P) with
  |none=>exact absurd hg hu
  |some g=>
   rw[h3,if_neg (by omega),if_pos (by omega),show (3*P+1)/3=P by omega,if_pos h2,hg,<-h1,hf]
   simp
theorem TI.skip (h:PT N L B F lf) {c d:Nat} {tm:Int->Option (Int×Int)} (t:TI F c tm) (hcd:c<=d) (hn:∀ j,c<=j->j<d->ev F lf j=none):TI F d tm:=by
 intro x f h0 hf
 rw[t x f h0 hf]
 by_cases h1:nK x<c
 ·rw[if_pos h1,if_pos (by omega)]
 ·rw[if_neg h1]
  by_cases h2:nK x<d
  ·exact absurd (hn _ (by omega) h2) (ev_node h h0 hf)
  ·rw[if_neg h2]
theorem ad_inj {f g:Nat} (h:ad f=ad g):f=g:=by unfold ad at h;omega
theorem TI.put (h:PT N L B F lf) {c d x f:Nat} {tm:Int->Option (Int×Int)} (t:TI F c tm) (hcd:c<=d) (hn:∀ j,c<=j->j<d->ev F lf j=none) (h0:x≠0) (hf:F x=some f) (hd:nK x=d):TI F (d+1) (setM tm (ad f) (nB x)):=by
 intro y g h1 hg
 unfold setM
 by_cases e:ad g=ad f
 ·rw[if_pos e]
  obtain rfl:g=f:=ad_inj e
  obtain rfl:y=x:=h.inj y x g hg hf
  rw[if_pos (by omega)]
 ·rw[if_neg e,(t.skip h hcd hn) y g h1 hg]
  have hne:nK y≠d:=fun e2=>by
   obtain rfl:y=x:=nK_inj h1 h0 (by omega)
   rw[hf] at hg
   injection hg with hg
   exact e (by rw[hg])
  by_cases h2:nK y<d
  ·rw[if_pos h2,if_pos (by omega)]
  ·rw[if_neg h2,if_neg (by omega)]
theorem rt_some {r:Nat} (hr:F 0=some r):rtF F=r:=by unfold rtF;rw[hr];rfl
theorem lookT_2 (h:PT N L B F lf) (fol:Int->Int->Bool) {r:Nat} (hr:F 0=some r) (va:Int) (hn:F (y1 va)=none):lookT N L B fol (ad r) va=⟨0,0,st (ad r) va 2,2,0,0⟩:=by
 unfold lookT
 have e:evn B r (ix va 2).toNat=0:=by
  have:=h.ep 0 r (by omega) hr (i2 va) (i2_lt va)
  rw[show ch 0 (i2 va)=y1 va from rfl,hn] at this
  exact this
 rw[wkT_stop2 (h.ndB hr) (by rw[ent_evn,e,kd_zero];omega),ent_evn,e,kd_zero]
theorem lookT_2p (h:PT N L B F lf) (hN:N<=4096) (fol:Int->Int->Bool) {r g:Nat} (hr:F 0=some r) (va:Int) (hg:F (y1 va)=some g) (hf:fol 2 (ptr (some g))=false):lookT N L B fol (ad r) va=⟨0,0,st (ad r) va 2,2,ptr (some g),3⟩:=by
 unfold lookT
 have hgN:=(h.held _ _ hg).2.1
 have e:evn B r (ix va 2).toNat=ptr (some g):=by
  have:=h.ep 0 r (by omega) hr (i2 va) (i2_lt va)
  rw[show ch 0 (i2 va)=y1 va from rfl,hg] at this
  exact this
 rw[wkT_stop2 (h.ndB hr) (by rw[ent_evn,e,hf];simp),ent_evn,e,ptr_kd hgN hN 2 (.inr rfl)]
theorem lookT_1 (h:PT N L B F lf) (hN:N<=4096) (fol:Int->Int->Bool) {r g:Nat} (hr:F 0=some r) (va:Int) (hg:F (y1 va)=some g) (hf:fol 2 (ptr (some g))=true) (hn:F (y0 va)=none):lookT N L B fol (ad r) va=⟨0,st (ad g) va 1,st (ad r) va 2,1,0,0⟩:=by
 unfold lookT
 have hgN:=(h.held _ _ hg).2.1
 have e:evn B r (ix va 2).toNat=ptr (some g):=by
  have:=h.ep 0 r (by omega) hr (i2 va) (i2_lt va)
  rw[show ch 0 (i2 va)=y1 va from rfl,hg] at this
  exact this
 have e1:evn B g (ix va 1).toNat=0:=by
  have:=h.ep (y1 va) g (y1_le va).1 hg (i1 va) (i1_lt va)
  rw[show ch (y1 va) (i1 va)=y0 va from rfl,hn] at this
  exact this
 rw[wkT_go2 (h.ndB hr) (by rw[ent_evn,e];exact⟨ptr_kd hgN hN 2 (.inr rfl),hf⟩),ent_evn,e,ptr_ad hgN hN,wkT_stop1 (h.ndB hg) (by rw[ent_evn,e1,kd_zero];omega),ent_evn,e1,kd_zero]
theorem lookT_1p (h:PT N L B F lf) (hN:N<=4096) (fol:Int->Int->Bool) {r g q:Nat} (hr:F 0=some r) (va:Int) (hg:F (y1 va)=some g) (hf:fol 2 (ptr (some g))=true) (hq:F (y0 va)=some q) (hf1:fol 1 (ptr (some q))=false):lookT N L B fol (ad r) va=⟨0,st (ad g) va 1,st (ad r) va 2,1,ptr (some q),3⟩:=by
 unfold lookT
 have hgN:=(h.held _ _ hg).2.1
 have hqN:=(h.held _ _ hq).2.1
 have e:evn B r (ix va 2).toNat=ptr (some g):=by
  have:=h.ep 0 r (by omega) hr (i2 va) (i2_lt va)
  rw[show ch 0 (i2 va)=y1 va from rfl,hg] at this
  exact this
 have e1:evn B g (ix va 1).toNat=ptr (some q):=by
  have:=h.ep (y1 va) g (y1_le va).1 hg (i1 va) (i1_lt va)
  rw[show ch (y1 va) (i1 va)=y0 va from rfl,hq] at this
  exact this
 rw[wkT_go2 (h.ndB hr) (by rw[ent_evn,e];exact⟨ptr_kd hgN hN 2 (.inr rfl),hf⟩),ent_evn,e,ptr_ad hgN hN,wkT_stop1 (h.ndB hg) (by rw[ent_evn,e1,hf1];simp),ent_evn,e1,ptr_kd hqN hN 1 (.inl rfl)]
theorem lookT_0 (h:PT N L B F lf) (hN:N<=4096) (fol:Int->Int->Bool) {r g q:Nat} (hr:F 0=some r) (va:Int) (hg:F (y1 va)=some g) (hf:fol 2 (ptr (some g))=true) (hq:F (y0 va)=some q) (hf1:fol 1 (ptr (some q))=true):lookT N L B fol (ad r) va=⟨st (ad q) va 0,st (ad g) va 1,st (ad r) va 2,0,lf (y0 va) (i0 va),kd (lf (y0 va) (i0 va)) 0⟩:=by
 unfold lookT
 have hgN:=(h.held _ _ hg).2.1
 have hqN:=(h.held _ _ hq).2.1
 have e:evn B r (ix va 2).toNat=ptr (some g):=by
  have:=h.ep 0 r (by omega) hr (i2 va) (i2_lt va)
  rw[show ch 0 (i2 va)=y1 va from rfl,hg] at this
  exact this
 have e1:evn B g (ix va 1).toNat=ptr (some q):=by
  have:=h.ep (y1 va) g (y1_le va).1 hg (i1 va) (i1_lt va)
  rw[show ch (y1 va) (i1 va)=y0 va from rfl,hq] at this
  exact this
 have e0:evn B q (ix va 0).toNat=lf (y0 va) (i0 va):=h.el (y0 va) q (y0_ge va) hq (i0 va) (i0_lt va)
 rw[wkT_go2 (h.ndB hr) (by rw[ent_evn,e];exact⟨ptr_kd hgN hN 2 (.inr rfl),hf⟩),ent_evn,e,ptr_ad hgN hN,wkT_go1 (h.ndB hg) (by rw[ent_evn,e1];exact⟨ptr_kd hqN hN 1 (.inl rfl),hf1⟩),ent_evn,e1,ptr_ad hqN hN,wkT_stop0 (h.ndB hq),ent_evn,e0]
end
end Rm
namespace Rm
open Go.RowKit
theorem hs_odd (e:Int) (he:0<=e∧e<18446744073709551616):hs e 1=decide (e%2=1):=by
 unfold hs
 have h1:bits .and .u64 e ((1:Nat):Int)=(((e%1024).toNat &&& 1:Nat):Int):=and_low e he 1 (by omega)
 rw[show ((1:Nat):Int)=1 from rfl] at h1
 rw[h1,Nat.and_one_is_mod]
 by_cases h:e%2=1
 ·have:(e%1024).toNat%2=1:=by omega
  rw[this]
  simp[h]
 ·have:(e%1024).toNat%2=0:=by omega
  rw[this]
  simp[h]
theorem num_odd (B:Nat->Int) (o:Nat):num B o 8%2=B o%2:=by
 simp only[num,Nat.add_zero]
 omega
theorem kd_odd {e:Int} (h:kd e 0=2):hs e 1=true:=by
 unfold kd at h
 split at h
 ·cases h
 ·rename_i hn
  cases hh:hs e 1
  ·exact absurd hh hn
  ·rfl
theorem ft_none (B:Nat->Int) (g:Nat) (k:Nat):∀ (j i:Nat),j<=i->i<j+k->(i:Int)<ft B g k j->hs (B (g*4096+i*8)) 1=false:=by
 induction k with
 |zero=>
  intro j i h1 h2 h3
  clear h3
  omega
 |succ k ih=>
  intro j i h1 h2 h3
  have e:ft B g (k+1) j=if hs (B (g*4096+j*8)) 1=true then (j:Int) else ft B g k (j+1):=rfl
  rw[e] at h3
  clear e
  split at h3
  ·omega
  ·rename_i hh
   by_cases e:i=j
   ·subst e
    simpa using hh
   ·exact ih (j+1) i (by clear h3;omega) (by clear h3;omega) h3
theorem evn_odd {B:Nat->Int} (hB:∀ i,0<=B i∧B i<256) (g i:Nat) (h:hs (B (g*4096+i*8)) 1=false):evn B g i%2=0:=by
 have hb:=hB (g*4096+i*8)
 rw[hs_odd _ (by omega)] at h
 unfold evn
 rw[num_odd]
 simp at h
 omega
section
variable {N:Nat} {L:List Nat} {B:Nat->Int} {F:Nat->Option Nat} {lf:Nat->Nat->Int}
theorem ptr_odd {f:Nat} (hf:f<N) (hN:N<=4096):ptr (some f)%2=1:=by
 show toP (ad f) 0%2=1
 rw[toP_val _ _ (by unfold ad;omega) (by omega) (by omega)]
 unfold ad
 omega
theorem PT.noP (h:PT N L B F lf) (hN:N<=4096) (hB:∀ i,0<=B i∧B i<256) {x g i:Nat} (hx:x<=512) (hg:F x=some g) (hi:i<512) (hz:hs (B (g*4096+i*8)) 1=false):F (ch x i)=none:=by
 have e:=h.ep x g hx hg i hi
 have o:=evn_odd hB g i hz
 cases hc:F (ch x i) with
 |none=>rfl
 |some f=>
  rw[hc] at e
  have:=ptr_odd (h.held _ _ hc).2.1 hN
  omega
theorem PT.noL (h:PT N L B F lf) (hB:∀ i,0<=B i∧B i<256) {y g i:Nat} (hy:513<=y) (hg:F y=some g) (hi:i<512) (hz:hs (B (g*4096+i*8)) 1=false):lf y i=0:=by
 have e:=h.el y g hy hg i hi
 have o:=evn_odd hB g i hz
 rcases h.lv y i with h1|⟨h1,h2,h3⟩
 ·exact h1
 ·have:=kd_odd h1
  rw[hs_odd _ ⟨h2,h3⟩] at this
  simp at this
  omega
end
end Rm
namespace Rm
open Go.RowKit
attribute [local irreducible] eM
def StA (F:Nat->Option Nat) (lf:Nat->Nat->Int) (c:Nat) (tm:Int->Option (Int×Int)) (pt:Pt):Prop:=
 ∃ d x f,c<=d∧d<eM∧(d+1)/3=c/3∧x≠0∧F x=some f∧nK x=d∧nB x=(vaP (c/3)-vaP (c/3)%spn pt.l,pt.l)∧(pt.l=1∨pt.l=2)∧pt.k=3∧pt.e=ptr (some f)∧tm (ad f)=none∧(∀ j,c<=j->j<d->ev F lf j=none)∧ev F lf d=some ⟨vaP (c/3)-vaP (c/3)%spn pt.l,pt.l,pt⟩
def StB (F:Nat->Option Nat) (lf:Nat->Nat->Int) (c:Nat) (pt:Pt):Prop:=
 pt.l=0∧pt.k=2∧c<=3*(c/3)+2∧(∀ j,c<=j->j<3*(c/3)+2->ev F lf j=none)∧ev F lf (3*(c/3)+2)=some ⟨vaP (c/3),0,pt⟩
def StC (N:Nat) (L:List Nat) (B:Nat->Int) (F:Nat->Option Nat) (lf:Nat->Nat->Int) (c:Nat) (pt:Pt):Prop:=
 ∃ (g:Nat) (a:Int) (P':Nat),pt.k=0∧((pt.l=0∧a=pt.a0)∨(pt.l=1∧a=pt.a1)∨(pt.l=2∧a=pt.a2))∧a-a%4096=ad g∧(0<=a∧a<18446744073709551616)∧ndB N L (ad g)=true∧fi (ad g)=g ∧
  vaP (c/3)-vaP (c/3)%spn (pt.l+1)+ft B g (512-((ix (vaP (c/3)) pt.l).toNat+1)) ((ix (vaP (c/3)) pt.l).toNat+1)*spn pt.l=vaP P'∧c<3*P'∧3*P'<=eM∧(∀ j,c<=j->j<3*P'->ev F lf j=none)
section
variable {N:Nat} {L:List Nat} {B:Nat->Int} {F:Nat->Option Nat} {lf:Nat->Nat->Int}
theorem fol2 {tm:Int->Option (Int×Int)} {c P g:Nat} (hP:P<134217728) (t:TI F c tm) (hg:F (x1 P)=some g) (hN:N<=4096) (hgN:g<N):folT tm (vaP P) 2 (ptr (some g))=decide (nK (x1 P)<c):=by
 unfold folT
 rw[ptr_ad hgN hN,t (x1 P) g (by unfold x1;omega) hg]
 split
 ·rename_i h
  simp only[Option.getD_some,nB_1 P hP,decide_true,h]
 ·rename_i h
  simp[h]
theorem fol1 {tm:Int->Option (Int×Int)} {c P q:Nat} (hP:P<134217728) (t:TI F c tm) (hq:F (x0 P)=some q) (hN:N<=4096) (hqN:q<N):folT tm (vaP P) 1 (ptr (some q))=decide (nK (x0 P)<c):=by
 unfold folT
 rw[ptr_ad hqN hN,t (x0 P) q (by unfold x0;omega) hq]
 split
 ·rename_i h
  simp only[Option.getD_some,nB_0 P hP,decide_true,h]
 ·rename_i h
  simp[h]
theorem st_nd (g N:Nat) (hg:g<N) (hN:N<=4096) (va l:Int):st (ad g) va l-st (ad g) va l%4096=ad g∧0<=st (ad g) va l∧st (ad g) va l<18446744073709551616:=by
 unfold st ad
 have:=ix_b va l
 omega
theorem fi_ad (g:Nat):fi (ad g)=g:=by unfold fi ad;omega
theorem pass2 (h:PT N L B F lf) (hN:N<=4096) (hB:∀ i,0<=B i∧B i<256) {r c:Nat} (hr:F 0=some r) (hc:c<eM) (hn:F (x1 (c/3))=none) (pt:Pt) (hpt:pt=⟨0,0,st (ad r) (vaP (c/3)) 2,2,0,0⟩):StC N L B F lf c pt:=by
 have hP:c/3<134217728:=by rw[eM_val] at hc;omega
 have hrN:=h.held 0 r hr
 obtain⟨s1,s2,s3⟩:=st_nd r N hrN.2.1 hN (vaP (c/3)) 2
 have hi:(ix (vaP (c/3)) 2).toNat=c/3/262144:=vaP_i2 _ hP
 have hfb:=ft_b B r (512-(c/3/262144+1)) (c/3/262144+1) (by omega)
 have hfn:=ft_none B r (512-(c/3/262144+1)) (c/3/262144+1)
 obtain⟨nx,hnx⟩:∃ nx:Nat,ft B r (512-(c/3/262144+1)) (c/3/262144+1)=nx:=⟨(ft B r (512-(c/3/262144+1)) (c/3/262144+1)).toNat,by omega⟩
 rw[hnx] at hfb hfn
 rw[hpt]
 refine⟨r,_,nx*262144,rfl,.inr (.inr ⟨rfl,rfl⟩),s1,⟨s2,s3⟩,h.ndB hr,fi_ad r,?_,by omega,by rw[eM_val];omega,fun j h1 h2=>?_⟩
 ·show vaP (c/3)-vaP (c/3)%spn 3+ft B r (512-((ix (vaP (c/3)) 2).toNat+1)) ((ix (vaP (c/3)) 2).toNat+1)*spn 2=_
  rw[hi,hnx,spn3,spn2]
  unfold vaP
  omega
 ·refine ev_none2 ?_
  by_cases e:j/3/262144=c/3/262144
  ·unfold x1 at hn ⊢
   rw[e]
   exact hn
  ·have:=h.noP hN hB (x:=0) (by omega) hr (i:=j/3/262144) (by omega) (hfn (j/3/262144) (by omega) (by omega) (by omega))
   unfold ch at this
   rw[if_pos rfl] at this
   exact this
theorem pass1 (h:PT N L B F lf) (hN:N<=4096) (hB:∀ i,0<=B i∧B i<256) {r c g:Nat} (hc:c<eM) (hg:F (x1 (c/3))=some g) (hk:nK (x1 (c/3))<c) (hn:F (x0 (c/3))=none) (pt:Pt) (hpt:pt=⟨0,st (ad g) (vaP (c/3)) 1,st (ad r) (vaP (c/3)) 2,1,0,0⟩):StC N L B F lf c pt:=by
 have hP:c/3<134217728:=by rw[eM_val] at hc;omega
 have hgN:=h.held _ g hg
 obtain⟨s1,s2,s3⟩:=st_nd g N hgN.2.1 hN (vaP (c/3)) 1
 have hi:(ix (vaP (c/3)) 1).toNat=c/3/512%512:=vaP_i1 _ hP
 have hfb:=ft_b B g (512-(c/3/512%512+1)) (c/3/512%512+1) (by omega)
 have hfn:=ft_none B g (512-(c/3/512%512+1)) (c/3/512%512+1)
 obtain⟨nx,hnx⟩:∃ nx:Nat,ft B g (512-(c/3/512%512+1)) (c/3/512%512+1)=nx:=⟨(ft B g (512-(c/3/512%512+1)) (c/3/512%512+1)).toNat,by omega⟩
 rw[hnx] at hfb hfn
 rw[hpt]
 rw[nK_1 _ hP] at hk
 refine⟨g,_,c/3/262144*262144+nx*512,rfl,.inr (.inl ⟨rfl,rfl⟩),s1,⟨s2,s3⟩,h.ndB hg,fi_ad g,?_,by omega,by rw[eM_val];omega,fun j h1 h2=>?_⟩
 ·show vaP (c/3)-vaP (c/3)%spn 2+ft B g (512-((ix (vaP (c/3)) 1).toNat+1)) ((ix (vaP (c/3)) 1).toNat+1)*spn 1=_
  rw[hi,hnx,spn2,spn1]
  unfold vaP
  omega
 ·have hj2:j/3/262144=c/3/262144:=by omega
  refine ev_none1 ?_ (by omega)
  by_cases e:j/3/512%512=c/3/512%512
  ·unfold x0 at hn ⊢
   rw[e,hj2]
   exact hn
  ·have:=h.noP hN hB (x:=x1 (c/3)) (by unfold x1;omega) hg (i:=j/3/512%512) (by omega) (hfn (j/3/512%512) (by omega) (by omega) (by omega))
   unfold ch x1 at this
   rw[if_neg (by omega)] at this
   unfold x0
   rw[hj2]
   rw[show 513+512*(c/3/262144)+j/3/512%512=513+512*(1+c/3/262144-1)+j/3/512%512 by omega]
   exact this
theorem pass0 (h:PT N L B F lf) (hN:N<=4096) (hB:∀ i,0<=B i∧B i<256) {r c g q:Nat} (hc:c<eM) (hg:F (x1 (c/3))=some g) (hk:nK (x1 (c/3))<c) (hq:F (x0 (c/3))=some q) (hk1:nK (x0 (c/3))<c) (hz:lf (x0 (c/3)) (c/3%512)=0) (pt:Pt) (hpt:pt=⟨st (ad q) (vaP (c/3)) 0,st (ad g) (vaP (c/3)) 1,st (ad r) (vaP (c/3)) 2,0,0,0⟩):StC N L B F lf c pt:=by
 have hP:c/3<134217728:=by rw[eM_val] at hc;omega
 have hqN:=h.held _ q hq
 obtain⟨s1,s2,s3⟩:=st_nd q N hqN.2.1 hN (vaP (c/3)) 0
 have hi:(ix (vaP (c/3)) 0).toNat=c/3%512:=vaP_i0 _ hP
 have hfb:=ft_b B q (512-(c/3%512+1)) (c/3%512+1) (by omega)
 have hfn:=ft_none B q (512-(c/3%512+1)) (c/3%512+1)
 obtain⟨nx,hnx⟩:∃ nx:Nat,ft B q (512-(c/3%512+1)) (c/3%512+1)=nx:=⟨(ft B q (512-(c/3%512+1)) (c/3%512+1)).toNat,by omega⟩
 rw[hnx] at hfb hfn
 rw[hpt]
 rw[nK_1 _ hP] at hk
 rw[nK_0 _ hP] at hk1
 refine⟨q,_,c/3/512*512+nx,rfl,.inl ⟨rfl,rfl⟩,s1,⟨s2,s3⟩,h.ndB hq,fi_ad q,?_,by omega,by rw[eM_val];omega,fun j h1 h2=>?_⟩
 ·show vaP (c/3)-vaP (c/3)%spn 1+ft B q (512-((ix (vaP (c/3)) 0).toNat+1)) ((ix (vaP (c/3)) 0).toNat+1)*spn 0=_
  rw[hi,hnx,spn1,spn0]
  unfold vaP
  omega
 ·have hj2:j/3/512=c/3/512:=by omega
  have hx0:x0 (j/3)=x0 (c/3):=by unfold x0;omega
  refine ev_none0 ?_ (by omega)
  rw[hx0]
  by_cases e:j/3%512=c/3%512
  ·rw[e]
   exact hz
  ·exact h.noL hB (by unfold x0;omega) hq (by omega) (hfn (j/3%512) (by omega) (by omega) (by omega))
theorem step_tour (h:PT N L B F lf) (hN:N<=4096) (hB:∀ i,0<=B i∧B i<256) {r c:Nat} (hr:F 0=some r) (hc:c<eM) {tm:Int->Option (Int×Int)} (t:TI F c tm) (pt:Pt) (hpt:pt=lookT N L B (folT tm (vaP (c/3))) (ad r) (vaP (c/3))):StA F lf c tm pt∨StB F lf c pt∨StC N L B F lf c pt:=by
 have hP:c/3<134217728:=by rw[eM_val] at hc;omega
 have e1:=vaP_y1 _ hP
 have e0:=vaP_y0 _ hP
 have ei:=vaP_i0 _ hP
 have hrt:=rt_some hr
 cases hg:F (x1 (c/3)) with
 |none=>exact .inr (.inr (pass2 h hN hB hr hc hg pt (by rw[hpt,lookT_2 h _ hr _ (by rw[e1];exact hg)])))
 |some g=>
  have hgN:=(h.held _ _ hg).2.1
  have f2:=fol2 hP t hg hN hgN
  have k2:=nK_1 _ hP
  by_cases hk:nK (x1 (c/3))<c
  ·rw[decide_eq_true hk] at f2
   cases hq:F (x0 (c/3)) with
   |none=>exact .inr (.inr (pass1 h hN hB (r:=r) hc hg hk hq pt (by rw[hpt,lookT_1 h hN _ hr _ (by rw[e1];exact hg) f2 (by rw[e0];exact hq)])))
   |some q=>
    have hqN:=(h.held _ _ hq).2.1
    have f1:=fol1 hP t hq hN hqN
    have k1:=nK_0 _ hP
    by_cases hk1:nK (x0 (c/3))<c
    ·rw[decide_eq_true hk1] at f1
     have hl:=lookT_0 h hN _ hr (vaP (c/3)) (by rw[e1];exact hg) f2 (by rw[e0];exact hq) f1
     rw[e0,ei] at hl
     rcases h.lv (x0 (c/3)) (c/3%512) with hz|⟨hz,_,_⟩
     ·rw[hz,kd_zero] at hl
      exact .inr (.inr (pass0 h hN hB (r:=r) hc hg hk hq hk1 hz pt (by rw[hpt,hl])))
     ·rw[hz] at hl
      refine .inr (.inl ?_)
      rw[<-hpt] at hl
      refine⟨by rw[hl],by rw[hl],by omega,fun j h1 h2=>?_,?_⟩
      ·unfold ev
       have hj:j/3=c/3:=by omega
       rw[hj]
       split
       ·rw[if_neg (by omega)]
       ·rw[if_pos (by omega),if_neg (by omega)]
      ·unfold ev
       rw[if_neg (by omega),if_neg (by omega),show (3*(c/3)+2)/3=c/3 by omega,hg,hq,hl,hrt]
       have hne:lf (x0 (c/3)) (c/3%512)≠0:=fun e=>by rw[e,kd_zero] at hz;omega
       simp[hne]
    ·rw[decide_eq_false hk1] at f1
     have hl:=lookT_1p h hN _ hr (vaP (c/3)) (by rw[e1];exact hg) f2 (by rw[e0];exact hq) f1
     rw[<-hpt] at hl
     refine .inl ⟨3*(c/3)+1,x0 (c/3),q,by omega,by rw[eM_val];omega,by omega,by unfold x0;omega,hq,by omega,?_,by rw[hl];exact .inl rfl,by rw[hl],by rw[hl],?_,fun j h1 h2=>?_,?_⟩
     ·rw[nB_0 _ hP,hl]
     ·rw[t _ q (by unfold x0;omega) hq,if_neg hk1]
     ·unfold ev
      have hj:j/3=c/3:=by omega
      rw[hj,if_pos (by omega),if_neg (by omega)]
     ·have hva:vaP (c/3)-vaP (c/3)%spn 1=vaP (c/3):=by rw[spn1];unfold vaP;omega
      unfold ev
      rw[if_neg (by omega),if_pos (by omega),show (3*(c/3)+1)/3=c/3 by omega,if_pos (by omega),hg,hq,hl,hrt]
      simp[hva]
  ·rw[decide_eq_false hk] at f2
   have hl:=lookT_2p h hN _ hr (vaP (c/3)) (by rw[e1];exact hg) f2
   rw[<-hpt] at hl
   have hc3:c=3*(c/3)∧c/3%262144=0:=by omega
   refine .inl ⟨c,x1 (c/3),g,Nat.le_refl _,hc,by omega,by unfold x1;omega,hg,by omega,?_,by rw[hl];exact .inr rfl,by rw[hl],by rw[hl],?_,fun j h1 h2=>by omega,?_⟩
   ·rw[nB_1 _ hP,hl]
   ·rw[t _ g (by unfold x1;omega) hg,if_neg hk]
   ·have hva:vaP (c/3)-vaP (c/3)%spn 2=vaP (c/3):=by rw[spn2];unfold vaP;omega
    unfold ev
    rw[if_pos (by omega),if_pos hc3.2,hg,hl,hrt]
    simp[hva]
end
end Rm
namespace Rm
open Go.RowKit Go.Shelf
attribute [local go_sem] Oper.semAt_some
attribute [local irreducible] eM evs
theorem room_of_none {F:Fence} (hd:F.depth=none) (k:Nat):F.room k:=fun d h=>by rw[hd] at h;cases h
theorem round_anyT {F:Fence} (hd:F.depth=none) {m m':Nat} {P:Program} {l:Nat} {f:FuncId} {tmps:Array Value} {assign body:Code} {w:World} {R:Ending->World->Prop}
  (h:RoundIn F m P l f tmps assign body w R):RoundIn F m' P l f tmps assign body w R:=⟨h.1,fun c cs _=>h.2 c cs (room_of_none hd _)⟩
theorem yield_anyT {F:Fence} (hd:F.depth=none) {m:Nat} (m':Nat) {P:Program} {l:Nat} {args:Array Value} {W:World} {R:Ending->World->Prop} (h:YieldAt F m P l args W R):YieldAt F m' P l args W R:=by
 obtain⟨fn,tmps,assign,body,hy,hR⟩:=h
 exact⟨fn,tmps,assign,body,hy,round_anyT hd hR⟩
def evE (x:Ev):Array Value:=#[.agg #[.int .u64 x.va,.int .i64 x.l],x.p.val]
structure Mv (Good:Nat->World->Prop) (W W':World):Prop where
 os:W'.os=W.os
 tape:W'.tape=W.tape
 output:W'.output=W.output
 size:W.heap.size<=W'.heap.size
 block:∀ k,k<W.heap.size->¬ Good k W->W'.heap[k]? = W.heap[k]?
theorem Mv.below {Good:Nat->World->Prop} {W W':World} (h:Below W.heap.size W W'):Mv Good W W':=⟨h.os,h.tape,h.output,h.size,fun k hk _=>h.block k hk⟩
structure Gd {α:Type} (Good:Nat->World->Prop) (Kp:World->World->Prop) (J:List α -> World->Prop):Prop where
 keep:∀ W W' g o,Kp W W'->Good g W->W.heap[g]? = some o->W'.heap[g]? = some o∧Good g W'
 move:∀ s W W',J s W->Mv Good W W'->J s W'
 mono:∀ s W W' g,J s W->Mv Good W W'->Good g W->Good g W'
 fresh:∀ s W W' g,J s W->Mv Good W W'->W.heap.size<=g->Good g W'
structure TS (w:World) (T p b mm N:Nat) (B:Nat->Int) (L:List Nat) (F:Nat->Option Nat) (r m:Nat) (tm:Int->Option (Int×Int)) (n c:Nat):Prop where
 ram:Ram w p b mm N B L
 tour:Tour w T (.pointer (some ⟨p,0,.none⟩)) (ad r) (vaP (c/3)) (.map (some m))
 map:Tm w m tm n
 nc:n<=c
 ti:TI F c tm
theorem TS.below {w w':World} {T p b mm N:Nat} {B:Nat->Int} {L:List Nat} {F:Nat->Option Nat} {r m:Nat} {tm:Int->Option (Int×Int)} {n c:Nat} (h:TS w T p b mm N B L F r m tm n c) (k:Below w.heap.size w w'):TS w' T p b mm N B L F r m tm n c:=
 ⟨h.ram.below k,h.tour.below k,h.map.below k,h.nc,h.ti⟩
theorem TS.keep {w w':World} {T p b mm N:Nat} {B:Nat->Int} {L:List Nat} {F:Nat->Option Nat} {r m:Nat} {tm:Int->Option (Int×Int)} {n c:Nat} (h:TS w T p b mm N B L F r m tm n c) (h1:w'.heap[p]? = w.heap[p]?) (h2:w'.heap[b]? = w.heap[b]?) (h3:w'.heap[mm]? = w.heap[mm]?) (h4:w'.heap[T]? = w.heap[T]?) (h5:w'.heap[m]? = w.heap[m]?):TS w' T p b mm N B L F r m tm n c:=by
 refine⟨⟨h.ram.mem.keep h1 h2 h3,h.ram.nd,h.ram.lt,h.ram.thr⟩,?_,?_,h.nc,h.ti⟩
 ·obtain⟨c0,c1,c2,c3,f2⟩:=h.tour
  exact⟨(World.cell?_of_block (a:=⟨T,0,.none⟩) h4).trans c0,(World.cell?_of_block (a:=⟨T,1,.none⟩) h4).trans c1,(World.cell?_of_block (a:=⟨T,2,.none⟩) h4).trans c2,(World.cell?_of_block (a:=⟨T,3,.none⟩) h4).trans c3,(World.frozen?_of_block (a:=⟨T,2,.none⟩) h4).trans f2⟩
 ·obtain⟨D,⟨es,cl,hb,rr⟩,h7⟩:=h.map.own
  exact⟨D,⟨es,cl,h5.trans hb,rr⟩,h7⟩
theorem nK_mod (x:Nat):nK x%3≠2:=by unfold nK;split<;>omega
theorem TI.leaf {F:Nat->Option Nat} {c:Nat} {tm:Int->Option (Int×Int)} (t:TI F c tm) (hc:c%3=2):TI F (c+1) tm:=by
 intro x f h0 hf
 rw[t x f h0 hf]
 have:=nK_mod x
 by_cases h:nK x<c
 ·rw[if_pos h,if_pos (by omega)]
 ·rw[if_neg h,if_neg (by omega)]
def EI (T p b mm N:Nat) (B:Nat->Int) (L:List Nat) (F:Nat->Option Nat) (lf:Nat->Nat->Int) (r m:Nat) (J:List Ev->World->Prop) (Good:Nat->World->Prop) (k:Nat) (wr:World):Prop:=
 ∃ c nn tmx pre,(eM=k+c)∧TS wr T p b mm N B L F r m tmx nn c∧Good T wr∧Good m wr∧J pre wr∧pre ++ evs F lf c=evs F lf 0
theorem vaP_end:vaP (eM/3)=549755813888:=by rw[eM_val];rfl
set_option maxRecDepth 100000 in
theorem each_in {N p b mm r:Nat} {B:Nat->Int} {L:List Nat} {F:Nat->Option Nat} {lf:Nat->Nat->Int} (hP:PT N L B F lf) (hr:F 0=some r) (hN:N<=4096) (hB:∀ i,0<=B i∧B i<256) (n l:Nat) (J Jx:List Ev->World->Prop) (Good:Nat->World->Prop) (Kp:World->World->Prop) (gd:Gd Good Kp J)
  (hK:∀ W W',Kp W W'->W'.heap[p]? = W.heap[p]? ∧ W'.heap[b]? = W.heap[b]? ∧ W'.heap[mm]? = W.heap[mm]? ∧ W.heap.size<=W'.heap.size)
  (hY:∀ k pre x W,J pre W->pre ++ [x] <+: evs F lf 0->YieldAt Fence.wide k Tryz.prog l (evE x) W fun e W'=>(e = .returned (.bool true)∧J (pre ++ [x]) W'∧Kp W W')∨(e = .returned (.bool false)∧Jx (pre ++ [x]) W'))
  (W:World) (T m:Nat) (tm:Int->Option (Int×Int)) (ts:TS W T p b mm N B L F r m tm 0 0) (hgT:Good T W∧Good m W∧T≠m) (hap:(T≠p∧T≠b∧T≠mm)∧m≠p∧m≠b∧m≠mm) (h0:J [] W) :
  CallsIn Fence.wide n Tryz.prog 193 #[.pointer (some ⟨T,0,.none⟩),.func (.yield l) #[] #[]] W fun e W'=>(∃ v,e = .returned v)∧(J (evs F lf 0) W'∨∃ pre,pre <+: evs F lf 0∧Jx pre W'):=by
 have HP:Hid (PT N L B F lf∧F 0=some r∧N<=4096∧(∀ i,0<=B i∧B i<256)∧Gd Good Kp J):=⟨hP,hr,hN,hB,gd⟩
 have HY:Hid (∀ k pre x W,J pre W->pre ++ [x] <+: evs F lf 0->YieldAt Fence.wide k Tryz.prog l (evE x) W fun e W'=>(e = .returned (.bool true)∧J (pre ++ [x]) W'∧Kp W W')∨(e = .returned (.bool false)∧Jx (pre ++ [x]) W')):=hY
 have HK:Hid (∀ W W',Kp W W'->W'.heap[p]? = W.heap[p]? ∧ W'.heap[b]? = W.heap[b]? ∧ W'.heap[mm]? = W.heap[mm]? ∧ W.heap.size<=W'.heap.size):=hK
 have H0:Hid (EI T p b mm N B L F lf r m J Good eM W):=⟨0,0,tm,[],rfl,ts,hgT.1,hgT.2.1,h0,rfl⟩
 have hTm:T≠m:=hgT.2.2
 have HAP:Hid ((T≠p∧T≠b∧T≠mm)∧m≠p∧m≠b∧m≠mm):=hap
 have c78:=fun W=>span_any 3 (by omega) W
 rw[spn3] at c78
 have hrb:0<=ad r∧ad r<18446744073709551616:=by have:=hP.held 0 r hr;unfold ad;omega
 clear hP hr hN hB gd hY hK ts hgT h0 hap
 refine callsIn_of_wp Tryz.func193 rfl trivial ?_ rfl
 refine wpIn_wide.2 ?_
 simp only[Tryz.ntmps193,List.size_toArray,List.length_cons,List.length_nil,Nat.reduceAdd,Nat.reduceSub,Array.replicate_succ,Array.replicate_zero,List.push_toArray,List.append_toArray,List.nil_append,List.cons_append]
 go_wp2_with fail
 go_loopg [] eM (fun k wr=>Hid (EI T p b mm N B L F lf r m J Good k wr))
 case atStart=>exact H0
 case round=>
  obtain⟨c,nn,tmx,pre,hkc,ts,hg1,hg2,hJ,hpre⟩:=hrel.out
  have HI:Hid (eM=gk+c∧TS wr T p b mm N B L F r m tmx nn c∧Good T wr∧Good m wr∧J pre wr∧pre ++ evs F lf c=evs F lf 0):=⟨hkc,ts,hg1,hg2,hJ,hpre⟩
  have hvb:0<=vaP (c/3)∧vaP (c/3)<=549755813888∧(c<eM->vaP (c/3)<549755813888):=by
   have:=eM_val
   unfold vaP
   omega
  obtain⟨va,hva⟩:∃ va,va=vaP (c/3):=⟨_,rfl⟩
  have kS:wr.drew.cell? ⟨T,2,.none⟩=some (.int .u64 va):=by rw[hva];exact ts.tour.c2
  rw[<-hva] at hvb
  have HV:Hid (va=vaP (c/3)):=hva
  obtain⟨hv0,hv1,hv2⟩:=hvb
  have B0:Hid (Below wr.heap.size wr wr.drew):=zB.drew
  clear ts hg1 hg2 hJ hpre hrel hva
  by_cases hce:c<eM
  ·have hlt:=hv2 hce
   clear hv2 hv1
   go_upto_region 0 with fail
   refine wp_region_held_drew (S:=fun U=>U.cell? ⟨T,2,.none⟩=some (.int .u64 va)) (by kernel_rfl) kS (fun hHeld=>?_)
   refine aT 0 (.pointer (some ⟨T,0,.none⟩)) rfl ?_
   simp only[xX]
   refine aT 1 (.pointer (some ⟨T,0,.none⟩)) rfl ?_
   simp only[xX]
   refine aT 2 (.pointer (some ⟨T,2,.none⟩)) rfl ?_
   simp only[xX]
   refine aT 3 (.int .u64 va) rfl ?_
   simp only[xX]
   refine zR 4 rfl (fun K hK=>?_)
   go_simp
   go_at_call 110
   refine(c78 _).mono ?_
   rintro _ w1 ⟨rfl,e1⟩
   obtain rfl:wr.drew=w1:=e1.symm
   refine hK.out _ _ kS (fun hHeld=>?_)
   clear hK K
   try simp only[xX]
   refine aT 5 (.bool true) rfl ?_
   simp only[xX]
   refine wpAnyH_done (by kernel_rfl) ?_ _
   obtain⟨W0,hW0⟩:∃ W0,W0=wr.drew:=⟨_,rfl⟩
   rw[<-hW0] at B0 kS ⊢
   clear hW0
   obtain⟨pt,hpt⟩:∃ pt,pt=lookT N L B (folT tmx va) (ad r) va:=⟨_,rfl⟩
   have hst:=step_tour HP.out.1 HP.out.2.2.1 HP.out.2.2.2.1 HP.out.2.1 hce HI.out.2.1.ti pt (by rw[hpt,HV.out])
   have t0:TS W0 T p b mm N B L F r m tmx nn c:=HI.out.2.1.below B0.out
   have c81:∀ U,Below W0.heap.size W0 U->Calls Tryz.prog 211 #[.pointer (some ⟨p,0,.none⟩),.int .u64 (ad r),.int .u64 va,.pointer (some ⟨T,0,.none⟩)] U fun e W1=>e = .returned pt.val∧Below U.heap.size U W1:=fun U hU=>by
    have tU:=t0.below hU
    rw[hpt]
    refine walkT_any tU.ram (folT tmx va) _ (fun l a e W2 hl he h2=>?_) (ad r) va hrb (by omega)
    have t2:=tU.below h2
    have t3:=t2.tour
    rw[<-HV.out] at t3
    exact meetT_any t3 t2.map (by omega) l a e hl he
   have HST:Hid (StA F lf c tmx pt∨StB F lf c pt∨StC N L B F lf c pt):=hst
   have hbd:pt.l=0∨pt.l=1∨pt.l=2:=by
    rcases hst with⟨d,x,f,_,_,_,_,_,_,_,h,_⟩|⟨h,_⟩|⟨g,a,P',_,h,_⟩
    ·omega
    ·exact .inl h
    ·omega
   clear hst hpt
   obtain⟨a0,a1,a2,lv,e,k⟩:=pt
   simp only[Pt.val] at c81
   simp only at hbd
   have k0:=t0.tour.c0
   have k1:=t0.tour.c1
   have hT0:T<W0.heap.size:=zC k0
   have HT0:Hid (TS W0 T p b mm N B L F r m tmx nn c):=t0
   clear t0
   go_wp2_with fail
   go_cut [4] (fun s4 W=>∃ Pp,s4 = .pointer (some ⟨Pp,0,.none⟩)∧Hid (C6 W Pp (.int .u64 a0) (.int .u64 a1) (.int .u64 a2) (.int .i64 lv) (.int .u64 e) (.int .i64 k)∧Below W0.heap.size W0 W∧W0.heap.size<=Pp))
   case first=>
    have kT:Tour W0.drew T (.pointer (some ⟨p,0,.none⟩)) (ad r) va (.map (some m))∧Below W0.heap.size W0 W0.drew:=by
     refine⟨?_,zB.drew⟩
     have:=HT0.out.tour
     rw[<-HV.out] at this
     exact this.below zB.drew
    have kT0:Tour W0 T (.pointer (some ⟨p,0,.none⟩)) (ad r) va (.map (some m)):=by
     have:=HT0.out.tour
     rw[<-HV.out] at this
     exact this
    refine wp_region_noPanic ?_
    refine wp_region_held_drew (S:=fun U=>Tour U T (.pointer (some ⟨p,0,.none⟩)) (ad r) va (.map (some m))∧Below W0.heap.size W0 U) (by kernel_rfl) kT (fun hHeld=>?_)
    refine aT 0 (.pointer (some ⟨T,0,.none⟩)) rfl ?_
    simp only[xX]
    refine aT 1 (.pointer (some ⟨T,0,.none⟩)) rfl ?_
    simp only[xX]
    refine aT 2 (.pointer (some ⟨T,0,.none⟩)) rfl ?_
    simp only[xX]
    refine aT 3 (.pointer (some ⟨p,0,.none⟩)) rfl ?_ (fun ww hSw=>by (try dsimp only at hSw);obtain⟨⟨q0,q1,q2,q3,q4⟩,_⟩:=hSw;go_simp)
    simp only[xX]
    refine aT 4 (.pointer (some ⟨T,0,.none⟩)) rfl ?_
    simp only[xX]
    refine aT 5 (.pointer (some ⟨T,0,.none⟩)) rfl ?_
    simp only[xX]
    refine aT 6 (.pointer (some ⟨T,1,.none⟩)) rfl ?_
    simp only[xX]
    refine aT 7 (.int .u64 (ad r)) rfl ?_ (fun ww hSw=>by (try dsimp only at hSw);obtain⟨⟨q0,q1,q2,q3,q4⟩,_⟩:=hSw;go_simp)
    simp only[xX]
    refine aT 8 (.pointer (some ⟨T,0,.none⟩)) rfl ?_
    simp only[xX]
    refine aT 9 (.pointer (some ⟨T,0,.none⟩)) rfl ?_
    simp only[xX]
    refine aT 10 (.pointer (some ⟨T,2,.none⟩)) rfl ?_
    simp only[xX]
    refine aT 11 (.int .u64 va) rfl ?_ (fun ww hSw=>by (try dsimp only at hSw);obtain⟨⟨q0,q1,q2,q3,q4⟩,_⟩:=hSw;go_simp)
    simp only[xX]
    refine aT 12 (.pointer (some ⟨T,0,.none⟩)) rfl ?_
    simp only[xX]
    refine wpAnyH_ready (rs:=[13,14]) (by kernel_rfl) (by simp) ?_
    refine AllReadyH.cons rfl (fun K hK=>?_) (AllReadyH.cons rfl (fun K hK=>?_) AllReadyH.nil)
    ·go_simp
     go_at_call 211
     refine(c81 _ kT.2).mono ?_
     rintro _ w2 ⟨rfl,b2⟩
     have B2:Below W0.heap.size W0 w2:=kT.2.trans (b2.mono kT.2.size)
     have kT2:Tour w2 T (.pointer (some ⟨p,0,.none⟩)) (ad r) va (.map (some m))∧Below W0.heap.size W0 w2:=⟨kT.1.below b2,B2⟩
     refine hK.out _ _ kT2 (fun hHeld=>?_)
     clear hK K
     try simp only[xX]
     refine zR 14 rfl (fun K hK=>?_)
     go_simp
     have b3:Below w2.heap.size w2 (w2.alloc (.cells #[.int .u64 0,.int .u64 0,.int .u64 0,.int .i64 0,.int .u64 0,.int .i64 0] 169)):=below1 _ _
     refine hK.out _ _ ⟨kT2.1.below b3,kT2.2.trans (b3.mono kT2.2.size)⟩ (fun hHeld=>?_)
     clear hK K
     try simp only[xX]
     refine zR 15 rfl (fun K hK=>?_)
     go_simp
     have b4:Below w2.heap.size w2 (w2.alloc (.cells #[.int .u64 a0,.int .u64 a1,.int .u64 a2,.int .i64 lv,.int .u64 e,.int .i64 k] 169)):=below1 _ _
     have B4:Below W0.heap.size W0 (w2.alloc (.cells #[.int .u64 a0,.int .u64 a1,.int .u64 a2,.int .i64 lv,.int .u64 e,.int .i64 k] 169)):=kT2.2.trans (b4.mono kT2.2.size)
     refine hK.out _ _ ⟨kT2.1.below b4,B4⟩ (fun hHeld=>?_)
     clear hK K
     try simp only[xX]
     refine wpAnyH_done (by kernel_rfl) ?_ _
     refine NoPanic.normal ?_
     go_wp2
     go_meet
     exact⟨_,rfl,C6.new w2 _ _ _ _ _ _ 169,B4,kT2.2.size⟩
    ·go_simp
     have b3:Below W0.heap.size W0 (W0.alloc (.cells #[.int .u64 0,.int .u64 0,.int .u64 0,.int .i64 0,.int .u64 0,.int .i64 0] 169)).drew:=(below1 W0 _).drew
     have kT3:Tour (W0.alloc (.cells #[.int .u64 0,.int .u64 0,.int .u64 0,.int .i64 0,.int .u64 0,.int .i64 0] 169)).drew T (.pointer (some ⟨p,0,.none⟩)) (ad r) va (.map (some m))∧Below W0.heap.size W0 (W0.alloc (.cells #[.int .u64 0,.int .u64 0,.int .u64 0,.int .i64 0,.int .u64 0,.int .i64 0] 169)).drew:=⟨kT0.below b3,b3⟩
     have C3:C6 (W0.alloc (.cells #[.int .u64 0,.int .u64 0,.int .u64 0,.int .i64 0,.int .u64 0,.int .i64 0] 169)).drew W0.heap.size (.int .u64 0) (.int .u64 0) (.int .u64 0) (.int .i64 0) (.int .u64 0) (.int .i64 0):=(C6.new W0 _ _ _ _ _ _ 169).drew
     generalize (W0.alloc (.cells #[.int .u64 0,.int .u64 0,.int .u64 0,.int .i64 0,.int .u64 0,.int .i64 0] 169)).drew=w3 at *
     refine hK.out _ _ kT3 (fun hHeld=>?_)
     clear hK K
     try simp only[xX]
     refine zR 13 rfl (fun K hK=>?_)
     go_simp
     go_at_call 211
     refine(c81 _ kT3.2).mono ?_
     rintro _ w2 ⟨rfl,b2⟩
     have C2:=C3.below b2
     have kT2:Tour w2 T (.pointer (some ⟨p,0,.none⟩)) (ad r) va (.map (some m))∧Below W0.heap.size W0 w2:=⟨kT3.1.below b2,kT3.2.trans (b2.mono kT3.2.size)⟩
     refine hK.out _ _ kT2 (fun hHeld=>?_)
     clear hK K
     try simp only[xX]
     refine zR 15 rfl (fun K hK=>?_)
     have HC2:Hid (C6 w2 W0.heap.size (.int .u64 0) (.int .u64 0) (.int .u64 0) (.int .i64 0) (.int .u64 0) (.int .i64 0)):=C2
     obtain⟨z0,z1,z2,z3,z4,z5,y0,y1,y2,y3,y4,y5⟩:=C2
     go_simp
     clear z0 z1 z2 z3 z4 z5 y0 y1 y2 y3 y4 y5
     have C9:=HC2.out.set (.int .u64 a0) (.int .u64 a1) (.int .u64 a2) (.int .i64 lv) (.int .u64 e) (.int .i64 k)
     have B9:=below6 (B:=W0.heap.size) kT2.2 zL (.int .u64 a0) (.int .u64 a1) (.int .u64 a2) (.int .i64 lv) (.int .u64 e) (.int .i64 k)
     have T9:Tour ((((((w2.setCell ⟨W0.heap.size,0,.none⟩ (.int .u64 a0)).setCell ⟨W0.heap.size,1,.none⟩ (.int .u64 a1)).setCell ⟨W0.heap.size,2,.none⟩ (.int .u64 a2)).setCell ⟨W0.heap.size,3,.none⟩ (.int .i64 lv)).setCell ⟨W0.heap.size,4,.none⟩ (.int .u64 e)).setCell ⟨W0.heap.size,5,.none⟩ (.int .i64 k)) T (.pointer (some ⟨p,0,.none⟩)) (ad r) va (.map (some m)):=kT0.below B9
     refine hK.out _ _ ⟨T9,B9⟩ (fun hHeld=>?_)
     clear hK K
     try simp only[xX]
     refine wpAnyH_done (by kernel_rfl) ?_ _
     refine NoPanic.normal ?_
     go_wp2
     go_meet
     exact⟨_,rfl,C9,B9,Nat.le_refl _⟩
   case rest=>
    obtain⟨Pp,rfl,HC⟩:=hcut
    have hPp:=HC.out.2.2
    have tc:TS wc T p b mm N B L F r m tmx nn c:=HT0.out.below HC.out.2.1
    have c82:=branch_any T va lv (by omega) (by omega) (by have:=tc.tour.c2;rw[<-HV.out] at this;exact this)
    obtain⟨hv,hhv⟩:∃ hv,hv=va-va%spn lv:=⟨_,rfl⟩
    have HHV:Hid (hv=va-va%spn lv):=hhv
    rw[<-hhv] at c82
    obtain⟨z0,z1,z2,z3,z4,z5,y0,y1,y2,y3,y4,y5⟩:=id HC.out.1
    clear c81 k0 k1 hhv kS
    have HTC:Hid (TS wc T p b mm N B L F r m tmx nn c):=tc
    clear tc
    go_upto_region 4 with(go_at_call 212;refine c82.mono ?_;rintro _ W2 ⟨rfl,hb2⟩;have HB2:Hid (Below wc.heap.size wc W2):=hb2;clear hb2)
    obtain⟨V,hV⟩:∃ V,V=W2.alloc (.cells #[.int .u64 hv,.int .i64 lv] 236):=⟨_,rfl⟩
    have bV:Below wc.heap.size wc V:=by rw[hV];exact HB2.out.alloc HB2.out.size _
    obtain⟨Hb,hHb⟩:∃ Hb,Hb=W2.heap.size:=⟨_,rfl⟩
    have u0:V.cell? ⟨Hb,0,.none⟩=some (.int .u64 hv):=by rw[hV,hHb];simp
    have u1:V.cell? ⟨Hb,1,.none⟩=some (.int .i64 lv):=by rw[hV,hHb];simp
    have hHbs:W0.heap.size<=Hb:=by rw[hHb];exact Nat.le_trans HC.out.2.1.size HB2.out.size
    rw[<-hV,<-hHb]
    clear z0 z1 z2 z3 z4 z5 y0 y1 y2 y3 y4 y5 c82
    have C3:C6 V Pp (.int .u64 a0) (.int .u64 a1) (.int .u64 a2) (.int .i64 lv) (.int .u64 e) (.int .i64 k):=HC.out.1.below bV
    have B3:Hid (Below wr.heap.size wr V):=B0.out.trans ((HC.out.2.1.trans (bV.mono HC.out.2.1.size)).mono B0.out.size)
    have HT3:Hid (TS V T p b mm N B L F r m tmx nn c):=HTC.out.below bV
    clear hV hHb bV HB2 HTC
    have hmlt:m<W0.heap.size:=by obtain⟨D,h1,_⟩:=HT0.out.map.own;exact h1.lt
    have hPm:Pp≠m∧Hb≠m∧Pp≠T∧Hb≠T:=by omega
    rcases HST.out with hA|hB'|hC'
    ·obtain⟨d,x,f,hcd,hdM,hd3,hx0,hf,hnK,hnB,hl,hk,he,htm,hnone,hev⟩:=hA
     simp only at hl hk he hnB hev
     subst hk
     have hfN:=HP.out.1.held x f hf
     have had:adE e=ad f:=by rw[he];exact ptr_ad hfN.2.1 HP.out.2.2.1
     have heb:0<=e∧e<18446744073709551616:=by rw[he];exact toPb f N hfN.2.1 HP.out.2.2.1
     have c46:=fun W=>address_any e W heb
     rw[had] at c46
     have hadb:0<=ad f∧ad f<18446744073709551616:=by have h1:=hfN.2.1;have h2:=HP.out.2.2.1;unfold ad;omega
     have tv:Tour V T (.pointer (some ⟨p,0,.none⟩)) (ad r) va (.map (some m)):=by have:=HT3.out.tour;rw[<-HV.out] at this;exact this
     have hfr:ad f≠ad r:=fun e9=>hx0 (HP.out.1.inj x 0 f hf (by rw[HP.out.2.1,ad_inj e9]))
     have c83:=tells_any HT3.out.ram tv HT3.out.map hadb hfr (HP.out.1.ndB hf) htm
     rw[<-HV.out,<-HHV.out] at hnB hev
     have HA:Hid (c<=d∧d<eM∧(d+1)/3=c/3∧x≠0∧F x=some f∧nK x=d∧nB x=(hv,lv)∧(∀ j,c<=j->j<d->ev F lf j=none)∧ev F lf d=some ⟨hv,lv,⟨a0,a1,a2,lv,e,3⟩⟩):=⟨hcd,hdM,hd3,hx0,hf,hnK,hnB,hnone,hev⟩
     have HCV:Hid (C6 V Pp (.int .u64 a0) (.int .u64 a1) (.int .u64 a2) (.int .i64 lv) (.int .u64 e) (.int .i64 3)∧Tour V T (.pointer (some ⟨p,0,.none⟩)) (ad r) va (.map (some m))):=⟨C3,tv⟩
     clear hcd hdM hd3 hx0 hf hnK hnB hl he htm hnone hev hfN had hfr tv HST HHV
     obtain⟨z0,z1,z2,z3,z4,z5,y0,y1,y2,y3,y4,y5⟩:=C3
     obtain⟨af,haf⟩:∃ af,af=ad f:=⟨_,rfl⟩
     have HAF:Hid (ad f=af):=haf.symm
     rw[<-haf] at c46 hadb c83
     clear haf
     go_upto_region 5 with(first|(go_at_call 56;refine(c46 _).mono ?_;rintro _ W4 ⟨rfl,e4⟩;obtain rfl:V=W4:=e4.symm)|(go_at_call 213;refine c83.mono ?_;rintro _ W5 ⟨rfl,b5⟩;have HB5:Hid (Below V.heap.size V W5):=b5;clear b5))
     have t5:=HT3.out.below HB5.out
     have C5:=HCV.out.1.below HB5.out
     have T5:=HCV.out.2.below HB5.out
     have v0:=(HB5.out.cell (zC u0)).trans u0
     have v1:=(HB5.out.cell (zC u1)).trans u1
     have kS5:Tour W5.drew T (.pointer (some ⟨p,0,.none⟩)) (ad r) va (.map (some m))∧W5.drew.cell? ⟨Pp,4,.none⟩=some (.int .u64 e)∧W5.drew.cell? ⟨Hb,0,.none⟩=some (.int .u64 hv)∧W5.drew.cell? ⟨Hb,1,.none⟩=some (.int .i64 lv):=⟨T5.below zB.drew,C5.c4,v0,v1⟩
     have hnn:nn<1000000000:=by have h1:=t5.nc;have h2:=HI.out.1;have h3:=eM_val;omega
     obtain⟨W6,hput,tm6,turn6⟩:=(t5.map.below zB.drew).put hnn af hadb (hv,lv)
     simp only[brV] at hput
     have g6:=turn6.grown
     have hblk:∀ q,q<W5.heap.size->q≠m->W6.heap[q]? = W5.heap[q]?:=fun q hq hm=>g6.block q hq (by simp;exact hm)
     have hTl:T<W5.heap.size:=zC T5.c0
     have hPl:Pp<W5.heap.size:=zC C5.c0
     have hHl:Hb<W5.heap.size:=zC v0
     have hbT:=hblk T hTl hTm
     have hbP:=hblk Pp hPl hPm.1
     have hbH:=hblk Hb hHl hPm.2.1
     have T6:Tour W6 T (.pointer (some ⟨p,0,.none⟩)) (ad r) va (.map (some m)):=⟨(World.cell?_of_block (a:=⟨T,0,.none⟩) hbT).trans T5.c0,(World.cell?_of_block (a:=⟨T,1,.none⟩) hbT).trans T5.c1,(World.cell?_of_block (a:=⟨T,2,.none⟩) hbT).trans T5.c2,(World.cell?_of_block (a:=⟨T,3,.none⟩) hbT).trans T5.c3,(World.frozen?_of_block (a:=⟨T,2,.none⟩) hbT).trans T5.f2⟩
     have w0':=(World.cell?_of_block (a:=⟨Hb,0,.none⟩) hbH).trans v0
     have w1':=(World.cell?_of_block (a:=⟨Hb,1,.none⟩) hbH).trans v1
     have p0:=(World.cell?_of_block (a:=⟨Pp,0,.none⟩) hbP).trans C5.c0
     have p1:=(World.cell?_of_block (a:=⟨Pp,1,.none⟩) hbP).trans C5.c1
     have p2:=(World.cell?_of_block (a:=⟨Pp,2,.none⟩) hbP).trans C5.c2
     have p3:=(World.cell?_of_block (a:=⟨Pp,3,.none⟩) hbP).trans C5.c3
     have p4:=(World.cell?_of_block (a:=⟨Pp,4,.none⟩) hbP).trans C5.c4
     have p5:=(World.cell?_of_block (a:=⟨Pp,5,.none⟩) hbP).trans C5.c5
     have hmv:Mv Good wr W6:=by
      have hb:=B3.out.trans (HB5.out.mono B3.out.size)
      refine⟨g6.os.trans hb.os,g6.tape.trans hb.tape,g6.output.trans hb.output,Nat.le_trans hb.size g6.size,fun q hq hg=>?_⟩
      by_cases hqm:q=m
      ·subst hqm
       exact absurd HI.out.2.2.2.1 hg
      ·exact(hblk q (Nat.lt_of_lt_of_le hq hb.size) hqm).trans (hb.block q hq)
     have t6:TS W6 T p b mm N B L F r m (setM tmx af (hv,lv)) (nn+1) (d+1):=by
      obtain⟨q1,q2,q3,q4,q5,q6,q7,q8,q9⟩:=HA.out
      refine⟨⟨t5.ram.mem.keep (hblk p t5.ram.mem.plt (Ne.symm HAP.out.2.1)) (hblk b t5.ram.mem.blt (Ne.symm HAP.out.2.2.1)) (hblk mm t5.ram.mem.mlt (Ne.symm HAP.out.2.2.2)),t5.ram.nd,t5.ram.lt,t5.ram.thr⟩,?_,tm6,by have:=t5.nc;omega,?_⟩
      ·rw[q3,<-HV.out]
       exact T6
      ·have:=TI.put HP.out.1 HI.out.2.1.ti q1 q8 q4 q5 q6
       rw[q7,HAF.out] at this
       exact this
     have hJ6:J pre W6:=HP.out.2.2.2.2.move _ _ _ HI.out.2.2.2.2.1 hmv
     have hg6:Good T W6∧Good m W6:=⟨HP.out.2.2.2.2.mono _ _ _ _ HI.out.2.2.2.2.1 hmv HI.out.2.2.1,HP.out.2.2.2.2.mono _ _ _ _ HI.out.2.2.2.2.1 hmv HI.out.2.2.2.1⟩
     have hevs:evs F lf c=⟨hv,lv,⟨a0,a1,a2,lv,e,3⟩⟩ :: evs F lf (d+1):=evs_hit HA.out.1 HA.out.2.1 HA.out.2.2.2.2.2.2.2.1 HA.out.2.2.2.2.2.2.2.2
     have hpre':(pre ++ [⟨hv,lv,⟨a0,a1,a2,lv,e,3⟩⟩]) ++ evs F lf (d+1)=evs F lf 0:=by
      rw[List.append_assoc,<-HI.out.2.2.2.2.2,hevs]
      rfl
     have yy:=HY.out (n-1) pre ⟨hv,lv,⟨a0,a1,a2,lv,e,3⟩⟩ W6 hJ6 ⟨_,hpre'⟩
     have H6:Hid (TS W6 T p b mm N B L F r m (setM tmx af (hv,lv)) (nn+1) (d+1)∧(Good T W6∧Good m W6)∧(pre ++ [⟨hv,lv,⟨a0,a1,a2,lv,e,3⟩⟩]) ++ evs F lf (d+1)=evs F lf 0):=⟨t6,hg6,hpre'⟩
     have HS6:Hid (Tour W6 T (.pointer (some ⟨p,0,.none⟩)) (ad r) va (.map (some m))∧W6.cell? ⟨Pp,4,.none⟩=some (.int .u64 e)∧W6.cell? ⟨Hb,0,.none⟩=some (.int .u64 hv)∧W6.cell? ⟨Hb,1,.none⟩=some (.int .i64 lv)):=⟨T6,p4,w0',w1'⟩
     clear t5 C5 T5 v0 v1 tm6 turn6 g6 hblk hbT hbP hbH T6 hmv t6 hJ6 hg6 hevs hpre' z0 z1 z2 z3 z4 z5 y0 y1 y2 y3 y4 y5 u0 u1
     refine wp_region_held_drew (S:=fun U=>Tour U T (.pointer (some ⟨p,0,.none⟩)) (ad r) va (.map (some m))∧U.cell? ⟨Pp,4,.none⟩=some (.int .u64 e)∧U.cell? ⟨Hb,0,.none⟩=some (.int .u64 hv)∧U.cell? ⟨Hb,1,.none⟩=some (.int .i64 lv)) (by kernel_rfl) kS5 (fun hHeld=>?_)
     refine aT 0 (.pointer (some ⟨T,0,.none⟩)) rfl ?_
     simp only[xX]
     refine aT 1 (.pointer (some ⟨T,0,.none⟩)) rfl ?_
     simp only[xX]
     refine aT 2 (.pointer (some ⟨T,3,.none⟩)) rfl ?_
     simp only[xX]
     refine aT 3 (.map (some m)) rfl ?_ (fun ww hSw=>by (try dsimp only at hSw);obtain⟨⟨q0,q1,q2,q3,q4⟩,q5,q6,q7⟩:=hSw;go_simp)
     simp only[xX]
     refine aT 4 (.pointer (some ⟨Pp,4,.none⟩)) rfl ?_
     simp only[xX]
     refine aT 5 (.int .u64 e) rfl ?_ (fun ww hSw=>by (try dsimp only at hSw);obtain⟨⟨q0,q1,q2,q3,q4⟩,q5,q6,q7⟩:=hSw;go_simp)
     simp only[xX]
     refine aT 7 (.agg #[.int .u64 hv,.int .i64 lv]) rfl ?_ (fun ww hSw=>by (try dsimp only at hSw);obtain⟨⟨q0,q1,q2,q3,q4⟩,q5,q6,q7⟩:=hSw;go_simp)
     simp only[xX]
     refine zR 6 rfl (fun K hK=>?_)
     go_simp
     go_at_call 56
     refine(c46 _).mono ?_
     rintro _ W4 ⟨rfl,e4⟩
     obtain rfl:W5.drew=W4:=e4.symm
     refine hK.out _ _ kS5 (fun hHeld=>?_)
     clear hK K
     try simp only[xX]
     refine zR 8 rfl (fun K hK=>?_)
     go_simp
     refine hK.out _ _ HS6.out (fun hHeld=>?_)
     clear hK K
     try simp only[xX]
     refine wpAnyH_done (by kernel_rfl) ?_ _
     clear hput kS5
     have HCN:Hid (c<d+1∧d+1<=eM):=by have h1:=HA.out.1;have h2:=HA.out.2.1;exact⟨by omega,by omega⟩
     obtain⟨fn,tmps,assign,body,hy,hR⟩:=yy
     simp only[evE,Pt.val] at hy
     go_upto_region 8 with fail
     refine(wpIn_wide (n:=n)).1 ?_
     gi_wp2
     refine⟨fun h=>(by cases h),hR.mono ?_⟩
     clear hR hy
     rintro e3 W7 (⟨rfl,hJ7,hk7⟩|⟨rfl,hJx7⟩)
     ·have H7:Hid (EI T p b mm N B L F lf r m J Good (eM-(d+1)) W7):=by
       have k7:=HK.out _ _ hk7
       obtain⟨t6,⟨gT,gm⟩,hp6⟩:=H6.out
       have hT7:∃ o,W6.heap[T]? = some o:=⟨_,Array.getElem?_eq_getElem (zC t6.tour.c0)⟩
       have hm7:∃ o,W6.heap[m]? = some o:=by obtain⟨D,h1,_⟩:=t6.map.own;exact⟨_,Array.getElem?_eq_getElem h1.lt⟩
       obtain⟨oT,hT7⟩:=hT7
       obtain⟨om,hm7⟩:=hm7
       have g7:=HP.out.2.2.2.2.keep _ _ _ _ hk7 gT hT7
       have g8:=HP.out.2.2.2.2.keep _ _ _ _ hk7 gm hm7
       exact⟨d+1,nn+1,setM tmx af (hv,lv),pre ++ [⟨hv,lv,⟨a0,a1,a2,lv,e,3⟩⟩],by have h1:=HI.out.1;have h2:=HCN.out;omega,t6.keep k7.1 k7.2.1 k7.2.2.1 (g7.1.trans hT7.symm) (g8.1.trans hm7.symm),g7.2,g8.2,hJ7,hp6⟩
      clear hJ7 hk7
      gi_wp2
      go_wp2_with fail
      go_roundg (eM-(d+1))
      case measure=>have h1:=HI.out.1;have h2:=HCN.out;omega
      case rel=>exact H7
     ·have H7:Hid (Jx (pre ++ [⟨hv,lv,⟨a0,a1,a2,lv,e,3⟩⟩]) W7):=hJx7
      clear hJx7
      gi_wp2
      go_wp2_with fail
      refine bodyPost_ret (results_none rfl _ _ _) rfl ?_
      exact⟨⟨_,rfl⟩,.inr ⟨_,⟨_,H6.out.2.2⟩,H7.out⟩⟩
    ·obtain⟨hl0,hk2,hc2,hnone,hev⟩:=hB'
     simp only at hl0 hk2 hev
     subst hl0
     subst hk2
     obtain rfl:hv=va:=by
      have h1:=HHV.out
      have h2:=HV.out
      rw[spn0] at h1
      unfold vaP at h2
      omega
     rw[<-HV.out] at hev
     have HA:Hid (c<=3*(c/3)+2∧(∀ j,c<=j->j<3*(c/3)+2->ev F lf j=none)∧ev F lf (3*(c/3)+2)=some ⟨hv,0,⟨a0,a1,a2,0,e,2⟩⟩):=⟨hc2,hnone,hev⟩
     have tv:Tour V T (.pointer (some ⟨p,0,.none⟩)) (ad r) hv (.map (some m)):=by have:=HT3.out.tour;rw[<-HV.out] at this;exact this
     have HCV:Hid (C6 V Pp (.int .u64 a0) (.int .u64 a1) (.int .u64 a2) (.int .i64 0) (.int .u64 e) (.int .i64 2)∧Tour V T (.pointer (some ⟨p,0,.none⟩)) (ad r) hv (.map (some m))):=⟨C3,tv⟩
     clear hc2 hnone hev HST HHV
     obtain⟨z0,z1,z2,z3,z4,z5,y0,y1,y2,y3,y4,y5⟩:=C3
     have kS6:V.drew.cell? ⟨Pp,5,.none⟩=some (.int .i64 2)∧V.drew.cell? ⟨Hb,0,.none⟩=some (.int .u64 hv)∧V.drew.cell? ⟨T,2,.none⟩=some (.int .u64 hv):=⟨z5,u0,tv.c2⟩
     clear tv
     go_upto_region 6 with fail
     refine wp_region_held_drew (S:=fun U=>U.cell? ⟨Pp,5,.none⟩=some (.int .i64 2)∧U.cell? ⟨Hb,0,.none⟩=some (.int .u64 hv)∧U.cell? ⟨T,2,.none⟩=some (.int .u64 hv)) (by kernel_rfl) kS6 (fun hHeld=>?_)
     refine aT 0 (.pointer (some ⟨Pp,5,.none⟩)) rfl ?_
     simp only[xX]
     refine aT 1 (.int .i64 2) rfl ?_ (fun ww hSw=>by (try dsimp only at hSw);obtain⟨q0,q1,q2⟩:=hSw;go_simp)
     simp only[xX]
     refine aT 2 (.bool true) rfl ?_
     simp only[xX]
     refine aT 3 (.bool true) rfl ?_
     simp only[xX]
     refine aT 4 (.pointer (some ⟨Hb,0,.none⟩)) rfl ?_
     simp only[xX]
     refine aT 5 (.int .u64 hv) rfl ?_ (fun ww hSw=>by (try dsimp only at hSw);obtain⟨q0,q1,q2⟩:=hSw;go_simp)
     simp only[xX]
     refine aT 6 (.pointer (some ⟨T,0,.none⟩)) rfl ?_
     simp only[xX]
     refine aT 7 (.pointer (some ⟨T,0,.none⟩)) rfl ?_
     simp only[xX]
     refine aT 8 (.pointer (some ⟨T,2,.none⟩)) rfl ?_
     simp only[xX]
     refine aT 9 (.int .u64 hv) rfl ?_ (fun ww hSw=>by (try dsimp only at hSw);obtain⟨q0,q1,q2⟩:=hSw;go_simp)
     simp only[xX]
     refine aT 10 (.bool true) rfl ?_
     simp only[xX]
     refine aT 11 (.bool true) rfl ?_
     simp only[xX]
     refine aT 12 (.bool true) rfl ?_
     simp only[xX]
     refine wpAnyH_done (by kernel_rfl) ?_ _
     clear kS6
     go_upto_region 7 with fail
     have c78l:=fun W=>span_any 0 (by omega) W
     rw[spn0] at c78l
     have bV1:Below V.heap.size V V.drew:=zB.drew
     have t1:=HT3.out.below bV1
     have C1:=HCV.out.1.below bV1
     have T1:=HCV.out.2.below bV1
     have B31:Below wr.heap.size wr V.drew:=B3.out.trans (bV1.mono B3.out.size)
     have v0:=(bV1.cell (zC u0)).trans u0
     have v1:=(bV1.cell (zC u1)).trans u1
     clear bV1 z0 z1 z2 z3 z4 z5 y0 y1 y2 y3 y4 y5 u0 u1
     generalize V.drew=V1 at *
     have hPl:Pp<V1.heap.size:=zC C1.c0
     have hw9:IntKind.u64.wrap (hv+4096)=hv+4096:=by rw[IntKind.wrap_u64];omega
     have k2:V1.drew.cell? ⟨T,2,.none⟩=some (.int .u64 hv):=T1.c2
     have kf2:V1.drew.frozen? ⟨T,2,.none⟩=false:=T1.f2
     have kS7:V1.drew.cell? ⟨Pp,3,.none⟩=some (.int .i64 0):=C1.c3
     have hneT:∀ q,q≠T -> ∀ i v,(V1.setCell ⟨T,2,.none⟩ v).drew.cell? ⟨q,i,.none⟩=V1.cell? ⟨q,i,.none⟩:=fun q hq i v=>by
      show (V1.setCell ⟨T,2,.none⟩ v).cell? ⟨q,i,.none⟩=V1.cell? ⟨q,i,.none⟩
      exact zO (by simp only[ne_eq,Addr.mk.injEq,not_and];intro e9;exact absurd e9.symm hq)
     have kS8:((V1.setCell ⟨T,2,.none⟩ (.int .u64 (hv+4096))).drew).cell? ⟨Pp,3,.none⟩=some (.int .i64 0):=(hneT Pp hPm.2.2.1 3 _).trans C1.c3
     have w0':=(hneT Hb hPm.2.2.2 0 (.int .u64 (hv+4096))).trans v0
     have w1':=(hneT Hb hPm.2.2.2 1 (.int .u64 (hv+4096))).trans v1
     have p0:=(hneT Pp hPm.2.2.1 0 (.int .u64 (hv+4096))).trans C1.c0
     have p1:=(hneT Pp hPm.2.2.1 1 (.int .u64 (hv+4096))).trans C1.c1
     have p2:=(hneT Pp hPm.2.2.1 2 (.int .u64 (hv+4096))).trans C1.c2
     have p3:=(hneT Pp hPm.2.2.1 3 (.int .u64 (hv+4096))).trans C1.c3
     have p4:=(hneT Pp hPm.2.2.1 4 (.int .u64 (hv+4096))).trans C1.c4
     have p5:=(hneT Pp hPm.2.2.1 5 (.int .u64 (hv+4096))).trans C1.c5
     obtain⟨V8,hV8⟩:∃ V8,V8=(V1.setCell ⟨T,2,.none⟩ (.int .u64 (hv+4096))).drew:=⟨_,rfl⟩
     have hblk:∀ q,q≠T->V8.heap[q]? = V1.heap[q]?:=fun q hq=>by rw[hV8];exact Below.heap_setCell V1 ⟨T,2,.none⟩ _ q hq
     have hmv:Mv Good wr V8:=by
      refine⟨by rw[hV8];exact B31.os,by rw[hV8];exact B31.tape,by rw[hV8];exact B31.output,by rw[hV8];show _ <= (V1.setCell ⟨T,2,.none⟩ (.int .u64 (hv+4096))).heap.size;simp only[World.size_setCell];exact B31.size,fun q hq hg=>?_⟩
      by_cases hqT:q=T
      ·subst hqT
       exact absurd HI.out.2.2.1 hg
      ·exact(hblk q hqT).trans (B31.block q hq)
     have t8:TS V8 T p b mm N B L F r m tmx nn (3*(c/3)+2+1):=by
      refine⟨⟨t1.ram.mem.keep (hblk p (Ne.symm HAP.out.1.1)) (hblk b (Ne.symm HAP.out.1.2.1)) (hblk mm (Ne.symm HAP.out.1.2.2)),t1.ram.nd,t1.ram.lt,t1.ram.thr⟩,?_,?_,by have:=t1.nc;omega,?_⟩
      ·have e9:vaP ((3*(c/3)+2+1)/3)=hv+4096:=by
        have h2:=HV.out
        unfold vaP at h2 ⊢
        omega
       rw[e9,hV8]
       exact(T1.set (hv+4096)).below zB.drew
      ·obtain⟨D,⟨es,cl,hb,rr⟩,h7⟩:=t1.map.own
       exact⟨D,⟨es,cl,(hblk m (Ne.symm hTm)).trans hb,rr⟩,h7⟩
      ·exact(HI.out.2.1.ti.skip HP.out.1 HA.out.1 HA.out.2.1).leaf (by omega)
     have hJ8:J pre V8:=HP.out.2.2.2.2.move _ _ _ HI.out.2.2.2.2.1 hmv
     have hg8:Good T V8∧Good m V8:=⟨HP.out.2.2.2.2.mono _ _ _ _ HI.out.2.2.2.2.1 hmv HI.out.2.2.1,HP.out.2.2.2.2.mono _ _ _ _ HI.out.2.2.2.2.1 hmv HI.out.2.2.2.1⟩
     have hc3M:3*(c/3)+2<eM:=by have:=eM_val;omega
     have hevs:evs F lf c=⟨hv,0,⟨a0,a1,a2,0,e,2⟩⟩ :: evs F lf (3*(c/3)+2+1):=evs_hit HA.out.1 hc3M HA.out.2.1 HA.out.2.2
     have hpre':(pre ++ [⟨hv,0,⟨a0,a1,a2,0,e,2⟩⟩]) ++ evs F lf (3*(c/3)+2+1)=evs F lf 0:=by
      rw[List.append_assoc,<-HI.out.2.2.2.2.2,hevs]
      rfl
     have yy:=HY.out (n-1) pre ⟨hv,0,⟨a0,a1,a2,0,e,2⟩⟩ V8 hJ8 ⟨_,hpre'⟩
     have H6:Hid (TS V8 T p b mm N B L F r m tmx nn (3*(c/3)+2+1)∧(Good T V8∧Good m V8)∧(pre ++ [⟨hv,0,⟨a0,a1,a2,0,e,2⟩⟩]) ++ evs F lf (3*(c/3)+2+1)=evs F lf 0):=⟨t8,hg8,hpre'⟩
     have HCN:Hid (c<3*(c/3)+2+1∧3*(c/3)+2+1<=eM):=⟨by omega,by omega⟩
     rw[<-hV8] at kS8 w0' w1' p0 p1 p2 p3 p4 p5
     have HV8:Hid (V8=(V1.setCell ⟨T,2,.none⟩ (.int .u64 (hv+4096))).drew):=hV8
     clear t1 C1 T1 B31 v0 v1 hneT hblk hmv t8 hJ8 hg8 hc3M hevs hpre' hV8
     refine wp_region_held_drew (S:=fun U=>U.cell? ⟨Pp,3,.none⟩=some (.int .i64 0)) (by kernel_rfl) kS7 (fun hHeld=>?_)
     refine aT 0 (.pointer (some ⟨T,0,.none⟩)) rfl ?_
     simp only[xX]
     refine aT 1 (.pointer (some ⟨T,0,.none⟩)) rfl ?_
     simp only[xX]
     refine aT 2 (.pointer (some ⟨T,2,.none⟩)) rfl ?_
     simp only[xX]
     refine aT 4 (.pointer (some ⟨Pp,3,.none⟩)) rfl ?_
     simp only[xX]
     refine aT 5 (.int .i64 0) rfl ?_
     simp only[xX]
     refine wpAnyH_ready (rs:=[3,6]) (by kernel_rfl) (by simp) ?_
     refine AllReadyH.cons rfl (fun K hK=>?_) (AllReadyH.cons rfl (fun K hK=>?_) AllReadyH.nil)
     ·skip
      go_simp
      refine hK.out _ _ kS7 (fun hHeld=>?_)
      clear hK K
      try simp only[xX]
      refine zR 6 rfl (fun K hK=>?_)
      go_simp
      go_at_call 110
      refine(c78l _).mono ?_
      rintro _ W4 ⟨rfl,e4⟩
      obtain rfl:V1.drew=W4:=e4.symm
      refine hK.out _ _ kS7 (fun hHeld=>?_)
      clear hK K
      try simp only[xX]
      refine aT 7 (.int .u64 (hv+4096)) rfl ?_
      simp only[xX]
      refine aT 8 (.pointer (some ⟨T,0,.none⟩)) rfl ?_
      simp only[xX]
      refine aT 9 (.pointer (some ⟨T,2,.none⟩)) rfl ?_
      simp only[xX]
      refine zR 10 rfl (fun K hK=>?_)
      go_simp
      rw[<-HV8.out]
      refine hK.out _ _ kS8 (fun hHeld=>?_)
      clear hK K
      try simp only[xX]
      refine wpAnyH_done (by kernel_rfl) ?_ _
      clear k2 kf2 kS7 kS8
      obtain⟨fn,tmps,assign,body,hy,hR⟩:=yy
      simp only[evE,Pt.val] at hy
      go_upto_region 8 with fail
      refine(wpIn_wide (n:=n)).1 ?_
      gi_wp2
      refine⟨fun h=>(by cases h),hR.mono ?_⟩
      clear hR hy
      rintro e3 W7 (⟨rfl,hJ7,hk7⟩|⟨rfl,hJx7⟩)
      ·have H7:Hid (EI T p b mm N B L F lf r m J Good (eM-(3*(c/3)+2+1)) W7):=by
        have k7:=HK.out _ _ hk7
        obtain⟨t6,⟨gT,gm⟩,hp6⟩:=H6.out
        have hT7:∃ o,V8.heap[T]? = some o:=⟨_,Array.getElem?_eq_getElem (zC t6.tour.c0)⟩
        have hm7:∃ o,V8.heap[m]? = some o:=by obtain⟨D,h1,_⟩:=t6.map.own;exact⟨_,Array.getElem?_eq_getElem h1.lt⟩
        obtain⟨oT,hT7⟩:=hT7
        obtain⟨om,hm7⟩:=hm7
        have g7:=HP.out.2.2.2.2.keep _ _ _ _ hk7 gT hT7
        have g8:=HP.out.2.2.2.2.keep _ _ _ _ hk7 gm hm7
        exact⟨3*(c/3)+2+1,nn,tmx,pre ++ [⟨hv,0,⟨a0,a1,a2,0,e,2⟩⟩],by have h1:=HI.out.1;have h2:=HCN.out;omega,t6.keep k7.1 k7.2.1 k7.2.2.1 (g7.1.trans hT7.symm) (g8.1.trans hm7.symm),g7.2,g8.2,hJ7,hp6⟩
       clear hJ7 hk7
       gi_wp2
       go_wp2_with fail
       go_roundg (eM-(3*(c/3)+2+1))
       case measure=>have h1:=HI.out.1;have h2:=HCN.out;omega
       case rel=>exact H7
      ·have H7:Hid (Jx (pre ++ [⟨hv,0,⟨a0,a1,a2,0,e,2⟩⟩]) W7):=hJx7
       clear hJx7
       gi_wp2
       go_wp2_with fail
       refine bodyPost_ret (results_none rfl _ _ _) rfl ?_
       exact⟨⟨_,rfl⟩,.inr ⟨_,⟨_,H6.out.2.2⟩,H7.out⟩⟩
     ·skip
      go_simp
      go_at_call 110
      refine(c78l _).mono ?_
      rintro _ W4 ⟨rfl,e4⟩
      obtain rfl:V1.drew=W4:=e4.symm
      refine hK.out _ _ kS7 (fun hHeld=>?_)
      clear hK K
      try simp only[xX]
      refine zR 3 rfl (fun K hK=>?_)
      go_simp
      refine hK.out _ _ kS7 (fun hHeld=>?_)
      clear hK K
      try simp only[xX]
      refine aT 7 (.int .u64 (hv+4096)) rfl ?_
      simp only[xX]
      refine aT 8 (.pointer (some ⟨T,0,.none⟩)) rfl ?_
      simp only[xX]
      refine aT 9 (.pointer (some ⟨T,2,.none⟩)) rfl ?_
      simp only[xX]
      refine zR 10 rfl (fun K hK=>?_)
      go_simp
      rw[<-HV8.out]
      refine hK.out _ _ kS8 (fun hHeld=>?_)
      clear hK K
      try simp only[xX]
      refine wpAnyH_done (by kernel_rfl) ?_ _
      clear k2 kf2 kS7 kS8
      obtain⟨fn,tmps,assign,body,hy,hR⟩:=yy
      simp only[evE,Pt.val] at hy
      go_upto_region 8 with fail
      refine(wpIn_wide (n:=n)).1 ?_
      gi_wp2
      refine⟨fun h=>(by cases h),hR.mono ?_⟩
      clear hR hy
      rintro e3 W7 (⟨rfl,hJ7,hk7⟩|⟨rfl,hJx7⟩)
      ·have H7:Hid (EI T p b mm N B L F lf r m J Good (eM-(3*(c/3)+2+1)) W7):=by
        have k7:=HK.out _ _ hk7
        obtain⟨t6,⟨gT,gm⟩,hp6⟩:=H6.out
        have hT7:∃ o,V8.heap[T]? = some o:=⟨_,Array.getElem?_eq_getElem (zC t6.tour.c0)⟩
        have hm7:∃ o,V8.heap[m]? = some o:=by obtain⟨D,h1,_⟩:=t6.map.own;exact⟨_,Array.getElem?_eq_getElem h1.lt⟩
        obtain⟨oT,hT7⟩:=hT7
        obtain⟨om,hm7⟩:=hm7
        have g7:=HP.out.2.2.2.2.keep _ _ _ _ hk7 gT hT7
        have g8:=HP.out.2.2.2.2.keep _ _ _ _ hk7 gm hm7
        exact⟨3*(c/3)+2+1,nn,tmx,pre ++ [⟨hv,0,⟨a0,a1,a2,0,e,2⟩⟩],by have h1:=HI.out.1;have h2:=HCN.out;omega,t6.keep k7.1 k7.2.1 k7.2.2.1 (g7.1.trans hT7.symm) (g8.1.trans hm7.symm),g7.2,g8.2,hJ7,hp6⟩
       clear hJ7 hk7
       gi_wp2
       go_wp2_with fail
       go_roundg (eM-(3*(c/3)+2+1))
       case measure=>have h1:=HI.out.1;have h2:=HCN.out;omega
       case rel=>exact H7
      ·have H7:Hid (Jx (pre ++ [⟨hv,0,⟨a0,a1,a2,0,e,2⟩⟩]) W7):=hJx7
       clear hJx7
       gi_wp2
       go_wp2_with fail
       refine bodyPost_ret (results_none rfl _ _ _) rfl ?_
       exact⟨⟨_,rfl⟩,.inr ⟨_,⟨_,H6.out.2.2⟩,H7.out⟩⟩
    ·obtain⟨g,a,P',hk0,hla,hag,hab,hnd,hfi,hnew,hlt',hle',hnone⟩:=hC'
     simp only at hk0 hla hnew
     subst hk0
     rw[<-HV.out] at hnew
     have hix:=ix_b va lv
     obtain⟨nx,hnx⟩:∃ nx,nx=ft B g (512-((ix va lv).toNat+1)) ((ix va lv).toNat+1):=⟨_,rfl⟩
     have hnxb:0<=nx∧nx<=512:=by
      rw[hnx]
      have:=ft_b B g (512-((ix va lv).toNat+1)) ((ix va lv).toNat+1) (by omega)
      omega
     rw[<-hnx] at hnew
     have tv:Tour V.drew T (.pointer (some ⟨p,0,.none⟩)) (ad r) va (.map (some m)):=by have:=HT3.out.tour;rw[<-HV.out] at this;exact this.below zB.drew
     have c84:=pass_any tv a0 a1 a2 lv e 0 a nx hla hab (by omega) hnxb (fun w' hw'=>by
      have hR:=(HT3.out.ram.below zB.drew).below hw'
      have:=firstTaken_any hR (ad g) hnd ((ix va lv).toNat+1) (by omega)
      rw[hfi,<-hnx,show (((ix va lv).toNat+1:Nat):Int)=ix va lv+1 by omega] at this
      rw[hag]
      exact this)
     rw[hnew] at c84
     simp only[pth] at c84
     have HA:Hid (c<3*P'∧3*P'<=eM∧∀ j,c<=j->j<3*P'->ev F lf j=none):=⟨hlt',hle',hnone⟩
     have HCV:Hid (C6 V Pp (.int .u64 a0) (.int .u64 a1) (.int .u64 a2) (.int .i64 lv) (.int .u64 e) (.int .i64 0)):=C3
     clear hla hag hab hnd hfi hnew hlt' hle' hnone hix hnx hnxb tv HST HHV
     obtain⟨z0,z1,z2,z3,z4,z5,y0,y1,y2,y3,y4,y5⟩:=C3
     have kS6:V.drew.cell? ⟨Pp,5,.none⟩=some (.int .i64 0):=z5
     go_upto_region 6 with fail
     refine wp_region_held_drew (S:=fun U=>U.cell? ⟨Pp,5,.none⟩=some (.int .i64 0)) (by kernel_rfl) kS6 (fun hHeld=>?_)
     refine aT 0 (.pointer (some ⟨Pp,5,.none⟩)) rfl ?_
     simp only[xX]
     refine aT 1 (.int .i64 0) rfl ?_
     simp only[xX]
     refine aT 2 (.bool false) rfl ?_
     simp only[xX]
     refine aT 3 (.bool false) rfl ?_
     simp only[xX]
     refine aU 4 rfl ?_
     simp only[xX]
     refine aU 5 rfl ?_
     simp only[xX]
     refine aU 6 rfl ?_
     simp only[xX]
     refine aU 7 rfl ?_
     simp only[xX]
     refine aU 8 rfl ?_
     simp only[xX]
     refine aU 9 rfl ?_
     simp only[xX]
     refine aU 10 rfl ?_
     simp only[xX]
     refine aT 11 (.bool false) rfl ?_
     simp only[xX]
     refine aT 12 (.bool false) rfl ?_
     simp only[xX]
     refine wpAnyH_done (by kernel_rfl) ?_ _
     clear kS6 z0 z1 z2 z3 z4 z5 y0 y1 y2 y3 y4 y5
     obtain⟨z0,z1,z2,z3,z4,z5,y0,y1,y2,y3,y4,y5⟩:=HCV.out.below zB.drew
     go_wp2_with (go_at_call 214;refine c84.mono ?_;rintro _ W5 ⟨⟨uu,rfl⟩,w1,b1,e5⟩;have H5:Hid (Below V.drew.heap.size V.drew w1∧W5=w1.setCell ⟨T,2,.none⟩ (.int .u64 (vaP P'))):=⟨b1,e5⟩;clear b1 e5)
     go_roundg (eM-3*P')
     case measure=>have h1:=HI.out.1;have h2:=HA.out.1;omega
     case rel=>
      obtain⟨b1,e5⟩:=H5.out
      have bV:Below V.heap.size V V.drew:=zB.drew
      have bw:=B3.out.trans ((bV.trans (b1.mono bV.size)).mono B3.out.size)
      have t1:=(HT3.out.below bV).below b1
      have hblk:∀ q,q≠T->W5.heap[q]? = w1.heap[q]?:=fun q hq=>by rw[e5];exact Below.heap_setCell w1 ⟨T,2,.none⟩ _ q hq
      have hmv:Mv Good wr W5:=by
       refine⟨by rw[e5];exact bw.os,by rw[e5];exact bw.tape,by rw[e5];exact bw.output,by rw[e5];simp only[World.size_setCell];exact bw.size,fun q hq hg=>?_⟩
       by_cases hqT:q=T
       ·subst hqT
        exact absurd HI.out.2.2.1 hg
       ·exact(hblk q hqT).trans (bw.block q hq)
      refine⟨3*P',nn,tmx,pre,by have:=HA.out.2.1;omega,?_,HP.out.2.2.2.2.mono _ _ _ _ HI.out.2.2.2.2.1 hmv HI.out.2.2.1,HP.out.2.2.2.2.mono _ _ _ _ HI.out.2.2.2.2.1 hmv HI.out.2.2.2.1,HP.out.2.2.2.2.move _ _ _ HI.out.2.2.2.2.1 hmv,?_⟩
      ·refine⟨⟨t1.ram.mem.keep (hblk p (Ne.symm HAP.out.1.1)) (hblk b (Ne.symm HAP.out.1.2.1)) (hblk mm (Ne.symm HAP.out.1.2.2)),t1.ram.nd,t1.ram.lt,t1.ram.thr⟩,?_,?_,by have h1:=t1.nc;have h2:=HA.out.1;omega,HI.out.2.1.ti.skip HP.out.1 (Nat.le_of_lt HA.out.1) HA.out.2.2⟩
       ·rw[show 3*P'/3=P' by omega,e5]
        exact t1.tour.set (vaP P')
       ·obtain⟨D,⟨es,cl,hb,rr⟩,h7⟩:=t1.map.own
        exact⟨D,⟨es,cl,(hblk m (Ne.symm hTm)).trans hb,rr⟩,h7⟩
      ·rw[<-evs_skip (Nat.le_of_lt HA.out.1) HA.out.2.1 HA.out.2.2]
       exact HI.out.2.2.2.2.2
  ·obtain rfl:c=eM:=by have:=HI.out.1;omega
   have hge:¬ (va<549755813888):=by have h1:=HV.out;rw[vaP_end] at h1;omega
   clear hv2
   go_upto_region 0 with fail
   refine wp_region_held_drew (S:=fun U=>U.cell? ⟨T,2,.none⟩=some (.int .u64 va)) (by kernel_rfl) kS (fun hHeld=>?_)
   refine aT 0 (.pointer (some ⟨T,0,.none⟩)) rfl ?_
   simp only[xX]
   refine aT 1 (.pointer (some ⟨T,0,.none⟩)) rfl ?_
   simp only[xX]
   refine aT 2 (.pointer (some ⟨T,2,.none⟩)) rfl ?_
   simp only[xX]
   refine aT 3 (.int .u64 va) rfl ?_
   simp only[xX]
   refine zR 4 rfl (fun K hK=>?_)
   go_simp
   go_at_call 110
   refine(c78 _).mono ?_
   rintro _ w1 ⟨rfl,e1⟩
   obtain rfl:wr.drew=w1:=e1.symm
   refine hK.out _ _ kS (fun hHeld=>?_)
   clear hK K
   try simp only[xX]
   refine aT 5 (.bool false) rfl ?_
   simp only[xX]
   refine wpAnyH_done (by kernel_rfl) ?_ _
   go_wp2_with fail
   go_end0
   have hev:=evs_end F lf eM zL
   have h9:=HI.out.2.2.2.2.2
   rw[hev,List.append_nil] at h9
   refine⟨⟨_,rfl⟩,.inl ?_⟩
   rw[<-h9]
   exact HP.out.2.2.2.2.move _ _ _ HI.out.2.2.2.2.1 (Mv.below B0.out)
end Rm
end Go.Proofs.YtabnipbdbnmmpaaGreatDoor
