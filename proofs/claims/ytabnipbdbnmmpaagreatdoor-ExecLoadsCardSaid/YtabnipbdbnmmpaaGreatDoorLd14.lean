import Derived.Test.YtabnipbdbnmmpaaGreatDoorLd01
import Derived.Test.YtabnipbdbnmmpaaGreatDoorLd13
import Derived.Laws.AppendOwn
set_option linter.unusedVariables false
set_option linter.unusedSimpArgs false
set_option maxHeartbeats 8000000
namespace Go.Proofs.YtabnipbdbnmmpaaGreatDoor
namespace Rm
open Go Go.RowKit
attribute [local go_sem] Oper.semAt_some
theorem nodeL_any {w:World} (a0 a1 a2 l e k lv a:Int) (h:(lv=0∧a=a0)∨(lv=1∧a=a1)∨(lv=2∧a=a2)) (ha:0<=a∧a<18446744073709551616):Calls Tryz.prog 190 #[.agg #[.int .u64 a0,.int .u64 a1,.int .u64 a2,.int .i64 l,.int .u64 e,.int .i64 k],.int .i64 lv] w fun e w'=>e = .returned (.int .u64 (a-a%4096))∧Below w.heap.size w w':=by
 rcases h with⟨rfl,rfl⟩|⟨rfl,rfl⟩|⟨rfl,rfl⟩
 all_goals
  go_enter Tryz.func190,Tryz.ntmps190
  go_wp2
  go_quiet (fail)
  go_wp2
  go_ret
  exact⟨rfl,(below1 _ _).trans (blw_drewN _ _ _)⟩
theorem ft_all (B:Nat->Int) (g:Nat):∀ k j:Nat,(∀ i,j<=i->i<j+k->hs (B (g*4096+i*8)) 1=false)->ft B g k j=512
 |0,j,h=>rfl
 |k+1,j,h=>by
  simp only[ft]
  rw[h j zL (by omega)]
  simp only[Bool.false_eq_true,if_false]
  exact ft_all B g k (j+1) (fun i h1 h2=>h i (by omega) (by omega))
section
variable {N:Nat} {L:List Nat} {B:Nat->Int} {F:Nat->Option Nat} {lf:Nat->Nat->Int}
theorem byte_even (hB:∀ i,0<=B i∧B i<256) (g i:Nat) (h:evn B g i=0):hs (B (g*4096+i*8)) 1=false:=by
 have h1:=num_odd B (g*4096+i*8)
 unfold evn at h
 rw[h] at h1
 have:=hB (g*4096+i*8)
 rw[hs_odd _ (by omega)]
 exact decide_eq_false (by omega)
theorem PT.ftL (h:PT N L B F lf) (hB:∀ i,0<=B i∧B i<256) {y q:Nat} (hy:513<=y) (hq:F y=some q):ft B q 512 0=512↔∀ k,k<512->lf y k=0:=by
 constructor
 ·intro e k hk
  exact h.noL hB hy hq hk (ft_none B q 512 0 k (by omega) (by omega) (by omega))
 ·intro e
  refine ft_all B q 512 0 fun i _ hi=>byte_even hB q i ?_
  rw[h.el y q hy hq i (by omega),e i (by omega)]
theorem PT.ftP (h:PT N L B F lf) (hN:N<=4096) (hB:∀ i,0<=B i∧B i<256) {x g:Nat} (hx:x<=512) (hg:F x=some g):ft B g 512 0=512↔∀ d,d<512->F (ch x d)=none:=by
 constructor
 ·intro e k hk
  exact h.noP hN hB hx hg hk (ft_none B g 512 0 k (by omega) (by omega) (by omega))
 ·intro e
  refine ft_all B g 512 0 fun i _ hi=>byte_even hB g i ?_
  rw[h.ep x g hx hg i (by omega),e i (by omega)]
  rfl
end
def PrR (L:List Nat) (F:Nat->Option Nat) (lf:Nat->Nat->Int) (va:Int) (q g:Nat) (L':List Nat) (F':Nat->Option Nat) (lf':Nat->Nat->Int):Prop:=
 (L'=L∧F'=F∧lf'=lf∧¬ ∀ k,k<512->lf (y0 va) k=0) ∨
 (L'=q :: L∧F'=setN F (y0 va)∧lf'=clrE lf (y0 va)∧(∀ k,k<512->lf (y0 va) k=0)∧¬ ∀ d,d<512->setN F (y0 va) (ch (y1 va) d)=none) ∨
 (L'=g :: q :: L∧F'=setN (setN F (y0 va)) (y1 va)∧lf'=clrE (clrE lf (y0 va)) (y1 va)∧(∀ k,k<512->lf (y0 va) k=0)∧∀ d,d<512->setN F (y0 va) (ch (y1 va) d)=none)
def PrS (N:Nat) (L:List Nat) (F:Nat->Option Nat) (lf:Nat->Nat->Int) (va:Int) (q g:Nat) (J:Nat) (L':List Nat) (B':Nat->Int) (F':Nat->Option Nat) (lf':Nat->Nat->Int):Prop:=
 PT N L' B' F' lf'∧(J=0∧L'=L∧F'=F∧lf'=lf ∨
 J=1∧L'=q :: L∧F'=setN F (y0 va)∧lf'=clrE lf (y0 va)∧(∀ k,k<512->lf (y0 va) k=0) ∨
 J=2∧L'=g :: q :: L∧F'=setN (setN F (y0 va)) (y1 va)∧lf'=clrE (clrE lf (y0 va)) (y1 va)∧(∀ k,k<512->lf (y0 va) k=0)∧∀ d,d<512->setN F (y0 va) (ch (y1 va) d)=none)
section
variable {w:World} {p b m N:Nat} {B:Nat->Int} {L:List Nat} {F:Nat->Option Nat} {lf:Nat->Nat->Int}
theorem store_r (h:Ram w p b m N B L) (f:Nat) (va:Int) (l:Int) (hf:ndB N L (ad f)=true):Calls Tryz.prog 160 #[.pointer (some ⟨p,0,.none⟩),.int .u64 (st (ad f) va l),.int .i64 8,.int .u64 0] w fun e w'=>e = .returned (.bool true)∧Ram w' p b m N (over B (f*4096+(ix va l).toNat*8) (le 0 8)) L∧Fra p b m w w':=by
 have:=store_nd h (ad f) va l 0 hf (by omega)
 rw[show fi (ad f)=f from fi_adr f] at this
 exact this
theorem st_node (f:Nat) (va l:Int) (N:Nat) (hf:f<N) (hN:N<=4096):st (ad f) va l-st (ad f) va l%4096=ad f∧0<=st (ad f) va l∧st (ad f) va l<18446744073709551616:=by
 have:=ix_b va l
 unfold st ad
 omega
theorem nd_of {f N:Nat} {L:List Nat} (h1:1<=f) (h2:f<N) (h3:f∉L) (hN:N<=4096):ndB N L (ad f)=true:=ndB_mk h1 h2 h3
end
end Rm
namespace Rm
open Go Go.RowKit
attribute [local go_sem] Oper.semAt_some
section
variable {w:World} {p b m N:Nat} {B:Nat->Int} {L:List Nat} {F:Nat->Option Nat} {lf:Nat->Nat->Int}
theorem PT.way (h:PT N L B F lf) (va:Int) (hl:lf (y0 va) (i0 va)≠0):∃ g q,F (y1 va)=some g∧F (y0 va)=some q:=by
 have h0:F (y0 va)≠none:=fun e=>hl (h.ln _ e _)
 have h1:F (y1 va)≠none:=h.up (y1 va) (i1 va) (y1_le va).1 (i1_lt va) h0
 cases e1:F (y1 va) with
 |none=>exact absurd e1 h1
 |some g=>
  cases e0:F (y0 va) with
  |none=>exact absurd e0 h0
  |some q=>exact⟨g,q,rfl,rfl⟩
end
end Rm
namespace Rm
open Go Go.RowKit Fz
attribute [local go_sem] Oper.semAt_some
def prt (V:Nat->Int) (s:Int):Nat->Nat
 |0=>0
 |n+1=>prt V s n+if ∀ k,k<n->V k/s≠V n/s then 1 else 0
end Rm
namespace Rm
open Go Go.RowKit Fz
attribute [local go_sem] Oper.semAt_some
abbrev Pg:=Int×Int×Int
def pc (x:Pg):List Value:=[.int .u64 x.1,.int .u64 x.2.1,.int .u64 x.2.2]
def pcs (l:List Pg):List Value:=l.flatMap pc
theorem pcs_app (l:List Pg) (x:Pg):pcs (l ++ [x])=pcs l ++ pc x:=by simp[pcs]
theorem pcs_get (l:List Pg) (i:Nat) (x:Pg) (h:l[i]? = some x):(pcs l)[i*3]? = some (.int .u64 x.1)∧(pcs l)[i*3+1]? = some (.int .u64 x.2.1)∧(pcs l)[i*3+2]? = some (.int .u64 x.2.2):=by
 induction l generalizing i with
 |nil=>simp at h
 |cons y l ih=>
  cases i with
  |zero=>
   simp only[List.getElem?_cons_zero,Option.some.injEq] at h
   subst h
   simp[pcs,pc]
  |succ i=>
   simp only[List.getElem?_cons_succ] at h
   obtain⟨h1,h2,h3⟩:=ih i h
   have e:pcs (y :: l)=pc y ++ pcs l:=by simp[pcs]
   have el:(pc y).length=3:=rfl
   rw[e]
   refine⟨?_,?_,?_⟩
   ·rw[List.getElem?_append_right (by rw[el];omega),el,show (i+1)*3-3=i*3 by omega];exact h1
   ·rw[List.getElem?_append_right (by rw[el];omega),el,show (i+1)*3+1-3=i*3+1 by omega];exact h2
   ·rw[List.getElem?_append_right (by rw[el];omega),el,show (i+1)*3+2-3=i*3+2 by omega];exact h3
def gV (l:List Pg) (i:Nat):Int:=(l.getD i (0,0,0)).1
theorem three_new (w:World) (a b c:Value) (t:TypeId):∀ j u,[a,b,c][j]? = some u->(w.alloc (.cells #[a,b,c] t)).cell? ((⟨w.heap.size,0,.none⟩:Addr).add j)=some u:=by
 have e0:(w.alloc (.cells #[a,b,c] t)).cell? ⟨w.heap.size,0,.none⟩=some a:=by simp
 have e1:(w.alloc (.cells #[a,b,c] t)).cell? ⟨w.heap.size,1,.none⟩=some b:=by simp
 have e2:(w.alloc (.cells #[a,b,c] t)).cell? ⟨w.heap.size,2,.none⟩=some c:=by simp
 intro j u hj
 match j,hj with
 |0,hj=>simp only[List.getElem?_cons_zero,Option.some.injEq] at hj;subst hj;exact e0
 |1,hj=>simp only[List.getElem?_cons_succ,List.getElem?_cons_zero,Option.some.injEq] at hj;subst hj;exact e1
 |2,hj=>simp only[List.getElem?_cons_succ,List.getElem?_cons_zero,Option.some.injEq] at hj;subst hj;exact e2
 |j+3,hj=>simp at hj
end Rm
namespace Rm
open Go Go.RowKit
def okP (x:Pg):Prop:=(0<=x.1∧x.1<274877906944∧x.1%4096=0)∧(0<=x.2.1∧x.2.1<72057594037927936∧x.2.1%4096=0)∧(0<=x.2.2∧x.2.2<256∧x.2.2%2=0)∧kd (toP x.2.1 x.2.2) 0=2
theorem okP.ne {x:Pg} (h:okP x):toP x.2.1 x.2.2≠0:=fun e=>by
 have:=h.2.2.2
 rw[e,kd_zero] at this
 omega
structure TL (F:Nat->Option Nat) (lf:Nat->Nat->Int) (l:List Pg):Prop where
 ok:∀ x∈l,okP x
 uniq:∀ x∈l,∀ y∈l,x.1=y.1->x=y
 leaf:∀ x∈l,lf (y0 x.1) (i0 x.1)=toP x.2.1 x.2.2
 only:∀ y k,513<=y->k<512->lf y k≠0 -> ∃ x∈l,y=y0 x.1∧k=i0 x.1
 n0:∀ y,513<=y->F y≠none -> ∃ k,k<512∧lf y k≠0
 n1:∀ x,1<=x->x<=512->F x≠none -> ∃ d,d<512∧F (ch x d)≠none
theorem TL.init (r:Nat):TL (fun x=>if x=0 then some r else none) (fun _ _=>0) []:=
 ⟨fun x h=>by simp at h,fun x h=>by simp at h,fun x h=>by simp at h,fun y k _ _ h=>absurd rfl h,fun y hy h=>by simp[show y≠0 by omega] at h,fun x hx _ h=>by simp[show x≠0 by omega] at h⟩
theorem va_inj {a c:Int} (ha:0<=a∧a<274877906944∧a%4096=0) (hc:0<=c∧c<274877906944∧c%4096=0) (h1:y0 a=y0 c) (h2:i0 a=i0 c):a=c:=by
 obtain⟨h3,h4⟩:=ch_inj (y1_le a).1 (y1_le c).1 (i1_lt a) (i1_lt c) h1
 obtain⟨_,h5⟩:=ch_inj (by omega) (by omega) (i2_lt a) (i2_lt c) h3
 have b0:=ix_b a 0
 have b1:=ix_b a 1
 have b2:=ix_b a 2
 have d0:=ix_b c 0
 have d1:=ix_b c 1
 have d2:=ix_b c 2
 unfold i0 at h2
 unfold i1 at h4
 unfold i2 at h5
 have e0:ix a 0=ix c 0:=by omega
 have e1:ix a 1=ix c 1:=by omega
 have e2:ix a 2=ix c 2:=by omega
 simp only[ix,spn0,spn1,show spn 2=1073741824 from rfl] at e0 e1 e2
 omega
section
variable {N:Nat} {L L':List Nat} {B B':Nat->Int} {F F':Nat->Option Nat} {lf lf':Nat->Nat->Int} {l:List Pg}
theorem TL.map {x:Pg} (h:TL F lf l) (hx:okP x) (hn:∀ y∈l,y.1≠x.1) (hl:LP N x.1 (toP x.2.1 x.2.2) L B F lf L' B' F'):TL F' (setE lf (y0 x.1) (i0 x.1) (toP x.2.1 x.2.2)) (l ++ [x]):=by
 have hy0:=y0_ge x.1
 have hy1:=y1_le x.1
 have hne:=hx.ne
 refine⟨fun y hy=>?_,fun y hy z hz e=>?_,fun y hy=>?_,fun y k h1 h2 h3=>?_,fun y h1 h2=>?_,fun y h0 h1 h2=>?_⟩
 ·rcases List.mem_append.1 hy with h1|h1
  ·exact h.ok y h1
  ·rw[List.mem_singleton.1 h1];exact hx
 ·rcases List.mem_append.1 hy with h1|h1<;>rcases List.mem_append.1 hz with h2|h2
  ·exact h.uniq y h1 z h2 e
  ·rw[List.mem_singleton.1 h2] at e;exact absurd e (hn y h1)
  ·rw[List.mem_singleton.1 h1] at e;exact absurd e.symm (hn z h2)
  ·rw[List.mem_singleton.1 h1,List.mem_singleton.1 h2]
 ·unfold setE
  rcases List.mem_append.1 hy with h1|h1
  ·rw[if_neg (fun e=>hn y h1 (va_inj (h.ok y h1).1 hx.1 e.1 e.2))]
   exact h.leaf y h1
  ·rw[List.mem_singleton.1 h1,if_pos ⟨rfl,rfl⟩]
 ·unfold setE at h3
  by_cases e:y=y0 x.1∧k=i0 x.1
  ·exact⟨x,List.mem_append_right _ (List.mem_singleton.2 rfl),e.1,e.2⟩
  ·rw[if_neg e] at h3
   obtain⟨z,hz,e1,e2⟩:=h.only y k h1 h2 h3
   exact⟨z,List.mem_append_left _ hz,e1,e2⟩
 ·by_cases e:y=y0 x.1
  ·exact⟨i0 x.1,i0_lt _,by unfold setE;rw[if_pos ⟨e,rfl⟩];exact hne⟩
  ·cases hf:F' y with
   |none=>exact absurd hf h2
   |some f=>
    rcases hl.new y f hf with h3|⟨_,_,h3⟩
    ·obtain⟨k,hk,h4⟩:=h.n0 y h1 (by rw[h3];simp)
     exact⟨k,hk,by unfold setE;rw[if_neg (fun e2=>e e2.1)];exact h4⟩
    ·omega
 ·cases hf:F' y with
  |none=>exact absurd hf h2
  |some f=>
   rcases hl.new y f hf with h3|⟨_,_,h3⟩
   ·obtain⟨d,hd,h4⟩:=h.n1 y h0 h1 (by rw[h3];simp)
    refine⟨d,hd,fun e=>?_⟩
    cases hc:F (ch y d) with
    |none=>exact h4 hc
    |some g=>rw[hl.ext _ g hc] at e;cases e
   ·have e1:y=y1 x.1:=by omega
    obtain⟨g,q,_,h5⟩:=hl.has
    refine⟨i1 x.1,i1_lt _,?_⟩
    rw[e1,show ch (y1 x.1) (i1 x.1)=y0 x.1 from rfl,h5]
    simp
theorem TL.unmap {x:Pg} {q g:Nat} {lm:List Pg} (h:TL F lf l) (hx:x∈l) (hm:∀ y,y∈lm↔y∈l∧y≠x) (hr:PrR L F (setE lf (y0 x.1) (i0 x.1) 0) x.1 q g L' F' lf'):TL F' lf' lm:=by
 have hy0:=y0_ge x.1
 have hy1:=y1_le x.1
 have hlf:∀ y k,513<=y->k<512->lf' y k=setE lf (y0 x.1) (i0 x.1) 0 y k:=fun y k h1 h2=>by
  rcases hr with⟨_,_,rfl,_⟩|⟨_,_,rfl,hz,_⟩|⟨_,_,rfl,hz,_⟩
  ·rfl
  ·unfold clrE
   split
   ·next e=>rw[e];exact(hz k h2).symm
   ·rfl
  ·unfold clrE
   rw[if_neg (by omega)]
   split
   ·next e=>rw[e];exact(hz k h2).symm
   ·rfl
 refine⟨fun y hy=>h.ok y ((hm y).1 hy).1,fun y hy z hz e=>h.uniq y ((hm y).1 hy).1 z ((hm z).1 hz).1 e,fun y hy=>?_,fun y k h1 h2 h3=>?_,fun y h1 h2=>?_,fun y h0 h1 h2=>?_⟩
 ·obtain⟨h1,h2⟩:=(hm y).1 hy
  rw[hlf _ _ (y0_ge _) (i0_lt _)]
  unfold setE
  rw[if_neg (fun e=>h2 (h.uniq y h1 x hx (va_inj (h.ok y h1).1 (h.ok x hx).1 e.1 e.2)))]
  exact h.leaf y h1
 ·rw[hlf y k h1 h2] at h3
  unfold setE at h3
  by_cases e:y=y0 x.1∧k=i0 x.1
  ·rw[if_pos e] at h3;exact absurd rfl h3
  ·rw[if_neg e] at h3
   obtain⟨z,hz,e1,e2⟩:=h.only y k h1 h2 h3
   exact⟨z,(hm z).2 ⟨hz,fun e3=>e (by rw[e1,e2,e3];exact⟨rfl,rfl⟩)⟩,e1,e2⟩
 ·have key:y≠y0 x.1->F y≠none -> ∃ k,k<512∧lf' y k≠0:=fun e h3=>by
   obtain⟨k,hk,h4⟩:=h.n0 y h1 h3
   refine⟨k,hk,?_⟩
   rw[hlf y k h1 hk]
   unfold setE
   rw[if_neg (fun e2=>e e2.1)]
   exact h4
  rcases hr with⟨_,rfl,rfl,hz⟩|⟨_,rfl,rfl,hz,_⟩|⟨_,rfl,rfl,hz,_⟩
  ·by_cases e:y=y0 x.1
   ·subst e
    refine Classical.byContradiction fun hc=>hz fun k hk=>Classical.byContradiction fun h5=>hc ⟨k,hk,h5⟩
   ·exact key e h2
  ·by_cases e:y=y0 x.1
   ·rw[e] at h2;unfold setN at h2;rw[if_pos rfl] at h2;exact absurd rfl h2
   ·unfold setN at h2;rw[if_neg e] at h2;exact key e h2
  ·by_cases e:y=y0 x.1
   ·rw[e] at h2;unfold setN at h2;rw[if_neg (by omega),if_pos rfl] at h2;exact absurd rfl h2
   ·unfold setN at h2;rw[if_neg (by omega),if_neg e] at h2;exact key e h2
 ·rcases hr with⟨_,rfl,rfl,hz⟩|⟨_,rfl,rfl,hz,hd⟩|⟨_,rfl,rfl,hz,hd⟩
  ·exact h.n1 y h0 h1 h2
  ·by_cases e:y=y1 x.1
   ·subst e
    refine Classical.byContradiction fun hc=>hd fun d hd2=>Classical.byContradiction fun h5=>hc ⟨d,hd2,h5⟩
   ·have h3:F y≠none:=by unfold setN at h2;rwa [if_neg (by omega)] at h2
    obtain⟨d,hd2,h4⟩:=h.n1 y h0 h1 h3
    refine⟨d,hd2,?_⟩
    unfold setN
    rw[if_neg (show ¬ ch y d=y0 x.1 from fun e2=>e (ch_inj h1 hy1.1 hd2 (i1_lt _) e2).1)]
    exact h4
  ·by_cases e:y=y1 x.1
   ·rw[e] at h2;unfold setN at h2;rw[if_pos rfl] at h2;exact absurd rfl h2
   ·have h3:F y≠none:=by unfold setN at h2;rwa [if_neg e,if_neg (by omega)] at h2
    obtain⟨d,hd2,h4⟩:=h.n1 y h0 h1 h3
    refine⟨d,hd2,?_⟩
    unfold setN
    rw[if_neg (fun e2=>by have:=e2;unfold ch at this;rw[if_neg (by omega)] at this;omega),if_neg (show ¬ ch y d=y0 x.1 from fun e2=>e (ch_inj h1 hy1.1 hd2 (i1_lt _) e2).1)]
    exact h4
end
end Rm
namespace Rm
open Go Go.RowKit
def cnt (M:Nat) (p:Nat->Bool):Nat:=(List.range M).countP p
theorem cnt_succ (M:Nat) (p:Nat->Bool):cnt (M+1) p=cnt M p+if p M=true then 1 else 0:=by
 unfold cnt
 rw[List.range_succ,List.countP_append,List.countP_singleton]
theorem cnt_ext {M:Nat} {p q:Nat->Bool} (h:∀ v,v<M->p v=q v):cnt M p=cnt M q:=by
 induction M with
 |zero=>rfl
 |succ M ih=>rw[cnt_succ,cnt_succ,ih (fun v hv=>h v (by omega)),h M (by omega)]
theorem cnt_add {M v0:Nat} {p q:Nat->Bool} (hv:v0<M) (h0:p v0=false) (h1:q v0=true) (h:∀ v,v<M->v≠v0->q v=p v):cnt M q=cnt M p+1:=by
 induction M with
 |zero=>omega
 |succ M ih=>
  rw[cnt_succ,cnt_succ]
  by_cases e:v0=M
  ·subst e
   rw[h0,h1,cnt_ext (fun v hv=>h v (by omega) (by omega))]
   simp
  ·rw[ih (by omega) (fun v hv hne=>h v (by omega) hne),h M (by omega) (fun e2=>e e2.symm)]
   omega
theorem cnt_zero (M:Nat):cnt M (fun _=>false)=0:=by
 induction M with
 |zero=>rfl
 |succ M ih=>rw[cnt_succ,ih];simp
theorem prt_cnt (V:Nat->Int) (s:Int) (M:Nat):∀ n,(∀ i,i<n->0<=V i/s∧V i/s<M)->prt V s n=cnt M (fun v=>decide (∃ i:Nat,i<n∧V i/s=(v:Int)))
 |0,h=>by
  have:(fun v:Nat=>decide (∃ i:Nat,i<0∧V i/s=(v:Int)))=fun _=>false:=by
   funext v
   exact decide_eq_false (fun ⟨i,hi,_⟩=>by omega)
  rw[this,cnt_zero]
  rfl
 |n+1,h=>by
  have ih:=prt_cnt V s M n (fun i hi=>h i (by omega))
  have hb:=h n (by omega)
  unfold prt
  rw[ih]
  by_cases hd:∀ k,k<n->V k/s≠V n/s
  ·rw[if_pos hd]
   refine(cnt_add (v0:=(V n/s).toNat) (by omega) ?_ ?_ (fun v hv hne=>?_)).symm
   ·exact decide_eq_false (fun ⟨i,hi,e⟩=>hd i hi (by omega))
   ·exact decide_eq_true ⟨n,by omega,by omega⟩
   ·refine decide_eq_decide.2 ⟨fun ⟨i,hi,e⟩=>⟨i,?_,e⟩,fun ⟨i,hi,e⟩=>⟨i,by omega,e⟩⟩
    by_cases e2:i=n
    ·subst e2;omega
    ·omega
  ·rw[if_neg hd,Nat.add_zero]
   refine cnt_ext fun v hv=>decide_eq_decide.2 ⟨fun ⟨i,hi,e⟩=>⟨i,by omega,e⟩,fun ⟨i,hi,e⟩=>?_⟩
   by_cases e2:i=n
   ·subst e2
    obtain⟨k,hk⟩:=Classical.not_forall.1 hd
    obtain⟨hk1,hk2⟩:=Classical.not_imp.1 hk
    exact⟨k,hk1,by rw[Classical.not_not.1 hk2];exact e⟩
   ·exact⟨i,by omega,e⟩
end Rm
namespace Rm
open Go Go.RowKit
attribute [local irreducible] eM
def isP (F:Nat->Option Nat) (lf:Nat->Nat->Int) (c:Nat):Bool:=((ev F lf c).bind fun x=>if x.p.k=3 then some (adE x.p.e) else none).isSome
theorem ndl_len (r:Nat) (F:Nat->Option Nat) (lf:Nat->Nat->Int):(ndl r (evs F lf 0)).length=1+cnt eM (isP F lf):=by
 unfold ndl evs cnt
 rw[List.length_cons,List.filterMap_filterMap,List.length_filterMap_eq_countP,Nat.sub_zero,<-List.range_eq_range']
 rw[Nat.add_comm]
 rfl
theorem nK_lt (x:Nat) (h0:x≠0) (h:x<262657):nK x<402653184:=by
 unfold nK nP
 split<;>omega
theorem cnt_split (a b:Nat) (p:Nat->Bool):cnt (a+b) p=cnt a p+cnt b (fun v=>p (a+v)):=by
 induction b with
 |zero=>rfl
 |succ b ih=>rw[<-Nat.add_assoc,cnt_succ,cnt_succ,ih];omega
theorem cnt_split3 (a b c n:Nat) (h:n=a+b+c) (p:Nat->Bool):cnt n p=cnt a p+cnt b (fun v=>p (a+v))+cnt c (fun v=>p (a+b+v)):=by
 subst h
 rw[cnt_split,cnt_split]
section
variable {N:Nat} {L:List Nat} {B:Nat->Int} {F:Nat->Option Nat} {lf:Nat->Nat->Int}
theorem isP_iff (h:PT N L B F lf) (c:Nat) (hc:c<402653184):isP F lf c=true↔∃ x,x<262657∧x≠0∧F x≠none∧nK x=c:=by
 constructor
 ·intro hp
  unfold isP ev at hp
  split at hp
  ·next e=>
   split at hp
   ·next e2=>
    cases hf:F (x1 (c/3)) with
    |none=>rw[hf] at hp;simp at hp
    |some g=>exact⟨x1 (c/3),h.dom _ (by rw[hf];simp),by unfold x1;omega,by rw[hf];simp,by rw[nK_1 _ (by omega)];omega⟩
   ·simp at hp
  ·next e=>
   split at hp
   ·next e1=>
    split at hp
    ·next e2=>
     cases hf:F (x0 (c/3)) with
     |none=>rw[hf] at hp;simp at hp
     |some g=>exact⟨x0 (c/3),h.dom _ (by rw[hf];simp),by unfold x0;omega,by rw[hf];simp,by rw[nK_0 _ (by omega)];omega⟩
    ·simp at hp
   ·next e1=>
    cases hf:F (x1 (c/3)) with
    |none=>rw[hf] at hp;simp at hp
    |some g=>
     cases hg:F (x0 (c/3)) with
     |none=>rw[hf,hg] at hp;simp at hp
     |some q=>
      rw[hf,hg] at hp
      simp only[Option.bind_some] at hp
      split at hp
      ·simp at hp
      ·simp at hp
 ·rintro⟨x,hx,h0,hf,rfl⟩
  cases hq:F x with
  |none=>exact absurd hq hf
  |some f=>
   have hne:=ev_node (lf:=lf) h h0 hq
   have hmod:=nK_mod x
   unfold isP
   unfold ev at hne ⊢
   split
   ·next e=>
    rw[if_pos e] at hne
    split
    ·next e2=>
     rw[if_pos e2] at hne
     cases hg:F (x1 (nK x/3)) with
     |none=>rw[hg] at hne;simp at hne
     |some g=>simp
    ·next e2=>rw[if_neg e2] at hne;exact absurd rfl hne
   ·next e=>
    rw[if_neg e] at hne
    split
    ·next e1=>
     rw[if_pos e1] at hne
     split
     ·next e2=>
      rw[if_pos e2] at hne
      cases hg:F (x1 (nK x/3)) with
      |none=>rw[hg] at hne;simp at hne
      |some g=>
       rw[hg] at hne
       cases hk:F (x0 (nK x/3)) with
       |none=>rw[hk] at hne;simp at hne
       |some q=>simp
     ·next e2=>rw[if_neg e2] at hne;exact absurd rfl hne
    ·next e1=>omega
theorem cnt_nodes (F:Nat->Option Nat):∀ m,m<=262657->cnt 402653184 (fun c=>decide (∃ x:Nat,x<m∧x≠0∧F x≠none∧nK x=c))=cnt m (fun x=>decide (x≠0∧F x≠none))
 |0,_=>by
  have:(fun c:Nat=>decide (∃ x:Nat,x<0∧x≠0∧F x≠none∧nK x=c))=fun _=>false:=by
   funext c
   exact decide_eq_false (fun ⟨i,hi,_⟩=>by omega)
  rw[this,cnt_zero]
  rfl
 |m+1,hm=>by
  have ih:=cnt_nodes F m (by omega)
  rw[cnt_succ m,<-ih]
  by_cases e:m≠0∧F m≠none
  ·rw[if_pos (decide_eq_true e)]
   refine cnt_add (v0:=nK m) (nK_lt m e.1 (by omega)) ?_ ?_ (fun v hv hne=>?_)
   ·exact decide_eq_false (fun ⟨x,hx,h0,_,e2⟩=>by have:=nK_inj h0 e.1 e2;omega)
   ·exact decide_eq_true ⟨m,by omega,e.1,e.2,rfl⟩
   ·refine decide_eq_decide.2 ⟨fun ⟨x,hx,h1⟩=>⟨x,?_,h1⟩,fun ⟨x,hx,h1⟩=>⟨x,by omega,h1⟩⟩
    by_cases e2:x=m
    ·subst e2;exact absurd h1.2.2.symm hne
    ·omega
  ·rw[if_neg (by simpa using e)]
   refine Eq.trans (cnt_ext fun v hv=>decide_eq_decide.2 ⟨fun ⟨x,hx,h1⟩=>⟨x,?_,h1⟩,fun ⟨x,hx,h1⟩=>⟨x,by omega,h1⟩⟩) (Nat.add_zero _).symm
   by_cases e2:x=m
   ·subst e2;exact absurd ⟨h1.1,h1.2.1⟩ e
   ·omega
theorem ndl_nodes (h:PT N L B F lf) (r:Nat):(ndl r (evs F lf 0)).length=1+cnt 512 (fun v=>decide (F (1+v)≠none))+cnt 262144 (fun v=>decide (F (513+v)≠none)):=by
 have a0:cnt eM (isP F lf)=cnt 402653184 (isP F lf):=congrArg (fun n=>cnt n (isP F lf)) eM_val
 have a1:cnt 402653184 (isP F lf)=cnt 402653184 (fun c=>decide (∃ x:Nat,x<262657∧x≠0∧F x≠none∧nK x=c)):=cnt_ext fun c hc=>by
  have:=isP_iff h c hc
  cases hb:isP F lf c with
  |true=>exact(decide_eq_true (this.1 hb)).symm
  |false=>exact(decide_eq_false (fun e=>by rw[this.2 e] at hb;cases hb)).symm
 have a2:=cnt_nodes F 262657 zL
 have a3:=cnt_split3 1 512 262144 262657 (by omega) (fun x=>decide (x≠0∧F x≠none))
 have a4:=ndl_len r F lf
 have e1:cnt 1 (fun x=>decide (x≠0∧F x≠none))=0:=by simp[cnt]
 have e2:cnt 512 (fun v=>decide (1+v≠0∧F (1+v)≠none))=cnt 512 (fun v=>decide (F (1+v)≠none)):=cnt_ext fun v hv=>decide_eq_decide.2 ⟨fun e=>e.2,fun e=>⟨by omega,e⟩⟩
 have e3:cnt 262144 (fun v=>decide (1+512+v≠0∧F (1+512+v)≠none))=cnt 262144 (fun v=>decide (F (513+v)≠none)):=cnt_ext fun v hv=>decide_eq_decide.2 ⟨fun e=>e.2,fun e=>⟨by omega,e⟩⟩
 rw[a4,a0,a1,a2,a3,e1,e2,e3,Nat.zero_add,Nat.add_assoc]
end
end Rm
namespace Rm
open Go Go.RowKit
theorem y1_val (va:Int) (h:0<=va∧va<274877906944):y1 va=1+(va/1073741824).toNat:=by
 unfold y1 i2 ch ix
 rw[show spn 2=1073741824 from rfl]
 simp only[if_true]
 omega
theorem y0_val (va:Int) (h:0<=va∧va<274877906944):y0 va=513+(va/2097152).toNat:=by
 have h1:=y1_val va h
 unfold y0 i1 ix
 rw[h1,spn1]
 unfold ch
 rw[if_neg (by omega)]
 omega
theorem mem_idx (l:List Pg) (P:Int->Prop):(∃ i,i<l.length∧P (gV l i))↔∃ x∈l,P x.1:=by
 constructor
 ·rintro⟨i,hi,h⟩
  refine⟨l[i],List.getElem_mem hi,?_⟩
  unfold gV at h
  rw[List.getD_eq_getElem?_getD,List.getElem?_eq_getElem hi] at h
  exact h
 ·rintro⟨x,hx,h⟩
  obtain⟨i,hi,rfl⟩:=List.getElem_of_mem hx
  refine⟨i,hi,?_⟩
  unfold gV
  rw[List.getD_eq_getElem?_getD,List.getElem?_eq_getElem hi]
  exact h
section
variable {N:Nat} {L:List Nat} {B:Nat->Int} {F:Nat->Option Nat} {lf:Nat->Nat->Int} {l:List Pg}
theorem TL.has0 (h:TL F lf l) (hP:PT N L B F lf) (v:Nat):F (513+v)≠none↔∃ x∈l,x.1/2097152=v:=by
 constructor
 ·intro hf
  obtain⟨k,hk,hz⟩:=h.n0 (513+v) (by omega) hf
  obtain⟨x,hx,e,_⟩:=h.only (513+v) k (by omega) hk hz
  have:=(h.ok x hx).1
  rw[y0_val x.1 ⟨this.1,this.2.1⟩] at e
  exact⟨x,hx,by omega⟩
 ·rintro⟨x,hx,e⟩
  have:=(h.ok x hx).1
  obtain⟨g,q,_,hq⟩:=hP.way x.1 (by rw[h.leaf x hx];exact(h.ok x hx).ne)
  rw[y0_val x.1 ⟨this.1,this.2.1⟩,show (x.1/2097152).toNat=v by omega] at hq
  rw[hq]
  simp
theorem TL.has1 (h:TL F lf l) (hP:PT N L B F lf) (v:Nat) (hv:v<512):F (1+v)≠none↔∃ x∈l,x.1/1073741824=v:=by
 constructor
 ·intro hf
  obtain⟨d,hd,hc⟩:=h.n1 (1+v) (by omega) (by omega) hf
  have hge:513<=ch (1+v) d:=by unfold ch;rw[if_neg (by omega)];omega
  obtain⟨k,hk,hz⟩:=h.n0 _ hge hc
  obtain⟨x,hx,e,_⟩:=h.only _ k hge hk hz
  have:=(h.ok x hx).1
  have e2:=(ch_inj (by omega) (y1_le x.1).1 hd (i1_lt _) e).1
  rw[y1_val x.1 ⟨this.1,this.2.1⟩] at e2
  exact⟨x,hx,by omega⟩
 ·rintro⟨x,hx,e⟩
  have:=(h.ok x hx).1
  obtain⟨g,q,hg,_⟩:=hP.way x.1 (by rw[h.leaf x hx];exact(h.ok x hx).ne)
  rw[y1_val x.1 ⟨this.1,this.2.1⟩,show (x.1/1073741824).toNat=v by omega] at hg
  rw[hg]
  simp
theorem TL.nodes (h:TL F lf l) (hP:PT N L B F lf) (r:Nat):(ndl r (evs F lf 0)).length=1+prt (gV l) 1073741824 l.length+prt (gV l) 2097152 l.length:=by
 have hb:∀ i,i<l.length->0<=gV l i∧gV l i<274877906944:=fun i hi=>by
  unfold gV
  rw[List.getD_eq_getElem?_getD,List.getElem?_eq_getElem hi]
  have:=(h.ok l[i] (List.getElem_mem hi)).1
  exact⟨this.1,this.2.1⟩
 have p1:=prt_cnt (gV l) 1073741824 512 l.length (fun i hi=>by have:=hb i hi;omega)
 have p0:=prt_cnt (gV l) 2097152 262144 l.length (fun i hi=>by have:=hb i hi;omega)
 have q1:cnt 512 (fun v=>decide (F (1+v)≠none))=cnt 512 (fun v=>decide (∃ i:Nat,i<l.length∧gV l i/1073741824=(v:Int))):=cnt_ext fun v hv=>decide_eq_decide.2 ((h.has1 hP v hv).trans (mem_idx l (fun a=>a/1073741824=(v:Int))).symm)
 have q0:cnt 262144 (fun v=>decide (F (513+v)≠none))=cnt 262144 (fun v=>decide (∃ i:Nat,i<l.length∧gV l i/2097152=(v:Int))):=cnt_ext fun v hv=>decide_eq_decide.2 ((h.has0 hP v).trans (mem_idx l (fun a=>a/2097152=(v:Int))).symm)
 rw[ndl_nodes hP r,q1,q0,p1,p0]
end
end Rm
namespace Rm
open Go Go.RowKit
def need (F:Nat->Option Nat) (va:Int):Nat:=if F (y1 va)=none then 2 else if F (y0 va)=none then 1 else 0
def nodesF (F:Nat->Option Nat):Nat:=cnt 512 (fun v=>decide (F (1+v)≠none))+cnt 262144 (fun v=>decide (F (513+v)≠none))
theorem y0_lt (va:Int):y0 va<513+262144:=by
 have h1:=y1_le va
 have h2:=i1_lt va
 unfold y0 ch
 rw[if_neg (by omega)]
 omega
theorem nodes_y0 {F F':Nat->Option Nat} {y:Nat} (hy:513<=y∧y<513+262144) (h0:F y=none) (h1:F' y≠none) (h:∀ z,z≠y->(F' z=none↔F z=none)):nodesF F'=nodesF F+1:=by
 unfold nodesF
 rw[cnt_ext (M:=512) (p:=fun v=>decide (F' (1+v)≠none)) (q:=fun v=>decide (F (1+v)≠none)) (fun v hv=>decide_eq_decide.2 (not_congr (h _ (by omega)))),
  cnt_add (M:=262144) (v0:=y-513) (p:=fun v=>decide (F (513+v)≠none)) (q:=fun v=>decide (F' (513+v)≠none)) (by omega) (by rw[show 513+(y-513)=y by omega];simp[h0]) (by rw[show 513+(y-513)=y by omega];simpa using h1) (fun v hv hne=>decide_eq_decide.2 (not_congr (h _ (by omega))))]
 omega
theorem nodes_y1 {F F':Nat->Option Nat} {y:Nat} (hy:1<=y∧y<=512) (h0:F y=none) (h1:F' y≠none) (h:∀ z,z≠y->(F' z=none↔F z=none)):nodesF F'=nodesF F+1:=by
 unfold nodesF
 rw[cnt_ext (M:=262144) (p:=fun v=>decide (F' (513+v)≠none)) (q:=fun v=>decide (F (513+v)≠none)) (fun v hv=>decide_eq_decide.2 (not_congr (h _ (by omega)))),
  cnt_add (M:=512) (v0:=y-1) (p:=fun v=>decide (F (1+v)≠none)) (q:=fun v=>decide (F' (1+v)≠none)) (by omega) (by rw[show 1+(y-1)=y by omega];simp[h0]) (by rw[show 1+(y-1)=y by omega];simpa using h1) (fun v hv hne=>decide_eq_decide.2 (not_congr (h _ (by omega))))]
 omega
section
variable {N:Nat} {L L':List Nat} {B B':Nat->Int} {F F':Nat->Option Nat} {lf lf':Nat->Nat->Int}
theorem TL.nodesF {l:List Pg} (h:TL F lf l) (hP:PT N L B F lf):nodesF F=prt (gV l) 1073741824 l.length+prt (gV l) 2097152 l.length:=by
 have h1:=h.nodes hP 0
 have h2:=ndl_nodes hP 0
 unfold Go.Proofs.YtabnipbdbnmmpaaGreatDoor.Rm.nodesF
 omega
theorem PrR.len {va:Int} {q g:Nat} (h:PrR L F lf va q g L' F' lf') (hg:F (y1 va)=some g) (hq:F (y0 va)=some q):L'.length+nodesF F'=L.length+nodesF F:=by
 have hy0:=y0_ge va
 have hy1:=y1_le va
 have hlt:=y0_lt va
 have e1:nodesF F=nodesF (setN F (y0 va))+1:=nodes_y0 (y:=y0 va) ⟨hy0,hlt⟩ (by unfold setN;rw[if_pos rfl]) (by rw[hq];simp) (fun z hz=>by unfold setN;rw[if_neg hz])
 rcases h with⟨rfl,rfl,_⟩|⟨rfl,rfl,_⟩|⟨rfl,rfl,_⟩
 ·rfl
 ·rw[List.length_cons]
  omega
 ·have e2:nodesF (setN F (y0 va))=nodesF (setN (setN F (y0 va)) (y1 va))+1:=nodes_y1 (y:=y1 va) ⟨hy1.2,hy1.1⟩ (by unfold setN;rw[if_pos rfl]) (by unfold setN;rw[if_neg (by omega),hg];simp) (fun z hz=>by
   show _↔setN (setN F (y0 va)) (y1 va) z=none
   unfold setN
   rw[if_neg hz])
  rw[List.length_cons,List.length_cons]
  omega
theorem LP.len {va leaf:Int} (h:LP N va leaf L B F lf L' B' F') (hP:PT N L B F lf):nodesF F'=nodesF F+need F va:=by
 have hy0:=y0_ge va
 have hy1:=y1_le va
 have hlt:=y0_lt va
 obtain⟨g,q,hg,hq⟩:=h.has
 have same:∀ z,z≠y1 va->z≠y0 va->(F' z=none↔F z=none):=fun z h1 h2=>by
  constructor
  ·intro e
   cases hf:F z with
   |none=>rfl
   |some f=>rw[h.ext z f hf] at e;cases e
  ·intro e
   cases hf:F' z with
   |none=>rfl
   |some f=>
    rcases h.new z f hf with h3|⟨_,_,h3⟩
    ·rw[e] at h3;cases h3
    ·omega
 unfold need
 cases e1:F (y1 va) with
 |none=>
  have e0:F (y0 va)=none:=by
   cases hf:F (y0 va) with
   |none=>rfl
   |some f=>exact absurd e1 (hP.up (y1 va) (i1 va) hy1.1 (i1_lt va) (by rw[show ch (y1 va) (i1 va)=y0 va from rfl,hf];simp))
  rw[if_pos rfl]
  have a1:nodesF (setO F (y1 va) g)=nodesF F+1:=nodes_y1 (y:=y1 va) ⟨hy1.2,hy1.1⟩ e1 (by unfold setO;rw[if_pos rfl];simp) (fun z hz=>by unfold setO;rw[if_neg hz])
  have a2:nodesF F'=nodesF (setO F (y1 va) g)+1:=nodes_y0 (y:=y0 va) ⟨hy0,hlt⟩ (by unfold setO;rw[if_neg (by omega)];exact e0) (by rw[hq];simp) (fun z hz=>by
   unfold setO
   split
   ·next e=>rw[e,hg]
   ·next e=>exact same z e hz)
  omega
 |some g0=>
  rw[if_neg (by simp)]
  have s1:F' (y1 va)=some g0:=h.ext _ _ e1
  cases e0:F (y0 va) with
  |none=>
   rw[if_pos rfl]
   exact nodes_y0 (y:=y0 va) ⟨hy0,hlt⟩ e0 (by rw[hq];simp) (fun z hz=>by
    by_cases e:z=y1 va
    ·rw[e,s1,e1]
    ·exact same z e hz)
  |some q0=>
   rw[if_neg (by simp)]
   have s0:F' (y0 va)=some q0:=h.ext _ _ e0
   unfold nodesF
   have all:∀ z,F' z=none↔F z=none:=fun z=>by
    by_cases e:z=y1 va
    ·rw[e,s1,e1]
    ·by_cases e2:z=y0 va
     ·rw[e2,s0,e0]
     ·exact same z e e2
   rw[cnt_ext (M:=512) (p:=fun v=>decide (F' (1+v)≠none)) (q:=fun v=>decide (F (1+v)≠none)) (fun v hv=>decide_eq_decide.2 (not_congr (all _))),cnt_ext (M:=262144) (p:=fun v=>decide (F' (513+v)≠none)) (q:=fun v=>decide (F (513+v)≠none)) (fun v hv=>decide_eq_decide.2 (not_congr (all _)))]
   exact(Nat.add_zero _).symm
end
end Rm
namespace Rm
open Go Go.RowKit Go.Shelf
def SeqK {α:Type} (n g:Nat) (lb:Array Value) (encs:α -> Array Value) (L:List α) (p b mm:Nat) (w:World):Prop:=
 ∀ (l:Nat) (J Jx:List α -> World->Prop) (Good:Nat->World->Prop) (W:World),Below w.heap.size w W->GdJ Good J ->
  (∀ k pre x W1,J pre W1->pre ++ [x] <+: L->YieldAt Fence.wide k Tryz.prog l (encs x) W1 fun e W'=>(e = .returned (.bool true)∧J (pre ++ [x]) W'∧KpG Good p b mm W1 W')∨(e = .returned (.bool false)∧Jx (pre ++ [x]) W'∧KpG Good p b mm W1 W')) ->
  (∀ pre W1 W2,Jx pre W1->Mv Good W1 W2->Jx pre W2)->J [] W ->
  CallsIn Fence.wide n Tryz.prog g (#[.func (.yield l) #[] #[]] ++ lb) W fun e W'=>(∃ v,e = .returned v)∧(J L W'∨∃ pre,pre <+: L∧Jx pre W')
theorem range_K {n:Nat} {α:Type} {g:Operand} {ps:Array Tmp} {assign body:Code} {Q:Exit->Act->World->Prop} {a:Act} {w:World}
  (h1:1<=n) {gf:Nat} {lb:Array Value} (hg:a.eval g = .func (.func gf) #[] lb) (eg:∀ args w,(callFunc gf args).run Tryz.prog w = .ok (.enter gf args) w)
  {encs:α -> Array Value} {L:List α} {w0:World} {p b mm:Nat} (hb0:Below w0.heap.size w0 w) (hseq:SeqK (n-1) gf lb encs L p b mm w0) (hpb:p<w.heap.size∧b<w.heap.size∧mm<w.heap.size)
  (hps:∀ x,(encs x).size=ps.size) (I:List α -> World->Prop) (Good:Nat->World->Prop) (hI:OwnFrom w.heap.size I) (gd:GdJ Good I)
  (hgp:∀ s k W l o o',I s W->Good k W->k≠l->w.heap.size<=l->W.heap[l]? = some o->o.isCells=false->Good k (W.putObj l o'))
  (h0:I [] w) (Ix:List α -> World->Prop) (hIx:∀ pre W l o o',Ix pre W->w.heap.size<=l->W.heap[l]? = some o->o.isCells=false->Ix pre (W.putObj l o')) (hIxm:∀ pre W1 W2,Ix pre W1->Mv Good W1 W2->Ix pre W2)
  (hgx:∀ s k W l o o',Ix s W->Good k W->k≠l->w.heap.size<=l->W.heap[l]? = some o->o.isCells=false->Good k (W.putObj l o')) (Ax:α -> Act->World->Prop) (hAx:∀ x a' W l o o',Ax x a' W->w.heap.size<=l->W.heap[l]? = some o->o.isCells=false->Ax x a' (W.putObj l o'))
  (hassign:∀ (l:Nat) (x:α) (W:World) (K:Act->World->Prop),w.heap.size<=W.heap.size->(∀ a' W',Below W.heap.size W W'->Ax x a' W'->K a' W') ->
   assign.wpIn (Fence.wide.inRound l) (n-1-1) Tryz.prog (Exit.then K (fun _ _ _=>False)) { tmps:=(ps.zip (encs x)).foldl (fun t (p,v)=>t.setIfInBounds p v) a.tmps,defers:=[] } W)
  (hbody:∀ (l:Nat) (pre:List α) (x:α) (a':Act) (W:World),I pre W->Ax x a' W->pre ++ [x] <+: L->body.wpIn (Fence.wide.inRound l) (n-1-1) Tryz.prog (fun e _ W'=>(e = .normal∧KeepsFrom w.heap.size W W'∧KpG Good p b mm W W'∧I (pre ++ [x]) W')∨(e = .ret∧KeepsFrom w.heap.size W W'∧KpG Good p b mm W W'∧Ix (pre ++ [x]) W')) a' W)
  (hdone:∀ (D:Nat) (W:World),w.heap.size<=D->I L W->W.heap[D]? = some (.deferred (some []))->Q .normal { a with defers:={ target:=.collected D,args:=#[] } :: a.defers } W)
  (hleft:∀ (D:Nat) (W:World) (pre:List α),w.heap.size<=D->pre <+: L->Ix pre W->W.heap[D]? = some (.deferred (some []))->Q .ret { a with defers:={ target:=.collected D,args:=#[] } :: a.defers } W) :
  (Code.rangeFunc g ps assign body).wpIn Fence.wide n Tryz.prog Q a w:=by
 refine wpIn_rangeFunc fun fn hfn=>?_
 rw[show Fence.wide.round=none from rfl]
 let rec':LoopState->Option Code->Loop:=fun st pe=>{ state:=st,pending:=pe,fn:=fn,tmps:=a.tmps,params:=ps,assign:=assign,body:=body,defers:=w.heap.size }
 obtain⟨V,hV⟩:∃ V,(w.alloc (.deferred (some []))).alloc (.loop (rec' .ready none))=V:=⟨_,rfl⟩
 have hVs:V.heap.size=w.heap.size+2:=by rw[<-hV];simp
 have vL:V.heap[w.heap.size+1]? = some (.loop (rec' .ready none)):=by
  rw[<-hV];simpa using World.alloc_heap_new (w.alloc (.deferred (some []))) (.loop (rec' .ready none))
 have vD:V.heap[w.heap.size]? = some (.deferred (some [])):=by
  rw[<-hV];exact(Below.heap_alloc _ _ _ (by simp)).trans (World.alloc_heap_new w _)
 have vI:I [] V:=by rw[<-hV];exact hI.alloc _ (hI.alloc _ h0)
 have vB:Below w.heap.size w V:=by rw[<-hV];exact((Below.refl _ w).alloc zL _).alloc (by simp) _
 refine⟨w.heap.size+1,[{ target:=.collected w.heap.size,args:=#[] }],V,{ target:=.fn (.func gf) lb,args:=#[.func (.yield (w.heap.size+1)) #[] #[]] },V,gf,#[.func (.yield (w.heap.size+1)) #[] #[]] ++ lb,V,?_,?_,?_,?_,fun _=>h1,?_⟩
 ·rw[<-hV];exact run_enterLoop_outer _ _ _ _ _
 ·simp only[resolve,hg];simp[go_sem]
 ·intro f' hf';exact trivial
 ·simp[invoke,go_sem,eg]
 have gdJ:GdJ (fun k W=>Good k W∧k≠w.heap.size∧k≠w.heap.size+1) (fun pre W=>I pre W∧W.heap[w.heap.size+1]? = some (.loop (rec' .ready none))∧W.heap[w.heap.size]? = some (.deferred (some []))):=by
  have low:∀ W W',Mv (fun k W=>Good k W∧k≠w.heap.size∧k≠w.heap.size+1) W W'->Mv Good W W':=fun W W' h=>⟨h.os,h.tape,h.output,h.size,fun k hk hn=>h.block k hk (fun e=>hn e.1)⟩
  refine⟨fun s W W' hs hm=>⟨gd.move s W W' hs.1 (low _ _ hm),?_,?_⟩,fun s W W' k hs hm hk=>⟨gd.mono s W W' k hs.1 (low _ _ hm) hk.1,hk.2⟩,fun s W W' k hs hm hk=>⟨gd.fresh s W W' k hs.1 (low _ _ hm) hk,?_,?_⟩⟩
  ·exact(hm.block _ (Array.getElem?_eq_some_iff.1 hs.2.1).1 (fun e=>e.2.2 rfl)).trans hs.2.1
  ·exact(hm.block _ (Array.getElem?_eq_some_iff.1 hs.2.2).1 (fun e=>e.2.1 rfl)).trans hs.2.2
  ·have:=(Array.getElem?_eq_some_iff.1 hs.2.2).1;omega
  ·have:=(Array.getElem?_eq_some_iff.1 hs.2.1).1;omega
 refine(hseq (w.heap.size+1) _ (fun pre W=>Ix pre W∧W.heap[w.heap.size+1]? = some (.loop (rec' .done (some .ret)))∧W.heap[w.heap.size]? = some (.deferred (some []))) _ V (hb0.trans (vB.mono hb0.size)) gdJ ?_ ?_ ⟨vI,vL,vD⟩).mono ?_
 ·rintro k pre x W ⟨hi,hl,hk⟩ hlen
  have hlt:w.heap.size+1<W.heap.size:=(Array.getElem?_eq_some_iff.1 hl).1
  refine yield_anyT rfl k (m:=n-1-1) ⟨fn,_,assign,body,run_yield (P:=Tryz.prog) (args:=encs x) hl (hps x),roundIn_of_wpIn hfn (hassign _ x W _ (by omega) (fun a' W1 hb1 hax=>?_))⟩
  have hi1:I pre W1:=hI pre W W1 none hi ⟨hb1.os,hb1.tape,hb1.output,hb1.size,fun k hk _=>hb1.block k hk⟩ (fun r e=>by cases e)
  have hl1:W1.heap[w.heap.size+1]? = some (.loop (rec' .ready none)):=(hb1.block _ hlt).trans hl
  have hk1:W1.heap[w.heap.size]? = some (.deferred (some [])):=(hb1.block _ (by omega)).trans hk
  have hlt1:w.heap.size+1<W1.heap.size:=(Array.getElem?_eq_some_iff.1 hl1).1
  refine⟨_,run_beginRound hl1 rfl,?_⟩
  refine wpIn_mono (hbody _ pre x a' _ (hI.putObj _ hi1 (by omega) hl1 rfl) (hAx _ _ _ _ _ _ hax (by omega) hl1 rfl) hlen) ?_
  rintro e a3 W3 (⟨rfl,hk3,hkp,hi3⟩|⟨rfl,hk3,hkp,hix⟩)
  rotate_left
  ·have hl3:=hk3.same (w.heap.size+1) _ (by omega) (World.putObj_heap_same hlt1) rfl
   have hd3:=hk3.same w.heap.size _ zL ((World.putObj_heap_other (by omega)).trans hk1) rfl
   refine⟨_,_,run_endRound (P:=Tryz.prog) (some .ret) hl3,.inr ⟨rfl,⟨hIx _ _ _ _ _ hix (by omega) hl3 rfl,World.putObj_heap_same (Array.getElem?_eq_some_iff.1 hl3).1,(World.putObj_heap_other (by omega)).trans hd3⟩,?_⟩⟩
   have sz:∀ (X:World) (l:Nat) (o:Obj),(X.putObj l o).heap.size=X.heap.size:=fun X l o=>by simp[World.putObj]
   refine⟨fun q o hq ho=>?_,?_,?_,?_,?_⟩
   ·have hql:q<W.heap.size:=(Array.getElem?_eq_some_iff.1 ho).1
    have g1:Good q W1:=gd.mono pre W W1 q hi (Mv.below hb1) hq.1
    have o1:W1.heap[q]? = some o:=(hb1.block q hql).trans ho
    have g2:=hgp pre q W1 _ _ (.loop { rec' .ready none with state:=.busy }) hi1 g1 hq.2.2 (by omega) hl1 rfl
    have o2:(W1.putObj (w.heap.size+1) (.loop { rec' .ready none with state:=.busy })).heap[q]? = some o:=(World.putObj_heap_other hq.2.2).trans o1
    obtain⟨o3,g3⟩:=hkp.1 q o g2 o2
    exact⟨(World.putObj_heap_other hq.2.2).trans o3,hgx _ q W3 _ _ _ hix g3 hq.2.2 (by omega) hl3 rfl,hq.2⟩
   ·rw[World.putObj_heap_other (by omega),hkp.2.1,World.putObj_heap_other (by omega)];exact hb1.block _ (by omega)
   ·rw[World.putObj_heap_other (by omega),hkp.2.2.1,World.putObj_heap_other (by omega)];exact hb1.block _ (by omega)
   ·rw[World.putObj_heap_other (by omega),hkp.2.2.2.1,World.putObj_heap_other (by omega)];exact hb1.block _ (by omega)
   ·rw[sz]
    have:=hkp.2.2.2.2
    rw[sz] at this
    exact Nat.le_trans hb1.size this
  have hl3:=hk3.same (w.heap.size+1) _ (by omega) (World.putObj_heap_same hlt1) rfl
  have hd3:=hk3.same w.heap.size _ zL ((World.putObj_heap_other (by omega)).trans hk1) rfl
  refine⟨_,_,run_endRound (P:=Tryz.prog) none hl3,.inl ⟨rfl,⟨hI.putObj _ hi3 (by omega) hl3 rfl,World.putObj_heap_same (Array.getElem?_eq_some_iff.1 hl3).1,(World.putObj_heap_other (by omega)).trans hd3⟩,?_⟩⟩
  have sz:∀ (X:World) (l:Nat) (o:Obj),(X.putObj l o).heap.size=X.heap.size:=fun X l o=>by simp[World.putObj]
  refine⟨fun q o hq ho=>?_,?_,?_,?_,?_⟩
  ·have hql:q<W.heap.size:=(Array.getElem?_eq_some_iff.1 ho).1
   have g1:Good q W1:=gd.mono pre W W1 q hi (Mv.below hb1) hq.1
   have o1:W1.heap[q]? = some o:=(hb1.block q hql).trans ho
   have g2:=hgp pre q W1 _ _ (.loop { rec' .ready none with state:=.busy }) hi1 g1 hq.2.2 (by omega) hl1 rfl
   have o2:(W1.putObj (w.heap.size+1) (.loop { rec' .ready none with state:=.busy })).heap[q]? = some o:=(World.putObj_heap_other hq.2.2).trans o1
   obtain⟨o3,g3⟩:=hkp.1 q o g2 o2
   exact⟨(World.putObj_heap_other hq.2.2).trans o3,hgp _ q W3 _ _ _ hi3 g3 hq.2.2 (by omega) hl3 rfl,hq.2⟩
  ·rw[World.putObj_heap_other (by omega),hkp.2.1,World.putObj_heap_other (by omega)];exact hb1.block _ (by omega)
  ·rw[World.putObj_heap_other (by omega),hkp.2.2.1,World.putObj_heap_other (by omega)];exact hb1.block _ (by omega)
  ·rw[World.putObj_heap_other (by omega),hkp.2.2.2.1,World.putObj_heap_other (by omega)];exact hb1.block _ (by omega)
  ·rw[sz]
   have:=hkp.2.2.2.2
   rw[sz] at this
   exact Nat.le_trans hb1.size this
 ·rintro pre W1 W2 ⟨hx,hl,hk⟩ hm
  refine⟨hIxm pre W1 W2 hx ⟨hm.os,hm.tape,hm.output,hm.size,fun k hk2 hn=>hm.block k hk2 (fun e=>hn e.1)⟩,?_,?_⟩
  ·exact(hm.block _ (Array.getElem?_eq_some_iff.1 hl).1 (fun e=>e.2.2 rfl)).trans hl
  ·exact(hm.block _ (Array.getElem?_eq_some_iff.1 hk).1 (fun e=>e.2.1 rfl)).trans hk
 ·rintro e W2 ⟨⟨v,rfl⟩,⟨hi,hl,hk⟩|⟨pre,hpre,hx,hl,hk⟩⟩
  ·exact⟨none,_,run_endLoop (P:=Tryz.prog) hl (by simp[rec']),hdone _ _ zL (hI.putObj _ hi (by omega) hl rfl) ((World.putObj_heap_other (by omega)).trans hk)⟩
  ·exact⟨some .ret,_,run_endLoop (P:=Tryz.prog) hl (by simp[rec']),wpIn_ret (hleft _ _ pre zL hpre (hIx _ _ _ _ _ hx (by omega) hl rfl) ((World.putObj_heap_other (by omega)).trans hk))⟩
end Rm
namespace Rm
open Go Go.RowKit Go.Shelf
def Kp2 (B:Nat) (W W':World):Prop:=∀ l o,(l=B∨l=B+1)->W.heap[l]? = some o->o.isCells=false->W'.heap[l]? = some o
end Rm
end Go.Proofs.YtabnipbdbnmmpaaGreatDoor
