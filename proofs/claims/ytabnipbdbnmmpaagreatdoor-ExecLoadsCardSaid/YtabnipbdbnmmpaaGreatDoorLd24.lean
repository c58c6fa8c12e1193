import Derived.Test.YtabnipbdbnmmpaaGreatDoorLd01
import Derived.Test.YtabnipbdbnmmpaaGreatDoorLd23
import Derived.Test.YtabnipbdbnmmpaaGreatDoorLd18
import Derived.Test.YtabnipbdbnmmpaaGreatDoorLd04
import Derived.OrdersHeld
import Derived.Deep.MidRow
import Derived.Test.YtabnipbdbnmmpaaGreatDoorLd17
import Derived.Test.YtabnipbdbnmmpaaGreatDoorLd10
import Derived.Test.YtabnipbdbnmmpaaGreatDoorLd06
set_option linter.unusedVariables false
set_option linter.unusedSimpArgs false
set_option maxHeartbeats 8000000
namespace Go.Proofs.YtabnipbdbnmmpaaGreatDoor
section
open Go.RowKit Go.Shelf
def pgs (s:Sg):Int:=(s.va+s.mem+4095)/4096
def rgP (S:List Sg) (pg:Int):Int:=match S.find? (fun s=>decide (pg<pgs s)) with|some s=>rga s.fl 3|none=>6
theorem rgP_hit {S:List Sg} {pg:Int} {i:Nat} {x:Sg} (hx:S[i]? = some x) (hb:∀ j y,j<i->S[j]? = some y->¬ pg<pgs y) (hp:pg<pgs x):rgP S pg=rga x.fl 3:=by
 unfold rgP
 have:S.find? (fun s=>decide (pg<pgs s))=some x:=by
  obtain⟨hl,he⟩:=List.getElem?_eq_some_iff.1 hx
  rw[List.find?_eq_some_iff_getElem]
  exact⟨by simpa using hp,i,hl,he,fun j hj=>by
   have:=hb j S[j] hj (List.getElem?_eq_getElem (by omega))
   simpa using this⟩
 rw[this]
theorem rgP_miss {S:List Sg} {pg:Int} (hb:∀ (j:Nat) y,S[j]? = some y->¬ pg<pgs y):rgP S pg=6:=by
 unfold rgP
 have:S.find? (fun s=>decide (pg<pgs s))=none:=by
  rw[List.find?_eq_none]
  intro y hy
  obtain⟨j,hj⟩:=List.mem_iff_getElem?.1 hy
  simpa using hb j y hj
 rw[this]
set_option maxRecDepth 4000 in
theorem rights_any {w:World} {X c:Nat} {q:Option Addr} {E:List (Sg×Value)} {B:Nat->Int} (h:Segs w X (.slice q E.length c) E B) (hL:Laid3 w) (hl:E.length<=8) (en sp:Int) (dp:Option Addr) (dn dc:Nat) (pg:Int) :
  Calls Tryz.prog 94 #[.agg #[.int .u64 en,.slice q E.length c,.slice dp dn dc,.int .u64 sp],.int .i64 pg] w fun e w'=>e = .returned (.int .u64 (rgP (E.map (·.1)) pg))∧Below w.heap.size w w':=by
 obtain⟨q',c',e',hc1,hc2,hq⟩:=own_form h.own
 cases e'
 have HS:Hid (Segs w X (.slice q E.length c) E B∧Laid3 w):=⟨h,hL⟩
 obtain⟨w1,hw1⟩:∃ w1,w1=w.alloc (.cells #[.int .u64 en,.slice q E.length c,.slice dp dn dc,.int .u64 sp] 92):=⟨_,rfl⟩
 have b1:Below w.heap.size w w1:=by rw[hw1];exact zB.alloc zL _
 have k1:w1.cell? ⟨w.heap.size,1,.none⟩=some (.slice q E.length c):=by rw[hw1];simp
 have HB1:Hid (Below w.heap.size w w1):=b1
 clear h hL b1
 go_enter Tryz.func94,Tryz.ntmps94
 go_upto_region 1 with fail
 rw[<-hw1]
 clear hw1
 go_wp2_with fail
 clear k1
 go_loopw [11] (fun a wr=>∃ i:Nat,i<=E.length∧a = .int .i64 i∧Hid ((∀ j y,j<i->(E.map (·.1))[j]? = some y->¬ pg<pgs y)∧Below w.heap.size w wr)) (fun a _=>(E.length-intOf a).toNat)
 case atStart=>exact⟨0,by omega,rfl,fun j y hj=>by omega,HB1.out⟩
 case round=>
  obtain⟨i,hi,rfl,HR⟩:=hrel
  by_cases hlt:i<E.length
  ·have g0:(i:Int)<E.length:=by omega
   obtain⟨x,hx⟩:∃ x,E[i]? = some x:=⟨E[i],List.getElem?_eq_getElem hlt⟩
   have HS1:=HS.out.1.below HR.out.2
   obtain⟨f0,f1,f2,f3⟩:=flatE_get E _ x hx
   obtain⟨g,rfl,a0⟩:=own_cell HS1.own f0 (by omega) (by omega)
   obtain⟨g1,e1,a1⟩:=own_cell HS1.own f1 (by omega) (by omega)
   obtain⟨g2,e2,a2⟩:=own_cell HS1.own f2 (by omega) (by omega)
   obtain⟨g3,e3,a3⟩:=own_cell HS1.own f3 (by omega) (by omega)
   simp only[Option.some.injEq,Addr.mk.injEq,and_true] at e1 e2 e3
   subst e1 e2 e3
   have hgd:=HS1.gd x (List.mem_of_getElem? hx)
   obtain⟨ldq,ldc,hld,_⟩:=own_form (HS1.dat x (List.mem_of_getElem? hx))
   rw[hld] at a2
   have c109:=fun W=>below_any x.1.va x.1.fl x.1.mem ldq x.1.sz ldc W hgd.v hgd.m hgd.e
   have hxm:(E.map (·.1))[i]? = some x.1:=by rw[List.getElem?_map,hx];rfl
   have HX:Hid ((E.map (·.1))[i]? = some x.1∧(x.1.fl=1∨x.1.fl=4∨x.1.fl=5∨x.1.fl=6∨x.1.fl=7)):=⟨hxm,hgd.f⟩
   have hpg:(x.1.va+x.1.mem+4095)/4096=pgs x.1:=rfl
   rw[hpg] at c109
   clear f0 f1 f2 f3 HS1 hgd hq hxm hx hld hpg
   generalize hpv:pgs x.1=pv at c109
   have HV:Hid (pgs x.1=pv):=hpv
   clear hpv
   have HA:Hid (Below w.heap.size w (wr.alloc (.cells #[.int .u64 x.1.va,.int .u32 x.1.fl,.slice ldq x.1.sz ldc,.int .u64 x.1.mem] 38))):=HR.out.2.alloc HR.out.2.size _
   by_cases hp:pg<pv
   ·have HH:Hid (rgP (E.map (·.1)) pg=rga x.1.fl 3):=rgP_hit HX.out.1 (fun j y hj hy=>HR.out.1 j y hj hy) (by rw[HV.out];exact hp)
    go_upto_region 5 with(go_at_call 147;refine(c109 _).mono ?_;rintro _ w2 ⟨rfl,b2⟩;have H2:Hid (Below w.heap.size w w2∧w2.cell? ⟨wr.heap.size,1,.none⟩=some (.int .u32 x.1.fl)):=⟨HA.out.trans (b2.mono HA.out.size),(b2.cell (p:=⟨wr.heap.size,1,.none⟩) (by simp)).trans (by simp)⟩;clear b2)
    have k2:=H2.out.2
    have c110:=rightsOf_any (HS.out.2.below H2.out.1) x.1.fl HX.out.2
    go_wp2_with (go_at_call 148;refine c110.mono ?_;rintro _ w3 ⟨rfl,b3⟩)
    go_ret
    exact⟨by rw[HH.out];rfl,H2.out.1.trans (b3.mono H2.out.1.size)⟩
   ·go_wp2_with (go_at_call 147;refine(c109 _).mono ?_;rintro _ w2 ⟨rfl,b2⟩;have H2:Hid (Below w.heap.size w w2):=HA.out.trans (b2.mono HA.out.size);clear b2)
    refine⟨⟨i+1,by omega,rfl,fun j y hj hy=>?_,H2.out⟩,by simp only[intOf];omega⟩
    rcases Nat.lt_or_ge j i with e|e
    ·exact Int.not_lt.2 (HR.out.1 j y e hy)
    ·obtain rfl:j=i:=by omega
     rw[HX.out.1] at hy
     injection hy with hy
     rw[<-hy,HV.out]
     exact Int.not_lt.2 hp
  ·obtain rfl:i=E.length:=by omega
   have HM:Hid (rgP (E.map (·.1)) pg=6):=rgP_miss (fun j y hy=>HR.out.1 j y (by have:=(List.getElem?_eq_some_iff.1 hy).1;rw[List.length_map] at this;exact this) hy)
   go_wp2_with fail
   go_ret
   exact⟨by rw[HM.out];rfl,HR.out.2⟩
end
section
open Go.RowKit Go.Shelf
theorem SpM_extc {ox:Rm.Oxt} {w:World} {s p b m N r P K:Nat} {M c c':Nat->Int} (h:Rm.SpM ox w s p b m N r P K M c) (e:∀ i,i<P->c' i=c i):Rm.SpM ox w s p b m N r P K M c':=by
 obtain⟨B,L,F,lf,fr,h1,h2,h4,h5⟩:=h
 exact⟨B,L,F,lf,fr,⟨h1.sp,h1.sz,h1.pm,h1.ram,h1.ne,h1.tab.extc fun i hi=>e i (List.mem_range.1 hi)⟩,h2,h4,h5⟩
theorem own_fraM {w w':World} {p b m X e k n:Nat} {v:Value} {xs:List Value} (h:w.ownsRow X e k v n xs) (f:Rm.Fra p b m w w') (hx:p<X∧b<X∧m<X):w'.ownsRow X e k v n xs:=by
 refine⟨h.1,?_⟩
 rcases h.2 with h0|⟨g,cap,cur,hv,h1,h2,h3⟩
 ·exact .inl h0
 ·exact .inr ⟨g,cap,cur,hv,h1,(f.block g (Array.getElem?_eq_some_iff.1 h2).1 (by omega) (by omega) (by omega)).trans h2,h3⟩
theorem Segs.fraM {w w':World} {p b m X:Nat} {sv:Value} {E:List (Sg×Value)} {B:Nat->Int} (h:Segs w X sv E B) (f:Rm.Fra p b m w w') (hx:p<X∧b<X∧m<X):Segs w' X sv E B:=
 ⟨own_fraM h.own f hx,fun x hm=>own_fraM (h.dat x hm) f hx,h.gd⟩
theorem Laid3.fraM {w w':World} {p b m:Nat} (h:Laid3 w) (f:Rm.Fra p b m w w') (h1:2<p∧2<b∧2<m):Laid3 w':=
 have hl:2<w.heap.size:=zC h.c0
 have k:∀ i,w'.cell? ⟨2,i,.none⟩=w.cell? ⟨2,i,.none⟩:=fun i=>f.cell (x:=⟨2,i,.none⟩) hl (by show 2≠p;omega) (by show 2≠b;omega) (by show 2≠m;omega)
 ⟨(k 0).trans h.c0,(k 1).trans h.c1,(k 2).trans h.c2,(k 3).trans h.c3,(k 4).trans h.c4,(k 5).trans h.c5⟩
theorem rgP_bM (S:List Sg) (h:∀ y∈S,y.fl=1∨y.fl=4∨y.fl=5∨y.fl=6∨y.fl=7) (pg:Int):Rm.rgt (rgP S pg):=by
 unfold rgP
 cases hf:S.find? (fun s=>decide (pg<pgs s)) with
 |none=>simp[Rm.rgt]
 |some s=>exact rga_rgt (h s (List.mem_of_find?_eq_some hf))
def cS (S:List Sg):Nat->Int:=fun i=>rgP S (i:Int)+208
def GsW (ox:Rm.Oxt) (w0 wi:World) (s p b m N r:Nat) (S:List Sg) (j K:Nat) (w:World):Prop:=Rm.Fra p b m w0 w∧Rm.Tch p b m s wi w∧Rm.SpM ox w s p b m N r j K (fun _=>0) (cS S)
set_option maxRecDepth 4000 in
theorem exGrowM {ox:Rm.Oxt} {w0 wi w:World} {s p b m N r:Nat} {X c:Nat} {q:Option Addr} {E:List (Sg×Value)} {Bq:Nat->Int} (hE:Segs w0 X (.slice q E.length c) E Bq) (hL:Laid3 w0) (hl:E.length<=8) (en sp:Int) (dp:Option Addr) (dn dc:Nat)
  (hX:p<X∧b<X∧m<X) (h3:2<p∧2<b∧2<m) (hs:w0.heap.size<=s) (K P:Nat) (hP:1<=P∧P<=4096) (hn:(P:Int)+Rm.ndP P<=K) (h0:GsW ox w0 wi s p b m N r (E.map (·.1)) 0 K w) :
  Calls Tryz.prog 93 #[.pointer (some ⟨s,0,.none⟩),.int .i64 P,.func (.func 94) #[.agg #[.int .u64 en,.slice q E.length c,.slice dp dn dc,.int .u64 sp]] #[]] w fun e w'=>e = .returned (.tuple #[])∧GsW ox w0 wi s p b m N r (E.map (·.1)) P K w':=by
 have HE:Hid (Segs w0 X (.slice q E.length c) E Bq∧Laid3 w0):=⟨hE,hL⟩
 have H0:Hid (GsW ox w0 wi s p b m N r (E.map (·.1)) 0 K w):=h0
 have HF:Hid (∀ y∈E.map (·.1),y.fl=1∨y.fl=4∨y.fl=5∨y.fl=6∨y.fl=7):=fun y hy=>by
  obtain⟨x,hx,rfl⟩:=List.mem_map.1 hy
  exact(hE.gd x hx).f
 obtain⟨hP1,hP2⟩:=hP
 clear hE hL h0
 go_enter Tryz.func93,Tryz.ntmps93
 go_wp2_with fail
 go_loopw [8] (fun k wr=>∃ j:Nat,j<=P∧k = .int .i64 j∧Hid (GsW ox w0 wi s p b m N r (E.map (·.1)) j K wr)) (fun k _=>(P-intOf k).toNat)
 case atStart=>exact⟨0,by omega,rfl,H0⟩
 case round=>
  obtain⟨j,hj,rfl,HG⟩:=hrel
  by_cases hlt:j<P
  ·have g0:(j:Int)<P:=by omega
   obtain⟨hfr,htc,hN⟩:=HG.out
   have c62:=rights_any (HE.out.1.fraM hfr hX) (HE.out.2.fraM hfr h3) hl en sp dp dn dc (j:Int)
   have c104:=fun W=>addr_any ((j:Int)+1) W (by omega)
   have hjj:j<4096:=by omega
   have hjK:(j:Int)+1+Rm.ndP ((j:Int)+1)<=K:=by have:=Rm.ndP_mono (a:=(j:Int)+1) (c:=(P:Int)) (by omega) (by omega);omega
   have HC:Hid (∀ W,Below wr.heap.size wr W->Calls Tryz.prog 146 #[.pointer (some ⟨s,0,.none⟩),.int .u64 (((j:Int)+1)*4096),.int .u64 (rgP (E.map (·.1)) j)] W fun e w'=>Rm.GmP ox W s p b m N r j K (fun _=>0) (cS (E.map (·.1))) (rgP (E.map (·.1)) j) e w'):=fun W bW=>(hN.below bW).grow hjj hjK _ (rgP_bM _ HF.out _)
   have HN:Hid (Rm.Fra p b m w0 wr∧Rm.Tch p b m s wi wr):=⟨hfr,htc⟩
   generalize hrg:rgP (E.map (·.1)) j=rg at c62 HC
   have HR:Hid (rgP (E.map (·.1)) j=rg):=hrg
   clear hrg hN hfr htc
   go_wp2_with first|(go_at_call 142;refine(c104 _).mono ?_;rintro _ w1 ⟨rfl,e1⟩;obtain rfl:wr=w1:=e1.symm)|(go_at_call 94;refine c62.mono ?_;rintro _ w2 ⟨rfl,b2⟩;have H2:Hid (Below wr.heap.size wr w2):=b2;clear b2)|(go_at_call 146;refine(HC.out _ H2.out).mono ?_;rintro _ w3 ⟨rfl,hg1,hg2⟩;have H3:Hid (Rm.SpM ox w3 s p b m N r (j+1) K (Rm.grM (fun _=>0) j) (Rm.upd (cS (E.map (·.1))) j (rg+208))∧w2.heap.size<=w3.heap.size∧w3.os=w2.os∧w3.tape=w2.tape∧w3.output=w2.output∧∀ k,k<w2.heap.size->k≠p->k≠b->k≠m->k≠s->w3.heap[k]? = w2.heap[k]?):=⟨hg1,hg2⟩;clear hg1 hg2)
   refine⟨⟨j+1,by omega,rfl,?_⟩,by simp only[intOf];omega⟩
   obtain⟨g1,gs,go1,go2,go3,gb⟩:=H3.out
   refine⟨⟨go1.trans (H2.out.os.trans HN.out.1.os),go2.trans (H2.out.tape.trans HN.out.1.tape),go3.trans (H2.out.output.trans HN.out.1.output),Nat.le_trans HN.out.1.size (Nat.le_trans H2.out.size gs),fun k hk h1 h2 h3=>?_⟩,(HN.out.2.trans (Rm.Tch.of (Rm.Fra.below H2.out))).trans ⟨go1,go2,go3,gs,gb⟩,?_⟩
   ·have hkw:k<wr.heap.size:=Nat.lt_of_lt_of_le hk HN.out.1.size
    rw[gb k (Nat.lt_of_lt_of_le hkw H2.out.size) h1 h2 h3 (by omega),H2.out.block k hkw]
    exact HN.out.1.block k hk h1 h2 h3
   ·refine SpM_extc (g1.ext (fun a _=>?_)) (fun i hi=>?_)
    ·unfold Rm.grM
     split<;>rfl
    ·unfold Rm.upd cS
     by_cases e:i=j
     ·rw[if_pos e,e,HR.out]
     ·rw[if_neg e]
  ·obtain rfl:j=P:=by omega
   go_wp2_with fail
   exact bodyPost_end (v:=.tuple #[]) (by simp[results,Tryz.results93,go_sem]) rfl ⟨rfl,HG.out⟩
end
namespace Rm
open Go Go.RowKit
theorem put_zero (s va:Nat) (q:Option Addr) (cc:Nat) (f:Value) (w:World):Calls Tryz.prog 53 #[.pointer (some ⟨s,0,.none⟩),.int .u64 va,.slice q 0 cc,f] w fun e w'=>e = .returned (.bool true)∧Below w.heap.size w w':=by
 obtain⟨w1,hw1⟩:∃ w1,w1=w.alloc (.cells #[.pointer (some ⟨s,0,.none⟩)] 42):=⟨_,rfl⟩
 obtain⟨w2,hw2⟩:∃ w2,w2=w1.alloc (.cells #[.slice q 0 cc] 24):=⟨_,rfl⟩
 have z1:w1.heap.size=w.heap.size+1:=by rw[hw1];simp
 have b1:Below w.heap.size w w1:=by rw[hw1];exact below1 _ _
 have b12:Below w1.heap.size w1 w2:=by rw[hw2];exact below1 _ _
 have b2:=b1.trans (b12.mono b1.size)
 have ks:w2.cell? ⟨w.heap.size,0,.none⟩=some (.pointer (some ⟨s,0,.none⟩)):=(b12.cell (p:=⟨w.heap.size,0,.none⟩) (by show w.heap.size<w1.heap.size;omega)).trans (by rw[hw1];simp)
 have kb:w2.cell? ⟨w.heap.size+1,0,.none⟩=some (.slice q 0 cc):=by rw[<-z1,hw2];simp
 have c52:=fun g:Value=>each_zero (va:Int) f g w2 s
 have HB:Hid (Below w.heap.size w w2):=b2
 clear b1 b12 b2 z1
 go_enter Tryz.func53,Tryz.ntmps53
 go_upto_region 1 with fail
 rw[<-hw1,<-hw2]
 clear hw1 hw2
 go_wp2_with (go_at_call 49;refine(c52 _).mono ?_;rintro _ x1 ⟨rfl,e1⟩;obtain rfl:w2=x1:=e1.symm)
 go_ret
 exact⟨rfl,HB.out⟩
section
variable {w:World} {s p b m N r P:Nat} {size:Int} {B:Nat->Int} {L:List Nat} {F:Nat->Option Nat} {lf:Nat->Nat->Int} {fr:Nat->Nat} {c:Nat->Int}
theorem poke_zero (h:SpU w s p b m N r P size B L F lf fr c) (va:Nat) (hv:(va:Int)<18446744073709551616) (q:Option Addr) (cc:Nat):Calls Tryz.prog 95 #[.pointer (some ⟨s,0,.none⟩),.int .u64 va,.slice q 0 cc] w fun e w'=>e = .returned (.bool (decide ((va:Int)<=size)))∧Below w.heap.size w w':=by
 have hm:=h.pm
 have hsz:=h.sz
 have c43:=made_sp h.sp
 have c50:=fits_gen (va:Int) 0 size (by omega) (by omega) (by omega) w
 rw[Int.add_zero] at c50
 have k2:=h.sp.c2
 have c57:=fun f:Value=>put_zero s va q cc f w
 clear h hm hsz
 generalize decide ((va:Int)<=size)=v at *
 cases v
 all_goals
  go_enter Tryz.func95,Tryz.ntmps95
  go_wp2_with first|(go_at_call 46;refine c43.mono ?_;rintro _ x1 ⟨rfl,e1⟩;obtain rfl:w=x1:=e1.symm)|(go_at_call 47;refine c50.mono ?_;rintro _ x3 ⟨rfl,e9⟩;obtain rfl:w=x3:=e9.symm)|(go_at_call 53;refine(c57 _).mono ?_;rintro _ x4 ⟨rfl,b4⟩;have H4:Hid (Below w.heap.size w x4):=b4;clear b4)
  go_ret
  first|exact⟨rfl,Below.refl _ _⟩|exact⟨rfl,H4.out⟩
end
theorem SpM.poke0 {ox:Oxt} {w:World} {s p b m N r P K:Nat} {M c:Nat->Int} (h:SpM ox w s p b m N r P K M c) (va n:Nat) (hn:n=0) (hv:va<=P*4096) (q:Option Addr) (cc:Nat) (R:Nat->Int) :
  Calls Tryz.prog 95 #[.pointer (some ⟨s,0,.none⟩),.int .u64 va,.slice q n cc] w (PmP ox w s p b m N r P K (wrM M va n R) c):=by
 subst hn
 obtain⟨B,L,F,lf,fr,hG,hM,hO,hK⟩:=h
 have hm:=hG.pm
 refine(poke_zero hG.su va (by omega) q cc).mono fun e w' h9=>?_
 refine⟨?_,(show SpM ox w s p b m N r P K (wrM M va 0 R) c from ⟨B,L,F,lf,fr,hG,fun a ha=>?_,hO,hK⟩).below h9.2,Fra.below h9.2⟩
 ·rw[h9.1,decide_eq_true (by omega)]
 ·unfold wrM
  rw[if_neg (by omega)]
  exact hM a ha
end Rm
namespace Rg
open Go
theorem x1 {α:Type} {l:List α} {i:Nat} {a:α}:l.toArray.setIfInBounds i a=(l.set i a).toArray:=List.setIfInBounds_toArray ..
theorem x2 {α:Type} {l:List α} {a b:α}:(a :: l).set 0 b=b :: l:=List.set_cons_zero ..
theorem x3 {α:Type} {l:List α} {a b:α} {n:Nat}:(a :: l).set (n+1) b=a :: l.set n b:=List.set_cons_succ ..
theorem x4 {α:Type} {l:List α} {i:Nat} (h:i<l.toArray.size):l.toArray[i]=l[i]'(by simpa using h):=List.getElem_toArray ..
theorem x5 {α:Type} {a:α} {l:List α} {i:Nat} (h:i+1<(a :: l).length):(a :: l)[i+1]=l[i]'(Nat.lt_of_succ_lt_succ h):=List.getElem_cons_succ ..
theorem x6 {α:Type} {a:α} {l:List α} (h:0<(a :: l).length):(a :: l)[0]=a:=List.getElem_cons_zero ..
section
variable {P:Program} {ops:Array Oper} {Q:Exit->Act->World->Prop} {S:World->Prop} {md:Region.Mode}
theorem nT {fuel:Nat} {listed:Array Bool} {a:Act} {w:World} {oi:Oper} (i:Nat) (v:Value) (hi:ops[i]? = some oi) (h:wpAnyH P md ops Q S fuel (listed.setIfInBounds i true) (a.put oi.dst v) w) (hy:∀ ww,S ww->(execOp a.eval oi).run P ww = .ok (.value v) ww:=by exact fun ww hSw=>by (try dsimp only at hSw);go_simp) (hw:Region.wanted oi (yielded ops a.tmps)=true:=by rfl) (hs:Region.noSelect ops=true:=by kernel_rfl) (hf:Region.free md ops listed i=true:=by kernel_rfl) (hr:(Region.ready md ops listed).contains i=true:=by kernel_rfl) (hS:S w:=by assumption) (hQ:∀ c a w,Q (.panic c) (a.put oi.dst v) w->Q (.panic c) a w:=by exact fun _ _ _ h=>h):wpAnyH P md ops Q S (fuel+1) listed a w:=
 wpAnyH_take hi hs hf hr hQ (.inl ⟨hw,hy⟩) hS h
end
end Rg
section
open Go.RowKit Go.Shelf Rg
def Z4M (w:World) (Z:Nat) (en:Int) (q:Option Addr) (n c gp:Nat) (sp:Int):Prop:=w.cell? ⟨Z,0,.none⟩=some (.int .u64 en)∧w.cell? ⟨Z,1,.none⟩=some (.slice q n c)∧w.cell? ⟨Z,2,.none⟩=some (.slice (some ⟨gp,0,.none⟩) 4096 4096)∧w.cell? ⟨Z,3,.none⟩=some (.int .u64 sp)
theorem Z4M.of {w w':World} {Z:Nat} {en:Int} {q:Option Addr} {n c gp:Nat} {sp:Int} (h:Z4M w Z en q n c gp sp) (k:w'.heap[Z]? = w.heap[Z]?):Z4M w' Z en q n c gp sp:=
 ⟨(cell_heap k _ _).trans h.1,(cell_heap k _ _).trans h.2.1,(cell_heap k _ _).trans h.2.2.1,(cell_heap k _ _).trans h.2.2.2⟩
def sgM (Bq:Nat->Int) (S:List Sg):Nat->Int:=S.foldl (fun M x=>Rm.wrM M x.va.toNat x.sz (fun j=>Bq (x.wh+j))) (fun _=>0)
theorem sgM_next (Bq:Nat->Int) {S:List Sg} {i:Nat} {x:Sg} (h:S[i]? = some x):sgM Bq (S.take (i+1))=Rm.wrM (sgM Bq (S.take i)) x.va.toNat x.sz (fun j=>Bq (x.wh+j)):=by
 unfold sgM
 rw[List.take_add_one,h]
 simp[List.foldl_append]
def pgM (Bq:Nat->Int) (S:List Sg) (e:Nat) (Rp:Nat->Int):Nat->Int:=Rm.wrM (sgM Bq S) ((e+1)*4096) 4096 Rp
def LiM (ox:Rm.Oxt) (w0:World) (s p b m N r e K:Nat) (Bq:Nat->Int) (S:List Sg) (Rp:Nat->Int) (en:Ending) (w':World):Prop:=en = .returned (.tuple #[])∧Rm.Fra p b m w0 w'∧Rm.SpM ox w' s p b m N r (e+2) K (pgM Bq S e Rp) (Rm.upd (cS S) e 198)
set_option maxRecDepth 4000 in
theorem layIntoM {ox:Rm.Oxt} {w0 w:World} {s p b m N r:Nat} {X c gp:Nat} {q:Option Addr} {E:List (Sg×Value)} {Bq Rp:Nat->Int} (hE:Segs w0 X (.slice q E.length c) E Bq) (hE0:E ≠ []) (hl:E.length<=8) (hL:Laid3 w0) (en sp:Int)
  (hX:p<X∧b<X∧m<X) (hgp:p<gp∧b<gp∧m<gp∧gp<w0.heap.size) (hRp:∀ i,0<=Rp i∧Rp i<256) (hpg:∀ i,i<4096->w0.cell? ⟨gp,i,.none⟩=some (.int .u8 (Rp i))) (h3:2<p∧2<b∧2<m) (hpw:p<w0.heap.size∧b<w0.heap.size∧m<w0.heap.size) (hs:w0.heap.size<=s)
  (hB:∀ i,0<=Bq i∧Bq i<256) (e:Nat) (he:ePg (E.map (·.1))=(e:Int)) (hr6:rgP (E.map (·.1)) (e:Int)=6) (hin:∀ x∈E,0<=x.1.va∧x.1.va+x.1.sz<=(e:Int)*4096) (he2:1<=e∧e+2<=4096) (K:Nat) (hn:((e+2:Nat):Int)+Rm.ndP ((e+2:Nat):Int)<=K) (h0:Rm.Fra p b m w0 w∧Rm.SpM ox w s p b m N r 0 K (fun _=>0) (cS (E.map (·.1)))) (hsw:s<w.heap.size) :
  Calls Tryz.prog 44 #[(.agg #[.int .u64 en,.slice q E.length c,.slice (some ⟨gp,0,.none⟩) 4096 4096,.int .u64 sp]),.pointer (some ⟨s,0,.none⟩)] w (LiM ox w0 s p b m N r e K Bq (E.map (·.1)) Rp):=by
 obtain⟨Z,hZ⟩:∃ Z,Z=w.heap.size:=⟨_,rfl⟩
 obtain⟨w1,hw1⟩:∃ w1,w1=w.alloc (.cells #[.int .u64 en,.slice q E.length c,.slice (some ⟨gp,0,.none⟩) 4096 4096,.int .u64 sp] 92):=⟨_,rfl⟩
 have b1:Below w.heap.size w w1:=by rw[hw1];exact zB.alloc zL _
 have z1:w1.heap.size=Z+1:=by rw[hw1,hZ];simp
 have kS:Z4M w1.drew Z en q E.length c gp sp:=by
  have:Z4M w1 Z en q E.length c gp sp:=by rw[hw1,hZ];exact⟨by simp,by simp,by simp,by simp⟩
  exact this
 obtain⟨hf0,hN0⟩:=h0
 have hw0:w0.heap.size<=w.heap.size:=hf0.size
 have f1:Rm.Fra p b m w0 w1.drew:=hf0.trans ((Rm.Fra.below b1).trans (Rm.Fra.below zB.drew))
 have hE1:=hE.fraM f1 hX
 have c58:=pages_any (w:=w1.drew) hE1 hE0 hl en sp (some ⟨gp,0,.none⟩) 4096 4096
 rw[he] at c58
 obtain⟨_,_,ef,hcE1,hcE2,_⟩:=own_form hE.own
 cases ef
 have HN0:Hid (Rm.SpM ox w1.drew s p b m N r 0 K (fun _=>0) (cS (E.map (·.1)))):=(hN0.below b1).below zB.drew
 have HE:Hid (Segs w0 X (.slice q E.length c) E Bq∧Laid3 w0∧Rm.Fra p b m w0 w1.drew):=⟨hE,hL,f1⟩
 have HR:Hid ((∀ i,0<=Rp i∧Rp i<256)∧(∀ i,i<4096->w0.cell? ⟨gp,i,.none⟩=some (.int .u8 (Rp i)))∧(∀ i,0<=Bq i∧Bq i<256)):=⟨hRp,hpg,hB⟩
 have HI:Hid (ePg (E.map (·.1))=(e:Int)∧rgP (E.map (·.1)) (e:Int)=6∧∀ x∈E,0<=x.1.va∧x.1.va+x.1.sz<=(e:Int)*4096):=⟨he,hr6,hin⟩
 clear hE hL hRp hpg hB hN0 hf0 f1 hE1 he hr6 hin
 go_enter Tryz.func44,Tryz.ntmps44
 go_upto_region 1 with fail
 rw[<-hw1,<-hZ]
 have HZ:Hid (Z=w.heap.size∧Below w.heap.size w w1):=⟨hZ,b1⟩
 have hZge:w.heap.size<=Z:=by omega
 clear hw1 hZ b1
 refine wp_region_held_drew (S:=(fun U=>Z4M U Z en q E.length c gp sp)) (by kernel_rfl) kS (fun hHeld=>?_)
 refine nT 0 (.pointer (some ⟨s,0,.none⟩)) rfl ?_ (fun ww hSw=>by obtain⟨q0,q1,q2,q3⟩:=hSw;go_simp)
 simp only[xX]
 refine nT 1 (.agg #[.int .u64 en,.slice q E.length c,.slice (some ⟨gp,0,.none⟩) 4096 4096,.int .u64 sp]) rfl ?_ (fun ww hSw=>by obtain⟨q0,q1,q2,q3⟩:=hSw;go_simp)
 simp only[xX]
 refine nT 3 (.agg #[.int .u64 en,.slice q E.length c,.slice (some ⟨gp,0,.none⟩) 4096 4096,.int .u64 sp]) rfl ?_ (fun ww hSw=>by obtain⟨q0,q1,q2,q3⟩:=hSw;go_simp)
 simp only[xX]
 refine nT 4 (.func (.func 94) #[(.agg #[.int .u64 en,.slice q E.length c,.slice (some ⟨gp,0,.none⟩) 4096 4096,.int .u64 sp])] #[]) rfl ?_ (fun ww hSw=>by obtain⟨q0,q1,q2,q3⟩:=hSw;go_simp)
 simp only[xX]
 refine wpAnyH_ready (rs:=[2]) (by kernel_rfl) (by simp) ?_
 refine AllReadyH.cons rfl (fun K9 hK=>?_) AllReadyH.nil
 go_simp
 go_at_call 90
 refine c58.mono ?_
 rintro _ w2 ⟨rfl,b2⟩
 have kS2:Z4M w2 Z en q E.length c gp sp:=kS.of (b2.block Z (by show Z<w1.heap.size;omega))
 have HB2:Hid (Below w1.drew.heap.size w1.drew w2∧Rm.Fra p b m w0 w2):=⟨b2,HE.out.2.2.trans (Rm.Fra.below b2)⟩
 have hz2:Z+1<=w2.heap.size:=by have:=b2.size;show Z+1 <= _;have hh:w1.drew.heap.size=w1.heap.size:=rfl;omega
 clear b2 c58
 refine hK.out _ _ kS2 (fun hHeld=>?_)
 clear hK K9
 try simp only[xX]
 have c61:=exGrowM (w0:=w0) (wi:=w2) (w:=w2) HE.out.1 HE.out.2.1 hl en sp (some ⟨gp,0,.none⟩) 4096 4096 hX h3 hs K (e+2) (by omega) hn ⟨HB2.out.2,Rm.Tch.of (Rm.Fra.refl _ _ _ _),HN0.out.below HB2.out.1⟩
 rw[show (((e+2:Nat):Int))=(e:Int)+2 by omega] at c61
 refine wpAnyH_ready (rs:=[5]) (by kernel_rfl) (by simp) ?_
 refine AllReadyH.cons rfl (fun K9 hK=>?_) AllReadyH.nil
 go_simp
 go_at_call 93
 refine c61.mono ?_
 rintro _ w3 ⟨rfl,hf3,ht3,hN3⟩
 have kS3:Z4M w3 Z en q E.length c gp sp:=kS2.of (ht3.block Z (by omega) (by omega) (by omega) (by omega) (by have:=HZ.out.1;omega))
 have H3:Hid (Rm.Fra p b m w0 w3∧Rm.SpM ox w3 s p b m N r (e+2) K (fun _=>0) (cS (E.map (·.1)))):=⟨hf3,hN3⟩
 have hz3:=ht3.size
 clear hf3 ht3 hN3 c61
 refine hK.out _ _ kS3 (fun hHeld=>?_)
 clear hK K9
 try simp only[xX]
 refine wpAnyH_done (by kernel_rfl) ?_ _
 obtain⟨k0,k1,k2,k3⟩:=kS3
 have HK:Hid (Z4M w3 Z en q E.length c gp sp):=⟨k0,k1,k2,k3⟩
 clear kS kS2 hHeld
 have hlE:(0:Int)<=E.length:=by omega
 go_wp2_with fail
 go_loopw [16] (fun k wr=>∃ i:Nat,i<=E.length∧k = .int .i64 i∧Hid (Rm.Fra p b m w3 wr∧Rm.SpM ox wr s p b m N r (e+2) K (sgM Bq ((E.map (·.1)).take i)) (cS (E.map (·.1))))) (fun k _=>(E.length-intOf k).toNat)
 case atStart=>exact⟨0,by omega,rfl,Rm.Fra.refl _ _ _ _,H3.out.2⟩
 case round=>
  obtain⟨i,hi,rfl,HG⟩:=hrel
  by_cases hlt:i<E.length
  ·have g0:(i:Int)<E.length:=by omega
   obtain⟨x,hx⟩:∃ x,E[i]? = some x:=⟨E[i],List.getElem?_eq_getElem hlt⟩
   have hS1:=HE.out.1.fraM (H3.out.1.trans HG.out.1) hX
   have hxm:=List.mem_of_getElem? hx
   obtain⟨f0,f1,f2,f3⟩:=flatE_get E _ x hx
   obtain⟨g,rfl,a0⟩:=own_cell hS1.own f0 (by omega) (by omega)
   obtain⟨g1,e1,a1⟩:=own_cell hS1.own f1 (by omega) (by omega)
   obtain⟨g2,e2,a2⟩:=own_cell hS1.own f2 (by omega) (by omega)
   obtain⟨g3,e3,a3⟩:=own_cell hS1.own f3 (by omega) (by omega)
   simp only[Option.some.injEq,Addr.mk.injEq,and_true] at e1 e2 e3
   subst e1 e2 e3
   have hii:=HI.out.2.2 x hxm
   have hdat:=hS1.dat x hxm
   obtain⟨dq,dc,hld,hdc1,hdc2,hdn⟩:=own_form hdat
   rw[hld] at a2 hdat
   obtain⟨va,hva⟩:∃ va:Nat,x.1.va=va:=⟨x.1.va.toNat,by omega⟩
   rw[hva] at a0 hii
   have hA:Below wr.heap.size wr (wr.alloc (.cells #[.int .u64 (va:Int),.int .u32 x.1.fl,.slice dq x.1.sz dc,.int .u64 x.1.mem] 38)):=zB.alloc zL _
   have c63:Calls Tryz.prog 95 #[.pointer (some ⟨s,0,.none⟩),.int .u64 va,.slice dq x.1.sz dc] (wr.alloc (.cells #[.int .u64 (va:Int),.int .u32 x.1.fl,.slice dq x.1.sz dc,.int .u64 x.1.mem] 38)) (Rm.PmP ox (wr.alloc (.cells #[.int .u64 (va:Int),.int .u32 x.1.fl,.slice dq x.1.sz dc,.int .u64 x.1.mem] 38)) s p b m N r (e+2) K (Rm.wrM (sgM Bq ((E.map (·.1)).take i)) va x.1.sz (fun j=>Bq (x.1.wh+j))) (cS (E.map (·.1)))):=by
    by_cases hs0:x.1.sz=0
    ·exact(HG.out.2.below hA).poke0 va x.1.sz hs0 (by omega) dq dc _
    ·have hii2:1<=x.1.sz:=by omega
     obtain⟨gd,rfl⟩:∃ gd,dq=some ⟨gd,0,.none⟩:=by
      obtain⟨k,hk⟩:∃ k,x.1.sz=k+1:=⟨x.1.sz-1,by omega⟩
      rw[hk] at hdat
      exact own_some hdat
     have hxg:X<=gd:=by
      have:=own_block hdat gd rfl
      exact this
     have hdcell:∀ i,i<x.1.sz->wr.cell? ⟨gd,0+i,.none⟩=some (.int .u8 (Bq (x.1.wh+i))):=fun i hi=>by
      have h1:(by8 (byt Bq x.1))[i]? = some (.int .u8 (Bq (x.1.wh+i))):=by8_get (byt_get Bq x.1 i hi)
      obtain⟨g',eg,hc⟩:=own_cell hdat h1 (by omega) (by omega)
      cases eg
      rw[Nat.zero_add]
      exact hc
     have gdl:gd<wr.heap.size:=zC (hdcell 0 (by omega))
     exact(HG.out.2.below hA).poke va x.1.sz hii2 (by omega) gd 0 dc ⟨hdc1,hdc2⟩ (fun i=>Bq (x.1.wh+i)) (fun i=>HR.out.2.2 _) (fun i hi=>(hA.cell (p:=⟨gd,0+i,.none⟩) gdl).trans (hdcell i hi)) ⟨by omega,by omega,by omega⟩
   have HXN:Hid (sgM Bq ((E.map (·.1)).take (i+1))=Rm.wrM (sgM Bq ((E.map (·.1)).take i)) va x.1.sz (fun j=>Bq (x.1.wh+j))):=by
    have h9:=sgM_next Bq (S:=E.map (·.1)) (i:=i) (x:=x.1) (by rw[List.getElem?_map,hx];rfl)
    rw[hva] at h9
    exact h9
   have HA:Hid (Below wr.heap.size wr (wr.alloc (.cells #[.int .u64 (va:Int),.int .u32 x.1.fl,.slice dq x.1.sz dc,.int .u64 x.1.mem] 38))):=hA
   have hva0:(0:Int)<=va:=by omega
   clear hS1 hxm f0 f1 f2 f3 hdat hld hdn hx hva hA hii
   go_wp2_with (go_at_call 95;refine c63.mono ?_;rintro _ w4 ⟨rfl,m4,f4⟩;have H4:Hid (Rm.SpM ox w4 s p b m N r (e+2) K (Rm.wrM (sgM Bq ((E.map (·.1)).take i)) va x.1.sz (fun j=>Bq (x.1.wh+j))) (cS (E.map (·.1)))∧Rm.Fra p b m w3 w4):=⟨m4,HG.out.1.trans ((Rm.Fra.below HA.out).trans f4)⟩;clear m4 f4 c63)
   exact⟨⟨i+1,by omega,rfl,H4.out.2,by rw[HXN.out];exact H4.out.1⟩,by simp only[intOf];omega⟩
  ·obtain rfl:i=E.length:=by omega
   have hlm:(E.map (·.1)).take E.length=E.map (·.1):=List.take_of_length_le (by rw[List.length_map];exact Nat.le_refl _)
   obtain⟨hf4,hN4⟩:=HG.out
   rw[hlm] at hN4
   have hz4:=hf4.size
   have f04:Rm.Fra p b m w0 wr:=H3.out.1.trans hf4
   have kS4:Z4M wr.drew Z en q E.length c gp sp:=HK.out.of (hf4.block Z (by omega) (by omega) (by omega) (by omega))
   have c57:=stackAt_any (w:=wr.drew) (HE.out.1.fraM (f04.trans (Rm.Fra.below zB.drew)) hX) hE0 hl en sp (some ⟨gp,0,.none⟩) 4096 4096
   rw[HI.out.1] at c57
   have H4:Hid (Rm.Fra p b m w0 wr.drew∧Rm.SpM ox wr.drew s p b m N r (e+2) K (sgM Bq (E.map (·.1))) (cS (E.map (·.1)))):=⟨f04.trans (Rm.Fra.below zB.drew),hN4.below zB.drew⟩
   clear hf4 hN4 f04 HG hlm hlt
   go_upto_region 7 with fail
   refine wp_region_held_drew (S:=(fun U=>Z4M U Z en q E.length c gp sp)) (by kernel_rfl) kS4 (fun hHeld=>?_)
   refine nT 0 (.pointer (some ⟨s,0,.none⟩)) rfl ?_ (fun ww hSw=>by obtain⟨q0,q1,q2,q3⟩:=hSw;go_simp)
   simp only[xX]
   refine nT 1 (.agg #[.int .u64 en,.slice q E.length c,.slice (some ⟨gp,0,.none⟩) 4096 4096,.int .u64 sp]) rfl ?_ (fun ww hSw=>by obtain⟨q0,q1,q2,q3⟩:=hSw;go_simp)
   simp only[xX]
   refine nT 3 (.pointer (some ⟨Z,2,.none⟩)) rfl ?_ (fun ww hSw=>by obtain⟨q0,q1,q2,q3⟩:=hSw;go_simp)
   simp only[xX]
   refine nT 4 (.pointer (some ⟨Z,2,.none⟩)) rfl ?_ (fun ww hSw=>by obtain⟨q0,q1,q2,q3⟩:=hSw;go_simp)
   simp only[xX]
   refine nT 5 (.slice (some ⟨gp,0,.none⟩) 4096 4096) rfl ?_ (fun ww hSw=>by obtain⟨q0,q1,q2,q3⟩:=hSw;go_simp)
   simp only[xX]
   refine wpAnyH_ready (rs:=[2]) (by kernel_rfl) (by simp) ?_
   refine AllReadyH.cons rfl (fun K9 hK=>?_) AllReadyH.nil
   go_simp
   go_at_call 89
   refine c57.mono ?_
   rintro _ w5 ⟨rfl,b5⟩
   have kS5:Z4M w5 Z en q E.length c gp sp:=kS4.of (b5.block Z (by show Z<wr.heap.size;omega))
   have H5:Hid (Rm.Fra p b m w0 w5∧Rm.SpM ox w5 s p b m N r (e+2) K (sgM Bq (E.map (·.1))) (cS (E.map (·.1)))):=⟨H4.out.1.trans (Rm.Fra.below b5),H4.out.2.below b5⟩
   have hz5:wr.heap.size<=w5.heap.size:=b5.size
   clear b5 c57
   refine hK.out _ _ kS5 (fun hHeld=>?_)
   clear hK K9
   try simp only[xX]
   have c63:=H5.out.2.poke ((e+1)*4096) 4096 (by omega) (by omega) gp 0 4096 (by omega) Rp HR.out.1 (fun i hi=>by
    rw[Nat.zero_add]
    exact(H5.out.1.cell (x:=⟨gp,i,.none⟩) hgp.2.2.2 (by show gp≠p;omega) (by show gp≠b;omega) (by show gp≠m;omega)).trans (HR.out.2.1 i hi)) (by omega)
   rw[show (((e+1)*4096:Nat):Int)=((e:Int)+1)*4096 by omega] at c63
   refine wpAnyH_ready (rs:=[6]) (by kernel_rfl) (by simp) ?_
   refine AllReadyH.cons rfl (fun K9 hK=>?_) AllReadyH.nil
   go_simp
   go_at_call 95
   refine c63.mono ?_
   rintro _ w6 ⟨rfl,r6,f6⟩
   have kS6:Z4M w6 Z en q E.length c gp sp:=kS5.of (f6.block Z (by omega) (by omega) (by omega) (by omega))
   have H6:Hid (Rm.Fra p b m w0 w6∧Rm.SpM ox w6 s p b m N r (e+2) K (pgM Bq (E.map (·.1)) e Rp) (cS (E.map (·.1)))):=⟨H5.out.1.trans f6,r6⟩
   have hz6:=f6.size
   clear r6 f6 c63
   refine hK.out _ _ kS6 (fun hHeld=>?_)
   clear hK K9
   try simp only[xX]
   refine wpAnyH_done (by kernel_rfl) ?_ _
   have c65:=guard_any (w:=w6) (HE.out.1.fraM H6.out.1 hX) hE0 hl en sp (some ⟨gp,0,.none⟩) 4096 4096
   rw[HI.out.1] at c65
   obtain⟨k0,k1,k2,k3⟩:=kS6
   have HC:Hid (∀ W,Below w6.heap.size w6 W->Calls Tryz.prog 96 #[.pointer (some ⟨s,0,.none⟩),.int .i64 e] W fun e9 w'=>e9 = .returned (.int .i64 0)∧Rm.SpM ox w' s p b m N r (e+2) K (pgM Bq (E.map (·.1)) e Rp) (Rm.upd (cS (E.map (·.1))) e 198)∧Rm.Fra p b m W w'):=fun W bW=>
    (H6.out.2.below bW).guard e ⟨by omega,by omega⟩ (d:=198) (by
     unfold cS
     rw[HI.out.2.1]
     exact .inr (.inl ⟨rfl,rfl⟩))
   go_wp2_with first|(go_at_call 97;refine c65.mono ?_;rintro _ w7 ⟨rfl,b7⟩;have H7:Hid (Below w6.heap.size w6 w7):=b7;clear b7)|(go_at_call 96;refine(HC.out _ H7.out).mono ?_;rintro _ w8 ⟨rfl,m8,f8⟩)
   refine bodyPost_end (v:=.tuple #[]) (by simp[results,Tryz.results44,go_sem]) rfl ⟨rfl,H6.out.1.trans ((Rm.Fra.below H7.out).trans f8),m8⟩
end
namespace Rm
open Go Go.RowKit
structure NS (w w':World) (p b m N:Nat) (B:Nat->Int) (i:Nat) (L1:List Nat) (ft:Nat) (fr:Nat->Nat) (c:Nat->Int) (B':Nat->Int) (L':List Nat) (F':Nat->Option Nat) (lf':Nat->Nat->Int):Prop where
 ram:Ram w' p b m N B' L'
 sl:SpL N i ft B' L' F' lf' fr c []
 len:L'.length+2=L1.length
 oth:Oth (i :: L1) (fun _=>none) fr [] B L' F' fr [] B'
 fra:Fra p b m w w'
section
variable {w:World} {p b m N:Nat} {B:Nat->Int}
theorem newTable_sl {i:Nat} {L1:List Nat} (h:Ram w p b m N B (i :: L1)) (hl:2<=L1.length) (ft:Nat) (hft:1<=ft∧ft<N∧ft∉i :: L1) (fr:Nat->Nat) (c:Nat->Int) :
  Calls Tryz.prog 92 #[.pointer (some ⟨p,0,.none⟩),.int .u64 (ad ft),.int .u64 2147483648] w fun e w'=>e = .returned (.agg #[.pointer (some ⟨p,0,.none⟩),.int .u64 (ad i)])∧∃ B' L' F' lf',NS w w' p b m N B i L1 ft fr c B' L' F' lf':=by
 have hN:=h.mem.n2
 have hi:=h.lt i (List.mem_cons_self ..)
 have hnd:=List.nodup_cons.1 h.nd
 have hil:i∉L1:=hnd.1
 have hfb:=ad_b ft N hft.2.1 hN
 obtain⟨w1,hw1⟩:∃ w1,w1=w.alloc (.cells #[.pointer .none,.int .u64 0] 105):=⟨_,rfl⟩
 have b1:Below w.heap.size w w1:=by rw[hw1];exact zB.alloc zL _
 have k0:w1.cell? ⟨w.heap.size,0,.none⟩=some (.pointer .none):=by rw[hw1];simp
 have k1:w1.cell? ⟨w.heap.size,1,.none⟩=some (.int .u64 0):=by rw[hw1];simp
 have kf:∀ k,w1.frozen? ⟨w.heap.size,k,.none⟩=false:=fun k=>by rw[hw1];exact World.frozen?_alloc_new _ _ _ _
 have hp:p<w.heap.size:=zC h.mem.c0
 have hb:b<w.heap.size:=zC (h.mem.cb 0 (by have:=h.mem.n1;omega))
 have hm:m<w.heap.size:=h.mem.mlt
 have c106:=new_some i (h.below b1)
 have P0:PT N L1 (zer B i) (fun x=>if x=0 then some i else none) (fun _ _=>0):=PT.initY hi hil
 have HW:Hid (Below w.heap.size w w1∧C2w w1 w.heap.size (.pointer .none) (.int .u64 0)):=⟨b1,k0,k1,kf⟩
 have HP0:Hid (PT N L1 (zer B i) (fun x=>if x=0 then some i else none) (fun _ _=>0)):=P0
 have z1:w1.heap.size=w.heap.size+1:=by rw[hw1];simp
 have HL:Hid (i∉L1):=hil
 clear h P0 b1 k0 k1 kf hnd hil
 go_enter Tryz.func92,Tryz.ntmps92
 go_upto_region 1 with fail
 rw[<-hw1]
 clear hw1
 go_upto_region 2 with(go_at_call 144;refine c106.mono ?_;rintro _ w2 ⟨rfl,r2,f2⟩;have H2:Hid (Ram w2 p b m N (zer B i) L1∧Fra p b m w1 w2):=⟨r2,f2⟩;clear r2 f2 c106)
 have c1:=map_pt H2.out.1 HP0.out (r:=i) rfl 274877898752 (ad ft) 198 (by omega) (by omega) ⟨hfb.1,hfb.2.2,hfb.2.1⟩ perm198 (leaf_b _ _ ⟨hfb.1,hfb.2.2,hfb.2.1⟩ (by omega) (by omega) (by decide) (by decide)) rfl (by
  have:needY (fun x=>if x=0 then some i else none) 274877898752=2:=by
   unfold needY
   have:y1 274877898752≠0:=by have:=y1_le 274877898752;omega
   simp[this]
  omega)
 go_wp2_with fail
 refine c1.mono ?_
 rintro _ w3 ⟨rfl,B1,L2,F1,R1,e1,r3,f3⟩
 have hn2:needY (fun x=>if x=0 then some i else none) 274877898752=2:=by
  unfold needY
  have:y1 274877898752≠0:=by have:=y1_le 274877898752;omega
  simp[this]
 rw[hn2] at e1
 have H3:Hid (LP N 274877898752 (toP (ad ft) 198) L1 (zer B i) (fun x=>if x=0 then some i else none) (fun _ _=>0) L2 B1 F1∧L1=L1.take 2 ++ L2∧Ram w3 p b m N B1 L2∧Fra p b m w1 w3):=⟨R1,e1,r3,H2.out.2.trans f3⟩
 clear R1 e1 r3 f3 c1 H2 hn2
 have hF1:F1 0=some i:=H3.out.1.ext 0 i rfl
 have hz0:ad 0=2147483648:=rfl
 have c2:=map_pt H3.out.2.2.1 H3.out.1.pt (r:=i) hF1 274877902848 (ad 0) 74 (by omega) (by omega) ⟨by decide,by decide,by decide⟩ perm74 (leaf_b _ _ ⟨by decide,by decide,by decide⟩ (by omega) (by omega) (by decide) (by decide)) (by
  unfold setE
  rw[if_neg (fun e=>tt_i0 e.2)]) (by
  obtain⟨g,q,h1,h2⟩:=H3.out.1.has
  unfold needY
  rw[tt_y1,tt_y0,h1,h2]
  simp)
 have HF1:Hid (F1 0=some i):=hF1
 rw[hz0] at c2
 clear hz0 hF1
 go_wp2_with fail
 refine c2.mono ?_
 rintro _ w4 ⟨rfl,B2,L3,F2,R2,e2,r4,f4⟩
 have hn2:needY F1 274877902848=0:=by
  obtain⟨g,q,h1,h2⟩:=H3.out.1.has
  unfold needY
  rw[tt_y1,tt_y0,h1,h2]
  simp
 rw[hn2,List.take_zero,List.nil_append] at e2
 have HR2:Hid (LP N 274877902848 (toP 2147483648 74) L2 B1 F1 (setE (fun _ _=>0) (y0 274877898752) (i0 274877898752) (toP (ad ft) 198)) L3 B2 F2):=R2
 have H4:Hid (L2=L3∧Ram w4 p b m N B2 L3∧Fra p b m w1 w4):=⟨e2,r4,H3.out.2.2.2.trans f4⟩
 have k4:=HW.out.2.fra H4.out.2.2 (by omega) (by omega) (by omega)
 have k0:=k4.a
 have k1:=k4.b
 have kf0:=k4.f 0
 have kf1:=k4.f 1
 clear R2 e2 r4 f4 c2 hn2
 go_wp2_with fail
 have s0:((w4.setCell ⟨w.heap.size,0,.none⟩ (.pointer (some ⟨p,0,.none⟩))).setCell ⟨w.heap.size,1,.none⟩ (.int .u64 (2147483648+(i:Int)*4096))).cell? ⟨w.heap.size,0,.none⟩=some (.pointer (some ⟨p,0,.none⟩)):=by
  rw[zO (by simp)]
  exact World.cell?_setCell_same' _ _ _ (by rw[k0];rfl)
 have s1:((w4.setCell ⟨w.heap.size,0,.none⟩ (.pointer (some ⟨p,0,.none⟩))).setCell ⟨w.heap.size,1,.none⟩ (.int .u64 (2147483648+(i:Int)*4096))).cell? ⟨w.heap.size,1,.none⟩=some (.int .u64 (2147483648+(i:Int)*4096)):=World.cell?_setCell_same' _ _ _ (by rw[zO (by simp),k1];rfl)
 have own1:∀ x f,F1 x=some f->f∈i :: L1∧(x=0∨x=y1 274877898752∨x=y0 274877898752):=fun x f hf=>by
  rcases H3.out.1.new x f hf with e|⟨e1,_,e2⟩
  ·by_cases hx:x=0
   ·simp only[hx,if_true,Option.some.injEq] at e
    exact⟨by rw[<-e];exact List.mem_cons_self ..,.inl hx⟩
   ·simp[hx] at e
  ·exact⟨List.mem_cons_of_mem _ e1,.inr e2⟩
 have own2:∀ x f,F2 x=some f->f∈i :: L1∧(x=0∨x=y1 274877898752∨x=y0 274877898752):=fun x f hf=>by
  rcases HR2.out.new x f hf with e|⟨e1,_,e2⟩
  ·exact own1 x f e
  ·rw[tt_y1,tt_y0] at e2
   exact⟨List.mem_cons_of_mem _ (H3.out.1.sub f e1),.inr e2⟩
 have o1:okP (274877898752,ad ft,198):=⟨⟨by simp only;omega,by simp only;omega,by simp only;omega⟩,hfb,⟨by simp only;omega,by simp only;omega,by simp only;omega⟩,(leaf_b (ad ft) 198 ⟨hfb.1,hfb.2.2,hfb.2.1⟩ (by omega) (by omega) (by decide) (by decide)).1⟩
 have o2:okP (274877902848,ad 0,74):=⟨⟨by simp only;omega,by simp only;omega,by simp only;omega⟩,⟨by decide,by decide,by decide⟩,⟨by simp only;omega,by simp only;omega,by simp only;omega⟩,(leaf_b (ad 0) 74 ⟨by decide,by decide,by decide⟩ (by omega) (by omega) (by decide) (by decide)).1⟩
 have t1:=TL.map (x:=(274877898752,ad ft,198)) (TL.init i) o1 (fun y hy=>by cases hy) H3.out.1
 have t2:=TL.map (x:=(274877902848,ad 0,74)) t1 o2 (fun y hy=>by rw[List.nil_append,List.mem_singleton] at hy;rw[hy];simp) HR2.out
 have hS:SpL N i ft B2 L3 F2 _ fr c []:=⟨HR2.out.pt,HR2.out.ext 0 i HF1.out,t2,List.nodup_nil,fun _ h=>(by cases h),fun _ h=>(by cases h),fun _ h=>(by cases h),hft.1,hft.2.1,fun hm=>hft.2.2 (List.mem_cons_of_mem _ (H3.out.1.sub _ (H4.out.1 ▸ hm))),fun x hx=>hft.2.2 (own2 x _ hx).1⟩
 refine bodyPost_ret (v:=.agg #[.pointer (some ⟨p,0,.none⟩),.int .u64 (2147483648+(i:Int)*4096)]) (by simp[results,Tryz.results92,go_sem,s0,s1]) rfl ⟨rfl,B2,L3,F2,_,?_,hS,?_,fun f hf h2 h3=>⟨fun hm=>hf (List.mem_cons_of_mem _ (H3.out.1.sub _ (H4.out.1 ▸ hm))),fun x hx=>hf (own2 x f hx).1,fun _ h=>by (cases h),fun k hk=>?_⟩,?_⟩
 ·exact(H4.out.2.1.beside ⟨w.heap.size,0,.none⟩ _ (by show p≠w.heap.size;omega) (by show b≠w.heap.size;omega) (by show m≠w.heap.size;omega)).beside ⟨w.heap.size,1,.none⟩ _ (by show p≠w.heap.size;omega) (by show b≠w.heap.size;omega) (by show m≠w.heap.size;omega)
 ·have e:=congrArg List.length H3.out.2.1
  rw[List.length_append,List.length_take,H4.out.1] at e
  omega
 ·rw[HR2.out.byt f (fun x hx=>hf (own2 x f hx).1) k hk,H3.out.1.byt f (fun x hx=>hf (own1 x f hx).1) k hk]
  have hfi:f≠i:=fun e=>hf (by rw[e];exact List.mem_cons_self ..)
  exact zer_out _ _ _ (by rcases Nat.lt_or_gt_of_ne hfi with h|h<;>omega)
 ·exact(((Fra.below HW.out.1).trans H4.out.2.2).beside ⟨w.heap.size,0,.none⟩ _ zL).beside ⟨w.heap.size,1,.none⟩ _ zL
theorem spNew_sl {i:Nat} {L1:List Nat} (h:Ram w p b m N B (i :: L1)) (hl:2<=L1.length) (ft:Nat) (hft:1<=ft∧ft<N∧ft∉i :: L1) (fr:Nat->Nat) (c:Nat->Int) :
  Calls Tryz.prog 43 #[.pointer (some ⟨p,0,.none⟩),.int .u64 (ad ft),.int .u64 2147483648] w fun e w'=>∃ s,e = .returned (.tuple #[.pointer (some ⟨s,0,.none⟩),.int .i64 0])∧w.heap.size<=s∧Sp w' s p (ad i) 0∧∃ B' L' F' lf',NS w w' p b m N B i L1 ft fr c B' L' F' lf':=by
 have hN:=h.mem.n2
 have hfb:=ad_b ft N hft.2.1 hN
 obtain⟨ok,h1,c59⟩:=two_any h (ad ft) 2147483648 (by omega) (by omega)
 obtain rfl:ok=true:=h1.2 ⟨⟨ft,hft.2.1,hft.2.2,rfl⟩,⟨0,by have:=h.mem.n1;omega,fun e=>by have:=(h.lt 0 e).1;omega,rfl⟩,by unfold ad;omega⟩
 have c25:=frames_any h.mem
 have n1:=h.mem.n1
 have hN0:((N:Int) == 0)=false:=by simp;omega
 have HR:Hid (Ram w p b m N B (i :: L1)):=h
 have hp:p<w.heap.size:=zC h.mem.c0
 have hb:b<w.heap.size:=zC (h.mem.cb 0 (by omega))
 have hm:m<w.heap.size:=h.mem.mlt
 have hlen:¬ (((i :: L1).length:Int)<3):=by simp only[List.length_cons];omega
 clear h h1
 go_enter Tryz.func43,Tryz.ntmps43
 go_upto_region 5 with first|(go_at_call 41;refine c25.mono ?_;rintro _ w1 ⟨rfl,e1⟩;obtain rfl:w=w1:=e1.symm)|(go_at_call 91;refine c59.mono ?_;rintro _ w1 ⟨rfl,b1⟩;have H1:Hid (Below w.heap.size w w1):=b1;clear b1)
 have c10:=count_ram (HR.out.below H1.out)
 generalize hg:(i :: L1).length=g at c10 hlen
 clear hg
 go_upto_region 7 with(go_at_call 15;refine c10.mono ?_;rintro _ w2 ⟨rfl,k2,rfl⟩)
 have H2:Hid (Below w.heap.size w (w1.drewN k2)):=H1.out.trans ((below_dr w1 k2).mono H1.out.size)
 have c60:=newTable_sl (HR.out.below H2.out) hl ft hft fr c
 go_wp2_with (go_at_call 92;refine c60.mono ?_;rintro _ w3 ⟨rfl,B',L',F',lf',T⟩)
 refine bodyPost_ret (v:=.tuple #[.pointer (some ⟨w3.heap.size,0,.none⟩),.int .i64 0]) (by simp[results,Tryz.results43,go_sem]) rfl ⟨w3.heap.size,rfl,?_,?_,B',L',F',lf',?_⟩
 ·exact Nat.le_trans H2.out.size T.fra.size
 ·exact⟨by simp,by simp,by simp,fun k=>World.frozen?_alloc_new _ _ _ _⟩
 ·exact⟨T.ram.below (zB.alloc zL _),T.sl,T.len,T.oth,(((Fra.below H2.out).trans T.fra)).alloc _⟩
end
end Rm
section
open Go.RowKit
theorem prog_nil {w:World} {rb c:Nat} {fp:Option Addr} (h:w.cell? ⟨rb,0,.none⟩=some (.slice fp 0 c)):Calls Tryz.prog 137 #[.pointer (some ⟨rb,0,.none⟩)] w fun e w'=>Up w 0 140 e w':=by
 have b1:Below w.heap.size w (w.alloc (.cells #[.int .u64 0,.slice .none 0 0] 41)):=zB.alloc zL _
 have h1:(w.alloc (.cells #[.int .u64 0,.slice .none 0 0] 41)).cell? ⟨rb,0,.none⟩=some (.slice fp 0 c):=(b1.cell (zC h)).trans h
 have HB:Hid (Below w.heap.size w (w.alloc (.cells #[.int .u64 0,.slice .none 0 0] 41))∧(w.alloc (.cells #[.int .u64 0,.slice .none 0 0] 41)).cell? ⟨rb,0,.none⟩=some (.slice fp 0 c)):=⟨b1,h1⟩
 clear b1 h1
 go_enter Tryz.func137,Tryz.ntmps137
 go_wp2_with fail
 generalize hRB:w.heap.size=rs at *
 generalize w.alloc (.cells #[.int .u64 0,.slice .none 0 0] 41)=W1 at *
 refine(length_lo rb 0 c _ W1 HB.out.2 (by omega)).mono ?_
 intro e w0 hu
 obtain⟨v,rfl,hu2⟩:=id hu
 refine⟨rfl,?_⟩
 exact hu.back (by rw[hRB];exact HB.out.1)
theorem read_nil {W:World} {c:Nat} {fp:Option Addr} :
  Calls Tryz.prog 85 #[.slice fp 0 c] W fun e w'=>∃ v,e = .returned (.tuple #[.agg #[.int .u64 0,.slice .none 0 0],v])∧FaultIn w' 0 v 0 140∧Below W.heap.size W w':=by
 have hz0:((W.alloc (.cells #[.int .u64 0,.slice .none 0 0] 41)).alloc (.cells #[.nilIface] 33)).heap.size=W.heap.size+1+1:=by simp only[World.size_alloc]
 have HB0:Hid (Below W.heap.size W ((W.alloc (.cells #[.int .u64 0,.slice .none 0 0] 41)).alloc (.cells #[.nilIface] 33))):=(zB.alloc zL _).alloc (by simp only[World.size_alloc];omega) _
 have HE:Hid (((W.alloc (.cells #[.int .u64 0,.slice .none 0 0] 41)).alloc (.cells #[.nilIface] 33)).heap[W.heap.size]? = some (.cells #[.int .u64 0,.slice .none 0 0] 41 (0,0))∧((W.alloc (.cells #[.int .u64 0,.slice .none 0 0] 41)).alloc (.cells #[.nilIface] 33)).heap[W.heap.size+1]? = some (.cells #[.nilIface] 33 (0,0))):=by
  constructor
  ·rw[Below.heap_alloc _ _ _ (by simp only[World.size_alloc];omega)]
   exact heap_new _ _
  ·have:=heap_new (W.alloc (.cells #[.int .u64 0,.slice .none 0 0] 41)) (.cells #[.nilIface] 33)
   rwa [World.size_alloc] at this
 go_enter_defers Tryz.func85,Tryz.ntmps85
 go_wp2_with fail
 generalize hW0:((W.alloc (.cells #[.int .u64 0,.slice .none 0 0] 41)).alloc (.cells #[.nilIface] 33))=W0 at *
 clear hW0
 have hk:Below W0.heap.size W0 (W0.alloc (.cells #[.slice fp 0 c,.slice .none 0 0] 210)):=zB.alloc zL _
 have hp:=(prog_nil (w:=W0.alloc (.cells #[.slice fp 0 c,.slice .none 0 0] 210)) (rb:=W0.heap.size) (c:=c) (fp:=fp) (World.cell?_alloc_at _ _ _ _ rfl)).mono fun e w' h=>h.back hk
 rw[hz0] at hp
 refine hp.mono ?_
 clear hk hp
 intro e V hP
 obtain⟨v,rfl,hf,hbV⟩:=hP
 ·obtain⟨fb,_,hfl,rfl,f0,f1,f2⟩:=hf
  have q0:=(hbV.block W.heap.size (by omega)).trans HE.out.1
  have q1:=(hbV.block (W.heap.size+1) (by omega)).trans HE.out.2
  have r0:V.cell? ⟨W.heap.size,0,.none⟩=some (.int .u64 0):=by simp[World.cell?,q0]
  have r1:V.cell? ⟨W.heap.size,1,.none⟩=some (.slice .none 0 0):=by simp[World.cell?,q0]
  have r2:V.cell? ⟨W.heap.size+1,0,.none⟩=some .nilIface:=by simp[World.cell?,q1]
  have z0:V.frozen? ⟨W.heap.size,0,.none⟩=false:=by simp[World.frozen?,q0]
  have z1:V.frozen? ⟨W.heap.size,1,.none⟩=false:=by simp[World.frozen?,q0]
  have z2:V.frozen? ⟨W.heap.size+1,0,.none⟩=false:=by simp[World.frozen?,q1]
  refine leaves_cons (f:=136) (args:=#[.pointer (some ⟨W.heap.size,0,.none⟩),.pointer (some ⟨W.heap.size+1,0,.none⟩)]) (by simp) (by simp[go_sem]) ?_
  refine(catch_up W.heap.size (W.heap.size+1) (some ⟨fb,0,.none⟩) [] V _ _ _ r0 r1 r2 z0 z1 z2 (by omega)).mono ?_
  rintro e u' w'' ⟨rfl,rfl,rfl⟩
  have s0:(((V.setCell ⟨W.heap.size,0,.none⟩ (.int .u64 0)).setCell ⟨W.heap.size,1,.none⟩ (.slice .none 0 0)).setCell ⟨W.heap.size+1,0,.none⟩ (.iface 86 (.pointer (some ⟨fb,0,.none⟩)))).cell? ⟨W.heap.size,0,.none⟩=some (.int .u64 0):=by
   rw[zO (by simp),zO (by simp)]
   exact World.cell?_setCell_same' _ _ _ (by rw[r0];rfl)
  have s1:(((V.setCell ⟨W.heap.size,0,.none⟩ (.int .u64 0)).setCell ⟨W.heap.size,1,.none⟩ (.slice .none 0 0)).setCell ⟨W.heap.size+1,0,.none⟩ (.iface 86 (.pointer (some ⟨fb,0,.none⟩)))).cell? ⟨W.heap.size,1,.none⟩=some (.slice .none 0 0):=by
   rw[zO (by simp)]
   exact World.cell?_setCell_same' _ _ _ (by rw[zO (by simp),r1];rfl)
  have s2:(((V.setCell ⟨W.heap.size,0,.none⟩ (.int .u64 0)).setCell ⟨W.heap.size,1,.none⟩ (.slice .none 0 0)).setCell ⟨W.heap.size+1,0,.none⟩ (.iface 86 (.pointer (some ⟨fb,0,.none⟩)))).cell? ⟨W.heap.size+1,0,.none⟩=some (.iface 86 (.pointer (some ⟨fb,0,.none⟩))):=World.cell?_setCell_same' _ _ _ (by rw[zO (by simp),zO (by simp),r2];rfl)
  have bq:Below W.heap.size W (((V.setCell ⟨W.heap.size,0,.none⟩ (.int .u64 0)).setCell ⟨W.heap.size,1,.none⟩ (.slice .none 0 0)).setCell ⟨W.heap.size+1,0,.none⟩ (.iface 86 (.pointer (some ⟨fb,0,.none⟩)))):=(((HB0.out.trans (hbV.mono HB0.out.size)).setCell (p:=⟨W.heap.size,0,.none⟩) zL _).setCell (p:=⟨W.heap.size,1,.none⟩) zL _).setCell (p:=⟨W.heap.size+1,0,.none⟩) (Nat.le_succ _) _
  have hne:∀ k:Nat,fb≠W.heap.size∧fb≠W.heap.size+1:=fun _=>by
   constructor
   ·intro e
    rw[e] at f0
    rw[r0] at f0
    cases f0
   ·intro e
    rw[e] at f0
    rw[r2] at f0
    cases f0
  have so:∀ k:Nat,(((V.setCell ⟨W.heap.size,0,.none⟩ (.int .u64 0)).setCell ⟨W.heap.size,1,.none⟩ (.slice .none 0 0)).setCell ⟨W.heap.size+1,0,.none⟩ (.iface 86 (.pointer (some ⟨fb,0,.none⟩)))).cell? ⟨fb,k,.none⟩=V.cell? ⟨fb,k,.none⟩:=fun k=>by
   have h9:=hne 0
   rw[zO (by simp only[ne_eq,Addr.mk.injEq,not_and];intro e;omega),zO (by simp only[ne_eq,Addr.mk.injEq,not_and];intro e;omega),zO (by simp only[ne_eq,Addr.mk.injEq,not_and];intro e;omega)]
  have hfl':fb<(((V.setCell ⟨W.heap.size,0,.none⟩ (.int .u64 0)).setCell ⟨W.heap.size,1,.none⟩ (.slice .none 0 0)).setCell ⟨W.heap.size+1,0,.none⟩ (.iface 86 (.pointer (some ⟨fb,0,.none⟩)))).heap.size:=zC (x:=⟨fb,0,.none⟩) ((so 0).trans f0)
  have g0:=(so 0).trans f0
  have g1:=(so 1).trans f1
  have g2:=(so 2).trans f2
  generalize (((V.setCell ⟨W.heap.size,0,.none⟩ (.int .u64 0)).setCell ⟨W.heap.size,1,.none⟩ (.slice .none 0 0)).setCell ⟨W.heap.size+1,0,.none⟩ (.iface 86 (.pointer (some ⟨fb,0,.none⟩))))=W9 at *
  have l0:W.heap.size<W9.heap.size:=zC (x:=⟨W.heap.size,0,.none⟩) s0
  have l1:W.heap.size+1<W9.heap.size:=zC (x:=⟨W.heap.size+1,0,.none⟩) s2
  exact⟨.tuple #[.agg #[.int .u64 0,.slice .none 0 0],.iface 86 (.pointer (some ⟨fb,0,.none⟩))],by simp[results,Tryz.results85,go_sem,s0,s1,s2,l0,l1],⟨_,rfl,⟨fb,Nat.zero_le _,hfl',rfl,g0,g1,g2⟩,bq⟩⟩
set_option maxRecDepth 10000 in
theorem planOf_nil {W:World} {fc:Nat} {fp:Option Addr} {p:Option Addr} {n c:Nat} {xs:List Bs} (hA:Arg W p n c xs) (S:List Sg) (en0:Int) (B0:Nat->Int) :
  Calls Tryz.prog 40 #[.slice fp 0 fc,.slice p n c] W (PlP W 140 S xs en0 B0):=by
 obtain⟨W1,hW1⟩:∃ W1,W1=W.alloc (.cells #[.int .u64 0,.slice .none 0 0,.slice .none 0 0,.int .u64 0] 92):=⟨_,rfl⟩
 have b1:Below W.heap.size W W1:=by rw[hW1];exact zB.alloc zL _
 have z1:W1.heap.size=W.heap.size+1:=by rw[hW1];simp
 have k1:C4 W1 W.heap.size (.int .u64 0) (.slice .none 0 0) (.slice .none 0 0) (.int .u64 0):=by
  rw[hW1]
  exact C4.new _ _ _ _ _ _
 have cR:=read_nil (W:=W1) (c:=fc) (fp:=fp)
 have HW:Hid (Below W.heap.size W W1∧C4 W1 W.heap.size (.int .u64 0) (.slice .none 0 0) (.slice .none 0 0) (.int .u64 0)∧Arg W p n c xs):=⟨b1,k1,hA⟩
 have hlen:xs.length=n:=hA.tex.1
 have hn1:n<=c∧c<=9223372036854775807:=⟨hA.tex.2.1,hA.tex.2.2.1⟩
 have hfew:=hA.few
 have HLn:Hid (xs.length=n):=hlen
 clear hA b1 k1 hlen
 have h0:(140:Int)≠0:=by decide
 go_enter Tryz.func40,Tryz.ntmps40
 go_upto_region 1 with fail
 rw[<-hW1]
 clear hW1
 go_upto_region 2 with(go_at_call 85;refine cR.mono ?_;rintro _ w2 ⟨v,rfl,hv,b2⟩;obtain⟨fb,rfl⟩:∃ fb,v = .iface 86 (.pointer (some ⟨fb,0,.none⟩)):=(by obtain⟨fb,_,_,e,_⟩:=hv;exact⟨fb,e⟩);have H2:Hid (Below W.heap.size W w2∧C4 w2 W.heap.size (.int .u64 0) (.slice .none 0 0) (.slice .none 0 0) (.int .u64 0)):=⟨HW.out.1.trans (b2.mono (by omega)),HW.out.2.1.below b2⟩;clear hv b2 cR)
 obtain⟨w3,hw3⟩:∃ w3,w3=w2.alloc (.cells #[.int .u64 0,.slice .none 0 0] 41):=⟨_,rfl⟩
 have b3:Below w2.heap.size w2 w3:=by rw[hw3];exact zB.alloc zL _
 have H3:Hid (Below W.heap.size W w3∧C4 w3 W.heap.size (.int .u64 0) (.slice .none 0 0) (.slice .none 0 0) (.int .u64 0)):=⟨H2.out.1.trans (b3.mono H2.out.1.size),H2.out.2.below b3⟩
 rw[<-hw3]
 clear hw3 b3 H2
 have k0:=H3.out.2.a
 have k1:=H3.out.2.b
 have k2:=H3.out.2.c
 have k3:=H3.out.2.d
 have kf0:=H3.out.2.f 0
 have kf1:=H3.out.2.f 1
 have kf2:=H3.out.2.f 2
 have kf3:=H3.out.2.f 3
 go_wp2_with fail
 obtain⟨s0,s1,s2,s3,_⟩:=H3.out.2.set (.int .u64 0) (.slice .none 0 0) (.slice .none 0 0) (.int .u64 0)
 refine bodyPost_ret (v:=.tuple #[.agg #[.int .u64 0,.slice .none 0 0,.slice .none 0 0,.int .u64 0],.int .i64 280]) (by simp[results,Tryz.results40,go_sem,s0,s1,s2,s3]) rfl ⟨?_,.inl ⟨?_,?_⟩⟩
 ·exact(((H3.out.1.setCell zL _).setCell zL _).setCell zL _).setCell zL _
 ·rw[dm_file h0];decide
 ·rw[dm_file h0]
def Fp (W:World) (fp:Option Addr) (fn:Nat) (B:Nat->Int):Prop:=(∃ b o,fp=some ⟨b,o,.none⟩∧Row W b o fn B∧b<W.heap.size)∨fn=0
theorem planF_any {W:World} {fp:Option Addr} {fn fc:Nat} {B:Nat->Int} (hL:Laid W) (hF:Fp W fp fn B) (hB:∀ i,0<=B i∧B i<256) (hc:fn<=fc∧fc<=9223372036854775807) (ha hr:Int) (hH:Hd B ha hr)
  {p:Option Addr} {n c:Nat} {xs:List Bs} (hA:Arg W p n c xs) :
  Calls Tryz.prog 40 #[.slice fp fn fc,.slice p n c] W (PlP W (rdF fn B ha hr).1.2 (sgO fn B ha hr) xs (enO fn B ha hr) B):=by
 rcases hF with⟨b,o,rfl,h1,h2⟩|rfl
 ·exact planOf_any hL h1 h2 hB hc ha hr hH hA
 ·have:(rdF 0 B ha hr).1.2=140:=rfl
  rw[this]
  exact planOf_nil hA _ _ _
end
end Go.Proofs.YtabnipbdbnmmpaaGreatDoor
