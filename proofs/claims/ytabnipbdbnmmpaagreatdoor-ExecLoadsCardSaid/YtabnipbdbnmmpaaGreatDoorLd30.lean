import Derived.Test.YtabnipbdbnmmpaaGreatDoorLd01
import Derived.Test.YtabnipbdbnmmpaaGreatDoorLd25
import Derived.Test.YtabnipbdbnmmpaaGreatDoorLd29
import Derived.Test.YtabnipbdbnmmpaaGreatDoorLd28
import Derived.Test.YtabnipbdbnmmpaaGreatDoorLd26
import Derived.Test.YtabnipbdbnmmpaaGreatDoorLd13
set_option linter.unusedVariables false
set_option linter.unusedSimpArgs false
set_option maxHeartbeats 8000000
namespace Go.Proofs.YtabnipbdbnmmpaaGreatDoor
section
open Go.RowKit Go.Shelf Rg
theorem sgO_kd {S:List Sg} (hs:Sok S) {kn:Nat} (h:kdS S=(kn:Int)):kn<=1000000:=by
 unfold kdS ePg at h
 cases hl:S.getLast? with
 |none=>
  rw[hl] at h
  simp only at h
  omega
 |some l=>
  rw[hl] at h
  simp only at h
  obtain⟨i,hi⟩:=List.mem_iff_getElem?.1 (List.mem_of_getLast? hl)
  have h1:=(hs i l hi).1
  have:=h1.e
  have:=h1.v
  have:=h1.m
  omega
theorem load_every {ox:Rm.Oxt} {W:World} {p b m N fb fo fn fc ft:Nat} {Bm Bq:Nat->Int} {L:List Nat} (hR:Rm.Ram W p b m N Bm L) (hox:ox.ft=ft∧∀ f,ox.T f->f∉L∧∀ j,j<4096->Bm (f*4096+j)=ox.Z (f*4096+j)) (hft:1<=ft∧ft<N∧ft∉L) (hL:Laid W) (hL3:Laid3 W) (h3:2<p∧2<b∧2<m) (hF:Row W fb fo fn Bq) (hfb:fb<W.heap.size) (hB:∀ i,0<=Bq i∧Bq i<256) (hc:fn<=fc∧fc<=9223372036854775807)
  {ap:Option Addr} {an ac:Nat} {xs:List Bs} (hA:Arg W ap an ac xs) (ha hr:Int) (hH:Hd Bq ha hr) (hlen:L.length<=4096) :
  Calls Tryz.prog 11 #[.pointer (some ⟨p,0,.none⟩),.slice (some ⟨fb,fo,.none⟩) fn fc,.slice ap an ac,.int .u64 (Rm.ad ft),.int .u64 2147483648] W (LdA ox W p b m N L.length (sgO fn Bq ha hr) Bq xs (enO fn Bq ha hr) (dmE (rdF fn Bq ha hr).1.2 xs)):=by
 cases L with
 |cons i L1=>
  have:=load_all (ft:=ft) hR hox hft hL hL3 h3 hF hfb hB hc hA ha hr hH (by simpa using hlen)
  exact this
 |nil=>
  by_cases hd:dmE (rdF fn Bq ha hr).1.2 xs=0
  ·have hr0:(rdF fn Bq ha hr).1.2=0:=by
    by_cases c:(rdF fn Bq ha hr).1.2=0
    ·exact c
    ·unfold dmE at hd
     rw[if_pos c] at hd
     first|exact hd|omega
   have hd0:dmE 0 xs=0:=by rw[hr0] at hd;exact hd
   obtain⟨hs,hne⟩:=rd_ok hB hr0 hH
   obtain⟨e,he,he1,h6,hin⟩:=sok_pages hs hne
   have hk:((([]:List Nat).length:Nat):Int)<kdS (sgO fn Bq ha hr):=by
    unfold kdS
    rw[he]
    simp only[List.length_nil]
    omega
   refine(load_room hR hL hL3 h3 hF hfb hB hc hA ha hr hH hr0 hd0 rfl _ rfl _ _ rfl hk).mono ?_
   rintro E w' ⟨rfl,hb⟩
   exact .inr (.inl ⟨hd,hk,rfl,hb⟩)
  ·refine(load_refM _ hL (.inl ⟨_,_,rfl,hF,hfb⟩) hB hc ha hr hH hA _ hd).mono ?_
   rintro E w' ⟨rfl,hb⟩
   exact .inl ⟨hd,rfl,hb⟩
end
section
open Go.RowKit Go.Shelf Rg
theorem sok_fl {S:List Sg} (h:Sok S):∀ y∈S,y.fl=1∨y.fl=4∨y.fl=5∨y.fl=6∨y.fl=7:=fun y hy=>by
 obtain⟨i,hi⟩:=List.mem_iff_getElem?.1 hy
 exact(h i y hi).1.f
def oxL (N:Nat):Rm.Oxt:=⟨N-1,fun f=>f=N-1,fun _=>0⟩
structure TrnB (w:World) (g n i:Nat) (fs:List Int) (C:Nat->Int):Prop where
 row:Row w g 0 n C
 bd:∀ j,0<=C j∧C j<256
 fz:∀ j,w.frozen? ⟨g,j,.none⟩=false
 rest:∀ j,i<=j->C j=fs.getD j 0
 one:1<=i->C 0=bits .xor .u8 (fs.getD 0 0) 90
theorem xor90:∀ x:Fin 256,0<=bits .xor .u8 ((x:Nat):Int) 90∧bits .xor .u8 ((x:Nat):Int) 90<256:=by decide +kernel
theorem xor90_any (x:Int) (h:0<=x∧x<256):0<=bits .xor .u8 x 90∧bits .xor .u8 x 90<256:=by
 have:=xor90 ⟨x.toNat,by omega⟩
 rwa [show (((⟨x.toNat,by omega⟩:Fin 256):Nat):Int)=x by simp;omega] at this
theorem TrnB.step {w:World} {g n i:Nat} {fs:List Int} {C:Nat->Int} (h:TrnB w g n i fs C) (hi:i<n):TrnB (w.setCell ⟨g,i,.none⟩ (.int .u8 (bits .xor .u8 (C i) 90))) g n (i+1) fs (fun j=>if j=i then bits .xor .u8 (C i) 90 else C j):=by
 refine⟨fun j hj=>?_,fun j=>?_,fun j=>?_,fun j hj=>?_,fun _=>?_⟩
 ·rw[Nat.zero_add]
  by_cases e:j=i
  ·subst e
   rw[if_pos rfl]
   have h0:=h.row j hj
   rw[Nat.zero_add] at h0
   exact World.cell?_setCell_same _ _ _ h0
  ·rw[if_neg e]
   refine(zO (by simp only[ne_eq,Addr.mk.injEq,not_and];intro _;omega)).trans ?_
   have h0:=h.row j hj
   rw[Nat.zero_add] at h0
   exact h0
 ·show 0<=(if j=i then bits .xor .u8 (C i) 90 else C j)∧(if j=i then bits .xor .u8 (C i) 90 else C j)<256
  split
  ·exact xor90_any _ (h.bd i)
  ·exact h.bd j
 ·rw[World.frozen?_setCell]
  exact h.fz j
 ·show (if j=i then bits .xor .u8 (C i) 90 else C j)=_
  rw[if_neg (by omega)]
  exact h.rest j (by omega)
 ·show (if 0=i then bits .xor .u8 (C i) 90 else C 0)=_
  split
  ·rename_i e
   rw[<-e,h.rest 0 (by omega)]
  ·exact h.one (by omega)
theorem hidS {w w':World} {zs zw pl:Nat} {a b c a' b' c' v:Value} (k:Below w.heap.size w w') (h:Hid (w.cell? ⟨zs,0,.none⟩=some a∧w.cell? ⟨zs,1,.none⟩=some b∧w.cell? ⟨zs,2,.none⟩=some c∧w.cell? ⟨zw,0,.none⟩=some a'∧w.cell? ⟨zw,1,.none⟩=some b'∧w.cell? ⟨zw,2,.none⟩=some c'∧w.cell? ⟨pl,0,.none⟩=some v)) :
  Hid (w'.cell? ⟨zs,0,.none⟩=some a∧w'.cell? ⟨zs,1,.none⟩=some b∧w'.cell? ⟨zs,2,.none⟩=some c∧w'.cell? ⟨zw,0,.none⟩=some a'∧w'.cell? ⟨zw,1,.none⟩=some b'∧w'.cell? ⟨zw,2,.none⟩=some c'∧w'.cell? ⟨pl,0,.none⟩=some v):=by
 obtain⟨h1,h2,h3,h4,h5,h6,h7⟩:=h
 exact⟨(k.cell (zC h1)).trans h1,(k.cell (zC h2)).trans h2,(k.cell (zC h3)).trans h3,(k.cell (zC h4)).trans h4,(k.cell (zC h5)).trans h5,(k.cell (zC h6)).trans h6,(k.cell (zC h7)).trans h7⟩
set_option maxRecDepth 10000 in
theorem loads_law {W:World} (z:Int) {fp:Option Addr} {fn fc:Nat} {fs:List Int} (hb:Byt W fp fn fc fs) (hbd:∀ i,0<=fs.getD i 0∧fs.getD i 0<256) (hbn:fn<=140737488351232) {p:Option Addr} {n c:Nat} {xs:List Bs} (hT:Tex W p n c xs) (hn:n<=140737488351232) (hx:∀ x∈xs,x.length<=140737488351232) (hL:Laid W) (hL3:Laid3 W) :
  Calls Tryz.prog 5 #[.int .i64 z,.slice fp fn fc,.slice p n c] W fun e w'=>e = .returned (.bool true)∧Below W.heap.size W w':=by
 have c6:=few_any fp p fn fc n c xs W hT hbn hn hx
 obtain⟨N,hN⟩:∃ N,N=clN z:=⟨_,rfl⟩
 have c9:=memory_all z W
 rw[<-hN] at c9
 have hN2:2<=N∧N<=4096:=by rw[hN];exact clN_b z
 clear hN
 obtain⟨fb,fo,hrow,hfp⟩:=byt_row hb
 have HL:Hid (Laid W∧Laid3 W∧Tex W p n c xs∧Byt W fp fn fc fs∧(∀ i,0<=fs.getD i 0∧fs.getD i 0<256)∧Row W fb fo fn (fun i=>fs.getD i 0)∧(0<fn->fp=some ⟨fb,fo,.none⟩)):=⟨hL,hL3,hT,hb,hbd,hrow,hfp⟩
 have hcc:n<=c∧c<=9223372036854775807:=⟨hT.2.1,hT.2.2.1⟩
 have hbc:fn<=fc∧fc<=9223372036854775807:=⟨hb.2.1,hb.2.2.1⟩
 have HLn:Hid (fs.length=fn∧xs.length=n):=⟨hb.1,hT.1⟩
 clear hL hL3 hT hx hb hbd hrow hfp hn
 go_enter Tryz.func5,Tryz.ntmps5
 go_upto_region 3 with(go_at_call 7;refine c6.mono ?_;rintro _ w0 ⟨⟨r,rfl,hr⟩,e0⟩;obtain rfl:W=w0:=e0.symm;have HR:Hid (r=true->fn<=400000∧n<100∧∀ x∈xs,x.length<=400000):=hr;clear hr c6;cases r)
 ·go_wp2
  go_ret
  exact⟨rfl,Below.refl _ _⟩
 obtain⟨hf4,hn1,hx4⟩:=HR.out trivial
 have HX4:Hid (∀ x∈xs,x.length<=400000):=hx4
 clear HR hx4 hbn
 go_upto_region 6 with(go_at_call 8;refine c9.mono ?_;rintro _ w1 ⟨pm,b,mm,Bm,hp,hb,hm,rfl,hR,b1,hz⟩;clear c9)
 have h3:2<pm∧2<b∧2<mm:=by have:=HL.out.2.1.lt;omega
 have hpw:pm<w1.heap.size∧b<w1.heap.size∧mm<w1.heap.size:=⟨zC hR.mem.c0,zC (hR.mem.cb 0 (by have:=hR.mem.n1;omega)),hR.mem.mlt⟩
 have cC:=Rm.ram_count hR
 rw[Rm.down_len] at cC
 obtain⟨fr,hfr⟩:∃ fr,fr=N-2:=⟨_,rfl⟩
 rw[<-hfr] at cC hR
 have HN:Hid (fr=N-2∧2<=N∧N<=4096):=⟨hfr,hN2⟩
 have H1:Hid (Rm.Ram w1 pm b mm N Bm (Rm.down fr)∧Below W.heap.size W w1∧(W.heap.size<=pm∧W.heap.size<=b∧W.heap.size<=mm)∧(2<pm∧2<b∧2<mm)∧(pm<w1.heap.size∧b<w1.heap.size∧mm<w1.heap.size)∧∀ j,j<4096->Bm ((N-1)*4096+j)=0):=⟨hR,b1,⟨hp,hb,hm⟩,h3,hpw,hz⟩
 have hfr6:fr<=4096:=by omega
 generalize ht:Rm.ad (N-1)=tr
 have HT:Hid (Rm.ad (N-1)=tr):=ht
 clear hR b1 hp hb hm h3 hpw hz hfr hN2 ht
 go_upto_region 7 with(go_at_call 15;refine cC.mono ?_;rintro _ w2 ⟨rfl,b2⟩;have H2:Hid (Below w1.heap.size w1 w2∧Below W.heap.size W w2):=⟨b2,H1.out.2.1.trans (b2.mono H1.out.2.1.size)⟩;clear b2 cC)
 have c24:=lend_any (byt_up HL.out.2.2.2.1 H2.out.2) (by omega)
 go_upto_region 8 with(go_at_call 24;refine c24.mono ?_;rintro _ w3 ⟨g,cg,rfl,hlen,b3⟩;have H3:Hid (Lent w3 w2.heap.size g cg fs∧Below w2.heap.size w2 w3∧Below W.heap.size W w3):=⟨hlen,b3,H2.out.2.trans (b3.mono H2.out.2.size)⟩;clear hlen b3 c24)
 have c25:=lent_any (HL.out.2.2.1.below H3.out.2.2) (by omega)
 go_upto_region 9 with(go_at_call 25;refine c25.mono ?_;rintro _ w4 ⟨g3,c3,rfl,hlt,b4⟩;have H4:Hid (LenT w4 w3.heap.size g3 c3 xs∧Below w3.heap.size w3 w4∧Below W.heap.size W w4):=⟨hlt,b4,H3.out.2.2.trans (b4.mono H3.out.2.2.size)⟩;clear hlt b4 c25)
 obtain⟨w5,hw5⟩:∃ w5,w5=w4.alloc (.cells #[.int .i64 fr] 67):=⟨_,rfl⟩
 have b5:Below w4.heap.size w4 w5:=by rw[hw5];exact zB.alloc zL _
 obtain⟨pl,hpl⟩:∃ pl,pl=w4.heap.size:=⟨_,rfl⟩
 have kp:w5.cell? ⟨pl,0,.none⟩=some (.int .i64 fr):=by rw[hw5,hpl];simp
 have kf:w5.frozen? ⟨pl,0,.none⟩=false:=by rw[hw5,hpl];exact World.frozen?_alloc_new _ _ _ 0
 have hB15:Below w1.heap.size w1 w5:=((H2.out.1.trans (H3.out.2.1.mono H2.out.1.size)).trans (H4.out.2.1.mono (Nat.le_trans H2.out.1.size H3.out.2.1.size))).trans (b5.mono (Nat.le_trans H2.out.1.size (Nat.le_trans H3.out.2.1.size H4.out.2.1.size)))
 have hBW5:Below W.heap.size W w5:=H1.out.2.1.trans (hB15.mono H1.out.2.1.size)
 have hLe5:Lent w5 w2.heap.size g cg fs:=owns_below H3.out.1 (H4.out.2.1.trans (b5.mono H4.out.2.1.size))
 have hLt5:LenT w5 w3.heap.size g3 c3 xs:=H4.out.1.below b5
 have hgl:w1.heap.size<=g∧g<w5.heap.size:=⟨Nat.le_trans H2.out.1.size (own_block hLe5 g rfl),own_lt hLe5⟩
 have hgt:w1.heap.size<=g3∧g3<w5.heap.size:=⟨Nat.le_trans H2.out.1.size (Nat.le_trans H3.out.2.1.size (own_block hLt5 g3 rfl)),own_lt hLt5⟩
 have hpl2:w1.heap.size<=pl∧pl<w5.heap.size∧pl≠g∧pl≠g3:=⟨by rw[hpl];exact Nat.le_trans H2.out.1.size (Nat.le_trans H3.out.2.1.size H4.out.2.1.size),zC kp,by have:=own_lt H3.out.1;have:=H4.out.2.1.size;omega,by have:=own_lt H4.out.1;omega⟩
 have hcg:=own_cap hLe5
 have hcg2:fn<=cg∧cg<=9223372036854775807:=by
  have:=HLn.out.1
  have h2:=hcg.2
  unfold maxLen at h2
  omega
 have hct:=own_cap hLt5
 have hct2:n<=c3∧c3<=9223372036854775807:=by
  have:=HLn.out.2
  have h2:=hct.2
  unfold maxLen at h2
  omega
 have H5:Hid (Below w1.heap.size w1 w5∧Below W.heap.size W w5∧Lent w5 w2.heap.size g cg fs∧LenT w5 w3.heap.size g3 c3 xs∧(w1.heap.size<=g∧g<w5.heap.size)∧(w1.heap.size<=g3∧g3<w5.heap.size)∧(w1.heap.size<=pl∧pl<w5.heap.size∧pl≠g∧pl≠g3)∧w5.cell? ⟨pl,0,.none⟩=some (.int .i64 fr)∧w5.frozen? ⟨pl,0,.none⟩=false∧Rm.Ram w5 pm b mm N Bm (Rm.down fr)):=⟨hB15,hBW5,hLe5,hLt5,hgl,hgt,hpl2,kp,kf,H1.out.1.below hB15⟩
 have HFs:Hid (∀ i,0<=(fun i=>fs.getD i 0) i∧(fun i=>fs.getD i 0) i<256):=HL.out.2.2.2.2.1
 go_upto_region 10 with fail
 rw[<-hw5,<-hpl]
 clear hw5 hpl b5 kp kf hB15 hBW5 hLe5 hLt5 hgl hgt hpl2 hcg hct
 obtain⟨ha,hr,hH⟩:=hd_ex (fun i=>fs.getD i 0)
 have hnd:N-1∉Rm.down fr:=fun h=>by rw[Rm.down_mem] at h;have:=HN.out;omega
 have hArg5:Arg w5 (some ⟨g3,0,.none⟩) n c3 xs:=⟨by have:=(lenT_tex H5.out.2.2.2.1).1;rw[HLn.out.2] at this;exact this,hn1,HX4.out⟩
 have cL:=load_every (ox:=oxL N) (ft:=N-1) (W:=w5) (fo:=0) (fn:=fn) (fc:=cg) H5.out.2.2.2.2.2.2.2.2.2 ⟨rfl,fun f hf=>by have hf:f=N-1:=hf;subst hf;exact⟨hnd,H1.out.2.2.2.2.2⟩⟩ ⟨by have:=HN.out;omega,by have:=HN.out;omega,hnd⟩ (HL.out.1.below H5.out.2.1) (HL.out.2.1.below H5.out.2.1) H1.out.2.2.2.1 (by have:=lent_row H5.out.2.2.1;rw[HLn.out.1] at this;exact this) H5.out.2.2.2.2.1.2 HFs.out hcg2 hArg5 ha hr hH (by rw[Rm.down_len];exact hfr6)
 rw[Rm.down_len,HT.out] at cL
 have HHd:Hid (Hd (fun i=>fs.getD i 0) ha hr):=hH
 have hrow5:Row w5 fb fo fn (fun i=>fs.getD i 0):=HL.out.2.2.2.2.2.1.keep H5.out.2.1
 have HRow:Hid (Row w5 fb fo fn (fun i=>fs.getD i 0)∧(64<=fn->fp=some ⟨fb,fo,.none⟩)∧Arg w5 p n c xs∧Row W fb fo fn (fun i=>fs.getD i 0)∧Arg W p n c xs):=⟨hrow5,fun h=>HL.out.2.2.2.2.2.2 (by omega),⟨HL.out.2.2.1.below H5.out.2.1,hn1,HX4.out⟩,HL.out.2.2.2.2.2.1,⟨HL.out.2.2.1,hn1,HX4.out⟩⟩
 clear hnd hArg5 hH hrow5
 generalize hBq:(fun i=>fs.getD i 0)=Bq at cL HFs HRow HHd
 have HBq:Hid ((fun i=>fs.getD i 0)=Bq):=hBq
 clear hBq
 go_upto_region 11 with(go_at_call 11;refine cL.mono ?_;clear cL;rintro E9 w6 h9;have h9:(∃ d:Int,E9 = .returned (.tuple #[.pointer .none,.agg #[.int .u64 0,.int .u64 0,.int .u64 0],.int .i64 d])∧Below w5.heap.size w5 w6∧∀ U,Below w5.heap.size w5 U->Calls Tryz.prog 26 #[.pointer (some ⟨pl,0,.none⟩),.slice fp fn fc,.slice p n c] U fun e w'=>e = .returned (.tuple #[.pointer .none,.agg #[.int .u64 0,.int .u64 0,.int .u64 0],.int .i64 d])∧Below U.heap.size U w')∨(dmE (rdF fn Bq ha hr).1.2 xs=0∧Sok (sgO fn Bq ha hr)∧sgO fn Bq ha hr ≠ []∧∃ e:Nat,ePg (sgO fn Bq ha hr)=(e:Int)∧1<=e∧e+2<=4096∧kdS (sgO fn Bq ha hr)<=fr∧LdM (oxL N) w5 pm b mm N e fr (sgO fn Bq ha hr) Bq xs (enO fn Bq ha hr) E9 w6):=?h9;rcases h9 with⟨d,rfl,b6,cQ⟩|⟨hdm,hso,hsn,e,hee,he1,he2,hke,s,r,Rp,spn,K,rfl,f6,hs6,hM6,hKf,hsp,hst⟩)
 case h9=>
  rcases h9 with⟨h1,h2,h3⟩|⟨h1,h2,h3,h4⟩|h1
  ·refine .inl ⟨_,h2,h3,fun U hU=>?_⟩
   exact loadQ_ref HRow.out.2.1 (HRow.out.1.keep hU) HFs.out hbc hf4 ha hr HHd.out (HRow.out.2.2.1.below hU) h1
  ·refine .inl ⟨_,h3,h4,fun U hU=>?_⟩
   obtain⟨kn,hkn⟩:∃ kn:Nat,kdS (sgO fn Bq ha hr)=(kn:Int):=⟨(kdS (sgO fn Bq ha hr)).toNat,by omega⟩
   rw[hkn] at h2
   have hr0:(rdF fn Bq ha hr).1.2=0:=by
    by_cases c:(rdF fn Bq ha hr).1.2=0
    ·exact c
    ·unfold dmE at h1
     rw[if_pos c] at h1
     first|exact h1|omega
   obtain⟨hs,hne⟩:=rd_ok HFs.out hr0 HHd.out
   exact loadQ_room ((hU.cell (zC H5.out.2.2.2.2.2.2.2.1)).trans H5.out.2.2.2.2.2.2.2.1) ((hU.frozen (p:=⟨pl,0,.none⟩) (zC H5.out.2.2.2.2.2.2.2.1)).trans H5.out.2.2.2.2.2.2.2.2.1) (by omega) HRow.out.2.1 (HRow.out.1.keep hU) HFs.out hbc hf4 ha hr HHd.out (HRow.out.2.2.1.below hU) h1 (by unfold kdS at hkn;exact hkn) (sgO_kd hs hkn) (by omega)
  ·exact .inr h1
 ·have B6:Hid (Below w5.heap.size w5 w6):=b6
  obtain⟨w7,hw7⟩:∃ w7,w7=w6.alloc (.cells #[.int .u64 0,.int .u64 0,.int .u64 0] 44):=⟨_,rfl⟩
  obtain⟨zs,hzs⟩:∃ zs,zs=w6.heap.size:=⟨_,rfl⟩
  have bw7:Below w6.heap.size w6 w7:=by rw[hw7];exact zB.alloc zL _
  have kw7:Hid (w7.cell? ⟨zs,0,.none⟩=some (.int .u64 0)∧w7.cell? ⟨zs,1,.none⟩=some (.int .u64 0)∧w7.cell? ⟨zs,2,.none⟩=some (.int .u64 0)):=by rw[hw7,hzs];exact⟨by simp,by simp,by simp⟩
  rw[<-hw7,<-hzs]
  clear hw7 hzs
  have B7:Hid (Below w5.heap.size w5 w7):=B6.out.trans (bw7.mono B6.out.size)
  have c26:=cQ w7 B7.out
  clear cQ b6 bw7
  go_upto_region 12 with(go_at_call 26;refine c26.mono ?_;rintro _ w8 ⟨rfl,b8⟩;clear c26;have B8:Hid (Below w7.heap.size w7 w8):=b8;clear b8)
  obtain⟨w9,hw9⟩:∃ w9,w9=w8.alloc (.cells #[.int .u64 0,.int .u64 0,.int .u64 0] 44):=⟨_,rfl⟩
  obtain⟨zw,hzw⟩:∃ zw,zw=w8.heap.size:=⟨_,rfl⟩
  have bw9:Below w8.heap.size w8 w9:=by rw[hw9];exact zB.alloc zL _
  have kw9:Hid (w9.cell? ⟨zw,0,.none⟩=some (.int .u64 0)∧w9.cell? ⟨zw,1,.none⟩=some (.int .u64 0)∧w9.cell? ⟨zw,2,.none⟩=some (.int .u64 0)):=by rw[hw9,hzw];exact⟨by simp,by simp,by simp⟩
  rw[<-hw9,<-hzw]
  clear hw9 hzw
  have B9:Hid (Below w7.heap.size w7 w9∧Below w5.heap.size w5 w9∧Below W.heap.size W w9∧Below w1.heap.size w1 w9):=by
   have h1:=B8.out.trans (bw9.mono B8.out.size)
   have h2:=B7.out.trans (h1.mono B7.out.size)
   exact⟨h1,h2,H5.out.2.1.trans (h2.mono H5.out.2.1.size),H5.out.1.trans (h2.mono H5.out.1.size)⟩
  have kS0:Hid (w9.drew.cell? ⟨zs,0,.none⟩=some (.int .u64 0)∧w9.drew.cell? ⟨zs,1,.none⟩=some (.int .u64 0)∧w9.drew.cell? ⟨zs,2,.none⟩=some (.int .u64 0)∧w9.drew.cell? ⟨zw,0,.none⟩=some (.int .u64 0)∧w9.drew.cell? ⟨zw,1,.none⟩=some (.int .u64 0)∧w9.drew.cell? ⟨zw,2,.none⟩=some (.int .u64 0)∧w9.drew.cell? ⟨pl,0,.none⟩=some (.int .i64 fr)):=
   hidS zB.drew (⟨(B9.out.1.cell (zC kw7.out.1)).trans kw7.out.1,(B9.out.1.cell (zC kw7.out.2.1)).trans kw7.out.2.1,(B9.out.1.cell (zC kw7.out.2.2)).trans kw7.out.2.2,kw9.out.1,kw9.out.2.1,kw9.out.2.2,(B9.out.2.1.cell (zC H5.out.2.2.2.2.2.2.2.1)).trans H5.out.2.2.2.2.2.2.2.1⟩)
  have HB9:Hid (Lent w9.drew w2.heap.size g cg fs∧Byt w9.drew fp fn fc fs∧Tex w9.drew p n c xs∧LenT w9.drew w3.heap.size g3 c3 xs):=⟨owns_below H5.out.2.2.1 B9.out.2.1.drew,byt_up HL.out.2.2.2.1 B9.out.2.2.1.drew,HL.out.2.2.1.below B9.out.2.2.1.drew,H5.out.2.2.2.1.below B9.out.2.1.drew⟩
  have c15:=Rm.ram_count (H1.out.1.below B9.out.2.2.2.drew)
  rw[Rm.down_len] at c15
  clear bw9
  refine wp_region_held_drew (S:=fun U=>(U.cell? ⟨zs,0,.none⟩=some (.int .u64 0)∧U.cell? ⟨zs,1,.none⟩=some (.int .u64 0)∧U.cell? ⟨zs,2,.none⟩=some (.int .u64 0)∧U.cell? ⟨zw,0,.none⟩=some (.int .u64 0)∧U.cell? ⟨zw,1,.none⟩=some (.int .u64 0)∧U.cell? ⟨zw,2,.none⟩=some (.int .u64 0)∧U.cell? ⟨pl,0,.none⟩=some (.int .i64 (fr)))) (by kernel_rfl) kS0.out (fun hHeld=>?_)
  refine nT 0 (.int .i64 d) rfl ?_ (fun ww hSw=>by (try dsimp only at hSw);obtain⟨q0,q1,q2,q3,q4,q5,q6⟩:=hSw;go_simp) (hw:=by kernel_rfl)
  simp only[xX]
  refine nT 1 (.int .i64 d) rfl ?_ (fun ww hSw=>by (try dsimp only at hSw);obtain⟨q0,q1,q2,q3,q4,q5,q6⟩:=hSw;go_simp) (hw:=by kernel_rfl)
  simp only[xX]
  refine nT 2 (.bool false) rfl ?_ (fun ww hSw=>by (try dsimp only at hSw);obtain⟨q0,q1,q2,q3,q4,q5,q6⟩:=hSw;go_simp) (hw:=by kernel_rfl)
  simp only[xX]
  refine nT 3 (.bool false) rfl ?_ (fun ww hSw=>by (try dsimp only at hSw);obtain⟨q0,q1,q2,q3,q4,q5,q6⟩:=hSw;go_simp) (hw:=by kernel_rfl)
  simp only[xX]
  refine nT 4 (.pointer .none) rfl ?_ (fun ww hSw=>by (try dsimp only at hSw);obtain⟨q0,q1,q2,q3,q4,q5,q6⟩:=hSw;go_simp) (hw:=by kernel_rfl)
  simp only[xX]
  refine nT 5 (.bool true) rfl ?_ (fun ww hSw=>by (try dsimp only at hSw);obtain⟨q0,q1,q2,q3,q4,q5,q6⟩:=hSw;go_simp) (hw:=by kernel_rfl)
  simp only[xX]
  refine nT 6 (.pointer .none) rfl ?_ (fun ww hSw=>by (try dsimp only at hSw);obtain⟨q0,q1,q2,q3,q4,q5,q6⟩:=hSw;go_simp) (hw:=by kernel_rfl)
  simp only[xX]
  refine nT 7 (.bool true) rfl ?_ (fun ww hSw=>by (try dsimp only at hSw);obtain⟨q0,q1,q2,q3,q4,q5,q6⟩:=hSw;go_simp) (hw:=by kernel_rfl)
  simp only[xX]
  refine nT 8 (.bool false) rfl ?_ (fun ww hSw=>by (try dsimp only at hSw);obtain⟨q0,q1,q2,q3,q4,q5,q6⟩:=hSw;go_simp) (hw:=by kernel_rfl)
  simp only[xX]
  refine nT 9 (.bool false) rfl ?_ (fun ww hSw=>by (try dsimp only at hSw);obtain⟨q0,q1,q2,q3,q4,q5,q6⟩:=hSw;go_simp) (hw:=by kernel_rfl)
  simp only[xX]
  refine nT 10 (.bool false) rfl ?_ (fun ww hSw=>by (try dsimp only at hSw);obtain⟨q0,q1,q2,q3,q4,q5,q6⟩:=hSw;go_simp) (hw:=by kernel_rfl)
  simp only[xX]
  refine nT 11 (.agg #[.int .u64 0,.int .u64 0,.int .u64 0]) rfl ?_ (fun ww hSw=>by (try dsimp only at hSw);obtain⟨q0,q1,q2,q3,q4,q5,q6⟩:=hSw;go_simp) (hw:=by kernel_rfl)
  simp only[xX]
  refine nT 12 (.agg #[.int .u64 0,.int .u64 0,.int .u64 0]) rfl ?_ (fun ww hSw=>by (try dsimp only at hSw);obtain⟨q0,q1,q2,q3,q4,q5,q6⟩:=hSw;go_simp) (hw:=by kernel_rfl)
  simp only[xX]
  refine nT 13 (.bool false) rfl ?_ (fun ww hSw=>by (try dsimp only at hSw);obtain⟨q0,q1,q2,q3,q4,q5,q6⟩:=hSw;go_simp) (hw:=by kernel_rfl)
  simp only[xX]
  refine nT 14 (.bool false) rfl ?_ (fun ww hSw=>by (try dsimp only at hSw);obtain⟨q0,q1,q2,q3,q4,q5,q6⟩:=hSw;go_simp) (hw:=by kernel_rfl)
  simp only[xX]
  refine nT 15 (.bool false) rfl ?_ (fun ww hSw=>by (try dsimp only at hSw);obtain⟨q0,q1,q2,q3,q4,q5,q6⟩:=hSw;go_simp) (hw:=by kernel_rfl)
  simp only[xX]
  refine nT 16 (.pointer (some ⟨pm,0,.none⟩)) rfl ?_ (fun ww hSw=>by (try dsimp only at hSw);obtain⟨q0,q1,q2,q3,q4,q5,q6⟩:=hSw;go_simp) (hw:=by kernel_rfl)
  simp only[xX]
  refine nT 18 (.pointer (some ⟨pl,0,.none⟩)) rfl ?_ (fun ww hSw=>by (try dsimp only at hSw);obtain⟨q0,q1,q2,q3,q4,q5,q6⟩:=hSw;go_simp) (hw:=by kernel_rfl)
  simp only[xX]
  refine nT 19 (.pointer (some ⟨pl,0,.none⟩)) rfl ?_ (fun ww hSw=>by (try dsimp only at hSw);obtain⟨q0,q1,q2,q3,q4,q5,q6⟩:=hSw;go_simp) (hw:=by kernel_rfl)
  simp only[xX]
  refine nT 20 (.pointer (some ⟨pl,0,.none⟩)) rfl ?_ (fun ww hSw=>by (try dsimp only at hSw);obtain⟨q0,q1,q2,q3,q4,q5,q6⟩:=hSw;go_simp) (hw:=by kernel_rfl)
  simp only[xX]
  refine nT 21 (.int .i64 (fr)) rfl ?_ (fun ww hSw=>by (try dsimp only at hSw);obtain⟨q0,q1,q2,q3,q4,q5,q6⟩:=hSw;go_simp) (hw:=by kernel_rfl)
  simp only[xX]
  refine zR 17 rfl (fun K hK=>?_)
  go_simp
  go_at_call 15
  refine(c15).mono ?_
  rintro _ wc ⟨rfl,bc⟩
  have BC:Hid (Below w9.drew.heap.size w9.drew wc):=bc
  clear bc
  have kS1:=hidS BC.out kS0
  refine hK.out _ _ (kS1.out) (fun hHeld=>?_)
  clear hK K
  try simp only[xX]
  refine nT 22 (.bool false) rfl ?_ (fun ww hSw=>by (try dsimp only at hSw);obtain⟨q0,q1,q2,q3,q4,q5,q6⟩:=hSw;go_simp) (hw:=by kernel_rfl)
  simp only[xX]
  refine nT 23 (.bool false) rfl ?_ (fun ww hSw=>by (try dsimp only at hSw);obtain⟨q0,q1,q2,q3,q4,q5,q6⟩:=hSw;go_simp) (hw:=by kernel_rfl)
  simp only[xX]
  refine nT 24 (.bool false) rfl ?_ (fun ww hSw=>by (try dsimp only at hSw);obtain⟨q0,q1,q2,q3,q4,q5,q6⟩:=hSw;go_simp) (hw:=by kernel_rfl)
  simp only[xX]
  refine nT 25 (.slice (some ⟨g,0,.none⟩) fn cg) rfl ?_ (fun ww hSw=>by (try dsimp only at hSw);obtain⟨q0,q1,q2,q3,q4,q5,q6⟩:=hSw;go_simp) (hw:=by kernel_rfl)
  simp only[xX]
  refine nT 26 (.slice fp fn fc) rfl ?_ (fun ww hSw=>by (try dsimp only at hSw);obtain⟨q0,q1,q2,q3,q4,q5,q6⟩:=hSw;go_simp) (hw:=by kernel_rfl)
  simp only[xX]
  refine zR 27 rfl (fun K hK=>?_)
  go_simp
  go_at_call 27
  refine(kept_any (byt_up HB9.out.2.1 BC.out) (by omega) (owns_below HB9.out.1 BC.out)).mono ?_
  rintro _ _ ⟨rfl,k1,rfl⟩
  refine hK.out _ _ (kS1.out) (fun hHeld=>?_)
  clear hK K
  try simp only[xX]
  refine nT 28 (.bool false) rfl ?_ (fun ww hSw=>by (try dsimp only at hSw);obtain⟨q0,q1,q2,q3,q4,q5,q6⟩:=hSw;go_simp) (hw:=by kernel_rfl)
  simp only[xX]
  refine nT 29 (.bool false) rfl ?_ (fun ww hSw=>by (try dsimp only at hSw);obtain⟨q0,q1,q2,q3,q4,q5,q6⟩:=hSw;go_simp) (hw:=by kernel_rfl)
  simp only[xX]
  refine nT 30 (.bool false) rfl ?_ (fun ww hSw=>by (try dsimp only at hSw);obtain⟨q0,q1,q2,q3,q4,q5,q6⟩:=hSw;go_simp) (hw:=by kernel_rfl)
  simp only[xX]
  refine nT 31 (.slice (some ⟨g3,0,.none⟩) n c3) rfl ?_ (fun ww hSw=>by (try dsimp only at hSw);obtain⟨q0,q1,q2,q3,q4,q5,q6⟩:=hSw;go_simp) (hw:=by kernel_rfl)
  simp only[xX]
  refine nT 32 (.slice p n c) rfl ?_ (fun ww hSw=>by (try dsimp only at hSw);obtain⟨q0,q1,q2,q3,q4,q5,q6⟩:=hSw;go_simp) (hw:=by kernel_rfl)
  simp only[xX]
  refine zR 33 rfl (fun K hK=>?_)
  go_simp
  go_at_call 28
  refine(keptT_any ((HB9.out.2.2.1.below BC.out).below (below_drewN' _ _)) (by omega) ((HB9.out.2.2.2.below BC.out).below (below_drewN' _ _))).mono ?_
  rintro _ _ ⟨rfl,k2,rfl⟩
  refine hK.out _ _ (kS1.out) (fun hHeld=>?_)
  clear hK K
  try simp only[xX]
  refine nT 34 (.bool false) rfl ?_ (fun ww hSw=>by (try dsimp only at hSw);obtain⟨q0,q1,q2,q3,q4,q5,q6⟩:=hSw;go_simp) (hw:=by kernel_rfl)
  simp only[xX]
  refine nT 35 (.bool false) rfl ?_ (fun ww hSw=>by (try dsimp only at hSw);obtain⟨q0,q1,q2,q3,q4,q5,q6⟩:=hSw;go_simp) (hw:=by kernel_rfl)
  simp only[xX]
  refine wpAnyH_done (by kernel_rfl) ?_ _
  have B10:Hid (Below w9.drew.heap.size w9.drew ((wc.drewN k1).drewN k2)):=BC.out.trans (((below_drewN' wc k1).trans ((below_drewN' (wc.drewN k1) k2).mono (below_drewN' wc k1).size)).mono BC.out.size)
  generalize ((wc.drewN k1).drewN k2)=w10 at *
  have B11:Hid (Below w1.heap.size w1 w10∧Below W.heap.size W w10):=⟨B9.out.2.2.2.drew.trans (B10.out.mono B9.out.2.2.2.size),B9.out.2.2.1.drew.trans (B10.out.mono B9.out.2.2.1.size)⟩
  have c29:=Rm.whole_any (H1.out.1.below B11.out.1) (N-1) ⟨by have:=HN.out;omega,fun h=>by rw[Rm.down_mem] at h;have:=HN.out;omega⟩ H1.out.2.2.2.2.2 fr
  rw[Rm.down_len,HT.out,decide_eq_true rfl] at c29
  clear hHeld kS0 c15
  go_wp2_with (go_at_call 29;refine c29.mono ?_;rintro _ w11 ⟨rfl,b11⟩)
  go_ret
  exact⟨rfl,B11.out.2.trans (b11.mono B11.out.2.size)⟩
 ·obtain⟨e9,he9,he91,h69,hin9⟩:=sok_pages hso hsn
  obtain rfl:e=e9:=by omega
  obtain rfl:fr=K:=by first|exact hKf|exact hKf.symm
  obtain⟨kn,hkn⟩:∃ kn:Nat,kdS (sgO fn Bq ha hr)=(kn:Int):=⟨(kdS (sgO fn Bq ha hr)).toNat,by unfold kdS;rw[hee];omega⟩
  have hr0:(rdF fn Bq ha hr).1.2=0:=by
   by_cases c:(rdF fn Bq ha hr).1.2=0
   ·exact c
   ·unfold dmE at hdm
    rw[if_pos c] at hdm
    first|exact hdm|omega
  have hd0:dmE 0 xs=0:=by rw[hr0] at hdm;exact hdm
  have hk9:(e:Int)+6+((e:Int)+513)/512=(kn:Int):=by unfold kdS at hkn;rw[hee] at hkn;exact hkn
  have hkf:kn<=fr:=by omega
  obtain⟨hB0,hn64⟩:=rd_first HFs.out HHd.out hr0
  obtain⟨S,hS⟩:∃ S,S=sgO fn Bq ha hr:=⟨_,rfl⟩
  obtain⟨en,hen⟩:∃ en,en=enO fn Bq ha hr:=⟨_,rfl⟩
  obtain⟨st,hstt⟩:∃ st,st=((e:Int)+1)*4096+(spn:Nat):=⟨_,rfl⟩
  obtain⟨M,hM⟩:∃ M,M=pgM Bq S e (ptR (((e:Int)+1)*4096) xs (stF xs xs.length) spn (8*xs.length)):=⟨_,rfl⟩
  have hRp:Rp=ptR (((e:Int)+1)*4096) xs (stF xs xs.length) spn (8*xs.length):=funext hst.2.2.2.2
  rw[<-hS] at hso hsn hee hkn hke hM6 hin9
  rw[hRp,<-hM] at hM6
  rw[<-hen,<-hstt]
  have HS:Hid ((rdF fn Bq ha hr).1.2=0∧dmE 0 xs=0∧sgO fn Bq ha hr=S∧enO fn Bq ha hr=en∧ePg S=(e:Int)∧(1<=e∧e+2<=4096)∧(∀ y∈S,0<=y.va∧y.va+y.sz<=(e:Int)*4096)∧S ≠ []∧Sok S∧((e:Int)+6+((e:Int)+513)/512=(kn:Int))∧Bq 0=127∧(stx 4096 xs-8*(xs.length+1))/16*16=(spn:Int)∧st=((e:Int)+1)*4096+(spn:Nat)∧M=pgM Bq S e (ptR (((e:Int)+1)*4096) xs (stF xs xs.length) spn (8*xs.length))):=⟨hr0,hd0,hS.symm,hen.symm,hee,⟨he1,he2⟩,hin9,hsn,hso,hk9,hB0,hsp,hstt,hM⟩
  have hw15:=H5.out.1.size
  have hblk:∀ k,w1.heap.size<=k->k<w5.heap.size->w6.heap[k]? = w5.heap[k]?:=fun k h1 h2=>f6.block k h2 (by have:=H1.out.2.2.2.2.1;omega) (by have:=H1.out.2.2.2.2.1;omega) (by have:=H1.out.2.2.2.2.1;omega)
  have H6:Hid (Lent w6 w2.heap.size g cg fs∧LenT w6 w3.heap.size g3 c3 xs∧w6.cell? ⟨pl,0,.none⟩=some (.int .i64 fr)∧w6.frozen? ⟨pl,0,.none⟩=false∧Below W.heap.size W w6∧Rm.SpM (oxL N) w6 s pm b mm N r (e+2) fr M (Rm.upd (cS S) e 198)∧w5.heap.size<=s):=by
   refine⟨Rm.own_block H5.out.2.2.1 (hblk g H5.out.2.2.2.2.1.1 H5.out.2.2.2.2.1.2),Rm.own_block H5.out.2.2.2.1 (hblk g3 H5.out.2.2.2.2.2.1.1 H5.out.2.2.2.2.2.1.2),?_,?_,?_,hM6,hs6⟩
   ·exact(cell_heap (hblk pl H5.out.2.2.2.2.2.2.1.1 H5.out.2.2.2.2.2.2.1.2.1) _ _).trans H5.out.2.2.2.2.2.2.2.1
   ·exact(World.frozen?_of_block (a:=⟨pl,0,.none⟩) (hblk pl H5.out.2.2.2.2.2.2.1.1 H5.out.2.2.2.2.2.2.1.2.1)).trans H5.out.2.2.2.2.2.2.2.2.1
   ·exact H5.out.2.1.trans (f6.toBelow H5.out.2.1.size H1.out.2.2.1.1 H1.out.2.2.1.2.1 H1.out.2.2.1.2.2)
  clear hblk f6 hs6 hM6 hsp hst hRp hM hS hen hstt hdm hso hsn hee he1 he2 hke hr0 hd0 hk9 hB0 he9 he91 h69 hin9 hkn
  obtain⟨w7,hw7⟩:∃ w7,w7=w6.alloc (.cells #[.int .u64 en,.int .u64 st,.int .u64 st] 44):=⟨_,rfl⟩
  obtain⟨zs,hzs⟩:∃ zs,zs=w6.heap.size:=⟨_,rfl⟩
  have bw7:Below w6.heap.size w6 w7:=by rw[hw7];exact zB.alloc zL _
  have kw7:Hid (w7.cell? ⟨zs,0,.none⟩=some (.int .u64 en)∧w7.cell? ⟨zs,1,.none⟩=some (.int .u64 st)∧w7.cell? ⟨zs,2,.none⟩=some (.int .u64 st)):=by rw[hw7,hzs];exact⟨by simp,by simp,by simp⟩
  rw[<-hw7,<-hzs]
  clear hw7 hzs
  have hW7:Below W.heap.size W w7:=H6.out.2.2.2.2.1.trans (bw7.mono H6.out.2.2.2.2.1.size)
  have hplW:W.heap.size<=pl:=Nat.le_trans H1.out.2.1.size H5.out.2.2.2.2.2.2.1.1
  obtain⟨U,hU⟩:∃ U,U=w7.setCell ⟨pl,0,.none⟩ (.int .i64 ((fr:Int)-kn)):=⟨_,rfl⟩
  have hWU:Below W.heap.size W U:=by rw[hU];exact hW7.setCell hplW _
  have c26:=loadQ_ok (W:=w7) (kn:=kn) ((bw7.cell (zC H6.out.2.2.1)).trans H6.out.2.2.1) ((bw7.frozen (p:=⟨pl,0,.none⟩) (zC H6.out.2.2.1)).trans H6.out.2.2.2.1) (by omega) HRow.out.2.1 (HRow.out.2.2.2.1.keep hW7) (by rw[<-hU];exact HRow.out.2.2.2.1.keep hWU) HFs.out hbc hf4 ha hr HHd.out (HRow.out.2.2.2.2.below hW7) (by rw[<-hU];exact HRow.out.2.2.2.2.below hWU) HS.out.1 HS.out.2.1 HS.out.2.2.1 en HS.out.2.2.2.1 e HS.out.2.2.2.2.1 HS.out.2.2.2.2.2.1 HS.out.2.2.2.2.2.2.1 HS.out.2.2.2.2.2.2.2.1 HS.out.2.2.2.2.2.2.2.2.1 HS.out.2.2.2.2.2.2.2.2.2.1 hkf
  rw[<-hU] at c26
  unfold LqP at c26
  have hUs:U.heap.size=w7.heap.size:=by rw[hU];simp[World.setCell]
  have H7:Hid (Below w6.heap.size w6 w7∧Below W.heap.size W U∧U=w7.setCell ⟨pl,0,.none⟩ (.int .i64 ((fr:Int)-kn))∧U.heap.size=w7.heap.size):=⟨bw7,hWU,hU,hUs⟩
  clear hW7 hplW hWU hU hUs bw7
  go_upto_region 12 with(go_at_call 26;refine c26.mono ?_;rintro _ w8 ⟨q,gq,cq,d,spq,rfl,b8,hspq,hQ,hqb,hgb,hdb⟩;clear c26)
  obtain rfl:spn=spq:=by have:=HS.out.2.2.2.2.2.2.2.2.2.2.2.1;omega
  rw[<-HS.out.2.2.2.2.2.2.2.2.2.2.2.2.1]
  rw[<-HS.out.2.2.2.2.2.2.2.2.2.2.2.2.2] at hQ
  have H8:Hid (Rm.QSp w8 q pl (e+2) gq cq (Rm.prS S e) d M∧Below U.heap.size U w8∧U.heap.size<=q∧U.heap.size<=gq∧∀ k,k<e+2->U.heap.size<=d k):=⟨hQ,b8,hqb,hgb,hdb⟩
  clear hQ b8 hqb hgb hdb hspq
  obtain⟨w9,hw9⟩:∃ w9,w9=w8.alloc (.cells #[.int .u64 en,.int .u64 st,.int .u64 st] 44):=⟨_,rfl⟩
  obtain⟨zw,hzw⟩:∃ zw,zw=w8.heap.size:=⟨_,rfl⟩
  have bw9:Below w8.heap.size w8 w9:=by rw[hw9];exact zB.alloc zL _
  have kw9:Hid (w9.cell? ⟨zw,0,.none⟩=some (.int .u64 en)∧w9.cell? ⟨zw,1,.none⟩=some (.int .u64 st)∧w9.cell? ⟨zw,2,.none⟩=some (.int .u64 st)):=by rw[hw9,hzw];exact⟨by simp,by simp,by simp⟩
  rw[<-hw9,<-hzw]
  clear hw9 hzw
  have hU9:Below U.heap.size U w9:=H8.out.2.1.trans (bw9.mono H8.out.2.1.size)
  have hpls:pl<w6.heap.size:=zC H6.out.2.2.1
  have hbk:∀ k,k<w7.heap.size->k≠pl->w9.heap[k]? = w7.heap[k]?:=fun k h1 h2=>by
   refine(hU9.block k (by rw[H7.out.2.2.2];exact h1)).trans ?_
   rw[H7.out.2.2.1]
   exact Below.heap_setCell _ _ _ _ h2
  have hg6:g<w6.heap.size∧g3<w6.heap.size:=⟨own_lt H6.out.1,own_lt H6.out.2.1⟩
  have h67:=H7.out.1.size
  have hzs:zs<w7.heap.size:=zC kw7.out.1
  have hzp:zs≠pl:=by
   intro h
   have h1:=kw7.out.1
   rw[h] at h1
   have h2:=(H7.out.1.cell hpls).trans H6.out.2.2.1
   rw[h2] at h1
   cases h1
  have hpm:pm≠pl∧b≠pl∧mm≠pl∧s≠pl:=by have:=H1.out.2.2.2.2.1;have:=H5.out.2.2.2.2.2.2.1;have:=H6.out.2.2.2.2.2.2;omega
  have H9:Hid (Rm.SpM (oxL N) w9 s pm b mm N r (e+2) fr M (Rm.upd (cS S) e 198)∧Rm.QSp w9 q pl (e+2) gq cq (Rm.prS S e) d M∧Lent w9 w2.heap.size g cg fs∧LenT w9 w3.heap.size g3 c3 xs∧Below W.heap.size W w9∧w9.cell? ⟨pl,0,.none⟩=some (.int .i64 ((fr:Int)-kn))∧(w6.heap.size<=q∧w6.heap.size<=gq∧∀ k,k<e+2->w6.heap.size<=d k)∧(g<w6.heap.size∧g≠pm∧g≠b∧g≠mm∧g≠s∧g≠pl∧g≠g3)∧(pm≠pl∧b≠pl∧mm≠pl∧s≠pl)∧W.heap.size<=g∧W.heap.size<=s):=by
   refine⟨?_,H8.out.1.below bw9,Rm.own_block (owns_below H6.out.1 H7.out.1) (hbk g (by omega) (fun h=>H5.out.2.2.2.2.2.2.1.2.2.1 h.symm)),Rm.own_block (H6.out.2.1.below H7.out.1) (hbk g3 (by omega) (fun h=>H5.out.2.2.2.2.2.2.1.2.2.2 h.symm)),H7.out.2.1.trans (hU9.mono H7.out.2.1.size),?_,?_,?_,hpm,Nat.le_trans H1.out.2.1.size H5.out.2.2.2.2.1.1,Nat.le_trans H5.out.2.1.size H6.out.2.2.2.2.2.2⟩
   ·refine Rm.SpM.below ?_ hU9
    rw[H7.out.2.2.1]
    exact SpM_beside (H6.out.2.2.2.2.2.1.below H7.out.1) ⟨pl,0,.none⟩ _ ⟨hpm.1.symm,hpm.2.1.symm,hpm.2.2.1.symm,hpm.2.2.2.symm⟩
   ·refine(hU9.cell (p:=⟨pl,0,.none⟩) (by rw[H7.out.2.2.2];show pl<_;omega)).trans ?_
    rw[H7.out.2.2.1]
    exact World.cell?_setCell_same _ _ _ ((H7.out.1.cell hpls).trans H6.out.2.2.1)
   ·have:=H8.out.2.2
    have h2:=H7.out.2.2.2
    exact⟨by omega,by omega,fun k hk=>by have:=this.2.2 k hk;omega⟩
   ·have:=H1.out.2.2.2.2.1
    have:=H5.out.2.2.2.2.1
    have:=H6.out.2.2.2.2.2.2
    have:=H5.out.2.2.2.2.2.2.1
    refine⟨hg6.1,by omega,by omega,by omega,by omega,fun h=>H5.out.2.2.2.2.2.2.1.2.2.1 h.symm,fun h=>?_⟩
    have h4:=own_lt H3.out.1
    have h5:=own_block H4.out.1 g3 rfl
    omega
  have kS0:Hid (w9.drew.cell? ⟨zs,0,.none⟩=some (.int .u64 en)∧w9.drew.cell? ⟨zs,1,.none⟩=some (.int .u64 st)∧w9.drew.cell? ⟨zs,2,.none⟩=some (.int .u64 st)∧w9.drew.cell? ⟨zw,0,.none⟩=some (.int .u64 en)∧w9.drew.cell? ⟨zw,1,.none⟩=some (.int .u64 st)∧w9.drew.cell? ⟨zw,2,.none⟩=some (.int .u64 st)∧w9.drew.cell? ⟨pl,0,.none⟩=some (.int .i64 ((fr:Int)-kn))):=
   hidS zB.drew (⟨(cell_heap (hbk zs hzs hzp) _ _).trans kw7.out.1,(cell_heap (hbk zs hzs hzp) _ _).trans kw7.out.2.1,(cell_heap (hbk zs hzs hzp) _ _).trans kw7.out.2.2,kw9.out.1,kw9.out.2.1,kw9.out.2.2,H9.out.2.2.2.2.2.1⟩)
  have HB9:Hid (Lent w9.drew w2.heap.size g cg fs∧Byt w9.drew fp fn fc fs∧Tex w9.drew p n c xs∧LenT w9.drew w3.heap.size g3 c3 xs):=⟨owns_below H9.out.2.2.1 zB.drew,byt_up HL.out.2.2.2.1 H9.out.2.2.2.2.1.drew,HL.out.2.2.1.below H9.out.2.2.2.2.1.drew,H9.out.2.2.2.1.below zB.drew⟩
  have c15:=(H9.out.1.below zB.drew).count
  have hcnt:((fr:Nat):Int)-((e+2:Nat):Int)-Rm.ndP ((e+2:Nat):Int)=(fr:Int)-kn:=by
   have:=HS.out.2.2.2.2.2.2.2.2.2.1
   unfold Rm.ndP
   rw[if_neg (by omega)]
   omega
  rw[hcnt] at c15
  have HCn:Hid (((fr:Nat):Int)-((e+2:Nat):Int)-Rm.ndP ((e+2:Nat):Int)=(fr:Int)-kn):=hcnt
  clear hU9 hpls hbk hg6 h67 hzs hzp hpm bw9 hw15 hcnt
  refine wp_region_held_drew (S:=fun U=>(U.cell? ⟨zs,0,.none⟩=some (.int .u64 en)∧U.cell? ⟨zs,1,.none⟩=some (.int .u64 st)∧U.cell? ⟨zs,2,.none⟩=some (.int .u64 st)∧U.cell? ⟨zw,0,.none⟩=some (.int .u64 en)∧U.cell? ⟨zw,1,.none⟩=some (.int .u64 st)∧U.cell? ⟨zw,2,.none⟩=some (.int .u64 st)∧U.cell? ⟨pl,0,.none⟩=some (.int .i64 ((fr:Int)-kn)))) (by kernel_rfl) kS0.out (fun hHeld=>?_)
  refine nT 0 (.int .i64 0) rfl ?_ (fun ww hSw=>by (try dsimp only at hSw);obtain⟨q0,q1,q2,q3,q4,q5,q6⟩:=hSw;go_simp) (hw:=by kernel_rfl)
  simp only[xX]
  refine nT 1 (.int .i64 0) rfl ?_ (fun ww hSw=>by (try dsimp only at hSw);obtain⟨q0,q1,q2,q3,q4,q5,q6⟩:=hSw;go_simp) (hw:=by kernel_rfl)
  simp only[xX]
  refine nT 2 (.bool false) rfl ?_ (fun ww hSw=>by (try dsimp only at hSw);obtain⟨q0,q1,q2,q3,q4,q5,q6⟩:=hSw;go_simp) (hw:=by kernel_rfl)
  simp only[xX]
  refine nT 3 (.bool false) rfl ?_ (fun ww hSw=>by (try dsimp only at hSw);obtain⟨q0,q1,q2,q3,q4,q5,q6⟩:=hSw;go_simp) (hw:=by kernel_rfl)
  simp only[xX]
  refine nT 4 (.pointer (some ⟨s,0,.none⟩)) rfl ?_ (fun ww hSw=>by (try dsimp only at hSw);obtain⟨q0,q1,q2,q3,q4,q5,q6⟩:=hSw;go_simp) (hw:=by kernel_rfl)
  simp only[xX]
  refine nT 5 (.bool false) rfl ?_ (fun ww hSw=>by (try dsimp only at hSw);obtain⟨q0,q1,q2,q3,q4,q5,q6⟩:=hSw;go_simp) (hw:=by kernel_rfl)
  simp only[xX]
  refine nT 6 (.pointer (some ⟨q,0,.none⟩)) rfl ?_ (fun ww hSw=>by (try dsimp only at hSw);obtain⟨q0,q1,q2,q3,q4,q5,q6⟩:=hSw;go_simp) (hw:=by kernel_rfl)
  simp only[xX]
  refine nT 7 (.bool false) rfl ?_ (fun ww hSw=>by (try dsimp only at hSw);obtain⟨q0,q1,q2,q3,q4,q5,q6⟩:=hSw;go_simp) (hw:=by kernel_rfl)
  simp only[xX]
  refine nT 8 (.bool false) rfl ?_ (fun ww hSw=>by (try dsimp only at hSw);obtain⟨q0,q1,q2,q3,q4,q5,q6⟩:=hSw;go_simp) (hw:=by kernel_rfl)
  simp only[xX]
  refine nT 9 (.bool false) rfl ?_ (fun ww hSw=>by (try dsimp only at hSw);obtain⟨q0,q1,q2,q3,q4,q5,q6⟩:=hSw;go_simp) (hw:=by kernel_rfl)
  simp only[xX]
  refine nT 10 (.bool false) rfl ?_ (fun ww hSw=>by (try dsimp only at hSw);obtain⟨q0,q1,q2,q3,q4,q5,q6⟩:=hSw;go_simp) (hw:=by kernel_rfl)
  simp only[xX]
  refine nT 11 (.agg #[.int .u64 en,.int .u64 st,.int .u64 st]) rfl ?_ (fun ww hSw=>by (try dsimp only at hSw);obtain⟨q0,q1,q2,q3,q4,q5,q6⟩:=hSw;go_simp) (hw:=by kernel_rfl)
  simp only[xX]
  refine nT 12 (.agg #[.int .u64 en,.int .u64 st,.int .u64 st]) rfl ?_ (fun ww hSw=>by (try dsimp only at hSw);obtain⟨q0,q1,q2,q3,q4,q5,q6⟩:=hSw;go_simp) (hw:=by kernel_rfl)
  simp only[xX]
  refine nT 13 (.bool false) rfl ?_ (fun ww hSw=>by (try dsimp only at hSw);obtain⟨q0,q1,q2,q3,q4,q5,q6⟩:=hSw;go_simp) (hw:=by kernel_rfl)
  simp only[xX]
  refine nT 14 (.bool false) rfl ?_ (fun ww hSw=>by (try dsimp only at hSw);obtain⟨q0,q1,q2,q3,q4,q5,q6⟩:=hSw;go_simp) (hw:=by kernel_rfl)
  simp only[xX]
  refine nT 15 (.bool false) rfl ?_ (fun ww hSw=>by (try dsimp only at hSw);obtain⟨q0,q1,q2,q3,q4,q5,q6⟩:=hSw;go_simp) (hw:=by kernel_rfl)
  simp only[xX]
  refine nT 16 (.pointer (some ⟨pm,0,.none⟩)) rfl ?_ (fun ww hSw=>by (try dsimp only at hSw);obtain⟨q0,q1,q2,q3,q4,q5,q6⟩:=hSw;go_simp) (hw:=by kernel_rfl)
  simp only[xX]
  refine nT 18 (.pointer (some ⟨pl,0,.none⟩)) rfl ?_ (fun ww hSw=>by (try dsimp only at hSw);obtain⟨q0,q1,q2,q3,q4,q5,q6⟩:=hSw;go_simp) (hw:=by kernel_rfl)
  simp only[xX]
  refine nT 19 (.pointer (some ⟨pl,0,.none⟩)) rfl ?_ (fun ww hSw=>by (try dsimp only at hSw);obtain⟨q0,q1,q2,q3,q4,q5,q6⟩:=hSw;go_simp) (hw:=by kernel_rfl)
  simp only[xX]
  refine nT 20 (.pointer (some ⟨pl,0,.none⟩)) rfl ?_ (fun ww hSw=>by (try dsimp only at hSw);obtain⟨q0,q1,q2,q3,q4,q5,q6⟩:=hSw;go_simp) (hw:=by kernel_rfl)
  simp only[xX]
  refine nT 21 (.int .i64 ((fr:Int)-kn)) rfl ?_ (fun ww hSw=>by (try dsimp only at hSw);obtain⟨q0,q1,q2,q3,q4,q5,q6⟩:=hSw;go_simp) (hw:=by kernel_rfl)
  simp only[xX]
  refine zR 17 rfl (fun K hK=>?_)
  go_simp
  go_at_call 15
  refine(c15).mono ?_
  rintro _ wc ⟨rfl,bc⟩
  have BC:Hid (Below w9.drew.heap.size w9.drew wc):=bc
  clear bc
  have kS1:=hidS BC.out kS0
  refine hK.out _ _ (kS1.out) (fun hHeld=>?_)
  clear hK K
  try simp only[xX]
  refine nT 22 (.bool false) rfl ?_ (fun ww hSw=>by (try dsimp only at hSw);obtain⟨q0,q1,q2,q3,q4,q5,q6⟩:=hSw;go_simp) (hw:=by kernel_rfl)
  simp only[xX]
  refine nT 23 (.bool false) rfl ?_ (fun ww hSw=>by (try dsimp only at hSw);obtain⟨q0,q1,q2,q3,q4,q5,q6⟩:=hSw;go_simp) (hw:=by kernel_rfl)
  simp only[xX]
  refine nT 24 (.bool false) rfl ?_ (fun ww hSw=>by (try dsimp only at hSw);obtain⟨q0,q1,q2,q3,q4,q5,q6⟩:=hSw;go_simp) (hw:=by kernel_rfl)
  simp only[xX]
  refine nT 25 (.slice (some ⟨g,0,.none⟩) fn cg) rfl ?_ (fun ww hSw=>by (try dsimp only at hSw);obtain⟨q0,q1,q2,q3,q4,q5,q6⟩:=hSw;go_simp) (hw:=by kernel_rfl)
  simp only[xX]
  refine nT 26 (.slice fp fn fc) rfl ?_ (fun ww hSw=>by (try dsimp only at hSw);obtain⟨q0,q1,q2,q3,q4,q5,q6⟩:=hSw;go_simp) (hw:=by kernel_rfl)
  simp only[xX]
  refine zR 27 rfl (fun K hK=>?_)
  go_simp
  go_at_call 27
  refine(kept_any (byt_up HB9.out.2.1 BC.out) (by omega) (owns_below HB9.out.1 BC.out)).mono ?_
  rintro _ _ ⟨rfl,k1,rfl⟩
  refine hK.out _ _ (kS1.out) (fun hHeld=>?_)
  clear hK K
  try simp only[xX]
  refine nT 28 (.bool false) rfl ?_ (fun ww hSw=>by (try dsimp only at hSw);obtain⟨q0,q1,q2,q3,q4,q5,q6⟩:=hSw;go_simp) (hw:=by kernel_rfl)
  simp only[xX]
  refine nT 29 (.bool false) rfl ?_ (fun ww hSw=>by (try dsimp only at hSw);obtain⟨q0,q1,q2,q3,q4,q5,q6⟩:=hSw;go_simp) (hw:=by kernel_rfl)
  simp only[xX]
  refine nT 30 (.bool false) rfl ?_ (fun ww hSw=>by (try dsimp only at hSw);obtain⟨q0,q1,q2,q3,q4,q5,q6⟩:=hSw;go_simp) (hw:=by kernel_rfl)
  simp only[xX]
  refine nT 31 (.slice (some ⟨g3,0,.none⟩) n c3) rfl ?_ (fun ww hSw=>by (try dsimp only at hSw);obtain⟨q0,q1,q2,q3,q4,q5,q6⟩:=hSw;go_simp) (hw:=by kernel_rfl)
  simp only[xX]
  refine nT 32 (.slice p n c) rfl ?_ (fun ww hSw=>by (try dsimp only at hSw);obtain⟨q0,q1,q2,q3,q4,q5,q6⟩:=hSw;go_simp) (hw:=by kernel_rfl)
  simp only[xX]
  refine zR 33 rfl (fun K hK=>?_)
  go_simp
  go_at_call 28
  refine(keptT_any ((HB9.out.2.2.1.below BC.out).below (below_drewN' _ _)) (by omega) ((HB9.out.2.2.2.below BC.out).below (below_drewN' _ _))).mono ?_
  rintro _ _ ⟨rfl,k2,rfl⟩
  refine hK.out _ _ (kS1.out) (fun hHeld=>?_)
  clear hK K
  try simp only[xX]
  refine nT 34 (.bool false) rfl ?_ (fun ww hSw=>by (try dsimp only at hSw);obtain⟨q0,q1,q2,q3,q4,q5,q6⟩:=hSw;go_simp) (hw:=by kernel_rfl)
  simp only[xX]
  refine nT 35 (.bool false) rfl ?_ (fun ww hSw=>by (try dsimp only at hSw);obtain⟨q0,q1,q2,q3,q4,q5,q6⟩:=hSw;go_simp) (hw:=by kernel_rfl)
  simp only[xX]
  refine wpAnyH_done (by kernel_rfl) ?_ _
  have B10:Hid (Below w9.heap.size w9 ((wc.drewN k1).drewN k2)):=zB.drew.trans (BC.out.trans (((below_drewN' wc k1).trans ((below_drewN' (wc.drewN k1) k2).mono (below_drewN' wc k1).size)).mono BC.out.size))
  generalize ((wc.drewN k1).drewN k2)=w10 at *
  clear hHeld kS0 c15 kS1
  have H10:Hid (Rm.SpM (oxL N) w10 s pm b mm N r (e+2) fr M (Rm.upd (cS S) e 198)∧Rm.QSp w10 q pl (e+2) gq cq (Rm.prS S e) d M∧Lent w10 w2.heap.size g cg fs∧LenT w10 w3.heap.size g3 c3 xs∧Below W.heap.size W w10∧w10.cell? ⟨pl,0,.none⟩=some (.int .i64 ((fr:Int)-kn))):=⟨H9.out.1.below B10.out,H9.out.2.1.below B10.out,owns_below H9.out.2.2.1 B10.out,H9.out.2.2.2.1.below B10.out,H9.out.2.2.2.2.1.trans (B10.out.mono H9.out.2.2.2.2.1.size),(B10.out.cell (zC H9.out.2.2.2.2.2.1)).trans H9.out.2.2.2.2.2.1⟩
  have c30:=H10.out.1.same (sok_fl HS.out.2.2.2.2.2.2.2.2.1) H10.out.2.1
  go_upto_region 18 with(go_at_call 30;refine c30.mono ?_;rintro _ w11 ⟨rfl,b11⟩;clear c30)
  have H11:Hid (Rm.SpM (oxL N) w11 s pm b mm N r (e+2) fr M (Rm.upd (cS S) e 198)∧Rm.QSp w11 q pl (e+2) gq cq (Rm.prS S e) d M∧Lent w11 w2.heap.size g cg fs∧LenT w11 w3.heap.size g3 c3 xs∧Below W.heap.size W w11∧w11.cell? ⟨pl,0,.none⟩=some (.int .i64 ((fr:Int)-kn))):=⟨H10.out.1.below b11,H10.out.2.1.below b11,owns_below H10.out.2.2.1 b11,H10.out.2.2.2.1.below b11,H10.out.2.2.2.2.1.trans (b11.mono H10.out.2.2.2.2.1.size),(b11.cell (zC H10.out.2.2.2.2.2)).trans H10.out.2.2.2.2.2⟩
  clear b11
  have hT0:TrnB w11 g fn 0 fs Bq:=⟨by have h9:=lent_row H11.out.2.2.1;rw[HLn.out.1] at h9;rw[<-HBq.out];exact h9,HFs.out,fun j=>H11.out.2.2.1.frozenAt j,fun j _=>by rw[<-HBq.out],fun h=>by omega⟩
  have HT0:Hid (TrnB w11 g fn 0 fs Bq):=hT0
  clear hT0
  go_wp2_with fail
  go_loopw [20] (fun k wr=>∃ i:Nat,i<=fn∧k = .int .i64 i∧Hid (Rm.SpM (oxL N) wr s pm b mm N r (e+2) fr M (Rm.upd (cS S) e 198)∧Rm.QSp wr q pl (e+2) gq cq (Rm.prS S e) d M∧(∃ C,TrnB wr g fn i fs C)∧LenT wr w3.heap.size g3 c3 xs∧Below W.heap.size W wr∧wr.cell? ⟨pl,0,.none⟩=some (.int .i64 ((fr:Int)-kn))∧g<wr.heap.size)) (fun k _=>(fn-intOf k).toNat)
  case atStart=>exact⟨0,by omega,rfl,H11.out.1,H11.out.2.1,⟨_,HT0.out⟩,H11.out.2.2.2.1,H11.out.2.2.2.2.1,H11.out.2.2.2.2.2,own_lt H11.out.2.2.1⟩
  case round=>
   obtain⟨i,hi,rfl,HRr⟩:=hrel
   by_cases hlt:i<fn
   ·have g0:(i:Int)<fn:=by omega
    obtain⟨C,hC⟩:=HRr.out.2.2.1
    have a0:wr.cell? ⟨g,i,.none⟩=some (.int .u8 (C i)):=by have:=hC.row i hlt;rwa [Nat.zero_add] at this
    have a1:wr.frozen? ⟨g,i,.none⟩=false:=hC.fz i
    have HC:Hid (TrnB wr g fn i fs C):=hC
    clear hC
    go_wp2_with fail
    have hq:=H9.out.2.2.2.2.2.2.1
    have hg:=H9.out.2.2.2.2.2.2.2.1
    refine⟨⟨i+1,by omega,rfl,SpM_beside HRr.out.1 _ _ ⟨hg.2.1,hg.2.2.1,hg.2.2.2.1,hg.2.2.2.2.1⟩,QSp_beside HRr.out.2.1 _ _ (by show g≠q;omega) (by show g≠gq;omega) (fun k hk=>by have:=hq.2.2 k hk;show g≠d k;omega),⟨_,HC.out.step hlt⟩,Rm.own_block HRr.out.2.2.2.1 (Below.heap_setCell _ _ _ _ (fun h=>hg.2.2.2.2.2.2 h.symm)),HRr.out.2.2.2.2.1.setCell H9.out.2.2.2.2.2.2.2.2.2.1 _,(cell_heap (Below.heap_setCell _ _ _ _ (fun h=>hg.2.2.2.2.2.1 h.symm)) _ _).trans HRr.out.2.2.2.2.2.1,by simpa [World.setCell] using HRr.out.2.2.2.2.2.2⟩,by simp only[intOf];omega⟩
   ·obtain rfl:i=fn:=by omega
    obtain⟨C,hC⟩:=HRr.out.2.2.1
    have HC:Hid (TrnB wr g i i fs C):=hC
    clear hC
    have c30:=HRr.out.1.same (sok_fl HS.out.2.2.2.2.2.2.2.2.1) HRr.out.2.1
    go_upto_region 24 with(go_at_call 30;refine c30.mono ?_;rintro _ w12 ⟨rfl,b12⟩;clear c30)
    have B12:Hid (Below wr.heap.size wr w12∧Below W.heap.size W w12):=⟨b12,HRr.out.2.2.2.2.1.trans (b12.mono HRr.out.2.2.2.2.1.size)⟩
    clear b12
    have hC0:C 0=37:=by
     rw[HC.out.one (by omega)]
     have h1:=HS.out.2.2.2.2.2.2.2.2.2.2.1
     rw[<-HBq.out] at h1
     have h1:fs.getD 0 0=127:=h1
     rw[h1]
     exact turned_127
    have hde:dmE (rdF i C 0 141).1.2 xs=280:=by unfold dmE;rw[if_pos (rd_turned _ _)]
    have c11:=load_refM (.pointer (some ⟨pm,0,.none⟩)) (W:=w12) (fc:=cg) (HL.out.1.below B12.out.2) (.inl ⟨g,0,rfl,HC.out.row.keep B12.out.1,Nat.lt_of_lt_of_le HRr.out.2.2.2.2.2.2 B12.out.1.size⟩) HC.out.bd hcg2 0 141 (hd_turned hC0) (p:=some ⟨g3,0,.none⟩) (n:=n) (c:=c3) (xs:=xs) ⟨by have:=(lenT_tex (HRr.out.2.2.2.1.below B12.out.1)).1;rw[HLn.out.2] at this;exact this,hn1,HX4.out⟩ tr (by rw[hde];decide)
    rw[hde] at c11
    clear hC0 hde
    go_upto_region 25 with(go_at_call 11;refine c11.mono ?_;rintro _ w13 ⟨rfl,b13⟩;clear c11)
    have H13:Hid (Rm.SpM (oxL N) w13 s pm b mm N r (e+2) fr M (Rm.upd (cS S) e 198)∧Below W.heap.size W w13∧w13.cell? ⟨pl,0,.none⟩=some (.int .i64 ((fr:Int)-kn))):=by
     have hb:=B12.out.1.trans (b13.mono B12.out.1.size)
     exact⟨HRr.out.1.below hb,B12.out.2.trans (b13.mono B12.out.2.size),(hb.cell (zC HRr.out.2.2.2.2.2.1)).trans HRr.out.2.2.2.2.2.1⟩
    clear b13
    have kS3:Hid (w13.drew.cell? ⟨pl,0,.none⟩=some (.int .i64 ((fr:Int)-kn))):=H13.out.2.2
    have c15:=(H13.out.1.below zB.drew).count
    rw[HCn.out] at c15
    refine wp_region_held_drew (S:=fun U=>U.cell? ⟨pl,0,.none⟩=some (.int .i64 ((fr:Int)-kn))) (by kernel_rfl) kS3.out (fun hHeld=>?_)
    refine nT 0 (.int .i64 280) rfl ?_ (hw:=by kernel_rfl)
    simp only[xX]
    refine nT 1 (.bool true) rfl ?_ (hw:=by kernel_rfl)
    simp only[xX]
    refine nT 2 (.bool true) rfl ?_ (hw:=by kernel_rfl)
    simp only[xX]
    refine nT 3 (.pointer (some ⟨pm,0,.none⟩)) rfl ?_ (hw:=by kernel_rfl)
    simp only[xX]
    refine nT 5 (.pointer (some ⟨pl,0,.none⟩)) rfl ?_ (hw:=by kernel_rfl)
    simp only[xX]
    refine nT 6 (.pointer (some ⟨pl,0,.none⟩)) rfl ?_ (hw:=by kernel_rfl)
    simp only[xX]
    refine nT 7 (.pointer (some ⟨pl,0,.none⟩)) rfl ?_ (hw:=by kernel_rfl)
    simp only[xX]
    refine nT 8 (.int .i64 ((fr:Int)-kn)) rfl ?_ (hw:=by kernel_rfl)
    simp only[xX]
    refine zR 4 rfl (fun K hK=>?_)
    go_simp
    go_at_call 15
    refine(c15).mono ?_
    rintro _ wd ⟨rfl,bd⟩
    have BD:Hid (Below w13.drew.heap.size w13.drew wd):=bd
    clear bd c15
    have kS4:Hid (wd.cell? ⟨pl,0,.none⟩=some (.int .i64 ((fr:Int)-kn))):=(BD.out.cell (zC kS3.out)).trans kS3.out
    refine hK.out _ _ (kS4.out) (fun hHeld=>?_)
    clear hK K
    try simp only[xX]
    refine nT 9 (.bool true) rfl ?_ (hw:=by kernel_rfl)
    simp only[xX]
    refine nT 10 (.bool true) rfl ?_ (hw:=by kernel_rfl)
    simp only[xX]
    refine nT 11 (.bool true) rfl ?_ (hw:=by kernel_rfl)
    simp only[xX]
    refine nT 12 (.pointer (some ⟨s,0,.none⟩)) rfl ?_ (hw:=by kernel_rfl)
    simp only[xX]
    refine zR 13 rfl (fun K hK=>?_)
    go_simp
    go_at_call 23
    refine(((H13.out.1.below zB.drew).below BD.out).free).mono ?_
    rintro _ we ⟨rfl,tch,Bx,Lx,hRx,hLx,hox⟩
    have kS5:Hid (we.cell? ⟨pl,0,.none⟩=some (.int .i64 ((fr:Int)-kn))):=(cell_heap (tch.block pl (zC kS4.out) H9.out.2.2.2.2.2.2.2.2.1.1.symm H9.out.2.2.2.2.2.2.2.2.1.2.1.symm H9.out.2.2.2.2.2.2.2.2.1.2.2.1.symm H9.out.2.2.2.2.2.2.2.2.1.2.2.2.symm) _ _).trans kS4.out
    have HE:Hid (Below W.heap.size W we∧Rm.Ram we pm b mm N Bx Lx∧Lx.length=fr∧(N-1∉Lx∧∀ j,j<4096->Bx ((N-1)*4096+j)=0)):=by
     have hB:=H13.out.2.1.drew.trans (BD.out.mono H13.out.2.1.size)
     have hs:=hB.size
     have h3:=H1.out.2.2.1
     have h4:=H9.out.2.2.2.2.2.2.2.2.2.2
     exact⟨⟨tch.os.trans hB.os,tch.tape.trans hB.tape,tch.output.trans hB.output,Nat.le_trans hB.size tch.size,fun k hk=>(tch.block k (by omega) (by omega) (by omega) (by omega) (by omega)).trans (hB.block k hk)⟩,hRx,hLx,hox (N-1) rfl⟩
    clear tch hRx hLx hox
    have c29:=Rm.whole_any HE.out.2.1 (N-1) ⟨by have:=HN.out;omega,HE.out.2.2.2.1⟩ HE.out.2.2.2.2 fr
    rw[HE.out.2.2.1,HT.out,decide_eq_true rfl] at c29
    refine hK.out _ _ (kS5.out) (fun hHeld=>?_)
    clear hK K
    try simp only[xX]
    refine nT 14 (.bool true) rfl ?_ (hw:=by kernel_rfl)
    simp only[xX]
    refine nT 15 (.bool true) rfl ?_ (hw:=by kernel_rfl)
    simp only[xX]
    refine nT 16 (.bool true) rfl ?_ (hw:=by kernel_rfl)
    simp only[xX]
    refine nT 17 (.pointer (some ⟨pm,0,.none⟩)) rfl ?_ (hw:=by kernel_rfl)
    simp only[xX]
    refine nT 18 (.int .u64 tr) rfl ?_ (hw:=by kernel_rfl)
    simp only[xX]
    refine nT 19 (.int .i64 fr) rfl ?_ (hw:=by kernel_rfl)
    simp only[xX]
    refine zR 20 rfl (fun K hK=>?_)
    go_simp
    go_at_call 29
    refine(c29).mono ?_
    rintro _ wf ⟨rfl,bf⟩
    have kS6:Hid (wf.cell? ⟨pl,0,.none⟩=some (.int .i64 ((fr:Int)-kn))):=(bf.cell (zC kS5.out)).trans kS5.out
    have HF:Hid (Below W.heap.size W wf):=HE.out.1.trans (bf.mono HE.out.1.size)
    clear bf c29
    refine hK.out _ _ (kS6.out) (fun hHeld=>?_)
    clear hK K
    try simp only[xX]
    refine nT 21 (.bool true) rfl ?_ (hw:=by kernel_rfl)
    simp only[xX]
    refine nT 22 (.bool true) rfl ?_ (hw:=by kernel_rfl)
    simp only[xX]
    refine wpAnyH_done (by kernel_rfl) ?_ _
    go_wp2_with fail
    first|(go_ret;exact⟨rfl,HF.out⟩)|exact⟨rfl,HF.out⟩
end
end Go.Proofs.YtabnipbdbnmmpaaGreatDoor
