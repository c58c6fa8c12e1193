import Derived.Test.YtabnipbdbnmmpaaGreatDoorLd01
import Derived.Test.YtabnipbdbnmmpaaGreatDoorLd24
import Derived.Test.YtabnipbdbnmmpaaGreatDoorLd19
import Derived.Test.YtabnipbdbnmmpaaGreatDoorLd02
import Derived.Deep.Cut
import Derived.Deep.DeepCutAuto
import Derived.Deep.CutBlock
import Derived.Test.YtabnipbdbnmmpaaGreatDoorLd18
import Derived.Test.YtabnipbdbnmmpaaGreatDoorLd23
import Derived.Test.YtabnipbdbnmmpaaGreatDoorLd03
import Derived.Test.YtabnipbdbnmmpaaGreatDoorLd04
import Derived.Laws.MakeOwn
set_option linter.unusedVariables false
set_option linter.unusedSimpArgs false
set_option maxHeartbeats 8000000
namespace Go.Proofs.YtabnipbdbnmmpaaGreatDoor
section
open Go.RowKit Go.Shelf Rg
theorem SpM_beside {ox:Rm.Oxt} {w:World} {s p b m N r P K:Nat} {M c:Nat->Int} (h:Rm.SpM ox w s p b m N r P K M c) (a:Addr) (v:Value) (ha:a.block≠p∧a.block≠b∧a.block≠m∧a.block≠s):Rm.SpM ox (w.setCell a v) s p b m N r P K M c:=by
 obtain⟨B,L,F,lf,fr,h1,h2,h4,h5⟩:=h
 have hc:∀ i,(w.setCell a v).cell? ⟨s,i,.none⟩=w.cell? ⟨s,i,.none⟩:=fun i=>World.cell?_setCell_far _ _ _ _ ha.2.2.2
 exact⟨B,L,F,lf,fr,⟨⟨(hc 0).trans h1.sp.c0,(hc 1).trans h1.sp.c1,(hc 2).trans h1.sp.c2,fun k=>by rw[World.frozen?_setCell];exact h1.sp.fr k⟩,h1.sz,h1.pm,h1.ram.beside a v (Ne.symm ha.1) (Ne.symm ha.2.1) (Ne.symm ha.2.2.1),h1.ne,h1.tab⟩,h2,h4,h5⟩
theorem startM (en sp:Int) (q dp:Option Addr) (n c dn dc:Nat) (w:World):Calls Tryz.prog 45 #[.agg #[.int .u64 en,.slice q n c,.slice dp dn dc,.int .u64 sp]] w fun e w'=>e = .returned (.agg #[.int .u64 en,.int .u64 sp,.int .u64 sp])∧Below w.heap.size w w':=by
 go_enter Tryz.func45,Tryz.ntmps45
 go_wp2_with fail
 refine bodyPost_ret (v:=.agg #[.int .u64 en,.int .u64 sp,.int .u64 sp]) (by simp[results,Tryz.results45,go_sem]) rfl ⟨rfl,?_⟩
 exact(zB.alloc zL _).alloc (by simp) _
def LdM (ox:Rm.Oxt) (W:World) (p b m N e n:Nat) (S:List Sg) (Bq:Nat->Int) (xs:List Bs) (en:Int) (E:Ending) (w':World):Prop:=∃ s r Rp spn K,E = .returned (.tuple #[.pointer (some ⟨s,0,.none⟩),.agg #[.int .u64 en,.int .u64 (((e:Int)+1)*4096+(spn:Nat)),.int .u64 (((e:Int)+1)*4096+(spn:Nat))],.int .i64 0])∧Rm.Fra p b m W w'∧W.heap.size<=s ∧
 Rm.SpM ox w' s p b m N r (e+2) K (pgM Bq S e Rp) (Rm.upd (cS S) e 198)∧K=n∧(stx 4096 xs-8*(xs.length+1))/16*16=(spn:Int)∧StkR (((e:Int)+1)*4096) xs Rp spn
set_option maxRecDepth 10000 in
theorem loadM {ox:Rm.Oxt} {W:World} {p b m N fb fo fn fc i ft:Nat} {Bm Bq:Nat->Int} {L1:List Nat} (hR:Rm.Ram W p b m N Bm (i :: L1)) (hox:ox.ft=ft∧∀ f,ox.T f->f∉i :: L1∧∀ j,j<4096->Bm (f*4096+j)=ox.Z (f*4096+j)) (hft:1<=ft∧ft<N∧ft∉i :: L1) (hL:Laid W) (hL3:Laid3 W) (h3:2<p∧2<b∧2<m) (hF:Row W fb fo fn Bq) (hfb:fb<W.heap.size) (hB:∀ i,0<=Bq i∧Bq i<256) (hc:fn<=fc∧fc<=9223372036854775807)
  {ap:Option Addr} {an ac:Nat} {xs:List Bs} (hA:Arg W ap an ac xs) (ha hr:Int) (hH:Hd Bq ha hr) (hrd:(rdF fn Bq ha hr).1.2=0) (hdm:dmE 0 xs=0) {S:List Sg} (hS:sgO fn Bq ha hr=S) (en:Int) (hen:enO fn Bq ha hr=en) (e:Nat) (he:ePg S=(e:Int)) (he2:1<=e∧e+2<=4096) (hr6:rgP S (e:Int)=6) (hin:∀ x∈S,0<=x.va∧x.va+x.sz<=(e:Int)*4096) (hl:(e:Int)+6+((e:Int)+513)/512<=(L1.length:Int)+1) :
  Calls Tryz.prog 11 #[.pointer (some ⟨p,0,.none⟩),.slice (some ⟨fb,fo,.none⟩) fn fc,.slice ap an ac,.int .u64 (Rm.ad ft),.int .u64 2147483648] W (LdM ox W p b m N e (L1.length+1) S Bq xs en):=by
 obtain⟨W1,hW1⟩:∃ W1,W1=W.alloc (.cells #[.int .u64 0,.int .u64 0,.int .u64 0] 44):=⟨_,rfl⟩
 have b1:Below W.heap.size W W1:=by rw[hW1];exact zB.alloc zL _
 have k0:W1.cell? ⟨W.heap.size,0,.none⟩=some (.int .u64 0):=by rw[hW1];simp
 have k1:W1.cell? ⟨W.heap.size,1,.none⟩=some (.int .u64 0):=by rw[hW1];simp
 have k2:W1.cell? ⟨W.heap.size,2,.none⟩=some (.int .u64 0):=by rw[hW1];simp
 have k4:∀ i,W1.frozen? ⟨W.heap.size,i,.none⟩=false:=fun i=>by rw[hW1];exact World.frozen?_alloc_new _ _ _ i
 have hpw:p<W.heap.size∧b<W.heap.size∧m<W.heap.size:=⟨zC hR.mem.c0,zC (hR.mem.cb 0 (by have:=hR.mem.n1;omega)),hR.mem.mlt⟩
 have cP:=planOf_any (hL.below b1) (hF.keep b1) (Nat.lt_of_lt_of_le hfb b1.size) hB hc ha hr hH (hA.below b1)
 rw[hS,hrd,hen] at cP
 unfold PlP at cP
 rw[hdm] at cP
 have HOX:Hid (ox.ft=ft∧∀ f,ox.T f->f∉i :: L1∧∀ j,j<4096->Bm (f*4096+j)=ox.Z (f*4096+j)):=hox
 have HIN:Hid (rgP S (e:Int)=6∧∀ x∈S,0<=x.va∧x.va+x.sz<=(e:Int)*4096):=⟨hr6,hin⟩
 have HU:Hid (Rm.Ram W1 p b m N Bm (i :: L1)∧Below W.heap.size W W1∧(∀ i,W1.frozen? ⟨W.heap.size,i,.none⟩=false)∧Laid3 W1):=⟨hR.below b1,b1,k4,hL3.below b1⟩
 have hfnc:fn<=fc∧fc<=9223372036854775807:=hc
 have hapc:an<=ac∧ac<=9223372036854775807:=⟨hA.tex.2.1,hA.tex.2.2.1⟩
 clear hox hR hL hL3 hF hfb b1 k4 hS hrd hdm hen hB hH hA hr6 hin hc
 obtain⟨x,hx⟩:∃ x,x=W.heap.size:=⟨_,rfl⟩
 have HX:Hid (x=W.heap.size):=hx
 go_enter Tryz.func11,Tryz.ntmps11
 go_upto_region 1 with fail
 rw[<-hW1,<-hx]
 rw[<-hx] at k0 k1 k2
 clear hW1 hx
 go_upto_region 2 with(go_at_call 40;refine cP.mono ?_;rintro _ w2 ⟨b2,h2⟩;rcases h2 with⟨h,_⟩|⟨_,X,q,cs,E,Bq,et,pq,pn,pc,sp,rfl,sg,hE,hl8,hS,hX,hPg,hBq,he0,rfl⟩;exact absurd rfl h;clear cP)
 subst he0
 obtain⟨gp,Rp,rfl,rfl,rfl,hgp,hRp,hpg,spn,hsp,hspn,hstk⟩:=hPg
 have HSK:Hid (sp=((e:Int)+1)*4096+spn∧(stx 4096 xs-8*(xs.length+1))/16*16=(spn:Int)∧StkR (((e:Int)+1)*4096) xs Rp spn):=by rw[he] at hsp hstk;exact⟨hsp,hspn,hstk⟩
 clear hsp hspn hstk
 have hlE:E.length<=8:=hl8
 have hE0:E ≠ []:=hE
 have HMS:Hid (E.map (·.1)=S):=hS
 have heE:ePg (E.map (·.1))=(e:Int):=by rw[hS];exact he
 have HPl:Hid (Below W1.heap.size W1 w2∧Segs w2 X (.slice q E.length cs) E Bq∧True∧W1.heap.size<=X∧W1.heap.size<=gp∧(∀ i,0<=Rp i∧Rp i<256)∧(∀ i,i<4096->w2.cell? ⟨gp,i,.none⟩=some (.int .u8 (Rp i)))∧∀ i,0<=Bq i∧Bq i<256):=⟨b2,sg,trivial,hX,hgp,hRp,hpg,hBq⟩
 clear b2 sg hE hl8 hS hX hgp hRp hpg hBq
 obtain⟨w3,hw3⟩:∃ w3,w3=w2.alloc (.cells #[.int .u64 et,.slice q E.length cs,.slice (some ⟨gp,0,.none⟩) 4096 4096,.int .u64 sp] 92):=⟨_,rfl⟩
 have b3:Below w2.heap.size w2 w3:=by rw[hw3];exact zB.alloc zL _
 obtain⟨Z,hZ⟩:∃ Z,Z=w2.heap.size:=⟨_,rfl⟩
 have kZ:Z4M w3 Z et q E.length cs gp sp:=by rw[hw3,hZ];exact⟨by simp,by simp,by simp,by simp⟩
 have HZ:Hid (W1.heap.size<=Z):=by rw[hZ];exact HPl.out.1.size
 rw[<-hw3,<-hZ]
 have B3:Hid (Below w2.heap.size w2 w3∧Below W1.heap.size W1 w3):=⟨b3,HPl.out.1.trans (b3.mono HPl.out.1.size)⟩
 clear hw3 hZ b3
 have hR3:=HU.out.1.below B3.out.2
 have n1:=hR3.mem.n1
 have c25:=Rm.frames_any hR3.mem
 have hN0:((N:Int) == 0)=false:=by simp;omega
 have HR3:Hid (Rm.Ram w3 p b m N Bm (i :: L1)):=hR3
 clear hR3
 go_upto_region 6 with(go_at_call 41;refine c25.mono ?_;rintro _ w4 ⟨rfl,e4⟩;obtain rfl:w3=w4:=e4.symm)
 have kS:Z4M w3.drew Z et q E.length cs gp sp:=kZ
 obtain⟨kd,hkd⟩:∃ kd:Int,(e:Int)+6+((e:Int)+513)/512=kd:=⟨_,rfl⟩
 have hlt8:¬ ((L1.length:Int)+1<kd):=by omega
 refine wp_region_held_drew (S:=fun U=>Z4M U Z et q E.length cs gp sp) (by kernel_rfl) kS (fun hHeld=>?_)
 refine nT 0 (.pointer (some ⟨p,0,.none⟩)) rfl ?_
 simp only[xX]
 refine nT 2 (.agg #[.int .u64 et,.slice q E.length cs,.slice (some ⟨gp,0,.none⟩) 4096 4096,.int .u64 sp]) rfl ?_ (fun ww hSw=>by (try dsimp only at hSw);obtain⟨q0,q1,q2,q3⟩:=hSw;go_simp)
 simp only[xX]
 have c10:=Rm.count_ram (HR3.out.below zB.drew)
 rw[show (i :: L1).length=L1.length+1 from rfl] at c10
 refine zR 1 rfl (fun K hK=>?_)
 go_simp
 go_at_call 15
 refine c10.mono ?_
 rintro _ w5 ⟨rfl,k5,rfl⟩
 refine hK.out _ _ kS (fun hHeld=>?_)
 clear hK K
 try simp only[xX]
 have B5:Hid (Below w3.heap.size w3 (w3.drew.drewN k5)):=⟨rfl,rfl,rfl,Nat.le_refl _,fun _ _=>rfl⟩
 generalize w3.drew.drewN k5=w5 at *
 have sg5:=(HPl.out.2.1.below B3.out.1).below B5.out
 have c26:=demandP_any sg5 hE0 hlE et sp (some ⟨gp,0,.none⟩) 4096 4096
 rw[heE,hkd] at c26
 clear sg5
 refine zR 3 rfl (fun K hK=>?_)
 go_simp
 go_at_call 42
 refine c26.mono ?_
 rintro _ w6 ⟨rfl,b6⟩
 have B6:Hid (Below w3.heap.size w3 w6):=B5.out.trans (b6.mono B5.out.size)
 have kS6:Z4M w6 Z et q E.length cs gp sp:=kZ.of (B6.out.block Z (zC (x:=⟨Z,0,.none⟩) kZ.1))
 clear b6 c26
 refine hK.out _ _ kS6 (fun hHeld=>?_)
 clear hK K
 try simp only[xX]
 refine nT 4 (.bool false) rfl ?_
 simp only[xX]
 refine nT 5 (.bool false) rfl ?_
 simp only[xX]
 refine wpAnyH_done (by kernel_rfl) ?_ _
 have cN:=Rm.spNew_sl (HR3.out.below B6.out) (by omega) ft hft (fun _=>0) (cS (E.map (·.1)))
 go_upto_region 9 with(go_at_call 43;refine cN.mono ?_;rintro _ w7 ⟨s,rfl,hs7,hsp7,B7,L7,F7,lf7,hNT⟩;clear cN)
 have hsz6:W1.heap.size<=w6.heap.size:=Nat.le_trans B3.out.2.size B6.out.size
 have hxW1:W.heap.size<=W1.heap.size:=HU.out.2.1.size
 have hxlt:x<W1.heap.size:=zC k0
 have hXx:=HX.out
 have hZ1:=HZ.out
 have hFr7:Rm.Fra p b m w6 w7:=hNT.fra
 have kZ7:Z4M w7 Z et q E.length cs gp sp:=kS6.of (hFr7.block Z (zC (x:=⟨Z,0,.none⟩) kS6.1) (by omega) (by omega) (by omega))
 have hB16:Below W1.heap.size W1 w6:=B3.out.2.trans (B6.out.mono B3.out.2.size)
 have hB26:Below w2.heap.size w2 w6:=B3.out.1.trans (B6.out.mono B3.out.1.size)
 have sg6:Segs w6 X (.slice q E.length cs) E Bq:=HPl.out.2.1.below hB26
 have hlen7:L7.length+2=L1.length:=hNT.len
 have hnd7:=Rm.SpL.nodes (P:=0) hNT.sl (by omega)
 rw[show Rm.ndP ((0:Nat):Int)=3 from rfl] at hnd7
 have hSM:Rm.SpM ox w7 s p b m N i 0 (L1.length+1) (fun _=>0) (cS (E.map (·.1))):=⟨B7,L7,F7,lf7,fun _=>0,⟨hsp7,by decide,by omega,hNT.ram,⟨by omega,by omega,by omega⟩,by rw[HOX.out.1];exact hNT.sl⟩,fun a ha=>by omega,fun f hf=>by obtain⟨g1,g2⟩:=HOX.out.2 f hf;obtain⟨q1,q2,_,q4⟩:=hNT.oth f g1 (fun x e=>by cases e) (fun _ h=>by cases h);exact⟨q1,q2,fun i hi=>by omega,fun j hj=>(q4 j hj).trans (g2 j hj)⟩,by omega⟩
 have hs77:s<w7.heap.size:=hsp7.lt
 have cI:=layIntoM (ox:=ox) (w0:=w6) (w:=w7) (s:=s) (p:=p) (b:=b) (m:=m) (N:=N) (r:=i) (X:=X) (c:=cs) (q:=q) (gp:=gp) (E:=E) (Bq:=Bq) (Rp:=Rp) sg6 hE0 hlE (HU.out.2.2.2.below hB16) et sp (by have:=HPl.out.2.2.2.1;omega) (by have:=HPl.out.2.2.2.2.1;have h2:gp<w2.heap.size:=zC (HPl.out.2.2.2.2.2.2.1 0 (by omega));have:=hB26.size;omega) HPl.out.2.2.2.2.2.1 (fun j hj=>(hB26.cell (zC (HPl.out.2.2.2.2.2.2.1 j hj))).trans (HPl.out.2.2.2.2.2.2.1 j hj)) h3 (by omega) hs7 HPl.out.2.2.2.2.2.2.2 e heE (by rw[HMS.out];exact HIN.out.1) (fun x hx=>HIN.out.2 x.1 (by rw[<-HMS.out];exact List.mem_map_of_mem hx)) he2 (L1.length+1) (by unfold Rm.ndP;rw[if_neg (by omega)];omega) ⟨hFr7,hSM⟩ hs77
 have l0:=(hB16.cell (zC k0)).trans k0
 have l1:=(hB16.cell (zC k1)).trans k1
 have l2:=(hB16.cell (zC k2)).trans k2
 have f0:∀ j v,W1.cell? ⟨x,j,.none⟩=some v->w6.frozen? ⟨x,j,.none⟩=false:=fun j v h=>(hB16.frozen (p:=⟨x,j,.none⟩) (zC h)).trans (by rw[hXx];exact HU.out.2.2.1 j)
 have HF:Hid (w6.frozen? ⟨x,0,.none⟩=false∧w6.frozen? ⟨x,1,.none⟩=false∧w6.frozen? ⟨x,2,.none⟩=false):=⟨f0 0 _ k0,f0 1 _ k1,f0 2 _ k2⟩
 have H7:Hid (L7.length+2=L1.length∧Rm.Fra p b m W w6):=⟨hlen7,(Rm.Fra.below HU.out.2.1).trans (Rm.Fra.below hB16)⟩
 have hx6:x<w6.heap.size:=zC l0
 have hxn:x≠p∧x≠b∧x≠m:=by omega
 have hZ6:Z<w6.heap.size:=zC (x:=⟨Z,0,.none⟩) kS6.1
 have hZn:Z≠p∧Z≠b∧Z≠m:=by omega
 have HKZ:Hid (Z4M w6 Z et q E.length cs gp sp):=kS6
 have HKx:Hid (x=W.heap.size):=hXx
 have HLx:Hid (w6.cell? ⟨x,0,.none⟩=some (.int .u64 0)∧w6.cell? ⟨x,1,.none⟩=some (.int .u64 0)∧w6.cell? ⟨x,2,.none⟩=some (.int .u64 0)):=⟨l0,l1,l2⟩
 clear hnd7 hSM sg6 hNT hFr7 hsp7 hB16 hB26 hlen7 f0 kZ kS kS6 l0 l1 l2 k0 k1 k2 hXx hZ1 hsz6 hxW1 hlt8 c10 c25
 obtain⟨p0,p1,p2,p3⟩:=kZ7
 go_upto_region 12 with(go_at_call 44;refine cI.mono ?_;rintro _ w8 ⟨rfl,hf8,hm8⟩;clear cI)
 have kZ8:Z4M w8 Z et q E.length cs gp sp:=HKZ.out.of (hf8.block Z hZ6 hZn.1 hZn.2.1 hZn.2.2)
 have hbx:=hf8.block x hx6 hxn.1 hxn.2.1 hxn.2.2
 have m0:=(cell_heap hbx 0 .none).trans HLx.out.1
 have m1:=(cell_heap hbx 1 .none).trans HLx.out.2.1
 have m2:=(cell_heap hbx 2 .none).trans HLx.out.2.2
 have g0:=(frozen_heap hbx 0 .none).trans HF.out.1
 have g1:=(frozen_heap hbx 1 .none).trans HF.out.2.1
 have g2:=(frozen_heap hbx 2 .none).trans HF.out.2.2
 have H8:Hid (Rm.Fra p b m W w8∧Rm.SpM ox w8 s p b m N i (e+2) (L1.length+1) (pgM Bq (E.map (·.1)) e Rp) (Rm.upd (cS (E.map (·.1))) e 198)):=⟨H7.out.2.trans hf8,hm8⟩
 clear hf8 hm8 hbx p0 p1 p2 p3
 obtain⟨p0,p1,p2,p3⟩:=kZ8
 have cS:=startM et sp q (some ⟨gp,0,.none⟩) E.length cs 4096 4096 w8
 have hxl8:x<w8.heap.size:=zC m0
 go_wp2_with (go_at_call 45;refine cS.mono ?_;rintro _ w9 ⟨rfl,b9⟩;have H9:Hid (Below w8.heap.size w8 w9):=b9;replace m0:=(b9.cell (zC m0)).trans m0;replace m1:=(b9.cell (zC m1)).trans m1;replace m2:=(b9.cell (zC m2)).trans m2;replace g0:w9.frozen? ⟨x,0,.none⟩=false:=(b9.frozen (p:=⟨x,0,.none⟩) hxl8).trans g0;replace g1:w9.frozen? ⟨x,1,.none⟩=false:=(b9.frozen (p:=⟨x,1,.none⟩) hxl8).trans g1;replace g2:w9.frozen? ⟨x,2,.none⟩=false:=(b9.frozen (p:=⟨x,2,.none⟩) hxl8).trans g2;clear b9 cS)
 refine bodyPost_ret (v:=.tuple #[.pointer (some ⟨s,0,.none⟩),.agg #[.int .u64 et,.int .u64 sp,.int .u64 sp],.int .i64 0]) (by simp[results,Tryz.results11,go_sem,m0,m1,m2]) rfl ⟨s,i,Rp,spn,L1.length+1,by rw[HSK.out.1],?_,by have:=HKx.out;have:=hs7;omega,?_,rfl,HSK.out.2⟩
 ·have hxw:=HKx.out
  exact(((H8.out.1.trans (Rm.Fra.below H9.out)).beside ⟨x,0,.none⟩ _ (by show _ <= x;omega)).beside ⟨x,1,.none⟩ _ (by show _ <= x;omega)).beside ⟨x,2,.none⟩ _ (by show _ <= x;omega)
 ·obtain⟨x1,x2,x3⟩:=hxn
  have hxs:x≠s:=by have:=hs7;omega
  have h9:=H8.out.2.below H9.out
  rw[HMS.out] at h9
  exact SpM_beside (SpM_beside (SpM_beside h9 ⟨x,0,.none⟩ _ ⟨x1,x2,x3,hxs⟩) ⟨x,1,.none⟩ _ ⟨x1,x2,x3,hxs⟩) ⟨x,2,.none⟩ _ ⟨x1,x2,x3,hxs⟩
end
section
open Go.RowKit
end
section
open Go.RowKit Go.Shelf
def MeP (w:World) (n:Nat) (e:Ending) (w':World):Prop:=∃ p b m B,w.heap.size<=p∧w.heap.size<=b∧w.heap.size<=m∧e = .returned (.tuple #[.pointer (some ⟨p,0,.none⟩),.int .u64 (Rm.ad (n-1)),.bool true])∧Rm.Ram w' p b m n B (Rm.down (n-2))∧Below w.heap.size w w'∧∀ j,j<4096->B ((n-1)*4096+j)=0
set_option maxRecDepth 10000 in
theorem memory_any (n:Nat) (h1:2<=n) (h2:n<=4096) (w:World):Calls Tryz.prog 8 #[.int .i64 n] w (MeP w n):=by
 have c30:=Rm.new_any n (by omega) h2 w
 have g1:¬ ((n:Int)<2):=by omega
 have g2:¬ ((n:Int) > 4096):=by omega
 have hdn:Rm.down (n-1)=(n-1) :: Rm.down (n-2):=by
  obtain⟨k,rfl⟩:∃ k,n=k+2:=⟨n-2,by omega⟩
  rfl
 have HD:Hid (Rm.down (n-1)=(n-1) :: Rm.down (n-2)):=hdn
 clear hdn
 go_enter Tryz.func8,Tryz.ntmps8
 go_upto_region 8 with(go_at_call 32;refine c30.mono ?_;rintro _ w1 ⟨p,b,m,hp,hb,hm,rfl,hR,b1⟩;rw[HD.out] at hR;have H1:Hid (w.heap.size<=p∧w.heap.size<=b∧w.heap.size<=m∧Rm.Ram w1 p b m n (Rm.newB (n-1)) ((n-1) :: Rm.down (n-2))∧Below w.heap.size w w1):=⟨hp,hb,hm,hR,b1⟩;clear hp hb hm hR b1 c30)
 have c17:=Rm.alloc_some (n-1) H1.out.2.2.2.1
 generalize ht:(2147483648+((n-1:Nat):Int)*4096)=t at c17
 have HT:Hid (t=Rm.ad (n-1)):=ht.symm
 clear ht
 go_wp2_with (go_at_call 9;refine c17.mono ?_;rintro _ w2 ⟨rfl,hR2,hf2⟩;have H2:Hid (Rm.Ram w2 p b m n (Rm.zer (Rm.newB (n-1)) (n-1)) (Rm.down (n-2))∧Rm.Fra p b m w1 w2):=⟨hR2,hf2⟩;clear hR2 hf2 c17)
 refine bodyPost_ret (v:=.tuple #[.pointer (some ⟨p,0,.none⟩),.int .u64 t,.bool true]) (by simp[results,Tryz.results8,go_sem]) rfl ?_
 exact⟨p,b,m,_,H1.out.1,H1.out.2.1,H1.out.2.2.1,by rw[HT.out],H2.out.1,H1.out.2.2.2.2.trans (H2.out.2.toBelow H1.out.2.2.2.2.size H1.out.1 H1.out.2.1 H1.out.2.2.1),fun j hj=>Rm.zer_in _ _ _ hj⟩
set_option maxRecDepth 10000 in
theorem load_refM {W:World} (v:Value) {fp:Option Addr} {fn fc:Nat} {B:Nat->Int} (hL:Laid W) (hF:Fp W fp fn B) (hB:∀ i,0<=B i∧B i<256) (hc:fn<=fc∧fc<=9223372036854775807) (ha hr:Int) (hH:Hd B ha hr)
  {p:Option Addr} {n c:Nat} {xs:List Bs} (hA:Arg W p n c xs) (tr:Int) (hne:dmE (rdF fn B ha hr).1.2 xs≠0) :
  Calls Tryz.prog 11 #[v,.slice fp fn fc,.slice p n c,.int .u64 tr,.int .u64 2147483648] W fun e w'=>e = .returned (.tuple #[.pointer .none,.agg #[.int .u64 0,.int .u64 0,.int .u64 0],.int .i64 (dmE (rdF fn B ha hr).1.2 xs)])∧Below W.heap.size W w':=by
 obtain⟨W1,hW1⟩:∃ W1,W1=W.alloc (.cells #[.int .u64 0,.int .u64 0,.int .u64 0] 44):=⟨_,rfl⟩
 have b1:Below W.heap.size W W1:=by rw[hW1];exact zB.alloc zL _
 have k0:W1.cell? ⟨W.heap.size,0,.none⟩=some (.int .u64 0):=by rw[hW1];simp
 have k1:W1.cell? ⟨W.heap.size,1,.none⟩=some (.int .u64 0):=by rw[hW1];simp
 have k2:W1.cell? ⟨W.heap.size,2,.none⟩=some (.int .u64 0):=by rw[hW1];simp
 have k4:∀ i,W1.frozen? ⟨W.heap.size,i,.none⟩=false:=fun i=>by rw[hW1];exact World.frozen?_alloc_new _ _ _ i
 have hF1:Fp W1 fp fn B:=by
  rcases hF with⟨b,o,e,h1,h2⟩|h
  ·exact .inl ⟨b,o,e,h1.keep b1,Nat.lt_of_lt_of_le h2 b1.size⟩
  ·exact .inr h
 have cP:=planF_any (hL.below b1) hF1 hB hc ha hr hH (hA.below b1)
 have HU:Hid (True∧Below W.heap.size W W1∧∀ i,W1.frozen? ⟨W.heap.size,i,.none⟩=false):=⟨trivial,b1,k4⟩
 generalize (rdF fn B ha hr).1.2=r at cP hne ⊢
 generalize sgO fn B ha hr=Sg' at cP
 generalize enO fn B ha hr=en9 at cP
 clear hL hF hB hH hA b1 k4 hF1
 unfold PlP at cP
 obtain⟨x,hx⟩:∃ x,x=W.heap.size:=⟨_,rfl⟩
 have HX:Hid (x=W.heap.size):=hx
 have h0:=hne
 clear hne
 generalize dmE r xs=d at h0 cP ⊢
 have hd:(d != 0)=true:=by simpa using h0
 go_enter Tryz.func11,Tryz.ntmps11
 go_upto_region 1 with fail
 rw[<-hW1,<-hx]
 rw[<-hx] at k0 k1 k2
 clear hW1 hx
 go_upto_region 2 with(go_at_call 40;refine cP.mono ?_;rintro _ w2 ⟨b2,h2⟩;obtain rfl:_=_:=(by rcases h2 with⟨_,h⟩|⟨h,_⟩;exact h;exact absurd h h0);have H2:Hid (Below W1.heap.size W1 w2):=b2;clear h2 cP b2)
 obtain⟨w3,hw3⟩:∃ w3,w3=w2.alloc (.cells #[.int .u64 0,.slice .none 0 0,.slice .none 0 0,.int .u64 0] 92):=⟨_,rfl⟩
 have B3:Hid (Below W1.heap.size W1 w3):=by rw[hw3];exact H2.out.alloc H2.out.size _
 rw[<-hw3]
 clear hw3 H2
 have l0:=(B3.out.cell (zC k0)).trans k0
 have l1:=(B3.out.cell (zC k1)).trans k1
 have l2:=(B3.out.cell (zC k2)).trans k2
 have f0:w3.frozen? ⟨x,0,.none⟩=false:=(B3.out.frozen (p:=⟨x,0,.none⟩) (zC k0)).trans (by rw[HX.out];exact HU.out.2.2 0)
 have f1:w3.frozen? ⟨x,1,.none⟩=false:=(B3.out.frozen (p:=⟨x,1,.none⟩) (zC k1)).trans (by rw[HX.out];exact HU.out.2.2 1)
 have f2:w3.frozen? ⟨x,2,.none⟩=false:=(B3.out.frozen (p:=⟨x,2,.none⟩) (zC k2)).trans (by rw[HX.out];exact HU.out.2.2 2)
 go_wp2_with fail
 have hxw:=HX.out
 refine bodyPost_ret (v:=.tuple #[.pointer .none,.agg #[.int .u64 0,.int .u64 0,.int .u64 0],.int .i64 d]) (by simp[results,Tryz.results11,go_sem,l0,l1,l2]) rfl ⟨rfl,?_⟩
 have hb:=HU.out.2.1.trans (B3.out.mono HU.out.2.1.size)
 exact((hb.setCell (by show W.heap.size<=x;omega) _).setCell (by show W.heap.size<=x;omega) _).setCell (by show W.heap.size<=x;omega) _
end
section
open Go.RowKit Go.Shelf
structure Sg1 (x:Sg):Prop where
 v:0<=x.va
 p:x.va%4096=0
 m:1<=x.mem
 s:(x.sz:Int)<=x.mem
 e:x.va+x.mem<=1073741824
 f:x.fl=1∨x.fl=4∨x.fl=5∨x.fl=6∨x.fl=7
def Sok (S:List Sg):Prop:=∀ (i:Nat) (x:Sg),S[i]? = some x->Sg1 x∧∀ (j:Nat) (y:Sg),j<i->S[j]? = some y->y.va+y.mem<=x.va
theorem ris_ok {S:List Sg} (h:Sok S) {va:Int} (hr:ris S va=true):∀ (j:Nat) (y:Sg),S[j]? = some y->y.va+y.mem<=va:=fun j y hy=>by
 unfold ris at hr
 have hj:=(List.getElem?_eq_some_iff.1 hy).1
 have hl:S.getLast? = S[S.length-1]?:=List.getLast?_eq_getElem? ..
 obtain⟨l,hll⟩:∃ l,S[S.length-1]? = some l:=⟨S[S.length-1],List.getElem?_eq_getElem (by omega)⟩
 rw[hl,hll] at hr
 have hr2:l.va+l.mem<=va:=by simpa using hr
 by_cases e:j=S.length-1
 ·rw[e,hll] at hy
  injection hy with hy
  rw[<-hy];exact hr2
 ·have h1:=(h _ l hll).2 j y (by omega) hy
  have h2:=(h _ l hll).1.m
  omega
theorem stp_ok {n:Nat} {B:Nat->Int} (hB:∀ i,0<=B i∧B i<256) {S:List Sg} {a:Nat} (h:Sok S) (h0:(stp n B S a).1=0):Sok (stp n B S a).2:=by
 unfold stp at *
 split at h0
 ·rename_i c1
  rw[if_pos c1];exact h
 rename_i c1
 rw[if_neg c1]
 split at h0
 ·simp at h0
 rename_i c2
 rw[if_neg c2]
 split at h0
 ·simp at h0
 rename_i c3
 rw[if_neg c3]
 split at h0
 ·simp at h0
 rename_i c4
 rw[if_neg c4]
 split at h0
 ·simp at h0
 rename_i c5
 rw[if_neg c5]
 have hv:=(sgOf_b B hB a).1.1
 have hok:ok1 (sgOf B a).va (sgOf B a).fl (sgOf B a).sz (sgOf B a).mem=true:=by simpa using c3
 have hri:ris S (sgOf B a).va=true:=by simpa using c5
 have hg:Sg1 (sgOf B a):=by
  unfold ok1 mf at hok
  simp only[Bool.and_eq_true,decide_eq_true_eq,Bool.or_eq_true,beq_iff_eq] at hok
  obtain⟨⟨⟨⟨h1,h2⟩,h3⟩,h4⟩,h5⟩:=hok
  exact⟨hv,by omega,by omega,by omega,by omega,by omega⟩
 intro i x hx
 rcases Nat.lt_or_ge i S.length with hi|hi
 ·rw[List.getElem?_append_left hi] at hx
  refine⟨(h i x hx).1,fun j y hj hy=>?_⟩
  rw[List.getElem?_append_left (by omega)] at hy
  exact(h i x hx).2 j y hj hy
 ·rw[List.getElem?_append_right hi] at hx
  have hi2:i-S.length=0:=by
   have:=(List.getElem?_eq_some_iff.1 hx).1
   simp at this
   omega
  rw[hi2] at hx
  simp only[List.getElem?_cons_zero,Option.some.injEq] at hx
  subst hx
  refine⟨hg,fun j y hj hy=>?_⟩
  rw[List.getElem?_append_left (by omega)] at hy
  exact ris_ok h hri j y hy
theorem lp_ok {n:Nat} {B:Nat->Int} (hB:∀ i,0<=B i∧B i<256):∀ (k a:Nat) (S:List Sg),Sok S->(lp n B k a S).1.2=0->Sok (lp n B k a S).2
 |0,a,S,h,_=>h
 |k+1,a,S,h,h0=>by
  unfold lp at *
  by_cases c:(stp n B S a).1≠0
  ·rw[if_pos c] at h0
   exact absurd h0 c
  ·rw[if_neg c] at h0 ⊢
   exact lp_ok hB k (a+56) _ (stp_ok hB h (by simpa using c)) h0
theorem rd_ok {n:Nat} {B:Nat->Int} (hB:∀ i,0<=B i∧B i<256) {ha hr:Int} (h:(rdF n B ha hr).1.2=0) (hH:Hd B ha hr):Sok (sgO n B ha hr)∧sgO n B ha hr ≠ []:=by
 have hne:=rd_some h hH
 have hs:sgO n B ha hr=(rdF n B ha hr).2:=by unfold sgO;rw[if_neg (by simpa using h)]
 rw[hs]
 refine⟨?_,hne⟩
 unfold rdF at *
 repeat' split at hne
 all_goals first|exact absurd rfl hne|skip
 all_goals (simp only[*,if_true,if_false,ne_eq,not_true_eq_false,not_false_eq_true] at *)
 all_goals (exact lp_ok hB _ _ [] (fun i x hx=>by simp at hx) (Decidable.not_not.1 (by assumption)))
theorem sok_pages {S:List Sg} (h:Sok S) (hne:S ≠ []):∃ e:Nat,ePg S=(e:Int)∧1<=e∧rgP S (e:Int)=6∧∀ x∈S,0<=x.va∧x.va+x.sz<=(e:Int)*4096:=by
 have hl:S.getLast? = S[S.length-1]?:=List.getLast?_eq_getElem? ..
 have hlen:0<S.length:=List.length_pos_iff.2 hne
 obtain⟨l,hll⟩:∃ l,S[S.length-1]? = some l:=⟨S[S.length-1],List.getElem?_eq_getElem (by omega)⟩
 have hg:=(h _ l hll).1
 have he:ePg S=(l.va+l.mem+4095)/4096:=by unfold ePg;rw[hl,hll]
 have hend:∀ (j:Nat) (y:Sg),S[j]? = some y->y.va+y.mem<=l.va+l.mem:=fun j y hy=>by
  have hj:=(List.getElem?_eq_some_iff.1 hy).1
  by_cases e:j=S.length-1
  ·rw[e,hll] at hy
   injection hy with hy
   rw[<-hy];exact Int.le_refl _
  ·have h1:=(h _ l hll).2 j y (by omega) hy
   have h2:=hg.m
   omega
 have h1:=hg.v
 have h2:=hg.m
 refine⟨((l.va+l.mem+4095)/4096).toNat,by rw[he];omega,by omega,?_,fun x hx=>?_⟩
 ·refine rgP_miss fun j y hy=>?_
  have:=hend j y hy
  unfold pgs
  omega
 ·obtain⟨j,hj⟩:=List.mem_iff_getElem?.1 hx
  have h3:=hend j x hj
  have h4:=(h j x hj).1
  have h5:=h4.v
  have h6:=h4.s
  exact⟨h5,by omega⟩
end
section
open Go.RowKit Go.Shelf Rg
set_option maxRecDepth 10000 in
theorem load_room {W:World} {p b m N fb fo fn fc:Nat} {Bm Bq:Nat->Int} {L1:List Nat} (hR:Rm.Ram W p b m N Bm L1) (hL:Laid W) (hL3:Laid3 W) (h3:2<p∧2<b∧2<m) (hF:Row W fb fo fn Bq) (hfb:fb<W.heap.size) (hB:∀ i,0<=Bq i∧Bq i<256) (hc:fn<=fc∧fc<=9223372036854775807)
  {ap:Option Addr} {an ac:Nat} {xs:List Bs} (hA:Arg W ap an ac xs) (ha hr:Int) (hH:Hd Bq ha hr) (hrd:(rdF fn Bq ha hr).1.2=0) (hdm:dmE 0 xs=0) {S:List Sg} (hS:sgO fn Bq ha hr=S) (en:Int) (hen:enO fn Bq ha hr=en) (tr kd:Int) (hkd:ePg S+6+(ePg S+513)/512=kd) (hlt:(L1.length:Int)<kd) :
  Calls Tryz.prog 11 #[.pointer (some ⟨p,0,.none⟩),.slice (some ⟨fb,fo,.none⟩) fn fc,.slice ap an ac,.int .u64 tr,.int .u64 2147483648] W fun e w'=>e = .returned (.tuple #[.pointer .none,.agg #[.int .u64 0,.int .u64 0,.int .u64 0],.int .i64 284])∧Below W.heap.size W w':=by
 obtain⟨W1,hW1⟩:∃ W1,W1=W.alloc (.cells #[.int .u64 0,.int .u64 0,.int .u64 0] 44):=⟨_,rfl⟩
 have b1:Below W.heap.size W W1:=by rw[hW1];exact zB.alloc zL _
 have k0:W1.cell? ⟨W.heap.size,0,.none⟩=some (.int .u64 0):=by rw[hW1];simp
 have k1:W1.cell? ⟨W.heap.size,1,.none⟩=some (.int .u64 0):=by rw[hW1];simp
 have k2:W1.cell? ⟨W.heap.size,2,.none⟩=some (.int .u64 0):=by rw[hW1];simp
 have k4:∀ i,W1.frozen? ⟨W.heap.size,i,.none⟩=false:=fun i=>by rw[hW1];exact World.frozen?_alloc_new _ _ _ i
 have hpw:p<W.heap.size∧b<W.heap.size∧m<W.heap.size:=⟨zC hR.mem.c0,zC (hR.mem.cb 0 (by have:=hR.mem.n1;omega)),hR.mem.mlt⟩
 have cP:=planOf_any (hL.below b1) (hF.keep b1) (Nat.lt_of_lt_of_le hfb b1.size) hB hc ha hr hH (hA.below b1)
 rw[hS,hrd,hen] at cP
 unfold PlP at cP
 rw[hdm] at cP
 have HU:Hid (Rm.Ram W1 p b m N Bm L1∧Below W.heap.size W W1∧(∀ i,W1.frozen? ⟨W.heap.size,i,.none⟩=false)∧Laid3 W1):=⟨hR.below b1,b1,k4,hL3.below b1⟩
 have hfnc:fn<=fc∧fc<=9223372036854775807:=hc
 have hapc:an<=ac∧ac<=9223372036854775807:=⟨hA.tex.2.1,hA.tex.2.2.1⟩
 clear hR hL hL3 hF hfb b1 k4 hS hrd hdm hen hB hH hA hc
 obtain⟨x,hx⟩:∃ x,x=W.heap.size:=⟨_,rfl⟩
 have HX:Hid (x=W.heap.size):=hx
 go_enter Tryz.func11,Tryz.ntmps11
 go_upto_region 1 with fail
 rw[<-hW1,<-hx]
 rw[<-hx] at k0 k1 k2
 clear hW1 hx
 go_upto_region 2 with(go_at_call 40;refine cP.mono ?_;rintro _ w2 ⟨b2,h2⟩;rcases h2 with⟨h,_⟩|⟨_,X,q,cs,E,Bq,et,pq,pn,pc,sp,rfl,sg,hE,hl8,hS,hX,hPg,hBq,he0,rfl⟩;exact absurd rfl h;clear cP)
 subst he0
 obtain⟨gp,Rp,rfl,rfl,rfl,hgp,hRp,hpg,spn,hsp,hspn,hstk⟩:=hPg
 clear hsp hspn hstk
 have hlE:E.length<=8:=hl8
 have hE0:E ≠ []:=hE
 have HMS:Hid (E.map (·.1)=S):=hS
 have heE:ePg (E.map (·.1))=ePg S:=by rw[hS]
 have HPl:Hid (Below W1.heap.size W1 w2∧Segs w2 X (.slice q E.length cs) E Bq∧True∧W1.heap.size<=X∧W1.heap.size<=gp∧(∀ i,0<=Rp i∧Rp i<256)∧(∀ i,i<4096->w2.cell? ⟨gp,i,.none⟩=some (.int .u8 (Rp i)))∧∀ i,0<=Bq i∧Bq i<256):=⟨b2,sg,trivial,hX,hgp,hRp,hpg,hBq⟩
 clear b2 sg hE hl8 hS hX hgp hRp hpg hBq
 obtain⟨w3,hw3⟩:∃ w3,w3=w2.alloc (.cells #[.int .u64 et,.slice q E.length cs,.slice (some ⟨gp,0,.none⟩) 4096 4096,.int .u64 sp] 92):=⟨_,rfl⟩
 have b3:Below w2.heap.size w2 w3:=by rw[hw3];exact zB.alloc zL _
 obtain⟨Z,hZ⟩:∃ Z,Z=w2.heap.size:=⟨_,rfl⟩
 have kZ:Z4M w3 Z et q E.length cs gp sp:=by rw[hw3,hZ];exact⟨by simp,by simp,by simp,by simp⟩
 have HZ:Hid (W1.heap.size<=Z):=by rw[hZ];exact HPl.out.1.size
 rw[<-hw3,<-hZ]
 have B3:Hid (Below w2.heap.size w2 w3∧Below W1.heap.size W1 w3):=⟨b3,HPl.out.1.trans (b3.mono HPl.out.1.size)⟩
 clear hw3 hZ b3
 have hR3:=HU.out.1.below B3.out.2
 have n1:=hR3.mem.n1
 have c25:=Rm.frames_any hR3.mem
 have hN0:((N:Int) == 0)=false:=by simp;omega
 have HR3:Hid (Rm.Ram w3 p b m N Bm L1):=hR3
 clear hR3
 go_upto_region 6 with(go_at_call 41;refine c25.mono ?_;rintro _ w4 ⟨rfl,e4⟩;obtain rfl:w3=w4:=e4.symm)
 have kS:Z4M w3.drew Z et q E.length cs gp sp:=kZ
 refine wp_region_held_drew (S:=fun U=>Z4M U Z et q E.length cs gp sp) (by kernel_rfl) kS (fun hHeld=>?_)
 refine nT 0 (.pointer (some ⟨p,0,.none⟩)) rfl ?_
 simp only[xX]
 refine nT 2 (.agg #[.int .u64 et,.slice q E.length cs,.slice (some ⟨gp,0,.none⟩) 4096 4096,.int .u64 sp]) rfl ?_ (fun ww hSw=>by (try dsimp only at hSw);obtain⟨q0,q1,q2,q3⟩:=hSw;go_simp)
 simp only[xX]
 have c10:=Rm.count_ram (HR3.out.below zB.drew)
 refine zR 1 rfl (fun K hK=>?_)
 go_simp
 go_at_call 15
 refine c10.mono ?_
 rintro _ w5 ⟨rfl,k5,rfl⟩
 refine hK.out _ _ kS (fun hHeld=>?_)
 clear hK K
 try simp only[xX]
 have B5:Hid (Below w3.heap.size w3 (w3.drew.drewN k5)):=⟨rfl,rfl,rfl,Nat.le_refl _,fun _ _=>rfl⟩
 generalize w3.drew.drewN k5=w5 at *
 have sg5:=(HPl.out.2.1.below B3.out.1).below B5.out
 have c26:=demandP_any sg5 hE0 hlE et sp (some ⟨gp,0,.none⟩) 4096 4096
 rw[heE,hkd] at c26
 clear sg5
 refine zR 3 rfl (fun K hK=>?_)
 go_simp
 go_at_call 42
 refine c26.mono ?_
 rintro _ w6 ⟨rfl,b6⟩
 have B6:Hid (Below w3.heap.size w3 w6):=B5.out.trans (b6.mono B5.out.size)
 have kS6:Z4M w6 Z et q E.length cs gp sp:=kZ.of (B6.out.block Z (zC (x:=⟨Z,0,.none⟩) kZ.1))
 clear b6 c26
 refine hK.out _ _ kS6 (fun hHeld=>?_)
 clear hK K
 try simp only[xX]
 refine nT 4 (.bool true) rfl ?_
 simp only[xX]
 refine nT 5 (.bool true) rfl ?_
 simp only[xX]
 refine wpAnyH_done (by kernel_rfl) ?_ _
 have l0:=((B3.out.2.trans (B6.out.mono B3.out.2.size)).cell (zC k0)).trans k0
 have l1:=((B3.out.2.trans (B6.out.mono B3.out.2.size)).cell (zC k1)).trans k1
 have l2:=((B3.out.2.trans (B6.out.mono B3.out.2.size)).cell (zC k2)).trans k2
 have hbf:=B3.out.2.trans (B6.out.mono B3.out.2.size)
 have f0:w6.frozen? ⟨x,0,.none⟩=false:=(hbf.frozen (p:=⟨x,0,.none⟩) (zC k0)).trans (by rw[HX.out];exact HU.out.2.2.1 0)
 have f1:w6.frozen? ⟨x,1,.none⟩=false:=(hbf.frozen (p:=⟨x,1,.none⟩) (zC k1)).trans (by rw[HX.out];exact HU.out.2.2.1 1)
 have f2:w6.frozen? ⟨x,2,.none⟩=false:=(hbf.frozen (p:=⟨x,2,.none⟩) (zC k2)).trans (by rw[HX.out];exact HU.out.2.2.1 2)
 go_wp2_with fail
 have hxw:=HX.out
 refine bodyPost_ret (v:=.tuple #[.pointer .none,.agg #[.int .u64 0,.int .u64 0,.int .u64 0],.int .i64 284]) (by simp[results,Tryz.results11,go_sem,l0,l1,l2]) rfl ⟨rfl,?_⟩
 have hb:=HU.out.2.1.trans (hbf.mono HU.out.2.1.size)
 exact((hb.setCell (by show W.heap.size<=x;omega) _).setCell (by show W.heap.size<=x;omega) _).setCell (by show W.heap.size<=x;omega) _
end
section
open Go.RowKit Go.Shelf Rg
def kdS (S:List Sg):Int:=ePg S+6+(ePg S+513)/512
def LdA (ox:Rm.Oxt) (W:World) (p b m N n:Nat) (S:List Sg) (Bq:Nat->Int) (xs:List Bs) (en dm:Int) (E:Ending) (w':World):Prop:=
 (dm≠0∧E = .returned (.tuple #[.pointer .none,.agg #[.int .u64 0,.int .u64 0,.int .u64 0],.int .i64 dm])∧Below W.heap.size W w') ∨
 (dm=0∧(n:Int)<kdS S∧E = .returned (.tuple #[.pointer .none,.agg #[.int .u64 0,.int .u64 0,.int .u64 0],.int .i64 284])∧Below W.heap.size W w') ∨
 (dm=0∧Sok S∧S ≠ []∧∃ e:Nat,ePg S=(e:Int)∧1<=e∧e+2<=4096∧kdS S<=n∧LdM ox W p b m N e n S Bq xs en E w')
theorem load_all {ox:Rm.Oxt} {W:World} {p b m N fb fo fn fc i ft:Nat} {Bm Bq:Nat->Int} {L1:List Nat} (hR:Rm.Ram W p b m N Bm (i :: L1)) (hox:ox.ft=ft∧∀ f,ox.T f->f∉i :: L1∧∀ j,j<4096->Bm (f*4096+j)=ox.Z (f*4096+j)) (hft:1<=ft∧ft<N∧ft∉i :: L1) (hL:Laid W) (hL3:Laid3 W) (h3:2<p∧2<b∧2<m) (hF:Row W fb fo fn Bq) (hfb:fb<W.heap.size) (hB:∀ i,0<=Bq i∧Bq i<256) (hc:fn<=fc∧fc<=9223372036854775807)
  {ap:Option Addr} {an ac:Nat} {xs:List Bs} (hA:Arg W ap an ac xs) (ha hr:Int) (hH:Hd Bq ha hr) (hlen:L1.length+1<=4096) :
  Calls Tryz.prog 11 #[.pointer (some ⟨p,0,.none⟩),.slice (some ⟨fb,fo,.none⟩) fn fc,.slice ap an ac,.int .u64 (Rm.ad ft),.int .u64 2147483648] W (LdA ox W p b m N (L1.length+1) (sgO fn Bq ha hr) Bq xs (enO fn Bq ha hr) (dmE (rdF fn Bq ha hr).1.2 xs)):=by
 by_cases hd:dmE (rdF fn Bq ha hr).1.2 xs=0
 ·have hr0:(rdF fn Bq ha hr).1.2=0:=by
   by_cases c:(rdF fn Bq ha hr).1.2=0
   ·exact c
   ·unfold dmE at hd
    rw[if_pos c] at hd
    first|exact hd|omega
  have hd0:dmE 0 xs=0:=by rw[hr0] at hd;exact hd
  obtain⟨hs,hne⟩:=rd_ok hB hr0 hH
  obtain⟨e,he,he1,h6,hin⟩:=sok_pages hs hne
  by_cases hk:((L1.length+1:Nat):Int)<kdS (sgO fn Bq ha hr)
  ·refine(load_room hR hL hL3 h3 hF hfb hB hc hA ha hr hH hr0 hd0 rfl _ rfl _ _ rfl hk).mono ?_
   rintro E w' ⟨rfl,hb⟩
   exact .inr (.inl ⟨hd,hk,rfl,hb⟩)
  ·have hle:kdS (sgO fn Bq ha hr)<=((L1.length+1:Nat):Int):=by omega
   have hkd:(e:Int)+6+((e:Int)+513)/512<=(L1.length:Int)+1:=by
    unfold kdS at hle
    rw[he] at hle
    omega
   refine(loadM hR hox hft hL hL3 h3 hF hfb hB hc hA ha hr hH hr0 hd0 rfl _ rfl e he ⟨he1,by omega⟩ h6 hin hkd).mono ?_
   intro E w' h
   exact .inr (.inr ⟨hd,hs,hne,e,he,he1,by omega,hle,h⟩)
 ·refine(load_refM _ hL (.inl ⟨_,_,rfl,hF,hfb⟩) hB hc ha hr hH hA _ hd).mono ?_
  rintro E w' ⟨rfl,hb⟩
  exact .inl ⟨hd,rfl,hb⟩
end
section
open Go.RowKit Go.Shelf
theorem Laid3.lt {w:World} (h:Laid3 w):2<w.heap.size:=zC h.c0
end
namespace Rm
open Go Go.RowKit
structure HiT (w W:World) (p b m N r:Nat) (B:Nat->Int) (L:List Nat) (F:Nat->Option Nat) (l:List Pg) (B':Nat->Int) (L':List Nat) (F':Nat->Option Nat) (lf':Nat->Nat->Int):Prop where
 ram:Ram W p b m N B' L'
 fra:Fra p b m w W
 pt:PT N L' B' F' lf'
 rt:F' 0=some r
 tl:TL F' lf' l
 len:L'.length+nodesF F'=L.length+nodesF F
 sub:∀ x f,F' x=some f->F x=some f
 els:∀ f,f∉L->(∀ x,F x≠some f)->f∉L'∧∀ j,j<4096->B' (f*4096+j)=B (f*4096+j)
section
variable {w W:World} {s p b m N r P ft:Nat} {size:Int} {B B':Nat->Int} {L L':List Nat} {F F':Nat->Option Nat} {lf lf':Nat->Nat->Int} {fr:Nat->Nat} {c:Nat->Int} {l lm:List Pg}
def HiP (w:World) (p b m N r:Nat) (B:Nat->Int) (L:List Nat) (F:Nat->Option Nat) (lm:List Pg) (e:Ending) (W':World):Prop:=(∃ u v,e = .returned (.tuple #[.int .u64 u,.int .i64 v]))∧∃ B2 L2 F2 lf2,HiT w W' p b m N r B L F lm B2 L2 F2 lf2
theorem HiT.unmap (h:HiT w W p b m N r B L F l B' L' F' lf') {x:Pg} (hx:x∈l) (hm:∀ y,y∈lm↔y∈l∧y≠x):Calls Tryz.prog 114 #[.pointer (some ⟨p,0,.none⟩),.int .u64 (ad r),.int .u64 x.1] W (HiP w p b m N r B L F lm):=by
 have hok:=h.tl.ok x hx
 have hl:=h.tl.leaf x hx
 refine(unmap_byt h.ram h.pt h.rt x.1 hok.1 (by rw[hl];exact hok.ne)).mono fun e W' hh=>?_
 obtain⟨rfl,g,q,B2,L2,F2,lf2,hg,hq,P2,R2,r2,f2,y2⟩:=hh
 obtain⟨s1,s2,s3⟩:=PrR.sub R2
 refine⟨⟨_,_,rfl⟩,B2,L2,F2,lf2,r2,h.fra.trans f2,P2,s3.trans h.rt,TL.unmap h.tl hx hm R2,?_,fun y f hf=>h.sub y f (s1 y f hf),fun f h1 h2=>?_⟩
 ·have:=R2.len hg hq
  have:=h.len
  omega
 ·obtain⟨a1,a2⟩:=h.els f h1 h2
  have hn:∀ y,F' y≠some f:=fun y hy=>h2 y (h.sub y f hy)
  refine⟨fun hmm=>?_,fun j hj=>(y2 f hn j hj).trans (a2 j hj)⟩
  rcases s2 f hmm with e|e|e
  ·exact a1 e
  ·exact hn _ (by rw[e];exact hq)
  ·exact hn _ (by rw[e];exact hg)
def TfP (w:World) (p b m N:Nat) (B:Nat->Int) (L:List Nat) (F:Nat->Option Nat) (fr:Nat->Nat) (w':World):Prop:=Fra p b m w w'∧∃ B' L',Ram w' p b m N B' L'∧L'.length=L.length+nodesF F+1∧Oth L F fr [] B L' (fun _=>none) fr [] B'
theorem HiT.free (h:HiT w W p b m N r B L F [] B' L' F' lf'):Calls Tryz.prog 115 #[.pointer (some ⟨p,0,.none⟩),.int .u64 (ad r)] W fun e w'=>e = .returned (.int .i64 0)∧TfP w p b m N B L F fr w':=by
 refine(free_all2 h.ram h.pt h.rt h.tl List.Pairwise.nil rfl).mono fun e w' hh=>?_
 obtain⟨rfl,r2,f2⟩:=hh
 have hn:nodesF F'=0:=by rw[h.tl.nodesF h.pt];rfl
 refine⟨rfl,h.fra.trans f2,_,_,r2,?_,fun f h1 h2 h3=>?_⟩
 ·have:=h.len
  rw[List.length_cons]
  omega
 ·obtain⟨a1,a2⟩:=h.els f h1 h2
  have hne:f≠r:=fun e=>h2 0 (by rw[e];exact h.sub 0 r h.rt)
  refine⟨fun hm=>?_,fun x=>by simp,h3,fun j hj=>?_⟩
  ·rcases List.mem_cons.1 hm with e|e
   ·exact hne e
   ·exact a1 e
  ·rw[thr_frame B' _ hne j hj]
   exact a2 j hj
theorem tfree_any (h:Ram w p b m N B L) (hs:SpL N r ft B L F lf fr c []):Calls Tryz.prog 61 #[.agg #[.pointer (some ⟨p,0,.none⟩),.int .u64 (ad r)]] w fun e w'=>e = .returned (.tuple #[])∧TfP w p b m N B L F fr w':=by
 obtain⟨X,hX⟩:∃ X,X=w.heap.size:=⟨_,rfl⟩
 obtain⟨w1,hw1⟩:∃ w1,w1=w.alloc (.cells #[.pointer (some ⟨p,0,.none⟩),.int .u64 (ad r)] 105):=⟨_,rfl⟩
 have b1:Below w.heap.size w w1:=by rw[hw1];exact zB.alloc zL _
 have k1:C2w w1 X (.pointer (some ⟨p,0,.none⟩)) (.int .u64 (ad r)):=by
  rw[hw1,hX]
  exact⟨by simp,by simp,fun k=>World.frozen?_alloc_new _ _ _ _⟩
 have hp:p<X:=by rw[hX];exact zC h.mem.c0
 have hb:b<X:=by rw[hX];exact zC (h.mem.cb 0 (by have:=h.mem.n1;omega))
 have hm:m<X:=by rw[hX];exact h.mem.mlt
 have hl:pgL ft fr c [] = [(274877898752,ad ft,198),(274877902848,ad 0,74)]:=rfl
 have t0:HiT w1 w1 p b m N r B L F [(274877898752,ad ft,198),(274877902848,ad 0,74)] B L F lf:=⟨h.below b1,Fra.refl ..,hs.pt,hs.rt,by rw[<-hl];exact hs.tl,rfl,fun _ _ h=>h,fun f h1 _=>⟨h1,fun _ _=>rfl⟩⟩
 have c1:=t0.unmap (lm:=[(274877902848,ad 0,74)]) (x:=(274877898752,ad ft,198)) (by simp) (fun y=>by
  rw[List.mem_singleton,List.mem_cons,List.mem_singleton]
  constructor
  ·rintro rfl
   exact⟨.inr rfl,by simp⟩
  ·rintro⟨e|e,hne⟩
   ·exact absurd e hne
   ·exact e)
 unfold HiP at c1
 have HK:Hid (Below w.heap.size w w1∧C2w w1 X (.pointer (some ⟨p,0,.none⟩)) (.int .u64 (ad r))):=⟨b1,k1⟩
 have k0:=k1.a
 have kr:=k1.b
 clear h hs hl t0 b1 k1
 go_enter Tryz.func61,Tryz.ntmps61
 go_upto_region 1 with fail
 rw[<-hw1,<-hX]
 have HXX:Hid (X=w.heap.size):=hX
 clear hw1 hX
 go_upto_region 2 with(go_at_call 114;refine c1.mono ?_;rintro _ w2 ⟨⟨u2,v2,rfl⟩,B2,L2,F2,lf2,t2⟩;have H2:Hid (HiT w1 w2 p b m N r B L F [(274877902848,ad 0,74)] B2 L2 F2 lf2):=t2;clear t2 c1)
 have k2:=HK.out.2.fra H2.out.fra (by omega) (by omega) (by omega)
 have c2:=H2.out.unmap (lm:=[]) (x:=(274877902848,ad 0,74)) (by simp) (fun y=>by
  rw[List.mem_singleton]
  constructor
  ·intro h
   cases h
  ·rintro⟨e,hne⟩
   exact absurd e hne)
 unfold HiP at c2
 have k0:=k2.a
 have kr:=k2.b
 clear k2
 go_upto_region 3 with(go_at_call 114;refine c2.mono ?_;rintro _ w3 ⟨⟨u3,v3,rfl⟩,B3,L3,F3,lf3,t3⟩;have H3:Hid (HiT w1 w3 p b m N r B L F [] B3 L3 F3 lf3):=t3;clear t3 c2)
 have k3:=HK.out.2.fra H3.out.fra (by omega) (by omega) (by omega)
 have c3:=H3.out.free (fr:=fr)
 have k0:=k3.a
 have kr:=k3.b
 clear k3
 go_wp2_with (go_at_call 115;refine c3.mono ?_;rintro _ w4 ⟨rfl,t4⟩;have H4:Hid (TfP w1 p b m N B L F fr w4):=t4;clear t4 c3)
 exact bodyPost_end (v:=.tuple #[]) (by simp[results,Tryz.results61,go_sem]) rfl ⟨rfl,(Fra.below HK.out.1).trans H4.out.1,H4.out.2⟩
def FeP (w:World) (s p b m N P:Nat) (B:Nat->Int) (L:List Nat) (F:Nat->Option Nat) (fr:Nat->Nat) (e:Ending) (w':World):Prop:=e = .returned (.int .i64 0)∧Tch p b m s w w'∧w'.cell? ⟨s,0,.none⟩=some (.pointer .none)∧∃ B' L',Ram w' p b m N B' L'∧L'.length=L.length+nodesF F+P+1∧Oth L F fr (List.range P) B L' (fun _=>none) fr [] B'
theorem sfree_any (h:SpT w s p b m N r P ft size B L F lf fr c):Calls Tryz.prog 23 #[.pointer (some ⟨s,0,.none⟩)] w (FeP w s p b m N P B L F fr):=by
 have hne:=h.ne
 have c43:=made_sp h.sp
 have c31:=shrink_any h 0 ⟨by omega,h.sz.1⟩ 0 rfl
 unfold ShP at c31
 clear h
 go_enter Tryz.func23,Tryz.ntmps23
 go_upto_region 4 with first|(go_at_call 46;refine c43.mono ?_;rintro _ w1 ⟨rfl,e1⟩;obtain rfl:w=w1:=e1.symm)|(go_at_call 60;refine c31.mono ?_;rintro _ w2 ⟨rfl,t2,B2,L2,F2,lf2,S2,n2,o2⟩;have H2:Hid (Tch p b m s w w2∧SpT w2 s p b m N r 0 ft 0 B2 L2 F2 lf2 fr c∧L2.length+nodesF F2+0=L.length+nodesF F+P∧Oth L F fr (List.range P) B L2 F2 fr (List.range 0) B2):=⟨t2,S2,n2,o2⟩;clear t2 S2 n2 o2 c31)
 have c68:=tfree_any H2.out.2.1.ram H2.out.2.1.tab
 have k0:=H2.out.2.1.sp.c0
 have kr:=H2.out.2.1.sp.c1
 go_upto_region 5 with(go_at_call 61;refine c68.mono ?_;rintro _ w3 ⟨rfl,t3⟩;have H3:Hid (TfP w2 p b m N B2 L2 F2 fr w3):=t3;clear t3 c68)
 have S3:=H2.out.2.1.sp.fra H3.out.1 hne.1 hne.2.1 hne.2.2
 have k0:=S3.c0
 have k1:=S3.c1
 have k2:=S3.c2
 have f0:=S3.fr 0
 have f1:=S3.fr 1
 have f2:=S3.fr 2
 clear S3 kr
 go_wp2_with fail
 go_ret
 obtain⟨q1,B3,L3,q2,q3,q4⟩:=H3.out
 refine⟨rfl,(((H2.out.1.trans (Tch.of q1)).trans (Tch.set 0 _)).trans (Tch.set 1 _)).trans (Tch.set 2 _),?_,B3,L3,?_,?_,H2.out.2.2.2.trans q4⟩
 ·rw[zO (by simp),zO (by simp)]
  exact World.cell?_setCell_same' _ _ _ (by rw[k0];rfl)
 ·exact((q2.beside ⟨s,0,.none⟩ _ (fun e=>hne.1 e.symm) (fun e=>hne.2.1 e.symm) (fun e=>hne.2.2 e.symm)).beside ⟨s,1,.none⟩ _ (fun e=>hne.1 e.symm) (fun e=>hne.2.1 e.symm) (fun e=>hne.2.2 e.symm)).beside ⟨s,2,.none⟩ _ (fun e=>hne.1 e.symm) (fun e=>hne.2.1 e.symm) (fun e=>hne.2.2 e.symm)
 ·have:=H2.out.2.2.1
  omega
end
end Rm
namespace Rm
open Go Go.RowKit
def FxP (ox:Oxt) (w:World) (s p b m N K:Nat) (e:Ending) (w':World):Prop:=e = .returned (.int .i64 0)∧Tch p b m s w w'∧∃ B' L',Ram w' p b m N B' L'∧L'.length=K∧∀ f,ox.T f->f∉L'∧∀ j,j<4096->B' (f*4096+j)=ox.Z (f*4096+j)
section
variable {w:World} {s p b m N r P K:Nat} {M c:Nat->Int} {ox:Oxt}
theorem SpM.free (h:SpM ox w s p b m N r P K M c):Calls Tryz.prog 23 #[.pointer (some ⟨s,0,.none⟩)] w (FxP ox w s p b m N K):=by
 obtain⟨B,L,F,lf,fr,h1,h2,h5,h6⟩:=h
 refine(sfree_any h1).mono fun e w' h9=>?_
 obtain⟨he,ht,h0,B',L',hr,hl,ho⟩:=h9
 refine⟨he,ht,B',L',hr,by omega,fun f hf=>?_⟩
 obtain⟨a1,a2,a3,a4⟩:=h5 f hf
 obtain⟨b1,_,_,b4⟩:=ho f a1 a2 (fun i hi=>a3 i (List.mem_range.1 hi))
 exact⟨b1,fun j hj=>(b4 j hj).trans (a4 j hj)⟩
end
end Rm
section
open Go.RowKit
section
end
end
namespace Rm
open Go Go.RowKit
section
variable {ox:Oxt} {w:World} {s p b m N r P K:Nat} {M c:Nat->Int}
theorem SpM.count (h:SpM ox w s p b m N r P K M c):Calls Tryz.prog 15 #[.pointer (some ⟨p,0,.none⟩)] w fun e w'=>e = .returned (.int .i64 ((K:Int)-P-ndP P))∧Below w.heap.size w w':=by
 obtain⟨B,L,F,lf,fr,h1,_,_,h4⟩:=h
 have hn:=h1.tab.nodes h1.pm
 refine(count_ram h1.ram).mono ?_
 rintro e w' ⟨rfl,k,rfl⟩
 exact⟨by rw[show (L.length:Int)=(K:Int)-P-ndP P by omega],below_dr w k⟩
theorem ram_count {B:Nat->Int} {L:List Nat} (h:Ram w p b m N B L):Calls Tryz.prog 15 #[.pointer (some ⟨p,0,.none⟩)] w fun e w'=>e = .returned (.int .i64 (L.length:Int))∧Below w.heap.size w w':=by
 refine(count_ram h).mono ?_
 rintro e w' ⟨rfl,k,rfl⟩
 exact⟨rfl,below_dr w k⟩
end
end Rm
section
open Go.RowKit Go.Shelf Rg
end
section
open Go.RowKit
set_option maxRecDepth 100000 in
theorem lend_any {p:Option Addr} {n c:Nat} {xs:List Int} {w:World} (h:Byt w p n c xs) (hn:n<140737488355000) :
  Calls Tryz.prog 24 #[.slice p n c] w fun e w'=>∃ g cg,e = .returned (.slice (some ⟨g,0,.none⟩) n cg)∧Lent w' w.heap.size g cg xs∧Below w.heap.size w w':=by
 obtain⟨hl,k1,m1,h1⟩:=h
 have m1:c<=9223372036854775807:=m1
 have HX:Hid (xs.length=n):=hl
 obtain⟨i3,z3,hi3,hz3,hs3,hb3,hzs3⟩:=byte_info
 have HI:Hid (Tryz.prog.info? 5=some i3∧i3.zero=some z3∧i3.size=1∧i3.bytes=1∧z3.cells.size=1):=⟨hi3,hz3,hs3,hb3,hzs3⟩
 clear hi3 hz3 hs3 hb3 hzs3
 have H1:Hid (∀ i x,xs[i]? = some x -> ∃ b1 o1,p=some ⟨b1,o1,.none⟩∧b1<w.heap.size∧w.cell? ⟨b1,o1+i,.none⟩=some (.int .u8 x)):=by
  intro i x hx
  rcases h1 with h1|⟨b1,o1,h2,hb,h3⟩
  ·rw[List.getElem?_eq_none (by omega)] at hx
   cases hx
  ·exact⟨b1,o1,h2,hb,h3 i x hx⟩
 clear h1 hl
 obtain⟨w1,hmk,own1,gr1⟩:=run_make_own (P:=Tryz.prog) w w.heap.size 24 5 i3 z3 1 Tryz.underlying24 HI.out.1 HI.out.2.1 HI.out.2.2.1 .i64 .i64 (n+64) (by rw[HI.out.2.2.2.1];omega) (by simp only[maxLen];omega) zL
 have hmk:(Instr.makeSlice 24 (.int .i64 0) (.int .i64 ((n:Int)+64))).run Tryz.prog w = .ok (.slice (some ⟨w.heap.size,0,.none⟩) 0 (n+64)) w1:=by
  have e:((n+64:Nat):Int)=(n:Int)+64:=by omega
  rw[e] at hmk
  exact hmk
 have b1:Below w.heap.size w w1:=zB.grown gr1 zL (fun k hk=>by cases hk)
 have HO1:Hid (w1.ownsRow w.heap.size 5 1 (.slice (some ⟨w.heap.size,0,.none⟩) 0 (n+64)) 0 []∧Below w.heap.size w w1):=⟨own1,b1⟩
 clear own1 gr1 b1
 go_enter Tryz.func24,Tryz.ntmps24
 go_wp2
 clear hmk
 go_loopw [3,4] (fun v k wr=>∃ i:Nat,i<=n∧k = .int .i64 i∧∃ q cq,v = .slice q i cq∧Hid (wr.ownsRow w.heap.size 5 1 (.slice q i cq) i (by8 (xs.take i))∧Below w.heap.size w wr∧∃ g,q=some ⟨g,0,.none⟩)) (fun _ k _=>(n-intOf k).toNat)
 case atStart=>exact⟨0,by omega,rfl,_,_,rfl,HO1.out.1,HO1.out.2,_,rfl⟩
 case round=>
  obtain⟨i,hi,rfl,q,cq,rfl,HO⟩:=hrel
  by_cases hlt:i<n
  ·have g0:(i:Int)<n:=by omega
   have hx:∃ x,xs[i]? = some x:=⟨xs[i]'(by rw[HX.out];exact hlt),by simp⟩
   obtain⟨x,hx⟩:=hx
   obtain⟨b1,o1,rfl,hb,hc⟩:=H1.out i x hx
   have a0:wr.cell? ⟨b1,o1+i,.none⟩=some (.int .u8 x):=(HO.out.2.1.cell hb).trans hc
   have HT:Hid (xs.take i ++ [x]=xs.take (i+1)):=take_next hx
   have z1:=HO.out.2.1.size
   clear hx hc
   go_wp2_with (first|(at_builtin;refine wpList_append_own _ rfl _ _ 24 rfl w.heap.size 5 i3 z3 1 1 Tryz.underlying24 HI.out.1 HI.out.2.1 HI.out.2.2.1 HI.out.2.2.2.1 HI.out.2.2.2.2 (by decide) (.slice q i cq) i (by8 (xs.take i)) rfl (HO.out.1.alloc _) ⟨wr.heap.size,0,.none⟩ 1 1 (by8 [x]) rfl rfl (le_cell1_new _ _ _) (by8_one _) ?c4 ?c5 ?c6 ?_)|go_in)
   case c4=>simp only[maxLen];omega
   case c5=>omega
   case c6=>simp only[World.size_alloc];omega
   intro v' w2 own' grow fb
   clear fb
   obtain⟨p',c',rfl⟩:=one_slice own'
   have HW:Hid (w2.ownsRow w.heap.size 5 1 (.slice p' (i+1) c') (i+1) (by8 (xs.take (i+1)))∧Below w.heap.size w w2∧∃ g,p'=some ⟨g,0,.none⟩):=by
    refine⟨?_,below_append HO.out.2.1 _ grow z1 (own_block HO.out.1),own_some own'⟩
    rw[<-HT.out,by8_app]
    exact own'
   clear own' grow
   go_wp2
   exact⟨⟨i+1,by omega,rfl,p',c',rfl,HW.out⟩,by simp only[intOf];omega⟩
  ·obtain rfl:i=n:=by omega
   have HO3:Hid (wr.ownsRow w.heap.size 5 1 (.slice q i cq) i (by8 xs)∧Below w.heap.size w wr∧∃ g,q=some ⟨g,0,.none⟩):=by
    have h:=HO.out
    rw[<-HX.out,List.take_length,HX.out] at h
    exact h
   clear hi hlt HO HO1
   go_wp2
   go_loopw [3,5] (fun v k W=>∃ j:Nat,j<=64∧k = .int .i64 j∧∃ q cq,v = .slice q (i+j) cq∧Hid (W.ownsRow w.heap.size 5 1 (.slice q (i+j) cq) (i+j) (by8 (xs ++ marks.take j))∧Below w.heap.size w W∧∃ g,q=some ⟨g,0,.none⟩)) (fun _ k _=>(64-intOf k).toNat)
   case atStart=>
    refine⟨0,by omega,rfl,q,cq,rfl,?_⟩
    have h:=HO3.out
    rw[<-List.append_nil xs] at h
    exact h
   case round=>
    clear HO3
    obtain⟨j,hj,rfl,q,cq,rfl,HO⟩:=hrel
    by_cases hlt:j<64
    ·have g0:(j:Int)<64:=by omega
     have gm:IntKind.u8.wrap (160+(j:Int))=160+(j:Int):=by simp only[IntKind.wrap,IntKind.bits,IntKind.signed];simp;omega
     have HT:Hid (marks.take j ++ [160+(j:Int)]=marks.take (j+1)):=take_next (marks_get j hlt)
     have z1:=HO.out.2.1.size
     go_wp2_with (first|(at_builtin;refine wpList_append_own _ rfl _ _ 24 rfl w.heap.size 5 i3 z3 1 1 Tryz.underlying24 HI.out.1 HI.out.2.1 HI.out.2.2.1 HI.out.2.2.2.1 HI.out.2.2.2.2 (by decide) (.slice q (i+j) cq) (i+j) (by8 (xs ++ marks.take j)) rfl (HO.out.1.alloc _) ⟨wr.heap.size,0,.none⟩ 1 1 (by8 [160+(j:Int)]) rfl rfl (le_cell1_new _ _ _) (by8_one _) ?c4 ?c5 ?c6 ?_)|go_in)
     case c4=>simp only[maxLen];omega
     case c5=>omega
     case c6=>simp only[World.size_alloc];omega
     intro v' w2 own' grow fb
     clear fb
     obtain⟨p',c',rfl⟩:=one_slice own'
     have HW:Hid (w2.ownsRow w.heap.size 5 1 (.slice p' (i+(j+1)) c') (i+(j+1)) (by8 (xs ++ marks.take (j+1)))∧Below w.heap.size w w2∧∃ g,p'=some ⟨g,0,.none⟩):=by
      refine⟨?_,below_append HO.out.2.1 _ grow z1 (own_block HO.out.1),own_some own'⟩
      rw[<-HT.out,<-List.append_assoc,by8_app]
      exact own'
     clear own' grow
     go_wp2
     exact⟨⟨j+1,by omega,rfl,p',c',rfl,HW.out⟩,by simp only[intOf];omega⟩
    ·obtain rfl:j=64:=by omega
     clear hj hlt
     obtain⟨h1,h2,g,rfl⟩:=HO.out
     have hcap:=own_cap h1
     have HL:Hid (Lent wr w.heap.size g cq xs∧Below w.heap.size w wr):=by
      refine⟨?_,h2⟩
      unfold Lent
      rw[HX.out]
      have e:marks.take 64=marks:=List.take_of_length_le (by rw[marks_len];exact Nat.le_refl _)
      rw[e] at h1
      exact h1
     clear h1 h2 HO
     go_wp2
     go_ret
     exact⟨g,cq,rfl,HL.out.1,HL.out.2⟩
end
end Go.Proofs.YtabnipbdbnmmpaaGreatDoor
