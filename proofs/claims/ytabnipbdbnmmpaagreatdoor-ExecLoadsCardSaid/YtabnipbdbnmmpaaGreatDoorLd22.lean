import Derived.Test.YtabnipbdbnmmpaaGreatDoorLd01
import Derived.Test.YtabnipbdbnmmpaaGreatDoorLd21
set_option linter.unusedVariables false
set_option linter.unusedSimpArgs false
set_option maxHeartbeats 8000000
namespace Go.Proofs.YtabnipbdbnmmpaaGreatDoor
section
open Go.RowKit
structure Q6 (w:World) (r:Nat):Prop where
 a0:w.cell? ⟨r,0,.none⟩=some (.int .u64 0)
 a1:w.cell? ⟨r,1,.none⟩=some (.slice .none 0 0)
 b0:w.cell? ⟨r+1,0,.none⟩=some (.slice .none 0 0)
 b1:w.cell? ⟨r+1,1,.none⟩=some (.int .i64 0)
 n0:w.cell? ⟨r+1+1,0,.none⟩=some (.int .u64 0)
 n1:w.cell? ⟨r+1+1,1,.none⟩=some (.slice .none 0 0)
 za:∀ k,w.frozen? ⟨r,k,.none⟩=false
 zb:∀ k,w.frozen? ⟨r+1,k,.none⟩=false
theorem Q6.below {w w':World} {r:Nat} (h:Q6 w r) (k:Below w.heap.size w w'):Q6 w' r:=
 ⟨(k.cell (zC h.a0)).trans h.a0,(k.cell (zC h.a1)).trans h.a1,(k.cell (zC h.b0)).trans h.b0,(k.cell (zC h.b1)).trans h.b1,(k.cell (zC h.n0)).trans h.n0,(k.cell (zC h.n1)).trans h.n1,fun i=>(k.frozen (p:=⟨r,i,.none⟩) (show r<w.heap.size from zC (x:=⟨r,0,.none⟩) h.a0)).trans (h.za i),fun i=>(k.frozen (p:=⟨r+1,i,.none⟩) (show r+1<w.heap.size from zC (x:=⟨r+1,0,.none⟩) h.b0)).trans (h.zb i)⟩
theorem put4 {V:World} {r:Nat} {x y x' y':Value} (a0:V.cell? ⟨r,0,.none⟩=some x) (a1:V.cell? ⟨r,1,.none⟩=some y) (b0:V.cell? ⟨r+1,0,.none⟩=some x') (b1:V.cell? ⟨r+1,1,.none⟩=some y') (u v u' v':Value) :
  ((((V.setCell ⟨r,0,.none⟩ u).setCell ⟨r,1,.none⟩ v).setCell ⟨r+1,0,.none⟩ u').setCell ⟨r+1,1,.none⟩ v').cell? ⟨r,0,.none⟩=some u∧((((V.setCell ⟨r,0,.none⟩ u).setCell ⟨r,1,.none⟩ v).setCell ⟨r+1,0,.none⟩ u').setCell ⟨r+1,1,.none⟩ v').cell? ⟨r,1,.none⟩=some v∧((((V.setCell ⟨r,0,.none⟩ u).setCell ⟨r,1,.none⟩ v).setCell ⟨r+1,0,.none⟩ u').setCell ⟨r+1,1,.none⟩ v').cell? ⟨r+1,0,.none⟩=some u'∧((((V.setCell ⟨r,0,.none⟩ u).setCell ⟨r,1,.none⟩ v).setCell ⟨r+1,0,.none⟩ u').setCell ⟨r+1,1,.none⟩ v').cell? ⟨r+1,1,.none⟩=some v'∧r<((((V.setCell ⟨r,0,.none⟩ u).setCell ⟨r,1,.none⟩ v).setCell ⟨r+1,0,.none⟩ u').setCell ⟨r+1,1,.none⟩ v').heap.size∧r+1<((((V.setCell ⟨r,0,.none⟩ u).setCell ⟨r,1,.none⟩ v).setCell ⟨r+1,0,.none⟩ u').setCell ⟨r+1,1,.none⟩ v').heap.size∧(∀ B k,B≠r->B≠r+1->((((V.setCell ⟨r,0,.none⟩ u).setCell ⟨r,1,.none⟩ v).setCell ⟨r+1,0,.none⟩ u').setCell ⟨r+1,1,.none⟩ v').cell? ⟨B,k,.none⟩=V.cell? ⟨B,k,.none⟩)∧(∀ k w,k<=r->Below k w V->Below k w ((((V.setCell ⟨r,0,.none⟩ u).setCell ⟨r,1,.none⟩ v).setCell ⟨r+1,0,.none⟩ u').setCell ⟨r+1,1,.none⟩ v')):=by
 obtain⟨s0,s1,s2,s3,s4⟩:=set2 a0 a1 u v
 have c0:=(s3 (r+1) 0 (by omega)).trans b0
 have c1:=(s3 (r+1) 1 (by omega)).trans b1
 obtain⟨p0,p1,p2,p3,p4⟩:=set2 c0 c1 u' v'
 have d0:=(p3 r 0 (by omega)).trans s0
 exact⟨d0,(p3 r 1 (by omega)).trans s1,p0,p1,zC (x:=⟨r,0,.none⟩) d0,p2,fun B k h1 h2=>(p3 B k h2).trans (s3 B k h1),fun k w hk h=>p4 k w (by omega) (s4 k w hk h)⟩
theorem LFault.putF {V:World} {rs:Nat} {x':Int} {y y':Value} {a r:Int} {p:Option Addr} {n c:Nat} {B:Nat} (a0:V.cell? ⟨rs,0,.none⟩=some (.int .u64 x')) (a1:V.cell? ⟨rs,1,.none⟩=some y) (b0:V.cell? ⟨rs+1,0,.none⟩=some (.slice p n c)) (b1:V.cell? ⟨rs+1,1,.none⟩=some y') (hB:B<V.heap.size) (c0:V.cell? ⟨B,0,.none⟩=some (.string ramB)) (c1:V.cell? ⟨B,1,.none⟩=some (.int .i64 a)) (u v u' v':Value) :
  LFault ((((V.setCell ⟨rs,0,.none⟩ u).setCell ⟨rs,1,.none⟩ v).setCell ⟨rs+1,0,.none⟩ u').setCell ⟨rs+1,1,.none⟩ v') (.agg #[.slice (some ⟨B,0,.none⟩) 1 1,.int .i64 r]) a r:=by
 have h1:B≠rs:=fun e=>by
  rw[e,a0] at c0
  cases c0
 have h2:B≠rs+1:=fun e=>by
  rw[e,b0] at c0
  cases c0
 have so:=(put4 a0 a1 b0 b1 u v u' v').2.2.2.2.2.2.1
 have h0:=(so B 0 h1 h2).trans c0
 exact⟨B,zC (x:=⟨B,0,.none⟩) h0,rfl,h0,(so B 1 h1 h2).trans c1⟩
structure Lq (V w:World) (B:Nat->Int) (en:Int) (E:List (Sg×Value)) (q:Option Addr) (cs:Nat):Prop where
 c0:w.cell? ⟨V.heap.size,0,.none⟩=some (.int .u64 en)
 c1:w.cell? ⟨V.heap.size,1,.none⟩=some (.slice q E.length cs)
 z1:w.frozen? ⟨V.heap.size,1,.none⟩=false
 sg:Segs w (V.heap.size+1) (.slice q E.length cs) E B
 be:Below V.heap.size V w
 hx:V.heap.size+1<=w.heap.size
 ln:E.length<=8
theorem Lq.put {V w w':World} {B:Nat->Int} {en:Int} {E E':List (Sg×Value)} {q q':Option Addr} {cs cs':Nat} (h:Lq V w B en E q cs) (hb:Below (V.heap.size+1) w w') (hS:Segs w' (V.heap.size+1) (.slice q' E'.length cs') E' B) (hl:E'.length<=8):Lq V (w'.setCell ⟨V.heap.size,1,.none⟩ (.slice q' E'.length cs')) B en E' q' cs':=by
 have k1:=(hb.cell (p:=⟨V.heap.size,1,.none⟩) (Nat.lt_succ_self _)).trans h.c1
 have k0:=(hb.cell (p:=⟨V.heap.size,0,.none⟩) (Nat.lt_succ_self _)).trans h.c0
 have kz:=(hb.frozen (p:=⟨V.heap.size,1,.none⟩) (Nat.lt_succ_self _)).trans h.z1
 have low:∀ {ee s k:Nat} {vv:Value} {xs:List Value},w'.ownsRow (V.heap.size+1) ee s vv k xs->(w'.setCell ⟨V.heap.size,1,.none⟩ (.slice q' E'.length cs')).ownsRow (V.heap.size+1) ee s vv k xs:=fun {ee s k vv xs} hv=>ownsRow_setCell_below hv (a:=⟨V.heap.size,1,.none⟩) (Nat.lt_succ_self _) _
 exact⟨(zO (by simp)).trans k0,World.cell?_setCell_same' _ _ _ (by rw[k1];rfl),(World.frozen?_setCell ..).trans kz,⟨low hS.own,fun x hx=>low (hS.dat x hx),hS.gd⟩,(h.be.trans (hb.mono (Nat.le_succ _))).setCell (p:=⟨V.heap.size,1,.none⟩) zL _,by rw[World.size_setCell];exact Nat.le_trans h.hx hb.size,hl⟩
def RQ (W:World) (n:Nat) (B:Nat->Int) (ha hr:Int) (e:Ending) (w':World):Prop:=((rdF n B ha hr).1.2≠0∧∃ g,e = .returned (.tuple #[.agg #[.int .u64 0,.slice .none 0 0],g])∧LFault w' g (rdF n B ha hr).1.1 (rdF n B ha hr).1.2∧Below W.heap.size W w')∨((rdF n B ha hr).1.2=0∧∃ sv E,e = .returned (.tuple #[.agg #[.int .u64 (num B 24 8),sv],.agg #[.slice .none 0 0,.int .i64 0]])∧E.map (·.1)=(rdF n B ha hr).2∧Segs w' W.heap.size sv E B∧E.length<=8∧Below W.heap.size W w')
set_option maxRecDepth 100000 in
theorem readQ_any {W:World} {p:Option Addr} {b o n c:Nat} {B:Nat->Int} (hp:64<=n->p=some ⟨b,o,.none⟩) (hrow:Row W b o n B) (hB:∀ i,0<=B i∧B i<256) (hc:n<=c∧c<=9223372036854775807) (hn3:n<=400000) (ha hr:Int) (hH:Hd B ha hr) :
  Calls Tryz.prog 64 #[.slice p n c] W fun e w'=>RQ W n B ha hr e w':=by
 have HRw:Hid (Row W b o n B):=hrow
 have HHd:Hid (Hd B ha hr):=hH
 clear hrow hH
 have HB3:Hid (Below W.heap.size W (((W.alloc (.cells #[.int .u64 0,.slice .none 0 0] 41)).alloc (.cells #[.slice .none 0 0,.int .i64 0] 121)).alloc (.cells #[.int .u64 0,.slice .none 0 0] 41))):=((zB.alloc zL _).alloc (by simp only[World.size_alloc];omega) _).alloc (by simp only[World.size_alloc];omega) _
 have HQ:Hid (Q6 (((W.alloc (.cells #[.int .u64 0,.slice .none 0 0] 41)).alloc (.cells #[.slice .none 0 0,.int .i64 0] 121)).alloc (.cells #[.int .u64 0,.slice .none 0 0] 41)) W.heap.size):=by
  have k1:Below (W.alloc (.cells #[.int .u64 0,.slice .none 0 0] 41)).heap.size (W.alloc (.cells #[.int .u64 0,.slice .none 0 0] 41)) (((W.alloc (.cells #[.int .u64 0,.slice .none 0 0] 41)).alloc (.cells #[.slice .none 0 0,.int .i64 0] 121)).alloc (.cells #[.int .u64 0,.slice .none 0 0] 41)):=(zB.alloc zL _).alloc (by simp only[World.size_alloc];omega) _
  have k2:Below ((W.alloc (.cells #[.int .u64 0,.slice .none 0 0] 41)).alloc (.cells #[.slice .none 0 0,.int .i64 0] 121)).heap.size ((W.alloc (.cells #[.int .u64 0,.slice .none 0 0] 41)).alloc (.cells #[.slice .none 0 0,.int .i64 0] 121)) (((W.alloc (.cells #[.int .u64 0,.slice .none 0 0] 41)).alloc (.cells #[.slice .none 0 0,.int .i64 0] 121)).alloc (.cells #[.int .u64 0,.slice .none 0 0] 41)):=zB.alloc zL _
  have l1:W.heap.size<(W.alloc (.cells #[.int .u64 0,.slice .none 0 0] 41)).heap.size:=by simp only[World.size_alloc];omega
  have l2:W.heap.size+1<((W.alloc (.cells #[.int .u64 0,.slice .none 0 0] 41)).alloc (.cells #[.slice .none 0 0,.int .i64 0] 121)).heap.size:=by simp only[World.size_alloc];omega
  refine⟨(k1.cell (p:=⟨W.heap.size,0,.none⟩) l1).trans (by simp),(k1.cell (p:=⟨W.heap.size,1,.none⟩) l1).trans (by simp),(k2.cell (p:=⟨W.heap.size+1,0,.none⟩) l2).trans (World.cell?_alloc_at _ _ _ _ (by simp only[World.size_alloc])),(k2.cell (p:=⟨W.heap.size+1,1,.none⟩) l2).trans (World.cell?_alloc_at _ _ _ _ (by simp only[World.size_alloc])),World.cell?_alloc_at _ _ _ _ (by simp only[World.size_alloc]),World.cell?_alloc_at _ _ _ _ (by simp only[World.size_alloc]),fun k=>?_,fun k=>?_⟩
  ·exact(k1.frozen (p:=⟨W.heap.size,k,.none⟩) l1).trans (World.frozen?_alloc_new _ _ _ _)
  ·refine(k2.frozen (p:=⟨W.heap.size+1,k,.none⟩) l2).trans ?_
   have:=World.frozen?_alloc_new (W.alloc (.cells #[.int .u64 0,.slice .none 0 0] 41)) #[.slice .none 0 0,.int .i64 0] 121 k
   rwa [World.size_alloc] at this
 go_enter Tryz.func64,Tryz.ntmps64
 go_upto_region 2 with fail
 generalize (((W.alloc (.cells #[.int .u64 0,.slice .none 0 0] 41)).alloc (.cells #[.slice .none 0 0,.int .i64 0] 121)).alloc (.cells #[.int .u64 0,.slice .none 0 0] 41))=W3 at *
 by_cases h1:262144<n
 ·have g1:(n:Int) > 262144:=by omega
  have kbd:Below W3.heap.size W3 W3.drew:=(Below.refl W3.heap.size W3).drew
  have k0:W3.drew.cell? ⟨W.heap.size+1+1,0,.none⟩=some (.int .u64 0)∧W3.drew.cell? ⟨W.heap.size+1+1,1,.none⟩=some (.slice .none 0 0):=⟨(kbd.cell (zC HQ.out.n0)).trans HQ.out.n0,(kbd.cell (zC HQ.out.n1)).trans HQ.out.n1⟩
  go_upto_region 3 with fail
  refine wp_region_held_drew (S:=fun U2=>U2.cell? ⟨W.heap.size+1+1,0,.none⟩=some (.int .u64 0)∧U2.cell? ⟨W.heap.size+1+1,1,.none⟩=some (.slice .none 0 0)) (by kernel_rfl) k0 (fun hHeld=>?_)
  refine aT 0 (.agg #[.int .u64 0,.slice .none 0 0]) rfl ?_
  simp only[xX]
  refine zR 1 rfl (fun K hK=>?_)
  go_simp
  go_at_call 118
  refine(no_any 147 262144 _).mono ?_
  rintro e V9 ⟨⟨v9,rfl,B9,hB9,rfl,c90,c91⟩,hb9⟩
  have kb9:Below W3.heap.size W3 V9:=kbd.trans (hb9.mono kbd.size)
  have q:=HQ.out.below kb9
  obtain⟨a0,a1,b0,b1,n0,n1,za,zb⟩:=q
  have za0:=za 0
  have za1:=za 1
  have zb0:=zb 0
  have zb1:=zb 1
  have hno:=put4 a0 a1 b0 b1 (.int .u64 0) (.slice .none 0 0) (.slice (some ⟨B9,0,.none⟩) 1 1) (.int .i64 147)
  have k9:V9.cell? ⟨W.heap.size+1+1,0,.none⟩=some (.int .u64 0)∧V9.cell? ⟨W.heap.size+1+1,1,.none⟩=some (.slice .none 0 0):=⟨n0,n1⟩
  have kx:((V9.setCell ⟨W.heap.size,0,.none⟩ (.int .u64 0)).setCell ⟨W.heap.size,1,.none⟩ (.slice .none 0 0)).cell? ⟨W.heap.size+1+1,0,.none⟩=some (.int .u64 0)∧((V9.setCell ⟨W.heap.size,0,.none⟩ (.int .u64 0)).setCell ⟨W.heap.size,1,.none⟩ (.slice .none 0 0)).cell? ⟨W.heap.size+1+1,1,.none⟩=some (.slice .none 0 0):=by
   obtain⟨_,_,_,so,_⟩:=set2 a0 a1 (.int .u64 0) (.slice .none 0 0)
   exact⟨(so _ 0 (by omega)).trans n0,(so _ 1 (by omega)).trans n1⟩
  have ky:((((V9.setCell ⟨W.heap.size,0,.none⟩ (.int .u64 0)).setCell ⟨W.heap.size,1,.none⟩ (.slice .none 0 0)).setCell ⟨W.heap.size+1,0,.none⟩ (.slice (some ⟨B9,0,.none⟩) 1 1)).setCell ⟨W.heap.size+1,1,.none⟩ (.int .i64 147)).cell? ⟨W.heap.size+1+1,0,.none⟩=some (.int .u64 0)∧((((V9.setCell ⟨W.heap.size,0,.none⟩ (.int .u64 0)).setCell ⟨W.heap.size,1,.none⟩ (.slice .none 0 0)).setCell ⟨W.heap.size+1,0,.none⟩ (.slice (some ⟨B9,0,.none⟩) 1 1)).setCell ⟨W.heap.size+1,1,.none⟩ (.int .i64 147)).cell? ⟨W.heap.size+1+1,1,.none⟩=some (.slice .none 0 0):=⟨(hno.2.2.2.2.2.2.1 _ 0 (by omega) (by omega)).trans n0,(hno.2.2.2.2.2.2.1 _ 1 (by omega) (by omega)).trans n1⟩
  have e0:((V9.setCell ⟨W.heap.size,0,.none⟩ (.int .u64 0)).setCell ⟨W.heap.size,1,.none⟩ (.slice .none 0 0)).cell? ⟨W.heap.size+1,0,.none⟩=some (.slice .none 0 0):=(((set2 a0 a1 (.int .u64 0) (.slice .none 0 0)).2.2.2.1 _ 0 (by omega)).trans b0)
  have e1:((V9.setCell ⟨W.heap.size,0,.none⟩ (.int .u64 0)).setCell ⟨W.heap.size,1,.none⟩ (.slice .none 0 0)).cell? ⟨W.heap.size+1,1,.none⟩=some (.int .i64 0):=(((set2 a0 a1 (.int .u64 0) (.slice .none 0 0)).2.2.2.1 _ 1 (by omega)).trans b1)
  refine hK.out _ _ k9 (fun hHeld=>?_)
  clear hK K
  try simp only[xX]
  refine zR 2 rfl (fun K hK=>?_)
  go_simp
  refine hK.out _ _ kx (fun hHeld=>?_)
  clear hK K
  try simp only[xX]
  refine zR 3 rfl (fun K hK=>?_)
  go_simp
  refine hK.out _ _ ky (fun hHeld=>?_)
  clear hK K
  try simp only[xX]
  refine wpAnyH_done (by kernel_rfl) ?_ _
  clear hHeld k0 k9 kx ky e0 e1
  go_wp2_with fail
  have hLF:=LFault.putF (r:=147) a0 a1 b0 b1 hB9 c90 c91 (.int .u64 0) (.slice .none 0 0) (.slice (some ⟨B9,0,.none⟩) 1 1) (.int .i64 147)
  have hbb:=hno.2.2.2.2.2.2.2 W.heap.size W zL (HB3.out.trans (kb9.mono HB3.out.size))
  obtain⟨t0,t1,t2,t3,t4,t5,_,_⟩:=hno
  generalize ((((V9.setCell ⟨W.heap.size,0,.none⟩ (.int .u64 0)).setCell ⟨W.heap.size,1,.none⟩ (.slice .none 0 0)).setCell ⟨W.heap.size+1,0,.none⟩ (.slice (some ⟨B9,0,.none⟩) 1 1)).setCell ⟨W.heap.size+1,1,.none⟩ (.int .i64 147))=W9 at *
  refine bodyPost_ret (v:=.tuple #[(.agg #[.int .u64 0,.slice .none 0 0]),.agg #[(.slice (some ⟨B9,0,.none⟩) 1 1),(.int .i64 147)]]) (by simp[results,Tryz.results64,go_sem,t0,t1,t2,t3,t4,t5]) rfl ?_
  refine .inl ?_
  unfold rdF
  rw[if_pos h1]
  exact⟨by simp,_,rfl,hLF,hbb⟩
 have g1:¬ (n:Int) > 262144:=by omega
 by_cases h2:n<64
 ·have g2:(n:Int)<64:=by omega
  have kbd:Below W3.heap.size W3 W3.drew:=(Below.refl W3.heap.size W3).drew
  have k0:W3.drew.cell? ⟨W.heap.size+1+1,0,.none⟩=some (.int .u64 0)∧W3.drew.cell? ⟨W.heap.size+1+1,1,.none⟩=some (.slice .none 0 0):=⟨(kbd.cell (zC HQ.out.n0)).trans HQ.out.n0,(kbd.cell (zC HQ.out.n1)).trans HQ.out.n1⟩
  go_upto_region 5 with fail
  refine wp_region_held_drew (S:=fun U2=>U2.cell? ⟨W.heap.size+1+1,0,.none⟩=some (.int .u64 0)∧U2.cell? ⟨W.heap.size+1+1,1,.none⟩=some (.slice .none 0 0)) (by kernel_rfl) k0 (fun hHeld=>?_)
  refine aT 0 (.agg #[.int .u64 0,.slice .none 0 0]) rfl ?_
  simp only[xX]
  refine aT 1 (.slice p n c) rfl ?_
  simp only[xX]
  refine aT 2 (.int .i64 n) rfl ?_
  simp only[xX]
  refine zR 3 rfl (fun K hK=>?_)
  go_simp
  go_at_call 118
  refine(no_any 140 n _).mono ?_
  rintro e V9 ⟨⟨v9,rfl,B9,hB9,rfl,c90,c91⟩,hb9⟩
  have kb9:Below W3.heap.size W3 V9:=kbd.trans (hb9.mono kbd.size)
  have q:=HQ.out.below kb9
  obtain⟨a0,a1,b0,b1,n0,n1,za,zb⟩:=q
  have za0:=za 0
  have za1:=za 1
  have zb0:=zb 0
  have zb1:=zb 1
  have hno:=put4 a0 a1 b0 b1 (.int .u64 0) (.slice .none 0 0) (.slice (some ⟨B9,0,.none⟩) 1 1) (.int .i64 140)
  have k9:V9.cell? ⟨W.heap.size+1+1,0,.none⟩=some (.int .u64 0)∧V9.cell? ⟨W.heap.size+1+1,1,.none⟩=some (.slice .none 0 0):=⟨n0,n1⟩
  have kx:((V9.setCell ⟨W.heap.size,0,.none⟩ (.int .u64 0)).setCell ⟨W.heap.size,1,.none⟩ (.slice .none 0 0)).cell? ⟨W.heap.size+1+1,0,.none⟩=some (.int .u64 0)∧((V9.setCell ⟨W.heap.size,0,.none⟩ (.int .u64 0)).setCell ⟨W.heap.size,1,.none⟩ (.slice .none 0 0)).cell? ⟨W.heap.size+1+1,1,.none⟩=some (.slice .none 0 0):=by
   obtain⟨_,_,_,so,_⟩:=set2 a0 a1 (.int .u64 0) (.slice .none 0 0)
   exact⟨(so _ 0 (by omega)).trans n0,(so _ 1 (by omega)).trans n1⟩
  have ky:((((V9.setCell ⟨W.heap.size,0,.none⟩ (.int .u64 0)).setCell ⟨W.heap.size,1,.none⟩ (.slice .none 0 0)).setCell ⟨W.heap.size+1,0,.none⟩ (.slice (some ⟨B9,0,.none⟩) 1 1)).setCell ⟨W.heap.size+1,1,.none⟩ (.int .i64 140)).cell? ⟨W.heap.size+1+1,0,.none⟩=some (.int .u64 0)∧((((V9.setCell ⟨W.heap.size,0,.none⟩ (.int .u64 0)).setCell ⟨W.heap.size,1,.none⟩ (.slice .none 0 0)).setCell ⟨W.heap.size+1,0,.none⟩ (.slice (some ⟨B9,0,.none⟩) 1 1)).setCell ⟨W.heap.size+1,1,.none⟩ (.int .i64 140)).cell? ⟨W.heap.size+1+1,1,.none⟩=some (.slice .none 0 0):=⟨(hno.2.2.2.2.2.2.1 _ 0 (by omega) (by omega)).trans n0,(hno.2.2.2.2.2.2.1 _ 1 (by omega) (by omega)).trans n1⟩
  have e0:((V9.setCell ⟨W.heap.size,0,.none⟩ (.int .u64 0)).setCell ⟨W.heap.size,1,.none⟩ (.slice .none 0 0)).cell? ⟨W.heap.size+1,0,.none⟩=some (.slice .none 0 0):=(((set2 a0 a1 (.int .u64 0) (.slice .none 0 0)).2.2.2.1 _ 0 (by omega)).trans b0)
  have e1:((V9.setCell ⟨W.heap.size,0,.none⟩ (.int .u64 0)).setCell ⟨W.heap.size,1,.none⟩ (.slice .none 0 0)).cell? ⟨W.heap.size+1,1,.none⟩=some (.int .i64 0):=(((set2 a0 a1 (.int .u64 0) (.slice .none 0 0)).2.2.2.1 _ 1 (by omega)).trans b1)
  refine hK.out _ _ k9 (fun hHeld=>?_)
  clear hK K
  try simp only[xX]
  refine zR 4 rfl (fun K hK=>?_)
  go_simp
  refine hK.out _ _ kx (fun hHeld=>?_)
  clear hK K
  try simp only[xX]
  refine zR 5 rfl (fun K hK=>?_)
  go_simp
  refine hK.out _ _ ky (fun hHeld=>?_)
  clear hK K
  try simp only[xX]
  refine wpAnyH_done (by kernel_rfl) ?_ _
  clear hHeld k0 k9 kx ky e0 e1
  go_wp2_with fail
  have hLF:=LFault.putF (r:=140) a0 a1 b0 b1 hB9 c90 c91 (.int .u64 0) (.slice .none 0 0) (.slice (some ⟨B9,0,.none⟩) 1 1) (.int .i64 140)
  have hbb:=hno.2.2.2.2.2.2.2 W.heap.size W zL (HB3.out.trans (kb9.mono HB3.out.size))
  obtain⟨t0,t1,t2,t3,t4,t5,_,_⟩:=hno
  generalize ((((V9.setCell ⟨W.heap.size,0,.none⟩ (.int .u64 0)).setCell ⟨W.heap.size,1,.none⟩ (.slice .none 0 0)).setCell ⟨W.heap.size+1,0,.none⟩ (.slice (some ⟨B9,0,.none⟩) 1 1)).setCell ⟨W.heap.size+1,1,.none⟩ (.int .i64 140))=W9 at *
  refine bodyPost_ret (v:=.tuple #[(.agg #[.int .u64 0,.slice .none 0 0]),.agg #[(.slice (some ⟨B9,0,.none⟩) 1 1),(.int .i64 140)]]) (by simp[results,Tryz.results64,go_sem,t0,t1,t2,t3,t4,t5]) rfl ?_
  refine .inl ?_
  unfold rdF
  rw[if_neg h1,if_pos h2]
  exact⟨by simp,_,rfl,hLF,hbb⟩
 have g2:¬ (n:Int)<64:=by omega
 obtain rfl:=hp (by omega)
 clear hp
 have hr1:rdF n B ha hr=if hr≠0 then ((ha,hr),[]) else if cntB B=0∨64<cntB B then ((56,143),[]) else if ¬ froB B+cntB B*56<=n then ((32,140),[]) else if (lp n B (cntB B) (froB B) []).1.2≠0 then ((lp n B (cntB B) (froB B) []).1,[]) else if (lp n B (cntB B) (froB B) []).2.length=0 then ((56,143),[]) else if hasE (lp n B (cntB B) (froB B) []).2 (num B 24 8)=false then ((24,146),[]) else ((0,0),(lp n B (cntB B) (froB B) []).2):=by
  unfold rdF
  rw[if_neg h1,if_neg h2]
 have HF1:Hid (rdF n B ha hr=_):=hr1
 clear hr1
 obtain⟨ec,lc⟩:=cnt_e B hB
 obtain⟨ef,lf⟩:=fro_e B hB
 have HEc:Hid ((cntB B:Int)=num B 56 2):=ec
 have HEf:Hid ((froB B:Int)=num B 32 8):=ef
 clear ec ef
 go_wp2_with fail
 refine(headNo_any (HRw.out.keep HB3.out) hB hc (by omega)).mono ?_
 rintro e V ⟨a',r',g,hh,rfl,hg,hbV⟩
 obtain⟨rfl,rfl⟩:=hd_one HHd.out hh
 obtain⟨gp,gn,gc,rfl⟩:=hg.form
 have HG:Hid (RefR (V.alloc (.cells #[.slice gp gn gc,.int .i64 hr] 121)) (.agg #[.slice gp gn gc,.int .i64 hr]) ha hr):=hg.below (zB.alloc zL _)
 have HBV:Hid (Below W3.heap.size W3 (V.alloc (.cells #[.slice gp gn gc,.int .i64 hr] 121))):=hbV.alloc hbV.size _
 have HF4:Hid ((V.alloc (.cells #[.slice gp gn gc,.int .i64 hr] 121)).cell? ⟨V.heap.size,0,.none⟩=some (.slice gp gn gc)∧(V.alloc (.cells #[.slice gp gn gc,.int .i64 hr] 121)).cell? ⟨V.heap.size,1,.none⟩=some (.int .i64 hr)):=⟨by simp,by simp⟩
 have hV4:W3.heap.size<=V.heap.size:=hbV.size
 have l3:W.heap.size+1+1<W3.heap.size:=zC (x:=⟨W.heap.size+1+1,0,.none⟩) HQ.out.n0
 clear hg hbV hh
 go_upto_region 7 with fail
 generalize (V.alloc (.cells #[.slice gp gn gc,.int .i64 hr] 121))=V4 at *
 generalize V.heap.size=r4 at *
 have y0:=HF4.out.1
 have y1:=HF4.out.2
 go_wp2_with fail
 refine(any_any V4 _ ha hr HG.out).mono ?_
 rintro e V5 ⟨rfl,hb5⟩
 have HB5:Hid (Below W3.heap.size W3 V5∧Below V4.heap.size V4 V5):=⟨HBV.out.trans (hb5.mono HBV.out.size),hb5⟩
 clear hb5 y0 y1
 by_cases h0:hr=0
 rotate_left
 ·have hd:decide (hr≠0)=true:=by simpa using h0
  rw[hd]
  have kbd:Below W3.heap.size W3 V5.drew:=HB5.out.1.drew
  have f0:=(HB5.out.2.cell (zC HF4.out.1)).trans HF4.out.1
  have f1:=(HB5.out.2.cell (zC HF4.out.2)).trans HF4.out.2
  have k0:(V5.drew.cell? ⟨W.heap.size+1+1,0,.none⟩=some (.int .u64 0)∧V5.drew.cell? ⟨W.heap.size+1+1,1,.none⟩=some (.slice .none 0 0))∧V5.drew.cell? ⟨r4,0,.none⟩=some (.slice gp gn gc)∧V5.drew.cell? ⟨r4,1,.none⟩=some (.int .i64 hr):=⟨⟨(kbd.cell (zC HQ.out.n0)).trans HQ.out.n0,(kbd.cell (zC HQ.out.n1)).trans HQ.out.n1⟩,f0,f1⟩
  obtain⟨a0,a1,b0,b1,n0,n1,za,zb⟩:=HQ.out.below HB5.out.1
  have za0:=za 0
  have za1:=za 1
  have zb0:=zb 0
  have zb1:=zb 1
  have hno:=put4 (V:=V5) a0 a1 b0 b1 (.int .u64 0) (.slice .none 0 0) (.slice gp gn gc) (.int .i64 hr)
  have so:=(set2 (V:=V5.drew) a0 a1 (.int .u64 0) (.slice .none 0 0)).2.2.2.1
  have kx:(((V5.drew.setCell ⟨W.heap.size,0,.none⟩ (.int .u64 0)).setCell ⟨W.heap.size,1,.none⟩ (.slice .none 0 0)).cell? ⟨W.heap.size+1+1,0,.none⟩=some (.int .u64 0)∧((V5.drew.setCell ⟨W.heap.size,0,.none⟩ (.int .u64 0)).setCell ⟨W.heap.size,1,.none⟩ (.slice .none 0 0)).cell? ⟨W.heap.size+1+1,1,.none⟩=some (.slice .none 0 0))∧((V5.drew.setCell ⟨W.heap.size,0,.none⟩ (.int .u64 0)).setCell ⟨W.heap.size,1,.none⟩ (.slice .none 0 0)).cell? ⟨r4,0,.none⟩=some (.slice gp gn gc)∧((V5.drew.setCell ⟨W.heap.size,0,.none⟩ (.int .u64 0)).setCell ⟨W.heap.size,1,.none⟩ (.slice .none 0 0)).cell? ⟨r4,1,.none⟩=some (.int .i64 hr):=⟨⟨(so _ 0 (by omega)).trans n0,(so _ 1 (by omega)).trans n1⟩,(so r4 0 (by omega)).trans f0,(so r4 1 (by omega)).trans f1⟩
  have ky:(((((V5.drew.setCell ⟨W.heap.size,0,.none⟩ (.int .u64 0)).setCell ⟨W.heap.size,1,.none⟩ (.slice .none 0 0)).setCell ⟨W.heap.size+1,0,.none⟩ (.slice gp gn gc)).setCell ⟨W.heap.size+1,1,.none⟩ (.int .i64 hr)).cell? ⟨W.heap.size+1+1,0,.none⟩=some (.int .u64 0)∧((((V5.drew.setCell ⟨W.heap.size,0,.none⟩ (.int .u64 0)).setCell ⟨W.heap.size,1,.none⟩ (.slice .none 0 0)).setCell ⟨W.heap.size+1,0,.none⟩ (.slice gp gn gc)).setCell ⟨W.heap.size+1,1,.none⟩ (.int .i64 hr)).cell? ⟨W.heap.size+1+1,1,.none⟩=some (.slice .none 0 0))∧((((V5.drew.setCell ⟨W.heap.size,0,.none⟩ (.int .u64 0)).setCell ⟨W.heap.size,1,.none⟩ (.slice .none 0 0)).setCell ⟨W.heap.size+1,0,.none⟩ (.slice gp gn gc)).setCell ⟨W.heap.size+1,1,.none⟩ (.int .i64 hr)).cell? ⟨r4,0,.none⟩=some (.slice gp gn gc)∧((((V5.drew.setCell ⟨W.heap.size,0,.none⟩ (.int .u64 0)).setCell ⟨W.heap.size,1,.none⟩ (.slice .none 0 0)).setCell ⟨W.heap.size+1,0,.none⟩ (.slice gp gn gc)).setCell ⟨W.heap.size+1,1,.none⟩ (.int .i64 hr)).cell? ⟨r4,1,.none⟩=some (.int .i64 hr):=⟨⟨(hno.2.2.2.2.2.2.1 _ 0 (by omega) (by omega)).trans n0,(hno.2.2.2.2.2.2.1 _ 1 (by omega) (by omega)).trans n1⟩,(hno.2.2.2.2.2.2.1 r4 0 (by omega) (by omega)).trans f0,(hno.2.2.2.2.2.2.1 r4 1 (by omega) (by omega)).trans f1⟩
  have e0:((V5.setCell ⟨W.heap.size,0,.none⟩ (.int .u64 0)).setCell ⟨W.heap.size,1,.none⟩ (.slice .none 0 0)).cell? ⟨W.heap.size+1,0,.none⟩=some (.slice .none 0 0):=(so _ 0 (by omega)).trans b0
  have e1:((V5.setCell ⟨W.heap.size,0,.none⟩ (.int .u64 0)).setCell ⟨W.heap.size,1,.none⟩ (.slice .none 0 0)).cell? ⟨W.heap.size+1,1,.none⟩=some (.int .i64 0):=(so _ 1 (by omega)).trans b1
  go_upto_region 8 with fail
  refine wp_region_held_drew (S:=fun U2=>(U2.cell? ⟨W.heap.size+1+1,0,.none⟩=some (.int .u64 0)∧U2.cell? ⟨W.heap.size+1+1,1,.none⟩=some (.slice .none 0 0))∧U2.cell? ⟨r4,0,.none⟩=some (.slice gp gn gc)∧U2.cell? ⟨r4,1,.none⟩=some (.int .i64 hr)) (by kernel_rfl) k0 (fun hHeld=>?_)
  refine aT 0 (.agg #[.int .u64 0,.slice .none 0 0]) rfl ?_
  simp only[xX]
  refine aT 1 (.agg #[.slice gp gn gc,.int .i64 hr]) rfl ?_
  simp only[xX]
  refine zR 2 rfl (fun K hK=>?_)
  go_simp
  refine hK.out _ _ kx (fun hHeld=>?_)
  clear hK K
  try simp only[xX]
  refine zR 3 rfl (fun K hK=>?_)
  go_simp
  refine hK.out _ _ ky (fun hHeld=>?_)
  clear hK K
  try simp only[xX]
  refine wpAnyH_done (by kernel_rfl) ?_ _
  clear hHeld k0 kx ky e0 e1
  go_wp2_with fail
  have hRf:RefR V5 (.agg #[.slice gp gn gc,.int .i64 hr]) ha hr:=HG.out.below HB5.out.2
  rcases hRf with⟨_,B9,hB9,hgg,c90,c91⟩|⟨h9,_⟩
  rotate_left
  ·exact absurd h9 h0
  have hLF:=LFault.putF (V:=V5) (r:=hr) a0 a1 b0 b1 hB9 c90 c91 (.int .u64 0) (.slice .none 0 0) (.slice gp gn gc) (.int .i64 hr)
  rw[<-hgg] at hLF
  have hbb:=hno.2.2.2.2.2.2.2 W.heap.size W zL (HB3.out.trans (HB5.out.1.mono HB3.out.size))
  obtain⟨t0,t1,t2,t3,t4,t5,_,_⟩:=hno
  generalize ((((V5.setCell ⟨W.heap.size,0,.none⟩ (.int .u64 0)).setCell ⟨W.heap.size,1,.none⟩ (.slice .none 0 0)).setCell ⟨W.heap.size+1,0,.none⟩ (.slice gp gn gc)).setCell ⟨W.heap.size+1,1,.none⟩ (.int .i64 hr))=W9 at *
  refine bodyPost_ret (v:=.tuple #[(.agg #[.int .u64 0,.slice .none 0 0]),.agg #[.slice gp gn gc,.int .i64 hr]]) (by simp[results,Tryz.results64,go_sem,t0,t1,t2,t3,t4,t5]) rfl ?_
  refine .inl ?_
  have e1:=HF1.out
  rw[if_pos h0] at e1
  rw[e1]
  exact⟨h0,_,rfl,hLF.below (zB.drew),hbb.drew⟩
 have HH0:Hid (hr=0):=h0
 have hd:decide (hr≠0)=false:=by simpa using h0
 rw[hd]
 clear h0 hd
 have kW5:Below W.heap.size W V5:=HB3.out.trans (HB5.out.1.mono HB3.out.size)
 go_wp2_with fail
 refine(value_any b o n c 56 2 B V5 (by omega) hc.1 hc.2 (by omega) hB (HRw.out.keep kW5)).mono ?_
 rintro e w9 ⟨rfl,hw9⟩
 cases hw9
 rw[<-HEc.out]
 by_cases hc0:cntB B=0
 ·have g3:((cntB B:Int) == 0)=true:=by rw[beq_iff_eq];omega
  have HC0:Hid (cntB B=0):=hc0
  clear hc0
  have kbd:Below W3.heap.size W3 V5.drew:=(HB5.out.1).drew
  have k0:V5.drew.cell? ⟨W.heap.size+1+1,0,.none⟩=some (.int .u64 0)∧V5.drew.cell? ⟨W.heap.size+1+1,1,.none⟩=some (.slice .none 0 0):=⟨(kbd.cell (zC HQ.out.n0)).trans HQ.out.n0,(kbd.cell (zC HQ.out.n1)).trans HQ.out.n1⟩
  go_upto_region 11 with fail
  refine wp_region_held_drew (S:=fun U2=>U2.cell? ⟨W.heap.size+1+1,0,.none⟩=some (.int .u64 0)∧U2.cell? ⟨W.heap.size+1+1,1,.none⟩=some (.slice .none 0 0)) (by kernel_rfl) k0 (fun hHeld=>?_)
  refine aT 0 (.agg #[.int .u64 0,.slice .none 0 0]) rfl ?_
  simp only[xX]
  refine zR 1 rfl (fun K hK=>?_)
  go_simp
  go_at_call 118
  refine(no_any 143 56 _).mono ?_
  rintro e V9 ⟨⟨v9,rfl,B9,hB9,rfl,c90,c91⟩,hb9⟩
  have kb9:Below W3.heap.size W3 V9:=kbd.trans (hb9.mono kbd.size)
  have q:=HQ.out.below kb9
  obtain⟨a0,a1,b0,b1,n0,n1,za,zb⟩:=q
  have za0:=za 0
  have za1:=za 1
  have zb0:=zb 0
  have zb1:=zb 1
  have hno:=put4 a0 a1 b0 b1 (.int .u64 0) (.slice .none 0 0) (.slice (some ⟨B9,0,.none⟩) 1 1) (.int .i64 143)
  have k9:V9.cell? ⟨W.heap.size+1+1,0,.none⟩=some (.int .u64 0)∧V9.cell? ⟨W.heap.size+1+1,1,.none⟩=some (.slice .none 0 0):=⟨n0,n1⟩
  have kx:((V9.setCell ⟨W.heap.size,0,.none⟩ (.int .u64 0)).setCell ⟨W.heap.size,1,.none⟩ (.slice .none 0 0)).cell? ⟨W.heap.size+1+1,0,.none⟩=some (.int .u64 0)∧((V9.setCell ⟨W.heap.size,0,.none⟩ (.int .u64 0)).setCell ⟨W.heap.size,1,.none⟩ (.slice .none 0 0)).cell? ⟨W.heap.size+1+1,1,.none⟩=some (.slice .none 0 0):=by
   obtain⟨_,_,_,so,_⟩:=set2 a0 a1 (.int .u64 0) (.slice .none 0 0)
   exact⟨(so _ 0 (by omega)).trans n0,(so _ 1 (by omega)).trans n1⟩
  have ky:((((V9.setCell ⟨W.heap.size,0,.none⟩ (.int .u64 0)).setCell ⟨W.heap.size,1,.none⟩ (.slice .none 0 0)).setCell ⟨W.heap.size+1,0,.none⟩ (.slice (some ⟨B9,0,.none⟩) 1 1)).setCell ⟨W.heap.size+1,1,.none⟩ (.int .i64 143)).cell? ⟨W.heap.size+1+1,0,.none⟩=some (.int .u64 0)∧((((V9.setCell ⟨W.heap.size,0,.none⟩ (.int .u64 0)).setCell ⟨W.heap.size,1,.none⟩ (.slice .none 0 0)).setCell ⟨W.heap.size+1,0,.none⟩ (.slice (some ⟨B9,0,.none⟩) 1 1)).setCell ⟨W.heap.size+1,1,.none⟩ (.int .i64 143)).cell? ⟨W.heap.size+1+1,1,.none⟩=some (.slice .none 0 0):=⟨(hno.2.2.2.2.2.2.1 _ 0 (by omega) (by omega)).trans n0,(hno.2.2.2.2.2.2.1 _ 1 (by omega) (by omega)).trans n1⟩
  have e0:((V9.setCell ⟨W.heap.size,0,.none⟩ (.int .u64 0)).setCell ⟨W.heap.size,1,.none⟩ (.slice .none 0 0)).cell? ⟨W.heap.size+1,0,.none⟩=some (.slice .none 0 0):=(((set2 a0 a1 (.int .u64 0) (.slice .none 0 0)).2.2.2.1 _ 0 (by omega)).trans b0)
  have e1:((V9.setCell ⟨W.heap.size,0,.none⟩ (.int .u64 0)).setCell ⟨W.heap.size,1,.none⟩ (.slice .none 0 0)).cell? ⟨W.heap.size+1,1,.none⟩=some (.int .i64 0):=(((set2 a0 a1 (.int .u64 0) (.slice .none 0 0)).2.2.2.1 _ 1 (by omega)).trans b1)
  refine hK.out _ _ k9 (fun hHeld=>?_)
  clear hK K
  try simp only[xX]
  refine zR 2 rfl (fun K hK=>?_)
  go_simp
  refine hK.out _ _ kx (fun hHeld=>?_)
  clear hK K
  try simp only[xX]
  refine zR 3 rfl (fun K hK=>?_)
  go_simp
  refine hK.out _ _ ky (fun hHeld=>?_)
  clear hK K
  try simp only[xX]
  refine wpAnyH_done (by kernel_rfl) ?_ _
  clear hHeld k0 k9 kx ky e0 e1
  go_wp2_with fail
  have hLF:=LFault.putF (r:=143) a0 a1 b0 b1 hB9 c90 c91 (.int .u64 0) (.slice .none 0 0) (.slice (some ⟨B9,0,.none⟩) 1 1) (.int .i64 143)
  have hbb:=hno.2.2.2.2.2.2.2 W.heap.size W zL (HB3.out.trans (kb9.mono HB3.out.size))
  obtain⟨t0,t1,t2,t3,t4,t5,_,_⟩:=hno
  generalize ((((V9.setCell ⟨W.heap.size,0,.none⟩ (.int .u64 0)).setCell ⟨W.heap.size,1,.none⟩ (.slice .none 0 0)).setCell ⟨W.heap.size+1,0,.none⟩ (.slice (some ⟨B9,0,.none⟩) 1 1)).setCell ⟨W.heap.size+1,1,.none⟩ (.int .i64 143))=W9 at *
  refine bodyPost_ret (v:=.tuple #[(.agg #[.int .u64 0,.slice .none 0 0]),.agg #[(.slice (some ⟨B9,0,.none⟩) 1 1),(.int .i64 143)]]) (by simp[results,Tryz.results64,go_sem,t0,t1,t2,t3,t4,t5]) rfl ?_
  refine .inl ?_
  have e1:=HF1.out
  rw[if_neg (by simpa using HH0.out),if_pos (.inl HC0.out)] at e1
  rw[e1]
  exact⟨by simp,_,rfl,hLF,hbb⟩
 have g3:((cntB B:Int) == 0)=false:=by rw[beq_eq_false_iff_ne];omega
 by_cases hc1:64<cntB B
 ·have g4:(cntB B:Int) > 64:=by omega
  have kbd:Below W3.heap.size W3 V5.drew:=(HB5.out.1).drew
  have k0:V5.drew.cell? ⟨W.heap.size+1+1,0,.none⟩=some (.int .u64 0)∧V5.drew.cell? ⟨W.heap.size+1+1,1,.none⟩=some (.slice .none 0 0):=⟨(kbd.cell (zC HQ.out.n0)).trans HQ.out.n0,(kbd.cell (zC HQ.out.n1)).trans HQ.out.n1⟩
  go_upto_region 11 with fail
  refine wp_region_held_drew (S:=fun U2=>U2.cell? ⟨W.heap.size+1+1,0,.none⟩=some (.int .u64 0)∧U2.cell? ⟨W.heap.size+1+1,1,.none⟩=some (.slice .none 0 0)) (by kernel_rfl) k0 (fun hHeld=>?_)
  refine aT 0 (.agg #[.int .u64 0,.slice .none 0 0]) rfl ?_
  simp only[xX]
  refine zR 1 rfl (fun K hK=>?_)
  go_simp
  go_at_call 118
  refine(no_any 143 56 _).mono ?_
  rintro e V9 ⟨⟨v9,rfl,B9,hB9,rfl,c90,c91⟩,hb9⟩
  have kb9:Below W3.heap.size W3 V9:=kbd.trans (hb9.mono kbd.size)
  have q:=HQ.out.below kb9
  obtain⟨a0,a1,b0,b1,n0,n1,za,zb⟩:=q
  have za0:=za 0
  have za1:=za 1
  have zb0:=zb 0
  have zb1:=zb 1
  have hno:=put4 a0 a1 b0 b1 (.int .u64 0) (.slice .none 0 0) (.slice (some ⟨B9,0,.none⟩) 1 1) (.int .i64 143)
  have k9:V9.cell? ⟨W.heap.size+1+1,0,.none⟩=some (.int .u64 0)∧V9.cell? ⟨W.heap.size+1+1,1,.none⟩=some (.slice .none 0 0):=⟨n0,n1⟩
  have kx:((V9.setCell ⟨W.heap.size,0,.none⟩ (.int .u64 0)).setCell ⟨W.heap.size,1,.none⟩ (.slice .none 0 0)).cell? ⟨W.heap.size+1+1,0,.none⟩=some (.int .u64 0)∧((V9.setCell ⟨W.heap.size,0,.none⟩ (.int .u64 0)).setCell ⟨W.heap.size,1,.none⟩ (.slice .none 0 0)).cell? ⟨W.heap.size+1+1,1,.none⟩=some (.slice .none 0 0):=by
   obtain⟨_,_,_,so,_⟩:=set2 a0 a1 (.int .u64 0) (.slice .none 0 0)
   exact⟨(so _ 0 (by omega)).trans n0,(so _ 1 (by omega)).trans n1⟩
  have ky:((((V9.setCell ⟨W.heap.size,0,.none⟩ (.int .u64 0)).setCell ⟨W.heap.size,1,.none⟩ (.slice .none 0 0)).setCell ⟨W.heap.size+1,0,.none⟩ (.slice (some ⟨B9,0,.none⟩) 1 1)).setCell ⟨W.heap.size+1,1,.none⟩ (.int .i64 143)).cell? ⟨W.heap.size+1+1,0,.none⟩=some (.int .u64 0)∧((((V9.setCell ⟨W.heap.size,0,.none⟩ (.int .u64 0)).setCell ⟨W.heap.size,1,.none⟩ (.slice .none 0 0)).setCell ⟨W.heap.size+1,0,.none⟩ (.slice (some ⟨B9,0,.none⟩) 1 1)).setCell ⟨W.heap.size+1,1,.none⟩ (.int .i64 143)).cell? ⟨W.heap.size+1+1,1,.none⟩=some (.slice .none 0 0):=⟨(hno.2.2.2.2.2.2.1 _ 0 (by omega) (by omega)).trans n0,(hno.2.2.2.2.2.2.1 _ 1 (by omega) (by omega)).trans n1⟩
  have e0:((V9.setCell ⟨W.heap.size,0,.none⟩ (.int .u64 0)).setCell ⟨W.heap.size,1,.none⟩ (.slice .none 0 0)).cell? ⟨W.heap.size+1,0,.none⟩=some (.slice .none 0 0):=(((set2 a0 a1 (.int .u64 0) (.slice .none 0 0)).2.2.2.1 _ 0 (by omega)).trans b0)
  have e1:((V9.setCell ⟨W.heap.size,0,.none⟩ (.int .u64 0)).setCell ⟨W.heap.size,1,.none⟩ (.slice .none 0 0)).cell? ⟨W.heap.size+1,1,.none⟩=some (.int .i64 0):=(((set2 a0 a1 (.int .u64 0) (.slice .none 0 0)).2.2.2.1 _ 1 (by omega)).trans b1)
  refine hK.out _ _ k9 (fun hHeld=>?_)
  clear hK K
  try simp only[xX]
  refine zR 2 rfl (fun K hK=>?_)
  go_simp
  refine hK.out _ _ kx (fun hHeld=>?_)
  clear hK K
  try simp only[xX]
  refine zR 3 rfl (fun K hK=>?_)
  go_simp
  refine hK.out _ _ ky (fun hHeld=>?_)
  clear hK K
  try simp only[xX]
  refine wpAnyH_done (by kernel_rfl) ?_ _
  clear hHeld k0 k9 kx ky e0 e1
  go_wp2_with fail
  have hLF:=LFault.putF (r:=143) a0 a1 b0 b1 hB9 c90 c91 (.int .u64 0) (.slice .none 0 0) (.slice (some ⟨B9,0,.none⟩) 1 1) (.int .i64 143)
  have hbb:=hno.2.2.2.2.2.2.2 W.heap.size W zL (HB3.out.trans (kb9.mono HB3.out.size))
  obtain⟨t0,t1,t2,t3,t4,t5,_,_⟩:=hno
  generalize ((((V9.setCell ⟨W.heap.size,0,.none⟩ (.int .u64 0)).setCell ⟨W.heap.size,1,.none⟩ (.slice .none 0 0)).setCell ⟨W.heap.size+1,0,.none⟩ (.slice (some ⟨B9,0,.none⟩) 1 1)).setCell ⟨W.heap.size+1,1,.none⟩ (.int .i64 143))=W9 at *
  refine bodyPost_ret (v:=.tuple #[(.agg #[.int .u64 0,.slice .none 0 0]),.agg #[(.slice (some ⟨B9,0,.none⟩) 1 1),(.int .i64 143)]]) (by simp[results,Tryz.results64,go_sem,t0,t1,t2,t3,t4,t5]) rfl ?_
  refine .inl ?_
  have e1:=HF1.out
  rw[if_neg (by simpa using HH0.out),if_pos (.inr hc1)] at e1
  rw[e1]
  exact⟨by simp,_,rfl,hLF,hbb⟩
 have g4:¬ (cntB B:Int) > 64:=by omega
 have hbad:¬ (cntB B=0∨64<cntB B):=by omega
 go_wp2_with fail
 refine(value_any b o n c 32 8 B V5 (by omega) hc.1 hc.2 (by omega) hB (HRw.out.keep kW5)).mono ?_
 rintro e w9 ⟨rfl,hw9⟩
 cases hw9
 rw[<-HEf.out]
 go_wp2_with fail
 have c17:=liesQ_any n (froB B) (56*(cntB B:Int)) V5 (by omega) ⟨by omega,by omega⟩ ⟨by omega,by omega⟩
 refine c17.mono ?_
 rintro e w9 ⟨rfl,hw9⟩
 cases hw9
 clear c17
 by_cases hfit:froB B+cntB B*56<=n
 rotate_left
 ·rw[show decide ((froB B:Int)+56*(cntB B:Int)<=n)=false by simp;omega]
  have kbd:Below W3.heap.size W3 V5.drew:=(HB5.out.1).drew
  have k0:V5.drew.cell? ⟨W.heap.size+1+1,0,.none⟩=some (.int .u64 0)∧V5.drew.cell? ⟨W.heap.size+1+1,1,.none⟩=some (.slice .none 0 0):=⟨(kbd.cell (zC HQ.out.n0)).trans HQ.out.n0,(kbd.cell (zC HQ.out.n1)).trans HQ.out.n1⟩
  go_upto_region 14 with fail
  refine wp_region_held_drew (S:=fun U2=>U2.cell? ⟨W.heap.size+1+1,0,.none⟩=some (.int .u64 0)∧U2.cell? ⟨W.heap.size+1+1,1,.none⟩=some (.slice .none 0 0)) (by kernel_rfl) k0 (fun hHeld=>?_)
  refine aT 0 (.agg #[.int .u64 0,.slice .none 0 0]) rfl ?_
  simp only[xX]
  refine zR 1 rfl (fun K hK=>?_)
  go_simp
  go_at_call 118
  refine(no_any 140 32 _).mono ?_
  rintro e V9 ⟨⟨v9,rfl,B9,hB9,rfl,c90,c91⟩,hb9⟩
  have kb9:Below W3.heap.size W3 V9:=kbd.trans (hb9.mono kbd.size)
  have q:=HQ.out.below kb9
  obtain⟨a0,a1,b0,b1,n0,n1,za,zb⟩:=q
  have za0:=za 0
  have za1:=za 1
  have zb0:=zb 0
  have zb1:=zb 1
  have hno:=put4 a0 a1 b0 b1 (.int .u64 0) (.slice .none 0 0) (.slice (some ⟨B9,0,.none⟩) 1 1) (.int .i64 140)
  have k9:V9.cell? ⟨W.heap.size+1+1,0,.none⟩=some (.int .u64 0)∧V9.cell? ⟨W.heap.size+1+1,1,.none⟩=some (.slice .none 0 0):=⟨n0,n1⟩
  have kx:((V9.setCell ⟨W.heap.size,0,.none⟩ (.int .u64 0)).setCell ⟨W.heap.size,1,.none⟩ (.slice .none 0 0)).cell? ⟨W.heap.size+1+1,0,.none⟩=some (.int .u64 0)∧((V9.setCell ⟨W.heap.size,0,.none⟩ (.int .u64 0)).setCell ⟨W.heap.size,1,.none⟩ (.slice .none 0 0)).cell? ⟨W.heap.size+1+1,1,.none⟩=some (.slice .none 0 0):=by
   obtain⟨_,_,_,so,_⟩:=set2 a0 a1 (.int .u64 0) (.slice .none 0 0)
   exact⟨(so _ 0 (by omega)).trans n0,(so _ 1 (by omega)).trans n1⟩
  have ky:((((V9.setCell ⟨W.heap.size,0,.none⟩ (.int .u64 0)).setCell ⟨W.heap.size,1,.none⟩ (.slice .none 0 0)).setCell ⟨W.heap.size+1,0,.none⟩ (.slice (some ⟨B9,0,.none⟩) 1 1)).setCell ⟨W.heap.size+1,1,.none⟩ (.int .i64 140)).cell? ⟨W.heap.size+1+1,0,.none⟩=some (.int .u64 0)∧((((V9.setCell ⟨W.heap.size,0,.none⟩ (.int .u64 0)).setCell ⟨W.heap.size,1,.none⟩ (.slice .none 0 0)).setCell ⟨W.heap.size+1,0,.none⟩ (.slice (some ⟨B9,0,.none⟩) 1 1)).setCell ⟨W.heap.size+1,1,.none⟩ (.int .i64 140)).cell? ⟨W.heap.size+1+1,1,.none⟩=some (.slice .none 0 0):=⟨(hno.2.2.2.2.2.2.1 _ 0 (by omega) (by omega)).trans n0,(hno.2.2.2.2.2.2.1 _ 1 (by omega) (by omega)).trans n1⟩
  have e0:((V9.setCell ⟨W.heap.size,0,.none⟩ (.int .u64 0)).setCell ⟨W.heap.size,1,.none⟩ (.slice .none 0 0)).cell? ⟨W.heap.size+1,0,.none⟩=some (.slice .none 0 0):=(((set2 a0 a1 (.int .u64 0) (.slice .none 0 0)).2.2.2.1 _ 0 (by omega)).trans b0)
  have e1:((V9.setCell ⟨W.heap.size,0,.none⟩ (.int .u64 0)).setCell ⟨W.heap.size,1,.none⟩ (.slice .none 0 0)).cell? ⟨W.heap.size+1,1,.none⟩=some (.int .i64 0):=(((set2 a0 a1 (.int .u64 0) (.slice .none 0 0)).2.2.2.1 _ 1 (by omega)).trans b1)
  refine hK.out _ _ k9 (fun hHeld=>?_)
  clear hK K
  try simp only[xX]
  refine zR 2 rfl (fun K hK=>?_)
  go_simp
  refine hK.out _ _ kx (fun hHeld=>?_)
  clear hK K
  try simp only[xX]
  refine zR 3 rfl (fun K hK=>?_)
  go_simp
  refine hK.out _ _ ky (fun hHeld=>?_)
  clear hK K
  try simp only[xX]
  refine wpAnyH_done (by kernel_rfl) ?_ _
  clear hHeld k0 k9 kx ky e0 e1
  go_wp2_with fail
  have hLF:=LFault.putF (r:=140) a0 a1 b0 b1 hB9 c90 c91 (.int .u64 0) (.slice .none 0 0) (.slice (some ⟨B9,0,.none⟩) 1 1) (.int .i64 140)
  have hbb:=hno.2.2.2.2.2.2.2 W.heap.size W zL (HB3.out.trans (kb9.mono HB3.out.size))
  obtain⟨t0,t1,t2,t3,t4,t5,_,_⟩:=hno
  generalize ((((V9.setCell ⟨W.heap.size,0,.none⟩ (.int .u64 0)).setCell ⟨W.heap.size,1,.none⟩ (.slice .none 0 0)).setCell ⟨W.heap.size+1,0,.none⟩ (.slice (some ⟨B9,0,.none⟩) 1 1)).setCell ⟨W.heap.size+1,1,.none⟩ (.int .i64 140))=W9 at *
  refine bodyPost_ret (v:=.tuple #[(.agg #[.int .u64 0,.slice .none 0 0]),.agg #[(.slice (some ⟨B9,0,.none⟩) 1 1),(.int .i64 140)]]) (by simp[results,Tryz.results64,go_sem,t0,t1,t2,t3,t4,t5]) rfl ?_
  refine .inl ?_
  have e1:=HF1.out
  rw[if_neg (by simpa using HH0.out),if_neg hbad,if_pos hfit] at e1
  rw[e1]
  exact⟨by simp,_,rfl,hLF,hbb⟩
 rw[show decide ((froB B:Int)+56*(cntB B:Int)<=n)=true by simp;omega]
 go_wp2_with fail
 refine(value_any b o n c 24 8 B V5 (by omega) hc.1 hc.2 (by omega) hB (HRw.out.keep kW5)).mono ?_
 rintro e w9 ⟨rfl,hw9⟩
 cases hw9
 have HX0:Hid (Lq V5 (V5.alloc (.cells #[.int .u64 (num B 24 8),.slice .none 0 0] 41)) B (num B 24 8) [] none 0):=⟨by simp,by simp,World.frozen?_alloc_new _ _ _ _,⟨World.ownsRow_nil _ _ _ _,fun x hx=>by simp at hx,fun x hx=>by simp at hx⟩,zB.alloc zL _,by simp only[World.size_alloc];exact Nat.le_refl _,by simp⟩
 go_upto_block 0 with fail
 generalize (V5.alloc (.cells #[.int .u64 (num B 24 8),.slice .none 0 0] 41))=VX at *
 go_cut [9,10,11] (fun _ _ _ wx=>∃ E q cs,Hid (lp n B (cntB B) (froB B) []=((0,0),E.map (·.1)))∧Hid (Lq V5 wx B (num B 24 8) E q cs))
 case first=>
  go_wp2_with fail
  go_loopw [9] (fun i wr=>∃ (k:Nat) (E:List (Sg×Value)) (q:Option Addr) (cs:Nat),k<=cntB B∧i = .int .i64 k∧Hid (lp n B (cntB B) (froB B) []=lp n B (cntB B-k) (froB B+k*56) (E.map (·.1)))∧Hid (Lq V5 wr B (num B 24 8) E q cs)) (fun i _=>(cntB B-intOf i).toNat)
  case atStart=>exact⟨0,[],none,0,Nat.zero_le _,rfl,by simp[Hid],HX0⟩
  case round=>
   obtain⟨k,E,q,cs,hk,rfl,HLp,HR⟩:=hrel
   by_cases hlt:k<cntB B
   ·have g5:(k:Int)<cntB B:=by omega
    have HCa:Hid (((froB B+k*56:Nat):Int)=(froB B:Int)+(k:Int)*56):=by show _=_;omega
    have hcm:(froB B:Int)+56*(k:Int)=(froB B:Int)+(k:Int)*56:=by omega
    have kWr:Below W.heap.size W wr:=kW5.trans (HR.out.be.mono kW5.size)
    have kb3:Below W3.heap.size W3 wr:=HB5.out.1.trans (HR.out.be.mono HB5.out.1.size)
    obtain⟨m,hm⟩:∃ m,cntB B-k=m+1:=⟨cntB B-k-1,by omega⟩
    go_wp2_with fail
    have c16:=value_any b o n c (froB B+k*56) 4 B wr (by omega) hc.1 hc.2 (by omega) hB (HRw.out.keep kWr)
    rw[HCa.out] at c16
    refine c16.mono ?_
    clear c16 hcm
    rintro e w9 ⟨rfl,hw9⟩
    cases hw9
    by_cases ht:num B (froB B+k*56) 4=1
    rotate_left
    ·have htb:(num B (froB B+k*56) 4 != 1)=true:=by simpa using ht
     have HLn:Hid (lp n B (cntB B) (froB B) []=lp n B (cntB B-(k+1)) (froB B+(k+1)*56) (E.map (·.1))):=by
      have e2:=HLp.out
      have e3:stp n B (E.map (·.1)) (froB B+k*56)=(0,E.map (·.1)):=by unfold stp;rw[if_pos (by simpa using ht)]
      rw[hm,lp,e3,if_neg (by simp)] at e2
      rw[show cntB B-(k+1)=m by omega,show froB B+(k+1)*56=froB B+k*56+56 by omega]
      exact e2
     clear ht
     go_wp2_with fail
     exact⟨⟨k+1,E,q,cs,by omega,by simp,HLn,HR⟩,by simp[intOf];omega⟩
    have htb:(num B (froB B+k*56) 4 != 1)=false:=by simpa using ht
    have c18:=load_any (w:=wr) (HRw.out.keep kWr) hB hc (by omega) HR.out.sg HR.out.hx HR.out.ln (froB B+k*56) (by omega) ht
    rw[HCa.out] at c18
    clear ht
    have y1:=HR.out.c1
    go_wp2_with fail
    refine c18.mono ?_
    rintro e wl ⟨sv',E',rfl,hE',hS',hl',hb'⟩
    clear y1
    obtain⟨q',cs',rfl,_⟩:=own_form hS'.own
    have z1:=(hb'.cell (p:=⟨V5.heap.size,1,.none⟩) (Nat.lt_succ_self _)).trans HR.out.c1
    have z2:=(hb'.frozen (p:=⟨V5.heap.size,1,.none⟩) (Nat.lt_succ_self _)).trans HR.out.z1
    have HRn:Hid (Lq V5 (wl.setCell ⟨V5.heap.size,1,.none⟩ (.slice q' E'.length cs')) B (num B 24 8) E' q' cs'):=HR.out.put hb' hS' hl'
    by_cases hs1:(stp n B (E.map (·.1)) (froB B+k*56)).1=0
    ·have hs1b:((stp n B (E.map (·.1)) (froB B+k*56)).1 != 0)=false:=by simpa using hs1
     have HLn:Hid (lp n B (cntB B) (froB B) []=lp n B (cntB B-(k+1)) (froB B+(k+1)*56) (E'.map (·.1))):=by
      have e2:=HLp.out
      rw[hm,lp,if_neg (by simpa using hs1),<-hE'] at e2
      rw[show cntB B-(k+1)=m by omega,show froB B+(k+1)*56=froB B+k*56+56 by omega]
      exact e2
     clear hs1 hE' hS' hb' c18 HLp HR
     go_wp2_with fail
     exact⟨⟨k+1,E',q',cs',by omega,by simp,HLn,HRn⟩,by simp[intOf];omega⟩
    ·have hs1b:((stp n B (E.map (·.1)) (froB B+k*56)).1 != 0)=true:=by simpa using hs1
     have e2:=HLp.out
     rw[hm,lp,if_pos hs1] at e2
     have HE2:Hid (lp n B (cntB B) (froB B) []=((((froB B+k*56:Nat):Int),(stp n B (E.map (·.1)) (froB B+k*56)).1),[])):=e2
     have kbn:Below W3.heap.size W3 (wl.setCell ⟨V5.heap.size,1,.none⟩ (.slice q' E'.length cs')):=HB5.out.1.trans (HRn.out.be.mono HB5.out.1.size)
     have HS1:Hid ((stp n B (E.map (·.1)) (froB B+k*56)).1≠0):=hs1
     clear e2 hs1 hE' hS' hb' c18 HLp HR
     go_upto_region 24 with fail
     clear z1 z2
     generalize (wl.setCell ⟨V5.heap.size,1,.none⟩ (.slice q' E'.length cs'))=wm at *
     have kbd:Below W3.heap.size W3 wm.drew:=(kbn).drew
     have k0:wm.drew.cell? ⟨W.heap.size+1+1,0,.none⟩=some (.int .u64 0)∧wm.drew.cell? ⟨W.heap.size+1+1,1,.none⟩=some (.slice .none 0 0):=⟨(kbd.cell (zC HQ.out.n0)).trans HQ.out.n0,(kbd.cell (zC HQ.out.n1)).trans HQ.out.n1⟩
     go_upto_region 24 with fail
     refine wp_region_held_drew (S:=fun U2=>U2.cell? ⟨W.heap.size+1+1,0,.none⟩=some (.int .u64 0)∧U2.cell? ⟨W.heap.size+1+1,1,.none⟩=some (.slice .none 0 0)) (by kernel_rfl) k0 (fun hHeld=>?_)
     refine aT 0 (.agg #[.int .u64 0,.slice .none 0 0]) rfl ?_
     simp only[xX]
     refine aT 1 (.int .i64 (stp n B (E.map (·.1)) (froB B+k*56)).1) rfl ?_
     simp only[xX]
     refine aT 2 (.int .i64 ((froB B:Int)+(k:Int)*56)) rfl ?_
     simp only[xX]
     refine zR 3 rfl (fun K hK=>?_)
     go_simp
     go_at_call 118
     refine(no_any (stp n B (E.map (·.1)) (froB B+k*56)).1 ((froB B:Int)+(k:Int)*56) _).mono ?_
     rintro e V9 ⟨⟨v9,rfl,B9,hB9,rfl,c90,c91⟩,hb9⟩
     have kb9:Below W3.heap.size W3 V9:=kbd.trans (hb9.mono kbd.size)
     have q:=HQ.out.below kb9
     obtain⟨a0,a1,b0,b1,n0,n1,za,zb⟩:=q
     have za0:=za 0
     have za1:=za 1
     have zb0:=zb 0
     have zb1:=zb 1
     have hno:=put4 a0 a1 b0 b1 (.int .u64 0) (.slice .none 0 0) (.slice (some ⟨B9,0,.none⟩) 1 1) (.int .i64 (stp n B (E.map (·.1)) (froB B+k*56)).1)
     have k9:V9.cell? ⟨W.heap.size+1+1,0,.none⟩=some (.int .u64 0)∧V9.cell? ⟨W.heap.size+1+1,1,.none⟩=some (.slice .none 0 0):=⟨n0,n1⟩
     have kx:((V9.setCell ⟨W.heap.size,0,.none⟩ (.int .u64 0)).setCell ⟨W.heap.size,1,.none⟩ (.slice .none 0 0)).cell? ⟨W.heap.size+1+1,0,.none⟩=some (.int .u64 0)∧((V9.setCell ⟨W.heap.size,0,.none⟩ (.int .u64 0)).setCell ⟨W.heap.size,1,.none⟩ (.slice .none 0 0)).cell? ⟨W.heap.size+1+1,1,.none⟩=some (.slice .none 0 0):=by
      obtain⟨_,_,_,so,_⟩:=set2 a0 a1 (.int .u64 0) (.slice .none 0 0)
      exact⟨(so _ 0 (by omega)).trans n0,(so _ 1 (by omega)).trans n1⟩
     have ky:((((V9.setCell ⟨W.heap.size,0,.none⟩ (.int .u64 0)).setCell ⟨W.heap.size,1,.none⟩ (.slice .none 0 0)).setCell ⟨W.heap.size+1,0,.none⟩ (.slice (some ⟨B9,0,.none⟩) 1 1)).setCell ⟨W.heap.size+1,1,.none⟩ (.int .i64 (stp n B (E.map (·.1)) (froB B+k*56)).1)).cell? ⟨W.heap.size+1+1,0,.none⟩=some (.int .u64 0)∧((((V9.setCell ⟨W.heap.size,0,.none⟩ (.int .u64 0)).setCell ⟨W.heap.size,1,.none⟩ (.slice .none 0 0)).setCell ⟨W.heap.size+1,0,.none⟩ (.slice (some ⟨B9,0,.none⟩) 1 1)).setCell ⟨W.heap.size+1,1,.none⟩ (.int .i64 (stp n B (E.map (·.1)) (froB B+k*56)).1)).cell? ⟨W.heap.size+1+1,1,.none⟩=some (.slice .none 0 0):=⟨(hno.2.2.2.2.2.2.1 _ 0 (by omega) (by omega)).trans n0,(hno.2.2.2.2.2.2.1 _ 1 (by omega) (by omega)).trans n1⟩
     have e0:((V9.setCell ⟨W.heap.size,0,.none⟩ (.int .u64 0)).setCell ⟨W.heap.size,1,.none⟩ (.slice .none 0 0)).cell? ⟨W.heap.size+1,0,.none⟩=some (.slice .none 0 0):=(((set2 a0 a1 (.int .u64 0) (.slice .none 0 0)).2.2.2.1 _ 0 (by omega)).trans b0)
     have e1:((V9.setCell ⟨W.heap.size,0,.none⟩ (.int .u64 0)).setCell ⟨W.heap.size,1,.none⟩ (.slice .none 0 0)).cell? ⟨W.heap.size+1,1,.none⟩=some (.int .i64 0):=(((set2 a0 a1 (.int .u64 0) (.slice .none 0 0)).2.2.2.1 _ 1 (by omega)).trans b1)
     refine hK.out _ _ k9 (fun hHeld=>?_)
     clear hK K
     try simp only[xX]
     refine zR 4 rfl (fun K hK=>?_)
     go_simp
     refine hK.out _ _ kx (fun hHeld=>?_)
     clear hK K
     try simp only[xX]
     refine zR 5 rfl (fun K hK=>?_)
     go_simp
     refine hK.out _ _ ky (fun hHeld=>?_)
     clear hK K
     try simp only[xX]
     refine wpAnyH_done (by kernel_rfl) ?_ _
     clear hHeld k0 k9 kx ky e0 e1
     go_wp2_with fail
     have hLF:=LFault.putF (r:=(stp n B (E.map (·.1)) (froB B+k*56)).1) a0 a1 b0 b1 hB9 c90 c91 (.int .u64 0) (.slice .none 0 0) (.slice (some ⟨B9,0,.none⟩) 1 1) (.int .i64 (stp n B (E.map (·.1)) (froB B+k*56)).1)
     have hbb:=hno.2.2.2.2.2.2.2 W.heap.size W zL (HB3.out.trans (kb9.mono HB3.out.size))
     obtain⟨t0,t1,t2,t3,t4,t5,_,_⟩:=hno
     generalize ((((V9.setCell ⟨W.heap.size,0,.none⟩ (.int .u64 0)).setCell ⟨W.heap.size,1,.none⟩ (.slice .none 0 0)).setCell ⟨W.heap.size+1,0,.none⟩ (.slice (some ⟨B9,0,.none⟩) 1 1)).setCell ⟨W.heap.size+1,1,.none⟩ (.int .i64 (stp n B (E.map (·.1)) (froB B+k*56)).1))=W9 at *
     refine bodyPost_ret (v:=.tuple #[(.agg #[.int .u64 0,.slice .none 0 0]),.agg #[(.slice (some ⟨B9,0,.none⟩) 1 1),(.int .i64 (stp n B (E.map (·.1)) (froB B+k*56)).1)]]) (by simp[results,Tryz.results64,go_sem,t0,t1,t2,t3,t4,t5]) rfl ?_
     refine .inl ?_
     have e1:=HF1.out
     rw[if_neg (by simpa using HH0.out),if_neg hbad,if_neg (by simpa using hfit),if_pos (by rw[HE2.out];exact HS1.out)] at e1
     rw[e1,HE2.out]
     exact⟨HS1.out,_,rfl,by rw[HCa.out];exact hLF,hbb⟩
   ·have hn9:¬ ((k:Int)<cntB B):=by omega
    have e2:Hid (lp n B (cntB B) (froB B) []=((0,0),E.map (·.1))):=by
     have e3:=HLp.out
     rw[show cntB B-k=0 by omega,lp] at e3
     exact e3
    go_wp2_with fail
    go_meet
    case rel=>exact⟨E,q,cs,e2,HR⟩
 case rest=>
   obtain⟨E,q,cs,HLp,HR⟩:=hcut
   have HF2:Hid (rdF n B ha hr=if E.length=0 then ((56,143),[]) else if hasE (E.map (·.1)) (num B 24 8)=false then ((24,146),[]) else ((0,0),E.map (·.1))):=by
    have e1:=HF1.out
    rw[if_neg (by simpa using HH0.out),if_neg hbad,if_neg (by simpa using hfit),HLp.out,if_neg (by simp),List.length_map] at e1
    exact e1
   clear HF1 HLp HX0
   have kbc:Below W3.heap.size W3 wc:=HB5.out.1.trans (HR.out.be.mono HB5.out.1.size)
   have y0:=HR.out.c0
   have y1:=HR.out.c1
   by_cases h0:E.length=0
   ·have g0:((E.length:Int) == 0)=true:=by rw[beq_iff_eq];omega
    have H0:Hid (E.length=0):=h0
    clear h0
    have kbd:Below W3.heap.size W3 wc.drew:=(kbc).drew
    have k0:wc.drew.cell? ⟨W.heap.size+1+1,0,.none⟩=some (.int .u64 0)∧wc.drew.cell? ⟨W.heap.size+1+1,1,.none⟩=some (.slice .none 0 0):=⟨(kbd.cell (zC HQ.out.n0)).trans HQ.out.n0,(kbd.cell (zC HQ.out.n1)).trans HQ.out.n1⟩
    go_upto_region 26 with fail
    refine wp_region_held_drew (S:=fun U2=>U2.cell? ⟨W.heap.size+1+1,0,.none⟩=some (.int .u64 0)∧U2.cell? ⟨W.heap.size+1+1,1,.none⟩=some (.slice .none 0 0)) (by kernel_rfl) k0 (fun hHeld=>?_)
    refine aT 0 (.agg #[.int .u64 0,.slice .none 0 0]) rfl ?_
    simp only[xX]
    refine zR 1 rfl (fun K hK=>?_)
    go_simp
    go_at_call 118
    refine(no_any 143 56 _).mono ?_
    rintro e V9 ⟨⟨v9,rfl,B9,hB9,rfl,c90,c91⟩,hb9⟩
    have kb9:Below W3.heap.size W3 V9:=kbd.trans (hb9.mono kbd.size)
    have q:=HQ.out.below kb9
    obtain⟨a0,a1,b0,b1,n0,n1,za,zb⟩:=q
    have za0:=za 0
    have za1:=za 1
    have zb0:=zb 0
    have zb1:=zb 1
    have hno:=put4 a0 a1 b0 b1 (.int .u64 0) (.slice .none 0 0) (.slice (some ⟨B9,0,.none⟩) 1 1) (.int .i64 143)
    have k9:V9.cell? ⟨W.heap.size+1+1,0,.none⟩=some (.int .u64 0)∧V9.cell? ⟨W.heap.size+1+1,1,.none⟩=some (.slice .none 0 0):=⟨n0,n1⟩
    have kx:((V9.setCell ⟨W.heap.size,0,.none⟩ (.int .u64 0)).setCell ⟨W.heap.size,1,.none⟩ (.slice .none 0 0)).cell? ⟨W.heap.size+1+1,0,.none⟩=some (.int .u64 0)∧((V9.setCell ⟨W.heap.size,0,.none⟩ (.int .u64 0)).setCell ⟨W.heap.size,1,.none⟩ (.slice .none 0 0)).cell? ⟨W.heap.size+1+1,1,.none⟩=some (.slice .none 0 0):=by
     obtain⟨_,_,_,so,_⟩:=set2 a0 a1 (.int .u64 0) (.slice .none 0 0)
     exact⟨(so _ 0 (by omega)).trans n0,(so _ 1 (by omega)).trans n1⟩
    have ky:((((V9.setCell ⟨W.heap.size,0,.none⟩ (.int .u64 0)).setCell ⟨W.heap.size,1,.none⟩ (.slice .none 0 0)).setCell ⟨W.heap.size+1,0,.none⟩ (.slice (some ⟨B9,0,.none⟩) 1 1)).setCell ⟨W.heap.size+1,1,.none⟩ (.int .i64 143)).cell? ⟨W.heap.size+1+1,0,.none⟩=some (.int .u64 0)∧((((V9.setCell ⟨W.heap.size,0,.none⟩ (.int .u64 0)).setCell ⟨W.heap.size,1,.none⟩ (.slice .none 0 0)).setCell ⟨W.heap.size+1,0,.none⟩ (.slice (some ⟨B9,0,.none⟩) 1 1)).setCell ⟨W.heap.size+1,1,.none⟩ (.int .i64 143)).cell? ⟨W.heap.size+1+1,1,.none⟩=some (.slice .none 0 0):=⟨(hno.2.2.2.2.2.2.1 _ 0 (by omega) (by omega)).trans n0,(hno.2.2.2.2.2.2.1 _ 1 (by omega) (by omega)).trans n1⟩
    have e0:((V9.setCell ⟨W.heap.size,0,.none⟩ (.int .u64 0)).setCell ⟨W.heap.size,1,.none⟩ (.slice .none 0 0)).cell? ⟨W.heap.size+1,0,.none⟩=some (.slice .none 0 0):=(((set2 a0 a1 (.int .u64 0) (.slice .none 0 0)).2.2.2.1 _ 0 (by omega)).trans b0)
    have e1:((V9.setCell ⟨W.heap.size,0,.none⟩ (.int .u64 0)).setCell ⟨W.heap.size,1,.none⟩ (.slice .none 0 0)).cell? ⟨W.heap.size+1,1,.none⟩=some (.int .i64 0):=(((set2 a0 a1 (.int .u64 0) (.slice .none 0 0)).2.2.2.1 _ 1 (by omega)).trans b1)
    refine hK.out _ _ k9 (fun hHeld=>?_)
    clear hK K
    try simp only[xX]
    refine zR 2 rfl (fun K hK=>?_)
    go_simp
    refine hK.out _ _ kx (fun hHeld=>?_)
    clear hK K
    try simp only[xX]
    refine zR 3 rfl (fun K hK=>?_)
    go_simp
    refine hK.out _ _ ky (fun hHeld=>?_)
    clear hK K
    try simp only[xX]
    refine wpAnyH_done (by kernel_rfl) ?_ _
    clear hHeld k0 k9 kx ky e0 e1
    go_wp2_with fail
    have hLF:=LFault.putF (r:=143) a0 a1 b0 b1 hB9 c90 c91 (.int .u64 0) (.slice .none 0 0) (.slice (some ⟨B9,0,.none⟩) 1 1) (.int .i64 143)
    have hbb:=hno.2.2.2.2.2.2.2 W.heap.size W zL (HB3.out.trans (kb9.mono HB3.out.size))
    obtain⟨t0,t1,t2,t3,t4,t5,_,_⟩:=hno
    generalize ((((V9.setCell ⟨W.heap.size,0,.none⟩ (.int .u64 0)).setCell ⟨W.heap.size,1,.none⟩ (.slice .none 0 0)).setCell ⟨W.heap.size+1,0,.none⟩ (.slice (some ⟨B9,0,.none⟩) 1 1)).setCell ⟨W.heap.size+1,1,.none⟩ (.int .i64 143))=W9 at *
    refine bodyPost_ret (v:=.tuple #[(.agg #[.int .u64 0,.slice .none 0 0]),.agg #[(.slice (some ⟨B9,0,.none⟩) 1 1),(.int .i64 143)]]) (by simp[results,Tryz.results64,go_sem,t0,t1,t2,t3,t4,t5]) rfl ?_
    refine .inl ?_
    rw[HF2.out,if_pos H0.out]
    exact⟨by simp,_,rfl,hLF,hbb⟩
   have g0:((E.length:Int) == 0)=false:=by rw[beq_eq_false_iff_ne];omega
   have c19:=inside_any HR.out.sg HR.out.ln (num B 24 8) (by have:=num_bd B hB 24 8;rw[pow8] at this;exact this)
   cases hh:hasE (E.map (·.1)) (num B 24 8) with
   |false=>
     rw[hh] at c19
     go_wp2_with fail
     refine c19.mono ?_
     rintro e V7 ⟨rfl,hb7⟩
     have kb7:Below W3.heap.size W3 V7:=kbc.trans (hb7.mono kbc.size)
     clear y0 y1
     have kbd:Below W3.heap.size W3 V7.drew:=(kb7).drew
     have k0:V7.drew.cell? ⟨W.heap.size+1+1,0,.none⟩=some (.int .u64 0)∧V7.drew.cell? ⟨W.heap.size+1+1,1,.none⟩=some (.slice .none 0 0):=⟨(kbd.cell (zC HQ.out.n0)).trans HQ.out.n0,(kbd.cell (zC HQ.out.n1)).trans HQ.out.n1⟩
     go_upto_region 28 with fail
     refine wp_region_held_drew (S:=fun U2=>U2.cell? ⟨W.heap.size+1+1,0,.none⟩=some (.int .u64 0)∧U2.cell? ⟨W.heap.size+1+1,1,.none⟩=some (.slice .none 0 0)) (by kernel_rfl) k0 (fun hHeld=>?_)
     refine aT 0 (.agg #[.int .u64 0,.slice .none 0 0]) rfl ?_
     simp only[xX]
     refine zR 1 rfl (fun K hK=>?_)
     go_simp
     go_at_call 118
     refine(no_any 146 24 _).mono ?_
     rintro e V9 ⟨⟨v9,rfl,B9,hB9,rfl,c90,c91⟩,hb9⟩
     have kb9:Below W3.heap.size W3 V9:=kbd.trans (hb9.mono kbd.size)
     have q:=HQ.out.below kb9
     obtain⟨a0,a1,b0,b1,n0,n1,za,zb⟩:=q
     have za0:=za 0
     have za1:=za 1
     have zb0:=zb 0
     have zb1:=zb 1
     have hno:=put4 a0 a1 b0 b1 (.int .u64 0) (.slice .none 0 0) (.slice (some ⟨B9,0,.none⟩) 1 1) (.int .i64 146)
     have k9:V9.cell? ⟨W.heap.size+1+1,0,.none⟩=some (.int .u64 0)∧V9.cell? ⟨W.heap.size+1+1,1,.none⟩=some (.slice .none 0 0):=⟨n0,n1⟩
     have kx:((V9.setCell ⟨W.heap.size,0,.none⟩ (.int .u64 0)).setCell ⟨W.heap.size,1,.none⟩ (.slice .none 0 0)).cell? ⟨W.heap.size+1+1,0,.none⟩=some (.int .u64 0)∧((V9.setCell ⟨W.heap.size,0,.none⟩ (.int .u64 0)).setCell ⟨W.heap.size,1,.none⟩ (.slice .none 0 0)).cell? ⟨W.heap.size+1+1,1,.none⟩=some (.slice .none 0 0):=by
      obtain⟨_,_,_,so,_⟩:=set2 a0 a1 (.int .u64 0) (.slice .none 0 0)
      exact⟨(so _ 0 (by omega)).trans n0,(so _ 1 (by omega)).trans n1⟩
     have ky:((((V9.setCell ⟨W.heap.size,0,.none⟩ (.int .u64 0)).setCell ⟨W.heap.size,1,.none⟩ (.slice .none 0 0)).setCell ⟨W.heap.size+1,0,.none⟩ (.slice (some ⟨B9,0,.none⟩) 1 1)).setCell ⟨W.heap.size+1,1,.none⟩ (.int .i64 146)).cell? ⟨W.heap.size+1+1,0,.none⟩=some (.int .u64 0)∧((((V9.setCell ⟨W.heap.size,0,.none⟩ (.int .u64 0)).setCell ⟨W.heap.size,1,.none⟩ (.slice .none 0 0)).setCell ⟨W.heap.size+1,0,.none⟩ (.slice (some ⟨B9,0,.none⟩) 1 1)).setCell ⟨W.heap.size+1,1,.none⟩ (.int .i64 146)).cell? ⟨W.heap.size+1+1,1,.none⟩=some (.slice .none 0 0):=⟨(hno.2.2.2.2.2.2.1 _ 0 (by omega) (by omega)).trans n0,(hno.2.2.2.2.2.2.1 _ 1 (by omega) (by omega)).trans n1⟩
     have e0:((V9.setCell ⟨W.heap.size,0,.none⟩ (.int .u64 0)).setCell ⟨W.heap.size,1,.none⟩ (.slice .none 0 0)).cell? ⟨W.heap.size+1,0,.none⟩=some (.slice .none 0 0):=(((set2 a0 a1 (.int .u64 0) (.slice .none 0 0)).2.2.2.1 _ 0 (by omega)).trans b0)
     have e1:((V9.setCell ⟨W.heap.size,0,.none⟩ (.int .u64 0)).setCell ⟨W.heap.size,1,.none⟩ (.slice .none 0 0)).cell? ⟨W.heap.size+1,1,.none⟩=some (.int .i64 0):=(((set2 a0 a1 (.int .u64 0) (.slice .none 0 0)).2.2.2.1 _ 1 (by omega)).trans b1)
     refine hK.out _ _ k9 (fun hHeld=>?_)
     clear hK K
     try simp only[xX]
     refine zR 2 rfl (fun K hK=>?_)
     go_simp
     refine hK.out _ _ kx (fun hHeld=>?_)
     clear hK K
     try simp only[xX]
     refine zR 3 rfl (fun K hK=>?_)
     go_simp
     refine hK.out _ _ ky (fun hHeld=>?_)
     clear hK K
     try simp only[xX]
     refine wpAnyH_done (by kernel_rfl) ?_ _
     clear hHeld k0 k9 kx ky e0 e1
     go_wp2_with fail
     have hLF:=LFault.putF (r:=146) a0 a1 b0 b1 hB9 c90 c91 (.int .u64 0) (.slice .none 0 0) (.slice (some ⟨B9,0,.none⟩) 1 1) (.int .i64 146)
     have hbb:=hno.2.2.2.2.2.2.2 W.heap.size W zL (HB3.out.trans (kb9.mono HB3.out.size))
     obtain⟨t0,t1,t2,t3,t4,t5,_,_⟩:=hno
     generalize ((((V9.setCell ⟨W.heap.size,0,.none⟩ (.int .u64 0)).setCell ⟨W.heap.size,1,.none⟩ (.slice .none 0 0)).setCell ⟨W.heap.size+1,0,.none⟩ (.slice (some ⟨B9,0,.none⟩) 1 1)).setCell ⟨W.heap.size+1,1,.none⟩ (.int .i64 146))=W9 at *
     refine bodyPost_ret (v:=.tuple #[(.agg #[.int .u64 0,.slice .none 0 0]),.agg #[(.slice (some ⟨B9,0,.none⟩) 1 1),(.int .i64 146)]]) (by simp[results,Tryz.results64,go_sem,t0,t1,t2,t3,t4,t5]) rfl ?_
     refine .inl ?_
     rw[HF2.out,if_neg h0,if_pos hh]
     exact⟨by simp,_,rfl,hLF,hbb⟩
   |true=>
     rw[hh] at c19
     go_wp2_with fail
     refine c19.mono ?_
     rintro e V7 ⟨rfl,hb7⟩
     have kb7:Below W3.heap.size W3 V7:=kbc.trans (hb7.mono kbc.size)
     have x0:=(hb7.cell (zC y0)).trans y0
     have x1:=(hb7.cell (zC y1)).trans y1
     have HS7:Hid (Segs V7 (V5.heap.size+1) (.slice q E.length cs) E B):=HR.out.sg.below hb7
     have k57:Below V5.heap.size V5 V7:=HR.out.be.trans (hb7.mono HR.out.be.size)
     have k47:Below V4.heap.size V4 V7:=HB5.out.2.trans (k57.mono HB5.out.2.size)
     have f0:=(k47.cell (zC HF4.out.1)).trans HF4.out.1
     have f1:=(k47.cell (zC HF4.out.2)).trans HF4.out.2
     have l5:W3.heap.size<=V5.heap.size:=HB5.out.1.size
     clear y0 y1 hb7
     have k0:(V7.drew.cell? ⟨V5.heap.size,0,.none⟩=some (.int .u64 (num B 24 8))∧V7.drew.cell? ⟨V5.heap.size,1,.none⟩=some (.slice q E.length cs))∧V7.drew.cell? ⟨r4,0,.none⟩=some (.slice gp gn gc)∧V7.drew.cell? ⟨r4,1,.none⟩=some (.int .i64 hr):=⟨⟨x0,x1⟩,f0,f1⟩
     obtain⟨a0,a1,b0,b1,n0,n1,za,zb⟩:=HQ.out.below kb7
     have za0:=za 0
     have za1:=za 1
     have zb0:=zb 0
     have zb1:=zb 1
     have hno:=put4 (V:=V7) a0 a1 b0 b1 (.int .u64 (num B 24 8)) (.slice q E.length cs) (.slice gp gn gc) (.int .i64 hr)
     have so:=(set2 (V:=V7.drew) a0 a1 (.int .u64 (num B 24 8)) (.slice q E.length cs)).2.2.2.1
     have kx:(((V7.drew.setCell ⟨W.heap.size,0,.none⟩ (.int .u64 (num B 24 8))).setCell ⟨W.heap.size,1,.none⟩ (.slice q E.length cs)).cell? ⟨V5.heap.size,0,.none⟩=some (.int .u64 (num B 24 8))∧((V7.drew.setCell ⟨W.heap.size,0,.none⟩ (.int .u64 (num B 24 8))).setCell ⟨W.heap.size,1,.none⟩ (.slice q E.length cs)).cell? ⟨V5.heap.size,1,.none⟩=some (.slice q E.length cs))∧((V7.drew.setCell ⟨W.heap.size,0,.none⟩ (.int .u64 (num B 24 8))).setCell ⟨W.heap.size,1,.none⟩ (.slice q E.length cs)).cell? ⟨r4,0,.none⟩=some (.slice gp gn gc)∧((V7.drew.setCell ⟨W.heap.size,0,.none⟩ (.int .u64 (num B 24 8))).setCell ⟨W.heap.size,1,.none⟩ (.slice q E.length cs)).cell? ⟨r4,1,.none⟩=some (.int .i64 hr):=⟨⟨(so _ 0 (by omega)).trans x0,(so _ 1 (by omega)).trans x1⟩,(so r4 0 (by omega)).trans f0,(so r4 1 (by omega)).trans f1⟩
     have ky:(((((V7.drew.setCell ⟨W.heap.size,0,.none⟩ (.int .u64 (num B 24 8))).setCell ⟨W.heap.size,1,.none⟩ (.slice q E.length cs)).setCell ⟨W.heap.size+1,0,.none⟩ (.slice gp gn gc)).setCell ⟨W.heap.size+1,1,.none⟩ (.int .i64 hr)).cell? ⟨V5.heap.size,0,.none⟩=some (.int .u64 (num B 24 8))∧((((V7.drew.setCell ⟨W.heap.size,0,.none⟩ (.int .u64 (num B 24 8))).setCell ⟨W.heap.size,1,.none⟩ (.slice q E.length cs)).setCell ⟨W.heap.size+1,0,.none⟩ (.slice gp gn gc)).setCell ⟨W.heap.size+1,1,.none⟩ (.int .i64 hr)).cell? ⟨V5.heap.size,1,.none⟩=some (.slice q E.length cs))∧((((V7.drew.setCell ⟨W.heap.size,0,.none⟩ (.int .u64 (num B 24 8))).setCell ⟨W.heap.size,1,.none⟩ (.slice q E.length cs)).setCell ⟨W.heap.size+1,0,.none⟩ (.slice gp gn gc)).setCell ⟨W.heap.size+1,1,.none⟩ (.int .i64 hr)).cell? ⟨r4,0,.none⟩=some (.slice gp gn gc)∧((((V7.drew.setCell ⟨W.heap.size,0,.none⟩ (.int .u64 (num B 24 8))).setCell ⟨W.heap.size,1,.none⟩ (.slice q E.length cs)).setCell ⟨W.heap.size+1,0,.none⟩ (.slice gp gn gc)).setCell ⟨W.heap.size+1,1,.none⟩ (.int .i64 hr)).cell? ⟨r4,1,.none⟩=some (.int .i64 hr):=⟨⟨(hno.2.2.2.2.2.2.1 _ 0 (by omega) (by omega)).trans x0,(hno.2.2.2.2.2.2.1 _ 1 (by omega) (by omega)).trans x1⟩,(hno.2.2.2.2.2.2.1 r4 0 (by omega) (by omega)).trans f0,(hno.2.2.2.2.2.2.1 r4 1 (by omega) (by omega)).trans f1⟩
     have e0:((V7.setCell ⟨W.heap.size,0,.none⟩ (.int .u64 (num B 24 8))).setCell ⟨W.heap.size,1,.none⟩ (.slice q E.length cs)).cell? ⟨W.heap.size+1,0,.none⟩=some (.slice .none 0 0):=(so _ 0 (by omega)).trans b0
     have e1:((V7.setCell ⟨W.heap.size,0,.none⟩ (.int .u64 (num B 24 8))).setCell ⟨W.heap.size,1,.none⟩ (.slice q E.length cs)).cell? ⟨W.heap.size+1,1,.none⟩=some (.int .i64 0):=(so _ 1 (by omega)).trans b1
     go_upto_region 29 with fail
     refine wp_region_held_drew (S:=fun U2=>(U2.cell? ⟨V5.heap.size,0,.none⟩=some (.int .u64 (num B 24 8))∧U2.cell? ⟨V5.heap.size,1,.none⟩=some (.slice q E.length cs))∧U2.cell? ⟨r4,0,.none⟩=some (.slice gp gn gc)∧U2.cell? ⟨r4,1,.none⟩=some (.int .i64 hr)) (by kernel_rfl) k0 (fun hHeld=>?_)
     refine aT 0 (.agg #[.int .u64 (num B 24 8),.slice q E.length cs]) rfl ?_
     simp only[xX]
     refine aT 1 (.agg #[.slice gp gn gc,.int .i64 hr]) rfl ?_
     simp only[xX]
     refine zR 2 rfl (fun K hK=>?_)
     go_simp
     refine hK.out _ _ kx (fun hHeld=>?_)
     clear hK K
     try simp only[xX]
     refine zR 3 rfl (fun K hK=>?_)
     go_simp
     refine hK.out _ _ ky (fun hHeld=>?_)
     clear hK K
     try simp only[xX]
     refine wpAnyH_done (by kernel_rfl) ?_ _
     clear hHeld k0 kx ky e0 e1
     go_wp2_with fail
     have hbb:=hno.2.2.2.2.2.2.2 W.heap.size W zL (HB3.out.trans (kb7.mono HB3.out.size))
     have low:∀ {ee s k:Nat} {vv:Value} {xs:List Value},V7.ownsRow (V5.heap.size+1) ee s vv k xs->((((V7.setCell ⟨W.heap.size,0,.none⟩ (.int .u64 (num B 24 8))).setCell ⟨W.heap.size,1,.none⟩ (.slice q E.length cs)).setCell ⟨W.heap.size+1,0,.none⟩ (.slice gp gn gc)).setCell ⟨W.heap.size+1,1,.none⟩ (.int .i64 hr)).drew.ownsRow W.heap.size ee s vv k xs:=fun {ee s k vv xs} hv=>owns_below (own_base (ownsRow_setCell_below (ownsRow_setCell_below (ownsRow_setCell_below (ownsRow_setCell_below hv (a:=⟨W.heap.size,0,.none⟩) (by show W.heap.size<V5.heap.size+1;omega) _) (a:=⟨W.heap.size,1,.none⟩) (by show W.heap.size<V5.heap.size+1;omega) _) (a:=⟨W.heap.size+1,0,.none⟩) (by show W.heap.size+1<V5.heap.size+1;omega) _) (a:=⟨W.heap.size+1,1,.none⟩) (by show W.heap.size+1<V5.heap.size+1;omega) _) (by omega)) (zB.drew)
     have hS9:Segs ((((V7.setCell ⟨W.heap.size,0,.none⟩ (.int .u64 (num B 24 8))).setCell ⟨W.heap.size,1,.none⟩ (.slice q E.length cs)).setCell ⟨W.heap.size+1,0,.none⟩ (.slice gp gn gc)).setCell ⟨W.heap.size+1,1,.none⟩ (.int .i64 hr)).drew W.heap.size (.slice q E.length cs) E B:=⟨low HS7.out.own,fun x hx=>low (HS7.out.dat x hx),HS7.out.gd⟩
     clear low
     obtain⟨t0,t1,t2,t3,t4,t5,_,_⟩:=hno
     generalize ((((V7.setCell ⟨W.heap.size,0,.none⟩ (.int .u64 (num B 24 8))).setCell ⟨W.heap.size,1,.none⟩ (.slice q E.length cs)).setCell ⟨W.heap.size+1,0,.none⟩ (.slice gp gn gc)).setCell ⟨W.heap.size+1,1,.none⟩ (.int .i64 hr))=W9 at *
     refine bodyPost_ret (v:=.tuple #[.agg #[.int .u64 (num B 24 8),.slice q E.length cs],.agg #[.slice gp gn gc,.int .i64 hr]]) (by simp[results,Tryz.results64,go_sem,t0,t1,t2,t3,t4,t5]) rfl ?_
     refine .inr ?_
     have hgg:(.agg #[.slice gp gn gc,.int .i64 hr]:Value) = .agg #[.slice .none 0 0,.int .i64 0]:=by
      rcases HG.out with⟨h9,_⟩|⟨_,h9⟩
      ·exact absurd HH0.out h9
      ·exact h9
     rw[HF2.out,if_neg h0,if_neg (by rw[hh];decide),hgg]
     exact⟨rfl,_,E,rfl,rfl,hS9,HR.out.ln,hbb.drew⟩
end
end Go.Proofs.YtabnipbdbnmmpaaGreatDoor
