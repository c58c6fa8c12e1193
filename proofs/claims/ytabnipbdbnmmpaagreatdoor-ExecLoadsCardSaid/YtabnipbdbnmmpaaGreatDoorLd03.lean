import Derived.Test.YtabnipbdbnmmpaaGreatDoorLd01
import Derived.Test.YtabnipbdbnmmpaaGreatDoorLd02
set_option linter.unusedVariables false
set_option linter.unusedSimpArgs false
set_option maxHeartbeats 8000000
namespace Go.Proofs.YtabnipbdbnmmpaaGreatDoor
section
open Go.RowKit
theorem num_shift (B:Nat->Int) (a o:Nat):∀ k,num (fun i=>B (a+i)) o k=num B (a+o) k
 |0=>rfl
 |k+1=>by simp only[num,num_shift B a o k,Nat.add_assoc]
theorem Row.sub {w:World} {b o n:Nat} {B:Nat->Int} (h:Row w b o n B) (a k:Nat) (hk:a+k<=n):Row w b (o+a) k (fun i=>B (a+i)):=fun i hi=>by
 have:=h (a+i) (by omega)
 rwa [<-Nat.add_assoc] at this
theorem inS_any {w:World} {b o n:Nat} {B:Nat->Int} (h:Row w b o n B) (hB:∀ i,0<=B i∧B i<256) (a:Nat) (ha:a+56<=n) (of_ by_:Nat) (fx:Int) (h1:of_+by_ <= 56) (h2:0<by_) (h3:by_ <= 8) :
  Calls Tryz.prog 176 #[.agg #[.int .i64 of_,.int .i64 by_,.int .u64 fx],.slice (some ⟨b,o+a,.none⟩) 56 56] w fun e w'=>e = .returned (.int .u64 (num B (a+of_) by_))∧Below w.heap.size w w':=by
 have:=in_any b (o+a) 56 56 of_ by_ fx (fun i=>B (a+i)) w h1 zL (by omega) h2 h3 (fun i=>hB _) (h.sub a 56 ha)
 rwa [num_shift] at this
def sgOf (B:Nat->Int) (a:Nat):Sg:=⟨num B (a+16) 8,num B (a+4) 4,num B (a+40) 8,(num B (a+8) 8).toNat,(num B (a+32) 8).toNat⟩
theorem pow8:(256:Int) ^ 8=18446744073709551616:=by decide
theorem pow4:(256:Int) ^ 4=4294967296:=by decide
theorem sgOf_b (B:Nat->Int) (hB:∀ i,0<=B i∧B i<256) (a:Nat):(0<=num B (a+16) 8∧num B (a+16) 8<18446744073709551616)∧(0<=num B (a+4) 4∧num B (a+4) 4<4294967296)∧(0<=num B (a+40) 8∧num B (a+40) 8<18446744073709551616)∧(0<=num B (a+8) 8∧num B (a+8) 8<18446744073709551616)∧(0<=num B (a+32) 8∧num B (a+32) 8<18446744073709551616):=by
 have h1:=num_bd B hB (a+16) 8
 have h2:=num_bd B hB (a+4) 4
 have h3:=num_bd B hB (a+40) 8
 have h4:=num_bd B hB (a+8) 8
 have h5:=num_bd B hB (a+32) 8
 rw[pow8] at h1 h3 h4 h5
 rw[pow4] at h2
 exact⟨h1,h2,h3,h4,h5⟩
def stp (n:Nat) (B:Nat->Int) (S:List Sg) (a:Nat):Int×List Sg:=
 if num B a 4≠1 then (0,S) else if S.length=8 then (143,S) else if ok1 (sgOf B a).va (sgOf B a).fl (sgOf B a).sz (sgOf B a).mem=false then (144,S)
 else if 0<(sgOf B a).sz∧n<(sgOf B a).wh+(sgOf B a).sz then (140,S) else if ris S (sgOf B a).va=false then (145,S) else (0,S ++ [sgOf B a])
theorem ok1_gd {s:Sg} (h:ok1 s.va s.fl s.sz s.mem=true) (hv:0<=s.va) (hz:s.sz<2000000):Gd s:=by
 unfold ok1 mf at h
 simp only[Bool.and_eq_true,decide_eq_true_eq,Bool.or_eq_true,beq_iff_eq] at h
 obtain⟨⟨⟨⟨h1,h2⟩,h3⟩,h4⟩,h5⟩:=h
 exact⟨hv,by omega,by omega,h5,hz⟩
structure Rdr (W0 w:World) (rb rs b o n c:Nat) (B:Nat->Int) (E:List (Sg×Value)) (sv:Value):Prop where
 fil:Fil w rb b o n c B
 c1:w.cell? ⟨rb,1,.none⟩=some sv
 z1:w.frozen? ⟨rb,1,.none⟩=false
 sg:Segs w (rb+1) sv E B
 be:Below W0.heap.size W0 w
 x0:W0.heap.size<=rb
 hx:rb+1<=w.heap.size
 hb:b<W0.heap.size
 ln:E.length<=8
 pr:w.heap[rs]? = some (.cells #[.int .u64 0,.slice .none 0 0] 41 (0,0))
 pn:rb<rs
section
variable {W0 w w':World} {rb rs b o n c:Nat} {B:Nat->Int} {E:List (Sg×Value)} {sv:Value}
theorem Rdr.below (h:Rdr W0 w rb rs b o n c B E sv) (k:Below w.heap.size w w'):Rdr W0 w' rb rs b o n c B E sv:=
 ⟨h.fil.below k,(k.cell (zC h.c1)).trans h.c1,(k.frozen (zC h.c1)).trans h.z1,h.sg.below k,h.be.trans (k.mono h.be.size),h.x0,Nat.le_trans h.hx k.size,h.hb,h.ln,(k.block rs (Array.getElem?_eq_some_iff.1 h.pr).1).trans h.pr,h.pn⟩
theorem Rdr.push {q:Option Addr} {cs:Nat} (h:Rdr W0 w rb rs b o n c B E (.slice q E.length cs)) (h8:E.length<8) {g:Sg} {dv:Value} (hd:w.ownsRow (rb+1) 5 1 dv g.sz (by8 (byt B g))) (hg:Gd g) {ob:Obj} {w5:World} {gr cap:Nat}
  (hown:w5.ownsRow (rb+1) 38 4 (.slice (some ⟨gr,0,.none⟩) (E.length+1) cap) (E.length+1) (flatE E ++ [.int .u64 g.va,.int .u32 g.fl,dv,.int .u64 g.mem])) (hgr:(w.alloc ob).grownBy w5 (Value.ownBlock (.slice q E.length cs))) :
  w5.cell? ⟨rb,1,.none⟩=some (.slice q E.length cs)∧w5.frozen? ⟨rb,1,.none⟩=false∧Rdr W0 (w5.setCell ⟨rb,1,.none⟩ (.slice (some ⟨gr,0,.none⟩) (E.length+1) cap)) rb rs b o n c B (E ++ [(g,dv)]) (.slice (some ⟨gr,0,.none⟩) (E.length+1) cap):=by
 have hx:=h.hx
 have hbl:=h.be.size
 have x0:=h.x0
 have hbb:=h.hb
 have blk:∀ x,x<w.heap.size->Value.ownBlock (.slice q E.length cs)≠some x->w5.heap[x]? = w.heap[x]?:=fun x hx hne=>(hgr.block x (by simp only[World.size_alloc];omega) (fun e=>hne e.symm)).trans (Below.heap_alloc _ _ _ hx)
 have lo:∀ x,x<rb+1->w5.heap[x]? = w.heap[x]?:=fun x h1=>blk x (by omega) (fun e=>by have:=(h.sg.own.lt _ e).1;omega)
 have cl:∀ x o,x<rb+1->w5.cell? ⟨x,o,.none⟩=w.cell? ⟨x,o,.none⟩:=fun x o hx=>World.cell?_of_block (lo x hx)
 have fl:∀ x o,x<rb+1->w5.frozen? ⟨x,o,.none⟩=w.frozen? ⟨x,o,.none⟩:=fun x o hx=>World.frozen?_of_block (lo x hx)
 have k1:=(cl rb 1 (by omega)).trans h.c1
 have f1:=(fl rb 1 (by omega)).trans h.z1
 have so:∀ x o,(x≠rb∨o≠1)->(w5.setCell ⟨rb,1,.none⟩ (.slice (some ⟨gr,0,.none⟩) (E.length+1) cap)).cell? ⟨x,o,.none⟩=w5.cell? ⟨x,o,.none⟩:=fun x o hx=>zO (by simp only[ne_eq,Addr.mk.injEq,and_true,not_and];intro e1 e2;rcases hx with hx|hx<;>omega)
 have keepD:∀ {v:Value} {k:Nat} {ys:List Value},w.ownsRow (rb+1) 5 1 v k ys->(w5.setCell ⟨rb,1,.none⟩ (.slice (some ⟨gr,0,.none⟩) (E.length+1) cap)).ownsRow (rb+1) 5 1 v k ys:=fun {v k ys} hv=>by
  refine ownsRow_setCell_below (a:=⟨rb,1,.none⟩) ?_ (by show rb<rb+1;omega) _
  refine(World.ownsRow.alloc hv ob).kept hgr ?_
  obtain⟨q',c',rfl,_⟩:=own_form hv
  cases e:Value.ownBlock (.slice q' k c') with
  |none=>exact .inl rfl
  |some y=>
   refine .inr fun e'=>?_
   obtain⟨c1,e1⟩:=own_blk hv e
   obtain⟨c2,e2⟩:=own_blk h.sg.own e'.symm
   rw[e1] at e2
   cases e2
 refine⟨k1,f1,⟨⟨(so _ _ (.inr (by decide))).trans ((cl _ _ (by omega)).trans h.fil.f0),fun i hi=>(so _ _ (.inl (by omega))).trans ((cl _ _ (by omega)).trans (h.fil.row i hi)),h.fil.bd,h.fil.nc⟩,World.cell?_setCell_same' _ _ _ (by rw[k1];rfl),(World.frozen?_setCell ..).trans f1,⟨?_,?_,?_⟩,?_,x0,?_,hbb,by simp;omega,?_,h.pn⟩⟩
 ·rw[flatE_app,List.length_append,List.length_singleton]
  exact ownsRow_setCell_below hown (a:=⟨rb,1,.none⟩) (by show rb<rb+1;omega) _
 ·intro x hx
  rcases List.mem_append.1 hx with hx|hx
  ·exact keepD (h.sg.dat x hx)
  ·rw[List.mem_singleton] at hx
   subst hx
   exact keepD hd
 ·intro x hx
  rcases List.mem_append.1 hx with hx|hx
  ·exact h.sg.gd x hx
  ·rw[List.mem_singleton] at hx
   subst hx
   exact hg
 ·exact((h.be.alloc h.be.size ob).grown hgr (by simp only[World.size_alloc];omega) (fun r e=>by have:=(h.sg.own.lt _ e).1;omega)).setCell (p:=⟨rb,1,.none⟩) (by show W0.heap.size<=rb;omega) _
 ·have:=hgr.size
  simp only[World.size_alloc] at this
  rw[World.size_setCell]
  omega
 ·have hl:=(Array.getElem?_eq_some_iff.1 h.pr).1
  have pn:=h.pn
  refine(Below.heap_setCell _ _ _ _ (by show rs≠rb;omega)).trans ((blk rs hl (fun e=>?_)).trans h.pr)
  obtain⟨c2,e2⟩:=own_blk h.sg.own e
  rw[h.pr] at e2
  cases e2
end
structure C4 (w:World) (x:Nat) (a b c d:Value):Prop where
 a:w.cell? ⟨x,0,.none⟩=some a
 b:w.cell? ⟨x,1,.none⟩=some b
 c:w.cell? ⟨x,2,.none⟩=some c
 d:w.cell? ⟨x,3,.none⟩=some d
 f:∀ i,w.frozen? ⟨x,i,.none⟩=false
theorem C4.below {w w':World} {x:Nat} {a b c d:Value} (h:C4 w x a b c d) (k:Below w.heap.size w w'):C4 w' x a b c d:=
 ⟨(k.cell (zC h.a)).trans h.a,(k.cell (zC h.b)).trans h.b,(k.cell (zC h.c)).trans h.c,(k.cell (zC h.d)).trans h.d,fun i=>(k.frozen (p:=⟨x,i,.none⟩) (show x<w.heap.size from zC (x:=⟨x,0,.none⟩) h.a)).trans (h.f i)⟩
theorem C4.new (w:World) (a b c d:Value) (t:TypeId):C4 (w.alloc (.cells #[a,b,c,d] t)) w.heap.size a b c d:=
 ⟨by simp,by simp,by simp,by simp,fun i=>World.frozen?_alloc_new _ _ _ _⟩
theorem C4.set {w:World} {x:Nat} {a b c d:Value} (h:C4 w x a b c d) (a' b' c' d':Value):C4 ((((w.setCell ⟨x,0,.none⟩ a').setCell ⟨x,1,.none⟩ b').setCell ⟨x,2,.none⟩ c').setCell ⟨x,3,.none⟩ d') x a' b' c' d':=by
 have h0:(w.setCell ⟨x,0,.none⟩ a').cell? ⟨x,0,.none⟩=some a':=World.cell?_setCell_same' _ _ _ (by rw[h.a];rfl)
 have h1:((w.setCell ⟨x,0,.none⟩ a').setCell ⟨x,1,.none⟩ b').cell? ⟨x,1,.none⟩=some b':=World.cell?_setCell_same' _ _ _ (by rw[zO (by simp),h.b];rfl)
 have h2:(((w.setCell ⟨x,0,.none⟩ a').setCell ⟨x,1,.none⟩ b').setCell ⟨x,2,.none⟩ c').cell? ⟨x,2,.none⟩=some c':=World.cell?_setCell_same' _ _ _ (by rw[zO (by simp),zO (by simp),h.c];rfl)
 refine⟨?_,?_,?_,?_,fun i=>?_⟩
 ·rw[zO (by simp),zO (by simp),zO (by simp)]
  exact h0
 ·rw[zO (by simp),zO (by simp)]
  exact h1
 ·rw[zO (by simp)]
  exact h2
 ·exact World.cell?_setCell_same' _ _ _ (by rw[zO (by simp),zO (by simp),zO (by simp),h.d];rfl)
 ·rw[World.frozen?_setCell,World.frozen?_setCell,World.frozen?_setCell,World.frozen?_setCell]
  exact h.f i
theorem info59:∃ i,Tryz.prog.info? 38=some i∧i.zero=some (.agg #[.int .u64 0,.int .u32 0,.slice .none 0 0,.int .u64 0])∧i.size=4∧i.bytes=48:=by
 have h:(Tryz.prog.info? 38).map (fun i=>(i.zero,i.size,i.bytes))=some (some (.agg #[.int .u64 0,.int .u32 0,.slice .none 0 0,.int .u64 0]),4,48):=by kernel_rfl
 cases hq:Tryz.prog.info? 38 with
 |none=>rw[hq] at h;cases h
 |some i=>
  rw[hq] at h
  simp only[Option.map_some,Option.some.injEq,Prod.mk.injEq] at h
  exact⟨i,rfl,h.1,h.2.1,h.2.2⟩
theorem cell4_new (w:World) (x y z u:Value) (t:TypeId):∀ j v,[x,y,z,u][j]? = some v->(w.alloc (.cells #[x,y,z,u] t)).cell? ((⟨w.heap.size,0,.none⟩:Addr).add j)=some v:=by
 intro j v hj
 rw[le_addr_add,World.cell?_alloc_at _ _ _ _ rfl,Nat.zero_add]
 simpa using hj
end
section
open Go.RowKit
end
section
open Go.RowKit
end
section
open Go.RowKit
end
section
open Go.RowKit
end
section
open Go.RowKit
theorem C4.grown {w w':World} {x:Nat} {a b c d:Value} (h:C4 w x a b c d) {row:Option Nat} (g:w.grownBy w' row) (hr:some x≠row):C4 w' x a b c d:=by
 have hl:x<w.heap.size:=zC (x:=⟨x,0,.none⟩) h.a
 have e:w'.heap[x]? = w.heap[x]?:=g.block x hl hr
 exact⟨(World.cell?_of_block e).trans h.a,(World.cell?_of_block e).trans h.b,(World.cell?_of_block e).trans h.c,(World.cell?_of_block e).trans h.d,fun i=>(World.frozen?_of_block e).trans (h.f i)⟩
theorem C4.setc {w:World} {x:Nat} {a b c d:Value} (h:C4 w x a b c d) (c':Value):C4 (w.setCell ⟨x,2,.none⟩ c') x a b c' d:=
 ⟨(zO (by simp)).trans h.a,(zO (by simp)).trans h.b,World.cell?_setCell_same' _ _ _ (by rw[h.c];rfl),(zO (by simp)).trans h.d,fun i=>(World.frozen?_setCell ..).trans (h.f i)⟩
def UpX (W0:World) (a r:Int) (e:Ending) (w':World):Prop:=∃ v,e = .panicked [{ v:=v,recovered:=false }]∧FaultIn w' 0 v a r∧Below W0.heap.size W0 w'
theorem Up.x {W0 w w':World} {a r:Int} {e:Ending} (h:Up w a r e w') (b:Below W0.heap.size W0 w):UpX W0 a r e w':=by
 obtain⟨v,h1,⟨x,h2,h3⟩,h4⟩:=h
 exact⟨v,h1,⟨x,Nat.zero_le _,h3⟩,b.trans (h4.mono b.size)⟩
def SegP (W0:World) (rb rs b o n c:Nat) (B:Nat->Int) (E:List (Sg×Value)) (a:Nat) (e:Ending) (w':World):Prop:=
 ((stp n B (E.map (·.1)) a).1≠0∧UpX W0 a (stp n B (E.map (·.1)) a).1 e w')∨((stp n B (E.map (·.1)) a).1=0∧e = .returned (.tuple #[])∧∃ E' sv',E'.map (·.1)=(stp n B (E.map (·.1)) a).2∧Rdr W0 w' rb rs b o n c B E' sv')
set_option maxRecDepth 100000 in
theorem seg_any {W0 w:World} {rb rs b o n c:Nat} {B:Nat->Int} {E:List (Sg×Value)} {sv:Value} (hR:Rdr W0 w rb rs b o n c B E sv) (hL:Laid w) (hn:n<=262144) (a:Nat) (ha:a+56<=n) :
  Calls Tryz.prog 174 #[.pointer (some ⟨rb,0,.none⟩),.int .i64 a] w fun e w'=>SegP W0 rb rs b o n c B E a e w':=by
 obtain⟨q,cs,rfl,hcs1,hcs2,hq⟩:=own_form hR.sg.own
 have HRw:Hid (Rdr W0 w rb rs b o n c B E (.slice q E.length cs)):=hR
 have HLw:Hid (Laid w):=hL
 have r0:=hR.fil.f0
 have c35:Calls Tryz.prog 170 #[.slice (some ⟨b,o,.none⟩) n c,.int .i64 a,.int .i64 56] w fun e w'=>e = .returned (.slice (some ⟨b,o+a,.none⟩) 56 56)∧w=w':=(cut_any b o n c a 56 w (by omega) (by have:=hR.fil.nc.1;omega) hR.fil.nc.2).mono fun e w' h=>⟨h.1,h.2.symm⟩
 have hln:=hR.ln
 clear hR hL hq
 go_enter Tryz.func174,Tryz.ntmps174
 go_upto_region 1 with(first|(go_at_call 170;refine c35.mono ?_;rintro e w1 ⟨rfl,rfl⟩)|fail)
 clear c35
 have bw0:Below w.heap.size w w.drew:=zB.drew
 have kS:(w.drew.cell? ⟨1,0,.none⟩=some (.int .i64 0)∧w.drew.cell? ⟨1,1,.none⟩=some (.int .i64 4)∧w.drew.cell? ⟨1,2,.none⟩=some (.int .u64 1)):=⟨(HLw.out.below bw0).s0 0 (by omega),(HLw.out.below bw0).s1 0 (by omega),(HLw.out.below bw0).s2 0 (by omega)⟩
 go_upto_region 1 with fail
 refine wp_region_held_drew (S:=fun U2=>(U2.cell? ⟨1,0,.none⟩=some (.int .i64 0)∧U2.cell? ⟨1,1,.none⟩=some (.int .i64 4)∧U2.cell? ⟨1,2,.none⟩=some (.int .u64 1))) (by kernel_rfl) kS (fun hHeld=>?_)
 refine aT 0 (.pointer (some ⟨1,0,.none⟩)) rfl ?_
 simp only[xX]
 refine aT 1 (.agg #[.int .i64 0,.int .i64 4,.int .u64 1]) rfl ?_
 simp only[xX]
 refine aT 2 (.slice (some ⟨b,o+a,.none⟩) 56 56) rfl ?_
 simp only[xX]
 refine aT 4 (.pointer (some ⟨1,0,.none⟩)) rfl ?_
 simp only[xX]
 refine aT 5 (.pointer (some ⟨1,2,.none⟩)) rfl ?_
 simp only[xX]
 refine aT 6 (.int .u64 1) rfl ?_
 simp only[xX]
 refine zR 3 rfl (fun K hK=>?_)
 go_simp
 go_at_call 176
 refine(inS_any (HRw.out.fil.row.keep bw0) HRw.out.fil.bd a ha 0 4 1 (by omega) (by omega) (by omega)).mono ?_
 rintro e V1 ⟨rfl,hb_V1⟩
 have b_V1:Below w.heap.size w V1:=(bw0).trans (hb_V1.mono (bw0).size)
 have k1:(V1.cell? ⟨1,0,.none⟩=some (.int .i64 0)∧V1.cell? ⟨1,1,.none⟩=some (.int .i64 4)∧V1.cell? ⟨1,2,.none⟩=some (.int .u64 1)):=⟨(HLw.out.below b_V1).s0 0 (by omega),(HLw.out.below b_V1).s1 0 (by omega),(HLw.out.below b_V1).s2 0 (by omega)⟩
 refine hK.out _ _ k1 (fun hHeld=>?_)
 clear hK K
 try simp only[xX]
 rw[show a+0=a from rfl]
 by_cases ht:num B a 4=1
 ·have htb:(num B a 4 != 1)=false:=by simpa using ht
  refine aT 7 (.bool false) rfl ?_
  simp only[xX]
  refine wpAnyH_done (by kernel_rfl) ?_ _
  have hst:stp n B (E.map (·.1)) a=if E.length=8 then (143,E.map (·.1)) else if ok1 (sgOf B a).va (sgOf B a).fl (sgOf B a).sz (sgOf B a).mem=false then (144,E.map (·.1)) else if 0<(sgOf B a).sz∧n<(sgOf B a).wh+(sgOf B a).sz then (140,E.map (·.1)) else if ris (E.map (·.1)) (sgOf B a).va=false then (145,E.map (·.1)) else (0,E.map (·.1) ++ [sgOf B a]):=by
   unfold stp
   rw[if_neg (by simpa using ht),List.length_map]
  have HST:Hid (stp n B (E.map (·.1)) a=_):=hst
  clear hst hHeld kS k1 r0
  have HR1:Hid (Rdr W0 V1 rb rs b o n c B E (.slice q E.length cs)):=HRw.out.below b_V1
  have r1:=HR1.out.c1
  by_cases h8:E.length=8
  ·have h8b:((E.length:Int) == 8)=true:=by simp;omega
   go_wp2_with (first|(go_at_call 175;refine(giveUp_any _ _ _).mono ?_;intro e w0 hu;obtain⟨v,rfl,hu2⟩:=id hu)|fail)
   have e1:=HST.out
   rw[if_pos h8] at e1
   refine⟨rfl,.inl ?_⟩
   rw[e1]
   exact⟨by simp,hu.x HR1.out.be⟩
  ·have h8b:((E.length:Int) == 8)=false:=by simp;omega
   have hsb:=sgOf_b B HRw.out.fil.bd a
   have hwr:IntKind.u32.wrap (num B (a+4) 4)=num B (a+4) 4:=by rw[IntKind.wrap_u32];omega
   go_upto_region 4 with fail
   clear r1
   go_cut [5] (fun p wx=>∃ x,p = .pointer (some ⟨x,0,.none⟩)∧Hid (C4 wx x (.int .u64 (num B (a+16) 8)) (.int .u32 (num B (a+4) 4)) (.slice .none 0 0) (.int .u64 (num B (a+40) 8))∧Below w.heap.size w wx∧w.heap.size<=x))
   case first=>
    have bw1:Below w.heap.size w V1.drew:=(b_V1).drew
    have kS:(V1.drew.cell? ⟨1,9,.none⟩=some (.int .i64 16)∧V1.drew.cell? ⟨1,10,.none⟩=some (.int .i64 8)∧V1.drew.cell? ⟨1,11,.none⟩=some (.int .u64 0))∧(V1.drew.cell? ⟨1,3,.none⟩=some (.int .i64 4)∧V1.drew.cell? ⟨1,4,.none⟩=some (.int .i64 4)∧V1.drew.cell? ⟨1,5,.none⟩=some (.int .u64 0))∧(V1.drew.cell? ⟨1,18,.none⟩=some (.int .i64 40)∧V1.drew.cell? ⟨1,19,.none⟩=some (.int .i64 8)∧V1.drew.cell? ⟨1,20,.none⟩=some (.int .u64 0)):=⟨⟨(HLw.out.below bw1).s0 3 (by omega),(HLw.out.below bw1).s1 3 (by omega),(HLw.out.below bw1).s2 3 (by omega)⟩,⟨(HLw.out.below bw1).s0 1 (by omega),(HLw.out.below bw1).s1 1 (by omega),(HLw.out.below bw1).s2 1 (by omega)⟩,⟨(HLw.out.below bw1).s0 6 (by omega),(HLw.out.below bw1).s1 6 (by omega),(HLw.out.below bw1).s2 6 (by omega)⟩⟩
    go_upto_region 4 with fail
    refine wp_region_held_drew (S:=fun U2=>(U2.cell? ⟨1,9,.none⟩=some (.int .i64 16)∧U2.cell? ⟨1,10,.none⟩=some (.int .i64 8)∧U2.cell? ⟨1,11,.none⟩=some (.int .u64 0))∧(U2.cell? ⟨1,3,.none⟩=some (.int .i64 4)∧U2.cell? ⟨1,4,.none⟩=some (.int .i64 4)∧U2.cell? ⟨1,5,.none⟩=some (.int .u64 0))∧(U2.cell? ⟨1,18,.none⟩=some (.int .i64 40)∧U2.cell? ⟨1,19,.none⟩=some (.int .i64 8)∧U2.cell? ⟨1,20,.none⟩=some (.int .u64 0))) (by kernel_rfl) kS (fun hHeld=>?_)
    refine aT 0 (.pointer (some ⟨1,9,.none⟩)) rfl ?_
    simp only[xX]
    refine aT 1 (.agg #[.int .i64 16,.int .i64 8,.int .u64 0]) rfl ?_
    simp only[xX]
    refine aT 2 (.slice (some ⟨b,o+a,.none⟩) 56 56) rfl ?_
    simp only[xX]
    refine aT 4 (.pointer (some ⟨1,3,.none⟩)) rfl ?_
    simp only[xX]
    refine aT 5 (.agg #[.int .i64 4,.int .i64 4,.int .u64 0]) rfl ?_
    simp only[xX]
    refine aT 6 (.slice (some ⟨b,o+a,.none⟩) 56 56) rfl ?_
    simp only[xX]
    refine aT 9 (.pointer (some ⟨1,18,.none⟩)) rfl ?_
    simp only[xX]
    refine aT 10 (.agg #[.int .i64 40,.int .i64 8,.int .u64 0]) rfl ?_
    simp only[xX]
    refine aT 11 (.slice (some ⟨b,o+a,.none⟩) 56 56) rfl ?_
    simp only[xX]
    refine wpAnyH_ready (rs:=[3,14]) (by kernel_rfl) (by simp) ?_
    refine AllReadyH.cons rfl (fun K hK=>?_) (AllReadyH.cons rfl (fun K hK=>?_) AllReadyH.nil)
    ·
     go_simp
     go_at_call 176
     refine(inS_any (HRw.out.fil.row.keep bw1) HRw.out.fil.bd a ha 16 8 0 (by omega) (by omega) (by omega)).mono ?_
     rintro e U0 ⟨rfl,hb_U0⟩
     have b_U0:Below w.heap.size w U0:=(bw1).trans (hb_U0.mono (bw1).size)
     have kU0:(U0.cell? ⟨1,9,.none⟩=some (.int .i64 16)∧U0.cell? ⟨1,10,.none⟩=some (.int .i64 8)∧U0.cell? ⟨1,11,.none⟩=some (.int .u64 0))∧(U0.cell? ⟨1,3,.none⟩=some (.int .i64 4)∧U0.cell? ⟨1,4,.none⟩=some (.int .i64 4)∧U0.cell? ⟨1,5,.none⟩=some (.int .u64 0))∧(U0.cell? ⟨1,18,.none⟩=some (.int .i64 40)∧U0.cell? ⟨1,19,.none⟩=some (.int .i64 8)∧U0.cell? ⟨1,20,.none⟩=some (.int .u64 0)):=⟨⟨(HLw.out.below b_U0).s0 3 (by omega),(HLw.out.below b_U0).s1 3 (by omega),(HLw.out.below b_U0).s2 3 (by omega)⟩,⟨(HLw.out.below b_U0).s0 1 (by omega),(HLw.out.below b_U0).s1 1 (by omega),(HLw.out.below b_U0).s2 1 (by omega)⟩,⟨(HLw.out.below b_U0).s0 6 (by omega),(HLw.out.below b_U0).s1 6 (by omega),(HLw.out.below b_U0).s2 6 (by omega)⟩⟩
     refine hK.out _ _ kU0 (fun hHeld=>?_)
     clear hK K
     try simp only[xX]
     refine wpAnyH_ready (rs:=[7,14]) (by kernel_rfl) (by simp) ?_
     refine AllReadyH.cons rfl (fun K hK=>?_) (AllReadyH.cons rfl (fun K hK=>?_) AllReadyH.nil)
     ·
      go_simp
      go_at_call 176
      refine(inS_any (HRw.out.fil.row.keep b_U0) HRw.out.fil.bd a ha 4 4 0 (by omega) (by omega) (by omega)).mono ?_
      rintro e U1 ⟨rfl,hb_U1⟩
      have b_U1:Below w.heap.size w U1:=(b_U0).trans (hb_U1.mono (b_U0).size)
      have kU1:(U1.cell? ⟨1,9,.none⟩=some (.int .i64 16)∧U1.cell? ⟨1,10,.none⟩=some (.int .i64 8)∧U1.cell? ⟨1,11,.none⟩=some (.int .u64 0))∧(U1.cell? ⟨1,3,.none⟩=some (.int .i64 4)∧U1.cell? ⟨1,4,.none⟩=some (.int .i64 4)∧U1.cell? ⟨1,5,.none⟩=some (.int .u64 0))∧(U1.cell? ⟨1,18,.none⟩=some (.int .i64 40)∧U1.cell? ⟨1,19,.none⟩=some (.int .i64 8)∧U1.cell? ⟨1,20,.none⟩=some (.int .u64 0)):=⟨⟨(HLw.out.below b_U1).s0 3 (by omega),(HLw.out.below b_U1).s1 3 (by omega),(HLw.out.below b_U1).s2 3 (by omega)⟩,⟨(HLw.out.below b_U1).s0 1 (by omega),(HLw.out.below b_U1).s1 1 (by omega),(HLw.out.below b_U1).s2 1 (by omega)⟩,⟨(HLw.out.below b_U1).s0 6 (by omega),(HLw.out.below b_U1).s1 6 (by omega),(HLw.out.below b_U1).s2 6 (by omega)⟩⟩
      refine hK.out _ _ kU1 (fun hHeld=>?_)
      clear hK K
      try simp only[xX]
      refine aT 8 (.int .u32 (num B (a+4) 4)) rfl ?_
      simp only[xX]
      refine wpAnyH_ready (rs:=[12,14]) (by kernel_rfl) (by simp) ?_
      refine AllReadyH.cons rfl (fun K hK=>?_) (AllReadyH.cons rfl (fun K hK=>?_) AllReadyH.nil)
      ·
       go_simp
       go_at_call 176
       refine(inS_any (HRw.out.fil.row.keep b_U1) HRw.out.fil.bd a ha 40 8 0 (by omega) (by omega) (by omega)).mono ?_
       rintro e U2 ⟨rfl,hb_U2⟩
       have b_U2:Below w.heap.size w U2:=(b_U1).trans (hb_U2.mono (b_U1).size)
       have kU2:(U2.cell? ⟨1,9,.none⟩=some (.int .i64 16)∧U2.cell? ⟨1,10,.none⟩=some (.int .i64 8)∧U2.cell? ⟨1,11,.none⟩=some (.int .u64 0))∧(U2.cell? ⟨1,3,.none⟩=some (.int .i64 4)∧U2.cell? ⟨1,4,.none⟩=some (.int .i64 4)∧U2.cell? ⟨1,5,.none⟩=some (.int .u64 0))∧(U2.cell? ⟨1,18,.none⟩=some (.int .i64 40)∧U2.cell? ⟨1,19,.none⟩=some (.int .i64 8)∧U2.cell? ⟨1,20,.none⟩=some (.int .u64 0)):=⟨⟨(HLw.out.below b_U2).s0 3 (by omega),(HLw.out.below b_U2).s1 3 (by omega),(HLw.out.below b_U2).s2 3 (by omega)⟩,⟨(HLw.out.below b_U2).s0 1 (by omega),(HLw.out.below b_U2).s1 1 (by omega),(HLw.out.below b_U2).s2 1 (by omega)⟩,⟨(HLw.out.below b_U2).s0 6 (by omega),(HLw.out.below b_U2).s1 6 (by omega),(HLw.out.below b_U2).s2 6 (by omega)⟩⟩
       refine hK.out _ _ kU2 (fun hHeld=>?_)
       clear hK K
       try simp only[xX]
       refine aT 13 (.agg #[.int .u64 (num B (a+16) 8),.int .u32 (num B (a+4) 4),.slice .none 0 0,.int .u64 (num B (a+40) 8)]) rfl ?_
       simp only[xX]
       refine zR 14 rfl (fun K hK=>?_)
       go_simp
       have bA:Below w.heap.size w (U2.alloc (.cells #[.int .u64 0,.int .u32 0,.slice .none 0 0,.int .u64 0] 38)):=(b_U2).alloc (b_U2).size _
       have cA:C4 (U2.alloc (.cells #[.int .u64 0,.int .u32 0,.slice .none 0 0,.int .u64 0] 38)) U2.heap.size _ _ _ _:=C4.new U2 (.int .u64 0) (.int .u32 0) (.slice .none 0 0) (.int .u64 0) 38
       have kA:((U2.alloc (.cells #[.int .u64 0,.int .u32 0,.slice .none 0 0,.int .u64 0] 38)).cell? ⟨1,9,.none⟩=some (.int .i64 16)∧(U2.alloc (.cells #[.int .u64 0,.int .u32 0,.slice .none 0 0,.int .u64 0] 38)).cell? ⟨1,10,.none⟩=some (.int .i64 8)∧(U2.alloc (.cells #[.int .u64 0,.int .u32 0,.slice .none 0 0,.int .u64 0] 38)).cell? ⟨1,11,.none⟩=some (.int .u64 0))∧((U2.alloc (.cells #[.int .u64 0,.int .u32 0,.slice .none 0 0,.int .u64 0] 38)).cell? ⟨1,3,.none⟩=some (.int .i64 4)∧(U2.alloc (.cells #[.int .u64 0,.int .u32 0,.slice .none 0 0,.int .u64 0] 38)).cell? ⟨1,4,.none⟩=some (.int .i64 4)∧(U2.alloc (.cells #[.int .u64 0,.int .u32 0,.slice .none 0 0,.int .u64 0] 38)).cell? ⟨1,5,.none⟩=some (.int .u64 0))∧((U2.alloc (.cells #[.int .u64 0,.int .u32 0,.slice .none 0 0,.int .u64 0] 38)).cell? ⟨1,18,.none⟩=some (.int .i64 40)∧(U2.alloc (.cells #[.int .u64 0,.int .u32 0,.slice .none 0 0,.int .u64 0] 38)).cell? ⟨1,19,.none⟩=some (.int .i64 8)∧(U2.alloc (.cells #[.int .u64 0,.int .u32 0,.slice .none 0 0,.int .u64 0] 38)).cell? ⟨1,20,.none⟩=some (.int .u64 0)):=⟨⟨(HLw.out.below bA).s0 3 (by omega),(HLw.out.below bA).s1 3 (by omega),(HLw.out.below bA).s2 3 (by omega)⟩,⟨(HLw.out.below bA).s0 1 (by omega),(HLw.out.below bA).s1 1 (by omega),(HLw.out.below bA).s2 1 (by omega)⟩,⟨(HLw.out.below bA).s0 6 (by omega),(HLw.out.below bA).s1 6 (by omega),(HLw.out.below bA).s2 6 (by omega)⟩⟩
       have hxA:w.heap.size<=U2.heap.size:=(b_U2).size
       refine hK.out _ _ kA (fun hHeld=>?_)
       clear hK K
       try simp only[xX]
       refine zR 15 rfl (fun K hK=>?_)
       have bF:Below w.heap.size w (U2.alloc (.cells #[.int .u64 (num B (a+16) 8),.int .u32 (num B (a+4) 4),.slice .none 0 0,.int .u64 (num B (a+40) 8)] 38)):=(b_U2).alloc (b_U2).size _
       have kF:((U2.alloc (.cells #[.int .u64 (num B (a+16) 8),.int .u32 (num B (a+4) 4),.slice .none 0 0,.int .u64 (num B (a+40) 8)] 38)).cell? ⟨1,9,.none⟩=some (.int .i64 16)∧(U2.alloc (.cells #[.int .u64 (num B (a+16) 8),.int .u32 (num B (a+4) 4),.slice .none 0 0,.int .u64 (num B (a+40) 8)] 38)).cell? ⟨1,10,.none⟩=some (.int .i64 8)∧(U2.alloc (.cells #[.int .u64 (num B (a+16) 8),.int .u32 (num B (a+4) 4),.slice .none 0 0,.int .u64 (num B (a+40) 8)] 38)).cell? ⟨1,11,.none⟩=some (.int .u64 0))∧((U2.alloc (.cells #[.int .u64 (num B (a+16) 8),.int .u32 (num B (a+4) 4),.slice .none 0 0,.int .u64 (num B (a+40) 8)] 38)).cell? ⟨1,3,.none⟩=some (.int .i64 4)∧(U2.alloc (.cells #[.int .u64 (num B (a+16) 8),.int .u32 (num B (a+4) 4),.slice .none 0 0,.int .u64 (num B (a+40) 8)] 38)).cell? ⟨1,4,.none⟩=some (.int .i64 4)∧(U2.alloc (.cells #[.int .u64 (num B (a+16) 8),.int .u32 (num B (a+4) 4),.slice .none 0 0,.int .u64 (num B (a+40) 8)] 38)).cell? ⟨1,5,.none⟩=some (.int .u64 0))∧((U2.alloc (.cells #[.int .u64 (num B (a+16) 8),.int .u32 (num B (a+4) 4),.slice .none 0 0,.int .u64 (num B (a+40) 8)] 38)).cell? ⟨1,18,.none⟩=some (.int .i64 40)∧(U2.alloc (.cells #[.int .u64 (num B (a+16) 8),.int .u32 (num B (a+4) 4),.slice .none 0 0,.int .u64 (num B (a+40) 8)] 38)).cell? ⟨1,19,.none⟩=some (.int .i64 8)∧(U2.alloc (.cells #[.int .u64 (num B (a+16) 8),.int .u32 (num B (a+4) 4),.slice .none 0 0,.int .u64 (num B (a+40) 8)] 38)).cell? ⟨1,20,.none⟩=some (.int .u64 0)):=⟨⟨(HLw.out.below bF).s0 3 (by omega),(HLw.out.below bF).s1 3 (by omega),(HLw.out.below bF).s2 3 (by omega)⟩,⟨(HLw.out.below bF).s0 1 (by omega),(HLw.out.below bF).s1 1 (by omega),(HLw.out.below bF).s2 1 (by omega)⟩,⟨(HLw.out.below bF).s0 6 (by omega),(HLw.out.below bF).s1 6 (by omega),(HLw.out.below bF).s2 6 (by omega)⟩⟩
       go_simp
       refine hK.out _ _ kF (fun hHeld=>?_)
       clear hK K
       try simp only[xX]
       refine wpAnyH_done (by kernel_rfl) ?_ _
       clear hHeld
       go_wp2_with fail
       go_meet
       case rel=>exact⟨_,rfl,C4.new _ _ _ _ _ _,bF,hxA⟩
      ·
       go_simp
       have bA:Below w.heap.size w (U1.alloc (.cells #[.int .u64 0,.int .u32 0,.slice .none 0 0,.int .u64 0] 38)):=(b_U1).alloc (b_U1).size _
       have cA:C4 (U1.alloc (.cells #[.int .u64 0,.int .u32 0,.slice .none 0 0,.int .u64 0] 38)) U1.heap.size _ _ _ _:=C4.new U1 (.int .u64 0) (.int .u32 0) (.slice .none 0 0) (.int .u64 0) 38
       have kA:((U1.alloc (.cells #[.int .u64 0,.int .u32 0,.slice .none 0 0,.int .u64 0] 38)).cell? ⟨1,9,.none⟩=some (.int .i64 16)∧(U1.alloc (.cells #[.int .u64 0,.int .u32 0,.slice .none 0 0,.int .u64 0] 38)).cell? ⟨1,10,.none⟩=some (.int .i64 8)∧(U1.alloc (.cells #[.int .u64 0,.int .u32 0,.slice .none 0 0,.int .u64 0] 38)).cell? ⟨1,11,.none⟩=some (.int .u64 0))∧((U1.alloc (.cells #[.int .u64 0,.int .u32 0,.slice .none 0 0,.int .u64 0] 38)).cell? ⟨1,3,.none⟩=some (.int .i64 4)∧(U1.alloc (.cells #[.int .u64 0,.int .u32 0,.slice .none 0 0,.int .u64 0] 38)).cell? ⟨1,4,.none⟩=some (.int .i64 4)∧(U1.alloc (.cells #[.int .u64 0,.int .u32 0,.slice .none 0 0,.int .u64 0] 38)).cell? ⟨1,5,.none⟩=some (.int .u64 0))∧((U1.alloc (.cells #[.int .u64 0,.int .u32 0,.slice .none 0 0,.int .u64 0] 38)).cell? ⟨1,18,.none⟩=some (.int .i64 40)∧(U1.alloc (.cells #[.int .u64 0,.int .u32 0,.slice .none 0 0,.int .u64 0] 38)).cell? ⟨1,19,.none⟩=some (.int .i64 8)∧(U1.alloc (.cells #[.int .u64 0,.int .u32 0,.slice .none 0 0,.int .u64 0] 38)).cell? ⟨1,20,.none⟩=some (.int .u64 0)):=⟨⟨(HLw.out.below bA).s0 3 (by omega),(HLw.out.below bA).s1 3 (by omega),(HLw.out.below bA).s2 3 (by omega)⟩,⟨(HLw.out.below bA).s0 1 (by omega),(HLw.out.below bA).s1 1 (by omega),(HLw.out.below bA).s2 1 (by omega)⟩,⟨(HLw.out.below bA).s0 6 (by omega),(HLw.out.below bA).s1 6 (by omega),(HLw.out.below bA).s2 6 (by omega)⟩⟩
       have hxA:w.heap.size<=U1.heap.size:=(b_U1).size
       refine hK.out _ _ kA (fun hHeld=>?_)
       clear hK K
       try simp only[xX]
       refine zR 12 rfl (fun K hK=>?_)
       go_simp
       go_at_call 176
       refine(inS_any (HRw.out.fil.row.keep bA) HRw.out.fil.bd a ha 40 8 0 (by omega) (by omega) (by omega)).mono ?_
       rintro e U2 ⟨rfl,hb_U2⟩
       have b_U2:Below w.heap.size w U2:=(bA).trans (hb_U2.mono (bA).size)
       have kU2:(U2.cell? ⟨1,9,.none⟩=some (.int .i64 16)∧U2.cell? ⟨1,10,.none⟩=some (.int .i64 8)∧U2.cell? ⟨1,11,.none⟩=some (.int .u64 0))∧(U2.cell? ⟨1,3,.none⟩=some (.int .i64 4)∧U2.cell? ⟨1,4,.none⟩=some (.int .i64 4)∧U2.cell? ⟨1,5,.none⟩=some (.int .u64 0))∧(U2.cell? ⟨1,18,.none⟩=some (.int .i64 40)∧U2.cell? ⟨1,19,.none⟩=some (.int .i64 8)∧U2.cell? ⟨1,20,.none⟩=some (.int .u64 0)):=⟨⟨(HLw.out.below b_U2).s0 3 (by omega),(HLw.out.below b_U2).s1 3 (by omega),(HLw.out.below b_U2).s2 3 (by omega)⟩,⟨(HLw.out.below b_U2).s0 1 (by omega),(HLw.out.below b_U2).s1 1 (by omega),(HLw.out.below b_U2).s2 1 (by omega)⟩,⟨(HLw.out.below b_U2).s0 6 (by omega),(HLw.out.below b_U2).s1 6 (by omega),(HLw.out.below b_U2).s2 6 (by omega)⟩⟩
       have cU2:=cA.below hb_U2
       refine hK.out _ _ kU2 (fun hHeld=>?_)
       clear hK K
       try simp only[xX]
       refine aT 13 (.agg #[.int .u64 (num B (a+16) 8),.int .u32 (num B (a+4) 4),.slice .none 0 0,.int .u64 (num B (a+40) 8)]) rfl ?_
       simp only[xX]
       refine zR 15 rfl (fun K hK=>?_)
       obtain⟨y0,y1,y2,y3,y4⟩:=cU2
       have z0:=y4 0
       have z1:=y4 1
       have z2:=y4 2
       have z3:=y4 3
       have bF:Below w.heap.size w ((((U2.setCell ⟨U1.heap.size,0,.none⟩ (.int .u64 (num B (a+16) 8))).setCell ⟨U1.heap.size,1,.none⟩ (.int .u32 (num B (a+4) 4))).setCell ⟨U1.heap.size,2,.none⟩ (.slice .none 0 0)).setCell ⟨U1.heap.size,3,.none⟩ (.int .u64 (num B (a+40) 8))):=((((b_U2).setCell (p:=⟨U1.heap.size,0,.none⟩) hxA _).setCell (p:=⟨U1.heap.size,1,.none⟩) hxA _).setCell (p:=⟨U1.heap.size,2,.none⟩) hxA _).setCell (p:=⟨U1.heap.size,3,.none⟩) hxA _
       have cF:=C4.set (⟨y0,y1,y2,y3,y4⟩:C4 U2 U1.heap.size _ _ _ _) (.int .u64 (num B (a+16) 8)) (.int .u32 (num B (a+4) 4)) (.slice .none 0 0) (.int .u64 (num B (a+40) 8))
       have kF:(((((U2.setCell ⟨U1.heap.size,0,.none⟩ (.int .u64 (num B (a+16) 8))).setCell ⟨U1.heap.size,1,.none⟩ (.int .u32 (num B (a+4) 4))).setCell ⟨U1.heap.size,2,.none⟩ (.slice .none 0 0)).setCell ⟨U1.heap.size,3,.none⟩ (.int .u64 (num B (a+40) 8))).cell? ⟨1,9,.none⟩=some (.int .i64 16)∧((((U2.setCell ⟨U1.heap.size,0,.none⟩ (.int .u64 (num B (a+16) 8))).setCell ⟨U1.heap.size,1,.none⟩ (.int .u32 (num B (a+4) 4))).setCell ⟨U1.heap.size,2,.none⟩ (.slice .none 0 0)).setCell ⟨U1.heap.size,3,.none⟩ (.int .u64 (num B (a+40) 8))).cell? ⟨1,10,.none⟩=some (.int .i64 8)∧((((U2.setCell ⟨U1.heap.size,0,.none⟩ (.int .u64 (num B (a+16) 8))).setCell ⟨U1.heap.size,1,.none⟩ (.int .u32 (num B (a+4) 4))).setCell ⟨U1.heap.size,2,.none⟩ (.slice .none 0 0)).setCell ⟨U1.heap.size,3,.none⟩ (.int .u64 (num B (a+40) 8))).cell? ⟨1,11,.none⟩=some (.int .u64 0))∧(((((U2.setCell ⟨U1.heap.size,0,.none⟩ (.int .u64 (num B (a+16) 8))).setCell ⟨U1.heap.size,1,.none⟩ (.int .u32 (num B (a+4) 4))).setCell ⟨U1.heap.size,2,.none⟩ (.slice .none 0 0)).setCell ⟨U1.heap.size,3,.none⟩ (.int .u64 (num B (a+40) 8))).cell? ⟨1,3,.none⟩=some (.int .i64 4)∧((((U2.setCell ⟨U1.heap.size,0,.none⟩ (.int .u64 (num B (a+16) 8))).setCell ⟨U1.heap.size,1,.none⟩ (.int .u32 (num B (a+4) 4))).setCell ⟨U1.heap.size,2,.none⟩ (.slice .none 0 0)).setCell ⟨U1.heap.size,3,.none⟩ (.int .u64 (num B (a+40) 8))).cell? ⟨1,4,.none⟩=some (.int .i64 4)∧((((U2.setCell ⟨U1.heap.size,0,.none⟩ (.int .u64 (num B (a+16) 8))).setCell ⟨U1.heap.size,1,.none⟩ (.int .u32 (num B (a+4) 4))).setCell ⟨U1.heap.size,2,.none⟩ (.slice .none 0 0)).setCell ⟨U1.heap.size,3,.none⟩ (.int .u64 (num B (a+40) 8))).cell? ⟨1,5,.none⟩=some (.int .u64 0))∧(((((U2.setCell ⟨U1.heap.size,0,.none⟩ (.int .u64 (num B (a+16) 8))).setCell ⟨U1.heap.size,1,.none⟩ (.int .u32 (num B (a+4) 4))).setCell ⟨U1.heap.size,2,.none⟩ (.slice .none 0 0)).setCell ⟨U1.heap.size,3,.none⟩ (.int .u64 (num B (a+40) 8))).cell? ⟨1,18,.none⟩=some (.int .i64 40)∧((((U2.setCell ⟨U1.heap.size,0,.none⟩ (.int .u64 (num B (a+16) 8))).setCell ⟨U1.heap.size,1,.none⟩ (.int .u32 (num B (a+4) 4))).setCell ⟨U1.heap.size,2,.none⟩ (.slice .none 0 0)).setCell ⟨U1.heap.size,3,.none⟩ (.int .u64 (num B (a+40) 8))).cell? ⟨1,19,.none⟩=some (.int .i64 8)∧((((U2.setCell ⟨U1.heap.size,0,.none⟩ (.int .u64 (num B (a+16) 8))).setCell ⟨U1.heap.size,1,.none⟩ (.int .u32 (num B (a+4) 4))).setCell ⟨U1.heap.size,2,.none⟩ (.slice .none 0 0)).setCell ⟨U1.heap.size,3,.none⟩ (.int .u64 (num B (a+40) 8))).cell? ⟨1,20,.none⟩=some (.int .u64 0)):=⟨⟨(HLw.out.below bF).s0 3 (by omega),(HLw.out.below bF).s1 3 (by omega),(HLw.out.below bF).s2 3 (by omega)⟩,⟨(HLw.out.below bF).s0 1 (by omega),(HLw.out.below bF).s1 1 (by omega),(HLw.out.below bF).s2 1 (by omega)⟩,⟨(HLw.out.below bF).s0 6 (by omega),(HLw.out.below bF).s1 6 (by omega),(HLw.out.below bF).s2 6 (by omega)⟩⟩
       go_simp
       refine hK.out _ _ kF (fun hHeld=>?_)
       clear hK K
       try simp only[xX]
       refine wpAnyH_done (by kernel_rfl) ?_ _
       clear hHeld
       go_wp2_with fail
       go_meet
       case rel=>exact⟨_,rfl,cF,bF,hxA⟩
     ·
      go_simp
      have bA:Below w.heap.size w (U0.alloc (.cells #[.int .u64 0,.int .u32 0,.slice .none 0 0,.int .u64 0] 38)):=(b_U0).alloc (b_U0).size _
      have cA:C4 (U0.alloc (.cells #[.int .u64 0,.int .u32 0,.slice .none 0 0,.int .u64 0] 38)) U0.heap.size _ _ _ _:=C4.new U0 (.int .u64 0) (.int .u32 0) (.slice .none 0 0) (.int .u64 0) 38
      have kA:((U0.alloc (.cells #[.int .u64 0,.int .u32 0,.slice .none 0 0,.int .u64 0] 38)).cell? ⟨1,9,.none⟩=some (.int .i64 16)∧(U0.alloc (.cells #[.int .u64 0,.int .u32 0,.slice .none 0 0,.int .u64 0] 38)).cell? ⟨1,10,.none⟩=some (.int .i64 8)∧(U0.alloc (.cells #[.int .u64 0,.int .u32 0,.slice .none 0 0,.int .u64 0] 38)).cell? ⟨1,11,.none⟩=some (.int .u64 0))∧((U0.alloc (.cells #[.int .u64 0,.int .u32 0,.slice .none 0 0,.int .u64 0] 38)).cell? ⟨1,3,.none⟩=some (.int .i64 4)∧(U0.alloc (.cells #[.int .u64 0,.int .u32 0,.slice .none 0 0,.int .u64 0] 38)).cell? ⟨1,4,.none⟩=some (.int .i64 4)∧(U0.alloc (.cells #[.int .u64 0,.int .u32 0,.slice .none 0 0,.int .u64 0] 38)).cell? ⟨1,5,.none⟩=some (.int .u64 0))∧((U0.alloc (.cells #[.int .u64 0,.int .u32 0,.slice .none 0 0,.int .u64 0] 38)).cell? ⟨1,18,.none⟩=some (.int .i64 40)∧(U0.alloc (.cells #[.int .u64 0,.int .u32 0,.slice .none 0 0,.int .u64 0] 38)).cell? ⟨1,19,.none⟩=some (.int .i64 8)∧(U0.alloc (.cells #[.int .u64 0,.int .u32 0,.slice .none 0 0,.int .u64 0] 38)).cell? ⟨1,20,.none⟩=some (.int .u64 0)):=⟨⟨(HLw.out.below bA).s0 3 (by omega),(HLw.out.below bA).s1 3 (by omega),(HLw.out.below bA).s2 3 (by omega)⟩,⟨(HLw.out.below bA).s0 1 (by omega),(HLw.out.below bA).s1 1 (by omega),(HLw.out.below bA).s2 1 (by omega)⟩,⟨(HLw.out.below bA).s0 6 (by omega),(HLw.out.below bA).s1 6 (by omega),(HLw.out.below bA).s2 6 (by omega)⟩⟩
      have hxA:w.heap.size<=U0.heap.size:=(b_U0).size
      refine hK.out _ _ kA (fun hHeld=>?_)
      clear hK K
      try simp only[xX]
      refine zR 7 rfl (fun K hK=>?_)
      go_simp
      go_at_call 176
      refine(inS_any (HRw.out.fil.row.keep bA) HRw.out.fil.bd a ha 4 4 0 (by omega) (by omega) (by omega)).mono ?_
      rintro e U1 ⟨rfl,hb_U1⟩
      have b_U1:Below w.heap.size w U1:=(bA).trans (hb_U1.mono (bA).size)
      have kU1:(U1.cell? ⟨1,9,.none⟩=some (.int .i64 16)∧U1.cell? ⟨1,10,.none⟩=some (.int .i64 8)∧U1.cell? ⟨1,11,.none⟩=some (.int .u64 0))∧(U1.cell? ⟨1,3,.none⟩=some (.int .i64 4)∧U1.cell? ⟨1,4,.none⟩=some (.int .i64 4)∧U1.cell? ⟨1,5,.none⟩=some (.int .u64 0))∧(U1.cell? ⟨1,18,.none⟩=some (.int .i64 40)∧U1.cell? ⟨1,19,.none⟩=some (.int .i64 8)∧U1.cell? ⟨1,20,.none⟩=some (.int .u64 0)):=⟨⟨(HLw.out.below b_U1).s0 3 (by omega),(HLw.out.below b_U1).s1 3 (by omega),(HLw.out.below b_U1).s2 3 (by omega)⟩,⟨(HLw.out.below b_U1).s0 1 (by omega),(HLw.out.below b_U1).s1 1 (by omega),(HLw.out.below b_U1).s2 1 (by omega)⟩,⟨(HLw.out.below b_U1).s0 6 (by omega),(HLw.out.below b_U1).s1 6 (by omega),(HLw.out.below b_U1).s2 6 (by omega)⟩⟩
      have cU1:=cA.below hb_U1
      refine hK.out _ _ kU1 (fun hHeld=>?_)
      clear hK K
      try simp only[xX]
      refine aT 8 (.int .u32 (num B (a+4) 4)) rfl ?_
      simp only[xX]
      refine zR 12 rfl (fun K hK=>?_)
      go_simp
      go_at_call 176
      refine(inS_any (HRw.out.fil.row.keep b_U1) HRw.out.fil.bd a ha 40 8 0 (by omega) (by omega) (by omega)).mono ?_
      rintro e U2 ⟨rfl,hb_U2⟩
      have b_U2:Below w.heap.size w U2:=(b_U1).trans (hb_U2.mono (b_U1).size)
      have kU2:(U2.cell? ⟨1,9,.none⟩=some (.int .i64 16)∧U2.cell? ⟨1,10,.none⟩=some (.int .i64 8)∧U2.cell? ⟨1,11,.none⟩=some (.int .u64 0))∧(U2.cell? ⟨1,3,.none⟩=some (.int .i64 4)∧U2.cell? ⟨1,4,.none⟩=some (.int .i64 4)∧U2.cell? ⟨1,5,.none⟩=some (.int .u64 0))∧(U2.cell? ⟨1,18,.none⟩=some (.int .i64 40)∧U2.cell? ⟨1,19,.none⟩=some (.int .i64 8)∧U2.cell? ⟨1,20,.none⟩=some (.int .u64 0)):=⟨⟨(HLw.out.below b_U2).s0 3 (by omega),(HLw.out.below b_U2).s1 3 (by omega),(HLw.out.below b_U2).s2 3 (by omega)⟩,⟨(HLw.out.below b_U2).s0 1 (by omega),(HLw.out.below b_U2).s1 1 (by omega),(HLw.out.below b_U2).s2 1 (by omega)⟩,⟨(HLw.out.below b_U2).s0 6 (by omega),(HLw.out.below b_U2).s1 6 (by omega),(HLw.out.below b_U2).s2 6 (by omega)⟩⟩
      have cU2:=cU1.below hb_U2
      refine hK.out _ _ kU2 (fun hHeld=>?_)
      clear hK K
      try simp only[xX]
      refine aT 13 (.agg #[.int .u64 (num B (a+16) 8),.int .u32 (num B (a+4) 4),.slice .none 0 0,.int .u64 (num B (a+40) 8)]) rfl ?_
      simp only[xX]
      refine zR 15 rfl (fun K hK=>?_)
      obtain⟨y0,y1,y2,y3,y4⟩:=cU2
      have z0:=y4 0
      have z1:=y4 1
      have z2:=y4 2
      have z3:=y4 3
      have bF:Below w.heap.size w ((((U2.setCell ⟨U0.heap.size,0,.none⟩ (.int .u64 (num B (a+16) 8))).setCell ⟨U0.heap.size,1,.none⟩ (.int .u32 (num B (a+4) 4))).setCell ⟨U0.heap.size,2,.none⟩ (.slice .none 0 0)).setCell ⟨U0.heap.size,3,.none⟩ (.int .u64 (num B (a+40) 8))):=((((b_U2).setCell (p:=⟨U0.heap.size,0,.none⟩) hxA _).setCell (p:=⟨U0.heap.size,1,.none⟩) hxA _).setCell (p:=⟨U0.heap.size,2,.none⟩) hxA _).setCell (p:=⟨U0.heap.size,3,.none⟩) hxA _
      have cF:=C4.set (⟨y0,y1,y2,y3,y4⟩:C4 U2 U0.heap.size _ _ _ _) (.int .u64 (num B (a+16) 8)) (.int .u32 (num B (a+4) 4)) (.slice .none 0 0) (.int .u64 (num B (a+40) 8))
      have kF:(((((U2.setCell ⟨U0.heap.size,0,.none⟩ (.int .u64 (num B (a+16) 8))).setCell ⟨U0.heap.size,1,.none⟩ (.int .u32 (num B (a+4) 4))).setCell ⟨U0.heap.size,2,.none⟩ (.slice .none 0 0)).setCell ⟨U0.heap.size,3,.none⟩ (.int .u64 (num B (a+40) 8))).cell? ⟨1,9,.none⟩=some (.int .i64 16)∧((((U2.setCell ⟨U0.heap.size,0,.none⟩ (.int .u64 (num B (a+16) 8))).setCell ⟨U0.heap.size,1,.none⟩ (.int .u32 (num B (a+4) 4))).setCell ⟨U0.heap.size,2,.none⟩ (.slice .none 0 0)).setCell ⟨U0.heap.size,3,.none⟩ (.int .u64 (num B (a+40) 8))).cell? ⟨1,10,.none⟩=some (.int .i64 8)∧((((U2.setCell ⟨U0.heap.size,0,.none⟩ (.int .u64 (num B (a+16) 8))).setCell ⟨U0.heap.size,1,.none⟩ (.int .u32 (num B (a+4) 4))).setCell ⟨U0.heap.size,2,.none⟩ (.slice .none 0 0)).setCell ⟨U0.heap.size,3,.none⟩ (.int .u64 (num B (a+40) 8))).cell? ⟨1,11,.none⟩=some (.int .u64 0))∧(((((U2.setCell ⟨U0.heap.size,0,.none⟩ (.int .u64 (num B (a+16) 8))).setCell ⟨U0.heap.size,1,.none⟩ (.int .u32 (num B (a+4) 4))).setCell ⟨U0.heap.size,2,.none⟩ (.slice .none 0 0)).setCell ⟨U0.heap.size,3,.none⟩ (.int .u64 (num B (a+40) 8))).cell? ⟨1,3,.none⟩=some (.int .i64 4)∧((((U2.setCell ⟨U0.heap.size,0,.none⟩ (.int .u64 (num B (a+16) 8))).setCell ⟨U0.heap.size,1,.none⟩ (.int .u32 (num B (a+4) 4))).setCell ⟨U0.heap.size,2,.none⟩ (.slice .none 0 0)).setCell ⟨U0.heap.size,3,.none⟩ (.int .u64 (num B (a+40) 8))).cell? ⟨1,4,.none⟩=some (.int .i64 4)∧((((U2.setCell ⟨U0.heap.size,0,.none⟩ (.int .u64 (num B (a+16) 8))).setCell ⟨U0.heap.size,1,.none⟩ (.int .u32 (num B (a+4) 4))).setCell ⟨U0.heap.size,2,.none⟩ (.slice .none 0 0)).setCell ⟨U0.heap.size,3,.none⟩ (.int .u64 (num B (a+40) 8))).cell? ⟨1,5,.none⟩=some (.int .u64 0))∧(((((U2.setCell ⟨U0.heap.size,0,.none⟩ (.int .u64 (num B (a+16) 8))).setCell ⟨U0.heap.size,1,.none⟩ (.int .u32 (num B (a+4) 4))).setCell ⟨U0.heap.size,2,.none⟩ (.slice .none 0 0)).setCell ⟨U0.heap.size,3,.none⟩ (.int .u64 (num B (a+40) 8))).cell? ⟨1,18,.none⟩=some (.int .i64 40)∧((((U2.setCell ⟨U0.heap.size,0,.none⟩ (.int .u64 (num B (a+16) 8))).setCell ⟨U0.heap.size,1,.none⟩ (.int .u32 (num B (a+4) 4))).setCell ⟨U0.heap.size,2,.none⟩ (.slice .none 0 0)).setCell ⟨U0.heap.size,3,.none⟩ (.int .u64 (num B (a+40) 8))).cell? ⟨1,19,.none⟩=some (.int .i64 8)∧((((U2.setCell ⟨U0.heap.size,0,.none⟩ (.int .u64 (num B (a+16) 8))).setCell ⟨U0.heap.size,1,.none⟩ (.int .u32 (num B (a+4) 4))).setCell ⟨U0.heap.size,2,.none⟩ (.slice .none 0 0)).setCell ⟨U0.heap.size,3,.none⟩ (.int .u64 (num B (a+40) 8))).cell? ⟨1,20,.none⟩=some (.int .u64 0)):=⟨⟨(HLw.out.below bF).s0 3 (by omega),(HLw.out.below bF).s1 3 (by omega),(HLw.out.below bF).s2 3 (by omega)⟩,⟨(HLw.out.below bF).s0 1 (by omega),(HLw.out.below bF).s1 1 (by omega),(HLw.out.below bF).s2 1 (by omega)⟩,⟨(HLw.out.below bF).s0 6 (by omega),(HLw.out.below bF).s1 6 (by omega),(HLw.out.below bF).s2 6 (by omega)⟩⟩
      go_simp
      refine hK.out _ _ kF (fun hHeld=>?_)
      clear hK K
      try simp only[xX]
      refine wpAnyH_done (by kernel_rfl) ?_ _
      clear hHeld
      go_wp2_with fail
      go_meet
      case rel=>exact⟨_,rfl,cF,bF,hxA⟩
    ·
     go_simp
     have bA:Below w.heap.size w (V1.drew.alloc (.cells #[.int .u64 0,.int .u32 0,.slice .none 0 0,.int .u64 0] 38)):=(bw1).alloc (bw1).size _
     have cA:C4 (V1.drew.alloc (.cells #[.int .u64 0,.int .u32 0,.slice .none 0 0,.int .u64 0] 38)) V1.heap.size _ _ _ _:=C4.new V1.drew (.int .u64 0) (.int .u32 0) (.slice .none 0 0) (.int .u64 0) 38
     have kA:((V1.drew.alloc (.cells #[.int .u64 0,.int .u32 0,.slice .none 0 0,.int .u64 0] 38)).cell? ⟨1,9,.none⟩=some (.int .i64 16)∧(V1.drew.alloc (.cells #[.int .u64 0,.int .u32 0,.slice .none 0 0,.int .u64 0] 38)).cell? ⟨1,10,.none⟩=some (.int .i64 8)∧(V1.drew.alloc (.cells #[.int .u64 0,.int .u32 0,.slice .none 0 0,.int .u64 0] 38)).cell? ⟨1,11,.none⟩=some (.int .u64 0))∧((V1.drew.alloc (.cells #[.int .u64 0,.int .u32 0,.slice .none 0 0,.int .u64 0] 38)).cell? ⟨1,3,.none⟩=some (.int .i64 4)∧(V1.drew.alloc (.cells #[.int .u64 0,.int .u32 0,.slice .none 0 0,.int .u64 0] 38)).cell? ⟨1,4,.none⟩=some (.int .i64 4)∧(V1.drew.alloc (.cells #[.int .u64 0,.int .u32 0,.slice .none 0 0,.int .u64 0] 38)).cell? ⟨1,5,.none⟩=some (.int .u64 0))∧((V1.drew.alloc (.cells #[.int .u64 0,.int .u32 0,.slice .none 0 0,.int .u64 0] 38)).cell? ⟨1,18,.none⟩=some (.int .i64 40)∧(V1.drew.alloc (.cells #[.int .u64 0,.int .u32 0,.slice .none 0 0,.int .u64 0] 38)).cell? ⟨1,19,.none⟩=some (.int .i64 8)∧(V1.drew.alloc (.cells #[.int .u64 0,.int .u32 0,.slice .none 0 0,.int .u64 0] 38)).cell? ⟨1,20,.none⟩=some (.int .u64 0)):=⟨⟨(HLw.out.below bA).s0 3 (by omega),(HLw.out.below bA).s1 3 (by omega),(HLw.out.below bA).s2 3 (by omega)⟩,⟨(HLw.out.below bA).s0 1 (by omega),(HLw.out.below bA).s1 1 (by omega),(HLw.out.below bA).s2 1 (by omega)⟩,⟨(HLw.out.below bA).s0 6 (by omega),(HLw.out.below bA).s1 6 (by omega),(HLw.out.below bA).s2 6 (by omega)⟩⟩
     have hxA:w.heap.size<=V1.heap.size:=(bw1).size
     refine hK.out _ _ kA (fun hHeld=>?_)
     clear hK K
     try simp only[xX]
     refine zR 3 rfl (fun K hK=>?_)
     go_simp
     go_at_call 176
     refine(inS_any (HRw.out.fil.row.keep bA) HRw.out.fil.bd a ha 16 8 0 (by omega) (by omega) (by omega)).mono ?_
     rintro e U0 ⟨rfl,hb_U0⟩
     have b_U0:Below w.heap.size w U0:=(bA).trans (hb_U0.mono (bA).size)
     have kU0:(U0.cell? ⟨1,9,.none⟩=some (.int .i64 16)∧U0.cell? ⟨1,10,.none⟩=some (.int .i64 8)∧U0.cell? ⟨1,11,.none⟩=some (.int .u64 0))∧(U0.cell? ⟨1,3,.none⟩=some (.int .i64 4)∧U0.cell? ⟨1,4,.none⟩=some (.int .i64 4)∧U0.cell? ⟨1,5,.none⟩=some (.int .u64 0))∧(U0.cell? ⟨1,18,.none⟩=some (.int .i64 40)∧U0.cell? ⟨1,19,.none⟩=some (.int .i64 8)∧U0.cell? ⟨1,20,.none⟩=some (.int .u64 0)):=⟨⟨(HLw.out.below b_U0).s0 3 (by omega),(HLw.out.below b_U0).s1 3 (by omega),(HLw.out.below b_U0).s2 3 (by omega)⟩,⟨(HLw.out.below b_U0).s0 1 (by omega),(HLw.out.below b_U0).s1 1 (by omega),(HLw.out.below b_U0).s2 1 (by omega)⟩,⟨(HLw.out.below b_U0).s0 6 (by omega),(HLw.out.below b_U0).s1 6 (by omega),(HLw.out.below b_U0).s2 6 (by omega)⟩⟩
     have cU0:=cA.below hb_U0
     refine hK.out _ _ kU0 (fun hHeld=>?_)
     clear hK K
     try simp only[xX]
     refine zR 7 rfl (fun K hK=>?_)
     go_simp
     go_at_call 176
     refine(inS_any (HRw.out.fil.row.keep b_U0) HRw.out.fil.bd a ha 4 4 0 (by omega) (by omega) (by omega)).mono ?_
     rintro e U1 ⟨rfl,hb_U1⟩
     have b_U1:Below w.heap.size w U1:=(b_U0).trans (hb_U1.mono (b_U0).size)
     have kU1:(U1.cell? ⟨1,9,.none⟩=some (.int .i64 16)∧U1.cell? ⟨1,10,.none⟩=some (.int .i64 8)∧U1.cell? ⟨1,11,.none⟩=some (.int .u64 0))∧(U1.cell? ⟨1,3,.none⟩=some (.int .i64 4)∧U1.cell? ⟨1,4,.none⟩=some (.int .i64 4)∧U1.cell? ⟨1,5,.none⟩=some (.int .u64 0))∧(U1.cell? ⟨1,18,.none⟩=some (.int .i64 40)∧U1.cell? ⟨1,19,.none⟩=some (.int .i64 8)∧U1.cell? ⟨1,20,.none⟩=some (.int .u64 0)):=⟨⟨(HLw.out.below b_U1).s0 3 (by omega),(HLw.out.below b_U1).s1 3 (by omega),(HLw.out.below b_U1).s2 3 (by omega)⟩,⟨(HLw.out.below b_U1).s0 1 (by omega),(HLw.out.below b_U1).s1 1 (by omega),(HLw.out.below b_U1).s2 1 (by omega)⟩,⟨(HLw.out.below b_U1).s0 6 (by omega),(HLw.out.below b_U1).s1 6 (by omega),(HLw.out.below b_U1).s2 6 (by omega)⟩⟩
     have cU1:=cU0.below hb_U1
     refine hK.out _ _ kU1 (fun hHeld=>?_)
     clear hK K
     try simp only[xX]
     refine aT 8 (.int .u32 (num B (a+4) 4)) rfl ?_
     simp only[xX]
     refine zR 12 rfl (fun K hK=>?_)
     go_simp
     go_at_call 176
     refine(inS_any (HRw.out.fil.row.keep b_U1) HRw.out.fil.bd a ha 40 8 0 (by omega) (by omega) (by omega)).mono ?_
     rintro e U2 ⟨rfl,hb_U2⟩
     have b_U2:Below w.heap.size w U2:=(b_U1).trans (hb_U2.mono (b_U1).size)
     have kU2:(U2.cell? ⟨1,9,.none⟩=some (.int .i64 16)∧U2.cell? ⟨1,10,.none⟩=some (.int .i64 8)∧U2.cell? ⟨1,11,.none⟩=some (.int .u64 0))∧(U2.cell? ⟨1,3,.none⟩=some (.int .i64 4)∧U2.cell? ⟨1,4,.none⟩=some (.int .i64 4)∧U2.cell? ⟨1,5,.none⟩=some (.int .u64 0))∧(U2.cell? ⟨1,18,.none⟩=some (.int .i64 40)∧U2.cell? ⟨1,19,.none⟩=some (.int .i64 8)∧U2.cell? ⟨1,20,.none⟩=some (.int .u64 0)):=⟨⟨(HLw.out.below b_U2).s0 3 (by omega),(HLw.out.below b_U2).s1 3 (by omega),(HLw.out.below b_U2).s2 3 (by omega)⟩,⟨(HLw.out.below b_U2).s0 1 (by omega),(HLw.out.below b_U2).s1 1 (by omega),(HLw.out.below b_U2).s2 1 (by omega)⟩,⟨(HLw.out.below b_U2).s0 6 (by omega),(HLw.out.below b_U2).s1 6 (by omega),(HLw.out.below b_U2).s2 6 (by omega)⟩⟩
     have cU2:=cU1.below hb_U2
     refine hK.out _ _ kU2 (fun hHeld=>?_)
     clear hK K
     try simp only[xX]
     refine aT 13 (.agg #[.int .u64 (num B (a+16) 8),.int .u32 (num B (a+4) 4),.slice .none 0 0,.int .u64 (num B (a+40) 8)]) rfl ?_
     simp only[xX]
     refine zR 15 rfl (fun K hK=>?_)
     obtain⟨y0,y1,y2,y3,y4⟩:=cU2
     have z0:=y4 0
     have z1:=y4 1
     have z2:=y4 2
     have z3:=y4 3
     have bF:Below w.heap.size w ((((U2.setCell ⟨V1.heap.size,0,.none⟩ (.int .u64 (num B (a+16) 8))).setCell ⟨V1.heap.size,1,.none⟩ (.int .u32 (num B (a+4) 4))).setCell ⟨V1.heap.size,2,.none⟩ (.slice .none 0 0)).setCell ⟨V1.heap.size,3,.none⟩ (.int .u64 (num B (a+40) 8))):=((((b_U2).setCell (p:=⟨V1.heap.size,0,.none⟩) hxA _).setCell (p:=⟨V1.heap.size,1,.none⟩) hxA _).setCell (p:=⟨V1.heap.size,2,.none⟩) hxA _).setCell (p:=⟨V1.heap.size,3,.none⟩) hxA _
     have cF:=C4.set (⟨y0,y1,y2,y3,y4⟩:C4 U2 V1.heap.size _ _ _ _) (.int .u64 (num B (a+16) 8)) (.int .u32 (num B (a+4) 4)) (.slice .none 0 0) (.int .u64 (num B (a+40) 8))
     have kF:(((((U2.setCell ⟨V1.heap.size,0,.none⟩ (.int .u64 (num B (a+16) 8))).setCell ⟨V1.heap.size,1,.none⟩ (.int .u32 (num B (a+4) 4))).setCell ⟨V1.heap.size,2,.none⟩ (.slice .none 0 0)).setCell ⟨V1.heap.size,3,.none⟩ (.int .u64 (num B (a+40) 8))).cell? ⟨1,9,.none⟩=some (.int .i64 16)∧((((U2.setCell ⟨V1.heap.size,0,.none⟩ (.int .u64 (num B (a+16) 8))).setCell ⟨V1.heap.size,1,.none⟩ (.int .u32 (num B (a+4) 4))).setCell ⟨V1.heap.size,2,.none⟩ (.slice .none 0 0)).setCell ⟨V1.heap.size,3,.none⟩ (.int .u64 (num B (a+40) 8))).cell? ⟨1,10,.none⟩=some (.int .i64 8)∧((((U2.setCell ⟨V1.heap.size,0,.none⟩ (.int .u64 (num B (a+16) 8))).setCell ⟨V1.heap.size,1,.none⟩ (.int .u32 (num B (a+4) 4))).setCell ⟨V1.heap.size,2,.none⟩ (.slice .none 0 0)).setCell ⟨V1.heap.size,3,.none⟩ (.int .u64 (num B (a+40) 8))).cell? ⟨1,11,.none⟩=some (.int .u64 0))∧(((((U2.setCell ⟨V1.heap.size,0,.none⟩ (.int .u64 (num B (a+16) 8))).setCell ⟨V1.heap.size,1,.none⟩ (.int .u32 (num B (a+4) 4))).setCell ⟨V1.heap.size,2,.none⟩ (.slice .none 0 0)).setCell ⟨V1.heap.size,3,.none⟩ (.int .u64 (num B (a+40) 8))).cell? ⟨1,3,.none⟩=some (.int .i64 4)∧((((U2.setCell ⟨V1.heap.size,0,.none⟩ (.int .u64 (num B (a+16) 8))).setCell ⟨V1.heap.size,1,.none⟩ (.int .u32 (num B (a+4) 4))).setCell ⟨V1.heap.size,2,.none⟩ (.slice .none 0 0)).setCell ⟨V1.heap.size,3,.none⟩ (.int .u64 (num B (a+40) 8))).cell? ⟨1,4,.none⟩=some (.int .i64 4)∧((((U2.setCell ⟨V1.heap.size,0,.none⟩ (.int .u64 (num B (a+16) 8))).setCell ⟨V1.heap.size,1,.none⟩ (.int .u32 (num B (a+4) 4))).setCell ⟨V1.heap.size,2,.none⟩ (.slice .none 0 0)).setCell ⟨V1.heap.size,3,.none⟩ (.int .u64 (num B (a+40) 8))).cell? ⟨1,5,.none⟩=some (.int .u64 0))∧(((((U2.setCell ⟨V1.heap.size,0,.none⟩ (.int .u64 (num B (a+16) 8))).setCell ⟨V1.heap.size,1,.none⟩ (.int .u32 (num B (a+4) 4))).setCell ⟨V1.heap.size,2,.none⟩ (.slice .none 0 0)).setCell ⟨V1.heap.size,3,.none⟩ (.int .u64 (num B (a+40) 8))).cell? ⟨1,18,.none⟩=some (.int .i64 40)∧((((U2.setCell ⟨V1.heap.size,0,.none⟩ (.int .u64 (num B (a+16) 8))).setCell ⟨V1.heap.size,1,.none⟩ (.int .u32 (num B (a+4) 4))).setCell ⟨V1.heap.size,2,.none⟩ (.slice .none 0 0)).setCell ⟨V1.heap.size,3,.none⟩ (.int .u64 (num B (a+40) 8))).cell? ⟨1,19,.none⟩=some (.int .i64 8)∧((((U2.setCell ⟨V1.heap.size,0,.none⟩ (.int .u64 (num B (a+16) 8))).setCell ⟨V1.heap.size,1,.none⟩ (.int .u32 (num B (a+4) 4))).setCell ⟨V1.heap.size,2,.none⟩ (.slice .none 0 0)).setCell ⟨V1.heap.size,3,.none⟩ (.int .u64 (num B (a+40) 8))).cell? ⟨1,20,.none⟩=some (.int .u64 0)):=⟨⟨(HLw.out.below bF).s0 3 (by omega),(HLw.out.below bF).s1 3 (by omega),(HLw.out.below bF).s2 3 (by omega)⟩,⟨(HLw.out.below bF).s0 1 (by omega),(HLw.out.below bF).s1 1 (by omega),(HLw.out.below bF).s2 1 (by omega)⟩,⟨(HLw.out.below bF).s0 6 (by omega),(HLw.out.below bF).s1 6 (by omega),(HLw.out.below bF).s2 6 (by omega)⟩⟩
     go_simp
     refine hK.out _ _ kF (fun hHeld=>?_)
     clear hK K
     try simp only[xX]
     refine wpAnyH_done (by kernel_rfl) ?_ _
     clear hHeld
     go_wp2_with fail
     go_meet
     case rel=>exact⟨_,rfl,cF,bF,hxA⟩
   case rest=>
    obtain⟨x,rfl,HX⟩:=hcut
    have bw5:Below w.heap.size w wc.drew:=(HX.out.2.1).drew
    have kS:(wc.drew.cell? ⟨1,6,.none⟩=some (.int .i64 8)∧wc.drew.cell? ⟨1,7,.none⟩=some (.int .i64 8)∧wc.drew.cell? ⟨1,8,.none⟩=some (.int .u64 0))∧(wc.drew.cell? ⟨1,15,.none⟩=some (.int .i64 32)∧wc.drew.cell? ⟨1,16,.none⟩=some (.int .i64 8)∧wc.drew.cell? ⟨1,17,.none⟩=some (.int .u64 0)):=⟨⟨(HLw.out.below bw5).s0 2 (by omega),(HLw.out.below bw5).s1 2 (by omega),(HLw.out.below bw5).s2 2 (by omega)⟩,⟨(HLw.out.below bw5).s0 5 (by omega),(HLw.out.below bw5).s1 5 (by omega),(HLw.out.below bw5).s2 5 (by omega)⟩⟩
    go_upto_region 5 with fail
    refine wp_region_held_drew (S:=fun U2=>(U2.cell? ⟨1,6,.none⟩=some (.int .i64 8)∧U2.cell? ⟨1,7,.none⟩=some (.int .i64 8)∧U2.cell? ⟨1,8,.none⟩=some (.int .u64 0))∧(U2.cell? ⟨1,15,.none⟩=some (.int .i64 32)∧U2.cell? ⟨1,16,.none⟩=some (.int .i64 8)∧U2.cell? ⟨1,17,.none⟩=some (.int .u64 0))) (by kernel_rfl) kS (fun hHeld=>?_)
    refine aT 0 (.pointer (some ⟨1,6,.none⟩)) rfl ?_
    simp only[xX]
    refine aT 1 (.agg #[.int .i64 8,.int .i64 8,.int .u64 0]) rfl ?_
    simp only[xX]
    refine aT 2 (.slice (some ⟨b,o+a,.none⟩) 56 56) rfl ?_
    simp only[xX]
    refine aT 4 (.pointer (some ⟨1,15,.none⟩)) rfl ?_
    simp only[xX]
    refine aT 5 (.agg #[.int .i64 32,.int .i64 8,.int .u64 0]) rfl ?_
    simp only[xX]
    refine aT 6 (.slice (some ⟨b,o+a,.none⟩) 56 56) rfl ?_
    simp only[xX]
    refine zR 3 rfl (fun K hK=>?_)
    go_simp
    go_at_call 176
    refine(inS_any (HRw.out.fil.row.keep bw5) HRw.out.fil.bd a ha 8 8 0 (by omega) (by omega) (by omega)).mono ?_
    rintro e V2 ⟨rfl,hb_V2⟩
    have b_V2:Below w.heap.size w V2:=(bw5).trans (hb_V2.mono (bw5).size)
    have k2:(V2.cell? ⟨1,6,.none⟩=some (.int .i64 8)∧V2.cell? ⟨1,7,.none⟩=some (.int .i64 8)∧V2.cell? ⟨1,8,.none⟩=some (.int .u64 0))∧(V2.cell? ⟨1,15,.none⟩=some (.int .i64 32)∧V2.cell? ⟨1,16,.none⟩=some (.int .i64 8)∧V2.cell? ⟨1,17,.none⟩=some (.int .u64 0)):=⟨⟨(HLw.out.below b_V2).s0 2 (by omega),(HLw.out.below b_V2).s1 2 (by omega),(HLw.out.below b_V2).s2 2 (by omega)⟩,⟨(HLw.out.below b_V2).s0 5 (by omega),(HLw.out.below b_V2).s1 5 (by omega),(HLw.out.below b_V2).s2 5 (by omega)⟩⟩
    refine hK.out _ _ k2 (fun hHeld=>?_)
    clear hK K
    try simp only[xX]
    refine zR 7 rfl (fun K hK=>?_)
    go_simp
    go_at_call 176
    refine(inS_any (HRw.out.fil.row.keep b_V2) HRw.out.fil.bd a ha 32 8 0 (by omega) (by omega) (by omega)).mono ?_
    rintro e V3 ⟨rfl,hb_V3⟩
    have b_V3:Below w.heap.size w V3:=(b_V2).trans (hb_V3.mono (b_V2).size)
    have k3:(V3.cell? ⟨1,6,.none⟩=some (.int .i64 8)∧V3.cell? ⟨1,7,.none⟩=some (.int .i64 8)∧V3.cell? ⟨1,8,.none⟩=some (.int .u64 0))∧(V3.cell? ⟨1,15,.none⟩=some (.int .i64 32)∧V3.cell? ⟨1,16,.none⟩=some (.int .i64 8)∧V3.cell? ⟨1,17,.none⟩=some (.int .u64 0)):=⟨⟨(HLw.out.below b_V3).s0 2 (by omega),(HLw.out.below b_V3).s1 2 (by omega),(HLw.out.below b_V3).s2 2 (by omega)⟩,⟨(HLw.out.below b_V3).s0 5 (by omega),(HLw.out.below b_V3).s1 5 (by omega),(HLw.out.below b_V3).s2 5 (by omega)⟩⟩
    refine hK.out _ _ k3 (fun hHeld=>?_)
    clear hK K
    try simp only[xX]
    refine aT 8 (.int .u64 (num B (a+8) 8)) rfl ?_
    simp only[xX]
    refine aT 9 (.int .u64 (num B (a+32) 8)) rfl ?_
    simp only[xX]
    refine wpAnyH_done (by kernel_rfl) ?_ _
    have HC1:Hid (C4 V3 x (.int .u64 (num B (a+16) 8)) (.int .u32 (num B (a+4) 4)) (.slice .none 0 0) (.int .u64 (num B (a+40) 8))):=(HX.out.1.below (zB.drew)).below (hb_V2.trans (hb_V3.mono hb_V2.size))
    have HB3:Hid (Below w.heap.size w V3):=b_V3
    clear hHeld kS k2 k3 b_V2 hb_V2 hb_V3 bw5 b_V3
    have y0:=HC1.out.a
    have y1:=HC1.out.b
    have y2:=HC1.out.c
    have y3:=HC1.out.d
    have c36:=mayBe_any (num B (a+16) 8) (num B (a+4) 4) (num B (a+32) 8) (num B (a+40) 8) (.slice .none 0 0) V3 hsb.1 hsb.2.1 hsb.2.2.2.2 hsb.2.2.1 ⟨_,_,_,rfl⟩
    have ez:((sgOf B a).sz:Int)=num B (a+32) 8:=Int.toNat_of_nonneg hsb.2.2.2.2.1
    have ew:((sgOf B a).wh:Int)=num B (a+8) 8:=Int.toNat_of_nonneg hsb.2.2.2.1.1
    cases hok:ok1 (num B (a+16) 8) (num B (a+4) 4) (num B (a+32) 8) (num B (a+40) 8) with
    |false=>
     rw[hok] at c36
     go_wp2_with (first|(go_at_call 79;refine c36.mono ?_;rintro e V4 ⟨rfl,hb4⟩)|(go_at_call 175;refine(giveUp_any _ _ _).mono ?_;intro e w0 hu;obtain⟨v,rfl,hu2⟩:=id hu)|fail)
     have e1:=HST.out
     rw[if_neg h8,if_pos (by rw[ez];exact hok)] at e1
     refine⟨rfl,.inl ?_⟩
     rw[e1]
     exact⟨by simp,hu.x ((HRw.out.be.trans (HB3.out.mono HRw.out.be.size)).trans (hb4.mono (HRw.out.be.trans (HB3.out.mono HRw.out.be.size)).size))⟩
    |true=>
     rw[hok] at c36
     have hoks:ok1 (sgOf B a).va (sgOf B a).fl (sgOf B a).sz (sgOf B a).mem=true:=by rw[ez];exact hok
     by_cases hz:num B (a+32) 8=0
     ·have hzb:¬ (num B (a+32) 8 > 0):=by omega
      have hzs0:(sgOf B a).sz=0:=by omega
      have hzz:¬ (0<(sgOf B a).sz∧n<(sgOf B a).wh+(sgOf B a).sz):=by omega
      have hgd:Gd (sgOf B a):=ok1_gd hoks hsb.1.1 (by omega)
      have HZS:Hid ((sgOf B a).sz=0):=hzs0
      clear hzs0 hz
      go_upto_region 10 with(first|(go_at_call 79;refine c36.mono ?_;rintro e V4 ⟨rfl,hb4⟩)|fail)
      have HBt:Hid (Below w.heap.size w V4):=HB3.out.trans (hb4.mono HB3.out.size)
      have HC:Hid (C4 V4 x (.int .u64 (num B (a+16) 8)) (.int .u32 (num B (a+4) 4)) (.slice .none 0 0) (.int .u64 (num B (a+40) 8))):=HC1.out.below hb4
      have HDat:Hid (V4.ownsRow (rb+1) 5 1 (.slice .none 0 0) (sgOf B a).sz (by8 (byt B (sgOf B a)))):=by
       have e9:byt B (sgOf B a) = []:=by unfold byt;rw[HZS.out];rfl
       rw[HZS.out,e9]
       exact World.ownsRow_nil _ _ _ _
      clear c36 y0 y1 y2 y3 hb4
      have HR3:Hid (Rdr W0 V4.drew rb rs b o n c B E (.slice q E.length cs)):=(HRw.out.below HBt.out).below (zB.drew)
      have HC3:Hid (C4 V4.drew x (.int .u64 (num B (a+16) 8)) (.int .u32 (num B (a+4) 4)) (.slice .none 0 0) (.int .u64 (num B (a+40) 8))):=HC.out.below (zB.drew)
      have kT:V4.drew.cell? ⟨rb,1,.none⟩=some (.slice q E.length cs)∧(V4.drew.cell? ⟨x,0,.none⟩=some (.int .u64 (num B (a+16) 8))∧V4.drew.cell? ⟨x,1,.none⟩=some (.int .u32 (num B (a+4) 4)))∧V4.drew.cell? ⟨x,2,.none⟩=some (.slice .none 0 0)∧V4.drew.cell? ⟨x,3,.none⟩=some (.int .u64 (num B (a+40) 8)):=⟨HR3.out.c1,⟨⟨HC3.out.a,HC3.out.b⟩,HC3.out.c,HC3.out.d⟩⟩
      go_upto_region 10 with fail
      refine wp_region_held_drew (S:=fun U2=>U2.cell? ⟨rb,1,.none⟩=some (.slice q E.length cs)∧(U2.cell? ⟨x,0,.none⟩=some (.int .u64 (num B (a+16) 8))∧U2.cell? ⟨x,1,.none⟩=some (.int .u32 (num B (a+4) 4)))∧U2.cell? ⟨x,2,.none⟩=some (.slice .none 0 0)∧U2.cell? ⟨x,3,.none⟩=some (.int .u64 (num B (a+40) 8))) (by kernel_rfl) kT (fun hHeld=>?_)
      refine aT 0 (.pointer (some ⟨rb,0,.none⟩)) rfl ?_
      simp only[xX]
      refine aT 1 (.pointer (some ⟨rb,0,.none⟩)) rfl ?_
      simp only[xX]
      refine aT 2 (.pointer (some ⟨rb,1,.none⟩)) rfl ?_
      simp only[xX]
      refine aT 3 (.slice q E.length cs) rfl ?_
      simp only[xX]
      refine aT 4 (.agg #[(.int .u64 (num B (a+16) 8)),(.int .u32 (num B (a+4) 4)),(.slice .none 0 0),(.int .u64 (num B (a+40) 8))]) rfl ?_
      simp only[xX]
      refine zR 5 rfl (fun K hK=>?_)
      go_simp
      go_at_call 80
      refine(rises_any HR3.out.sg HR3.out.ln _ _ _ _ _ _).mono ?_
      rintro e Z1 ⟨rfl,hbZ⟩
      have HR4:Hid (Rdr W0 Z1 rb rs b o n c B E (.slice q E.length cs)):=HR3.out.below hbZ
      have HC4:Hid (C4 Z1 x (.int .u64 (num B (a+16) 8)) (.int .u32 (num B (a+4) 4)) (.slice .none 0 0) (.int .u64 (num B (a+40) 8))):=HC3.out.below hbZ
      have HD4:Hid (Z1.ownsRow (rb+1) 5 1 (.slice .none 0 0) (sgOf B a).sz (by8 (byt B (sgOf B a)))):=owns_below (owns_below HDat.out (zB.drew)) hbZ
      have kU:Z1.cell? ⟨rb,1,.none⟩=some (.slice q E.length cs)∧(Z1.cell? ⟨x,0,.none⟩=some (.int .u64 (num B (a+16) 8))∧Z1.cell? ⟨x,1,.none⟩=some (.int .u32 (num B (a+4) 4)))∧Z1.cell? ⟨x,2,.none⟩=some (.slice .none 0 0)∧Z1.cell? ⟨x,3,.none⟩=some (.int .u64 (num B (a+40) 8)):=⟨HR4.out.c1,⟨⟨HC4.out.a,HC4.out.b⟩,HC4.out.c,HC4.out.d⟩⟩
      clear hbZ
      refine hK.out _ _ kU (fun hHeld=>?_)
      clear hK K
      try simp only[xX]
      have ev:(sgOf B a).va=num B (a+16) 8:=rfl
      cases hri:ris (E.map (·.1)) (num B (a+16) 8) with
      |false=>
       refine aT 6 (.bool true) rfl ?_
       simp only[xX]
       refine wpAnyH_done (by kernel_rfl) ?_ _
       clear hHeld kT kU
       go_wp2_with (first|(go_at_call 175;refine(giveUp_any _ _ _).mono ?_;intro e w0 hu;obtain⟨v,rfl,hu2⟩:=id hu)|fail)
       have e1:=HST.out
       rw[if_neg h8,if_neg (by rw[hoks];decide),if_neg hzz,if_pos (by rw[ev,hri])] at e1
       refine⟨rfl,.inl ?_⟩
       rw[e1]
       exact⟨by simp,hu.x HR4.out.be⟩
      |true=>
       refine aT 6 (.bool false) rfl ?_
       simp only[xX]
       refine wpAnyH_done (by kernel_rfl) ?_ _
       clear hHeld kT kU HR3 HC3
       obtain⟨j1,hk0,hkz,hk1,hk2⟩:=info59
       have HR5:Hid (Rdr W0 Z1.drew rb rs b o n c B E (.slice q E.length cs)):=HR4.out.below (zB.drew)
       have HC5:Hid (C4 Z1.drew x (.int .u64 (num B (a+16) 8)) (.int .u32 (num B (a+4) 4)) (.slice .none 0 0) (.int .u64 (num B (a+40) 8))):=HC4.out.below (zB.drew)
       have HD5:Hid (Z1.drew.ownsRow (rb+1) 5 1 (.slice .none 0 0) (sgOf B a).sz (by8 (byt B (sgOf B a)))):=owns_below HD4.out (zB.drew)
       have k0:(Z1.drew.cell? ⟨x,0,.none⟩=some (.int .u64 (num B (a+16) 8))∧Z1.drew.cell? ⟨x,1,.none⟩=some (.int .u32 (num B (a+4) 4)))∧Z1.drew.cell? ⟨x,2,.none⟩=some (.slice .none 0 0)∧Z1.drew.cell? ⟨x,3,.none⟩=some (.int .u64 (num B (a+40) 8)):=⟨⟨HC5.out.a,HC5.out.b⟩,HC5.out.c,HC5.out.d⟩
       have kA:((Z1.drew.alloc (.cells #[(.int .u64 (num B (a+16) 8)),(.int .u32 (num B (a+4) 4)),(.slice .none 0 0),(.int .u64 (num B (a+40) 8))] 38)).cell? ⟨x,0,.none⟩=some (.int .u64 (num B (a+16) 8))∧(Z1.drew.alloc (.cells #[(.int .u64 (num B (a+16) 8)),(.int .u32 (num B (a+4) 4)),(.slice .none 0 0),(.int .u64 (num B (a+40) 8))] 38)).cell? ⟨x,1,.none⟩=some (.int .u32 (num B (a+4) 4)))∧(Z1.drew.alloc (.cells #[(.int .u64 (num B (a+16) 8)),(.int .u32 (num B (a+4) 4)),(.slice .none 0 0),(.int .u64 (num B (a+40) 8))] 38)).cell? ⟨x,2,.none⟩=some (.slice .none 0 0)∧(Z1.drew.alloc (.cells #[(.int .u64 (num B (a+16) 8)),(.int .u32 (num B (a+4) 4)),(.slice .none 0 0),(.int .u64 (num B (a+40) 8))] 38)).cell? ⟨x,3,.none⟩=some (.int .u64 (num B (a+40) 8)):=⟨⟨(HC5.out.below (zB.alloc zL (.cells #[(.int .u64 (num B (a+16) 8)),(.int .u32 (num B (a+4) 4)),(.slice .none 0 0),(.int .u64 (num B (a+40) 8))] 38))).a,(HC5.out.below (zB.alloc zL (.cells #[(.int .u64 (num B (a+16) 8)),(.int .u32 (num B (a+4) 4)),(.slice .none 0 0),(.int .u64 (num B (a+40) 8))] 38))).b⟩,(HC5.out.below (zB.alloc zL (.cells #[(.int .u64 (num B (a+16) 8)),(.int .u32 (num B (a+4) 4)),(.slice .none 0 0),(.int .u64 (num B (a+40) 8))] 38))).c,(HC5.out.below (zB.alloc zL (.cells #[(.int .u64 (num B (a+16) 8)),(.int .u32 (num B (a+4) 4)),(.slice .none 0 0),(.int .u64 (num B (a+40) 8))] 38))).d⟩
       have c1a:=HR5.out.c1
       have c1c:(Z1.alloc (.cells #[(.int .u64 (num B (a+16) 8)),(.int .u32 (num B (a+4) 4)),(.slice .none 0 0),(.int .u64 (num B (a+40) 8))] 38)).cell? ⟨rb,1,.none⟩=some (.slice q E.length cs):=(HR4.out.below (zB.alloc zL (.cells #[(.int .u64 (num B (a+16) 8)),(.int .u32 (num B (a+4) 4)),(.slice .none 0 0),(.int .u64 (num B (a+40) 8))] 38))).c1
       have hsz9:rb+1<=(Z1.drew.alloc (.cells #[(.int .u64 (num B (a+16) 8)),(.int .u32 (num B (a+4) 4)),(.slice .none 0 0),(.int .u64 (num B (a+40) 8))] 38)).heap.size:=Nat.le_trans HR5.out.hx ((Below.refl Z1.drew.heap.size Z1.drew).alloc zL _).size
       have c1b:=(HR5.out.below (zB.alloc zL (.cells #[(.int .u64 (num B (a+16) 8)),(.int .u32 (num B (a+4) 4)),(.slice .none 0 0),(.int .u64 (num B (a+40) 8))] 38))).c1
       have hbx:some x≠Value.ownBlock (.slice q E.length cs):=fun e=>by
        have h1:=(HRw.out.sg.own.lt _ e.symm).2
        have h2:=HX.out.2.2
        omega
       go_upto_region 12 with fail
       refine wp_region_held_drew (S:=fun U2=>(U2.cell? ⟨x,0,.none⟩=some (.int .u64 (num B (a+16) 8))∧U2.cell? ⟨x,1,.none⟩=some (.int .u32 (num B (a+4) 4)))∧U2.cell? ⟨x,2,.none⟩=some (.slice .none 0 0)∧U2.cell? ⟨x,3,.none⟩=some (.int .u64 (num B (a+40) 8))) (by kernel_rfl) k0 (fun hHeld=>?_)
       refine aT 0 (.pointer (some ⟨rb,0,.none⟩)) rfl ?_
       simp only[xX]
       refine aT 1 (.pointer (some ⟨rb,0,.none⟩)) rfl ?_
       simp only[xX]
       refine aT 2 (.pointer (some ⟨rb,0,.none⟩)) rfl ?_
       simp only[xX]
       refine aT 3 (.pointer (some ⟨rb,1,.none⟩)) rfl ?_
       simp only[xX]
       refine aT 5 (.agg #[(.int .u64 (num B (a+16) 8)),(.int .u32 (num B (a+4) 4)),(.slice .none 0 0),(.int .u64 (num B (a+40) 8))]) rfl ?_
       simp only[xX]
       refine wpAnyH_ready (rs:=[4,6]) (by kernel_rfl) (by simp) ?_
       refine AllReadyH.cons rfl (fun K hK=>?_) (AllReadyH.cons rfl (fun K hK=>?_) AllReadyH.nil)
       ·
        go_simp
        refine hK.out _ _ k0 (fun hHeld=>?_)
        clear hK K
        try simp only[xX]
        refine zR 6 rfl (fun K hK=>?_)
        go_simp
        refine hK.out _ _ kA (fun hHeld=>?_)
        clear hK K
        try simp only[xX]
        clear c1a c1b c1c
        refine zR 7 rfl (fun K hK=>?_)
        refine step_append_at rfl (.tmp 79) (.tmp 81) 39 rfl (rb+1) 38 j1 (.agg #[.int .u64 0,.int .u32 0,.slice .none 0 0,.int .u64 0]) 4 48 Tryz.underlying39 hk0 hkz hk1 hk2 rfl (by decide) (.slice q E.length cs) E.length (flatE E) (by simp[Act.eval,Act.put]) (HR5.out.sg.own.alloc _) ⟨Z1.heap.size,0,.none⟩ 1 1 [(.int .u64 (num B (a+16) 8)),(.int .u32 (num B (a+4) 4)),(.slice .none 0 0),(.int .u64 (num B (a+40) 8))] (by simp[Act.eval,Act.put]) rfl (cell4_new Z1.drew _ _ _ _ _) (by simp[Value.oneCell']) (by unfold maxLen;omega) (by omega) hsz9 ?_
        intro v' w5 hown5 hgr5 hat5
        obtain⟨gr,cap1,rfl⟩:=ownsRow_succ hown5
        obtain⟨m2,n5,hn5⟩:=HR5.out.push (g:=sgOf B a) (by omega) HD5.out hgd hown5 hgr5
        have hxw:x≠rb:=by
         have h1:=HX.out.2.2
         have h2:=HRw.out.hx
         omega
        have HN:Hid (Rdr W0 (w5.setCell ⟨rb,1,.none⟩ (.slice (some ⟨gr,0,.none⟩) (E.length+1) cap1)) rb rs b o n c B (E ++ [(sgOf B a,(.slice .none 0 0))]) (.slice (some ⟨gr,0,.none⟩) (E.length+1) cap1)):=hn5
        have C7:C4 w5 x (.int .u64 (num B (a+16) 8)) (.int .u32 (num B (a+4) 4)) (.slice .none 0 0) (.int .u64 (num B (a+40) 8)):=(HC5.out.below (zB.alloc zL _)).grown hgr5 hbx
        have k7:(w5.cell? ⟨x,0,.none⟩=some (.int .u64 (num B (a+16) 8))∧w5.cell? ⟨x,1,.none⟩=some (.int .u32 (num B (a+4) 4)))∧w5.cell? ⟨x,2,.none⟩=some (.slice .none 0 0)∧w5.cell? ⟨x,3,.none⟩=some (.int .u64 (num B (a+40) 8)):=⟨⟨C7.a,C7.b⟩,C7.c,C7.d⟩
        have k8:((w5.setCell ⟨rb,1,.none⟩ (.slice (some ⟨gr,0,.none⟩) (E.length+1) cap1)).cell? ⟨x,0,.none⟩=some (.int .u64 (num B (a+16) 8))∧(w5.setCell ⟨rb,1,.none⟩ (.slice (some ⟨gr,0,.none⟩) (E.length+1) cap1)).cell? ⟨x,1,.none⟩=some (.int .u32 (num B (a+4) 4)))∧(w5.setCell ⟨rb,1,.none⟩ (.slice (some ⟨gr,0,.none⟩) (E.length+1) cap1)).cell? ⟨x,2,.none⟩=some (.slice .none 0 0)∧(w5.setCell ⟨rb,1,.none⟩ (.slice (some ⟨gr,0,.none⟩) (E.length+1) cap1)).cell? ⟨x,3,.none⟩=some (.int .u64 (num B (a+40) 8)):=by
         refine⟨⟨?_,?_⟩,?_,?_⟩
         ·rw[zO (by simp only[ne_eq,Addr.mk.injEq,not_and];intro e;omega)];exact C7.a
         ·rw[zO (by simp only[ne_eq,Addr.mk.injEq,not_and];intro e;omega)];exact C7.b
         ·rw[zO (by simp only[ne_eq,Addr.mk.injEq,not_and];intro e;omega)];exact C7.c
         ·rw[zO (by simp only[ne_eq,Addr.mk.injEq,not_and];intro e;omega)];exact C7.d
        clear hown5 hgr5 hat5 hn5 kA k0
        refine hK.out _ _ k7 (fun hHeld=>?_)
        clear hK K
        try simp only[xX]
        refine aT 8 (.pointer (some ⟨rb,0,.none⟩)) rfl ?_
        simp only[xX]
        refine aT 9 (.pointer (some ⟨rb,1,.none⟩)) rfl ?_
        simp only[xX]
        refine zR 10 rfl (fun K hK=>?_)
        go_simp
        refine hK.out _ _ k8 (fun hHeld=>?_)
        clear hK K
        try simp only[xX]
        refine wpAnyH_done (by kernel_rfl) ?_ _
        clear hHeld k7 k8 m2 n5 C7
        go_wp2_with fail
        have e1:=HST.out
        rw[if_neg h8,if_neg (by rw[hoks];decide),if_neg hzz,if_neg (by rw[ev,hri];decide)] at e1
        refine⟨rfl,_,results_none rfl _ _ _,.inr ?_⟩
        rw[e1]
        exact⟨rfl,rfl,_,_,by simp,HN.out⟩
       ·
        go_simp
        refine hK.out _ _ kA (fun hHeld=>?_)
        clear hK K
        try simp only[xX]
        refine zR 4 rfl (fun K hK=>?_)
        go_simp
        refine hK.out _ _ kA (fun hHeld=>?_)
        clear hK K
        try simp only[xX]
        clear c1a c1b c1c
        refine zR 7 rfl (fun K hK=>?_)
        refine step_append_at rfl (.tmp 79) (.tmp 81) 39 rfl (rb+1) 38 j1 (.agg #[.int .u64 0,.int .u32 0,.slice .none 0 0,.int .u64 0]) 4 48 Tryz.underlying39 hk0 hkz hk1 hk2 rfl (by decide) (.slice q E.length cs) E.length (flatE E) (by simp[Act.eval,Act.put]) (HR5.out.sg.own.alloc _) ⟨Z1.heap.size,0,.none⟩ 1 1 [(.int .u64 (num B (a+16) 8)),(.int .u32 (num B (a+4) 4)),(.slice .none 0 0),(.int .u64 (num B (a+40) 8))] (by simp[Act.eval,Act.put]) rfl (cell4_new Z1.drew _ _ _ _ _) (by simp[Value.oneCell']) (by unfold maxLen;omega) (by omega) hsz9 ?_
        intro v' w5 hown5 hgr5 hat5
        obtain⟨gr,cap1,rfl⟩:=ownsRow_succ hown5
        obtain⟨m2,n5,hn5⟩:=HR5.out.push (g:=sgOf B a) (by omega) HD5.out hgd hown5 hgr5
        have hxw:x≠rb:=by
         have h1:=HX.out.2.2
         have h2:=HRw.out.hx
         omega
        have HN:Hid (Rdr W0 (w5.setCell ⟨rb,1,.none⟩ (.slice (some ⟨gr,0,.none⟩) (E.length+1) cap1)) rb rs b o n c B (E ++ [(sgOf B a,(.slice .none 0 0))]) (.slice (some ⟨gr,0,.none⟩) (E.length+1) cap1)):=hn5
        have C7:C4 w5 x (.int .u64 (num B (a+16) 8)) (.int .u32 (num B (a+4) 4)) (.slice .none 0 0) (.int .u64 (num B (a+40) 8)):=(HC5.out.below (zB.alloc zL _)).grown hgr5 hbx
        have k7:(w5.cell? ⟨x,0,.none⟩=some (.int .u64 (num B (a+16) 8))∧w5.cell? ⟨x,1,.none⟩=some (.int .u32 (num B (a+4) 4)))∧w5.cell? ⟨x,2,.none⟩=some (.slice .none 0 0)∧w5.cell? ⟨x,3,.none⟩=some (.int .u64 (num B (a+40) 8)):=⟨⟨C7.a,C7.b⟩,C7.c,C7.d⟩
        have k8:((w5.setCell ⟨rb,1,.none⟩ (.slice (some ⟨gr,0,.none⟩) (E.length+1) cap1)).cell? ⟨x,0,.none⟩=some (.int .u64 (num B (a+16) 8))∧(w5.setCell ⟨rb,1,.none⟩ (.slice (some ⟨gr,0,.none⟩) (E.length+1) cap1)).cell? ⟨x,1,.none⟩=some (.int .u32 (num B (a+4) 4)))∧(w5.setCell ⟨rb,1,.none⟩ (.slice (some ⟨gr,0,.none⟩) (E.length+1) cap1)).cell? ⟨x,2,.none⟩=some (.slice .none 0 0)∧(w5.setCell ⟨rb,1,.none⟩ (.slice (some ⟨gr,0,.none⟩) (E.length+1) cap1)).cell? ⟨x,3,.none⟩=some (.int .u64 (num B (a+40) 8)):=by
         refine⟨⟨?_,?_⟩,?_,?_⟩
         ·rw[zO (by simp only[ne_eq,Addr.mk.injEq,not_and];intro e;omega)];exact C7.a
         ·rw[zO (by simp only[ne_eq,Addr.mk.injEq,not_and];intro e;omega)];exact C7.b
         ·rw[zO (by simp only[ne_eq,Addr.mk.injEq,not_and];intro e;omega)];exact C7.c
         ·rw[zO (by simp only[ne_eq,Addr.mk.injEq,not_and];intro e;omega)];exact C7.d
        clear hown5 hgr5 hat5 hn5 kA k0
        refine hK.out _ _ k7 (fun hHeld=>?_)
        clear hK K
        try simp only[xX]
        refine aT 8 (.pointer (some ⟨rb,0,.none⟩)) rfl ?_
        simp only[xX]
        refine aT 9 (.pointer (some ⟨rb,1,.none⟩)) rfl ?_
        simp only[xX]
        refine zR 10 rfl (fun K hK=>?_)
        go_simp
        refine hK.out _ _ k8 (fun hHeld=>?_)
        clear hK K
        try simp only[xX]
        refine wpAnyH_done (by kernel_rfl) ?_ _
        clear hHeld k7 k8 m2 n5 C7
        go_wp2_with fail
        have e1:=HST.out
        rw[if_neg h8,if_neg (by rw[hoks];decide),if_neg hzz,if_neg (by rw[ev,hri];decide)] at e1
        refine⟨rfl,_,results_none rfl _ _ _,.inr ?_⟩
        rw[e1]
        exact⟨rfl,rfl,_,_,by simp,HN.out⟩
     ·have hzb:num B (a+32) 8 > 0:=by have:=hsb.2.2.2.2.1;omega
      clear hz
      have hzp:0<(sgOf B a).sz:=by omega
      go_upto_region 9 with(first|(go_at_call 79;refine c36.mono ?_;rintro e V4 ⟨rfl,hb4⟩)|fail)
      have HB4:Hid (Below w.heap.size w V4):=HB3.out.trans (hb4.mono HB3.out.size)
      have HC4a:Hid (C4 V4 x (.int .u64 (num B (a+16) 8)) (.int .u32 (num B (a+4) 4)) (.slice .none 0 0) (.int .u64 (num B (a+40) 8))):=HC1.out.below hb4
      have c37:=newBytes_any (HRw.out.below HB4.out).fil hn a (sgOf B a).wh (sgOf B a).sz hzp (by have:=hsb.2.2.2.1.2;omega) (by have:=hsb.2.2.2.2.2;omega)
      rw[ez,ew] at c37
      clear c36 y0 y1 y2 y3 hb4
      go_wp2_with fail
      go_at_call 205
      refine c37.mono ?_
      intro e V5 h37
      rcases h37 with⟨hlie,hu⟩|⟨hlie,v,rfl,hvo,hb5⟩
      ·obtain⟨v,rfl,hu2⟩:=id hu
       have e1:=HST.out
       rw[if_neg h8,if_neg (by rw[hoks];decide),if_pos ⟨hzp,by omega⟩] at e1
       refine⟨rfl,.inl ?_⟩
       rw[e1]
       exact⟨by simp,hu.x (HRw.out.be.trans (HB4.out.mono HRw.out.be.size))⟩
      ·have hzz:¬ (0<(sgOf B a).sz∧n<(sgOf B a).wh+(sgOf B a).sz):=by omega
       have hgd:Gd (sgOf B a):=ok1_gd hoks hsb.1.1 (by omega)
       obtain⟨dq,dc,rfl,_⟩:=own_form hvo
       have HC5a:Hid (C4 V5 x (.int .u64 (num B (a+16) 8)) (.int .u32 (num B (a+4) 4)) (.slice .none 0 0) (.int .u64 (num B (a+40) 8))):=HC4a.out.below hb5
       have y2:=HC5a.out.c
       have z2:=HC5a.out.f 2
       have hx4:x<V4.heap.size:=zC (x:=⟨x,0,.none⟩) HC4a.out.a
       have HC:Hid (C4 (V5.setCell ⟨x,2,.none⟩ (.slice dq (sgOf B a).sz dc)) x (.int .u64 (num B (a+16) 8)) (.int .u32 (num B (a+4) 4)) (.slice dq (sgOf B a).sz dc) (.int .u64 (num B (a+40) 8))):=HC5a.out.setc _
       have HBt:Hid (Below w.heap.size w (V5.setCell ⟨x,2,.none⟩ (.slice dq (sgOf B a).sz dc))):=(HB4.out.trans (hb5.mono HB4.out.size)).setCell (p:=⟨x,2,.none⟩) HX.out.2.2 _
       have HDat:Hid ((V5.setCell ⟨x,2,.none⟩ (.slice dq (sgOf B a).sz dc)).ownsRow (rb+1) 5 1 (.slice dq (sgOf B a).sz dc) (sgOf B a).sz (by8 (byt B (sgOf B a)))):=own_base (ownsRow_setCell_below hvo (a:=⟨x,2,.none⟩) hx4 _) (Nat.le_trans HRw.out.hx HB4.out.size)
       clear hvo hb5
       go_upto_region 10 with fail
       clear y2 z2
       generalize V5.setCell ⟨x,2,.none⟩ (.slice dq (sgOf B a).sz dc)=V6 at *
       have HR3:Hid (Rdr W0 V6.drew rb rs b o n c B E (.slice q E.length cs)):=(HRw.out.below HBt.out).below (zB.drew)
       have HC3:Hid (C4 V6.drew x (.int .u64 (num B (a+16) 8)) (.int .u32 (num B (a+4) 4)) (.slice dq (sgOf B a).sz dc) (.int .u64 (num B (a+40) 8))):=HC.out.below (zB.drew)
       have kT:V6.drew.cell? ⟨rb,1,.none⟩=some (.slice q E.length cs)∧(V6.drew.cell? ⟨x,0,.none⟩=some (.int .u64 (num B (a+16) 8))∧V6.drew.cell? ⟨x,1,.none⟩=some (.int .u32 (num B (a+4) 4)))∧V6.drew.cell? ⟨x,2,.none⟩=some (.slice dq (sgOf B a).sz dc)∧V6.drew.cell? ⟨x,3,.none⟩=some (.int .u64 (num B (a+40) 8)):=⟨HR3.out.c1,⟨⟨HC3.out.a,HC3.out.b⟩,HC3.out.c,HC3.out.d⟩⟩
       go_upto_region 10 with fail
       refine wp_region_held_drew (S:=fun U2=>U2.cell? ⟨rb,1,.none⟩=some (.slice q E.length cs)∧(U2.cell? ⟨x,0,.none⟩=some (.int .u64 (num B (a+16) 8))∧U2.cell? ⟨x,1,.none⟩=some (.int .u32 (num B (a+4) 4)))∧U2.cell? ⟨x,2,.none⟩=some (.slice dq (sgOf B a).sz dc)∧U2.cell? ⟨x,3,.none⟩=some (.int .u64 (num B (a+40) 8))) (by kernel_rfl) kT (fun hHeld=>?_)
       refine aT 0 (.pointer (some ⟨rb,0,.none⟩)) rfl ?_
       simp only[xX]
       refine aT 1 (.pointer (some ⟨rb,0,.none⟩)) rfl ?_
       simp only[xX]
       refine aT 2 (.pointer (some ⟨rb,1,.none⟩)) rfl ?_
       simp only[xX]
       refine aT 3 (.slice q E.length cs) rfl ?_
       simp only[xX]
       refine aT 4 (.agg #[(.int .u64 (num B (a+16) 8)),(.int .u32 (num B (a+4) 4)),(.slice dq (sgOf B a).sz dc),(.int .u64 (num B (a+40) 8))]) rfl ?_
       simp only[xX]
       refine zR 5 rfl (fun K hK=>?_)
       go_simp
       go_at_call 80
       refine(rises_any HR3.out.sg HR3.out.ln _ _ _ _ _ _).mono ?_
       rintro e Z1 ⟨rfl,hbZ⟩
       have HR4:Hid (Rdr W0 Z1 rb rs b o n c B E (.slice q E.length cs)):=HR3.out.below hbZ
       have HC4:Hid (C4 Z1 x (.int .u64 (num B (a+16) 8)) (.int .u32 (num B (a+4) 4)) (.slice dq (sgOf B a).sz dc) (.int .u64 (num B (a+40) 8))):=HC3.out.below hbZ
       have HD4:Hid (Z1.ownsRow (rb+1) 5 1 (.slice dq (sgOf B a).sz dc) (sgOf B a).sz (by8 (byt B (sgOf B a)))):=owns_below (owns_below HDat.out (zB.drew)) hbZ
       have kU:Z1.cell? ⟨rb,1,.none⟩=some (.slice q E.length cs)∧(Z1.cell? ⟨x,0,.none⟩=some (.int .u64 (num B (a+16) 8))∧Z1.cell? ⟨x,1,.none⟩=some (.int .u32 (num B (a+4) 4)))∧Z1.cell? ⟨x,2,.none⟩=some (.slice dq (sgOf B a).sz dc)∧Z1.cell? ⟨x,3,.none⟩=some (.int .u64 (num B (a+40) 8)):=⟨HR4.out.c1,⟨⟨HC4.out.a,HC4.out.b⟩,HC4.out.c,HC4.out.d⟩⟩
       clear hbZ
       refine hK.out _ _ kU (fun hHeld=>?_)
       clear hK K
       try simp only[xX]
       have ev:(sgOf B a).va=num B (a+16) 8:=rfl
       cases hri:ris (E.map (·.1)) (num B (a+16) 8) with
       |false=>
        refine aT 6 (.bool true) rfl ?_
        simp only[xX]
        refine wpAnyH_done (by kernel_rfl) ?_ _
        clear hHeld kT kU
        go_wp2_with (first|(go_at_call 175;refine(giveUp_any _ _ _).mono ?_;intro e w0 hu;obtain⟨v,rfl,hu2⟩:=id hu)|fail)
        have e1:=HST.out
        rw[if_neg h8,if_neg (by rw[hoks];decide),if_neg hzz,if_pos (by rw[ev,hri])] at e1
        refine⟨rfl,.inl ?_⟩
        rw[e1]
        exact⟨by simp,hu.x HR4.out.be⟩
       |true=>
        refine aT 6 (.bool false) rfl ?_
        simp only[xX]
        refine wpAnyH_done (by kernel_rfl) ?_ _
        clear hHeld kT kU HR3 HC3
        obtain⟨j1,hk0,hkz,hk1,hk2⟩:=info59
        have HR5:Hid (Rdr W0 Z1.drew rb rs b o n c B E (.slice q E.length cs)):=HR4.out.below (zB.drew)
        have HC5:Hid (C4 Z1.drew x (.int .u64 (num B (a+16) 8)) (.int .u32 (num B (a+4) 4)) (.slice dq (sgOf B a).sz dc) (.int .u64 (num B (a+40) 8))):=HC4.out.below (zB.drew)
        have HD5:Hid (Z1.drew.ownsRow (rb+1) 5 1 (.slice dq (sgOf B a).sz dc) (sgOf B a).sz (by8 (byt B (sgOf B a)))):=owns_below HD4.out (zB.drew)
        have k0:(Z1.drew.cell? ⟨x,0,.none⟩=some (.int .u64 (num B (a+16) 8))∧Z1.drew.cell? ⟨x,1,.none⟩=some (.int .u32 (num B (a+4) 4)))∧Z1.drew.cell? ⟨x,2,.none⟩=some (.slice dq (sgOf B a).sz dc)∧Z1.drew.cell? ⟨x,3,.none⟩=some (.int .u64 (num B (a+40) 8)):=⟨⟨HC5.out.a,HC5.out.b⟩,HC5.out.c,HC5.out.d⟩
        have kA:((Z1.drew.alloc (.cells #[(.int .u64 (num B (a+16) 8)),(.int .u32 (num B (a+4) 4)),(.slice dq (sgOf B a).sz dc),(.int .u64 (num B (a+40) 8))] 38)).cell? ⟨x,0,.none⟩=some (.int .u64 (num B (a+16) 8))∧(Z1.drew.alloc (.cells #[(.int .u64 (num B (a+16) 8)),(.int .u32 (num B (a+4) 4)),(.slice dq (sgOf B a).sz dc),(.int .u64 (num B (a+40) 8))] 38)).cell? ⟨x,1,.none⟩=some (.int .u32 (num B (a+4) 4)))∧(Z1.drew.alloc (.cells #[(.int .u64 (num B (a+16) 8)),(.int .u32 (num B (a+4) 4)),(.slice dq (sgOf B a).sz dc),(.int .u64 (num B (a+40) 8))] 38)).cell? ⟨x,2,.none⟩=some (.slice dq (sgOf B a).sz dc)∧(Z1.drew.alloc (.cells #[(.int .u64 (num B (a+16) 8)),(.int .u32 (num B (a+4) 4)),(.slice dq (sgOf B a).sz dc),(.int .u64 (num B (a+40) 8))] 38)).cell? ⟨x,3,.none⟩=some (.int .u64 (num B (a+40) 8)):=⟨⟨(HC5.out.below (zB.alloc zL (.cells #[(.int .u64 (num B (a+16) 8)),(.int .u32 (num B (a+4) 4)),(.slice dq (sgOf B a).sz dc),(.int .u64 (num B (a+40) 8))] 38))).a,(HC5.out.below (zB.alloc zL (.cells #[(.int .u64 (num B (a+16) 8)),(.int .u32 (num B (a+4) 4)),(.slice dq (sgOf B a).sz dc),(.int .u64 (num B (a+40) 8))] 38))).b⟩,(HC5.out.below (zB.alloc zL (.cells #[(.int .u64 (num B (a+16) 8)),(.int .u32 (num B (a+4) 4)),(.slice dq (sgOf B a).sz dc),(.int .u64 (num B (a+40) 8))] 38))).c,(HC5.out.below (zB.alloc zL (.cells #[(.int .u64 (num B (a+16) 8)),(.int .u32 (num B (a+4) 4)),(.slice dq (sgOf B a).sz dc),(.int .u64 (num B (a+40) 8))] 38))).d⟩
        have c1a:=HR5.out.c1
        have c1c:(Z1.alloc (.cells #[(.int .u64 (num B (a+16) 8)),(.int .u32 (num B (a+4) 4)),(.slice dq (sgOf B a).sz dc),(.int .u64 (num B (a+40) 8))] 38)).cell? ⟨rb,1,.none⟩=some (.slice q E.length cs):=(HR4.out.below (zB.alloc zL (.cells #[(.int .u64 (num B (a+16) 8)),(.int .u32 (num B (a+4) 4)),(.slice dq (sgOf B a).sz dc),(.int .u64 (num B (a+40) 8))] 38))).c1
        have hsz9:rb+1<=(Z1.drew.alloc (.cells #[(.int .u64 (num B (a+16) 8)),(.int .u32 (num B (a+4) 4)),(.slice dq (sgOf B a).sz dc),(.int .u64 (num B (a+40) 8))] 38)).heap.size:=Nat.le_trans HR5.out.hx ((Below.refl Z1.drew.heap.size Z1.drew).alloc zL _).size
        have c1b:=(HR5.out.below (zB.alloc zL (.cells #[(.int .u64 (num B (a+16) 8)),(.int .u32 (num B (a+4) 4)),(.slice dq (sgOf B a).sz dc),(.int .u64 (num B (a+40) 8))] 38))).c1
        have hbx:some x≠Value.ownBlock (.slice q E.length cs):=fun e=>by
         have h1:=(HRw.out.sg.own.lt _ e.symm).2
         have h2:=HX.out.2.2
         omega
        go_upto_region 12 with fail
        refine wp_region_held_drew (S:=fun U2=>(U2.cell? ⟨x,0,.none⟩=some (.int .u64 (num B (a+16) 8))∧U2.cell? ⟨x,1,.none⟩=some (.int .u32 (num B (a+4) 4)))∧U2.cell? ⟨x,2,.none⟩=some (.slice dq (sgOf B a).sz dc)∧U2.cell? ⟨x,3,.none⟩=some (.int .u64 (num B (a+40) 8))) (by kernel_rfl) k0 (fun hHeld=>?_)
        refine aT 0 (.pointer (some ⟨rb,0,.none⟩)) rfl ?_
        simp only[xX]
        refine aT 1 (.pointer (some ⟨rb,0,.none⟩)) rfl ?_
        simp only[xX]
        refine aT 2 (.pointer (some ⟨rb,0,.none⟩)) rfl ?_
        simp only[xX]
        refine aT 3 (.pointer (some ⟨rb,1,.none⟩)) rfl ?_
        simp only[xX]
        refine aT 5 (.agg #[(.int .u64 (num B (a+16) 8)),(.int .u32 (num B (a+4) 4)),(.slice dq (sgOf B a).sz dc),(.int .u64 (num B (a+40) 8))]) rfl ?_
        simp only[xX]
        refine wpAnyH_ready (rs:=[4,6]) (by kernel_rfl) (by simp) ?_
        refine AllReadyH.cons rfl (fun K hK=>?_) (AllReadyH.cons rfl (fun K hK=>?_) AllReadyH.nil)
        ·
         go_simp
         refine hK.out _ _ k0 (fun hHeld=>?_)
         clear hK K
         try simp only[xX]
         refine zR 6 rfl (fun K hK=>?_)
         go_simp
         refine hK.out _ _ kA (fun hHeld=>?_)
         clear hK K
         try simp only[xX]
         clear c1a c1b c1c
         refine zR 7 rfl (fun K hK=>?_)
         refine step_append_at rfl (.tmp 79) (.tmp 81) 39 rfl (rb+1) 38 j1 (.agg #[.int .u64 0,.int .u32 0,.slice .none 0 0,.int .u64 0]) 4 48 Tryz.underlying39 hk0 hkz hk1 hk2 rfl (by decide) (.slice q E.length cs) E.length (flatE E) (by simp[Act.eval,Act.put]) (HR5.out.sg.own.alloc _) ⟨Z1.heap.size,0,.none⟩ 1 1 [(.int .u64 (num B (a+16) 8)),(.int .u32 (num B (a+4) 4)),(.slice dq (sgOf B a).sz dc),(.int .u64 (num B (a+40) 8))] (by simp[Act.eval,Act.put]) rfl (cell4_new Z1.drew _ _ _ _ _) (by simp[Value.oneCell']) (by unfold maxLen;omega) (by omega) hsz9 ?_
         intro v' w5 hown5 hgr5 hat5
         obtain⟨gr,cap1,rfl⟩:=ownsRow_succ hown5
         obtain⟨m2,n5,hn5⟩:=HR5.out.push (g:=sgOf B a) (by omega) HD5.out hgd hown5 hgr5
         have hxw:x≠rb:=by
          have h1:=HX.out.2.2
          have h2:=HRw.out.hx
          omega
         have HN:Hid (Rdr W0 (w5.setCell ⟨rb,1,.none⟩ (.slice (some ⟨gr,0,.none⟩) (E.length+1) cap1)) rb rs b o n c B (E ++ [(sgOf B a,(.slice dq (sgOf B a).sz dc))]) (.slice (some ⟨gr,0,.none⟩) (E.length+1) cap1)):=hn5
         have C7:C4 w5 x (.int .u64 (num B (a+16) 8)) (.int .u32 (num B (a+4) 4)) (.slice dq (sgOf B a).sz dc) (.int .u64 (num B (a+40) 8)):=(HC5.out.below (zB.alloc zL _)).grown hgr5 hbx
         have k7:(w5.cell? ⟨x,0,.none⟩=some (.int .u64 (num B (a+16) 8))∧w5.cell? ⟨x,1,.none⟩=some (.int .u32 (num B (a+4) 4)))∧w5.cell? ⟨x,2,.none⟩=some (.slice dq (sgOf B a).sz dc)∧w5.cell? ⟨x,3,.none⟩=some (.int .u64 (num B (a+40) 8)):=⟨⟨C7.a,C7.b⟩,C7.c,C7.d⟩
         have k8:((w5.setCell ⟨rb,1,.none⟩ (.slice (some ⟨gr,0,.none⟩) (E.length+1) cap1)).cell? ⟨x,0,.none⟩=some (.int .u64 (num B (a+16) 8))∧(w5.setCell ⟨rb,1,.none⟩ (.slice (some ⟨gr,0,.none⟩) (E.length+1) cap1)).cell? ⟨x,1,.none⟩=some (.int .u32 (num B (a+4) 4)))∧(w5.setCell ⟨rb,1,.none⟩ (.slice (some ⟨gr,0,.none⟩) (E.length+1) cap1)).cell? ⟨x,2,.none⟩=some (.slice dq (sgOf B a).sz dc)∧(w5.setCell ⟨rb,1,.none⟩ (.slice (some ⟨gr,0,.none⟩) (E.length+1) cap1)).cell? ⟨x,3,.none⟩=some (.int .u64 (num B (a+40) 8)):=by
          refine⟨⟨?_,?_⟩,?_,?_⟩
          ·rw[zO (by simp only[ne_eq,Addr.mk.injEq,not_and];intro e;omega)];exact C7.a
          ·rw[zO (by simp only[ne_eq,Addr.mk.injEq,not_and];intro e;omega)];exact C7.b
          ·rw[zO (by simp only[ne_eq,Addr.mk.injEq,not_and];intro e;omega)];exact C7.c
          ·rw[zO (by simp only[ne_eq,Addr.mk.injEq,not_and];intro e;omega)];exact C7.d
         clear hown5 hgr5 hat5 hn5 kA k0
         refine hK.out _ _ k7 (fun hHeld=>?_)
         clear hK K
         try simp only[xX]
         refine aT 8 (.pointer (some ⟨rb,0,.none⟩)) rfl ?_
         simp only[xX]
         refine aT 9 (.pointer (some ⟨rb,1,.none⟩)) rfl ?_
         simp only[xX]
         refine zR 10 rfl (fun K hK=>?_)
         go_simp
         refine hK.out _ _ k8 (fun hHeld=>?_)
         clear hK K
         try simp only[xX]
         refine wpAnyH_done (by kernel_rfl) ?_ _
         clear hHeld k7 k8 m2 n5 C7
         go_wp2_with fail
         have e1:=HST.out
         rw[if_neg h8,if_neg (by rw[hoks];decide),if_neg hzz,if_neg (by rw[ev,hri];decide)] at e1
         refine⟨rfl,_,results_none rfl _ _ _,.inr ?_⟩
         rw[e1]
         exact⟨rfl,rfl,_,_,by simp,HN.out⟩
        ·
         go_simp
         refine hK.out _ _ kA (fun hHeld=>?_)
         clear hK K
         try simp only[xX]
         refine zR 4 rfl (fun K hK=>?_)
         go_simp
         refine hK.out _ _ kA (fun hHeld=>?_)
         clear hK K
         try simp only[xX]
         clear c1a c1b c1c
         refine zR 7 rfl (fun K hK=>?_)
         refine step_append_at rfl (.tmp 79) (.tmp 81) 39 rfl (rb+1) 38 j1 (.agg #[.int .u64 0,.int .u32 0,.slice .none 0 0,.int .u64 0]) 4 48 Tryz.underlying39 hk0 hkz hk1 hk2 rfl (by decide) (.slice q E.length cs) E.length (flatE E) (by simp[Act.eval,Act.put]) (HR5.out.sg.own.alloc _) ⟨Z1.heap.size,0,.none⟩ 1 1 [(.int .u64 (num B (a+16) 8)),(.int .u32 (num B (a+4) 4)),(.slice dq (sgOf B a).sz dc),(.int .u64 (num B (a+40) 8))] (by simp[Act.eval,Act.put]) rfl (cell4_new Z1.drew _ _ _ _ _) (by simp[Value.oneCell']) (by unfold maxLen;omega) (by omega) hsz9 ?_
         intro v' w5 hown5 hgr5 hat5
         obtain⟨gr,cap1,rfl⟩:=ownsRow_succ hown5
         obtain⟨m2,n5,hn5⟩:=HR5.out.push (g:=sgOf B a) (by omega) HD5.out hgd hown5 hgr5
         have hxw:x≠rb:=by
          have h1:=HX.out.2.2
          have h2:=HRw.out.hx
          omega
         have HN:Hid (Rdr W0 (w5.setCell ⟨rb,1,.none⟩ (.slice (some ⟨gr,0,.none⟩) (E.length+1) cap1)) rb rs b o n c B (E ++ [(sgOf B a,(.slice dq (sgOf B a).sz dc))]) (.slice (some ⟨gr,0,.none⟩) (E.length+1) cap1)):=hn5
         have C7:C4 w5 x (.int .u64 (num B (a+16) 8)) (.int .u32 (num B (a+4) 4)) (.slice dq (sgOf B a).sz dc) (.int .u64 (num B (a+40) 8)):=(HC5.out.below (zB.alloc zL _)).grown hgr5 hbx
         have k7:(w5.cell? ⟨x,0,.none⟩=some (.int .u64 (num B (a+16) 8))∧w5.cell? ⟨x,1,.none⟩=some (.int .u32 (num B (a+4) 4)))∧w5.cell? ⟨x,2,.none⟩=some (.slice dq (sgOf B a).sz dc)∧w5.cell? ⟨x,3,.none⟩=some (.int .u64 (num B (a+40) 8)):=⟨⟨C7.a,C7.b⟩,C7.c,C7.d⟩
         have k8:((w5.setCell ⟨rb,1,.none⟩ (.slice (some ⟨gr,0,.none⟩) (E.length+1) cap1)).cell? ⟨x,0,.none⟩=some (.int .u64 (num B (a+16) 8))∧(w5.setCell ⟨rb,1,.none⟩ (.slice (some ⟨gr,0,.none⟩) (E.length+1) cap1)).cell? ⟨x,1,.none⟩=some (.int .u32 (num B (a+4) 4)))∧(w5.setCell ⟨rb,1,.none⟩ (.slice (some ⟨gr,0,.none⟩) (E.length+1) cap1)).cell? ⟨x,2,.none⟩=some (.slice dq (sgOf B a).sz dc)∧(w5.setCell ⟨rb,1,.none⟩ (.slice (some ⟨gr,0,.none⟩) (E.length+1) cap1)).cell? ⟨x,3,.none⟩=some (.int .u64 (num B (a+40) 8)):=by
          refine⟨⟨?_,?_⟩,?_,?_⟩
          ·rw[zO (by simp only[ne_eq,Addr.mk.injEq,not_and];intro e;omega)];exact C7.a
          ·rw[zO (by simp only[ne_eq,Addr.mk.injEq,not_and];intro e;omega)];exact C7.b
          ·rw[zO (by simp only[ne_eq,Addr.mk.injEq,not_and];intro e;omega)];exact C7.c
          ·rw[zO (by simp only[ne_eq,Addr.mk.injEq,not_and];intro e;omega)];exact C7.d
         clear hown5 hgr5 hat5 hn5 kA k0
         refine hK.out _ _ k7 (fun hHeld=>?_)
         clear hK K
         try simp only[xX]
         refine aT 8 (.pointer (some ⟨rb,0,.none⟩)) rfl ?_
         simp only[xX]
         refine aT 9 (.pointer (some ⟨rb,1,.none⟩)) rfl ?_
         simp only[xX]
         refine zR 10 rfl (fun K hK=>?_)
         go_simp
         refine hK.out _ _ k8 (fun hHeld=>?_)
         clear hK K
         try simp only[xX]
         refine wpAnyH_done (by kernel_rfl) ?_ _
         clear hHeld k7 k8 m2 n5 C7
         go_wp2_with fail
         have e1:=HST.out
         rw[if_neg h8,if_neg (by rw[hoks];decide),if_neg hzz,if_neg (by rw[ev,hri];decide)] at e1
         refine⟨rfl,_,results_none rfl _ _ _,.inr ?_⟩
         rw[e1]
         exact⟨rfl,rfl,_,_,by simp,HN.out⟩
 ·have htb:(num B a 4 != 1)=true:=by simpa using ht
  refine aT 7 (.bool true) rfl ?_
  simp only[xX]
  refine wpAnyH_done (by kernel_rfl) ?_ _
  have hst:stp n B (E.map (·.1)) a=(0,E.map (·.1)):=by
   unfold stp
   rw[if_pos (by simpa using ht)]
  have HR1:Hid (Rdr W0 V1 rb rs b o n c B E (.slice q E.length cs)):=HRw.out.below b_V1
  clear hHeld kS k1
  go_wp2_with fail
  refine bodyPost_ret (results_none rfl _ _ _) rfl ?_
  refine .inr ?_
  rw[hst]
  exact⟨rfl,rfl,E,_,rfl,HR1.out⟩
end
end Go.Proofs.YtabnipbdbnmmpaaGreatDoor
