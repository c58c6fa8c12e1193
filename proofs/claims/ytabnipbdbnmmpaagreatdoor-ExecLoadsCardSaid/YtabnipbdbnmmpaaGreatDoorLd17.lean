import Derived.Test.YtabnipbdbnmmpaaGreatDoorLd01
import Derived.Test.YtabnipbdbnmmpaaGreatDoorLd16
import Derived.Test.YtabnipbdbnmmpaaGreatDoorLd06
set_option linter.unusedVariables false
set_option linter.unusedSimpArgs false
set_option maxHeartbeats 8000000
namespace Go.Proofs.YtabnipbdbnmmpaaGreatDoor
namespace Rm
open Go Go.RowKit
section
variable {w:World} {s p b m N:Nat} {B:Nat->Int} {L:List Nat} {F:Nat->Option Nat} {lf:Nat->Nat->Int}
def rdb (c d:Int):Prop:=c=210∧d=194∨c=214∧d=198∨c=218∧d=202∨c=222∧d=206
theorem and254 (q:Nat) (hq:q<4096) {c d:Int} (hc:rdb c d):bits .and .u64 (toP (ad q) c) 254=c:=by
 have hb:=ad_b q 4096 hq (by omega)
 have hv:=toP_val (ad q) c ⟨hb.1,hb.2.1⟩ (by unfold rdb at hc;omega) (by unfold rdb at hc;omega)
 have h1:bits .and .u64 (toP (ad q) c) ((254:Nat):Int)=(((toP (ad q) c%1024).toNat &&& 254:Nat):Int):=and_low _ (by rw[hv];unfold rdb at hc;omega) 254 (by omega)
 have h2:(toP (ad q) c%1024).toNat=(c+1).toNat:=by rw[hv];unfold rdb at hc;omega
 rw[h2] at h1
 refine(show bits .and .u64 (toP (ad q) c) 254=_ from h1).trans ?_
 rcases hc with⟨rfl,_⟩|⟨rfl,_⟩|⟨rfl,_⟩|⟨rfl,_⟩<;>decide
theorem not16 {c d:Int} (hc:rdb c d):bits .andNot .u64 c 16=d:=by
 rcases hc with⟨rfl,rfl⟩|⟨rfl,rfl⟩|⟨rfl,rfl⟩|⟨rfl,rfl⟩<;>decide
theorem rdb_ok {c d:Int} (hc:rdb c d):(!ho d 18446744073709551361 && ho d 10 && (!hs d 4 || hs d 2))=true:=by
 rcases hc with⟨rfl,rfl⟩|⟨rfl,rfl⟩|⟨rfl,rfl⟩|⟨rfl,rfl⟩<;>decide
theorem rdb_leaf {c d:Int} (hc:rdb c d) {f N:Nat} (hf:f<N) (hN:N<=4096):kd (toP (ad f) d) 0=2∧0<=toP (ad f) d∧toP (ad f) d<18446744073709551616:=by
 have hb:=ad_b f N hf hN
 rcases hc with⟨rfl,rfl⟩|⟨rfl,rfl⟩|⟨rfl,rfl⟩|⟨rfl,rfl⟩<;>exact leaf_b _ _ ⟨hb.1,hb.2.2,hb.2.1⟩ (by decide) (by decide) (by decide) (by decide)
def UnK (w:World) (p b m N:Nat) (B:Nat->Int) (L:List Nat) (F:Nat->Option Nat) (lf:Nat->Nat->Int) (va tp:Int) (e:Ending) (w':World):Prop:=e = .returned (.tuple #[.int .u64 tp,.int .i64 0])∧Fra p b m w w'∧∃ B',Ram w' p b m N B' L∧PT N L B' F (setE lf (y0 va) (i0 va) 0)∧Byo F B B'
theorem unmap_keep {r q:Nat} {c:Int} (h:Ram w p b m N B L) (hP:PT N L B F lf) (hr:F 0=some r) (va:Int) (hv:0<=va∧va<274877906944∧va%4096=0) (hq:Pag N L F lf va q c) (k':Nat) (hk':k'<512∧k'≠i0 va∧kd (lf (y0 va) k') 0=2) :
  Calls Tryz.prog 114 #[.pointer (some ⟨p,0,.none⟩),.int .u64 (ad r),.int .u64 va] w (UnK w p b m N B L F lf va (toP (ad q) c)):=by
 have hz:∀ x,kd x 0=2->x≠0:=fun x h1 e=>by rw[e] at h1;revert h1;decide
 refine(unmap_byt h hP hr va hv (by rw[hq.l];exact hz _ hq.k)).mono fun e w' h9=>?_
 obtain⟨he,g,q1,B',L',F',lf',e1,e0,hpt,hpr,hram,hfra,hby⟩:=h9
 rw[hq.l] at he
 have hno:¬ ∀ k,k<512->setE lf (y0 va) (i0 va) 0 (y0 va) k=0:=fun hall=>by
  have:=hall k' hk'.1
  unfold setE at this
  rw[if_neg (fun e=>hk'.2.1 e.2)] at this
  exact hz _ hk'.2.2 this
 rcases hpr with⟨rfl,rfl,rfl,_⟩|⟨_,_,_,h4,_⟩|⟨_,_,_,h4,_⟩
 ·exact⟨he,hfra,B',hram,hpt,hby⟩
 ·exact absurd h4 hno
 ·exact absurd h4 hno
def GuQ (w:World) (p b m N:Nat) (B:Nat->Int) (L:List Nat) (F:Nat->Option Nat) (lf:Nat->Nat->Int) (va leaf:Int) (e:Ending) (w':World):Prop:=e = .returned (.tuple #[])∧Fra p b m w w'∧∃ B',Ram w' p b m N B' L∧PT N L B' F (setE lf (y0 va) (i0 va) leaf)∧Byo F B B'
theorem setE_set (lf:Nat->Nat->Int) (y i:Nat) (a x:Int):setE (setE lf y i a) y i x=setE lf y i x:=by
 funext u v
 unfold setE
 split<;>rfl
theorem guardT_pt {r q:Nat} (h:Ram w p b m N B L) (hP:PT N L B F lf) (hr:F 0=some r) (pg:Int) (hpg:0<=pg∧pg<67108864) {c d:Int} (hcd:rdb c d) (hq:Pag N L F lf (pg*4096) q c) (k':Nat) (hk':k'<512∧k'≠i0 (pg*4096)∧kd (lf (y0 (pg*4096)) k') 0=2) :
  Calls Tryz.prog 150 #[.agg #[.pointer (some ⟨p,0,.none⟩),.int .u64 (ad r)],.int .i64 pg] w (GuQ w p b m N B L F lf (pg*4096) (toP (ad q) d)):=by
 have hN:=h.mem.n2
 have hqb:=ad_b q N hq.qb.1 hN
 obtain⟨X,hX⟩:∃ X,X=w.heap.size:=⟨_,rfl⟩
 obtain⟨w1,hw1⟩:∃ w1,w1=w.alloc (.cells #[.pointer (some ⟨p,0,.none⟩),.int .u64 (ad r)] 105):=⟨_,rfl⟩
 have b1:Below w.heap.size w w1:=by rw[hw1];exact zB.alloc zL _
 have k1:C2w w1 X (.pointer (some ⟨p,0,.none⟩)) (.int .u64 (ad r)):=by
  rw[hw1,hX]
  exact⟨by simp,by simp,fun k=>World.frozen?_alloc_new _ _ _ _⟩
 have hp:p<X:=by rw[hX];exact zC h.mem.c0
 have hb:b<X:=by rw[hX];exact zC (h.mem.cb 0 (by have:=h.mem.n1;omega))
 have hm:m<X:=by rw[hX];exact h.mem.mlt
 have c153:=unmap_keep (w:=w1.drew) (h.below b1).drew hP hr (pg*4096) ⟨by omega,by omega,by omega⟩ hq k' hk'
 have hval:=hq.val hN
 have hbd:0<=toP (ad q) c∧toP (ad q) c<18014398509481984:=by rw[hval];unfold rdb at hcd;omega
 have hfr:toP (ad q) c/1024*4096=ad q:=by rw[hval];unfold rdb at hcd;omega
 have c152:=fun W=>frameOf_any (toP (ad q) c) hbd W
 rw[hfr] at c152
 have h254:=and254 q (by have:=hq.qb.1;omega) hcd
 have h16:=not16 hcd
 have hlf:=rdb_leaf hcd hq.qb.1 hN
 have kS:w1.drew.cell? ⟨X,0,.none⟩=some (.pointer (some ⟨p,0,.none⟩))∧w1.drew.cell? ⟨X,1,.none⟩=some (.int .u64 (ad r)):=⟨k1.a,k1.b⟩
 have HW:Hid (Below w.heap.size w w1∧C2w w1 X (.pointer (some ⟨p,0,.none⟩)) (.int .u64 (ad r))∧F 0=some r∧(∃ g,F (y1 (pg*4096))=some g)∧(∃ g,F (y0 (pg*4096))=some g)∧rdb c d∧kd (toP (ad q) d) 0=2∧0<=toP (ad q) d∧toP (ad q) d<18446744073709551616):=⟨b1,k1,hr,hq.w1,hq.w0,hcd,hlf⟩
 clear h hP hq hk' hr hcd hlf b1 k1 hval hbd hfr
 unfold UnK at c153
 generalize toP (ad q) c=tp at *
 go_enter Tryz.func150,Tryz.ntmps150
 go_upto_region 1 with fail
 rw[<-hw1,<-hX]
 have HXX:Hid (X=w.heap.size):=hX
 clear hw1 hX
 refine wp_region_held_drew (S:=(fun U=>U.cell? ⟨X,0,.none⟩=some (.pointer (some ⟨p,0,.none⟩))∧U.cell? ⟨X,1,.none⟩=some (.int .u64 (ad r)))) (by kernel_rfl) kS (fun hHeld=>?_)
 refine aT 0 (.pointer (some ⟨X,0,.none⟩)) rfl ?_
 simp only[xX]
 refine aT 1 (.pointer (some ⟨p,0,.none⟩)) rfl ?_
 simp only[xX]
 refine aT 2 (.pointer (some ⟨X,1,.none⟩)) rfl ?_
 simp only[xX]
 refine aT 3 (.int .u64 (ad r)) rfl ?_
 simp only[xX]
 refine aT 4 (.int .i64 pg) rfl ?_
 simp only[xX]
 refine zR 5 rfl (fun K hK=>?_)
 go_simp
 go_at_call 98
 refine(addrOf_any pg (by omega) _).mono ?_
 rintro _ w3 ⟨rfl,e3⟩
 obtain rfl:w1.drew=w3:=e3.symm
 refine hK.out _ _ kS (fun hHeld=>?_)
 clear hK K
 try simp only[xX]
 refine zR 6 rfl (fun K hK=>?_)
 go_simp
 go_at_call 114
 refine c153.mono ?_
 rintro _ w3 ⟨rfl,f3,B',r3,P3,y3⟩
 have H3:Hid (Fra p b m w w3∧Ram w3 p b m N B' L∧PT N L B' F (setE lf (y0 (pg*4096)) (i0 (pg*4096)) 0)∧Byo F B B'):=⟨(Fra.below HW.out.1).trans ((Fra.below zB.drew).trans f3),r3,P3,y3⟩
 have k3:=HW.out.2.1.fra ((Fra.below zB.drew).trans f3) (by omega) (by omega) (by omega)
 have kS3:w3.cell? ⟨X,0,.none⟩=some (.pointer (some ⟨p,0,.none⟩))∧w3.cell? ⟨X,1,.none⟩=some (.int .u64 (ad r)):=⟨k3.a,k3.b⟩
 clear f3 r3 P3 y3 c153
 refine hK.out _ _ kS3 (fun hHeld=>?_)
 clear hK K
 try simp only[xX]
 refine aT 7 (.tuple #[.int .u64 tp,.int .i64 0]) rfl ?_
 simp only[xX]
 refine aT 8 (.int .u64 tp) rfl ?_
 simp only[xX]
 refine aT 9 (.int .i64 0) rfl ?_
 simp only[xX]
 refine aT 10 (.int .u64 tp) rfl ?_
 simp only[xX]
 refine aT 11 (.int .i64 0) rfl ?_
 simp only[xX]
 refine wpAnyH_done (by kernel_rfl) ?_ _
 have kS4:w3.drew.cell? ⟨X,0,.none⟩=some (.pointer (some ⟨p,0,.none⟩))∧w3.drew.cell? ⟨X,1,.none⟩=some (.int .u64 (ad r)):=kS3
 have c107:=map_pt (w:=w3.drew) H3.out.2.1.drew H3.out.2.2.1 HW.out.2.2.1 (pg*4096) (ad q) d (by omega) (by omega) ⟨hqb.1,hqb.2.2,hqb.2.1⟩ (rdb_ok HW.out.2.2.2.2.2.1) HW.out.2.2.2.2.2.2 (by unfold setE;rw[if_pos ⟨rfl,rfl⟩]) (by
  obtain⟨g1,e1⟩:=HW.out.2.2.2.1
  obtain⟨g0,e0⟩:=HW.out.2.2.2.2.1
  unfold needY
  rw[e1,e0]
  simp)
 have hnd:needY F (pg*4096)=0:=by
  obtain⟨g1,e1⟩:=HW.out.2.2.2.1
  obtain⟨g0,e0⟩:=HW.out.2.2.2.2.1
  unfold needY
  rw[e1,e0]
  simp
 rw[hnd] at c107
 clear hnd
 go_upto_region 3 with fail
 refine wp_region_held_drew (S:=(fun U=>U.cell? ⟨X,0,.none⟩=some (.pointer (some ⟨p,0,.none⟩))∧U.cell? ⟨X,1,.none⟩=some (.int .u64 (ad r)))) (by kernel_rfl) kS4 (fun hHeld=>?_)
 refine aT 0 (.pointer (some ⟨X,0,.none⟩)) rfl ?_
 simp only[xX]
 refine aT 1 (.pointer (some ⟨p,0,.none⟩)) rfl ?_
 simp only[xX]
 refine aT 2 (.pointer (some ⟨X,1,.none⟩)) rfl ?_
 simp only[xX]
 refine aT 3 (.int .u64 (ad r)) rfl ?_
 simp only[xX]
 refine aT 4 (.int .i64 pg) rfl ?_
 simp only[xX]
 refine aT 6 (.int .u64 tp) rfl ?_
 simp only[xX]
 refine aT 8 (.int .u64 tp) rfl ?_
 simp only[xX]
 refine aT 9 (.int .u64 c) rfl ?_
 simp only[xX]
 refine aT 10 (.int .u64 d) rfl ?_
 simp only[xX]
 refine zR 5 rfl (fun K hK=>?_)
 go_simp
 go_at_call 98
 refine(addrOf_any pg (by omega) _).mono ?_
 rintro _ w4 ⟨rfl,e4⟩
 obtain rfl:w3.drew=w4:=e4.symm
 refine hK.out _ _ kS4 (fun hHeld=>?_)
 clear hK K
 try simp only[xX]
 refine zR 7 rfl (fun K hK=>?_)
 go_simp
 go_at_call 128
 refine(c152 _).mono ?_
 rintro _ w4 ⟨rfl,e4⟩
 obtain rfl:w3.drew=w4:=e4.symm
 refine hK.out _ _ kS4 (fun hHeld=>?_)
 clear hK K
 try simp only[xX]
 refine zR 11 rfl (fun K hK=>?_)
 go_simp
 go_at_call 145
 refine c107.mono ?_
 rintro _ w4 ⟨rfl,B2,L2,F2,R2,e2,r4,f4⟩
 rw[List.take_zero,List.nil_append] at e2
 subst e2
 have H4:Hid (Fra p b m w w4∧Ram w4 p b m N B2 L∧PT N L B2 F (setE lf (y0 (pg*4096)) (i0 (pg*4096)) (toP (ad q) d))∧Byo F B B2):=by
  have eF:F2=F:=funext fun x=>by
   cases hF:F x with
   |some f=>exact R2.ext x f hF
   |none=>
    cases hG:F2 x with
    |none=>rfl
    |some f=>
     rcases R2.new x f hG with e|⟨e,e',_⟩
     ·rw[hF] at e;cases e
     ·exact absurd e e'
  subst eF
  refine⟨H3.out.1.trans ((Fra.below zB.drew).trans f4),r4,by have:=R2.pt;rw[setE_set] at this;exact this,fun f hf k hk=>(R2.byt f hf k hk).trans (H3.out.2.2.2 f hf k hk)⟩
 have k4:=k3.fra ((Fra.below zB.drew).trans f4) (by omega) (by omega) (by omega)
 clear R2 r4 f4 c107
 refine hK.out _ _ ⟨k4.a,k4.b⟩ (fun hHeld=>?_)
 clear hK K
 try simp only[xX]
 refine wpAnyH_done (by kernel_rfl) ?_ _
 go_wp2_with fail
 refine bodyPost_end (v:=.tuple #[]) (by simp[results,Tryz.results150,go_sem]) rfl ⟨rfl,H4.out.1,B2,H4.out.2⟩
theorem guard_pt {r q:Nat} {size:Int} (hS:Sp w s p (ad r) size) (h:Ram w p b m N B L) (hP:PT N L B F lf) (hr:F 0=some r) (hne:s≠p∧s≠b∧s≠m) (pg:Int) (hpg:0<=pg∧pg<67108864) (hsz:pg*4096<size∧size<=1099511627776) {c d:Int} (hcd:rdb c d) (hq:Pag N L F lf (pg*4096) q c) (k':Nat) (hk':k'<512∧k'≠i0 (pg*4096)∧kd (lf (y0 (pg*4096)) k') 0=2) :
  Calls Tryz.prog 96 #[.pointer (some ⟨s,0,.none⟩),.int .i64 pg] w fun e w'=>e = .returned (.int .i64 0)∧Fra p b m w w'∧∃ B',Ram w' p b m N B' L∧PT N L B' F (setE lf (y0 (pg*4096)) (i0 (pg*4096)) (toP (ad q) d))∧Byo F B B':=by
 have c33:=made_sp hS
 have c77:=pages_sp hS (by omega)
 have c112:=guardT_pt h hP hr pg hpg hcd hq k' hk'
 unfold GuQ at c112
 have hlt:¬ ((size+4095)/4096<=pg):=by omega
 have k0:=hS.c0
 have k1:=hS.c1
 clear hS h hP hq hk' hr hcd
 generalize (size+4095)/4096=P at *
 go_enter Tryz.func96,Tryz.ntmps96
 go_wp2_with first|(go_at_call 46;refine c33.mono ?_;rintro _ w1 ⟨rfl,e1⟩;obtain rfl:w=w1:=e1.symm)|(go_at_call 99;refine c77.mono ?_;rintro _ w1 ⟨rfl,e1⟩;obtain rfl:w=w1:=e1.symm)|(go_at_call 150;refine c112.mono ?_;rintro _ w3 ⟨rfl,f3,B',r3⟩;have H3:Hid (Fra p b m w w3∧Ram w3 p b m N B' L∧PT N L B' F (setE lf (y0 (pg*4096)) (i0 (pg*4096)) (toP (ad q) d))∧Byo F B B'):=⟨f3,r3⟩;clear f3 r3)
 go_ret
 exact⟨rfl,H3.out.1,B',H3.out.2⟩
end
end Rm
namespace Rm
open Go Go.RowKit Go.Shelf
attribute [local go_sem] Oper.semAt_some
attribute [local irreducible] eM evs
set_option maxRecDepth 100000 in
theorem free_all2 {w:World} {p b mm N r:Nat} {B:Nat->Int} {L:List Nat} {F:Nat->Option Nat} {lf:Nat->Nat->Int} {l:List Pg} (hR:Ram w p b mm N B L) (hP:PT N L B F lf) (hr:F 0=some r) (hT:TL F lf l) (hnd:l.Pairwise (fun a b=>a.1≠b.1)) (hl:l = []) :
  Calls Tryz.prog 115 #[.pointer (some ⟨p,0,.none⟩),.int .u64 (ad r)] w fun e w'=>e = .returned (.int .i64 0)∧Ram w' p b mm N (thr B r (adr L)) (r :: L)∧Fra p b mm w w':=by
 obtain⟨W1,hW1⟩:∃ W1,W1=w.alloc (.cells #[.int .i64 0] 45):=⟨_,rfl⟩
 have b1:Below w.heap.size w W1:=by rw[hW1];exact below1 _ _
 have hs1:W1.heap.size=w.heap.size+1:=by rw[hW1];simp
 have q1:W1.cell? ⟨w.heap.size,0,.none⟩=some (.int .i64 0):=by rw[hW1];simp
 have q2:W1.frozen? ⟨w.heap.size,0,.none⟩=false:=by rw[hW1];simp
 have hrb:0<=ad r∧ad r<18446744073709551616:=by have h1:=hP.held 0 r hr;have h2:=hR.mem.n2;unfold ad;omega
 have c38:=isMade_any (hR.below b1)
 have c42:=isNode_any (hR.below b1) (ad r) hrb
 rw[hP.ndB hr] at c42
 have HR:Hid (Ram w p b mm N B L∧PT N L B F lf∧F 0=some r∧TL F lf l):=⟨hR,hP,hr,hT⟩
 have HL:Hid (LvS l (lvl (evs F lf 0))):=hT.leaves hP hnd
 have H1:Hid (Below w.heap.size w W1∧W1.heap.size=w.heap.size+1∧W1.cell? ⟨w.heap.size,0,.none⟩=some (.int .i64 0)∧W1.frozen? ⟨w.heap.size,0,.none⟩=false):=⟨b1,hs1,q1,q2⟩
 clear hR hP hr hT hnd b1 hs1 q1 q2 hrb
 refine(callsIn_wide (n:=3)).1 ?_
 refine callsIn_of_wp_marks Tryz.func115 rfl trivial ?_ rfl
 refine wpIn_wide.2 ?_
 simp only[Tryz.ntmps115,List.size_toArray,List.length_cons,List.length_nil,Nat.reduceAdd,Nat.reduceSub,Array.replicate_succ,Array.replicate_zero,List.push_toArray,List.append_toArray,List.nil_append,List.cons_append]
 go_wp2_with fail
 rw[<-hW1]
 clear hW1
 go_wp2_with (first|(go_at_call 157;refine c38.mono ?_;rintro _ w2 ⟨rfl,e2⟩;obtain rfl:W1=w2:=e2.symm;clear e2)|(go_at_call 159;refine c42.mono ?_;rintro _ w3 ⟨rfl,b3⟩;have H3:Hid (Below W1.heap.size W1 w3):=b3;clear b3 c38 c42))
 obtain⟨V,hV⟩:∃ V,V=(w3.alloc (.cells #[.pointer (some ⟨p,0,.none⟩)] 27)).alloc (.cells #[.int .u64 (ad r)] 23):=⟨_,rfl⟩
 have bV:Below w3.heap.size w3 V:=by rw[hV];exact(zB.alloc zL _).alloc (by simp) _
 have sV:V.heap.size=w3.heap.size+2:=by rw[hV];simp
 have v1:V.cell? ⟨w3.heap.size,0,.none⟩=some (.pointer (some ⟨p,0,.none⟩)):=by rw[hV];simp
 have v2:V.cell? ⟨w3.heap.size+1,0,.none⟩=some (.int .u64 (ad r)):=by rw[hV];simp
 have s3:w.heap.size+1<=w3.heap.size:=by have:=H3.out.size;have:=H1.out.2.1;omega
 have B3:Below w.heap.size w V:=(H1.out.1.trans (H3.out.mono H1.out.1.size)).trans (bV.mono (by omega))
 have r1:V.cell? ⟨w.heap.size,0,.none⟩=some (.int .i64 0):=(bV.cell (p:=⟨w.heap.size,0,.none⟩) (by simp only;omega)).trans ((H3.out.cell (p:=⟨w.heap.size,0,.none⟩) (by have:=H1.out.2.1;simp only;omega)).trans H1.out.2.2.1)
 have r2:V.frozen? ⟨w.heap.size,0,.none⟩=false:=(bV.frozen (p:=⟨w.heap.size,0,.none⟩) (by simp only;omega)).trans ((H3.out.frozen (p:=⟨w.heap.size,0,.none⟩) (by have:=H1.out.2.1;simp only;omega)).trans H1.out.2.2.2)
 have hseq:=fun n=>leaves_seq (HR.out.1.below B3) HR.out.2.1 HR.out.2.2.1 n _ _ v1 v2
 have c21:=leaves_any p (ad r) w3
 rw[<-hV] at c21
 have hc:w.heap.size<V.heap.size:=by omega
 have HV:Hid ((∀ n,SeqK n 169 #[.pointer (some ⟨w3.heap.size,0,.none⟩),.pointer (some ⟨w3.heap.size+1,0,.none⟩)] lvE (lvl (evs F lf 0)) p b mm V)∧Below w.heap.size w V∧V.cell? ⟨w.heap.size,0,.none⟩=some (.int .i64 0)∧V.frozen? ⟨w.heap.size,0,.none⟩=false∧p<w.heap.size∧b<w.heap.size∧mm<w.heap.size):=⟨hseq,B3,r1,r2,HR.out.1.mem.plt,HR.out.1.mem.blt,HR.out.1.mem.mlt⟩
 clear hseq B3 r1 r2 sV s3 hV bV v1 v2 H1 H3
 go_wp2_with (go_at_call 127;refine c21.mono ?_;rintro _ w5 ⟨rfl,e5⟩;obtain rfl:V=w5:=e5.symm;clear e5 c21)
 refine(wpIn_wide (n:=3)).1 (range_K (α:=Int×Int) (by omega) (gf:=169) (lb:=#[.pointer (some ⟨w3.heap.size,0,.none⟩),.pointer (some ⟨w3.heap.size+1,0,.none⟩)]) rfl (enters_of Tryz.func169 (by kernel_rfl) rfl) zB (HV.out.1 2) (by have:=HV.out;omega) (fun _=>rfl)
  (FrI V w.heap.size) (fun k _=>V.heap.size<=k) (FrI.own hc) (FrI.gd hc) (fun s k W l o o' h hk _ _ _ _=>hk) ⟨rfl,⟨Nat.le_refl _,rfl,rfl,rfl,fun _ _ _=>rfl⟩,rfl⟩ (FrX V w.heap.size) (fun pre W l o o' h hl _ _=>h.put hc o' hl) (fun _ _ _ h hm=>h.mv hc hm) (fun s k W l o o' h hk _ _ _ _=>hk)
  (fun x a' W=>a' = { tmps:=#[.pointer (some ⟨p,0,.none⟩),.int .u64 (ad r),undef,undef,.pointer (some ⟨w.heap.size,0,.none⟩),undef,undef,.bool false,.pointer (some ⟨p,0,.none⟩),.bool true,.bool false,.bool false,.pointer (some ⟨p,0,.none⟩),.int .u64 (ad r),.bool true,.bool false,.pointer (some ⟨p,0,.none⟩),.int .u64 (ad r),.func (.func 169) #[] #[.pointer (some ⟨w3.heap.size,0,.none⟩),.pointer (some ⟨w3.heap.size+1,0,.none⟩)],.int .u64 x.1,.int .u64 x.2,undef,undef,undef,undef,undef,undef,undef,undef,undef,undef,undef,undef],defers:=[] }) (fun x a' W l o o' h _ _ _=>h) ?assign ?body ?done ?left)
 case assign=>
  intro l' x U K hU hK
  simp only[lvE]
  gi_wp2
  exact hK _ _ zB rfl
 case left=>
  rintro D U pre hD hpre hX hDd
  refine absurd ?_ hX.1
  have h1:=HL.out.len
  have h2:=hpre.length_le
  rw[hl] at h1
  simp at h1
  rw[h1] at h2
  exact List.length_eq_zero_iff.1 (by simpa using h2)
 case body=>
  rintro l' pre x a' U hI rfl hlen
  obtain⟨rfl,hS,hc4⟩:=hI
  have q1:=(World.cell?_of_block (a:=⟨w.heap.size,0,.none⟩) hc4).trans HV.out.2.2.1
  have q2:=(World.frozen?_of_block (a:=⟨w.heap.size,0,.none⟩) hc4).trans HV.out.2.2.2.1
  have kb:∀ k,k≠w.heap.size->(U.setCell ⟨w.heap.size,0,.none⟩ (.int .i64 87)).heap[k]? = U.heap[k]?:=fun k hk=>Below.heap_setCell _ _ _ k hk
  have sz:(U.setCell ⟨w.heap.size,0,.none⟩ (.int .i64 87)).heap.size=U.heap.size:=by simp
  have HE:Hid (KeepsFrom V.heap.size U (U.setCell ⟨w.heap.size,0,.none⟩ (.int .i64 87))∧KpG (fun k _=>V.heap.size<=k) p b mm U (U.setCell ⟨w.heap.size,0,.none⟩ (.int .i64 87))∧FrX V w.heap.size ([] ++ [x]) (U.setCell ⟨w.heap.size,0,.none⟩ (.int .i64 87))):=by
   have hp:=HV.out.2.2.2.2
   refine⟨⟨by omega,fun k o hk ho _=>(kb k (by omega)).trans ho⟩,⟨fun k o hk ho=>⟨(kb k (by omega)).trans ho,hk⟩,kb p (by omega),kb b (by omega),kb mm (by omega),by omega⟩,by simp,⟨by rw[sz];exact hS.size,hS.os,hS.tape,hS.output,fun k hk hn=>(kb k hn).trans (hS.block k hk hn)⟩,World.cell?_setCell_same' _ _ _ (by rw[q1];rfl)⟩
  clear hS hc4 kb sz hlen
  gi_wp2
  exact HE.out
 case done=>
  rintro D U hD hI hDd
  obtain⟨_,hS,hc4⟩:=hI
  have hBU:=hS.below HV.out.2.1 zL
  have q1:=(World.cell?_of_block (a:=⟨w.heap.size,0,.none⟩) hc4).trans HV.out.2.2.1
  have q2:=(World.frozen?_of_block (a:=⟨w.heap.size,0,.none⟩) hc4).trans HV.out.2.2.2.1
  have hnl:ndl r (evs F lf 0) = [ad r]:=by
   have:=HR.out.2.2.2.nodes HR.out.2.1 r
   rw[hl] at this
   have h1:(ndl r (evs F lf 0)).length=1:=this
   unfold ndl at h1 ⊢
   rw[List.length_cons] at h1
   rw[List.length_eq_zero_iff.1 (Nat.succ.inj h1)]
  have c12:=nodes_any (HR.out.1.below hBU) HR.out.2.1 HR.out.2.2.1
  rw[hnl] at c12
  have hDU:D<U.heap.size:=(Array.getElem?_eq_some_iff.1 hDd).1
  have HD:Hid (Below w.heap.size w U∧D<U.heap.size∧w.heap.size<D∧U.heap[D]? = some (.deferred (some []))∧U.cell? ⟨w.heap.size,0,.none⟩=some (.int .i64 0)∧U.frozen? ⟨w.heap.size,0,.none⟩=false):=⟨hBU,hDU,by omega,hDd,q1,q2⟩
  clear hS hc4 hBU q1 q2 hnl hDU hDd hD HL hl
  dsimp only
  go_wp2_with (first|(go_at_call 125;refine c12.mono ?_;rintro _ w7 ⟨g7,c7,rfl,own7,b7⟩;clear c12))
  obtain⟨hr1,hrN,hrL⟩:=HR.out.2.1.held 0 r HR.out.2.2.1
  have BU:=HD.out.1
  have c52:Calls Tryz.prog 156 #[.pointer (some ⟨p,0,.none⟩),.int .u64 (ad r)] w7 fun e w'=>e = .returned (.int .i64 0)∧Ram w' p b mm N (thr B r (adr L)) (r :: L)∧Fra p b mm w7 w':=free_held r ((HR.out.1.below BU).below b7) hr1 hrN hrL
  have e0:w7.cell? ⟨g7,0,.none⟩=some (.int .u64 (ad r)):=by
   exact own7.cellAt 0 (by simp)
  have h7:Below w.heap.size w w7:=BU.trans (b7.mono BU.size)
  have q7:=(b7.cell (p:=⟨w.heap.size,0,.none⟩) (by have:=HD.out;simp only;omega)).trans HD.out.2.2.2.2.1
  have q8:=(b7.frozen (p:=⟨w.heap.size,0,.none⟩) (by have:=HD.out;simp only;omega)).trans HD.out.2.2.2.2.2
  have d7:=(b7.block D HD.out.2.1).trans HD.out.2.2.2.1
  have HW:Hid (Below w.heap.size w w7∧w7.cell? ⟨w.heap.size,0,.none⟩=some (.int .i64 0)∧w7.frozen? ⟨w.heap.size,0,.none⟩=false∧w7.heap[D]? = some (.deferred (some []))∧w.heap.size<D∧D<w7.heap.size):=⟨h7,q7,q8,d7,HD.out.2.2.1,Nat.lt_of_lt_of_le HD.out.2.1 b7.size⟩
  clear own7 b7 BU h7 q7 q8 d7 HD hr1 hrN hrL
  go_loopw [25] (fun v wr=>(v = .int .i64 0∧wr=w7)∨(v = .int .i64 1∧Hid (Ram wr p b mm N (thr B r (adr L)) (r :: L)∧Fra p b mm w7 wr))) (fun v _=>(1-intOf v).toNat)
  case atStart=>exact .inl ⟨rfl,rfl⟩
  case round=>
   rcases hrel with⟨rfl,rfl⟩|⟨rfl,HF⟩
   ·go_wp2_with (first|(go_at_call 156;refine c52.mono ?_;rintro _ w8 ⟨rfl,k8,f8⟩;have HF:Hid (Ram w8 p b mm N (thr B r (adr L)) (r :: L)∧Fra p b mm wr w8):=⟨k8,f8⟩;clear k8 f8 c52))
    exact⟨.inr ⟨rfl,HF⟩,by simp[intOf]⟩
   ·obtain⟨h7,q7,q8,d7,hwD,hD7⟩:=HW.out
    have hp:=HV.out.2.2.2.2
    have f8:=HF.out.2
    have x1:=(f8.cell (x:=⟨w.heap.size,0,.none⟩) (by simp only;omega) (by simp only;omega) (by simp only;omega) (by simp only;omega)).trans q7
    have x2:=(f8.frozen (x:=⟨w.heap.size,0,.none⟩) (by simp only;omega) (by simp only;omega) (by simp only;omega) (by simp only;omega)).trans q8
    have x3:=(f8.block D hD7 (by omega) (by omega) (by omega)).trans d7
    have x4:(wr.setCell ⟨w.heap.size,0,.none⟩ (.int .i64 0)).heap[D]? = some (.deferred (some [])):=(Below.heap_setCell _ _ _ D (by simp only;omega)).trans x3
    obtain⟨X,hX⟩:∃ X,X=(wr.setCell ⟨w.heap.size,0,.none⟩ (.int .i64 0)).putObj D (.deferred none):=⟨_,rfl⟩
    have y1:X.cell? ⟨w.heap.size,0,.none⟩=some (.int .i64 0):=by
     rw[hX]
     exact(World.cell?_of_block (a:=⟨w.heap.size,0,.none⟩) (World.putObj_heap_other (by simp only;omega))).trans (World.cell?_setCell_same' _ _ _ (by rw[x1];rfl))
    have kb:∀ k,k≠D->k≠w.heap.size->X.heap[k]? = wr.heap[k]?:=fun k h1 h2=>by rw[hX];exact(World.putObj_heap_other h1).trans (Below.heap_setCell _ _ _ k h2)
    have HE:Hid (Ram X p b mm N (thr B r (adr L)) (r :: L)∧Fra p b mm w X):=by
     have hR8:=HF.out.1
     have hs7:=h7.size
     refine⟨⟨hR8.mem.keep (kb p (by omega) (by omega)) (kb b (by omega) (by omega)) (kb mm (by omega) (by omega)),hR8.nd,hR8.lt,hR8.thr⟩,⟨?_,?_,?_,?_,fun k hk h1 h2 h3=>(kb k (by omega) (by omega)).trans ((f8.block k (by omega) h1 h2 h3).trans (h7.block k hk))⟩⟩
     ·rw[hX];exact f8.os.trans h7.os
     ·rw[hX];exact f8.tape.trans h7.tape
     ·rw[hX];exact f8.output.trans h7.output
     ·rw[hX];simp[World.putObj];exact Nat.le_trans h7.size f8.size
    clear kb f8 HF d7 q7 q8 h7
    go_wp2
    refine⟨by simp,.inl ⟨_,_,rfl,run_takeDeferred x4,?_⟩⟩
    rw[<-hX]
    exact⟨.int .i64 0,by simp[results,Tryz.results115,go_sem,y1],rfl,HE.out⟩
section
variable {p b m ra rb fm:Nat} {la lb:List Pg} {W:World}
end
end Rm
namespace Rm
open Go Go.RowKit
def tpg (ft:Nat):List Pg:=[(274877898752,ad ft,198),(274877902848,ad 0,74)]
def upg (fr:Nat->Nat) (c:Nat->Int) (i:Nat):Pg:=((i:Int)*4096,ad (fr i),c i)
def pgL (ft:Nat) (fr:Nat->Nat) (c:Nat->Int) (I:List Nat):List Pg:=tpg ft ++ I.map (upg fr c)
theorem mem_pgL {ft:Nat} {fr:Nat->Nat} {c:Nat->Int} {I:List Nat} {x:Pg}:x∈pgL ft fr c I↔x=(274877898752,ad ft,198)∨x=(274877902848,ad 0,74)∨∃ i∈I,x=upg fr c i:=by
 unfold pgL tpg
 rw[List.mem_append,List.mem_map]
 constructor
 ·rintro(h|⟨i,hi,rfl⟩)
  ·simp at h
   rcases h with h|h
   ·exact .inl h
   ·exact .inr (.inl h)
  ·exact .inr (.inr ⟨i,hi,rfl⟩)
 ·rintro(rfl|rfl|⟨i,hi,rfl⟩)
  ·exact .inl (by simp)
  ·exact .inl (by simp)
  ·exact .inr ⟨i,hi,rfl⟩
structure SpL (N r ft:Nat) (B:Nat->Int) (L:List Nat) (F:Nat->Option Nat) (lf:Nat->Nat->Int) (fr:Nat->Nat) (c:Nat->Int) (I:List Nat):Prop where
 pt:PT N L B F lf
 rt:F 0=some r
 tl:TL F lf (pgL ft fr c I)
 nd:I.Nodup
 bd:∀ i∈I,i<4096
 inj:∀ i∈I,∀ j∈I,fr i=fr j->i=j
 pg:∀ i∈I,1<=fr i∧fr i<N∧fr i∉L∧(∀ x,F x≠some (fr i))∧fr i≠ft
 ftb:1<=ft∧ft<N∧ft∉L∧∀ x,F x≠some ft
def Oth (L:List Nat) (F:Nat->Option Nat) (fr:Nat->Nat) (I:List Nat) (B:Nat->Int) (L':List Nat) (F':Nat->Option Nat) (fr':Nat->Nat) (I':List Nat) (B':Nat->Int):Prop:=
 ∀ f,f∉L->(∀ x,F x≠some f)->(∀ i∈I,fr i≠f)->f∉L'∧(∀ x,F' x≠some f)∧(∀ i∈I',fr' i≠f)∧∀ j,j<4096->B' (f*4096+j)=B (f*4096+j)
theorem Oth.refl (L:List Nat) (F:Nat->Option Nat) (fr:Nat->Nat) (I:List Nat) (B:Nat->Int):Oth L F fr I B L F fr I B:=fun f h1 h2 h3=>⟨h1,h2,h3,fun _ _=>rfl⟩
theorem Oth.trans {L F fr I B L' F' fr' I' B' L2 F2 fr2 I2 B2} (h:Oth L F fr I B L' F' fr' I' B') (k:Oth L' F' fr' I' B' L2 F2 fr2 I2 B2):Oth L F fr I B L2 F2 fr2 I2 B2:=fun f h1 h2 h3=>by
 obtain⟨a1,a2,a3,a4⟩:=h f h1 h2 h3
 obtain⟨b1,b2,b3,b4⟩:=k f a1 a2 a3
 exact⟨b1,b2,b3,fun j hj=>(b4 j hj).trans (a4 j hj)⟩
section
variable {N r ft:Nat} {B B':Nat->Int} {L L':List Nat} {F F':Nat->Option Nat} {lf lf':Nat->Nat->Int} {fr:Nat->Nat} {c:Nat->Int} {I I':List Nat}
theorem pgL_pw (hI:I.Nodup) (hb:∀ i∈I,i<4096):(pgL ft fr c I).Pairwise (fun a b=>a.1≠b.1):=by
 unfold pgL
 rw[List.pairwise_append]
 refine⟨?_,?_,fun a ha b hb2=>?_⟩
 ·unfold tpg;simp
 ·rw[List.pairwise_map]
  exact hI.imp (fun {a b} h e=>h (by unfold upg at e;simp only at e;omega))
 ·obtain⟨i,hi,rfl⟩:=List.mem_map.1 hb2
  have:=hb i hi
  unfold tpg at ha
  simp at ha
  unfold upg
  rcases ha with rfl|rfl<;>simp only[ne_eq]<;>omega
theorem SpL.pw (h:SpL N r ft B L F lf fr c I):(pgL ft fr c I).Pairwise (fun a b=>a.1≠b.1):=pgL_pw h.nd h.bd
theorem SpL.ok (h:SpL N r ft B L F lf fr c I) {i:Nat} (hi:i∈I):okP (upg fr c i):=h.tl.ok _ (mem_pgL.2 (.inr (.inr ⟨i,hi,rfl⟩)))
theorem SpL.leaf (h:SpL N r ft B L F lf fr c I) {i:Nat} (hi:i∈I):lf (y0 ((i:Int)*4096)) (i0 ((i:Int)*4096))=toP (ad (fr i)) (c i):=h.tl.leaf _ (mem_pgL.2 (.inr (.inr ⟨i,hi,rfl⟩)))
theorem SpL.pag (h:SpL N r ft B L F lf fr c I) {i:Nat} (hi:i∈I):Pag N L F lf ((i:Int)*4096) (fr i) (c i):=by
 have hk:=h.ok hi
 have hl:=h.leaf hi
 have hp:=h.pg i hi
 obtain⟨g,q,e1,e0⟩:=h.pt.way ((i:Int)*4096) (by rw[hl];exact hk.ne)
 exact⟨⟨g,e1⟩,⟨q,e0⟩,hl,hk.2.2.2,hk.2.2.1,⟨hp.2.1,hp.2.2.1⟩,hp.2.2.2.1⟩
theorem SpL.zero (h:SpL N r ft B L F lf fr c I) {i:Nat} (hi:i∉I) (hb:i<4096):lf (y0 ((i:Int)*4096)) (i0 ((i:Int)*4096))=0:=by
 refine h.tl.none_at _ ⟨by omega,by omega,by omega⟩ fun x hx=>?_
 rcases mem_pgL.1 hx with rfl|rfl|⟨j,hj,rfl⟩
 ·simp only[ne_eq];omega
 ·simp only[ne_eq];omega
 ·unfold upg
  simp only[ne_eq]
  intro e
  have:j=i:=by omega
  exact hi (this ▸ hj)
theorem need_eq (F:Nat->Option Nat) (va:Int):needY F va=need F va:=rfl
theorem SpL.add {i f:Nat} {x:Int} {L1:List Nat} (h:SpL N r ft B (f :: L1) F lf fr c I) (hd:(f :: L1).Nodup) (hf:1<=f∧f<N) (hN:N<=4096) (hi:i∉I) (hb:i<4096) (hx:0<=x∧x<256∧x%2=0) (hk:kd (toP (ad f) x) 0=2)
  (R:LP N ((i:Int)*4096) (toP (ad f) x) L1 (zer B f) F lf L' B' F') (hl:L1.length=need F ((i:Int)*4096)+L'.length) :
  SpL N r ft B' L' F' (setE lf (y0 ((i:Int)*4096)) (i0 ((i:Int)*4096)) (toP (ad f) x)) (upd fr i f) (upd c i x) (I ++ [i])∧L'.length+nodesF F'+1=(f :: L1).length+nodesF F∧Oth (f :: L1) F fr I B L' F' (upd fr i f) (I ++ [i]) B':=by
 have hnd:=List.nodup_cons.1 hd
 have hfL':f∉L':=fun hm=>hnd.1 (R.sub f hm)
 have hfn:∀ j∈I,fr j≠f:=fun j hj e=>(h.pg j hj).2.2.1 (by rw[e];exact List.mem_cons_self ..)
 have hff:f≠ft:=fun e=>h.ftb.2.2.1 (by rw[<-e];exact List.mem_cons_self ..)
 have hFf:∀ y,F' y≠some f:=fun y hy=>by
  rcases R.new y f hy with e|⟨e,_⟩
  ·exact(h.pt.held y f e).2.2 (List.mem_cons_self ..)
  ·exact hnd.1 e
 have hu:∀ j∈I,upd fr i f j=fr j:=fun j hj=>by unfold upd;rw[if_neg (fun e:j=i=>hi (e ▸ hj))]
 have huc:∀ j∈I,upd c i x j=c j:=fun j hj=>by unfold upd;rw[if_neg (fun e:j=i=>hi (e ▸ hj))]
 have hui:upd fr i f i=f:=by unfold upd;rw[if_pos rfl]
 have huci:upd c i x i=x:=by unfold upd;rw[if_pos rfl]
 have hok:okP ((i:Int)*4096,ad f,x):=⟨⟨by simp only;omega,by simp only;omega,by simp only;omega⟩,ad_b f N hf.2 hN,hx,hk⟩
 have hpn:∀ y∈pgL ft fr c I,y.1≠(i:Int)*4096:=fun y hy=>by
  rcases mem_pgL.1 hy with rfl|rfl|⟨j,hj,rfl⟩
  ·simp only[ne_eq];omega
  ·simp only[ne_eq];omega
  ·unfold upg
   simp only[ne_eq]
   intro e
   have:j=i:=by omega
   exact hi (this ▸ hj)
 have hT:=TL.map (x:=((i:Int)*4096,ad f,x)) h.tl hok hpn R
 have e1:I.map (upg (upd fr i f) (upd c i x))=I.map (upg fr c):=List.map_congr_left fun j hj=>by unfold upg;rw[hu j hj,huc j hj]
 have e2:[i].map (upg (upd fr i f) (upd c i x)) = [((i:Int)*4096,ad f,x)]:=by
  unfold upg
  simp only[List.map_cons,List.map_nil]
  rw[hui,huci]
 have heq:pgL ft (upd fr i f) (upd c i x) (I ++ [i])=pgL ft fr c I ++ [((i:Int)*4096,ad f,x)]:=by
  unfold pgL
  rw[List.map_append,e1,e2,List.append_assoc]
 refine⟨⟨R.pt,R.ext 0 r h.rt,by rw[heq];exact hT,?_,fun j hj=>?_,fun j hj k hk2 e=>?_,fun j hj=>?_,?_⟩,?_,fun g h1 h2 h3=>?_⟩
 ·rw[List.nodup_append]
  exact⟨h.nd,by simp,fun a ha b hb2 e=>by rw[List.mem_singleton.1 hb2] at e;exact hi (e ▸ ha)⟩
 ·rcases List.mem_append.1 hj with e|e
  ·exact h.bd j e
  ·rw[List.mem_singleton.1 e];exact hb
 ·rcases List.mem_append.1 hj with e1|e1<;>rcases List.mem_append.1 hk2 with e2|e2
  ·rw[hu j e1,hu k e2] at e
   exact h.inj j e1 k e2 e
  ·rw[List.mem_singleton.1 e2,hu j e1,hui] at e
   exact absurd e (hfn j e1)
  ·rw[List.mem_singleton.1 e1,hu k e2,hui] at e
   exact absurd e.symm (hfn k e2)
  ·rw[List.mem_singleton.1 e1,List.mem_singleton.1 e2]
 ·rcases List.mem_append.1 hj with e|e
  ·rw[hu j e]
   have hp:=h.pg j e
   refine⟨hp.1,hp.2.1,fun hm=>hp.2.2.1 (List.mem_cons_of_mem _ (R.sub _ hm)),fun y hy=>?_,hp.2.2.2.2⟩
   rcases R.new y _ hy with e2|⟨e2,_⟩
   ·exact hp.2.2.2.1 y e2
   ·exact hp.2.2.1 (List.mem_cons_of_mem _ e2)
  ·rw[List.mem_singleton.1 e,hui]
   exact⟨hf.1,hf.2,hfL',hFf,hff⟩
 ·refine⟨h.ftb.1,h.ftb.2.1,fun hm=>h.ftb.2.2.1 (List.mem_cons_of_mem _ (R.sub _ hm)),fun y hy=>?_⟩
  rcases R.new y _ hy with e2|⟨e2,_⟩
  ·exact h.ftb.2.2.2 y e2
  ·exact h.ftb.2.2.1 (List.mem_cons_of_mem _ e2)
 ·have:=R.len h.pt.zero
  rw[List.length_cons]
  omega
 ·have hgf:g≠f:=fun e=>h1 (by rw[e];exact List.mem_cons_self ..)
  have hgF:∀ y,F' y≠some g:=fun y hy=>by
   rcases R.new y g hy with e|⟨e,_⟩
   ·exact h2 y e
   ·exact h1 (List.mem_cons_of_mem _ e)
  refine⟨fun hm=>h1 (List.mem_cons_of_mem _ (R.sub _ hm)),hgF,fun j hj=>?_,fun k hk2=>?_⟩
  ·rcases List.mem_append.1 hj with e|e
   ·rw[hu j e];exact h3 j e
   ·rw[List.mem_singleton.1 e,hui];exact fun e2=>hgf e2.symm
  ·rw[R.byt g hgF k hk2,zer_out]
   rcases Nat.lt_or_gt_of_ne hgf with e|e<;>omega
theorem PrR.sub {va:Int} {q g:Nat} (R:PrR L F lf va q g L' F' lf'):(∀ x f,F' x=some f->F x=some f)∧(∀ f,f∈L'->f∈L∨f=q∨f=g)∧F' 0=F 0:=by
 have h0:=y0_ge va
 have h1:=y1_le va
 rcases R with⟨rfl,rfl,rfl,_⟩|⟨rfl,rfl,rfl,_⟩|⟨rfl,rfl,rfl,_⟩
 ·exact⟨fun _ _ h=>h,fun _ h=>.inl h,rfl⟩
 ·refine⟨fun x f h=>?_,fun f h=>?_,?_⟩
  ·unfold setN at h
   split at h
   ·cases h
   ·exact h
  ·rcases List.mem_cons.1 h with e|e
   ·exact .inr (.inl e)
   ·exact .inl e
  ·unfold setN
   rw[if_neg (by omega)]
 ·refine⟨fun x f h=>?_,fun f h=>?_,?_⟩
  ·unfold setN at h
   split at h
   ·cases h
   ·split at h
    ·cases h
    ·exact h
  ·rcases List.mem_cons.1 h with e|e
   ·exact .inr (.inr e)
   ·rcases List.mem_cons.1 e with e|e
    ·exact .inr (.inl e)
    ·exact .inl e
  ·unfold setN
   rw[if_neg (by omega),if_neg (by omega)]
theorem SpL.del {i q g:Nat} (h:SpL N r ft B L F lf fr c I) (hi:i∈I) (hI:∀ j,j∈I'↔j∈I∧j≠i) (hd:I'.Nodup) (hg:F (y1 ((i:Int)*4096))=some g) (hq:F (y0 ((i:Int)*4096))=some q) (hp:PT N L' B' F' lf')
  (R:PrR L F (setE lf (y0 ((i:Int)*4096)) (i0 ((i:Int)*4096)) 0) ((i:Int)*4096) q g L' F' lf') (hB:Byo F B B') (v:Int) :
  fr i∉L'∧SpL N r ft (thr B' (fr i) v) (fr i :: L') F' lf' fr c I'∧(fr i :: L').length+nodesF F'=L.length+nodesF F+1∧Oth L F fr I B (fr i :: L') F' fr I' (thr B' (fr i) v):=by
 obtain⟨s1,s2,s3⟩:=PrR.sub R
 have hpi:=h.pg i hi
 have hiL:fr i∉L':=fun hm=>by
  rcases s2 _ hm with e|e|e
  ·exact hpi.2.2.1 e
  ·exact hpi.2.2.2.1 _ (by rw[e];exact hq)
  ·exact hpi.2.2.2.1 _ (by rw[e];exact hg)
 have hnL:∀ f,f∉L->(∀ x,F x≠some f)->f∉L':=fun f h1 h2 hm=>by
  rcases s2 _ hm with e|e|e
  ·exact h1 e
  ·exact h2 _ (by rw[e];exact hq)
  ·exact h2 _ (by rw[e];exact hg)
 have hinj:∀ a∈I,∀ b∈I,upg fr c a=upg fr c b->a=b:=fun a ha b hb e=>by
  have:=congrArg (fun x:Pg=>x.1) e
  unfold upg at this
  simp only at this
  omega
 have hT:=TL.unmap (lm:=pgL ft fr c I') h.tl (x:=upg fr c i) (mem_pgL.2 (.inr (.inr ⟨i,hi,rfl⟩))) (fun y=>by
  rw[mem_pgL,mem_pgL]
  have hb:=h.bd i hi
  constructor
  ·rintro(rfl|rfl|⟨j,hj,rfl⟩)
   ·exact⟨.inl rfl,fun e=>by have:=congrArg (fun x:Pg=>x.1) e;unfold upg at this;simp only at this;omega⟩
   ·exact⟨.inr (.inl rfl),fun e=>by have:=congrArg (fun x:Pg=>x.1) e;unfold upg at this;simp only at this;omega⟩
   ·exact⟨.inr (.inr ⟨j,((hI j).1 hj).1,rfl⟩),fun e=>((hI j).1 hj).2 (hinj j ((hI j).1 hj).1 i hi e)⟩
  ·rintro⟨rfl|rfl|⟨j,hj,rfl⟩,hne⟩
   ·exact .inl rfl
   ·exact .inr (.inl rfl)
   ·exact .inr (.inr ⟨j,(hI j).2 ⟨hj,fun e=>hne (by rw[e])⟩,rfl⟩)) R
 have hfi:∀ f,f≠fr i -> ∀ k,k<4096->thr B' (fr i) v (f*4096+k)=B' (f*4096+k):=fun f hf k hk=>thr_frame B' v hf k hk
 refine⟨hiL,⟨hp.keep (fun x f hx k hk=>hfi f (fun e=>hpi.2.2.2.1 x (by rw[<-e];exact s1 x f hx)) k hk) (fun x f hx hm=>?_),s3.trans h.rt,hT,hd,fun j hj=>h.bd j ((hI j).1 hj).1,fun a ha b hb=>h.inj a ((hI a).1 ha).1 b ((hI b).1 hb).1,fun j hj=>?_,?_⟩,?_,fun f h1 h2 h3=>?_⟩
 ·rcases List.mem_cons.1 hm with e|e
  ·exact hpi.2.2.2.1 x (by rw[<-e];exact s1 x f hx)
  ·exact(hp.held x f hx).2.2 e
 ·obtain⟨hj1,hj2⟩:=(hI j).1 hj
  have hpj:=h.pg j hj1
  refine⟨hpj.1,hpj.2.1,fun hm=>?_,fun x hx=>hpj.2.2.2.1 x (s1 x _ hx),hpj.2.2.2.2⟩
  rcases List.mem_cons.1 hm with e|e
  ·exact hj2 (h.inj j hj1 i hi e)
  ·exact hnL _ hpj.2.2.1 hpj.2.2.2.1 e
 ·refine⟨h.ftb.1,h.ftb.2.1,fun hm=>?_,fun x hx=>h.ftb.2.2.2 x (s1 x _ hx)⟩
  rcases List.mem_cons.1 hm with e|e
  ·exact hpi.2.2.2.2 e.symm
  ·exact hnL _ h.ftb.2.2.1 h.ftb.2.2.2 e
 ·have:=R.len hg hq
  rw[List.length_cons]
  omega
 ·refine⟨fun hm=>?_,fun x hx=>h2 x (s1 x _ hx),fun j hj=>h3 j ((hI j).1 hj).1,fun k hk=>?_⟩
  ·rcases List.mem_cons.1 hm with e|e
   ·exact h3 i hi e.symm
   ·exact hnL f h1 h2 e
  ·rw[hfi f (fun e=>h3 i hi e.symm) k hk]
   exact hB f h2 k hk
theorem cnt_low (M k a:Nat) (hk:k<=a) (ha:a<M):cnt M (fun v=>decide (v<k∨v=a))=k+1:=by
 have h1:∀ M k,k<=M->cnt M (fun v=>decide (v<k))=k:=fun M=>by
  induction M with
  |zero=>intro k hk; have : k = 0 := by omega
         subst this;rfl
  |succ M ih=>
   intro k hk
   rw[cnt_succ]
   by_cases e:k=M+1
   ·subst e
    rw[cnt_ext (q:=fun v=>decide (v<M)) (fun v hv=>decide_eq_decide.2 (by omega)),ih M zL]
    simp
   ·rw[ih k (by omega),if_neg (by simp;omega)]
    rfl
 rw[cnt_add (v0:=a) (p:=fun v=>decide (v<k)) ha (decide_eq_false (by omega)) (decide_eq_true (.inr rfl)) (fun v hv hne=>decide_eq_decide.2 (by omega)),h1 M k (by omega)]
theorem SpL.perm (h:SpL N r ft B L F lf fr c I) (hI:∀ j,j∈I'↔j∈I) (hd:I'.Nodup):SpL N r ft B L F lf fr c I':=by
 have hm:∀ x,x∈pgL ft fr c I'↔x∈pgL ft fr c I:=fun x=>by
  rw[mem_pgL,mem_pgL]
  constructor
  ·rintro(e|e|⟨i,hi,e⟩)
   ·exact .inl e
   ·exact .inr (.inl e)
   ·exact .inr (.inr ⟨i,(hI i).1 hi,e⟩)
  ·rintro(e|e|⟨i,hi,e⟩)
   ·exact .inl e
   ·exact .inr (.inl e)
   ·exact .inr (.inr ⟨i,(hI i).2 hi,e⟩)
 have t:=h.tl
 exact⟨h.pt,h.rt,⟨fun x hx=>t.ok x ((hm x).1 hx),fun x hx y hy=>t.uniq x ((hm x).1 hx) y ((hm y).1 hy),fun x hx=>t.leaf x ((hm x).1 hx),fun y k h1 h2 h3=>by obtain⟨x,hx,e⟩:=t.only y k h1 h2 h3;exact⟨x,(hm x).2 hx,e⟩,t.n0,t.n1⟩,hd,
  fun i hi=>h.bd i ((hI i).1 hi),fun i hi j hj=>h.inj i ((hI i).1 hi) j ((hI j).1 hj),fun i hi=>h.pg i ((hI i).1 hi),h.ftb⟩
theorem Oth.perm {fr':Nat->Nat} {I2 I3:List Nat} (h:Oth L F fr I B L' F' fr' I' B') (h1:∀ j,j∈I2↔j∈I) (h2:∀ j,j∈I3↔j∈I'):Oth L F fr I2 B L' F' fr' I3 B':=fun f a1 a2 a3=>by
 obtain⟨b1,b2,b3,b4⟩:=h f a1 a2 (fun i hi=>a3 i ((h1 i).2 hi))
 exact⟨b1,b2,fun i hi=>b3 i ((h2 i).1 hi),b4⟩
theorem SpL.nodes {P:Nat} (h:SpL N r ft B L F lf fr c (List.range P)) (hP:P<=4096):((nodesF F:Nat):Int)+1=ndP P:=by
 have e1:cnt 512 (fun v=>decide (F (1+v)≠none))=(if P=0 then 0 else 1)+1:=by
  rw[<-cnt_low 512 (if P=0 then 0 else 1) 255 (by split<;>omega) (by omega)]
  refine cnt_ext fun v hv=>decide_eq_decide.2 ((h.tl.has1 h.pt v hv).trans ⟨?_,?_⟩)
  ·rintro⟨x,hx,e⟩
   rcases mem_pgL.1 hx with rfl|rfl|⟨i,hi,rfl⟩
   ·right;simp only at e;omega
   ·right;simp only at e;omega
   ·have:=List.mem_range.1 hi
    left
    unfold upg at e
    simp only at e
    rw[if_neg (by omega)]
    omega
  ·rintro(e|rfl)
   ·have h0:P≠0:=fun h0=>by rw[if_pos h0] at e;omega
    rw[if_neg h0] at e
    refine⟨upg fr c 0,mem_pgL.2 (.inr (.inr ⟨0,List.mem_range.2 (by omega),rfl⟩)),?_⟩
    unfold upg
    simp only
    omega
   ·exact⟨_,mem_pgL.2 (.inl rfl),by simp only;omega⟩
 have e0:cnt 262144 (fun v=>decide (F (513+v)≠none))=(P+511)/512+1:=by
  rw[<-cnt_low 262144 ((P+511)/512) 131071 (by omega) (by omega)]
  refine cnt_ext fun v hv=>decide_eq_decide.2 ((h.tl.has0 h.pt v).trans ⟨?_,?_⟩)
  ·rintro⟨x,hx,e⟩
   rcases mem_pgL.1 hx with rfl|rfl|⟨i,hi,rfl⟩
   ·right;simp only at e;omega
   ·right;simp only at e;omega
   ·have:=List.mem_range.1 hi
    left
    unfold upg at e
    simp only at e
    omega
  ·rintro(e|rfl)
   ·refine⟨upg fr c (v*512),mem_pgL.2 (.inr (.inr ⟨v*512,List.mem_range.2 (by omega),rfl⟩)),?_⟩
    unfold upg
    simp only
    omega
   ·exact⟨_,mem_pgL.2 (.inl rfl),by simp only;omega⟩
 unfold nodesF ndP
 rw[e1,e0]
 by_cases h0:P=0
 ·subst h0;rfl
 ·rw[if_neg h0,if_neg (by omega)]
  omega
end
end Rm
namespace Rm
open Go Go.RowKit
def TkZ (w:World) (p b m N:Nat) (B:Nat->Int) (L:List Nat) (F:Nat->Option Nat) (lf:Nat->Nat->Int) (va:Int) (w':World):Prop:=∃ g q B' L' F' lf',F (y1 va)=some g∧F (y0 va)=some q∧PT N L' B' F' lf'∧PrR L F (setE lf (y0 va) (i0 va) 0) va q g L' F' lf'∧Ram w' p b m N B' L'∧Fra p b m w w'∧Byo F B B'
def TkP (w:World) (p b m N r ft:Nat) (B:Nat->Int) (L:List Nat) (F:Nat->Option Nat) (fr:Nat->Nat) (c:Nat->Int) (I I':List Nat) (e:Ending) (w':World):Prop:=e = .returned (.tuple #[])∧Fra p b m w w'∧∃ B' L' F' lf',Ram w' p b m N B' L'∧SpL N r ft B' L' F' lf' fr c I'∧L'.length+nodesF F'=L.length+nodesF F+1∧Oth L F fr I B L' F' fr I' B'
section
variable {w:World} {s p b m N r ft:Nat} {B:Nat->Int} {L:List Nat} {F:Nat->Option Nat} {lf:Nat->Nat->Int} {fr:Nat->Nat} {c:Nat->Int} {I I':List Nat}
theorem take_any (h:Ram w p b m N B L) (hs:SpL N r ft B L F lf fr c I) {i:Nat} (hi:i∈I) (hI:∀ j,j∈I'↔j∈I∧j≠i) (hd:I'.Nodup) :
  Calls Tryz.prog 113 #[.agg #[.pointer (some ⟨p,0,.none⟩),.int .u64 (ad r)],.int .i64 i] w (TkP w p b m N r ft B L F fr c I I'):=by
 have hN:=h.mem.n2
 have hq:=hs.pag hi
 have hib:=hs.bd i hi
 obtain⟨X,hX⟩:∃ X,X=w.heap.size:=⟨_,rfl⟩
 obtain⟨w1,hw1⟩:∃ w1,w1=w.alloc (.cells #[.pointer (some ⟨p,0,.none⟩),.int .u64 (ad r)] 105):=⟨_,rfl⟩
 have b1:Below w.heap.size w w1:=by rw[hw1];exact zB.alloc zL _
 have k1:C2w w1 X (.pointer (some ⟨p,0,.none⟩)) (.int .u64 (ad r)):=by
  rw[hw1,hX]
  exact⟨by simp,by simp,fun k=>World.frozen?_alloc_new _ _ _ _⟩
 have hp:p<X:=by rw[hX];exact zC h.mem.c0
 have hb:b<X:=by rw[hX];exact zC (h.mem.cb 0 (by have:=h.mem.n1;omega))
 have hm:m<X:=by rw[hX];exact h.mem.mlt
 have hlf:=hs.leaf hi
 have hok:=hs.ok hi
 have c88:Calls Tryz.prog 114 #[.pointer (some ⟨p,0,.none⟩),.int .u64 (ad r),.int .u64 ((i:Int)*4096)] w1.drew (fun e w'=>e = .returned (.tuple #[.int .u64 (toP (ad (fr i)) (c i)),.int .i64 0])∧TkZ w1.drew p b m N B L F lf ((i:Int)*4096) w'):=by
  rw[<-hlf]
  exact unmap_byt (w:=w1.drew) (h.below b1).drew hs.pt hs.rt ((i:Int)*4096) ⟨by omega,by omega,by omega⟩ (by rw[hlf];exact hok.ne)
 have hval:=hq.val hN
 have hqb:=ad_b (fr i) N hq.qb.1 hN
 have hbd:0<=toP (ad (fr i)) (c i)∧toP (ad (fr i)) (c i)<18014398509481984:=by rw[hval];have:=hq.cb;have:=hq.qb.1;unfold ad;omega
 have hfr:toP (ad (fr i)) (c i)/1024*4096=ad (fr i):=by rw[hval];have:=hq.cb;have:=hq.qb.1;unfold ad;omega
 have c62:=fun W=>frameOf_any (toP (ad (fr i)) (c i)) hbd W
 rw[hfr] at c62
 have kS:w1.drew.cell? ⟨X,0,.none⟩=some (.pointer (some ⟨p,0,.none⟩))∧w1.drew.cell? ⟨X,1,.none⟩=some (.int .u64 (ad r)):=⟨k1.a,k1.b⟩
 have HW:Hid (Below w.heap.size w w1∧C2w w1 X (.pointer (some ⟨p,0,.none⟩)) (.int .u64 (ad r))∧SpL N r ft B L F lf fr c I):=⟨b1,k1,hs⟩
 have HI:Hid (i∈I∧(∀ j,j∈I'↔j∈I∧j≠i)∧I'.Nodup):=⟨hi,hI,hd⟩
 clear h hs hi hI hd b1 k1 hval hbd hfr hlf hok hq hqb
 generalize toP (ad (fr i)) (c i)=tp at *
 go_enter Tryz.func113,Tryz.ntmps113
 go_upto_region 1 with fail
 rw[<-hw1,<-hX]
 have HXX:Hid (X=w.heap.size):=hX
 clear hw1 hX
 refine wp_region_held_drew (S:=(fun U=>U.cell? ⟨X,0,.none⟩=some (.pointer (some ⟨p,0,.none⟩))∧U.cell? ⟨X,1,.none⟩=some (.int .u64 (ad r)))) (by kernel_rfl) kS (fun hHeld=>?_)
 refine aT 0 (.pointer (some ⟨X,0,.none⟩)) rfl ?_
 simp only[xX]
 refine aT 1 (.pointer (some ⟨p,0,.none⟩)) rfl ?_
 simp only[xX]
 refine aT 2 (.pointer (some ⟨X,1,.none⟩)) rfl ?_
 simp only[xX]
 refine aT 3 (.int .u64 (ad r)) rfl ?_
 simp only[xX]
 refine aT 4 (.int .i64 i) rfl ?_
 simp only[xX]
 refine zR 5 rfl (fun K hK=>?_)
 go_simp
 go_at_call 98
 refine(addrOf_any i (by omega) _).mono ?_
 rintro _ w3 ⟨rfl,e3⟩
 obtain rfl:w1.drew=w3:=e3.symm
 refine hK.out _ _ kS (fun hHeld=>?_)
 clear hK K
 try simp only[xX]
 refine zR 6 rfl (fun K hK=>?_)
 go_simp
 go_at_call 114
 refine(c88).mono ?_
 rintro _ w3 ⟨rfl,Z⟩
 obtain⟨g,q,B1,L1,F1,lf1,hg,hq,P1,R1,r1,f1,y1⟩:=Z
 have D:=HW.out.2.2.del HI.out.1 HI.out.2.1 HI.out.2.2 hg hq P1 R1 y1 (adr L1)
 have f13:Fra p b m w w3:=(Fra.below HW.out.1).trans ((Fra.below zB.drew).trans f1)
 have k3:=HW.out.2.1.fra ((Fra.below zB.drew).trans f1) (by omega) (by omega) (by omega)
 have kS3:w3.cell? ⟨X,0,.none⟩=some (.pointer (some ⟨p,0,.none⟩))∧w3.cell? ⟨X,1,.none⟩=some (.int .u64 (ad r)):=⟨k3.a,k3.b⟩
 have hfi:=HW.out.2.2.pg i HI.out.1
 have c35:Calls Tryz.prog 156 #[.pointer (some ⟨p,0,.none⟩),.int .u64 (ad (fr i))] w3.drew _:=free_held (fr i) (r1.below (zB.drew)) hfi.1 hfi.2.1 D.1
 have H3:Hid (Fra p b m w w3∧SpL N r ft (thr B1 (fr i) (adr L1)) (fr i :: L1) F1 lf1 fr c I'∧(fr i :: L1).length+nodesF F1=L.length+nodesF F+1∧Oth L F fr I B (fr i :: L1) F1 fr I' (thr B1 (fr i) (adr L1))):=⟨f13,D.2⟩
 have kS4:w3.drew.cell? ⟨X,0,.none⟩=some (.pointer (some ⟨p,0,.none⟩))∧w3.drew.cell? ⟨X,1,.none⟩=some (.int .u64 (ad r)):=kS3
 clear D f13 hfi f1 r1 P1 R1 y1 hg hq c88
 refine hK.out _ _ kS3 (fun hHeld=>?_)
 clear hK K
 try simp only[xX]
 refine aT 7 (.tuple #[.int .u64 tp,.int .i64 0]) rfl ?_
 simp only[xX]
 refine aT 8 (.int .u64 tp) rfl ?_
 simp only[xX]
 refine aT 9 (.int .i64 0) rfl ?_
 simp only[xX]
 refine aT 10 (.int .u64 tp) rfl ?_
 simp only[xX]
 refine aT 11 (.int .i64 0) rfl ?_
 simp only[xX]
 refine wpAnyH_done (by kernel_rfl) ?_ _
 go_upto_region 3 with fail
 refine wp_region_held_drew (S:=(fun U=>U.cell? ⟨X,0,.none⟩=some (.pointer (some ⟨p,0,.none⟩))∧U.cell? ⟨X,1,.none⟩=some (.int .u64 (ad r)))) (by kernel_rfl) kS4 (fun hHeld=>?_)
 refine aT 0 (.pointer (some ⟨X,0,.none⟩)) rfl ?_
 simp only[xX]
 refine aT 1 (.pointer (some ⟨p,0,.none⟩)) rfl ?_
 simp only[xX]
 refine aT 2 (.int .u64 tp) rfl ?_
 simp only[xX]
 refine zR 3 rfl (fun K hK=>?_)
 go_simp
 go_at_call 128
 refine(c62 _).mono ?_
 rintro _ w4 ⟨rfl,e4⟩
 obtain rfl:w3.drew=w4:=e4.symm
 refine hK.out _ _ kS4 (fun hHeld=>?_)
 clear hK K
 try simp only[xX]
 refine zR 4 rfl (fun K hK=>?_)
 go_simp
 go_at_call 156
 refine(c35).mono ?_
 rintro _ w4 ⟨rfl,r4,f4⟩
 have k4:=k3.fra ((Fra.below zB.drew).trans f4) (by omega) (by omega) (by omega)
 have H4:Hid (Fra p b m w w4∧Ram w4 p b m N (thr B1 (fr i) (adr L1)) (fr i :: L1)):=⟨H3.out.1.trans ((Fra.below zB.drew).trans f4),r4⟩
 clear r4 f4
 refine hK.out _ _ ⟨k4.a,k4.b⟩ (fun hHeld=>?_)
 clear hK K
 try simp only[xX]
 refine wpAnyH_done (by kernel_rfl) ?_ _
 go_wp2_with fail
 exact bodyPost_end (v:=.tuple #[]) (by simp[results,Tryz.results113,go_sem]) rfl ⟨rfl,H4.out.1,_,_,F1,lf1,H4.out.2,H3.out.2⟩
end
structure SpT (W:World) (s p b m N r P ft:Nat) (size:Int) (B:Nat->Int) (L:List Nat) (F:Nat->Option Nat) (lf:Nat->Nat->Int) (fr:Nat->Nat) (c:Nat->Int):Prop where
 sp:Sp W s p (ad r) size
 sz:0<=size∧(size+4095)/4096=P
 pm:P<=4096
 ram:Ram W p b m N B L
 ne:s≠p∧s≠b∧s≠m
 tab:SpL N r ft B L F lf fr c (List.range P)
section
variable {w w':World} {s p b m N r P ft:Nat} {size:Int} {B:Nat->Int} {L:List Nat} {F:Nat->Option Nat} {lf:Nat->Nat->Int} {fr:Nat->Nat} {c:Nat->Int}
theorem SpT.below (h:SpT w s p b m N r P ft size B L F lf fr c) (k:Below w.heap.size w w'):SpT w' s p b m N r P ft size B L F lf fr c:=⟨h.sp.below k,h.sz,h.pm,h.ram.below k,h.ne,h.tab⟩
theorem SpT.su (h:SpT w s p b m N r P ft size B L F lf fr c):SpU w s p b m N r P size B L F lf fr c:=⟨h.sp,h.sz,h.pm,h.ram,h.tab.pt,h.tab.rt,h.ne,fun i hi=>h.tab.pag (List.mem_range.2 hi)⟩
def gapL (Q j P:Nat):List Nat:=(List.range P).filter fun i=>decide (i<Q∨j<=i)
theorem gapL_mem (Q j P i:Nat):i∈gapL Q j P↔i<P∧(i<Q∨j<=i):=by unfold gapL;rw[List.mem_filter,List.mem_range,decide_eq_true_iff]
theorem gapL_nd (Q j P:Nat):(gapL Q j P).Nodup:=List.Pairwise.filter _ List.nodup_range
def ShI (w:World) (s p b m N r P ft Q:Nat) (B:Nat->Int) (L:List Nat) (F:Nat->Option Nat) (fr:Nat->Nat) (c:Nat->Int) (j:Nat) (W:World):Prop:=Fra p b m w W∧∃ B' L' F' lf',Ram W p b m N B' L'∧SpL N r ft B' L' F' lf' fr c (gapL Q j P)∧L'.length+nodesF F'+Q=L.length+nodesF F+j∧Oth L F fr (List.range P) B L' F' fr (gapL Q j P) B'
def ShP (w:World) (s p b m N r P ft Q:Nat) (tz:Int) (B:Nat->Int) (L:List Nat) (F:Nat->Option Nat) (fr:Nat->Nat) (c:Nat->Int) (e:Ending) (w':World):Prop:=e = .returned (.int .i64 0)∧Tch p b m s w w'∧∃ B' L' F' lf',SpT w' s p b m N r Q ft tz B' L' F' lf' fr c∧L'.length+nodesF F'+Q=L.length+nodesF F+P∧Oth L F fr (List.range P) B L' F' fr (List.range Q) B'
theorem Sp.resize {W:World} {s p:Nat} {root size tz:Int} (g1:Sp W s p root size):Sp (W.setCell ⟨s,2,.none⟩ (.int .u64 tz)) s p root tz:=⟨(zO (by simp)).trans g1.c0,(zO (by simp)).trans g1.c1,World.cell?_setCell_same' _ _ _ (by rw[g1.c2];rfl),fun k=>by rw[World.frozen?_setCell];exact g1.fr k⟩
theorem shrink_any (h:SpT w s p b m N r P ft size B L F lf fr c) (tz:Int) (hto:0<=tz∧tz<=size) (Q:Nat) (hQ:(tz+4095)/4096=Q) :
  Calls Tryz.prog 60 #[.pointer (some ⟨s,0,.none⟩),.int .u64 tz] w (ShP w s p b m N r P ft Q tz B L F fr c):=by
 have hsz:=h.sz
 have hpm:=h.pm
 have hne:=h.ne
 have c43:=made_sp h.sp
 have c46:=fun W=>pagesOf_any tz (by omega) W
 rw[hQ] at c46
 have c19:=fun W (hW:Sp W s p (ad r) size)=>pages_sp hW (by omega)
 rw[hsz.2] at c19
 have hQP:Q<=P:=by omega
 have k2:=h.sp.c2
 have hle:¬ size<tz:=by omega
 have H0:Hid (SpT w s p b m N r P ft size B L F lf fr c):=h
 have HZ:Hid ((tz+4095)/4096=Q∧(size+4095)/4096=P):=⟨hQ,hsz.2⟩
 clear h hQ hsz
 go_enter Tryz.func60,Tryz.ntmps60
 go_upto_region 5 with(go_at_call 46;refine c43.mono ?_;rintro _ w1 ⟨rfl,e1⟩;obtain rfl:w=w1:=e1.symm)
 go_wp2_with (go_at_call 112;refine(c46 _).mono ?_;rintro _ w1 ⟨rfl,e1⟩;obtain rfl:w=w1:=e1.symm)
 go_loopw [5] (fun k wr=>∃ j:Nat,Q<=j∧j<=P∧k = .int .i64 j∧Hid (ShI w s p b m N r P ft Q B L F fr c j wr)) (fun k _=>(P-intOf k).toNat)
 case atStart=>
  refine⟨Q,Nat.le_refl _,hQP,rfl,⟨Fra.refl ..,B,L,F,lf,H0.out.ram,H0.out.tab.perm (fun j=>by rw[gapL_mem,List.mem_range];omega) (gapL_nd ..),rfl,?_⟩⟩
  exact(Oth.refl L F fr (List.range P) B).perm (fun _=>Iff.rfl) (fun j=>by rw[gapL_mem,List.mem_range];omega)
 case round=>
  obtain⟨j,hj1,hj2,rfl,HJ⟩:=hrel
  have Sr:Sp wr s p (ad r) size:=H0.out.sp.fra HJ.out.1 hne.1 hne.2.1 hne.2.2
  have k0:=Sr.c0
  have k1:=Sr.c1
  have k2:=Sr.c2
  have kf:=Sr.fr 2
  have d19:=c19 wr Sr
  have HS:Hid (Sp wr s p (ad r) size):=Sr
  clear Sr
  by_cases hjP:j<P
  ·have hlt:(j:Int)<P:=by omega
   obtain⟨fw,B1,L1,F1,lf1,r1,t1,n1,o1⟩:=HJ.out
   have c65:=take_any r1 t1 (i:=j) (I':=gapL Q (j+1) P) ((gapL_mem ..).2 ⟨hjP,.inr zL⟩) (fun i=>by rw[gapL_mem,gapL_mem];omega) (gapL_nd ..)
   unfold TkP at c65
   have HN:Hid (Fra p b m w wr∧L1.length+nodesF F1+Q=L.length+nodesF F+j∧Oth L F fr (List.range P) B L1 F1 fr (gapL Q j P) B1):=⟨fw,n1,o1⟩
   clear r1 t1 fw n1 o1 HJ
   go_wp2_with first|(go_at_call 99;refine d19.mono ?_;rintro _ w1 ⟨rfl,e1⟩;obtain rfl:wr=w1:=e1.symm)|(go_at_call 113;refine c65.mono ?_;rintro _ w2 ⟨rfl,f2,Z⟩;have HJ2:Hid (ShI w s p b m N r P ft Q B L F fr c (j+1) w2):=(by obtain⟨B2,L2,F2,lf2,r2,t2,n2,o2⟩:=Z;exact⟨HN.out.1.trans f2,B2,L2,F2,lf2,r2,t2,(by have:=HN.out.2.1;omega),HN.out.2.2.trans o2⟩);clear Z f2 c65)
   exact⟨⟨j+1,by omega,by omega,by simp,HJ2⟩,by simp only[intOf];omega⟩
  ·have hlt:¬ (j:Int)<P:=by omega
   go_wp2_with (go_at_call 99;refine d19.mono ?_;rintro _ w1 ⟨rfl,e1⟩;obtain rfl:wr=w1:=e1.symm)
   go_ret
   obtain⟨fw,B1,L1,F1,lf1,r1,t1,n1,o1⟩:=HJ.out
   have ej:j=P:=by omega
   subst ej
   refine⟨rfl,(Tch.of fw).trans (Tch.set 2 _),B1,L1,F1,lf1,⟨HS.out.resize,⟨hto.1,HZ.out.1⟩,by omega,?_,hne,t1.perm (fun i=>by rw[gapL_mem,List.mem_range];omega) List.nodup_range⟩,n1,o1.perm (fun _=>Iff.rfl) (fun i=>by rw[gapL_mem,List.mem_range];omega)⟩
   exact r1.beside ⟨s,2,.none⟩ _ (fun e=>hne.1 e.symm) (fun e=>hne.2.1 e.symm) (fun e=>hne.2.2 e.symm)
end
end Rm
end Go.Proofs.YtabnipbdbnmmpaaGreatDoor
