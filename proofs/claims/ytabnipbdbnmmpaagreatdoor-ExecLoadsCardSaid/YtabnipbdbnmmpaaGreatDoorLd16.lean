import Derived.Test.YtabnipbdbnmmpaaGreatDoorLd01
import Derived.Test.YtabnipbdbnmmpaaGreatDoorLd15
import Derived.Test.YtabnipbdbnmmpaaGreatDoorLd13
import Derived.Test.YtabnipbdbnmmpaaGreatDoorLd10
set_option linter.unusedVariables false
set_option linter.unusedSimpArgs false
set_option maxHeartbeats 8000000
namespace Go.Proofs.YtabnipbdbnmmpaaGreatDoor
namespace Rm
open Go Go.RowKit
theorem cutTo2 (g k n T c:Nat) (h:n<=T∧T<=c) (W:World):(Instr.slice 24 (.slice (some ⟨g,k,.none⟩) T c) none (some (.int .i64 n)) none).run Tryz.prog W = .ok (.slice (some ⟨g,k,.none⟩) n c) W:=by
 rw[run_slice_h W 24 (some ⟨g,k,.none⟩) T c (by kernel_rfl) .i64 n (by omega) (by omega),elemU8]
 simp[Result.andThen,sliced,Addr.add]
theorem cutFrom2 (g k n T c:Nat) (h:n<=T∧T<=c) (W:World):∃ q,(n<c->q=some ⟨g,k+n,.none⟩)∧(Instr.slice 24 (.slice (some ⟨g,k,.none⟩) T c) (some (.int .i64 n)) none none).run Tryz.prog W = .ok (.slice q (T-n:Nat) (c-n:Nat)) W:=by
 have hadd:(⟨g,k,.none⟩:Addr).add n=⟨g,k+n,.none⟩:=by unfold Addr.add;split<;>simp_all
 refine⟨if c=n then some ⟨g,k,.none⟩ else some ⟨g,k+n,.none⟩,fun h2=>by rw[if_neg (by omega)],?_⟩
 rw[run_slice_l W 24 (some ⟨g,k,.none⟩) T c (by kernel_rfl) .i64 n (by omega) (by omega),elemU8]
 by_cases e:c=n
 ·simp[Result.andThen,sliced,e]
 ·simp[Result.andThen,sliced,e,hadd]
section
variable {w:World} {s p b m N:Nat} {B:Nat->Int} {L:List Nat} {F:Nat->Option Nat} {lf:Nat->Nat->Int}
def P1P (w:World) (p b m bv N:Nat) (B:Nat->Int) (L:List Nat) (q o n g k T c:Nat) (R:Nat->Int) (e:Ending) (w':World):Prop:=e = .returned (.bool true)∧Ram w' p b m N (over B (q*4096+o) ((List.range n).map R)) L∧Tch p b m bv w w'∧(∃ q2,w'.cell? ⟨bv,0,.none⟩=some (.slice q2 (T-n:Nat) (c-n:Nat))∧(n<c->q2=some ⟨g,k+n,.none⟩))∧w'.frozen? ⟨bv,0,.none⟩=false
theorem put1_gen {root size:Int} (hS:Sp w s p root size) (h:Ram w p b m N B L) (q o n:Nat) (hq:q<N∧q∉L) (hn:1<=n) (ho:o+n<=4096) (g k T c:Nat) (hc:n<=T∧T<=c∧c<=9223372036854775807) (R:Nat->Int) (hR:∀ i,0<=R i∧R i<256) (hg:∀ i,i<n->w.cell? ⟨g,k+i,.none⟩=some (.int .u8 (R i)))
  (bv sv:Nat) (hb:w.cell? ⟨bv,0,.none⟩=some (.slice (some ⟨g,k,.none⟩) T c)) (hbf:w.frozen? ⟨bv,0,.none⟩=false) (hs:w.cell? ⟨sv,0,.none⟩=some (.pointer (some ⟨s,0,.none⟩))) (hne:bv≠p∧bv≠b∧bv≠m∧bv≠g∧bv≠s∧bv≠sv) :
  Calls Tryz.prog 102 #[.int .u64 (ad q+o),.int .i64 n,.pointer (some ⟨bv,0,.none⟩),.pointer (some ⟨sv,0,.none⟩)] w (P1P w p b m bv N B L q o n g k T c R):=by
 have ct:=cutTo2 g k n T c ⟨hc.1,hc.2.1⟩ w
 obtain⟨q2,hq2,cf⟩:=cutFrom2 g k n T c ⟨hc.1,hc.2.1⟩ w
 obtain⟨w1,hw1⟩:∃ w1,w1=w.setCell ⟨bv,0,.none⟩ (.slice q2 (T-n:Nat) (c-n:Nat)):=⟨_,rfl⟩
 have R1:Ram w1 p b m N B L:=by rw[hw1];exact h.beside ⟨bv,0,.none⟩ _ (fun e=>hne.1 e.symm) (fun e=>hne.2.1 e.symm) (fun e=>hne.2.2.1 e.symm)
 have g1:∀ i,i<n->w1.cell? ⟨g,k+i,.none⟩=some (.int .u8 (R i)):=fun i hi=>by rw[hw1];exact(zO (by simp only[ne_eq,Addr.mk.injEq,not_and];intro e;exact absurd e hne.2.2.2.1)).trans (hg i hi)
 have c92:=write_pg R1 q o n hq hn ho g k c R hR g1
 have s1:w1.cell? ⟨sv,0,.none⟩=some (.pointer (some ⟨s,0,.none⟩)):=by rw[hw1];exact(zO (by simp only[ne_eq,Addr.mk.injEq,not_and];intro e;exact absurd e hne.2.2.2.2.2)).trans hs
 have k0:w1.cell? ⟨s,0,.none⟩=some (.pointer (some ⟨p,0,.none⟩)):=by rw[hw1];exact(zO (by simp only[ne_eq,Addr.mk.injEq,not_and];intro e;exact absurd e hne.2.2.2.2.1)).trans hS.c0
 have HT:Hid (Tch p b m bv w w1):=by rw[hw1];exact Tch.set _ _
 have hb1:w1.cell? ⟨bv,0,.none⟩=some (.slice q2 (T-n:Nat) (c-n:Nat)):=by rw[hw1];exact World.cell?_setCell_same' _ _ _ (by rw[hb];rfl)
 have hf1:w1.frozen? ⟨bv,0,.none⟩=false:=by rw[hw1,World.frozen?_setCell];exact hbf
 have HB:Hid (w1.cell? ⟨bv,0,.none⟩=some (.slice q2 (T-n:Nat) (c-n:Nat))∧w1.frozen? ⟨bv,0,.none⟩=false∧(n<c->q2=some ⟨g,k+n,.none⟩)):=⟨hb1,hf1,hq2⟩
 clear h hg g1 R1 hS hR hb1 hf1 hq2
 go_enter Tryz.func102,Tryz.ntmps102
 go_upto_region 3 with fail
 rw[<-hw1]
 clear hw1
 go_wp2_with (go_at_call 103;refine c92.mono ?_;rintro _ w2 ⟨rfl,r2,f2⟩)
 go_ret
 have hlt:=zC HB.out.1
 exact⟨rfl,r2,HT.out.trans (Tch.of f2),⟨q2,(f2.cell (x:=⟨bv,0,.none⟩) hlt hne.1 hne.2.1 hne.2.2.1).trans HB.out.1,HB.out.2.2⟩,(f2.frozen (x:=⟨bv,0,.none⟩) hlt hne.1 hne.2.1 hne.2.2.1).trans HB.out.2.1⟩
end
def wrU (B:Nat->Int) (fr:Nat->Nat) (va:Nat) (R:Nat->Int):Nat->Nat->Int
 |0=>B
 |k+1=>fun i=>if i=fr ((va+k)/4096)*4096+(va+k)%4096 then R k else wrU B fr va R k i
theorem over_byte (B:Nat->Int) (o:Nat) (vs:List Int) (v:Int) (i:Nat):over B o (vs ++ [v]) i=if i=o+vs.length then v else over B o vs i:=by
 unfold over
 rw[List.length_append,List.length_singleton]
 by_cases h1:i=o+vs.length
 ·subst h1
  rw[if_pos (by omega),if_pos rfl]
  simp[List.getD_eq_getElem?_getD]
 ·rw[if_neg h1]
  by_cases h2:o<=i∧i<o+vs.length
  ·rw[if_pos (by omega),if_pos h2]
   rw[List.getD_eq_getElem?_getD,List.getD_eq_getElem?_getD,List.getElem?_append_left (by omega)]
  ·rw[if_neg (by omega),if_neg h2]
theorem wrU_over (B:Nat->Int) (fr:Nat->Nat) (va k:Nat) (R:Nat->Int):∀ pc:Nat,(va+k)%4096+pc<=4096->over (wrU B fr va R k) (fr ((va+k)/4096)*4096+(va+k)%4096) ((List.range pc).map fun i=>R (k+i))=wrU B fr va R (k+pc)
 |0,_=>by
  funext i
  unfold over
  simp
  intro h1 h2
  omega
 |pc+1,h=>by
  funext i
  have ih:=wrU_over B fr va k R pc (by omega)
  rw[List.range_succ,List.map_append,List.map_singleton,over_byte,ih,show k+(pc+1)=(k+pc)+1 by omega]
  simp only[wrU,List.length_map,List.length_range]
  rw[show (va+(k+pc))/4096=(va+k)/4096 by omega,show (va+(k+pc))%4096=(va+k)%4096+pc by omega,Nat.add_assoc]
end Rm
namespace Rm
open Go Go.RowKit
theorem each_poke {w:World} {s:Nat} {d1 d2:Nat} (va:Int) (n:Nat) (hv:0<=va∧va+n<=274877906944) (J:Nat->World->Prop) (Jf:World->Prop) (pa:Nat->Int) (ok dok:Nat->Bool)
  (hat:∀ k W,k<n->J k W->Calls Tryz.prog 149 #[.pointer (some ⟨s,0,.none⟩),.int .u64 (va+k)] W fun e W'=>e = .returned (.tuple #[.int .u64 (pa k),.bool (ok k)])∧J k W')
  (hno:∀ k W,k<n->ok k=false->J k W->Jf W)
  (hdo:∀ k W,k<n->ok k=true->J k W->Calls Tryz.prog 102 #[.int .u64 (pa k),.int .i64 (pce va n k),.pointer (some ⟨d1,0,.none⟩),.pointer (some ⟨d2,0,.none⟩)] W fun e W'=>e = .returned (.bool (dok k))∧(dok k=true->J (k+pce va n k) W')∧(dok k=false->Jf W')) (h0:J 0 w) :
  Calls Tryz.prog 49 #[.pointer (some ⟨s,0,.none⟩),.int .u64 va,.int .i64 n,.func (.func 149) #[.pointer (some ⟨s,0,.none⟩)] #[],.func (.func 102) #[] #[.pointer (some ⟨d1,0,.none⟩),.pointer (some ⟨d2,0,.none⟩)]] w (EaP n J Jf):=by
 have HA:Hid (∀ k W,k<n->J k W->Calls Tryz.prog 149 #[.pointer (some ⟨s,0,.none⟩),.int .u64 (va+k)] W fun e W'=>e = .returned (.tuple #[.int .u64 (pa k),.bool (ok k)])∧J k W'):=hat
 have HN:Hid (∀ k W,k<n->ok k=false->J k W->Jf W):=hno
 have HD:Hid (∀ k W,k<n->ok k=true->J k W->Calls Tryz.prog 102 #[.int .u64 (pa k),.int .i64 (pce va n k),.pointer (some ⟨d1,0,.none⟩),.pointer (some ⟨d2,0,.none⟩)] W fun e W'=>e = .returned (.bool (dok k))∧(dok k=true->J (k+pce va n k) W')∧(dok k=false->Jf W')):=hdo
 have H0:Hid (J 0 w):=h0
 clear hat hno hdo h0
 go_enter Tryz.func49,Tryz.ntmps49
 go_wp2_with fail
 go_loopw [1,2] (fun v j wr=>∃ k:Nat,k<=n∧v = .int .u64 (va+k)∧j = .int .i64 (n-k)∧Hid (J k wr)) (fun _ j _=>(intOf j).toNat)
 case atStart=>exact⟨0,by omega,by simp,by simp,H0⟩
 case round=>
  clear H0
  obtain⟨k,hk,rfl,rfl,HJ⟩:=hrel
  by_cases hkn:k<n
  ·have hpos:(0:Int)<n-k:=by omega
   have ca:=HA.out k wr hkn HJ.out
   have hb:=pce_b va n k hkn
   have hrem:IntKind.u64.wrap ((va+k).tmod 4096)=(va+k)%4096:=by rw[Int.tmod_eq_emod_of_nonneg (by omega),IntKind.wrap_u64];omega
   have hsub:IntKind.u64.wrap (4096-(va+k)%4096)=4096-(va+k)%4096:=by rw[IntKind.wrap_u64];omega
   have hcv:IntKind.i64.wrap (4096-(va+k)%4096)=4096-(va+k)%4096:=by rw[IntKind.wrap_i64];omega
   have hpu:IntKind.u64.wrap (pce va n k:Int)=pce va n k:=by rw[IntKind.wrap_u64];omega
   have hva2:IntKind.u64.wrap (va+k+pce va n k)=va+k+pce va n k:=by rw[IntKind.wrap_u64];omega
   by_cases hm:(n:Int)-k<=4096-(va+k)%4096
   ·have hm2:¬ 4096-(va+k)%4096<(n:Int)-k:=by omega
    obtain⟨pc,hpc⟩:∃ pc,pc=pce va n k:=⟨_,rfl⟩
    have e9:(n:Int)-k=(pc:Int):=by rw[hpc];unfold pce;omega
    rw[<-hpc] at hb hpu hva2
    have HPC:Hid (pc=pce va n k):=hpc
    clear hpc
    have hnx:IntKind.i64.wrap ((n:Int)-k-pc)=n-k-pc:=by rw[IntKind.wrap_i64];omega
    go_wp2_with fail
    refine ca.mono ?_
    rintro _ w1 ⟨rfl,j1⟩
    have HJ1:Hid (J k w1):=j1
    clear j1 ca HJ
    cases hok:ok k
    ·have HF:Hid (Jf w1):=HN.out k w1 hkn hok HJ1.out
     go_wp2_with fail
     go_ret
     exact .inr ⟨rfl,HF.out⟩
    ·have cd:=HD.out k w1 hkn hok HJ1.out
     rw[<-HPC.out] at cd
     cases hdk:dok k
     ·rw[hdk] at cd
      go_wp2_with fail
      refine cd.mono ?_
      rintro _ w2 ⟨rfl,_,hf⟩
      have HF:Hid (Jf w2):=hf (by first|rfl|trivial)
      clear hf cd
      go_wp2_with fail
      go_ret
      exact .inr ⟨rfl,HF.out⟩
     ·rw[hdk] at cd
      go_wp2_with fail
      refine cd.mono ?_
      rintro _ w2 ⟨rfl,ht,_⟩
      have HT:Hid (J (k+pc) w2):=ht (by first|rfl|trivial)
      clear ht cd
      go_wp2_with fail
      exact⟨⟨k+pc,by omega,by congr 1;omega,by congr 1;omega,HT⟩,by simp only[intOf];omega⟩
   ·have hm2:4096-(va+k)%4096<(n:Int)-k:=by omega
    obtain⟨pc,hpc⟩:∃ pc,pc=pce va n k:=⟨_,rfl⟩
    have e9:4096-(va+k)%4096=(pc:Int):=by rw[hpc];unfold pce;omega
    rw[<-hpc] at hb hpu hva2
    have HPC:Hid (pc=pce va n k):=hpc
    clear hpc
    have hnx:IntKind.i64.wrap ((n:Int)-k-pc)=n-k-pc:=by rw[IntKind.wrap_i64];omega
    go_wp2_with fail
    refine ca.mono ?_
    rintro _ w1 ⟨rfl,j1⟩
    have HJ1:Hid (J k w1):=j1
    clear j1 ca HJ
    cases hok:ok k
    ·have HF:Hid (Jf w1):=HN.out k w1 hkn hok HJ1.out
     go_wp2_with fail
     go_ret
     exact .inr ⟨rfl,HF.out⟩
    ·have cd:=HD.out k w1 hkn hok HJ1.out
     rw[<-HPC.out] at cd
     cases hdk:dok k
     ·rw[hdk] at cd
      go_wp2_with fail
      refine cd.mono ?_
      rintro _ w2 ⟨rfl,_,hf⟩
      have HF:Hid (Jf w2):=hf (by first|rfl|trivial)
      clear hf cd
      go_wp2_with fail
      go_ret
      exact .inr ⟨rfl,HF.out⟩
     ·rw[hdk] at cd
      go_wp2_with fail
      refine cd.mono ?_
      rintro _ w2 ⟨rfl,ht,_⟩
      have HT:Hid (J (k+pc) w2):=ht (by first|rfl|trivial)
      clear ht cd
      go_wp2_with fail
      exact⟨⟨k+pc,by omega,by congr 1;omega,by congr 1;omega,HT⟩,by simp only[intOf];omega⟩
  ·obtain rfl:k=n:=by omega
   go_wp2_with fail
   go_ret
   exact .inl ⟨rfl,HJ.out⟩
end Rm
namespace Rm
open Go Go.RowKit
theorem wrU_else (B:Nat->Int) (fr:Nat->Nat) (va:Nat) (R:Nat->Int) (f i:Nat) (hi:i<4096):∀ k:Nat,(∀ j,j<k->fr ((va+j)/4096)≠f)->wrU B fr va R k (f*4096+i)=B (f*4096+i)
 |0,_=>rfl
 |k+1,h=>by
  simp only[wrU]
  rw[if_neg (fun e=>h k (by omega) (by omega))]
  exact wrU_else B fr va R f i hi k (fun j hj=>h j (by omega))
section
variable {w w0 W W':World} {s p b m N r P:Nat} {size:Int} {B:Nat->Int} {L:List Nat} {F:Nat->Option Nat} {lf:Nat->Nat->Int} {fr:Nat->Nat} {c:Nat->Int}
theorem SpU.wr {va k:Nat} {R:Nat->Int} (h:SpU W s p b m N r P size B L F lf fr c) (hv:va+k<=P*4096) (hs:Sp W' s p (ad r) size) (hr:Ram W' p b m N (wrU B fr va R k) L):SpU W' s p b m N r P size (wrU B fr va R k) L F lf fr c:=
 ⟨hs,h.sz,h.pm,hr,h.pt.keep (fun x f hf i hi=>wrU_else B fr va R f i hi k (fun j hj e=>(h.pag ((va+j)/4096) (by omega)).nn x (by rw[e];exact hf))) (fun x f hf=>(h.pt.held x f hf).2.2),h.rt,h.ne,h.pag⟩
structure PuJ (w0:World) (s p b m N r P:Nat) (size:Int) (B:Nat->Int) (L:List Nat) (F:Nat->Option Nat) (lf:Nat->Nat->Int) (fr:Nat->Nat) (c:Nat->Int) (g k0 cc bv sv va n:Nat) (R:Nat->Int) (k:Nat) (W:World):Prop where
 fra:Fra p b m w0 W
 sp:Sp W s p (ad r) size
 ram:Ram W p b m N (wrU B fr va R k) L
 cv:W.cell? ⟨sv,0,.none⟩=some (.pointer (some ⟨s,0,.none⟩))
 cb:∃ q,W.cell? ⟨bv,0,.none⟩=some (.slice q (n-k:Nat) (cc-k:Nat))∧(k<n->q=some ⟨g,k0+k,.none⟩)
 fb:W.frozen? ⟨bv,0,.none⟩=false
theorem PuJ.below {g k0 cc bv sv va n k:Nat} {R:Nat->Int} (h:PuJ w0 s p b m N r P size B L F lf fr c g k0 cc bv sv va n R k W) (hb:Below W.heap.size W W'):PuJ w0 s p b m N r P size B L F lf fr c g k0 cc bv sv va n R k W':=by
 obtain⟨q,hq,hq2⟩:=h.cb
 exact⟨h.fra.trans (Fra.below hb),h.sp.below hb,h.ram.below hb,(hb.cell (p:=⟨sv,0,.none⟩) (zC h.cv)).trans h.cv,⟨q,(hb.cell (p:=⟨bv,0,.none⟩) (zC hq)).trans hq,hq2⟩,(hb.frozen (p:=⟨bv,0,.none⟩) (zC hq)).trans h.fb⟩
theorem PuJ.piece {g k0 cc bv sv va n k:Nat} {R:Nat->Int} (h0:SpU w0 s p b m N r P size B L F lf fr c) (hJ:PuJ w0 s p b m N r P size B L F lf fr c g k0 cc bv sv va n R k W) (hk:k<n) (hf:va+n<=P*4096) (hcc:n<=cc∧cc<=9223372036854775807) (hR:∀ i,0<=R i∧R i<256)
  (hg:∀ i,i<n->w0.cell? ⟨g,k0+i,.none⟩=some (.int .u8 (R i))) (hgp:g≠p∧g≠b∧g≠m) (hbv:w0.heap.size<=bv) (hne:bv≠sv) (hsv:w0.heap.size<=sv):Calls Tryz.prog 102 #[.int .u64 (ad (fr ((va+k)/4096))+((va+k)%4096:Nat)),.int .i64 (pce va n k),.pointer (some ⟨bv,0,.none⟩),.pointer (some ⟨sv,0,.none⟩)] W fun e W'=>e = .returned (.bool true)∧PuJ w0 s p b m N r P size B L F lf fr c g k0 cc bv sv va n R (k+pce va n k) W':=by
 have hm:=h0.pm
 have hp:=h0.pag ((va+k)/4096) (by omega)
 have hb:=pce_b (va:Int) n k hk
 have hom:(((va:Int)+k)%4096).toNat=(va+k)%4096:=by omega
 rw[hom] at hb
 have hgl:g<w0.heap.size:=zC (hg 0 (by omega))
 have hpl:=h0.ram.mem.plt
 have hbl:=h0.ram.mem.blt
 have hml:=h0.ram.mem.mlt
 have hsl:=h0.sp.lt
 obtain⟨q,hq,hq2⟩:=hJ.cb
 have hq3:=hq2 hk
 subst hq3
 refine(put1_gen hJ.sp hJ.ram (fr ((va+k)/4096)) ((va+k)%4096) (pce va n k) hp.qb hb.1 hb.2.2 g (k0+k) (n-k) (cc-k) (by omega) (fun i=>R (k+i)) (fun i=>hR _) (fun i hi=>?_) bv sv hq hJ.fb hJ.cv ⟨by omega,by omega,by omega,by omega,by omega,hne⟩).mono fun e W2 h2=>?_
 ·rw[hJ.fra.cell (x:=⟨g,k0+k+i,.none⟩) hgl hgp.1 hgp.2.1 hgp.2.2,Nat.add_assoc]
  exact hg (k+i) (by omega)
 ·obtain⟨he,r2,t2,⟨q2,hq2c,hq2v⟩,f2⟩:=h2
  rw[wrU_over B fr va k R (pce va n k) hb.2.2] at r2
  have hsz:=hJ.fra.size
  refine⟨he,⟨Tch.fra hJ.fra t2 hbv,?_,r2,?_,⟨q2,?_,fun hlt=>?_⟩,f2⟩⟩
  ·have es:W2.heap[s]? = W.heap[s]?:=t2.block s hJ.sp.lt h0.ne.1 h0.ne.2.1 h0.ne.2.2 (by omega)
   have ec:∀ o,W2.cell? ⟨s,o,.none⟩=W.cell? ⟨s,o,.none⟩:=fun o=>by simp only[World.cell?,es]
   have ef:∀ o,W2.frozen? ⟨s,o,.none⟩=W.frozen? ⟨s,o,.none⟩:=fun o=>by simp only[World.frozen?,es]
   exact⟨(ec 0).trans hJ.sp.c0,(ec 1).trans hJ.sp.c1,(ec 2).trans hJ.sp.c2,fun o=>(ef o).trans (hJ.sp.fr o)⟩
  ·have es:W2.heap[sv]? = W.heap[sv]?:=t2.block sv (zC hJ.cv) (by omega) (by omega) (by omega) (Ne.symm hne)
   exact(World.cell?_of_block (a:=⟨sv,0,.none⟩) es).trans hJ.cv
  ·rw[hq2c,show n-(k+pce va n k)=n-k-pce va n k by omega,show cc-(k+pce va n k)=cc-k-pce va n k by omega]
  ·rw[hq2v (by omega),Nat.add_assoc]
end
end Rm
namespace Rm
open Go Go.RowKit
section
variable {w:World} {s p b m N r P:Nat} {size:Int} {B:Nat->Int} {L:List Nat} {F:Nat->Option Nat} {lf:Nat->Nat->Int} {fr:Nat->Nat} {c:Nat->Int}
theorem y1_off (va o:Int) (hv:0<=va∧va<274877906944∧va%4096=0) (ho:0<=o∧o<4096):y1 (va+o)=y1 va:=by
 unfold y1 i2
 rw[show ix (va+o) 2=ix va 2 by unfold ix;rw[show spn 2=1073741824 from rfl];omega]
theorem Pag.off {va o:Int} {q:Nat} {x:Int} (h:Pag N L F lf va q x) (hv:0<=va∧va<274877906944∧va%4096=0) (ho:0<=o∧o<4096):Pag N L F lf (va+o) q x:=by
 have e1:=y1_off va o hv ho
 have e2:=y_off va o hv ho
 exact⟨by rw[e1];exact h.w1,by rw[e2.1];exact h.w0,by rw[e2.1,e2.2];exact h.l,h.k,h.cb,h.qb,h.nn⟩
def WrP (w:World) (s p b m N r P:Nat) (size:Int) (B:Nat->Int) (L:List Nat) (F:Nat->Option Nat) (lf:Nat->Nat->Int) (fr:Nat->Nat) (c:Nat->Int) (va n:Nat) (R:Nat->Int) (e:Ending) (w':World):Prop:=e = .returned (.bool true)∧SpU w' s p b m N r P size (wrU B fr va R n) L F lf fr c∧Fra p b m w w'
theorem put_kern (h:SpU w s p b m N r P size B L F lf fr c) (va n:Nat) (hn:1<=n) (hf:va+n<=P*4096) (g k0 cc:Nat) (hcc:n<=cc∧cc<=9223372036854775807) (R:Nat->Int) (hR:∀ i,0<=R i∧R i<256) (hg:∀ i,i<n->w.cell? ⟨g,k0+i,.none⟩=some (.int .u8 (R i))) (hgp:g≠p∧g≠b∧g≠m) :
  Calls Tryz.prog 53 #[.pointer (some ⟨s,0,.none⟩),.int .u64 va,.slice (some ⟨g,k0,.none⟩) n cc,.func (.func 149) #[.pointer (some ⟨s,0,.none⟩)] #[]] w (WrP w s p b m N r P size B L F lf fr c va n R):=by
 have hm:=h.pm
 have hpl:=h.ram.mem.plt
 have hbl:=h.ram.mem.blt
 have hml:=h.ram.mem.mlt
 obtain⟨w1,hw1⟩:∃ w1,w1=w.alloc (.cells #[.pointer (some ⟨s,0,.none⟩)] 42):=⟨_,rfl⟩
 obtain⟨w2,hw2⟩:∃ w2,w2=w1.alloc (.cells #[.slice (some ⟨g,k0,.none⟩) n cc] 24):=⟨_,rfl⟩
 have z1:w1.heap.size=w.heap.size+1:=by rw[hw1];simp
 have b1:Below w.heap.size w w1:=by rw[hw1];exact below1 _ _
 have b12:Below w1.heap.size w1 w2:=by rw[hw2];exact below1 _ _
 have b2:=b1.trans (b12.mono b1.size)
 have ks:w2.cell? ⟨w.heap.size,0,.none⟩=some (.pointer (some ⟨s,0,.none⟩)):=(b12.cell (p:=⟨w.heap.size,0,.none⟩) (by show w.heap.size<w1.heap.size;omega)).trans (by rw[hw1];simp)
 have kb:w2.cell? ⟨w.heap.size+1,0,.none⟩=some (.slice (some ⟨g,k0,.none⟩) n cc):=by rw[<-z1,hw2];simp
 have kf:w2.frozen? ⟨w.heap.size+1,0,.none⟩=false:=by rw[<-z1,hw2];exact World.frozen?_alloc_new _ _ _ _
 have c52:=each_poke (d1:=w.heap.size+1) (d2:=w.heap.size) (w:=w2) (s:=s) (va:Int) n (by omega) (PuJ w s p b m N r P size B L F lf fr c g k0 cc (w.heap.size+1) w.heap.size va n R) (fun _=>False) (fun k=>ad (fr ((va+k)/4096))+((va+k)%4096:Nat)) (fun _=>true) (fun _=>true)
  (fun k W hk hJ=>by
   have hS:=h.wr (W':=W) (va:=va) (k:=k) (R:=R) (by omega) hJ.sp hJ.ram
   have hq:=hS.pag ((va+k)/4096) (by omega)
   have hq2:Pag N L F lf ((va:Int)+k) (fr ((va+k)/4096)) (c ((va+k)/4096)):=by
    have h9:=hq.off (o:=((va+k)%4096:Nat)) (by omega) (by omega)
    rw[show (((va+k)/4096:Nat):Int)*4096+(((va+k)%4096:Nat):Int)=(va:Int)+k by omega] at h9
    exact h9
   have:=kern_pt hS.sp hS.ram hS.pt hS.rt ((va:Int)+k) (by omega) hq2
   rw[show ((va:Int)+k)%4096=((va+k)%4096:Nat) by omega] at this
   exact this.mono (fun e W' h9=>⟨h9.1,hJ.below h9.2⟩)) (fun k W hk e=>by cases e) (fun k W hk _ hJ=>(hJ.piece h hk hf hcc hR hg hgp (by omega) (by omega) zL).mono (fun e W' h9=>⟨h9.1,fun _=>h9.2,fun e=>by cases e⟩))
  ⟨Fra.below b2,h.sp.below b2,h.ram.below b2,ks,⟨some ⟨g,k0,.none⟩,kb,fun _=>rfl⟩,kf⟩
 have HH:Hid (SpU w s p b m N r P size B L F lf fr c):=h
 clear h ks kf b1 b12 b2 z1 hg hR
 go_enter Tryz.func53,Tryz.ntmps53
 go_upto_region 1 with fail
 rw[<-hw1,<-hw2]
 have ks:w2.cell? ⟨w.heap.size,0,.none⟩=some (.pointer (some ⟨s,0,.none⟩)):=by rw[hw2,hw1];simp
 clear hw1 hw2
 go_wp2_with fail
 refine c52.mono ?_
 rintro e9 w9 (⟨rfl,hJ⟩|⟨_,hJ⟩)
 ·have HJ:Hid (WrP w s p b m N r P size B L F lf fr c va n R (.returned (.bool true)) w9):=⟨rfl,HH.out.wr hf hJ.sp hJ.ram,hJ.fra⟩
  clear hJ
  go_wp2_with fail
  go_ret
  exact HJ.out
 ·exact hJ.elim
end
end Rm
namespace Rm
open Go Go.RowKit
theorem fits_gen (va n en:Int) (hv:0<=va∧va<18446744073709551616) (hn:0<=n∧n<9223372036854775808) (he:0<=en∧en<18446744073709551616) (w:World):Calls Tryz.prog 47 #[.int .u64 va,.int .i64 n,.int .u64 en] w fun r w'=>r = .returned (.bool (decide (va+n<=en)))∧w'=w:=by
 by_cases h1:va<=en
 ·have h2:IntKind.u64.wrap (en-va)=en-va:=by rw[IntKind.wrap_u64];omega
  have h3:IntKind.u64.wrap n=n:=by rw[IntKind.wrap_u64];omega
  have h0:(0:Int)<=n:=hn.1
  by_cases h4:n<=en-va
  ·have HD:Hid (decide (va+n<=en)=true):=decide_eq_true (by omega)
   go_enter Tryz.func47,Tryz.ntmps47
   go_wp2
   go_ret
   exact⟨by rw[HD.out];rfl,rfl⟩
  ·have HD:Hid (decide (va+n<=en)=false):=decide_eq_false (by omega)
   go_enter Tryz.func47,Tryz.ntmps47
   go_wp2
   go_ret
   exact⟨by rw[HD.out];rfl,rfl⟩
 ·have h0:(0:Int)<=n:=hn.1
  have HD:Hid (decide (va+n<=en)=false):=decide_eq_false (by omega)
  go_enter Tryz.func47,Tryz.ntmps47
  go_wp2
  go_ret
  exact⟨by rw[HD.out];rfl,rfl⟩
section
variable {w:World} {s p b m N r P:Nat} {size:Int} {B:Nat->Int} {L:List Nat} {F:Nat->Option Nat} {lf:Nat->Nat->Int} {fr:Nat->Nat} {c:Nat->Int}
end
end Rm
namespace Rm
open Go Go.RowKit
section
variable {w:World} {s p b m N r P:Nat} {size:Int} {B:Nat->Int} {L:List Nat} {F:Nat->Option Nat} {lf:Nat->Nat->Int} {fr:Nat->Nat} {c:Nat->Int}
def PkQ (w:World) (s p b m N r P:Nat) (size:Int) (B:Nat->Int) (L:List Nat) (F:Nat->Option Nat) (lf:Nat->Nat->Int) (fr:Nat->Nat) (c:Nat->Int) (va n:Nat) (R:Nat->Int) (e:Ending) (w':World):Prop:=((va:Int)+n<=size∧WrP w s p b m N r P size B L F lf fr c va n R e w')∨(¬ (va:Int)+n<=size∧e = .returned (.bool false)∧w'=w)
theorem poke_gen (h:SpU w s p b m N r P size B L F lf fr c) (va n:Nat) (hn:1<=n) (hvn:(va:Int)<18446744073709551616∧(n:Int)<9223372036854775808) (g k0 cc:Nat) (hcc:n<=cc∧cc<=9223372036854775807) (R:Nat->Int) (hR:∀ i,0<=R i∧R i<256) (hg:∀ i,i<n->w.cell? ⟨g,k0+i,.none⟩=some (.int .u8 (R i))) (hgp:g≠p∧g≠b∧g≠m) :
  Calls Tryz.prog 95 #[.pointer (some ⟨s,0,.none⟩),.int .u64 va,.slice (some ⟨g,k0,.none⟩) n cc] w (PkQ w s p b m N r P size B L F lf fr c va n R):=by
 have hm:=h.pm
 have hsz:=h.sz
 have c43:=made_sp h.sp
 have c50:=fits_gen (va:Int) n size (by omega) (by omega) (by omega) w
 have k2:=h.sp.c2
 by_cases hf:(va:Int)+n<=size
 ·rw[decide_eq_true hf] at c50
  have c57:=put_kern h va n hn (by omega) g k0 cc hcc R hR hg hgp
  have HF0:=hf
  have HF:Hid ((va:Int)+n<=size):=HF0
  clear h hg hR hf HF0
  go_enter Tryz.func95,Tryz.ntmps95
  go_wp2_with fail
  refine c43.mono ?_
  rintro _ x1 ⟨rfl,e9⟩
  obtain rfl:w=x1:=e9.symm
  clear e9 c43
  go_wp2_with fail
  refine c50.mono ?_
  rintro _ x1 ⟨rfl,e9⟩
  obtain rfl:w=x1:=e9.symm
  clear e9 c50
  go_wp2_with fail
  refine c57.mono ?_
  rintro _ x4 ⟨rfl,h4,f4⟩
  have H4:Hid (WrP w s p b m N r P size B L F lf fr c va n R (.returned (.bool true)) x4):=⟨rfl,h4,f4⟩
  clear h4 f4 c57
  go_wp2_with fail
  go_ret
  exact .inl ⟨HF.out,H4.out⟩
 ·rw[decide_eq_false hf] at c50
  have HF0:=hf
  have HF:Hid (¬ (va:Int)+n<=size):=HF0
  clear h hg hR hf HF0
  go_enter Tryz.func95,Tryz.ntmps95
  go_wp2_with fail
  refine c43.mono ?_
  rintro _ x1 ⟨rfl,e9⟩
  obtain rfl:w=x1:=e9.symm
  clear e9 c43
  go_wp2_with fail
  refine c50.mono ?_
  rintro _ x1 ⟨rfl,e9⟩
  obtain rfl:w=x1:=e9.symm
  clear e9 c50
  go_wp2_with fail
  go_ret
  exact .inr ⟨by have:=HF.out;omega,rfl,rfl⟩
end
end Rm
namespace Rm
open Go Go.RowKit
section
variable {w w':World} {s p b m N r P K:Nat} {B:Nat->Int} {L:List Nat} {F:Nat->Option Nat} {lf:Nat->Nat->Int} {fr:Nat->Nat} {c:Nat->Int}
theorem rgt_b {x:Int} (h:rgt x):0<=x+208∧x+208<256∧(x+208)%2=0:=by rcases h with rfl|rfl|rfl|rfl|rfl<;>omega
def upd {α:Type} (f:Nat -> α) (i:Nat) (x:α):Nat -> α:=fun j=>if j=i then x else f j
end
end Rm
namespace Rm
open Go Go.RowKit Go.Shelf
attribute [local go_sem] Oper.semAt_some
attribute [local irreducible] eM evs
structure Sam (V:World) (c4:Nat) (W:World):Prop where
 size:V.heap.size<=W.heap.size
 os:W.os=V.os
 tape:W.tape=V.tape
 output:W.output=V.output
 block:∀ k,k<V.heap.size->k≠c4->W.heap[k]? = V.heap[k]?
theorem Sam.keep {V W W':World} {c4:Nat} (h:Sam V c4 W) (h1:W'.os=W.os) (h2:W'.tape=W.tape) (h3:W'.output=W.output) (hs:W.heap.size<=W'.heap.size) (hb:∀ k,k<V.heap.size->W'.heap[k]? = W.heap[k]?):Sam V c4 W':=
 ⟨Nat.le_trans h.size hs,h1.trans h.os,h2.trans h.tape,h3.trans h.output,fun k hk a=>(hb k hk).trans (h.block k hk a)⟩
def FrI (V:World) (c4:Nat) (pre:List (Int×Int)) (W:World):Prop:=pre = []∧Sam V c4 W∧W.heap[c4]? = V.heap[c4]?
def FrX (V:World) (c4:Nat) (pre:List (Int×Int)) (W:World):Prop:=pre ≠ []∧Sam V c4 W∧W.cell? ⟨c4,0,.none⟩=some (.int .i64 87)
theorem FrI.gd {V:World} {c4:Nat} (hc:c4<V.heap.size):GdJ (fun k _=>V.heap.size<=k) (FrI V c4):=
 ⟨fun s W W' hs hm=>have hb:∀ k,k<V.heap.size->W'.heap[k]? = W.heap[k]?:=fun k hk=>hm.block k (Nat.lt_of_lt_of_le hk hs.2.1.size) (by omega)
  ⟨hs.1,hs.2.1.keep hm.os hm.tape hm.output hm.size hb,(hb c4 hc).trans hs.2.2⟩,fun s W W' k hs hm hk=>hk,fun s W W' k hs hm hk=>Nat.le_trans hs.2.1.size hk⟩
theorem FrI.own {V:World} {c4:Nat} (hc:c4<V.heap.size):OwnFrom V.heap.size (FrI V c4):=fun s W W' row hs hg hr=>
 have hb:∀ k,k<V.heap.size->W'.heap[k]? = W.heap[k]?:=fun k hk=>hg.block k (Nat.lt_of_lt_of_le hk hs.2.1.size) (fun e=>by have:=(hr k e.symm).1;omega)
 ⟨hs.1,hs.2.1.keep hg.os hg.tape hg.output hg.size hb,(hb c4 hc).trans hs.2.2⟩
theorem FrX.put {V:World} {c4:Nat} (hc:c4<V.heap.size) {pre:List (Int×Int)} {W:World} {l:Nat} (o':Obj) (h:FrX V c4 pre W) (hl:V.heap.size<=l):FrX V c4 pre (W.putObj l o'):=by
 have hb:∀ k,k<V.heap.size->(W.putObj l o').heap[k]? = W.heap[k]?:=fun k hk=>World.putObj_heap_other (by omega)
 exact⟨h.1,h.2.1.keep rfl rfl rfl (by simp[World.putObj]) hb,(World.cell?_of_block (a:=⟨c4,0,.none⟩) (hb c4 hc)).trans h.2.2⟩
theorem FrX.mv {V:World} {c4:Nat} (hc:c4<V.heap.size) {pre:List (Int×Int)} {W W':World} (h:FrX V c4 pre W) (hm:Mv (fun k _=>V.heap.size<=k) W W'):FrX V c4 pre W':=by
 have hb:∀ k,k<V.heap.size->W'.heap[k]? = W.heap[k]?:=fun k hk=>hm.block k (Nat.lt_of_lt_of_le hk h.2.1.size) (by omega)
 exact⟨h.1,h.2.1.keep hm.os hm.tape hm.output hm.size hb,(World.cell?_of_block (a:=⟨c4,0,.none⟩) (hb c4 hc)).trans h.2.2⟩
theorem Sam.below {w V W:World} {c4:Nat} (h:Sam V c4 W) (b:Below w.heap.size w V) (hc:w.heap.size<=c4):Below w.heap.size w W:=
 ⟨h.os.trans b.os,h.tape.trans b.tape,h.output.trans b.output,Nat.le_trans b.size h.size,fun k hk=>(h.block k (Nat.lt_of_lt_of_le hk b.size) (by omega)).trans (b.block k hk)⟩
end Rm
namespace Rm
open Go Go.RowKit
attribute [local go_sem] Oper.semAt_some
def Byo (F:Nat->Option Nat) (B B':Nat->Int):Prop:=∀ f,(∀ x,F x≠some f) -> ∀ k,k<4096->B' (f*4096+k)=B (f*4096+k)
theorem over_frame (B:Nat->Int) {f g e:Nat} (v:Int) (h:f≠g) (he:e<512) (k:Nat) (hk:k<4096):over B (g*4096+e*8) (le v 8) (f*4096+k)=B (f*4096+k):=
 over_out B g e v _ (by rcases Nat.lt_or_gt_of_ne h with h1|h1<;>omega)
theorem thr_frame (B:Nat->Int) {f g:Nat} (v:Int) (h:f≠g) (k:Nat) (hk:k<4096):thr B g v (f*4096+k)=B (f*4096+k):=
 thr_out _ _ _ _ (by rcases Nat.lt_or_gt_of_ne h with h1|h1<;>omega)
theorem Byo.step {F:Nat->Option Nat} {B B':Nat->Int} {a c q g e:Nat} {v:Int} (h:Byo F B B') (hq:F a=some q) (hg:F c=some g) (he:e<512):Byo F B (over (thr B' q v) (g*4096+e*8) (le 0 8)):=fun f hf k hk=>
 (over_frame _ 0 (fun e=>hf c (by rw[e];exact hg)) he k hk).trans ((thr_frame _ _ (fun e=>hf a (by rw[e];exact hq)) k hk).trans (h f hf k hk))
theorem Byo.store {F:Nat->Option Nat} {B B':Nat->Int} {a q e:Nat} (h:Byo F (over B (q*4096+e*8) (le 0 8)) B') (hq:F a=some q) (he:e<512):Byo F B B':=fun f hf k hk=>
 (h f hf k hk).trans (over_frame _ 0 (fun e=>hf a (by rw[e];exact hq)) he k hk)
section
variable {w:World} {p b m N:Nat} {B:Nat->Int} {L:List Nat} {F:Nat->Option Nat} {lf:Nat->Nat->Int}
set_option maxRecDepth 4000 in
theorem prune_byt {r g q:Nat} (h:Ram w p b m N B L) (hP:PT N L B F lf) (hr:F 0=some r) (va:Int) (hg:F (y1 va)=some g) (hq:F (y0 va)=some q) (l e k:Int) :
  Calls Tryz.prog 161 #[.pointer (some ⟨p,0,.none⟩),.agg #[.int .u64 (st (ad q) va 0),.int .u64 (st (ad g) va 1),.int .u64 (st (ad r) va 2),.int .i64 l,.int .u64 e,.int .i64 k]] w fun x w'=>x = .returned (.tuple #[])∧∃ B' L' F' lf',PT N L' B' F' lf'∧PrR L F lf va q g L' F' lf'∧Ram w' p b m N B' L'∧Fra p b m w w'∧Byo F B B':=by
 have hN:=h.mem.n2
 have HN:Hid (N<=4096):=hN
 have HA:Hid ((st (ad q) va 0-st (ad q) va 0%4096=ad q∧0<=st (ad q) va 0∧st (ad q) va 0<18446744073709551616)∧(st (ad g) va 1-st (ad g) va 1%4096=ad g∧0<=st (ad g) va 1∧st (ad g) va 1<18446744073709551616)∧(st (ad r) va 2-st (ad r) va 2%4096=ad r∧0<=st (ad r) va 2∧st (ad r) va 2<18446744073709551616)):=
  ⟨st_node q va 0 N (hP.held _ _ hq).2.1 hN,st_node g va 1 N (hP.held _ _ hg).2.1 hN,st_node r va 2 N (hP.held _ _ hr).2.1 hN⟩
 have hy0:=y0_ge va
 have hy1:=y1_le va
 have HNE:Hid (q≠r∧g≠r):=⟨fun e=>by have:=hP.inj _ _ q hq (by rw[e];exact hr);omega,fun e=>by have:=hP.inj _ _ g hg (by rw[e];exact hr);omega⟩
 have HG:Hid (F 0=some r∧F (y1 va)=some g∧F (y0 va)=some q):=⟨hr,hg,hq⟩
 have HE:Hid (st (ad g) va 1=st (ad g) va 1∧st (ad r) va 2=st (ad r) va 2):=⟨rfl,rfl⟩
 have hxp:w.heap.size≠p:=by have:=h.mem.plt;omega
 have hxb:w.heap.size≠b:=by have:=h.mem.blt;omega
 have hxm:w.heap.size≠m:=by have:=h.mem.mlt;omega
 obtain⟨w1,hw1⟩:∃ w1,w1=w.alloc (.cells #[.int .u64 (st (ad q) va 0),.int .u64 (st (ad g) va 1),.int .u64 (st (ad r) va 2),.int .i64 l,.int .u64 e,.int .i64 k] 169):=⟨_,rfl⟩
 have b1:Below w.heap.size w w1:=by rw[hw1];exact below1 _ _
 have P1:C6 w1 w.heap.size (.int .u64 (st (ad q) va 0)) (.int .u64 (st (ad g) va 1)) (.int .u64 (st (ad r) va 2)) (.int .i64 l) (.int .u64 e) (.int .i64 k):=by rw[hw1];exact C6.new _ _ _ _ _ _ _ _
 have H0:Hid (Ram w1 p b m N B L∧Fra p b m w w1∧C6 w1 w.heap.size (.int .u64 (st (ad q) va 0)) (.int .u64 (st (ad g) va 1)) (.int .u64 (st (ad r) va 2)) (.int .i64 l) (.int .u64 e) (.int .i64 k)):=⟨h.below b1,Fra.below b1,P1⟩
 have HS0:Hid (PrS N L F lf va q g 0 L B F lf):=⟨hP,.inl ⟨rfl,rfl,rfl,rfl⟩⟩
 have H47r:Hid (∀ (W:World) (B'':Nat->Int) (L'':List Nat) (f:Nat) (lv:Int),Ram W p b m N B'' L''->ndB N L'' (ad f)=true->Calls Tryz.prog 160 #[.pointer (some ⟨p,0,.none⟩),.int .u64 (st (ad f) va lv),.int .i64 8,.int .u64 0] W fun e w'=>e = .returned (.bool true)∧Ram w' p b m N (over B'' (f*4096+(ix va lv).toNat*8) (le 0 8)) L''∧Fra p b m W w'):=fun W B'' L'' f lv hW hf=>store_r hW f va lv hf
 obtain⟨a0,ha0⟩:∃ a,a=st (ad q) va 0:=⟨_,rfl⟩
 obtain⟨a1,ha1⟩:∃ a,a=st (ad g) va 1:=⟨_,rfl⟩
 obtain⟨a2,ha2⟩:∃ a,a=st (ad r) va 2:=⟨_,rfl⟩
 rw[<-ha0,<-ha1,<-ha2] at HA H0 hw1
 rw[<-ha1,<-ha2] at HE
 rw[<-ha0,<-ha1,<-ha2]
 have HI:Hid (st (ad g) va 1=a1∧st (ad r) va 2=a2):=⟨ha1.symm,ha2.symm⟩
 clear h hP hr hg hq P1 b1 hN HE ha0 ha1 ha2
 go_enter Tryz.func161,Tryz.ntmps161
 go_upto_region 1 with fail
 rw[<-hw1]
 clear hw1
 obtain⟨x,hx⟩:∃ x,x=w.heap.size:=⟨_,rfl⟩
 rw[<-hx] at H0 hxp hxb hxm ⊢
 clear hx
 go_wp2_with fail
 go_loopw [6] (fun j wr=>∃ J:Nat,J<=2∧j = .int .i64 J∧∃ L' B' F' lf',Hid (PrS N L F lf va q g J L' B' F' lf')∧Hid (Ram wr p b m N B' L'∧Fra p b m w wr∧C6 wr x (.int .u64 a0) (.int .u64 a1) (.int .u64 a2) (.int .i64 l) (.int .u64 e) (.int .i64 k))∧Hid (Byo F B B')) (fun j _=>(2-intOf j).toNat)
 case atStart=>exact⟨0,by omega,rfl,L,B,F,lf,HS0,H0,fun f _ k _=>rfl⟩
 case round=>
  clear HS0 H0
  obtain⟨J,hJ,rfl,L',B',F',lf',HS,HR,HBY⟩:=hrel
  obtain rfl|rfl|rfl:J=0∨J=1∨J=2:=by omega
  ·have hF':F'=F:=by rcases HS.out.2 with h|h|h<;>first|exact h.2.2.1|omega
   have HF0:Hid (F' (y0 va)=some q):=by rw[hF'];exact HG.out.2.2
   have HG0:Hid (F' (y1 va)=some g):=by rw[hF'];exact HG.out.2.1
   clear hF'
   have hPT:=HS.out.1
   have hfH:=hPT.held _ _ HF0.out
   have hfnH:=hPT.held _ _ HG0.out
   have c72a:=nodeL_any (w:=wr) a0 a1 a2 l e k 0 a0 (by simp) (by have:=HA.out;exact this.1.2)
   rw[HA.out.1.1] at c72a
   have c72b:∀ W,Calls Tryz.prog 190 #[.agg #[.int .u64 a0,.int .u64 a1,.int .u64 a2,.int .i64 l,.int .u64 e,.int .i64 k],.int .i64 2] W fun e w'=>e = .returned (.int .u64 (ad r))∧Below W.heap.size W w':=fun W=>by
    have:=nodeL_any (w:=W) a0 a1 a2 l e k 2 a2 (by simp) HA.out.2.2.2
    rwa [HA.out.2.2.1] at this
   have hneq:(ad q == ad r)=false:=by
    have:ad q≠ad r:=by
     have:=HNE.out.1
     unfold ad
     omega
    simpa using this
   have H73:Hid (∀ W,Below wr.heap.size wr W->Calls Tryz.prog 191 #[.pointer (some ⟨p,0,.none⟩),.int .u64 (ad q),.int .u64 0] W fun r w'=>r = .returned (.int .u64 (ft B' q 512 0))∧Below W.heap.size W w'):=fun W bW=>by
    have:=firstTaken_any (HR.out.1.below bW) (ad q) (hPT.ndB HF0.out) 0 (by omega)
    rw[show fi (ad q)=q from fi_adr q] at this
    exact this
   have hfb:=ft_b B' q 512 0 (by omega)
   obtain⟨fv,hfv⟩:∃ fv,fv=ft B' q 512 0:=⟨_,rfl⟩
   rw[<-hfv] at H73 hfb
   have HFV:Hid (fv=ft B' q 512 0):=hfv
   have H52:Hid (∀ W,Below wr.heap.size wr W->Calls Tryz.prog 156 #[.pointer (some ⟨p,0,.none⟩),.int .u64 (ad q)] W fun e w'=>e = .returned (.int .i64 0)∧Ram w' p b m N (thr B' q (adr L')) (q :: L')∧Fra p b m W w'):=fun W bW=>free_held q (HR.out.1.below bW) hfH.1 hfH.2.1 hfH.2.2
   have H47:Hid (∀ W,Ram W p b m N (thr B' q (adr L')) (q :: L')->Calls Tryz.prog 160 #[.pointer (some ⟨p,0,.none⟩),.int .u64 a1,.int .i64 8,.int .u64 0] W fun e w'=>e = .returned (.bool true)∧Ram w' p b m N (over (thr B' q (adr L')) (g*4096+i1 va*8) (le 0 8)) (q :: L')∧Fra p b m W w'):=fun W hW=>by
    have hd:g∉q :: L':=fun hm=>by
     rcases List.mem_cons.1 hm with e1|e1
     ·have:=hPT.inj _ _ _ HG0.out (by rw[e1];exact HF0.out)
      have:=y1_le va
      have:=y0_ge va
      omega
     ·exact hfnH.2.2 e1
    have:=store_r hW g va 1 (nd_of hfnH.1 hfnH.2.1 hd HN.out)
    rw[HI.out.1] at this
    exact this
   clear hfv hPT hfH hfnH
   obtain⟨k0,k1,k2,k3,k4,k5,f0,f1,f2,f3,f4,f5⟩:=id HR.out.2.2
   go_upto_region 5 with(go_at_call 190;refine c72a.mono ?_;rintro _ w2 ⟨rfl,b2⟩;have H2:Hid (Below wr.heap.size wr w2):=b2;clear b2 c72a)
   clear k0 k1 k2 k3 k4 k5 f0 f1 f2 f3 f4 f5
   obtain⟨k0,k1,k2,k3,k4,k5,f0,f1,f2,f3,f4,f5⟩:=HR.out.2.2.below H2.out
   by_cases hlt:fv<512
   ·go_wp2_with first|(go_at_call 190;refine(c72b _).mono ?_;rintro _ w3 ⟨rfl,b3⟩;have H3:Hid (Below wr.heap.size wr w3):=H2.out.trans (b3.mono H2.out.size);clear b3 c72b)|(go_at_call 191;refine(H73.out _ H3.out).mono ?_;rintro _ w4 ⟨rfl,b4⟩;have H4:Hid (Below wr.heap.size wr w4):=H3.out.trans (b4.mono H3.out.size);clear b4)
    refine bodyPost_ret (v:=.tuple #[]) (by simp[results,Tryz.results161,go_sem]) rfl ⟨rfl,B',L',F',lf',HS.out.1,?_,HR.out.1.below H4.out,HR.out.2.1.trans (Fra.below H4.out),HBY.out⟩
    rcases HS.out.2 with h|h|h
    ·obtain⟨_,rfl,rfl,rfl⟩:=h
     refine .inl ⟨rfl,rfl,rfl,fun hz=>?_⟩
     have:=(HS.out.1.ftL HR.out.1.mem.bb (y0_ge va) HF0.out).2 hz
     have:=HFV.out
     omega
    ·omega
    ·omega
   ·obtain rfl:fv=512:=by omega
    go_upto_region 6 with first|(go_at_call 190;refine(c72b _).mono ?_;rintro _ w3 ⟨rfl,b3⟩;have H3:Hid (Below wr.heap.size wr w3):=H2.out.trans (b3.mono H2.out.size);clear b3 c72b)|(go_at_call 191;refine(H73.out _ H3.out).mono ?_;rintro _ w4 ⟨rfl,b4⟩;have H4:Hid (Below wr.heap.size wr w4):=H3.out.trans (b4.mono H3.out.size);clear b4)
    clear k0 k1 k2 k3 k4 k5 f0 f1 f2 f3 f4 f5
    go_upto_region 7 with(go_at_call 156;refine(H52.out _ H4.out).mono ?_;rintro _ w5 ⟨rfl,r5,f5⟩;have H5:Hid (Ram w5 p b m N (thr B' q (adr L')) (q :: L')∧Fra p b m wr w5∧C6 w5 x (.int .u64 a0) (.int .u64 a1) (.int .u64 a2) (.int .i64 l) (.int .u64 e) (.int .i64 k)):=⟨r5,(Fra.below H4.out).trans f5,(HR.out.2.2.below H4.out).fra f5 hxp hxb hxm⟩;clear r5 f5)
    obtain⟨k0,k1,k2,k3,k4,k5,f0,f1,f2,f3,f4,f5⟩:=id H5.out.2.2
    go_upto_region 8 with(go_at_call 160;refine(H47.out _ H5.out.1).mono ?_;rintro _ w6 ⟨rfl,r6,f6⟩;have H6:Hid (Ram w6 p b m N (over (thr B' q (adr L')) (g*4096+i1 va*8) (le 0 8)) (q :: L')∧Fra p b m w w6∧C6 w6 x (.int .u64 a0) (.int .u64 a1) (.int .u64 a2) (.int .i64 l) (.int .u64 e) (.int .i64 k)):=⟨r6,HR.out.2.1.trans (H5.out.2.1.trans f6),H5.out.2.2.fra f6 hxp hxb hxm⟩;clear r6 f6)
    clear k0 k1 k2 k3 k4 k5 f0 f1 f2 f3 f4 f5
    go_wp2
    refine⟨⟨1,by omega,rfl,q :: L',over (thr B' q (adr L')) (g*4096+i1 va*8) (le 0 8),setN F' (y0 va),clrE lf' (y0 va),?_,H6,HBY.out.step HG.out.2.2 HG.out.2.1 (i1_lt va)⟩,by simp[intOf]⟩
    have hPT:=HS.out.1
    have hz:=(hPT.ftL HR.out.1.mem.bb (y0_ge va) HF0.out).1 HFV.out.symm
    refine⟨hPT.drop hy1.1 HG0.out (i1_lt va) HF0.out (fun h1=>by have:ch (y1 va) (i1 va)=y0 va:=rfl;omega) (fun z hz k hk=>thr_out _ _ _ _ (by rcases Nat.lt_or_gt_of_ne hz with h|h<;>omega)),?_⟩
    rcases HS.out.2 with h|h|h
    ·obtain⟨_,rfl,rfl,rfl⟩:=h
     exact .inr (.inl ⟨rfl,rfl,rfl,rfl,hz⟩)
    ·omega
    ·omega
  ·have hF':F'=setN F (y0 va):=by rcases HS.out.2 with h|h|h<;>first|exact h.2.2.1|omega
   have HF1:Hid (F' (y1 va)=some g):=by rw[hF'];unfold setN;rw[if_neg (by omega)];exact HG.out.2.1
   have HG1:Hid (F' 0=some r):=by rw[hF'];unfold setN;rw[if_neg (by omega)];exact HG.out.1
   clear hF'
   have hPT:=HS.out.1
   have hfH:=hPT.held _ _ HF1.out
   have hfnH:=hPT.held _ _ HG1.out
   have c72a:=nodeL_any (w:=wr) a0 a1 a2 l e k 1 a1 (by simp) (by have:=HA.out;exact this.2.1.2)
   rw[HA.out.2.1.1] at c72a
   have c72b:∀ W,Calls Tryz.prog 190 #[.agg #[.int .u64 a0,.int .u64 a1,.int .u64 a2,.int .i64 l,.int .u64 e,.int .i64 k],.int .i64 2] W fun e w'=>e = .returned (.int .u64 (ad r))∧Below W.heap.size W w':=fun W=>by
    have:=nodeL_any (w:=W) a0 a1 a2 l e k 2 a2 (by simp) HA.out.2.2.2
    rwa [HA.out.2.2.1] at this
   have hneq:(ad g == ad r)=false:=by
    have:ad g≠ad r:=by
     have:=HNE.out.2
     unfold ad
     omega
    simpa using this
   have H73:Hid (∀ W,Below wr.heap.size wr W->Calls Tryz.prog 191 #[.pointer (some ⟨p,0,.none⟩),.int .u64 (ad g),.int .u64 0] W fun r w'=>r = .returned (.int .u64 (ft B' g 512 0))∧Below W.heap.size W w'):=fun W bW=>by
    have:=firstTaken_any (HR.out.1.below bW) (ad g) (hPT.ndB HF1.out) 0 (by omega)
    rw[show fi (ad g)=g from fi_adr g] at this
    exact this
   have hfb:=ft_b B' g 512 0 (by omega)
   obtain⟨fv,hfv⟩:∃ fv,fv=ft B' g 512 0:=⟨_,rfl⟩
   rw[<-hfv] at H73 hfb
   have HFV:Hid (fv=ft B' g 512 0):=hfv
   have H52:Hid (∀ W,Below wr.heap.size wr W->Calls Tryz.prog 156 #[.pointer (some ⟨p,0,.none⟩),.int .u64 (ad g)] W fun e w'=>e = .returned (.int .i64 0)∧Ram w' p b m N (thr B' g (adr L')) (g :: L')∧Fra p b m W w'):=fun W bW=>free_held g (HR.out.1.below bW) hfH.1 hfH.2.1 hfH.2.2
   have H47:Hid (∀ W,Ram W p b m N (thr B' g (adr L')) (g :: L')->Calls Tryz.prog 160 #[.pointer (some ⟨p,0,.none⟩),.int .u64 a2,.int .i64 8,.int .u64 0] W fun e w'=>e = .returned (.bool true)∧Ram w' p b m N (over (thr B' g (adr L')) (r*4096+i2 va*8) (le 0 8)) (g :: L')∧Fra p b m W w'):=fun W hW=>by
    have hd:r∉g :: L':=fun hm=>by
     rcases List.mem_cons.1 hm with e1|e1
     ·have:=hPT.inj _ _ _ HG1.out (by rw[e1];exact HF1.out)
      have:=y1_le va
      have:=y0_ge va
      omega
     ·exact hfnH.2.2 e1
    have:=store_r hW r va 2 (nd_of hfnH.1 hfnH.2.1 hd HN.out)
    rw[HI.out.2] at this
    exact this
   clear hfv hPT hfH hfnH
   obtain⟨k0,k1,k2,k3,k4,k5,f0,f1,f2,f3,f4,f5⟩:=id HR.out.2.2
   go_upto_region 5 with(go_at_call 190;refine c72a.mono ?_;rintro _ w2 ⟨rfl,b2⟩;have H2:Hid (Below wr.heap.size wr w2):=b2;clear b2 c72a)
   clear k0 k1 k2 k3 k4 k5 f0 f1 f2 f3 f4 f5
   obtain⟨k0,k1,k2,k3,k4,k5,f0,f1,f2,f3,f4,f5⟩:=HR.out.2.2.below H2.out
   by_cases hlt:fv<512
   ·go_wp2_with first|(go_at_call 190;refine(c72b _).mono ?_;rintro _ w3 ⟨rfl,b3⟩;have H3:Hid (Below wr.heap.size wr w3):=H2.out.trans (b3.mono H2.out.size);clear b3 c72b)|(go_at_call 191;refine(H73.out _ H3.out).mono ?_;rintro _ w4 ⟨rfl,b4⟩;have H4:Hid (Below wr.heap.size wr w4):=H3.out.trans (b4.mono H3.out.size);clear b4)
    refine bodyPost_ret (v:=.tuple #[]) (by simp[results,Tryz.results161,go_sem]) rfl ⟨rfl,B',L',F',lf',HS.out.1,?_,HR.out.1.below H4.out,HR.out.2.1.trans (Fra.below H4.out),HBY.out⟩
    rcases HS.out.2 with h|h|h
    ·omega
    ·obtain⟨_,rfl,rfl,rfl,hz⟩:=h
     refine .inr (.inl ⟨rfl,rfl,rfl,hz,fun hd=>?_⟩)
     have:=(HS.out.1.ftP HN.out HR.out.1.mem.bb hy1.1 HF1.out).2 hd
     have:=HFV.out
     omega
    ·omega
   ·obtain rfl:fv=512:=by omega
    go_upto_region 6 with first|(go_at_call 190;refine(c72b _).mono ?_;rintro _ w3 ⟨rfl,b3⟩;have H3:Hid (Below wr.heap.size wr w3):=H2.out.trans (b3.mono H2.out.size);clear b3 c72b)|(go_at_call 191;refine(H73.out _ H3.out).mono ?_;rintro _ w4 ⟨rfl,b4⟩;have H4:Hid (Below wr.heap.size wr w4):=H3.out.trans (b4.mono H3.out.size);clear b4)
    clear k0 k1 k2 k3 k4 k5 f0 f1 f2 f3 f4 f5
    go_upto_region 7 with(go_at_call 156;refine(H52.out _ H4.out).mono ?_;rintro _ w5 ⟨rfl,r5,f5⟩;have H5:Hid (Ram w5 p b m N (thr B' g (adr L')) (g :: L')∧Fra p b m wr w5∧C6 w5 x (.int .u64 a0) (.int .u64 a1) (.int .u64 a2) (.int .i64 l) (.int .u64 e) (.int .i64 k)):=⟨r5,(Fra.below H4.out).trans f5,(HR.out.2.2.below H4.out).fra f5 hxp hxb hxm⟩;clear r5 f5)
    obtain⟨k0,k1,k2,k3,k4,k5,f0,f1,f2,f3,f4,f5⟩:=id H5.out.2.2
    go_upto_region 8 with(go_at_call 160;refine(H47.out _ H5.out.1).mono ?_;rintro _ w6 ⟨rfl,r6,f6⟩;have H6:Hid (Ram w6 p b m N (over (thr B' g (adr L')) (r*4096+i2 va*8) (le 0 8)) (g :: L')∧Fra p b m w w6∧C6 w6 x (.int .u64 a0) (.int .u64 a1) (.int .u64 a2) (.int .i64 l) (.int .u64 e) (.int .i64 k)):=⟨r6,HR.out.2.1.trans (H5.out.2.1.trans f6),H5.out.2.2.fra f6 hxp hxb hxm⟩;clear r6 f6)
    clear k0 k1 k2 k3 k4 k5 f0 f1 f2 f3 f4 f5
    go_wp2
    refine⟨⟨2,by omega,rfl,g :: L',over (thr B' g (adr L')) (r*4096+i2 va*8) (le 0 8),setN F' (y1 va),clrE lf' (y1 va),?_,H6,HBY.out.step HG.out.2.1 HG.out.1 (i2_lt va)⟩,by simp[intOf]⟩
    have hPT:=HS.out.1
    have hz:=(hPT.ftP HN.out HR.out.1.mem.bb hy1.1 HF1.out).1 HFV.out.symm
    refine⟨hPT.drop (by omega) HG1.out (i2_lt va) HF1.out (fun _=>hz) (fun z hz k hk=>thr_out _ _ _ _ (by rcases Nat.lt_or_gt_of_ne hz with h|h<;>omega)),?_⟩
    rcases HS.out.2 with h|h|h
    ·omega
    ·obtain⟨_,rfl,rfl,rfl,h0⟩:=h
     exact .inr (.inr ⟨rfl,rfl,rfl,rfl,h0,hz⟩)
    ·omega
  ·go_wp2_with fail
   refine bodyPost_end (results_none rfl _ _ _) rfl ⟨rfl,B',L',F',lf',HS.out.1,?_,HR.out.1,HR.out.2.1,HBY.out⟩
   rcases HS.out.2 with h|h|h
   ·omega
   ·omega
   ·exact .inr (.inr h.2)
def UnQ (w:World) (p b m N:Nat) (B:Nat->Int) (L:List Nat) (F:Nat->Option Nat) (lf:Nat->Nat->Int) (va:Int) (e:Ending) (w':World):Prop:=e = .returned (.tuple #[.int .u64 (lf (y0 va) (i0 va)),.int .i64 0])∧∃ g q B' L' F' lf',F (y1 va)=some g∧F (y0 va)=some q∧PT N L' B' F' lf'∧PrR L F (setE lf (y0 va) (i0 va) 0) va q g L' F' lf'∧Ram w' p b m N B' L'∧Fra p b m w w'∧Byo F B B'
set_option maxRecDepth 4000 in
theorem unmap_byt {r:Nat} (h:Ram w p b m N B L) (hP:PT N L B F lf) (hr:F 0=some r) (va:Int) (hv:0<=va∧va<274877906944∧va%4096=0) (hl:lf (y0 va) (i0 va)≠0) :
  Calls Tryz.prog 114 #[.pointer (some ⟨p,0,.none⟩),.int .u64 (ad r),.int .u64 va] w (UnQ w p b m N B L F lf va):=by
 have hN:=h.mem.n2
 obtain⟨g1,q0,e1,e0⟩:=hP.way va hl
 have hrN:=hP.held 0 r hr
 have hrb:=st_node r va 0 N hrN.2.1 hN
 have hrb2:0<=ad r∧ad r<18446744073709551616:=by unfold ad;omega
 have c38:=isMade_any h
 have c40:=userPage_any va ⟨hv.1,by omega⟩ w
 rw[show decide (va%4096=0∧va<274877906944)=true by simpa using ⟨hv.2.2,hv.2.1⟩] at c40
 have c42:=isNode_any h (ad r) hrb2
 rw[hP.ndB hr] at c42
 have hk2:kd (lf (y0 va) (i0 va)) 0=2:=by
  rcases hP.lv (y0 va) (i0 va) with h1|h1
  ·exact absurd h1 hl
  ·exact h1.1
 have c39:∀ W,Below w.heap.size w W->Calls Tryz.prog 104 #[.pointer (some ⟨p,0,.none⟩),.int .u64 (ad r),.int .u64 va,.agg #[]] W fun e w'=>e = .returned (.agg #[.int .u64 (st (ad q0) va 0),.int .u64 (st (ad g1) va 1),.int .u64 (st (ad r) va 2),.int .i64 0,.int .u64 (lf (y0 va) (i0 va)),.int .i64 2])∧Below W.heap.size W w':=fun W bW=>by
  have:=look_any (h.below bW) (ad r) va hrb2 ⟨hv.1,by omega⟩
  rw[look_0 hP hN hr va e1 e0,hk2] at this
  exact this
 have c47:∀ W,Below w.heap.size w W->Calls Tryz.prog 160 #[.pointer (some ⟨p,0,.none⟩),.int .u64 (st (ad q0) va 0),.int .i64 8,.int .u64 0] W fun e w'=>e = .returned (.bool true)∧Ram w' p b m N (over B (q0*4096+i0 va*8) (le 0 8)) L∧Fra p b m W w':=fun W bW=>store_r (h.below bW) q0 va 0 (hP.ndB e0)
 have hP2:=hP.leaf (v:=0) (y0_ge va) e0 (i0_lt va) (.inl rfl)
 have c48:∀ W,Ram W p b m N (over B (q0*4096+i0 va*8) (le 0 8)) L->Calls Tryz.prog 161 #[.pointer (some ⟨p,0,.none⟩),.agg #[.int .u64 (st (ad q0) va 0),.int .u64 (st (ad g1) va 1),.int .u64 (st (ad r) va 2),.int .i64 0,.int .u64 (lf (y0 va) (i0 va)),.int .i64 2]] W fun x w'=>x = .returned (.tuple #[])∧∃ B' L' F' lf',PT N L' B' F' lf'∧PrR L F (setE lf (y0 va) (i0 va) 0) va q0 g1 L' F' lf'∧Ram w' p b m N B' L'∧Fra p b m W w'∧Byo F B B':=fun W hW=>(prune_byt hW hP2 hr va e1 e0 0 _ 2).mono (fun x w' h=>by
  obtain⟨h1,B',L',F',lf',h2,h3,h4,h5,h6⟩:=h
  exact⟨h1,B',L',F',lf',h2,h3,h4,h5,Byo.store h6 e0 (i0_lt va)⟩)
 have hp:p<w.heap.size:=h.mem.plt
 have hbb:b<w.heap.size:=h.mem.blt
 have hm:m<w.heap.size:=h.mem.mlt
 have H39:Hid (∀ W,Below w.heap.size w W->Calls Tryz.prog 104 #[.pointer (some ⟨p,0,.none⟩),.int .u64 (ad r),.int .u64 va,.agg #[]] W fun e w'=>e = .returned (.agg #[.int .u64 (st (ad q0) va 0),.int .u64 (st (ad g1) va 1),.int .u64 (st (ad r) va 2),.int .i64 0,.int .u64 (lf (y0 va) (i0 va)),.int .i64 2])∧Below W.heap.size W w'):=c39
 have H47:Hid (∀ W,Below w.heap.size w W->Calls Tryz.prog 160 #[.pointer (some ⟨p,0,.none⟩),.int .u64 (st (ad q0) va 0),.int .i64 8,.int .u64 0] W fun e w'=>e = .returned (.bool true)∧Ram w' p b m N (over B (q0*4096+i0 va*8) (le 0 8)) L∧Fra p b m W w'):=c47
 have H48:Hid (∀ W,Ram W p b m N (over B (q0*4096+i0 va*8) (le 0 8)) L->Calls Tryz.prog 161 #[.pointer (some ⟨p,0,.none⟩),.agg #[.int .u64 (st (ad q0) va 0),.int .u64 (st (ad g1) va 1),.int .u64 (st (ad r) va 2),.int .i64 0,.int .u64 (lf (y0 va) (i0 va)),.int .i64 2]] W fun x w'=>x = .returned (.tuple #[])∧∃ B' L' F' lf',PT N L' B' F' lf'∧PrR L F (setE lf (y0 va) (i0 va) 0) va q0 g1 L' F' lf'∧Ram w' p b m N B' L'∧Fra p b m W w'∧Byo F B B'):=c48
 have HE:Hid (F (y1 va)=some g1∧F (y0 va)=some q0):=⟨e1,e0⟩
 have HT:Hid (∃ tp,tp=lf (y0 va) (i0 va)):=⟨_,rfl⟩
 obtain⟨tp,htp⟩:=HT.out
 have HTP:Hid (tp=lf (y0 va) (i0 va)):=htp
 rw[<-htp] at H39 H48
 clear h hP hP2 c39 c47 c48 hrN hrb hrb2 e1 e0 hr hk2 hl htp HT
 generalize st (ad q0) va 0=a0 at *
 generalize st (ad g1) va 1=a1 at *
 generalize st (ad r) va 2=a2 at *
 go_enter Tryz.func114,Tryz.ntmps114
 go_upto_region 7 with first|(go_at_call 157;refine c38.mono ?_;rintro _ w1 ⟨rfl,e1⟩;obtain rfl:w=w1:=e1.symm)|(go_at_call 158;refine c40.mono ?_;rintro _ w1 ⟨rfl,e1⟩;obtain rfl:w=w1:=e1.symm)|(go_at_call 159;refine c42.mono ?_;rintro _ w1 ⟨rfl,b1⟩;have H1:Hid (Below w.heap.size w w1):=b1;clear b1 c42)
 go_upto_region 8 with(go_at_call 104;refine(H39.out _ H1.out).mono ?_;rintro _ w2 ⟨rfl,b2⟩;have H2:Hid (Below w.heap.size w w2):=H1.out.trans (b2.mono H1.out.size);clear b2)
 obtain⟨w3,hw3⟩:∃ w3,w3=w2.alloc (.cells #[.int .u64 a0,.int .u64 a1,.int .u64 a2,.int .i64 0,.int .u64 tp,.int .i64 2] 169):=⟨_,rfl⟩
 have b3:Below w2.heap.size w2 w3:=by rw[hw3];exact below1 _ _
 have P3:C6 w3 w2.heap.size (.int .u64 a0) (.int .u64 a1) (.int .u64 a2) (.int .i64 0) (.int .u64 tp) (.int .i64 2):=by rw[hw3];exact C6.new _ _ _ _ _ _ _ _
 have H3:Hid (Below w.heap.size w w3∧C6 w3 w2.heap.size (.int .u64 a0) (.int .u64 a1) (.int .u64 a2) (.int .i64 0) (.int .u64 tp) (.int .i64 2)∧w.heap.size<=w2.heap.size):=⟨H2.out.trans (b3.mono H2.out.size),P3,H2.out.size⟩
 rw[<-hw3]
 clear hw3 b3
 have k0:=P3.c0
 have k3:=P3.c3
 have k5:=P3.c5
 clear P3
 go_upto_region 11 with(go_at_call 160;refine(H47.out _ H3.out.1).mono ?_;rintro _ w4 ⟨rfl,r4,f4⟩;have H4:Hid (Ram w4 p b m N (over B (q0*4096+i0 va*8) (le 0 8)) L∧Fra p b m w w4∧C6 w4 w2.heap.size (.int .u64 a0) (.int .u64 a1) (.int .u64 a2) (.int .i64 0) (.int .u64 tp) (.int .i64 2)):=⟨r4,(Fra.below H3.out.1).trans f4,H3.out.2.1.fra f4 (by have:=H3.out.2.2;omega) (by have:=H3.out.2.2;omega) (by have:=H3.out.2.2;omega)⟩;clear r4 f4)
 clear k0 k3 k5
 have k0:=H4.out.2.2.c0
 have k1:=H4.out.2.2.c1
 have k2:=H4.out.2.2.c2
 have k3:=H4.out.2.2.c3
 have k4:=H4.out.2.2.c4
 have k5:=H4.out.2.2.c5
 go_upto_region 12 with(go_at_call 161;refine(H48.out _ H4.out.1).mono ?_;rintro _ w5 ⟨rfl,B',L',F',lf',u1,u2,u3,u4,u5⟩;have H5:Hid (PT N L' B' F' lf'∧PrR L F (setE lf (y0 va) (i0 va) 0) va q0 g1 L' F' lf'∧Ram w5 p b m N B' L'∧Fra p b m w4 w5∧Byo F B B'):=⟨u1,u2,u3,u4,u5⟩;clear u1 u2 u3 u4 u5)
 clear k0 k1 k2 k3 k4 k5
 have k4:=(H4.out.2.2.fra H5.out.2.2.2.1 (by have:=H3.out.2.2;omega) (by have:=H3.out.2.2;omega) (by have:=H3.out.2.2;omega)).c4
 go_wp2_with fail
 refine bodyPost_ret (v:=.tuple #[.int .u64 tp,.int .i64 0]) (by simp[results,Tryz.results114,go_sem]) rfl ⟨by rw[HTP.out],g1,q0,B',L',F',lf',HE.out.1,HE.out.2,H5.out.1,H5.out.2.1,H5.out.2.2.1,H4.out.2.1.trans H5.out.2.2.2.1,H5.out.2.2.2.2⟩
end
end Rm
end Go.Proofs.YtabnipbdbnmmpaaGreatDoor
