import Derived.Test.YtabnipbdbnmmpaaGreatDoorLd01
import Derived.Test.YtabnipbdbnmmpaaGreatDoorLd03
import Derived.Test.YtabnipbdbnmmpaaGreatDoorRows
import Derived.WalkKit
import Derived.WalkSpells
import Derived.RowKit3
import Derived.LoopTactic
import Derived.Below
import Derived.Maps.OwnSet
import Derived.Laws.IdiomCopy
import Derived.Lib.SliceRun
import Derived.Deep.Draws
import Derived.WalkSmall
set_option linter.unusedVariables false
set_option linter.unusedSimpArgs false
set_option maxHeartbeats 8000000
namespace Go.Proofs.YtabnipbdbnmmpaaGreatDoor
section
open Go.RowKit
theorem pow2:(256:Int) ^ 2=65536:=by decide
def cntB (B:Nat->Int):Nat:=(num B 56 2).toNat
def froB (B:Nat->Int):Nat:=(num B 32 8).toNat
theorem cnt_e (B:Nat->Int) (hB:∀ i,0<=B i∧B i<256):(cntB B:Int)=num B 56 2∧cntB B<65536:=by
 have h:=num_bd B hB 56 2
 rw[pow2] at h
 have e:(cntB B:Int)=num B 56 2:=Int.toNat_of_nonneg h.1
 exact⟨e,by omega⟩
theorem fro_e (B:Nat->Int) (hB:∀ i,0<=B i∧B i<256):(froB B:Int)=num B 32 8∧froB B<18446744073709551616:=by
 have h:=num_bd B hB 32 8
 rw[pow8] at h
 have e:(froB B:Int)=num B 32 8:=Int.toNat_of_nonneg h.1
 exact⟨e,by omega⟩
theorem heads_any {w:World} {rb b o n c:Nat} {B:Nat->Int} (hL:Laid w) (hF:Fil w rb b o n c B) (h64:64<=n) (hn:n<=262144):Calls Tryz.prog 173 #[.pointer (some ⟨rb,0,.none⟩)] w fun e w'=>
  ((cntB B=0∨64<cntB B)∧Up w 56 143 e w')∨(¬ (cntB B=0∨64<cntB B)∧((¬ froB B+cntB B*56<=n∧Up w 32 140 e w')∨(froB B+cntB B*56<=n∧e = .returned (.tuple #[.int .i64 (froB B),.int .u64 (cntB B)])∧Below w.heap.size w w'))):=by
 have HL:Hid (Laid w):=hL
 have HF:Hid (Fil w rb b o n c B):=hF
 obtain⟨ec,lc⟩:=cnt_e B hF.bd
 obtain⟨ef,lf⟩:=fro_e B hF.bd
 have HEc:Hid ((cntB B:Int)=num B 56 2):=ec
 have HEf:Hid ((froB B:Int)=num B 32 8):=ef
 clear ec ef
 have t0:=hL.h0 11 (by omega)
 have t1:=hL.h0 8 (by omega)
 clear hL hF
 go_enter Tryz.func173,Tryz.ntmps173
 have bd_V1:Below w.heap.size w w.drew:=zB.drew
 have ks_V1:(w.drew.cell? ⟨0,33,.none⟩=some (.int .i64 56)∧w.drew.cell? ⟨0,34,.none⟩=some (.int .i64 2)∧w.drew.cell? ⟨0,35,.none⟩=some (.int .u64 0))∧w.drew.cell? ⟨rb,0,.none⟩=some (.slice (some ⟨b,o,.none⟩) n c):=⟨⟨(HL.out.below bd_V1).h0 11 (by omega),(HL.out.below bd_V1).h1 11 (by omega),(HL.out.below bd_V1).h2 11 (by omega)⟩,(HF.out.below bd_V1).f0⟩
 go_upto_region 1 with fail
 refine wp_region_held_drew (S:=fun U2=>(U2.cell? ⟨0,33,.none⟩=some (.int .i64 56)∧U2.cell? ⟨0,34,.none⟩=some (.int .i64 2)∧U2.cell? ⟨0,35,.none⟩=some (.int .u64 0))∧U2.cell? ⟨rb,0,.none⟩=some (.slice (some ⟨b,o,.none⟩) n c)) (by kernel_rfl) ks_V1 (fun hHeld=>?_)
 refine aT 0 (.pointer (some ⟨0,33,.none⟩)) rfl ?_
 simp only[xX]
 refine aT 1 (.agg #[.int .i64 56,.int .i64 2,.int .u64 0]) rfl ?_
 simp only[xX]
 refine aT 2 (.pointer (some ⟨rb,0,.none⟩)) rfl ?_
 simp only[xX]
 refine aT 3 (.pointer (some ⟨rb,0,.none⟩)) rfl ?_
 simp only[xX]
 refine aT 4 (.pointer (some ⟨rb,0,.none⟩)) rfl ?_
 simp only[xX]
 refine aT 5 (.slice (some ⟨b,o,.none⟩) n c) rfl ?_
 simp only[xX]
 refine zR 6 rfl (fun K hK=>?_)
 go_simp
 go_at_call 176
 refine(in_any b o n c 56 2 0 B _ (by omega) HF.out.nc.1 HF.out.nc.2 (by omega) (by omega) HF.out.bd (HF.out.row.keep bd_V1)).mono ?_
 rintro e V1 ⟨rfl,hb_V1⟩
 have b_V1:Below w.heap.size w V1:=bd_V1.trans (hb_V1.mono bd_V1.size)
 have kt_V1:(V1.cell? ⟨0,33,.none⟩=some (.int .i64 56)∧V1.cell? ⟨0,34,.none⟩=some (.int .i64 2)∧V1.cell? ⟨0,35,.none⟩=some (.int .u64 0))∧V1.cell? ⟨rb,0,.none⟩=some (.slice (some ⟨b,o,.none⟩) n c):=⟨⟨(HL.out.below b_V1).h0 11 (by omega),(HL.out.below b_V1).h1 11 (by omega),(HL.out.below b_V1).h2 11 (by omega)⟩,(HF.out.below b_V1).f0⟩
 refine hK.out _ _ kt_V1 (fun hHeld=>?_)
 clear hK K
 try simp only[xX]
 refine aT 7 (.int .u64 (num B 56 2)) rfl ?_
 simp only[xX]
 refine wpAnyH_done (by kernel_rfl) ?_ _
 clear hHeld ks_V1 kt_V1 hb_V1 bd_V1
 rw[<-HEc.out]
 have u0:V1.cell? ⟨0,33,.none⟩=some (.int .i64 56):=(HL.out.below b_V1).h0 11 (by omega)
 by_cases hc0:cntB B=0
 ·have g0:((cntB B:Int) == 0)=true:=by simp[hc0]
  have HC0:Hid (cntB B=0):=hc0
  clear hc0
  go_wp2_with (first|(go_at_call 175;refine(giveUp_any _ _ _).mono ?_;intro e w0 hu;obtain⟨v,rfl,hu2⟩:=id hu)|fail)
  exact⟨rfl,.inl ⟨.inl HC0.out,hu.back b_V1⟩⟩
 ·have g0:((cntB B:Int) == 0)=false:=by simp;omega
  by_cases hc1:64<cntB B
  ·have g1:(cntB B:Int) > 64:=by omega
   go_wp2_with (first|(go_at_call 175;refine(giveUp_any _ _ _).mono ?_;intro e w0 hu;obtain⟨v,rfl,hu2⟩:=id hu)|fail)
   exact⟨rfl,.inl ⟨.inr hc1,hu.back b_V1⟩⟩
  ·have g1:¬ (cntB B:Int) > 64:=by omega
   clear u0
   have bd_V2:Below w.heap.size w V1.drew:=(b_V1).drew
   have ks_V2:(V1.drew.cell? ⟨0,24,.none⟩=some (.int .i64 32)∧V1.drew.cell? ⟨0,25,.none⟩=some (.int .i64 8)∧V1.drew.cell? ⟨0,26,.none⟩=some (.int .u64 0))∧V1.drew.cell? ⟨rb,0,.none⟩=some (.slice (some ⟨b,o,.none⟩) n c):=⟨⟨(HL.out.below bd_V2).h0 8 (by omega),(HL.out.below bd_V2).h1 8 (by omega),(HL.out.below bd_V2).h2 8 (by omega)⟩,(HF.out.below bd_V2).f0⟩
   go_upto_region 4 with fail
   refine wp_region_held_drew (S:=fun U2=>(U2.cell? ⟨0,24,.none⟩=some (.int .i64 32)∧U2.cell? ⟨0,25,.none⟩=some (.int .i64 8)∧U2.cell? ⟨0,26,.none⟩=some (.int .u64 0))∧U2.cell? ⟨rb,0,.none⟩=some (.slice (some ⟨b,o,.none⟩) n c)) (by kernel_rfl) ks_V2 (fun hHeld=>?_)
   refine aT 0 (.pointer (some ⟨0,24,.none⟩)) rfl ?_
   simp only[xX]
   refine aT 1 (.agg #[.int .i64 32,.int .i64 8,.int .u64 0]) rfl ?_
   simp only[xX]
   refine aT 2 (.pointer (some ⟨rb,0,.none⟩)) rfl ?_
   simp only[xX]
   refine aT 3 (.pointer (some ⟨rb,0,.none⟩)) rfl ?_
   simp only[xX]
   refine aT 4 (.pointer (some ⟨rb,0,.none⟩)) rfl ?_
   simp only[xX]
   refine aT 5 (.slice (some ⟨b,o,.none⟩) n c) rfl ?_
   simp only[xX]
   refine zR 6 rfl (fun K hK=>?_)
   go_simp
   go_at_call 176
   refine(in_any b o n c 32 8 0 B _ (by omega) HF.out.nc.1 HF.out.nc.2 (by omega) (by omega) HF.out.bd (HF.out.row.keep bd_V2)).mono ?_
   rintro e V2 ⟨rfl,hb_V2⟩
   have b_V2:Below w.heap.size w V2:=bd_V2.trans (hb_V2.mono bd_V2.size)
   have kt_V2:(V2.cell? ⟨0,24,.none⟩=some (.int .i64 32)∧V2.cell? ⟨0,25,.none⟩=some (.int .i64 8)∧V2.cell? ⟨0,26,.none⟩=some (.int .u64 0))∧V2.cell? ⟨rb,0,.none⟩=some (.slice (some ⟨b,o,.none⟩) n c):=⟨⟨(HL.out.below b_V2).h0 8 (by omega),(HL.out.below b_V2).h1 8 (by omega),(HL.out.below b_V2).h2 8 (by omega)⟩,(HF.out.below b_V2).f0⟩
   refine hK.out _ _ kt_V2 (fun hHeld=>?_)
   clear hK K
   try simp only[xX]
   refine aT 7 (.int .u64 (num B 32 8)) rfl ?_
   simp only[xX]
   refine wpAnyH_done (by kernel_rfl) ?_ _
   clear hHeld ks_V2 kt_V2 hb_V2 bd_V2
   rw[<-HEf.out]
   have u0:V2.cell? ⟨0,24,.none⟩=some (.int .i64 32):=(HL.out.below b_V2).h0 8 (by omega)
   have c34:=lies_any rb n c (some ⟨b,o,.none⟩) (froB B) ((cntB B:Int)*56) V2 (HF.out.below b_V2).f0 (by omega) ⟨by omega,by omega⟩ ⟨by omega,by omega⟩
   by_cases hf:froB B+cntB B*56<=n
   ·rw[show decide ((froB B:Int)+(cntB B:Int)*56<=n)=true by simp;omega] at c34
    go_wp2_with (first|(go_at_call 204;refine c34.mono ?_;rintro e V3 ⟨rfl,rfl⟩)|fail)
    refine bodyPost_ret (v:=.tuple #[.int .i64 (froB B),.int .u64 (cntB B)]) (by simp[results,Tryz.results173,go_sem]) rfl ?_
    exact .inr ⟨by omega,.inr ⟨hf,rfl,b_V2⟩⟩
   ·rw[show decide ((froB B:Int)+(cntB B:Int)*56<=n)=false by simp;omega] at c34
    go_wp2_with (first|(go_at_call 204;refine c34.mono ?_;rintro e V3 ⟨rfl,rfl⟩)|(go_at_call 175;refine(giveUp_any _ _ _).mono ?_;intro e w0 hu;obtain⟨v,rfl,hu2⟩:=id hu)|fail)
    exact⟨rfl,.inr ⟨by omega,.inl ⟨hf,hu.back b_V2⟩⟩⟩
end
section
open Go.RowKit
def lp (n:Nat) (B:Nat->Int):Nat->Nat->List Sg->(Int×Int)×List Sg
 |0,_,S=>((0,0),S)
 |k+1,a,S=>if (stp n B S a).1≠0 then (((a:Int),(stp n B S a).1),[]) else lp n B k (a+56) (stp n B S a).2
def rdF (n:Nat) (B:Nat->Int) (ha hr:Int):(Int×Int)×List Sg:=
 if 262144<n then ((262144,147),[]) else if n<64 then (((n:Int),140),[]) else if hr≠0 then ((ha,hr),[]) else if cntB B=0∨64<cntB B then ((56,143),[])
 else if ¬ froB B+cntB B*56<=n then ((32,140),[]) else if (lp n B (cntB B) (froB B) []).1.2≠0 then ((lp n B (cntB B) (froB B) []).1,[])
 else if (lp n B (cntB B) (froB B) []).2.length=0 then ((56,143),[]) else if hasE (lp n B (cntB B) (froB B) []).2 (num B 24 8)=false then ((24,146),[]) else ((0,0),(lp n B (cntB B) (froB B) []).2)
theorem own_other {w w':World} {X e s n rs:Nat} {v:Value} {xs:List Value} {cur:Array Value} {f:Nat×Nat} (h:w.ownsRow X e s v n xs) (he:e≠41) (hr:w.heap[rs]? = some (.cells cur 41 f)) (hk:∀ k,k≠rs->w'.heap[k]? = w.heap[k]?):w'.ownsRow X e s v n xs:=by
 refine⟨h.1,?_⟩
 rcases h.2 with h0|⟨g,cap,cur',hv,h1,h2,h3⟩
 ·exact .inl h0
 ·refine .inr ⟨g,cap,cur',hv,h1,(hk g (fun e=>?_)).trans h2,h3⟩
  subst e
  rw[h2] at hr
  injection hr with hr
  injection hr with _ hr
  exact he hr
theorem Segs.other {w w':World} {X rs:Nat} {sv:Value} {E:List (Sg×Value)} {B:Nat->Int} {cur:Array Value} {f:Nat×Nat} (h:Segs w X sv E B) (hr:w.heap[rs]? = some (.cells cur 41 f)) (hk:∀ k,k≠rs->w'.heap[k]? = w.heap[k]?):Segs w' X sv E B:=
 ⟨own_other h.own (by decide) hr hk,fun x hx=>own_other (h.dat x hx) (by decide) hr hk,h.gd⟩
def ProgP (W0:World) (rb n:Nat) (B:Nat->Int) (ha hr:Int) (e:Ending) (w':World):Prop:=
 ((rdF n B ha hr).1.2≠0∧UpX W0 (rdF n B ha hr).1.1 (rdF n B ha hr).1.2 e w')∨((rdF n B ha hr).1.2=0∧∃ sv E,e = .returned (.agg #[.int .u64 (num B 24 8),sv])∧E.map (·.1)=(rdF n B ha hr).2∧Segs w' (rb+1) sv E B∧E.length<=8∧Below W0.heap.size W0 w')
set_option maxRecDepth 100000 in
theorem prog_any {W0 w:World} {rb b o n c:Nat} {B:Nat->Int} (hR0:Fil w rb b o n c B∧w.cell? ⟨rb,1,.none⟩=some (.slice .none 0 0)∧w.frozen? ⟨rb,1,.none⟩=false∧Segs w (rb+1) (.slice .none 0 0) [] B∧Below W0.heap.size W0 w∧W0.heap.size<=rb∧rb+1<=w.heap.size∧b<W0.heap.size∧([]:List (Sg×Value)).length<=8) (hL0:Laid W0) (ha hr:Int) (hH:Hd B ha hr) :
  Calls Tryz.prog 137 #[.pointer (some ⟨rb,0,.none⟩)] w fun e w'=>ProgP W0 rb n B ha hr e w':=by
 have HR0:Hid (Rdr W0 (w.alloc (.cells #[.int .u64 0,.slice .none 0 0] 41)) rb w.heap.size b o n c B [] (.slice .none 0 0)):=by
  have k:Below w.heap.size w (w.alloc (.cells #[.int .u64 0,.slice .none 0 0] 41)):=zB.alloc zL _
  obtain⟨g1,g2,g3,g4,g5,g6,g7,g8,g9⟩:=hR0
  exact⟨g1.below k,(k.cell (zC g2)).trans g2,(k.frozen (zC g2)).trans g3,g4.below k,g5.trans (k.mono g5.size),g6,Nat.le_trans g7 k.size,g8,g9,heap_new _ _,zC (x:=⟨rb,1,.none⟩) g2⟩
 clear hR0
 have HL0:Hid (Laid W0):=hL0
 have HHd:Hid (Hd B ha hr):=hH
 clear hL0 hH
 go_enter Tryz.func137,Tryz.ntmps137
 go_wp2_with fail
 generalize hRB:w.heap.size=rs at *
 clear hRB
 generalize w.alloc (.cells #[.int .u64 0,.slice .none 0 0] 41)=W1 at *
 by_cases h1:262144<n
 ·refine(length_up rb n c _ W1 HR0.out.fil.f0 h1).mono ?_
  intro e w0 hu
  obtain⟨v,rfl,hu2⟩:=id hu
  refine⟨rfl,.inl ?_⟩
  unfold rdF
  rw[if_pos h1]
  exact⟨by simp,hu.x HR0.out.be⟩
 by_cases h2:n<64
 ·refine(length_lo rb n c _ W1 HR0.out.fil.f0 h2).mono ?_
  intro e w0 hu
  obtain⟨v,rfl,hu2⟩:=id hu
  refine⟨rfl,.inl ?_⟩
  unfold rdF
  rw[if_neg h1,if_pos h2]
  exact⟨by simp,hu.x HR0.out.be⟩
 have hr1:rdF n B ha hr=if hr≠0 then ((ha,hr),[]) else if cntB B=0∨64<cntB B then ((56,143),[]) else if ¬ froB B+cntB B*56<=n then ((32,140),[]) else if (lp n B (cntB B) (froB B) []).1.2≠0 then ((lp n B (cntB B) (froB B) []).1,[]) else if (lp n B (cntB B) (froB B) []).2.length=0 then ((56,143),[]) else if hasE (lp n B (cntB B) (froB B) []).2 (num B 24 8)=false then ((24,146),[]) else ((0,0),(lp n B (cntB B) (froB B) []).2):=by
  unfold rdF
  rw[if_neg h1,if_neg h2]
 have HF1:Hid (rdF n B ha hr=_):=hr1
 clear hr1
 refine(length_ok rb n c _ W1 HR0.out.fil.f0 (by omega) (by omega)).mono ?_
 rintro e w2 ⟨rfl,hw2⟩
 cases hw2
 go_wp2_with fail
 have HL1:Hid (Laid W1):=HL0.out.below HR0.out.be
 refine(head_any HL1.out HR0.out.fil (by omega)).mono ?_
 rintro e W2 ⟨a',r',hh,hcase⟩
 obtain⟨rfl,rfl⟩:=hd_one HHd.out hh
 rcases hcase with⟨hr0,rfl,hb2⟩|⟨hr0,hu⟩
 case inr=>
  obtain⟨v,rfl,hu2⟩:=id hu
  have e1:=HF1.out
  rw[if_pos hr0] at e1
  refine⟨rfl,.inl ?_⟩
  rw[e1]
  exact⟨hr0,hu.x HR0.out.be⟩
 case inl=>
  have HR2:Hid (Rdr W0 W2 rb rs b o n c B [] (.slice .none 0 0)):=HR0.out.below hb2
  have HHR:Hid (hr=0):=hr0
  clear hb2 hr0 hh
  go_wp2_with fail
  refine(heads_any (HL0.out.below HR2.out.be) HR2.out.fil (by omega) (by omega)).mono ?_
  intro e W3 hcase
  rcases hcase with⟨hbad,hu⟩|⟨hbad,hcase⟩
  ·obtain⟨v,rfl,hu2⟩:=id hu
   have e1:=HF1.out
   rw[if_neg (by simpa using HHR.out),if_pos hbad] at e1
   refine⟨rfl,.inl ?_⟩
   rw[e1]
   exact⟨by simp,hu.x HR2.out.be⟩
  rcases hcase with⟨hfit,hu⟩|⟨hfit,rfl,hb3⟩
  ·obtain⟨v,rfl,hu2⟩:=id hu
   have e1:=HF1.out
   rw[if_neg (by simpa using HHR.out),if_neg hbad,if_pos hfit] at e1
   refine⟨rfl,.inl ?_⟩
   rw[e1]
   exact⟨by simp,hu.x HR2.out.be⟩
  have HR3:Hid (Rdr W0 W3 rb rs b o n c B [] (.slice .none 0 0)):=HR2.out.below hb3
  clear hb3
  go_upto_block 0 with fail
  go_cut [3,16] (fun _ _ wx=>∃ E q cs,Hid (lp n B (cntB B) (froB B) []=((0,0),E.map (·.1)))∧Hid (Rdr W0 wx rb rs b o n c B E (.slice q E.length cs)))
  case first=>
   go_wp2_with fail
   go_loopw [3,16] (fun p i wr=>∃ (k:Nat) (E:List (Sg×Value)) (q:Option Addr) (cs:Nat),k<=cntB B∧i = .int .u64 k∧p = .int .i64 ((froB B+k*56:Nat):Int)∧Hid (lp n B (cntB B) (froB B) []=lp n B (cntB B-k) (froB B+k*56) (E.map (·.1)))∧Hid (Rdr W0 wr rb rs b o n c B E (.slice q E.length cs))) (fun _ i _=>(cntB B-intOf i).toNat)
   case atStart=>exact⟨0,[],none,0,Nat.zero_le _,rfl,by simp,rfl,HR3⟩
   case round=>
    obtain⟨k,E,q,cs,hk,rfl,rfl,HLp,HR⟩:=hrel
    by_cases hlt:k<cntB B
    ·have g0:(k:Int)<cntB B:=by omega
     have c26:=seg_any HR.out (HL0.out.below HR.out.be) (by omega) (froB B+k*56) (by omega)
     obtain⟨m,hm⟩:∃ m,cntB B-k=m+1:=⟨cntB B-k-1,by omega⟩
     go_wp2_with fail
     refine c26.mono ?_
     intro e wn hseg
     rcases hseg with⟨hs1,hu⟩|⟨hs1,rfl,E',sv',hE',hR'⟩
     ·obtain⟨v,rfl,hu2⟩:=id hu
      have e2:=HLp.out
      rw[hm,lp,if_pos hs1] at e2
      have e1:=HF1.out
      rw[if_neg (by simpa using HHR.out),if_neg hbad,if_neg (by simpa using hfit),if_pos (by rw[e2];exact hs1)] at e1
      refine⟨rfl,.inl ?_⟩
      rw[e1,e2]
      exact⟨hs1,hu⟩
     ·obtain⟨q',cs',rfl,_⟩:=own_form hR'.sg.own
      have HLn:Hid (lp n B (cntB B) (froB B) []=lp n B (cntB B-(k+1)) (froB B+(k+1)*56) (E'.map (·.1))):=by
       have e2:=HLp.out
       rw[hm,lp,if_neg (by simpa using hs1),<-hE'] at e2
       rw[show cntB B-(k+1)=m by omega,show froB B+(k+1)*56=froB B+k*56+56 by omega]
       exact e2
      have HRn:Hid (Rdr W0 wn rb rs b o n c B E' (.slice q' E'.length cs')):=hR'
      clear hR' hE' hs1 HLp HR c26
      go_wp2_with fail
      exact⟨⟨k+1,E',q',cs',by omega,by simp,by congr 1;omega,HLn,HRn⟩,by simp[intOf];omega⟩
    ·have hn9:¬ ((k:Int)<cntB B):=by omega
     have e2:Hid (lp n B (cntB B) (froB B) []=((0,0),E.map (·.1))):=by
      have e3:=HLp.out
      rw[show cntB B-k=0 by omega,lp] at e3
      exact e3
     go_wp2_with fail
     go_meet
     case rel=>exact⟨E,q,cs,e2,HR⟩
  case rest=>
   obtain⟨E,q,cs,HLp,HR⟩:=hcut
   obtain⟨Wd,hWd⟩:∃ u,u=wc:=⟨_,rfl⟩
   subst hWd
   have HLc:Hid (Laid Wd):=HL0.out.below HR.out.be
   have t0:Wd.cell? ⟨0,33,.none⟩=some (.int .i64 56):=HLc.out.h0 11 (by omega)
   have t1:=HR.out.c1
   have HF2:Hid (rdF n B ha hr=if E.length=0 then ((56,143),[]) else if hasE (E.map (·.1)) (num B 24 8)=false then ((24,146),[]) else ((0,0),E.map (·.1))):=by
    have e1:=HF1.out
    rw[if_neg (by simpa using HHR.out),if_neg hbad,if_neg (by simpa using hfit),HLp.out,if_neg (by simp),List.length_map] at e1
    exact e1
   clear HF1 HLp HR3 HR2
   by_cases h0:E.length=0
   ·have g0:((E.length:Int) == 0)=true:=by rw[beq_iff_eq];omega
    have H0:Hid (E.length=0):=h0
    clear h0
    go_wp2_with (first|(go_at_call 175;refine(giveUp_any _ _ _).mono ?_;intro e w0 hu;obtain⟨v,rfl,hu2⟩:=id hu)|fail)
    have e1:=HF2.out
    rw[if_pos H0.out] at e1
    refine⟨rfl,.inl ?_⟩
    rw[e1]
    exact⟨by simp,hu.x HR.out.be⟩
   ·have g0:((E.length:Int) == 0)=false:=by rw[beq_eq_false_iff_ne];omega
    go_upto_region 11 with fail
    clear t0 t1
    go_cut [5] (fun p wx=>∃ x,p = .pointer (some ⟨x,0,.none⟩)∧Hid (wx.cell? ⟨x,0,.none⟩=some (.int .u64 (num B 24 8))∧wx.cell? ⟨x,1,.none⟩=some (.slice q E.length cs)∧Below Wd.heap.size Wd wx))
    case first=>
     have bd:Below Wd.heap.size Wd Wd.drew:=zB.drew
     have k0:(Wd.drew.cell? ⟨0,21,.none⟩=some (.int .i64 24)∧Wd.drew.cell? ⟨0,22,.none⟩=some (.int .i64 8)∧Wd.drew.cell? ⟨0,23,.none⟩=some (.int .u64 0))∧Wd.drew.cell? ⟨rb,0,.none⟩=some (.slice (some ⟨b,o,.none⟩) n c)∧Wd.drew.cell? ⟨rb,1,.none⟩=some (.slice q E.length cs):=⟨⟨(HLc.out.below bd).h0 7 (by omega),(HLc.out.below bd).h1 7 (by omega),(HLc.out.below bd).h2 7 (by omega)⟩,(HR.out.below bd).fil.f0,(HR.out.below bd).c1⟩
     refine wp_region_held_drew (S:=fun U2=>(U2.cell? ⟨0,21,.none⟩=some (.int .i64 24)∧U2.cell? ⟨0,22,.none⟩=some (.int .i64 8)∧U2.cell? ⟨0,23,.none⟩=some (.int .u64 0))∧U2.cell? ⟨rb,0,.none⟩=some (.slice (some ⟨b,o,.none⟩) n c)∧U2.cell? ⟨rb,1,.none⟩=some (.slice q E.length cs)) (by kernel_rfl) k0 (fun hHeld=>?_)
     refine aT 0 (.pointer (some ⟨0,21,.none⟩)) rfl ?_
     simp only[xX]
     refine aT 1 (.agg #[.int .i64 24,.int .i64 8,.int .u64 0]) rfl ?_
     simp only[xX]
     refine aT 2 (.pointer (some ⟨rb,0,.none⟩)) rfl ?_
     simp only[xX]
     refine aT 3 (.pointer (some ⟨rb,0,.none⟩)) rfl ?_
     simp only[xX]
     refine aT 4 (.pointer (some ⟨rb,0,.none⟩)) rfl ?_
     simp only[xX]
     refine aT 5 (.slice (some ⟨b,o,.none⟩) n c) rfl ?_
     simp only[xX]
     refine aT 7 (.pointer (some ⟨rb,0,.none⟩)) rfl ?_
     simp only[xX]
     refine aT 8 (.pointer (some ⟨rb,0,.none⟩)) rfl ?_
     simp only[xX]
     refine aT 9 (.pointer (some ⟨rb,1,.none⟩)) rfl ?_
     simp only[xX]
     refine aT 10 (.slice q E.length cs) rfl ?_
     simp only[xX]
     refine wpAnyH_ready (rs:=[6,12]) (by kernel_rfl) (by simp) ?_
     refine AllReadyH.cons rfl (fun K hK=>?_) (AllReadyH.cons rfl (fun K hK=>?_) AllReadyH.nil)
     ·
      go_simp
      go_at_call 176
      refine(in_any b o n c 24 8 0 B _ (by omega) HR.out.fil.nc.1 HR.out.fil.nc.2 (by omega) (by omega) HR.out.fil.bd (HR.out.below bd).fil.row).mono ?_
      rintro e U ⟨rfl,hbU⟩
      have bU:Below Wd.heap.size Wd U:=(bd).trans (hbU.mono (bd).size)
      have kU:(U.cell? ⟨0,21,.none⟩=some (.int .i64 24)∧U.cell? ⟨0,22,.none⟩=some (.int .i64 8)∧U.cell? ⟨0,23,.none⟩=some (.int .u64 0))∧U.cell? ⟨rb,0,.none⟩=some (.slice (some ⟨b,o,.none⟩) n c)∧U.cell? ⟨rb,1,.none⟩=some (.slice q E.length cs):=⟨⟨(HLc.out.below bU).h0 7 (by omega),(HLc.out.below bU).h1 7 (by omega),(HLc.out.below bU).h2 7 (by omega)⟩,(HR.out.below bU).fil.f0,(HR.out.below bU).c1⟩
      refine hK.out _ _ kU (fun hHeld=>?_)
      clear hK K
      try simp only[xX]
      refine aT 11 (.agg #[(.int .u64 (num B 24 8)),(.slice q E.length cs)]) rfl ?_
      simp only[xX]
      refine zR 12 rfl (fun K hK=>?_)
      go_simp
      have bZ:Below Wd.heap.size Wd (U.alloc (.cells #[.int .u64 0,.slice .none 0 0] 41)):=bU.alloc bU.size _
      have kZ:((U.alloc (.cells #[.int .u64 0,.slice .none 0 0] 41)).cell? ⟨0,21,.none⟩=some (.int .i64 24)∧(U.alloc (.cells #[.int .u64 0,.slice .none 0 0] 41)).cell? ⟨0,22,.none⟩=some (.int .i64 8)∧(U.alloc (.cells #[.int .u64 0,.slice .none 0 0] 41)).cell? ⟨0,23,.none⟩=some (.int .u64 0))∧(U.alloc (.cells #[.int .u64 0,.slice .none 0 0] 41)).cell? ⟨rb,0,.none⟩=some (.slice (some ⟨b,o,.none⟩) n c)∧(U.alloc (.cells #[.int .u64 0,.slice .none 0 0] 41)).cell? ⟨rb,1,.none⟩=some (.slice q E.length cs):=⟨⟨(HLc.out.below bZ).h0 7 (by omega),(HLc.out.below bZ).h1 7 (by omega),(HLc.out.below bZ).h2 7 (by omega)⟩,(HR.out.below bZ).fil.f0,(HR.out.below bZ).c1⟩
      refine hK.out _ _ kZ (fun hHeld=>?_)
      clear hK K
      try simp only[xX]
      refine zR 13 rfl (fun K hK=>?_)
      have bA:Below Wd.heap.size Wd (U.alloc (.cells #[(.int .u64 (num B 24 8)),(.slice q E.length cs)] 41)):=bU.alloc bU.size _
      have kA:((U.alloc (.cells #[(.int .u64 (num B 24 8)),(.slice q E.length cs)] 41)).cell? ⟨0,21,.none⟩=some (.int .i64 24)∧(U.alloc (.cells #[(.int .u64 (num B 24 8)),(.slice q E.length cs)] 41)).cell? ⟨0,22,.none⟩=some (.int .i64 8)∧(U.alloc (.cells #[(.int .u64 (num B 24 8)),(.slice q E.length cs)] 41)).cell? ⟨0,23,.none⟩=some (.int .u64 0))∧(U.alloc (.cells #[(.int .u64 (num B 24 8)),(.slice q E.length cs)] 41)).cell? ⟨rb,0,.none⟩=some (.slice (some ⟨b,o,.none⟩) n c)∧(U.alloc (.cells #[(.int .u64 (num B 24 8)),(.slice q E.length cs)] 41)).cell? ⟨rb,1,.none⟩=some (.slice q E.length cs):=⟨⟨(HLc.out.below bA).h0 7 (by omega),(HLc.out.below bA).h1 7 (by omega),(HLc.out.below bA).h2 7 (by omega)⟩,(HR.out.below bA).fil.f0,(HR.out.below bA).c1⟩
      go_simp
      refine hK.out _ _ kA (fun hHeld=>?_)
      clear hK K
      try simp only[xX]
      refine wpAnyH_done (by kernel_rfl) ?_ _
      clear hHeld
      go_wp2_with fail
      go_meet
      case rel=>exact⟨_,rfl,by simp,by simp,bA⟩
     ·
      go_simp
      have bZ:Below Wd.heap.size Wd (Wd.drew.alloc (.cells #[.int .u64 0,.slice .none 0 0] 41)):=bd.alloc bd.size _
      have kZ:((Wd.drew.alloc (.cells #[.int .u64 0,.slice .none 0 0] 41)).cell? ⟨0,21,.none⟩=some (.int .i64 24)∧(Wd.drew.alloc (.cells #[.int .u64 0,.slice .none 0 0] 41)).cell? ⟨0,22,.none⟩=some (.int .i64 8)∧(Wd.drew.alloc (.cells #[.int .u64 0,.slice .none 0 0] 41)).cell? ⟨0,23,.none⟩=some (.int .u64 0))∧(Wd.drew.alloc (.cells #[.int .u64 0,.slice .none 0 0] 41)).cell? ⟨rb,0,.none⟩=some (.slice (some ⟨b,o,.none⟩) n c)∧(Wd.drew.alloc (.cells #[.int .u64 0,.slice .none 0 0] 41)).cell? ⟨rb,1,.none⟩=some (.slice q E.length cs):=⟨⟨(HLc.out.below bZ).h0 7 (by omega),(HLc.out.below bZ).h1 7 (by omega),(HLc.out.below bZ).h2 7 (by omega)⟩,(HR.out.below bZ).fil.f0,(HR.out.below bZ).c1⟩
      have y0:(Wd.drew.alloc (.cells #[.int .u64 0,.slice .none 0 0] 41)).cell? ⟨Wd.heap.size,0,.none⟩=some (.int .u64 0):=World.cell?_alloc_at _ _ _ _ rfl
      have y1:(Wd.drew.alloc (.cells #[.int .u64 0,.slice .none 0 0] 41)).cell? ⟨Wd.heap.size,1,.none⟩=some (.slice .none 0 0):=World.cell?_alloc_at _ _ _ _ rfl
      have z0:(Wd.drew.alloc (.cells #[.int .u64 0,.slice .none 0 0] 41)).frozen? ⟨Wd.heap.size,0,.none⟩=false:=World.frozen?_alloc_new Wd.drew _ _ _
      have z1:(Wd.drew.alloc (.cells #[.int .u64 0,.slice .none 0 0] 41)).frozen? ⟨Wd.heap.size,1,.none⟩=false:=World.frozen?_alloc_new Wd.drew _ _ _
      refine hK.out _ _ kZ (fun hHeld=>?_)
      clear hK K
      try simp only[xX]
      refine zR 6 rfl (fun K hK=>?_)
      go_simp
      go_at_call 176
      refine(in_any b o n c 24 8 0 B _ (by omega) HR.out.fil.nc.1 HR.out.fil.nc.2 (by omega) (by omega) HR.out.fil.bd (HR.out.below bZ).fil.row).mono ?_
      rintro e U ⟨rfl,hbU⟩
      have bU:Below Wd.heap.size Wd U:=(bZ).trans (hbU.mono (bZ).size)
      have kU:(U.cell? ⟨0,21,.none⟩=some (.int .i64 24)∧U.cell? ⟨0,22,.none⟩=some (.int .i64 8)∧U.cell? ⟨0,23,.none⟩=some (.int .u64 0))∧U.cell? ⟨rb,0,.none⟩=some (.slice (some ⟨b,o,.none⟩) n c)∧U.cell? ⟨rb,1,.none⟩=some (.slice q E.length cs):=⟨⟨(HLc.out.below bU).h0 7 (by omega),(HLc.out.below bU).h1 7 (by omega),(HLc.out.below bU).h2 7 (by omega)⟩,(HR.out.below bU).fil.f0,(HR.out.below bU).c1⟩
      refine hK.out _ _ kU (fun hHeld=>?_)
      clear hK K
      try simp only[xX]
      refine aT 11 (.agg #[(.int .u64 (num B 24 8)),(.slice q E.length cs)]) rfl ?_
      simp only[xX]
      refine zR 13 rfl (fun K hK=>?_)
      have x0:=(hbU.cell (zC y0)).trans y0
      have x1:=(hbU.cell (zC y1)).trans y1
      have v0:=(hbU.frozen (zC y0)).trans z0
      have v1:=(hbU.frozen (zC y1)).trans z1
      have bF:Below Wd.heap.size Wd ((U.setCell ⟨Wd.heap.size,0,.none⟩ (.int .u64 (num B 24 8))).setCell ⟨Wd.heap.size,1,.none⟩ (.slice q E.length cs)):=(bU.setCell (p:=⟨Wd.heap.size,0,.none⟩) zL _).setCell (p:=⟨Wd.heap.size,1,.none⟩) zL _
      have kF:(((U.setCell ⟨Wd.heap.size,0,.none⟩ (.int .u64 (num B 24 8))).setCell ⟨Wd.heap.size,1,.none⟩ (.slice q E.length cs)).cell? ⟨0,21,.none⟩=some (.int .i64 24)∧((U.setCell ⟨Wd.heap.size,0,.none⟩ (.int .u64 (num B 24 8))).setCell ⟨Wd.heap.size,1,.none⟩ (.slice q E.length cs)).cell? ⟨0,22,.none⟩=some (.int .i64 8)∧((U.setCell ⟨Wd.heap.size,0,.none⟩ (.int .u64 (num B 24 8))).setCell ⟨Wd.heap.size,1,.none⟩ (.slice q E.length cs)).cell? ⟨0,23,.none⟩=some (.int .u64 0))∧((U.setCell ⟨Wd.heap.size,0,.none⟩ (.int .u64 (num B 24 8))).setCell ⟨Wd.heap.size,1,.none⟩ (.slice q E.length cs)).cell? ⟨rb,0,.none⟩=some (.slice (some ⟨b,o,.none⟩) n c)∧((U.setCell ⟨Wd.heap.size,0,.none⟩ (.int .u64 (num B 24 8))).setCell ⟨Wd.heap.size,1,.none⟩ (.slice q E.length cs)).cell? ⟨rb,1,.none⟩=some (.slice q E.length cs):=⟨⟨(HLc.out.below bF).h0 7 (by omega),(HLc.out.below bF).h1 7 (by omega),(HLc.out.below bF).h2 7 (by omega)⟩,(HR.out.below bF).fil.f0,(HR.out.below bF).c1⟩
      have w0c:((U.setCell ⟨Wd.heap.size,0,.none⟩ (.int .u64 (num B 24 8))).setCell ⟨Wd.heap.size,1,.none⟩ (.slice q E.length cs)).cell? ⟨Wd.heap.size,0,.none⟩=some (.int .u64 (num B 24 8)):=by rw[zO (by simp)];exact World.cell?_setCell_same' _ _ _ (by rw[x0];rfl)
      have w1c:((U.setCell ⟨Wd.heap.size,0,.none⟩ (.int .u64 (num B 24 8))).setCell ⟨Wd.heap.size,1,.none⟩ (.slice q E.length cs)).cell? ⟨Wd.heap.size,1,.none⟩=some (.slice q E.length cs):=World.cell?_setCell_same' _ _ _ (by rw[zO (by simp),x1];rfl)
      go_simp
      refine hK.out _ _ kF (fun hHeld=>?_)
      clear hK K
      try simp only[xX]
      refine wpAnyH_done (by kernel_rfl) ?_ _
      clear hHeld
      go_wp2_with fail
      go_meet
      case rel=>exact⟨_,rfl,w0c,w1c,bF⟩
    case rest=>
     obtain⟨x,rfl,HX⟩:=hcut
     have x0:=HX.out.1
     have x1:=HX.out.2.1
     have HR5:Hid (Rdr W0 wc rb rs b o n c B E (.slice q E.length cs)):=HR.out.below HX.out.2.2
     have c29:=hasEntry_any HR5.out.sg HR5.out.ln (num B 24 8) (by have:=num_bd B HR5.out.fil.bd 24 8;rw[pow8] at this;exact this)
     cases hh:hasE (E.map (·.1)) (num B 24 8) with
     |false=>
      rw[hh] at c29
      go_wp2_with fail
      refine c29.mono ?_
      rintro e V ⟨rfl,hbV⟩
      have t7:V.cell? ⟨0,21,.none⟩=some (.int .i64 24):=(HL0.out.below (HR5.out.be.trans (hbV.mono HR5.out.be.size))).h0 7 (by omega)
      go_wp2_with (first|(go_at_call 175;refine(giveUp_any _ _ _).mono ?_;intro e w0 hu;obtain⟨v,rfl,hu2⟩:=id hu)|fail)
      have e1:=HF2.out
      rw[if_neg h0,if_pos hh] at e1
      refine⟨rfl,.inl ?_⟩
      rw[e1]
      exact⟨by simp,hu.x (HR5.out.be.trans (hbV.mono HR5.out.be.size))⟩
     |true=>
      rw[hh] at c29
      go_wp2_with fail
      refine c29.mono ?_
      rintro e V ⟨rfl,hbV⟩
      have HR6:Hid (Rdr W0 V rb rs b o n c B E (.slice q E.length cs)):=HR5.out.below hbV
      have v0:=(hbV.cell (zC x0)).trans x0
      have v1:=(hbV.cell (zC x1)).trans x1
      have r0:V.cell? ⟨rs,0,.none⟩=some (.int .u64 0):=by simp[World.cell?,HR6.out.pr]
      have r1:V.cell? ⟨rs,1,.none⟩=some (.slice .none 0 0):=by simp[World.cell?,HR6.out.pr]
      have f0:V.frozen? ⟨rs,0,.none⟩=false:=by simp[World.frozen?,HR6.out.pr]
      have f1:V.frozen? ⟨rs,1,.none⟩=false:=by simp[World.frozen?,HR6.out.pr]
      clear x0 x1 hbV
      go_wp2_with fail
      have s0:((V.setCell ⟨rs,0,.none⟩ (.int .u64 (num B 24 8))).setCell ⟨rs,1,.none⟩ (.slice q E.length cs)).cell? ⟨rs,0,.none⟩=some (.int .u64 (num B 24 8)):=by
       rw[zO (by simp)]
       exact World.cell?_setCell_same' _ _ _ (by rw[r0];rfl)
      have s1:((V.setCell ⟨rs,0,.none⟩ (.int .u64 (num B 24 8))).setCell ⟨rs,1,.none⟩ (.slice q E.length cs)).cell? ⟨rs,1,.none⟩=some (.slice q E.length cs):=World.cell?_setCell_same' _ _ _ (by rw[zO (by simp),r1];rfl)
      have hge:W0.heap.size<=rs:=by have h8:=HR6.out.x0;have h9:=HR6.out.pn;omega
      have hB9:Below W0.heap.size W0 ((V.setCell ⟨rs,0,.none⟩ (.int .u64 (num B 24 8))).setCell ⟨rs,1,.none⟩ (.slice q E.length cs)):=(HR6.out.be.setCell (p:=⟨rs,0,.none⟩) hge _).setCell (p:=⟨rs,1,.none⟩) hge _
      have hS9:Segs ((V.setCell ⟨rs,0,.none⟩ (.int .u64 (num B 24 8))).setCell ⟨rs,1,.none⟩ (.slice q E.length cs)) (rb+1) (.slice q E.length cs) E B:=HR6.out.sg.other HR6.out.pr (fun k hk=>(Below.heap_setCell _ _ _ _ hk).trans (Below.heap_setCell _ _ _ _ hk))
      have e1:=HF2.out
      rw[if_neg h0,if_neg (by rw[hh];decide)] at e1
      generalize ((V.setCell ⟨rs,0,.none⟩ (.int .u64 (num B 24 8))).setCell ⟨rs,1,.none⟩ (.slice q E.length cs))=W9 at *
      have hl9:rs<W9.heap.size:=zC (x:=⟨rs,0,.none⟩) s0
      refine bodyPost_ret (v:=.agg #[.int .u64 (num B 24 8),.slice q E.length cs]) (by simp[results,Tryz.results137,go_sem,s0,s1,hl9]) rfl ?_
      refine .inr ?_
      rw[e1]
      exact⟨rfl,_,E,rfl,rfl,hS9,HR6.out.ln,hB9⟩
end
namespace Rm
open Go.RowKit
structure Fra (p b m:Nat) (w w':World):Prop where
 os:w'.os=w.os
 tape:w'.tape=w.tape
 output:w'.output=w.output
 size:w.heap.size<=w'.heap.size
 block:∀ k,k<w.heap.size->k≠p->k≠b->k≠m->w'.heap[k]? = w.heap[k]?
theorem Fra.refl (p b m:Nat) (w:World):Fra p b m w w:=⟨rfl,rfl,rfl,Nat.le_refl _,fun _ _ _ _ _=>rfl⟩
theorem Fra.trans {p b m:Nat} {u v w:World} (h:Fra p b m u v) (k:Fra p b m v w):Fra p b m u w:=
 ⟨k.os.trans h.os,k.tape.trans h.tape,k.output.trans h.output,Nat.le_trans h.size k.size,fun i hi a c d=>(k.block i (Nat.lt_of_lt_of_le hi h.size) a c d).trans (h.block i hi a c d)⟩
theorem Fra.below {p b m:Nat} {w w':World} (h:Below w.heap.size w w'):Fra p b m w w':=⟨h.os,h.tape,h.output,h.size,fun k hk _ _ _=>h.block k hk⟩
theorem Fra.alloc {p b m:Nat} {w w':World} (h:Fra p b m w w') (o:Obj):Fra p b m w (w'.alloc o):=h.trans (Fra.below (zB.alloc zL _))
theorem Fra.drewN {p b m:Nat} {w w':World} (h:Fra p b m w w') (n:Nat):Fra p b m w (w'.drewN n):=h.trans ⟨rfl,rfl,rfl,Nat.le_refl _,fun _ _ _ _ _=>rfl⟩
theorem Fra.setCell {p b m:Nat} {w w':World} (h:Fra p b m w w') (a:Addr) (v:Value) (ha:a.block=p∨a.block=b):Fra p b m w (w'.setCell a v):=by
 have g:Below 0 w' (w'.setCell a v):=zB.setCell (Nat.zero_le _) _
 refine h.trans ⟨g.os,g.tape,g.output,g.size,fun k hk h1 h2 h3=>Below.heap_setCell _ _ _ _ ?_⟩
 rcases ha with e|e<;>rw[e]<;>assumption
theorem Fra.setCells {p b m:Nat} {w w':World} (h:Fra p b m w w'):∀ (o:Nat) (vs:List Value),Fra p b m w (w'.setCells b o vs):=by
 intro o vs
 induction vs generalizing o w' with
 |nil=>exact h
 |cons v vs ih=>exact ih (h.setCell ⟨b,o,.none⟩ v (.inr rfl)) (o+1)
theorem Fra.turned {p b m:Nat} {w w' w'':World} (h:Fra p b m w w') (t:w'.mapTurned w'' m):Fra p b m w w'':=by
 have g:=t.grown
 exact h.trans ⟨g.os,g.tape,g.output,g.size,fun k hk _ _ h3=>g.block k hk (by simpa using h3)⟩
theorem Fra.cell {p b m:Nat} {w w':World} (h:Fra p b m w w') {x:Addr} (hx:x.block<w.heap.size) (h1:x.block≠p) (h2:x.block≠b) (h3:x.block≠m):w'.cell? x=w.cell? x:=by
 simp only[World.cell?,h.block _ hx h1 h2 h3]
theorem Fra.frozen {p b m:Nat} {w w':World} (h:Fra p b m w w') {x:Addr} (hx:x.block<w.heap.size) (h1:x.block≠p) (h2:x.block≠b) (h3:x.block≠m):w'.frozen? x=w.frozen? x:=by
 simp only[World.frozen?,h.block _ hx h1 h2 h3]
theorem Fra.toBelow {p b m B:Nat} {w w':World} (h:Fra p b m w w') (hB:B<=w.heap.size) (h1:B<=p) (h2:B<=b) (h3:B<=m):Below B w w':=
 ⟨h.os,h.tape,h.output,h.size,fun k hk=>h.block k (by omega) (by omega) (by omega) (by omega)⟩
structure Mem (w:World) (p b m N:Nat) (B:Nat->Int) (nx:Int) (hd:Int->Bool) (cnt:Nat):Prop where
 c0:w.cell? ⟨p,0,.none⟩=some (.slice (some ⟨b,0,.none⟩) (4096*N) (4096*N))
 c1:w.cell? ⟨p,1,.none⟩=some (.int .u64 nx)
 c2:w.cell? ⟨p,2,.none⟩=some (.map (some m))
 f1:w.frozen? ⟨p,1,.none⟩=false
 cb:∀ i,i<4096*N->w.cell? ⟨b,i,.none⟩=some (.int .u8 (B i))
 fb:∀ i,i<4096*N->w.frozen? ⟨b,i,.none⟩=false
 hm:∃ D:DataW Unit,w.ownsMap Tryz.prog 23 unitElem m (Maps.size D) D∧(∀ a:Int,0<=a->a<18446744073709551616->Maps.has D (.int .u64 a)=hd a)∧Maps.size D=cnt
 n1:1<=N
 n2:N<=4096
 bb:∀ i,0<=B i∧B i<256
 nb:0<=nx∧nx<18446744073709551616
section
variable {w:World} {p b m N cnt:Nat} {B:Nat->Int} {nx:Int} {hd:Int->Bool}
theorem Mem.pb (h:Mem w p b m N B nx hd cnt):p≠b:=by
 intro e
 subst e
 have:=h.cb 0 (by have:=h.n1;omega)
 rw[h.c0] at this
 cases this
theorem Mem.mp (h:Mem w p b m N B nx hd cnt):m≠p:=by
 intro e
 subst e
 obtain⟨D,⟨es,cl,hb,_⟩,_⟩:=h.hm
 have:=h.c0
 simp[World.cell?,hb] at this
theorem Mem.mb (h:Mem w p b m N B nx hd cnt):m≠b:=by
 intro e
 subst e
 obtain⟨D,⟨es,cl,hb,_⟩,_⟩:=h.hm
 have:=h.cb 0 (by have:=h.n1;omega)
 simp[World.cell?,hb] at this
theorem zC {w:World} {x:Addr} {v:Value} (h:w.cell? x=some v):x.block<w.heap.size:=by
 by_cases hx:x.block<w.heap.size
 ·exact hx
 ·simp[World.cell?,Array.getElem?_eq_none (Nat.le_of_not_lt hx)] at h
theorem Mem.plt (h:Mem w p b m N B nx hd cnt):p<w.heap.size:=zC h.c0
theorem Mem.blt (h:Mem w p b m N B nx hd cnt):b<w.heap.size:=zC (h.cb 0 (by have:=h.n1;omega))
theorem Mem.mlt (h:Mem w p b m N B nx hd cnt):m<w.heap.size:=by
 obtain⟨D,hD,_⟩:=h.hm
 exact hD.lt
theorem Mem.keep (h:Mem w p b m N B nx hd cnt) {w':World} (hp:w'.heap[p]? = w.heap[p]?) (hb:w'.heap[b]? = w.heap[b]?) (hm:w'.heap[m]? = w.heap[m]?):Mem w' p b m N B nx hd cnt:=by
 have cp:∀ i,w'.cell? ⟨p,i,.none⟩=w.cell? ⟨p,i,.none⟩:=fun i=>by simp only[World.cell?,hp]
 have fp:∀ i,w'.frozen? ⟨p,i,.none⟩=w.frozen? ⟨p,i,.none⟩:=fun i=>by simp only[World.frozen?,hp]
 have cb:∀ i,w'.cell? ⟨b,i,.none⟩=w.cell? ⟨b,i,.none⟩:=fun i=>by simp only[World.cell?,hb]
 have fb:∀ i,w'.frozen? ⟨b,i,.none⟩=w.frozen? ⟨b,i,.none⟩:=fun i=>by simp only[World.frozen?,hb]
 obtain⟨D,⟨es,cl,hes,r⟩,r2⟩:=h.hm
 exact⟨(cp 0).trans h.c0,(cp 1).trans h.c1,(cp 2).trans h.c2,(fp 1).trans h.f1,fun i hi=>(cb i).trans (h.cb i hi),fun i hi=>(fb i).trans (h.fb i hi),⟨D,⟨es,cl,hm.trans hes,r⟩,r2⟩,h.n1,h.n2,h.bb,h.nb⟩
theorem Mem.below (h:Mem w p b m N B nx hd cnt) {w':World} (k:Below w.heap.size w w'):Mem w' p b m N B nx hd cnt:=h.keep (k.block _ h.plt) (k.block _ h.blt) (k.block _ h.mlt)
theorem Mem.drewN (h:Mem w p b m N B nx hd cnt) (n:Nat):Mem (w.drewN n) p b m N B nx hd cnt:=h.keep rfl rfl rfl
theorem Mem.setOther (h:Mem w p b m N B nx hd cnt) {a:Addr} (h1:p≠a.block) (h2:b≠a.block) (h3:m≠a.block) (v:Value):Mem (w.setCell a v) p b m N B nx hd cnt:=
 h.keep (Below.heap_setCell _ _ _ _ h1) (Below.heap_setCell _ _ _ _ h2) (Below.heap_setCell _ _ _ _ h3)
theorem Mem.setNext (h:Mem w p b m N B nx hd cnt) (v:Int) (hv:0<=v∧v<18446744073709551616):Mem (w.setCell ⟨p,1,.none⟩ (.int .u64 v)) p b m N B v hd cnt:=by
 have hb:(w.setCell ⟨p,1,.none⟩ (.int .u64 v)).heap[b]? = w.heap[b]?:=Below.heap_setCell _ _ _ _ (fun e=>h.pb e.symm)
 have cb:∀ i,(w.setCell ⟨p,1,.none⟩ (.int .u64 v)).cell? ⟨b,i,.none⟩=w.cell? ⟨b,i,.none⟩:=fun i=>by simp only[World.cell?,hb]
 obtain⟨D,hD,r⟩:=h.hm
 refine⟨?_,?_,?_,?_,fun i hi=>(cb i).trans (h.cb i hi),fun i hi=>by rw[World.frozen?_setCell];exact h.fb i hi,⟨D,hD.setCell (a:=⟨p,1,.none⟩) h.mp _,r⟩,h.n1,h.n2,h.bb,hv⟩
 ·rw[zO (by simp)];exact h.c0
 ·exact World.cell?_setCell_same' _ _ _ (by rw[h.c1];rfl)
 ·rw[zO (by simp)];exact h.c2
 ·rw[World.frozen?_setCell];exact h.f1
def over (B:Nat->Int) (o:Nat) (vs:List Int):Nat->Int:=fun i=>if o<=i∧i<o+vs.length then vs.getD (i-o) 0 else B i
theorem Mem.setCells (h:Mem w p b m N B nx hd cnt) (o:Nat) (vs:List Int) (ho:o+vs.length<=4096*N) (hv:∀ v∈vs,0<=v∧v<256) :
  Mem (w.setCells b o (vs.map (.int .u8))) p b m N (over B o vs) nx hd cnt:=by
 have F:=(Fra.refl p b m w).setCells o (vs.map (.int .u8))
 have out:∀ x:Addr,x.block≠b->(w.setCells b o (vs.map (.int .u8))).cell? x=w.cell? x:=fun x hx=>World.cell?_setCells_out b _ o w x (fun e=>absurd e hx)
 obtain⟨D,⟨es,cl,hes,r1⟩,r⟩:=h.hm
 have hm:(w.setCells b o (vs.map (.int .u8))).heap[m]? = w.heap[m]?:=by
  clear F out r1 r hes
  have key:∀ (us:List Value) (o:Nat) (w:World),(w.setCells b o us).heap[m]? = w.heap[m]?:=by
   intro us
   induction us with
   |nil=>intro o w;rfl
   |cons u us ih=>intro o w;exact(ih (o+1) _).trans (Below.heap_setCell _ _ _ _ h.mb)
  exact key _ o w
 refine⟨(out _ h.pb).trans h.c0,(out _ h.pb).trans h.c1,(out _ h.pb).trans h.c2,(World.frozen?_setCells b _ o w _).trans h.f1,?_,fun i hi=>(World.frozen?_setCells b _ o w _).trans (h.fb i hi),⟨D,⟨es,cl,hm.trans hes,r1⟩,r⟩,h.n1,h.n2,?_,h.nb⟩
 ·intro i hi
  unfold over
  split
  ·rename_i hc
   have e:o+(i-o)=i:=by omega
   have:=World.cell?_setCells_in b (vs.map (.int .u8)) o w (fun j hj=>by rw[h.cb (o+j) (by simp at hj;omega)];rfl) (i-o) (by simp;omega)
   rw[e] at this
   rw[this]
   have e1:i-o<vs.length:=by omega
   simp[List.getElem?_eq_getElem e1]
  ·rename_i hc
   rw[World.cell?_setCells_out b _ o w ⟨b,i,.none⟩ (fun _ _=>by simp;omega)]
   exact h.cb i hi
 ·intro i
  unfold over
  split
  ·rename_i hc
   have e1:i-o<vs.length:=by omega
   rw[List.getD_eq_getElem?_getD,List.getElem?_eq_getElem e1]
   exact hv _ (List.getElem_mem e1)
  ·exact h.bb i
end
end Rm
end Go.Proofs.YtabnipbdbnmmpaaGreatDoor
