import Derived.Test.YtabnipbdbnmmpaaGreatDoorLd01
import Derived.Test.YtabnipbdbnmmpaaGreatDoorLd22
import Derived.Test.YtabnipbdbnmmpaaGreatDoorLd19
import Derived.Laws.MakeOwn
import Derived.Test.YtabnipbdbnmmpaaGreatDoorLd13
set_option linter.unusedVariables false
set_option linter.unusedSimpArgs false
set_option maxHeartbeats 8000000
namespace Go.Proofs.YtabnipbdbnmmpaaGreatDoor
section
open Go.RowKit
def enO (n:Nat) (B:Nat->Int) (ha hr:Int):Int:=if (rdF n B ha hr).1.2≠0 then 0 else num B 24 8
def sgO (n:Nat) (B:Nat->Int) (ha hr:Int):List Sg:=if (rdF n B ha hr).1.2≠0 then [] else (rdF n B ha hr).2
def PO (W:World) (n:Nat) (B:Nat->Int) (ha hr:Int) (e:Ending) (w':World):Prop:=∃ q cs E v,e = .returned (.tuple #[.agg #[.int .u64 (enO n B ha hr),.slice q E.length cs],v])∧E.map (·.1)=sgO n B ha hr∧Segs w' W.heap.size (.slice q E.length cs) E B∧E.length<=8∧(((rdF n B ha hr).1.2≠0∧FaultIn w' 0 v (rdF n B ha hr).1.1 (rdF n B ha hr).1.2)∨((rdF n B ha hr).1.2=0∧v = .nilIface))∧Below W.heap.size W w'
def QO (W:World) (n:Nat) (B:Nat->Int) (ha hr:Int) (e:Ending) (w':World):Prop:=∃ q cs E gp gn gc,e = .returned (.tuple #[.agg #[.int .u64 (enO n B ha hr),.slice q E.length cs],.agg #[.slice gp gn gc,.int .i64 (rdF n B ha hr).1.2]])∧E.map (·.1)=sgO n B ha hr∧Segs w' W.heap.size (.slice q E.length cs) E B∧E.length<=8∧RefR w' (.agg #[.slice gp gn gc,.int .i64 (rdF n B ha hr).1.2]) (rdF n B ha hr).1.1 (rdF n B ha hr).1.2∧Below W.heap.size W w'
theorem segs_nil (w:World) (X:Nat) (B:Nat->Int):Segs w X (.slice .none 0 0) [] B:=⟨World.ownsRow_nil _ _ _ _,fun x hx=>by simp at hx,fun x hx=>by simp at hx⟩
theorem readP {W:World} {b o n c:Nat} {B:Nat->Int} (hL:Laid W) (hrow:Row W b o n B) (hbW:b<W.heap.size) (hB:∀ i,0<=B i∧B i<256) (hc:n<=c∧c<=9223372036854775807) (ha hr:Int) (hH:Hd B ha hr):Calls Tryz.prog 85 #[.slice (some ⟨b,o,.none⟩) n c] W fun e w'=>PO W n B ha hr e w':=by
 refine(read_any hL hrow hbW hB hc ha hr hH).mono fun e w' h=>?_
 rcases h with⟨h1,v,rfl,hf,hb⟩|⟨h1,sv,E,rfl,hE,hS,hl,hb⟩
 ·exact⟨none,0,[],v,by unfold enO;rw[if_pos h1];rfl,by unfold sgO;rw[if_pos h1];rfl,segs_nil _ _ _,by simp,.inl ⟨h1,hf⟩,hb⟩
 ·obtain⟨q,cs,rfl,_⟩:=own_form hS.own
  exact⟨q,cs,E,_,by unfold enO;rw[if_neg (by simpa using h1)],by unfold sgO;rw[if_neg (by simpa using h1)];exact hE,hS,hl,.inr ⟨h1,rfl⟩,hb⟩
theorem readR {W:World} {p:Option Addr} {b o n c:Nat} {B:Nat->Int} (hp:64<=n->p=some ⟨b,o,.none⟩) (hrow:Row W b o n B) (hB:∀ i,0<=B i∧B i<256) (hc:n<=c∧c<=9223372036854775807) (hn3:n<=400000) (ha hr:Int) (hH:Hd B ha hr):Calls Tryz.prog 64 #[.slice p n c] W fun e w'=>QO W n B ha hr e w':=by
 refine(readQ_any hp hrow hB hc hn3 ha hr hH).mono fun e w' h=>?_
 rcases h with⟨h1,g,rfl,hf,hb⟩|⟨h1,sv,E,rfl,hE,hS,hl,hb⟩
 ·have hR:RefR w' g (rdF n B ha hr).1.1 (rdF n B ha hr).1.2:=.inl ⟨h1,hf⟩
  obtain⟨gp,gn,gc,rfl⟩:=hR.form
  exact⟨none,0,[],gp,gn,gc,by unfold enO;rw[if_pos h1];rfl,by unfold sgO;rw[if_pos h1];rfl,segs_nil _ _ _,by simp,hR,hb⟩
 ·obtain⟨q,cs,rfl,_⟩:=own_form hS.own
  exact⟨q,cs,E,none,0,0,by unfold enO;rw[if_neg (by simpa using h1),h1],by unfold sgO;rw[if_neg (by simpa using h1)];exact hE,hS,hl,by rw[h1];exact .inr ⟨rfl,rfl⟩,hb⟩
theorem hd_ex (B:Nat->Int):∃ a r,Hd B a r:=by
 by_cases h:∀ i,i<12->chk B i
 ·exact⟨0,0,.inl ⟨rfl,rfl,h⟩⟩
 ·have:∃ i,i<12∧¬ chk B i:=by
   by_cases h2:∃ i,i<12∧¬ chk B i
   ·exact h2
   ·exact absurd (fun i hi=>by
     by_cases h3:chk B i
     ·exact h3
     ·exact absurd ⟨i,hi,h3⟩ h2) h
  obtain⟨m,hm⟩:=this
  have key:∀ k,(∀ j,j<k->chk B j)∨∃ i,i<k∧(∀ j,j<i->chk B j)∧¬ chk B i:=by
   intro k
   induction k with
   |zero=>exact .inl (fun j hj=>by omega)
   |succ k ih=>
    rcases ih with ih|⟨i,h1,h2,h3⟩
    ·by_cases hk:chk B k
     ·exact .inl (fun j hj=>by
       by_cases e:j=k
       ·subst e;exact hk
       ·exact ih j (by omega))
     ·exact .inr ⟨k,by omega,ih,hk⟩
    ·exact .inr ⟨i,by omega,h2,h3⟩
  rcases key 12 with h4|⟨i,h1,h2,h3⟩
  ·exact absurd (h4 m hm.1) hm.2
  ·exact⟨hOf i,if i<4 then 141 else 142,.inr ⟨i,h1,h2,h3,rfl,rfl⟩⟩
theorem Segs.low {w:World} {X:Nat} {sv:Value} {E:List (Sg×Value)} {B:Nat->Int} (h:Segs w X sv E B) {a:Addr} (ha:a.block<X) (v:Value):Segs (w.setCell a v) X sv E B:=
 ⟨ownsRow_setCell_below h.own ha v,fun x hx=>ownsRow_setCell_below (h.dat x hx) ha v,h.gd⟩
theorem lent_row {w:World} {X g c:Nat} {xs:List Int} (h:Lent w X g c xs):Row w g 0 xs.length (fun i=>xs.getD i 0):=by
 intro i hi
 have e:(by8 (xs ++ marks))[i]? = some (.int .u8 (xs.getD i 0)):=by
  simp only[by8,List.getElem?_map]
  rw[List.getElem?_append_left hi,List.getD_eq_getElem?_getD,List.getElem?_eq_getElem hi]
  rfl
 obtain⟨g',e',c'⟩:=own_cell h e (by omega) (by omega)
 injection e' with e'
 injection e' with e'
 subst e'
 rw[Nat.zero_add]
 exact c'
theorem byt_row {w:World} {p:Option Addr} {n c:Nat} {xs:List Int} (h:Byt w p n c xs):∃ b o,Row w b o n (fun i=>xs.getD i 0)∧(0<n->p=some ⟨b,o,.none⟩):=by
 obtain⟨h1,h2,h3,h4⟩:=h
 rcases h4 with h4|⟨b,o,h5,h6,h7⟩
 ·exact⟨0,0,fun i hi=>by omega,fun hn=>by omega⟩
 ·refine⟨b,o,fun i hi=>h7 i _ ?_,fun _=>h5⟩
  show xs[i]? = some (xs.getD i 0)
  rw[List.getD_eq_getElem?_getD,List.getElem?_eq_getElem (by omega)]
  rfl
end
section
open Go.RowKit Go.Shelf
def dmE (r:Int) (xs:List Bs):Int:=if r≠0 then 280 else if 32<xs.length then 281 else if xs.any hz then 282 else if rm xs=false then 283 else 0
def dmN (r e:Int) (xs:List Bs):Int:=if dmE r xs≠0 then 0 else e+6+(e+513)/512
structure Arg (w:World) (p:Option Addr) (n c:Nat) (xs:List Bs):Prop where
 tex:Tex w p n c xs
 few:n<100
 len:∀ x∈xs,x.length<=400000
theorem Arg.below {w w':World} {p:Option Addr} {n c:Nat} {xs:List Bs} (h:Arg w p n c xs) (hb:Below w.heap.size w w'):Arg w' p n c xs:=⟨h.tex.below hb,h.few,h.len⟩
def PlP (w:World) (r:Int) (S:List Sg) (xs:List Bs) (en0:Int) (B0:Nat->Int) (en:Ending) (w':World):Prop:=
 Below w.heap.size w w'∧((dmE r xs≠0∧en = .returned (.tuple #[.agg #[.int .u64 0,.slice .none 0 0,.slice .none 0 0,.int .u64 0],.int .i64 (dmE r xs)])) ∨
  (dmE r xs=0∧∃ X q cs E B et pq pn pc sp,en = .returned (.tuple #[.agg #[.int .u64 et,.slice q E.length cs,.slice pq pn pc,.int .u64 sp],.int .i64 0])∧Segs w' X (.slice q E.length cs) E B∧E ≠ []∧E.length<=8∧E.map (·.1)=S∧w.heap.size<=X∧PgB w w' pq pn pc ((ePg S+1)*4096) xs sp∧(∀ i,0<=B i∧B i<256)∧et=en0∧B=B0))
theorem rd_some {n:Nat} {B:Nat->Int} {ha hr:Int} (h:(rdF n B ha hr).1.2=0) (hH:Hd B ha hr):(rdF n B ha hr).2 ≠ []:=by
 unfold rdF at *
 split at h
 ·simp at h
 split at h
 ·simp at h
 split at h
 ·rename_i h3
  exact absurd h h3
 split at h
 ·simp at h
 split at h
 ·simp at h
 split at h
 ·rename_i h3
  exact absurd h h3
 split at h
 ·simp at h
 split at h
 ·simp at h
 ·rename_i h1 h2 h3 h4 h5 h6 h7 h8
  rw[if_neg h1,if_neg h2,if_neg h3,if_neg h4,if_neg h5,if_neg h6,if_neg h7,if_neg h8]
  intro e
  have e:(lp n B (cntB B) (froB B) []).2 = []:=e
  exact h7 (by rw[e];rfl)
theorem dm_file {r:Int} {xs:List Bs} (h:r≠0):dmE r xs=280:=by simp[dmE,h]
theorem dm_args {r:Int} {xs:List Bs} (h:r=0) (h1:32<xs.length):dmE r xs=281:=by simp[dmE,h,h1]
theorem dm_arg {r:Int} {xs:List Bs} (h:r=0) (h1:xs.length<=32) (h2:xs.any hz=true):dmE r xs=282:=by
 unfold dmE
 rw[if_neg (by omega),if_neg (by omega),if_pos h2]
theorem dm_stack {r:Int} {xs:List Bs} (h:r=0) (h1:xs.length<=32) (h2:xs.any hz=false) (h3:rm xs=false):dmE r xs=283:=by
 unfold dmE
 rw[if_neg (by omega),if_neg (by omega),if_neg (by simp[h2]),if_pos h3]
theorem dm_ok {r:Int} {xs:List Bs} (h:r=0) (h1:xs.length<=32) (h2:xs.any hz=false) (h3:rm xs=true):dmE r xs=0:=by
 unfold dmE
 rw[if_neg (by omega),if_neg (by omega),if_neg (by simp[h2]),if_neg (by simp[h3])]
theorem C4.other {w:World} {x y:Nat} {a b c d:Value} (h:C4 w x a b c d) (hy:x≠y) (k:Nat) (v:Value):C4 (w.setCell ⟨y,k,.none⟩ v) x a b c d:=by
 have hc:∀ i,(w.setCell ⟨y,k,.none⟩ v).cell? ⟨x,i,.none⟩=w.cell? ⟨x,i,.none⟩:=fun i=>zO (by simp only[ne_eq,Addr.mk.injEq,not_and];intro e;omega)
 exact⟨(hc 0).trans h.a,(hc 1).trans h.b,(hc 2).trans h.c,(hc 3).trans h.d,fun i=>by rw[World.frozen?_setCell];exact h.f i⟩
set_option maxRecDepth 10000 in
theorem planOf_any {W:World} {b o fn fc:Nat} {B:Nat->Int} (hL:Laid W) (hrow:Row W b o fn B) (hbW:b<W.heap.size) (hB:∀ i,0<=B i∧B i<256) (hc:fn<=fc∧fc<=9223372036854775807) (ha hr:Int) (hH:Hd B ha hr)
  {p:Option Addr} {n c:Nat} {xs:List Bs} (hA:Arg W p n c xs) :
  Calls Tryz.prog 40 #[.slice (some ⟨b,o,.none⟩) fn fc,.slice p n c] W (PlP W (rdF fn B ha hr).1.2 (sgO fn B ha hr) xs (enO fn B ha hr) B):=by
 obtain⟨W1,hW1⟩:∃ W1,W1=W.alloc (.cells #[.int .u64 0,.slice .none 0 0,.slice .none 0 0,.int .u64 0] 92):=⟨_,rfl⟩
 have b1:Below W.heap.size W W1:=by rw[hW1];exact zB.alloc zL _
 have z1:W1.heap.size=W.heap.size+1:=by rw[hW1];simp
 have k1:C4 W1 W.heap.size (.int .u64 0) (.slice .none 0 0) (.slice .none 0 0) (.int .u64 0):=by
  rw[hW1]
  exact C4.new _ _ _ _ _ _
 have cR:=readP (hL.below b1) (hrow.keep b1) (by omega) hB hc ha hr hH
 obtain⟨r,hr0⟩:∃ r,r=(rdF fn B ha hr).1.2:=⟨_,rfl⟩
 obtain⟨S,hS⟩:∃ S,S=sgO fn B ha hr:=⟨_,rfl⟩
 have hSn:r=0->S ≠ []:=fun h=>by
  rw[hS]
  unfold sgO
  rw[if_neg (by rw[<-hr0,h];simp)]
  exact rd_some (by rw[<-hr0,h]) hH
 have HX:Hid (r=0->S ≠ []):=hSn
 unfold PO at cR
 rw[<-hr0,<-hS] at cR ⊢
 have HW:Hid (Below W.heap.size W W1∧C4 W1 W.heap.size (.int .u64 0) (.slice .none 0 0) (.slice .none 0 0) (.int .u64 0)∧Arg W p n c xs):=⟨b1,k1,hA⟩
 have hlen:xs.length=n:=hA.tex.1
 have hn1:n<=c∧c<=9223372036854775807:=⟨hA.tex.2.1,hA.tex.2.2.1⟩
 have hfew:=hA.few
 have HLn:Hid (xs.length=n):=hlen
 have HBB:Hid (∀ i,0<=B i∧B i<256):=hB
 clear hL hrow hB hH hA b1 k1 hSn hr0 hS hlen
 by_cases h0:r≠0
 ·go_enter Tryz.func40,Tryz.ntmps40
  go_upto_region 1 with fail
  rw[<-hW1]
  clear hW1
  go_upto_region 2 with(go_at_call 85;refine cR.mono ?_;rintro _ w2 ⟨q,cs,E,v,rfl,eS,sg,hl8,hv,b2⟩;obtain⟨fb,rfl⟩:∃ fb,v = .iface 86 (.pointer (some ⟨fb,0,.none⟩)):=(by rcases hv with⟨_,fb,_,_,e,_⟩|⟨h,_⟩;exact⟨fb,e⟩;exact absurd h h0);have H2:Hid (Below W.heap.size W w2∧C4 w2 W.heap.size (.int .u64 0) (.slice .none 0 0) (.slice .none 0 0) (.int .u64 0)∧Segs w2 W1.heap.size (.slice q E.length cs) E B∧E.length<=8∧E.map (·.1)=S):=⟨HW.out.1.trans (b2.mono (by omega)),HW.out.2.1.below b2,sg,hl8,eS⟩;clear eS sg hl8 hv b2 cR)
  obtain⟨w3,hw3⟩:∃ w3,w3=w2.alloc (.cells #[.int .u64 (enO fn B ha hr),.slice q E.length cs] 41):=⟨_,rfl⟩
  have b3:Below w2.heap.size w2 w3:=by rw[hw3];exact zB.alloc zL _
  have p0:w3.cell? ⟨w2.heap.size,0,.none⟩=some (.int .u64 (enO fn B ha hr)):=by rw[hw3];simp
  have p1:w3.cell? ⟨w2.heap.size,1,.none⟩=some (.slice q E.length cs):=by rw[hw3];simp
  have z3:w3.heap.size=w2.heap.size+1:=by rw[hw3];simp
  have H3:Hid (Below W.heap.size W w3∧C4 w3 W.heap.size (.int .u64 0) (.slice .none 0 0) (.slice .none 0 0) (.int .u64 0)∧Segs w3 W1.heap.size (.slice q E.length cs) E B∧E.length<=8∧E.map (·.1)=S):=⟨H2.out.1.trans (b3.mono H2.out.1.size),H2.out.2.1.below b3,H2.out.2.2.1.below b3,H2.out.2.2.2⟩
  have HAr:Hid (Arg w3 p n c xs):=HW.out.2.2.below H3.out.1
  have z2:=H2.out.1.size
  rw[<-hw3]
  clear hw3 b3 H2
  have k0:=H3.out.2.1.a
  have k1:=H3.out.2.1.b
  have k2:=H3.out.2.1.c
  have k3:=H3.out.2.1.d
  have kf0:=H3.out.2.1.f 0
  have kf1:=H3.out.2.1.f 1
  have kf2:=H3.out.2.1.f 2
  have kf3:=H3.out.2.1.f 3
  go_wp2_with fail
  obtain⟨s0,s1,s2,s3,_⟩:=H3.out.2.1.set (.int .u64 0) (.slice .none 0 0) (.slice .none 0 0) (.int .u64 0)
  refine bodyPost_ret (v:=.tuple #[.agg #[.int .u64 0,.slice .none 0 0,.slice .none 0 0,.int .u64 0],.int .i64 280]) (by simp[results,Tryz.results40,go_sem,s0,s1,s2,s3]) rfl ⟨?_,.inl ⟨?_,?_⟩⟩
  ·exact(((H3.out.1.setCell zL _).setCell zL _).setCell zL _).setCell zL _
  ·rw[dm_file h0];decide
  ·rw[dm_file h0]
 have h0:r=0:=by omega
 by_cases h32:32<n
 ·go_enter Tryz.func40,Tryz.ntmps40
  go_upto_region 1 with fail
  rw[<-hW1]
  clear hW1
  go_upto_region 2 with(go_at_call 85;refine cR.mono ?_;rintro _ w2 ⟨q,cs,E,v,rfl,eS,sg,hl8,hv,b2⟩;obtain rfl:v = .nilIface:=(by rcases hv with⟨h,_⟩|⟨_,e⟩;exact absurd h0 h;exact e);have H2:Hid (Below W.heap.size W w2∧C4 w2 W.heap.size (.int .u64 0) (.slice .none 0 0) (.slice .none 0 0) (.int .u64 0)∧Segs w2 W1.heap.size (.slice q E.length cs) E B∧E.length<=8∧E.map (·.1)=S):=⟨HW.out.1.trans (b2.mono (by omega)),HW.out.2.1.below b2,sg,hl8,eS⟩;clear eS sg hl8 hv b2 cR)
  obtain⟨w3,hw3⟩:∃ w3,w3=w2.alloc (.cells #[.int .u64 (enO fn B ha hr),.slice q E.length cs] 41):=⟨_,rfl⟩
  have b3:Below w2.heap.size w2 w3:=by rw[hw3];exact zB.alloc zL _
  have p0:w3.cell? ⟨w2.heap.size,0,.none⟩=some (.int .u64 (enO fn B ha hr)):=by rw[hw3];simp
  have p1:w3.cell? ⟨w2.heap.size,1,.none⟩=some (.slice q E.length cs):=by rw[hw3];simp
  have z3:w3.heap.size=w2.heap.size+1:=by rw[hw3];simp
  have H3:Hid (Below W.heap.size W w3∧C4 w3 W.heap.size (.int .u64 0) (.slice .none 0 0) (.slice .none 0 0) (.int .u64 0)∧Segs w3 W1.heap.size (.slice q E.length cs) E B∧E.length<=8∧E.map (·.1)=S):=⟨H2.out.1.trans (b3.mono H2.out.1.size),H2.out.2.1.below b3,H2.out.2.2.1.below b3,H2.out.2.2.2⟩
  have HAr:Hid (Arg w3 p n c xs):=HW.out.2.2.below H3.out.1
  have z2:=H2.out.1.size
  rw[<-hw3]
  clear hw3 b3 H2
  have k0:=H3.out.2.1.a
  have k1:=H3.out.2.1.b
  have k2:=H3.out.2.1.c
  have k3:=H3.out.2.1.d
  have kf0:=H3.out.2.1.f 0
  have kf1:=H3.out.2.1.f 1
  have kf2:=H3.out.2.1.f 2
  have kf3:=H3.out.2.1.f 3
  have h32':(32:Int)<n:=by omega
  go_wp2_with fail
  obtain⟨s0,s1,s2,s3,_⟩:=H3.out.2.1.set (.int .u64 0) (.slice .none 0 0) (.slice .none 0 0) (.int .u64 0)
  refine bodyPost_ret (v:=.tuple #[.agg #[.int .u64 0,.slice .none 0 0,.slice .none 0 0,.int .u64 0],.int .i64 281]) (by simp[results,Tryz.results40,go_sem,s0,s1,s2,s3]) rfl ⟨?_,.inl ⟨?_,?_⟩⟩
  ·exact(((H3.out.1.setCell zL _).setCell zL _).setCell zL _).setCell zL _
  ·rw[dm_args h0 (by rw[HLn.out];exact h32)];decide
  ·rw[dm_args h0 (by rw[HLn.out];exact h32)]
 have h32':¬ (32:Int)<n:=by omega
 cases hzz:xs.any hz
 case true=>
  have HZ:Hid (xs.any hz=true):=hzz
  clear hzz
  go_enter Tryz.func40,Tryz.ntmps40
  go_upto_region 1 with fail
  rw[<-hW1]
  clear hW1
  go_upto_region 2 with(go_at_call 85;refine cR.mono ?_;rintro _ w2 ⟨q,cs,E,v,rfl,eS,sg,hl8,hv,b2⟩;obtain rfl:v = .nilIface:=(by rcases hv with⟨h,_⟩|⟨_,e⟩;exact absurd h0 h;exact e);have H2:Hid (Below W.heap.size W w2∧C4 w2 W.heap.size (.int .u64 0) (.slice .none 0 0) (.slice .none 0 0) (.int .u64 0)∧Segs w2 W1.heap.size (.slice q E.length cs) E B∧E.length<=8∧E.map (·.1)=S):=⟨HW.out.1.trans (b2.mono (by omega)),HW.out.2.1.below b2,sg,hl8,eS⟩;clear eS sg hl8 hv b2 cR)
  obtain⟨w3,hw3⟩:∃ w3,w3=w2.alloc (.cells #[.int .u64 (enO fn B ha hr),.slice q E.length cs] 41):=⟨_,rfl⟩
  have b3:Below w2.heap.size w2 w3:=by rw[hw3];exact zB.alloc zL _
  have p0:w3.cell? ⟨w2.heap.size,0,.none⟩=some (.int .u64 (enO fn B ha hr)):=by rw[hw3];simp
  have p1:w3.cell? ⟨w2.heap.size,1,.none⟩=some (.slice q E.length cs):=by rw[hw3];simp
  have z3:w3.heap.size=w2.heap.size+1:=by rw[hw3];simp
  have H3:Hid (Below W.heap.size W w3∧C4 w3 W.heap.size (.int .u64 0) (.slice .none 0 0) (.slice .none 0 0) (.int .u64 0)∧Segs w3 W1.heap.size (.slice q E.length cs) E B∧E.length<=8∧E.map (·.1)=S):=⟨H2.out.1.trans (b3.mono H2.out.1.size),H2.out.2.1.below b3,H2.out.2.2.1.below b3,H2.out.2.2.2⟩
  have HAr:Hid (Arg w3 p n c xs):=HW.out.2.2.below H3.out.1
  have z2:=H2.out.1.size
  rw[<-hw3]
  clear hw3 b3 H2
  have k0:=H3.out.2.1.a
  have k1:=H3.out.2.1.b
  have k2:=H3.out.2.1.c
  have k3:=H3.out.2.1.d
  have kf0:=H3.out.2.1.f 0
  have kf1:=H3.out.2.1.f 1
  have kf2:=H3.out.2.1.f 2
  have kf3:=H3.out.2.1.f 3
  have c19:=contains_any p n c xs w3 (by omega) HAr.out.tex
  rw[HZ.out] at c19
  go_wp2_with (go_at_call 86;refine c19.mono ?_;rintro _ _ ⟨rfl,rfl⟩)
  obtain⟨s0,s1,s2,s3,_⟩:=H3.out.2.1.set (.int .u64 0) (.slice .none 0 0) (.slice .none 0 0) (.int .u64 0)
  refine bodyPost_ret (v:=.tuple #[.agg #[.int .u64 0,.slice .none 0 0,.slice .none 0 0,.int .u64 0],.int .i64 282]) (by simp[results,Tryz.results40,go_sem,s0,s1,s2,s3]) rfl ⟨?_,.inl ⟨?_,?_⟩⟩
  ·exact(((H3.out.1.setCell zL _).setCell zL _).setCell zL _).setCell zL _
  ·rw[dm_arg h0 (by rw[HLn.out];omega) HZ.out];decide
  ·rw[dm_arg h0 (by rw[HLn.out];omega) HZ.out]
 case false=>
  have HZ:Hid (xs.any hz=false):=hzz
  clear hzz
  go_enter Tryz.func40,Tryz.ntmps40
  go_upto_region 1 with fail
  rw[<-hW1]
  clear hW1
  go_upto_region 2 with(go_at_call 85;refine cR.mono ?_;rintro _ w2 ⟨q,cs,E,v,rfl,eS,sg,hl8,hv,b2⟩;obtain rfl:v = .nilIface:=(by rcases hv with⟨h,_⟩|⟨_,e⟩;exact absurd h0 h;exact e);have H2:Hid (Below W.heap.size W w2∧C4 w2 W.heap.size (.int .u64 0) (.slice .none 0 0) (.slice .none 0 0) (.int .u64 0)∧Segs w2 W1.heap.size (.slice q E.length cs) E B∧E.length<=8∧E.map (·.1)=S):=⟨HW.out.1.trans (b2.mono (by omega)),HW.out.2.1.below b2,sg,hl8,eS⟩;clear eS sg hl8 hv b2 cR)
  obtain⟨w3,hw3⟩:∃ w3,w3=w2.alloc (.cells #[.int .u64 (enO fn B ha hr),.slice q E.length cs] 41):=⟨_,rfl⟩
  have b3:Below w2.heap.size w2 w3:=by rw[hw3];exact zB.alloc zL _
  have p0:w3.cell? ⟨w2.heap.size,0,.none⟩=some (.int .u64 (enO fn B ha hr)):=by rw[hw3];simp
  have p1:w3.cell? ⟨w2.heap.size,1,.none⟩=some (.slice q E.length cs):=by rw[hw3];simp
  have z3:w3.heap.size=w2.heap.size+1:=by rw[hw3];simp
  have H3:Hid (Below W.heap.size W w3∧C4 w3 W.heap.size (.int .u64 0) (.slice .none 0 0) (.slice .none 0 0) (.int .u64 0)∧Segs w3 W1.heap.size (.slice q E.length cs) E B∧E.length<=8∧E.map (·.1)=S):=⟨H2.out.1.trans (b3.mono H2.out.1.size),H2.out.2.1.below b3,H2.out.2.2.1.below b3,H2.out.2.2.2⟩
  have HAr:Hid (Arg w3 p n c xs):=HW.out.2.2.below H3.out.1
  have z2:=H2.out.1.size
  rw[<-hw3]
  have B3:Hid (Below w2.heap.size w2 w3∧Segs w2 W1.heap.size (.slice q E.length cs) E B∧Below W.heap.size W w2):=⟨b3,H2.out.2.2.1,H2.out.1⟩
  clear hw3 b3 H2
  have k0:=H3.out.2.1.a
  have k1:=H3.out.2.1.b
  have k2:=H3.out.2.1.c
  have k3:=H3.out.2.1.d
  have kf0:=H3.out.2.1.f 0
  have kf1:=H3.out.2.1.f 1
  have kf2:=H3.out.2.1.f 2
  have kf3:=H3.out.2.1.f 3
  have c19:=contains_any p n c xs w3 (by omega) HAr.out.tex
  rw[HZ.out] at c19
  clear k0 k1 k2 k3 kf0 kf1 kf2 kf3
  go_upto_region 10 with(go_at_call 86;refine c19.mono ?_;rintro _ w4 ⟨rfl,e4⟩;obtain rfl:w3=w4:=e4.symm)
  obtain⟨w4,hw4⟩:∃ w4,w4=w3.alloc (.cells #[.int .u64 (enO fn B ha hr),.slice q E.length cs,.slice .none 0 0,.int .u64 0] 92):=⟨_,rfl⟩
  have b4:Below w3.heap.size w3 w4:=by rw[hw4];exact zB.alloc zL _
  have H4:Hid (Below W.heap.size W w4∧C4 w4 W.heap.size (.int .u64 0) (.slice .none 0 0) (.slice .none 0 0) (.int .u64 0)∧Segs w4 W1.heap.size (.slice q E.length cs) E B∧C4 w4 (w2.heap.size+1) (.int .u64 (enO fn B ha hr)) (.slice q E.length cs) (.slice .none 0 0) (.int .u64 0)∧w2.heap.size+1<w4.heap.size):=⟨H3.out.1.trans (b4.mono H3.out.1.size),H3.out.2.1.below b4,H3.out.2.2.1.below b4,by rw[<-z3,hw4];exact C4.new _ _ _ _ _ _,by rw[hw4,World.size_alloc];omega⟩
  have HE:Hid (E ≠ []∧E.length<=8∧E.map (·.1)=S):=⟨fun e=>HX.out h0 (by rw[<-H3.out.2.2.2.2,e];rfl),H3.out.2.2.2⟩
  have hgd:=ePg_bound E H3.out.2.2.1.gd
  have HA4:Hid (Arg w4 p n c xs):=HAr.out.below b4
  have B4:Hid (Below w2.heap.size w2 w4):=B3.out.1.trans (b4.mono (by omega))
  rw[<-hw4]
  clear hw4 b4 p0 p1 H3
  have c22:=stackAt_any H4.out.2.2.1 HE.out.1 HE.out.2.1 (enO fn B ha hr) 0 none 0 0
  have t0:=H4.out.2.2.2.1.a
  have t1:=H4.out.2.2.2.1.b
  have t2:=H4.out.2.2.2.1.c
  have t3:=H4.out.2.2.2.1.d
  obtain⟨eP,hP⟩:∃ eP,eP=ePg (E.map (·.1)):=⟨_,rfl⟩
  rw[<-hP] at c22 hgd
  have HP:Hid (eP=ePg (E.map (·.1))):=hP
  clear hP
  cases hrm:rm xs
  case false=>
   have HM:Hid (rm xs=false):=hrm
   clear hrm
   go_wp2_with first|(go_at_call 89;refine c22.mono ?_;rintro _ w5 ⟨rfl,b5⟩;clear c22)|(go_at_call 88;refine(stackOf_any w5 p n c xs (HA4.out.below b5).tex (by omega) HA4.out.len ((eP+1)*4096) (by omega)).mono ?_;rintro _ w6 ⟨pq,pn,pc,sp,rfl,b6,pb6⟩;have HPB:Hid ((rm xs=true->PgB w5 w6 pq pn pc ((eP+1)*4096) xs sp)∧w2.heap.size+1<w5.heap.size):=⟨pb6,Nat.lt_of_lt_of_le H4.out.2.2.2.2 b5.size⟩;clear pb6;rw[HM.out];have b46:=b5.trans (b6.mono b5.size);have B6:Hid (Below w2.heap.size w2 w6):=B4.out.trans (b46.mono (by have:=H4.out.2.2.2.2;omega));have H6:Hid (Below W.heap.size W w6∧C4 w6 W.heap.size (.int .u64 0) (.slice .none 0 0) (.slice .none 0 0) (.int .u64 0)∧C4 w6 (w2.heap.size+1) (.int .u64 (enO fn B ha hr)) (.slice q E.length cs) (.slice .none 0 0) (.int .u64 0)):=⟨H4.out.1.trans (b46.mono H4.out.1.size),H4.out.2.1.below b46,H4.out.2.2.2.1.below b46⟩;clear t0 t1 t2 t3;have t2:=H6.out.2.2.c;have t3:=H6.out.2.2.d;have tf2:=H6.out.2.2.f 2;have tf3:=H6.out.2.2.f 3;have k0:=H6.out.2.1.a;have k1:=H6.out.2.1.b;have k2:=H6.out.2.1.c;have k3:=H6.out.2.1.d;have kf0:=H6.out.2.1.f 0;have kf1:=H6.out.2.1.f 1;have kf2:=H6.out.2.1.f 2;have kf3:=H6.out.2.1.f 3)
   have H7:=(H6.out.2.1.other (y:=w2.heap.size+1) (by omega) 2 (.slice pq pn pc)).other (y:=w2.heap.size+1) (by omega) 3 (.int .u64 sp)
   obtain⟨s0,s1,s2,s3,_⟩:=H7.set (.int .u64 0) (.slice .none 0 0) (.slice .none 0 0) (.int .u64 0)
   refine bodyPost_ret (v:=.tuple #[.agg #[.int .u64 0,.slice .none 0 0,.slice .none 0 0,.int .u64 0],.int .i64 283]) (by simp[results,Tryz.results40,go_sem,s0,s1,s2,s3]) rfl ⟨?_,.inl ⟨?_,?_⟩⟩
   ·exact(((((H6.out.1.setCell (show W.heap.size<=w2.heap.size+1 by omega) _).setCell (show W.heap.size<=w2.heap.size+1 by omega) _).setCell zL _).setCell zL _).setCell zL _).setCell zL _
   ·rw[dm_stack h0 (by rw[HLn.out];omega) HZ.out HM.out];decide
   ·rw[dm_stack h0 (by rw[HLn.out];omega) HZ.out HM.out]
  case true=>
   have HM:Hid (rm xs=true):=hrm
   clear hrm
   go_wp2_with first|(go_at_call 89;refine c22.mono ?_;rintro _ w5 ⟨rfl,b5⟩;clear c22)|(go_at_call 88;refine(stackOf_any w5 p n c xs (HA4.out.below b5).tex (by omega) HA4.out.len ((eP+1)*4096) (by omega)).mono ?_;rintro _ w6 ⟨pq,pn,pc,sp,rfl,b6,pb6⟩;have HPB:Hid ((rm xs=true->PgB w5 w6 pq pn pc ((eP+1)*4096) xs sp)∧w2.heap.size+1<w5.heap.size):=⟨pb6,Nat.lt_of_lt_of_le H4.out.2.2.2.2 b5.size⟩;clear pb6;rw[HM.out];have b46:=b5.trans (b6.mono b5.size);have B6:Hid (Below w2.heap.size w2 w6):=B4.out.trans (b46.mono (by have:=H4.out.2.2.2.2;omega));have H6:Hid (Below W.heap.size W w6∧C4 w6 W.heap.size (.int .u64 0) (.slice .none 0 0) (.slice .none 0 0) (.int .u64 0)∧C4 w6 (w2.heap.size+1) (.int .u64 (enO fn B ha hr)) (.slice q E.length cs) (.slice .none 0 0) (.int .u64 0)):=⟨H4.out.1.trans (b46.mono H4.out.1.size),H4.out.2.1.below b46,H4.out.2.2.2.1.below b46⟩;clear t0 t1 t2 t3;have t0:=H6.out.2.2.a;have t1:=H6.out.2.2.b;have t2:=H6.out.2.2.c;have t3:=H6.out.2.2.d;have tf2:=H6.out.2.2.f 2;have tf3:=H6.out.2.2.f 3;have k0:=H6.out.2.1.a;have k1:=H6.out.2.1.b;have k2:=H6.out.2.1.c;have k3:=H6.out.2.1.d;have kf0:=H6.out.2.1.f 0;have kf1:=H6.out.2.1.f 1;have kf2:=H6.out.2.1.f 2;have kf3:=H6.out.2.1.f 3)
   have H7:=(H6.out.2.1.other (y:=w2.heap.size+1) (by omega) 2 (.slice pq pn pc)).other (y:=w2.heap.size+1) (by omega) 3 (.int .u64 sp)
   obtain⟨s0,s1,s2,s3,_⟩:=H7.set (.int .u64 (enO fn B ha hr)) (.slice q E.length cs) (.slice pq pn pc) (.int .u64 sp)
   refine bodyPost_ret (v:=.tuple #[.agg #[.int .u64 (enO fn B ha hr),.slice q E.length cs,.slice pq pn pc,.int .u64 sp],.int .i64 0]) (by simp[results,Tryz.results40,go_sem,s0,s1,s2,s3]) rfl ⟨?_,.inr ⟨dm_ok h0 (by rw[HLn.out];omega) HZ.out HM.out,W1.heap.size,q,cs,E,B,enO fn B ha hr,pq,pn,pc,sp,rfl,?_,HE.out.1,HE.out.2.1,HE.out.2.2,by omega,?_,HBB.out,rfl,rfl⟩⟩
   ·exact(((((H6.out.1.setCell (show W.heap.size<=w2.heap.size+1 by omega) _).setCell (show W.heap.size<=w2.heap.size+1 by omega) _).setCell zL _).setCell zL _).setCell zL _).setCell zL _
   ·have S7:=B3.out.2.1.below ((B6.out.setCell (show w2.heap.size<=w2.heap.size+1 by omega) (.slice pq pn pc) (p:=⟨w2.heap.size+1,2,.none⟩)).setCell (show w2.heap.size<=w2.heap.size+1 by omega) (.int .u64 sp) (p:=⟨w2.heap.size+1,3,.none⟩))
    have hs1:W.heap.size<W1.heap.size:=by omega
    exact(((S7.low (a:=⟨W.heap.size,0,.none⟩) hs1 _).low (a:=⟨W.heap.size,1,.none⟩) hs1 _).low (a:=⟨W.heap.size,2,.none⟩) hs1 _).low (a:=⟨W.heap.size,3,.none⟩) hs1 _
   ·obtain⟨g,R,hg1,hg2,hg3,hg4,hg5,hg6,hg7⟩:=HPB.out.1 HM.out
    rw[HP.out,HE.out.2.2] at hg7
    have hgs:=HPB.out.2
    refine⟨g,R,hg1,hg2,hg3,by omega,hg5,fun i hi=>?_,hg7⟩
    rw[zO (by simp only[ne_eq,Addr.mk.injEq,not_and];intro e;omega),zO (by simp only[ne_eq,Addr.mk.injEq,not_and];intro e;omega),zO (by simp only[ne_eq,Addr.mk.injEq,not_and];intro e;omega),zO (by simp only[ne_eq,Addr.mk.injEq,not_and];intro e;omega),zO (by simp only[ne_eq,Addr.mk.injEq,not_and];intro e;omega),zO (by simp only[ne_eq,Addr.mk.injEq,not_and];intro e;omega)]
    exact hg6 i hi
end
section
open Go.RowKit Go.Shelf
theorem u8_eq {b c:UInt8}:(((b.toNat:Nat):Int) == ((c.toNat:Nat):Int))=decide (b=c):=by
 by_cases h:b=c
 ·subst h;simp
 ·have:b.toNat≠c.toNat:=fun e=>h (UInt8.toNat_inj.1 e)
  rw[decide_eq_false h]
  simp only[beq_eq_false_iff_ne,ne_eq]
  omega
theorem getb {l:Bs} {i:Nat} (h:i<l.length) (h':i<(⟨l.toArray⟩:ByteArray).size):(⟨l.toArray⟩:ByteArray)[i]'h'=l[i]:=rfl
structure C2 (w:World) (x:Nat) (a b:Value):Prop where
 a:w.cell? ⟨x,0,.none⟩=some a
 b:w.cell? ⟨x,1,.none⟩=some b
 f:∀ i,w.frozen? ⟨x,i,.none⟩=false
theorem C2.below {w w':World} {x:Nat} {a b:Value} (h:C2 w x a b) (k:Below w.heap.size w w'):C2 w' x a b:=
 ⟨(k.cell (zC h.a)).trans h.a,(k.cell (zC h.b)).trans h.b,fun i=>(k.frozen (p:=⟨x,i,.none⟩) (show x<w.heap.size from zC (x:=⟨x,0,.none⟩) h.a)).trans (h.f i)⟩
theorem C2.new (w:World) (a b:Value) (t:TypeId):C2 (w.alloc (.cells #[a,b] t)) w.heap.size a b:=
 ⟨by simp,by simp,fun i=>World.frozen?_alloc_new _ _ _ _⟩
def RdP (w:World) (r e:Int) (xs:List Bs) (en:Ending) (w':World):Prop:=
 Below w.heap.size w w'∧((dmE r xs≠0∧en = .returned (.tuple #[.agg #[.int .u64 0,.slice .none 0 0],.int .i64 (dmE r xs)])) ∨
  (dmE r xs=0∧∃ X q cs E B et,en = .returned (.tuple #[.agg #[.int .u64 et,.slice q E.length cs],.int .i64 0])∧Segs w' X (.slice q E.length cs) E B∧E ≠ []∧E.length<=8∧ePg (E.map (·.1))=e))
set_option maxRecDepth 10000 in
theorem readD_any {W:World} {fp:Option Addr} {b o fn fc:Nat} {B:Nat->Int} (hp:64<=fn->fp=some ⟨b,o,.none⟩) (hrow:Row W b o fn B) (hB:∀ i,0<=B i∧B i<256) (hc:fn<=fc∧fc<=9223372036854775807) (hn3:fn<=400000) (ha hr:Int) (hH:Hd B ha hr)
  {p:Option Addr} {n c:Nat} {xs:List Bs} (hA:Arg W p n c xs) :
  Calls Tryz.prog 116 #[.slice fp fn fc,.slice p n c] W (RdP W (rdF fn B ha hr).1.2 (ePg (sgO fn B ha hr)) xs):=by
 obtain⟨W1,hW1⟩:∃ W1,W1=W.alloc (.cells #[.int .u64 0,.slice .none 0 0] 41):=⟨_,rfl⟩
 have b1:Below W.heap.size W W1:=by rw[hW1];exact zB.alloc zL _
 have z1:W1.heap.size=W.heap.size+1:=by rw[hW1];simp
 have k1:C2 W1 W.heap.size (.int .u64 0) (.slice .none 0 0):=by
  rw[hW1]
  exact C2.new _ _ _ _
 have cR:=readR hp (hrow.keep b1) hB hc hn3 ha hr hH
 obtain⟨r,hr0⟩:∃ r,r=(rdF fn B ha hr).1.2:=⟨_,rfl⟩
 obtain⟨S,hS⟩:∃ S,S=sgO fn B ha hr:=⟨_,rfl⟩
 have hSn:r=0->S ≠ []:=fun h=>by
  rw[hS]
  unfold sgO
  rw[if_neg (by rw[<-hr0,h];simp)]
  exact rd_some (by rw[<-hr0,h]) hH
 have HX:Hid (r=0->S ≠ []):=hSn
 unfold QO at cR
 rw[<-hr0,<-hS] at cR ⊢
 have HW:Hid (Below W.heap.size W W1∧C2 W1 W.heap.size (.int .u64 0) (.slice .none 0 0)∧Arg W p n c xs):=⟨b1,k1,hA⟩
 have hn1:n<=c∧c<=9223372036854775807:=⟨hA.tex.2.1,hA.tex.2.2.1⟩
 have hfew:=hA.few
 have HLn:Hid (xs.length=n):=hA.tex.1
 clear hp hrow hB hH hA b1 k1 hSn hr0 hS
 go_enter Tryz.func116,Tryz.ntmps116
 go_upto_region 1 with fail
 rw[<-hW1]
 clear hW1
 go_upto_region 2 with(go_at_call 64;refine cR.mono ?_;rintro _ w2 ⟨q,cs,E,gp,gn,gc,rfl,eS,sg,hl8,hv,b2⟩;have H2:Hid (Below W.heap.size W w2∧C2 w2 W.heap.size (.int .u64 0) (.slice .none 0 0)∧Segs w2 W1.heap.size (.slice q E.length cs) E B∧E.length<=8∧E.map (·.1)=S∧RefR w2 (.agg #[.slice gp gn gc,.int .i64 r]) (rdF fn B ha hr).1.1 r):=⟨HW.out.1.trans (b2.mono (by omega)),HW.out.2.1.below b2,sg,hl8,eS,hv⟩;clear eS sg hl8 hv b2 cR)
 obtain⟨w3,hw3⟩:∃ w3,w3=(w2.alloc (.cells #[.int .u64 (enO fn B ha hr),.slice q E.length cs] 41)).alloc (.cells #[.slice gp gn gc,.int .i64 r] 121):=⟨_,rfl⟩
 have b3:Below w2.heap.size w2 w3:=by rw[hw3];exact(zB.alloc zL _).alloc (by simp) _
 have p0:w3.cell? ⟨w2.heap.size,0,.none⟩=some (.int .u64 (enO fn B ha hr)):=by rw[hw3];simp
 have p1:w3.cell? ⟨w2.heap.size,1,.none⟩=some (.slice q E.length cs):=by rw[hw3];simp
 have e0:w3.cell? ⟨w2.heap.size+1,0,.none⟩=some (.slice gp gn gc):=by
  rw[hw3]
  have:(w2.alloc (.cells #[.int .u64 (enO fn B ha hr),.slice q E.length cs] 41)).heap.size=w2.heap.size+1:=by simp
  rw[<-this];simp
 have e1:w3.cell? ⟨w2.heap.size+1,1,.none⟩=some (.int .i64 r):=by
  rw[hw3]
  have:(w2.alloc (.cells #[.int .u64 (enO fn B ha hr),.slice q E.length cs] 41)).heap.size=w2.heap.size+1:=by simp
  rw[<-this];simp
 have z3:w3.heap.size=w2.heap.size+2:=by rw[hw3];simp
 have z2:=H2.out.1.size
 have H3:Hid (Below W.heap.size W w3∧C2 w3 W.heap.size (.int .u64 0) (.slice .none 0 0)∧Segs w3 W1.heap.size (.slice q E.length cs) E B∧C2 w3 w2.heap.size (.int .u64 (enO fn B ha hr)) (.slice q E.length cs)):=⟨H2.out.1.trans (b3.mono H2.out.1.size),H2.out.2.1.below b3,H2.out.2.2.1.below b3,p0,p1,fun k=>by
  have hA:=C2.new w2 (.int .u64 (enO fn B ha hr)) (.slice q E.length cs) 41
  have hb:Below (w2.alloc (.cells #[.int .u64 (enO fn B ha hr),.slice q E.length cs] 41)).heap.size (w2.alloc (.cells #[.int .u64 (enO fn B ha hr),.slice q E.length cs] 41)) w3:=by rw[hw3];exact zB.alloc zL _
  exact(hA.below hb).f k⟩
 have HE:Hid (E.length<=8∧E.map (·.1)=S∧(r=0->E ≠ [])):=⟨H2.out.2.2.2.1,H2.out.2.2.2.2.1,fun h e=>HX.out h (by rw[<-H2.out.2.2.2.2.1,e];rfl)⟩
 have c25:=any_any w3 _ _ _ (H2.out.2.2.2.2.2.below b3)
 have HS2:Hid (Segs w2 W1.heap.size (.slice q E.length cs) E B):=H2.out.2.2.1
 rw[<-hw3]
 clear hw3 b3 H2 p0 p1
 by_cases h0:r≠0
 ·rw[decide_eq_true h0] at c25
  go_wp2_with fail
  refine c25.mono ?_
  rintro _ w4 ⟨rfl,b4⟩
  have H4:Hid (Below W.heap.size W w4∧C2 w4 W.heap.size (.int .u64 0) (.slice .none 0 0)∧True):=⟨H3.out.1.trans (b4.mono H3.out.1.size),H3.out.2.1.below b4,trivial⟩
  have k0:=H4.out.2.1.a
  have k1:=H4.out.2.1.b
  have kf0:=H4.out.2.1.f 0
  have kf1:=H4.out.2.1.f 1
  clear c25 e0 e1
  go_wp2_with fail
  obtain⟨s0,s1⟩:=set2' H4.out.2.1.a H4.out.2.1.b (.int .u64 0) (.slice .none 0 0)
  refine bodyPost_ret (v:=.tuple #[.agg #[.int .u64 0,.slice .none 0 0],.int .i64 280]) (by simp[results,Tryz.results116,go_sem,s0,s1]) rfl ⟨?_,.inl ⟨?_,?_⟩⟩
  ·exact(H4.out.1.setCell zL _).setCell zL _
  ·rw[dm_file h0];decide
  ·rw[dm_file h0]
 have H0:Hid (r=0):=by show r=0;omega
 rw[decide_eq_false (by omega:¬ r≠0)] at c25
 clear h0
 by_cases h32:32<n
 ·have h32':(32:Int)<n:=by omega
  go_wp2_with fail
  refine c25.mono ?_
  rintro _ w4 ⟨rfl,b4⟩
  have H4:Hid (Below W.heap.size W w4∧C2 w4 W.heap.size (.int .u64 0) (.slice .none 0 0)∧True):=⟨H3.out.1.trans (b4.mono H3.out.1.size),H3.out.2.1.below b4,trivial⟩
  have k0:=H4.out.2.1.a
  have k1:=H4.out.2.1.b
  have kf0:=H4.out.2.1.f 0
  have kf1:=H4.out.2.1.f 1
  clear c25 e0 e1
  go_wp2_with fail
  obtain⟨s0,s1⟩:=set2' H4.out.2.1.a H4.out.2.1.b (.int .u64 0) (.slice .none 0 0)
  refine bodyPost_ret (v:=.tuple #[.agg #[.int .u64 0,.slice .none 0 0],.int .i64 281]) (by simp[results,Tryz.results116,go_sem,s0,s1]) rfl ⟨?_,.inl ⟨?_,?_⟩⟩
  ·exact(H4.out.1.setCell zL _).setCell zL _
  ·rw[dm_args H0.out (by rw[HLn.out];exact h32)];decide
  ·rw[dm_args H0.out (by rw[HLn.out];exact h32)]
 have h32':¬ (32:Int)<n:=by omega
 go_wp2_with fail
 refine c25.mono ?_
 rintro _ w4 ⟨rfl,b4⟩
 have H4:Hid (Below W.heap.size W w4∧C2 w4 W.heap.size (.int .u64 0) (.slice .none 0 0)∧Segs w4 W1.heap.size (.slice q E.length cs) E B∧C2 w4 w2.heap.size (.int .u64 (enO fn B ha hr)) (.slice q E.length cs)∧True):=⟨H3.out.1.trans (b4.mono H3.out.1.size),H3.out.2.1.below b4,H3.out.2.2.1.below b4,H3.out.2.2.2.below b4,trivial⟩
 clear c25 e0 e1 b4
 go_wp2_with fail
 have HAr:Hid (Arg w4 p n c xs):=HW.out.2.2.below H4.out.1
 go_loopw [8] (fun k wr=>∃ i:Nat,i<=n∧k = .int .i64 i∧wr=w4∧Hid ((xs.take i).any hz=false)) (fun k _=>(n-intOf k).toNat)
 case atStart=>exact⟨0,by omega,rfl,rfl,by show _=_;simp⟩
 case round=>
  obtain⟨i,hi,rfl,rfl,HA⟩:=hrel
  by_cases hlt:i<n
  ·have g0:(i:Int)<n:=by omega
   obtain⟨pb,po,x,rfl,hxi,a0⟩:=HAr.out.tex.at hlt
   have hxl:=HAr.out.len x (List.mem_of_getElem? hxi)
   have hnext:(xs.take (i+1)).any hz=hz x:=by
    rw[List.take_add_one,hxi,List.any_append,HA.out]
    simp
   have HNx:Hid ((xs.take (i+1)).any hz=hz x∧xs[i]? = some x):=⟨hnext,hxi⟩
   have hsz:(⟨x.toArray⟩:ByteArray).size=x.length:=by simp[ByteArray.size]
   clear hnext hxi
   go_wp2_with fail
   go_loopw [9] (fun k wv=>∃ j:Nat,j<=x.length∧k = .int .i64 j∧wv=wr∧Hid (∀ l,l<j->x[l]? ≠ some 0)) (fun k _=>(x.length-intOf k).toNat)
   case atStart=>exact⟨0,by omega,rfl,rfl,fun l hl=>by omega⟩
   case round=>
    obtain⟨j,hj,rfl,rfl,HJ⟩:=hrel
    by_cases hjl:j<x.length
    ·have gj:(j:Int)<x.length:=by omega
     by_cases z0:x[j]=0
     ·have gz:((((⟨x.toArray⟩:ByteArray)[j]'(by rw[hsz];exact hjl)).toNat:Int) == 0)=true:=by
       rw[getb hjl];exact(u8_eq (c:=0)).trans (decide_eq_true z0)
      have HZ:Hid (xs.any hz=true):=by
       show _=_
       rw[List.any_eq_true]
       refine⟨x,List.mem_of_getElem? HNx.out.2,?_⟩
       unfold hz
       exact decide_eq_true (by rw[<-z0];exact List.getElem_mem _)
      clear z0
      have k0:=H4.out.2.1.a
      have k1:=H4.out.2.1.b
      have kf0:=H4.out.2.1.f 0
      have kf1:=H4.out.2.1.f 1
      go_wp2_with fail
      obtain⟨s0,s1⟩:=set2' H4.out.2.1.a H4.out.2.1.b (.int .u64 0) (.slice .none 0 0)
      refine bodyPost_ret (v:=.tuple #[.agg #[.int .u64 0,.slice .none 0 0],.int .i64 282]) (by simp[results,Tryz.results116,go_sem,s0,s1]) rfl ⟨?_,.inl ⟨?_,?_⟩⟩
      ·exact(H4.out.1.setCell zL _).setCell zL _
      ·rw[dm_arg H0.out (by rw[HLn.out];omega) HZ.out];decide
      ·rw[dm_arg H0.out (by rw[HLn.out];omega) HZ.out]
     ·have gz:((((⟨x.toArray⟩:ByteArray)[j]'(by rw[hsz];exact hjl)).toNat:Int) == 0)=false:=by
       rw[getb hjl];exact(u8_eq (c:=0)).trans (decide_eq_false z0)
      have HJ2:Hid (∀ l,l<j+1->x[l]? ≠ some 0):=fun l hl=>by
       rcases Nat.lt_or_ge l j with e|e
       ·exact HJ.out l e
       ·obtain rfl:l=j:=by omega
        rw[List.getElem?_eq_getElem hjl]
        intro e
        injection e with e
        exact z0 e
      clear z0
      go_wp2_with fail
      exact⟨⟨j+1,by omega,rfl,trivial,HJ2⟩,by simp only[intOf];omega⟩
    ·obtain rfl:j=x.length:=by omega
     have HZ:Hid ((xs.take (i+1)).any hz=false):=by
      show _=_
      rw[HNx.out.1]
      unfold hz
      apply decide_eq_false
      intro hm
      obtain⟨l,hl⟩:=List.mem_iff_getElem?.1 hm
      have hl2:l<x.length:=(List.getElem?_eq_some_iff.1 hl).1
      exact HJ.out l hl2 hl
     go_wp2_with fail
     exact⟨⟨i+1,by omega,rfl,trivial,HZ⟩,by simp only[intOf];omega⟩
  ·obtain rfl:i=n:=by omega
   have HZ:Hid (xs.any hz=false):=by
    show _=_
    have:=HA.out
    rw[<-HLn.out,List.take_length] at this
    exact this
   have c26:=stackQ_any wr p i c xs HAr.out.tex (by omega) HAr.out.len
   cases hrm:rm xs
   case false=>
    have HM:Hid (rm xs=false):=hrm
    rw[hrm] at c26
    clear hrm
    go_wp2_with (go_at_call 67;refine c26.mono ?_;rintro _ w6 ⟨⟨pq,pn,pc,sp,rfl⟩,b6⟩;have H6:Hid (Below W.heap.size W w6∧C2 w6 W.heap.size (.int .u64 0) (.slice .none 0 0)∧True):=⟨H4.out.1.trans (b6.mono H4.out.1.size),H4.out.2.1.below b6,trivial⟩;have k0:=H6.out.2.1.a;have k1:=H6.out.2.1.b;have kf0:=H6.out.2.1.f 0;have kf1:=H6.out.2.1.f 1;clear c26)
    obtain⟨s0,s1⟩:=set2' H6.out.2.1.a H6.out.2.1.b (.int .u64 0) (.slice .none 0 0)
    refine bodyPost_ret (v:=.tuple #[.agg #[.int .u64 0,.slice .none 0 0],.int .i64 283]) (by simp[results,Tryz.results116,go_sem,s0,s1]) rfl ⟨?_,.inl ⟨?_,?_⟩⟩
    ·exact(H6.out.1.setCell zL _).setCell zL _
    ·rw[dm_stack H0.out (by rw[HLn.out];omega) HZ.out HM.out];decide
    ·rw[dm_stack H0.out (by rw[HLn.out];omega) HZ.out HM.out]
   case true=>
    have HM:Hid (rm xs=true):=hrm
    rw[hrm] at c26
    clear hrm
    go_wp2_with (go_at_call 67;refine c26.mono ?_;rintro _ w6 ⟨⟨pq,pn,pc,sp,rfl⟩,b6⟩;have H6:Hid (Below W.heap.size W w6∧C2 w6 W.heap.size (.int .u64 0) (.slice .none 0 0)∧Segs w6 W1.heap.size (.slice q E.length cs) E B∧C2 w6 w2.heap.size (.int .u64 (enO fn B ha hr)) (.slice q E.length cs)):=⟨H4.out.1.trans (b6.mono H4.out.1.size),H4.out.2.1.below b6,H4.out.2.2.1.below b6,H4.out.2.2.2.1.below b6⟩;have k0:=H6.out.2.1.a;have k1:=H6.out.2.1.b;have kf0:=H6.out.2.1.f 0;have kf1:=H6.out.2.1.f 1;have t0:=H6.out.2.2.2.a;have t1:=H6.out.2.2.2.b;clear c26)
    obtain⟨s0,s1⟩:=set2' H6.out.2.1.a H6.out.2.1.b (.int .u64 (enO fn B ha hr)) (.slice q E.length cs)
    refine bodyPost_ret (v:=.tuple #[.agg #[.int .u64 (enO fn B ha hr),.slice q E.length cs],.int .i64 0]) (by simp[results,Tryz.results116,go_sem,s0,s1]) rfl ⟨?_,.inr ⟨dm_ok H0.out (by rw[HLn.out];omega) HZ.out HM.out,W1.heap.size,q,cs,E,B,enO fn B ha hr,rfl,?_,HE.out.2.2 H0.out,HE.out.1,by rw[HE.out.2.1]⟩⟩
    ·exact(H6.out.1.setCell zL _).setCell zL _
    ·have hs1:W.heap.size<W1.heap.size:=by omega
     exact(H6.out.2.2.1.low (a:=⟨W.heap.size,0,.none⟩) hs1 _).low (a:=⟨W.heap.size,1,.none⟩) hs1 _
end
section
open Go.RowKit Go.Shelf
set_option maxRecDepth 10000 in
theorem demandQ_any {W:World} {fp:Option Addr} {b o fn fc:Nat} {B:Nat->Int} (hp:64<=fn->fp=some ⟨b,o,.none⟩) (hrow:Row W b o fn B) (hB:∀ i,0<=B i∧B i<256) (hc:fn<=fc∧fc<=9223372036854775807) (hn3:fn<=400000) (ha hr:Int) (hH:Hd B ha hr)
  {p:Option Addr} {n c:Nat} {xs:List Bs} (hA:Arg W p n c xs) :
  Calls Tryz.prog 62 #[.slice fp fn fc,.slice p n c] W fun e w'=>e = .returned (.tuple #[.int .i64 (dmN (rdF fn B ha hr).1.2 (ePg (sgO fn B ha hr)) xs),.int .i64 (dmE (rdF fn B ha hr).1.2 xs)])∧Below W.heap.size W w':=by
 have cP:=readD_any hp hrow hB hc hn3 ha hr hH hA
 generalize (rdF fn B ha hr).1.2=r at cP ⊢
 generalize ePg (sgO fn B ha hr)=eP at cP ⊢
 clear hp hrow hB hc hH hA hn3
 unfold RdP at cP
 by_cases h0:dmE r xs≠0
 ·have hN:dmN r eP xs=0:=by simp[dmN,h0]
  rw[hN]
  generalize dmE r xs=d at h0 cP ⊢
  have hd:(d != 0)=true:=by simpa using h0
  clear hN
  go_enter Tryz.func62,Tryz.ntmps62
  go_wp2_with (go_at_call 116;refine cP.mono ?_;rintro _ w1 ⟨b1,h1⟩;obtain rfl:_=_:=(by rcases h1 with⟨_,h⟩|⟨h,_⟩;exact h;exact absurd h h0);clear h1 cP)
  refine bodyPost_ret (v:=.tuple #[.int .i64 0,.int .i64 d]) (by simp[results,Tryz.results62,go_sem]) rfl ⟨rfl,b1.alloc b1.size _⟩
 ·have h0:dmE r xs=0:=by omega
  have hN:dmN r eP xs=eP+6+(eP+513)/512:=by simp[dmN,h0]
  rw[hN,h0]
  rw[h0] at cP
  clear hN h0
  go_enter Tryz.func62,Tryz.ntmps62
  go_upto_region 2 with(go_at_call 116;refine cP.mono ?_;rintro _ w1 ⟨b1,h1⟩;rcases h1 with⟨h,_⟩|⟨_,X,q,cs,E,B',et,rfl,sg,hE,hl,hp⟩;exact absurd rfl h)
  have HB:Hid (Below w1.heap.size w1 (w1.alloc (.cells #[.int .u64 et,.slice q E.length cs] 41))):=zB.alloc zL _
  have c14:=pagesQ_any (sg.below HB.out) hE hl et
  have hbd:=ePg_bound E sg.gd
  rw[hp] at c14 hbd
  have HB1:Hid (Below W.heap.size W w1):=b1
  clear sg hE hl hp cP b1
  go_wp2_with first|(go_at_call 65;refine c14.mono ?_;rintro _ w2 ⟨rfl,b2⟩)|(go_at_call 117;refine(nodes_any _ _ (by omega)).mono ?_;rintro _ _ ⟨rfl,rfl⟩)
  refine bodyPost_ret (v:=.tuple #[.int .i64 (eP+6+(eP+513)/512),.int .i64 0]) ?_ rfl ⟨rfl,HB1.out.trans ((HB.out.trans (b2.mono HB.out.size)).mono HB1.out.size)⟩
  have e1:eP+2+(4+(eP+2+511)/512)=eP+6+(eP+513)/512:=by omega
  simp[results,Tryz.results62,go_sem]
  omega
def FewP (w:World) (fn n:Nat) (xs:List Bs) (e:Ending) (w':World):Prop:=(∃ r,e = .returned (.bool r)∧(r=true->fn<=400000∧n<100∧∀ x∈xs,x.length<=400000))∧w'=w
set_option maxRecDepth 10000 in
theorem few_any (fp p:Option Addr) (fn fc n c:Nat) (xs:List Bs) (w:World) (h:Tex w p n c xs) (hf:fn<=140737488351232) (hn:n<=140737488351232) (hx:∀ x∈xs,x.length<=140737488351232) :
  Calls Tryz.prog 7 #[.slice fp fn fc,.slice p n c] w (FewP w fn n xs):=by
 have HT:Hid (Tex w p n c xs):=h
 have HL:Hid (xs.length=n):=h.1
 have HX:Hid (∀ x∈xs,x.length<=140737488351232):=hx
 have hc:n<=c∧c<=9223372036854775807:=⟨h.2.1,h.2.2.1⟩
 clear h hx
 go_enter Tryz.func7,Tryz.ntmps7
 go_wp2_with fail
 go_loopw [5,6] (fun s k wr=>∃ i:Nat,i<=n∧i<=100∧k = .int .i64 i∧∃ t:Int,s = .int .i64 t∧wr=w∧Hid (fn<=t∧t<=140737488351232*(i+1)∧∀ j x,j<i->xs[j]? = some x->(x.length:Int)<=t)) (fun _ k _=>(n-intOf k).toNat)
 case atStart=>exact⟨0,by omega,by omega,rfl,fn,rfl,rfl,by omega,by omega,fun j x hj=>by omega⟩
 case round=>
  obtain⟨i,hi,hi2,rfl,t,rfl,rfl,HR⟩:=hrel
  have r1:=HR.out.1
  have r2:=HR.out.2.1
  by_cases hlt:i<n∧i<100
  ·have g0:(i:Int)<n:=by omega
   have g1:(i:Int)<100:=by omega
   obtain⟨b,o,x,rfl,hxi,a0⟩:=HT.out.at hlt.1
   have hxl:=HX.out x (List.mem_of_getElem? hxi)
   have HN:Hid (∀ j y,j<i+1->xs[j]? = some y->(y.length:Int)<=t+x.length):=fun j y hj hy=>by
    rcases Nat.lt_or_ge j i with e|e
    ·have:=HR.out.2.2 j y e hy;omega
    ·obtain rfl:j=i:=by omega
     rw[hxi] at hy
     injection hy with e
     subst e
     omega
   clear hxi
   go_wp2_with fail
   exact⟨⟨i+1,by omega,by omega,rfl,t+x.length,rfl,trivial,by omega,by omega,HN.out⟩,by simp only[intOf];omega⟩
  ·by_cases hn2:i<n
   ·have g0:(i:Int)<n:=by omega
    obtain rfl:i=100:=by omega
    have g2:¬ ((n:Int)<100):=by omega
    go_wp2_with fail
    all_goals go_ret
    all_goals exact⟨⟨false,rfl,fun h=>by cases h⟩,rfl⟩
   ·obtain rfl:i=n:=by omega
    have HJ:Hid (t<=400000->(i:Int)<100->fn<=400000∧i<100∧∀ x∈xs,x.length<=400000):=fun h1 h2=>⟨by omega,by omega,fun x hx=>by
     obtain⟨j,hj⟩:=List.mem_iff_getElem?.1 hx
     have hj2:j<i:=by rw[<-HL.out];exact(List.getElem?_eq_some_iff.1 hj).1
     have:=HR.out.2.2 j x hj2 hj
     omega⟩
    by_cases ht:t<=400000
    ·go_wp2_with fail
     go_ret
     exact⟨⟨_,rfl,fun h=>HJ.out ht (of_decide_eq_true h)⟩,rfl⟩
    ·go_wp2_with fail
     go_ret
     exact⟨⟨false,rfl,fun h=>by cases h⟩,rfl⟩
theorem str_info:∃ i z,Tryz.prog.info? 9=some i∧i.zero=some z∧i.size=1∧i.bytes=16∧z.cells.size=1:=info_of 9 1 16 (by kernel_rfl) (by kernel_rfl)
def mark:Bs:=[109,97,114,107]
def LenT (w:World) (X g c:Nat) (xs:List Bs):Prop:=w.ownsRow X 9 1 (.slice (some ⟨g,0,.none⟩) (xs.length+1) c) (xs.length+1) ((xs ++ [mark]).map sv)
end
section
open Go.RowKit Go.Shelf
structure Laid3 (w:World):Prop where
 c0:w.cell? ⟨2,0,.none⟩=some (.int .u32 4)
 c1:w.cell? ⟨2,1,.none⟩=some (.int .u64 2)
 c2:w.cell? ⟨2,2,.none⟩=some (.int .u32 2)
 c3:w.cell? ⟨2,3,.none⟩=some (.int .u64 4)
 c4:w.cell? ⟨2,4,.none⟩=some (.int .u32 1)
 c5:w.cell? ⟨2,5,.none⟩=some (.int .u64 8)
theorem Laid3.below {w w':World} (h:Laid3 w) (b:Below w.heap.size w w'):Laid3 w':=
 have hl:2<w.heap.size:=zC h.c0
 ⟨(b.cell (p:=⟨2,0,.none⟩) hl).trans h.c0,(b.cell (p:=⟨2,1,.none⟩) hl).trans h.c1,(b.cell (p:=⟨2,2,.none⟩) hl).trans h.c2,(b.cell (p:=⟨2,3,.none⟩) hl).trans h.c3,(b.cell (p:=⟨2,4,.none⟩) hl).trans h.c4,(b.cell (p:=⟨2,5,.none⟩) hl).trans h.c5⟩
def rga (fl:Int) (i:Nat):Int:=(if 1<=i∧(fl=4∨fl=5∨fl=6∨fl=7) then 2 else 0)+(if 2<=i∧(fl=6∨fl=7) then 4 else 0)+(if 3<=i∧(fl=1∨fl=5∨fl=7) then 8 else 0)
theorem rga_rgt {fl:Int} (h:fl=1∨fl=4∨fl=5∨fl=6∨fl=7):Rm.rgt (rga fl 3):=by
 unfold Rm.rgt
 rcases h with rfl|rfl|rfl|rfl|rfl<;>decide
theorem ix0 (w:World):(Instr.index 252 (.agg #[.int .u32 4,.int .u64 2,.int .u32 2,.int .u64 4,.int .u32 1,.int .u64 8]) (.int .i64 0)).run Tryz.prog w = .ok (.agg #[.int .u32 4,.int .u64 2]) w:=by kernel_rfl
theorem ix1 (w:World):(Instr.index 252 (.agg #[.int .u32 4,.int .u64 2,.int .u32 2,.int .u64 4,.int .u32 1,.int .u64 8]) (.int .i64 1)).run Tryz.prog w = .ok (.agg #[.int .u32 2,.int .u64 4]) w:=by kernel_rfl
theorem ix2 (w:World):(Instr.index 252 (.agg #[.int .u32 4,.int .u64 2,.int .u32 2,.int .u64 4,.int .u32 1,.int .u64 8]) (.int .i64 2)).run Tryz.prog w = .ok (.agg #[.int .u32 1,.int .u64 8]) w:=by kernel_rfl
set_option maxRecDepth 4000 in
theorem rightsOf_any {w:World} (h:Laid3 w) (fl:Int) (hf:fl=1∨fl=4∨fl=5∨fl=6∨fl=7):Calls Tryz.prog 148 #[.int .u32 fl] w fun e w'=>e = .returned (.int .u64 (rga fl 3))∧Below w.heap.size w w':=by
 obtain⟨c0,c1,c2,c3,c4,c5⟩:=h
 have x0:=ix0
 have x1:=ix1
 have x2:=ix2
 rcases hf with rfl|rfl|rfl|rfl|rfl
 all_goals
  go_enter Tryz.func148,Tryz.ntmps148
  go_wp2_with fail
  clear c0 c1 c2 c3 c4 c5
 ·go_loopw [3,7] (fun a k wr=>∃ i:Nat,i<=3∧k = .int .i64 i∧a = .int .u64 (rga 1 i)∧Hid (Below w.heap.size w wr)) (fun _ k _=>(3-intOf k).toNat)
  case atStart=>exact⟨0,by omega,rfl,by rw[show rga 1 0=0 by decide],Below.refl _ _⟩
  case round=>
   obtain⟨i,hi,rfl,rfl,HB⟩:=hrel
   rcases (show i=0∨i=1∨i=2∨i=3 by omega) with rfl|rfl|rfl|rfl
   ·rw[show rga 1 0=0 by decide]
    go_wp2_with fail
    exact⟨⟨1,by omega,rfl,(congrArg (Value.int .u64) (by decide)),HB.out.alloc HB.out.size _⟩,by simp only[intOf];omega⟩
   ·rw[show rga 1 1=0 by decide]
    go_wp2_with fail
    exact⟨⟨2,by omega,rfl,(congrArg (Value.int .u64) (by decide)),HB.out.alloc HB.out.size _⟩,by simp only[intOf];omega⟩
   ·rw[show rga 1 2=0 by decide]
    go_wp2_with fail
    exact⟨⟨3,by omega,rfl,(congrArg (Value.int .u64) (by decide)),HB.out.alloc HB.out.size _⟩,by simp only[intOf];omega⟩
   ·rw[show rga 1 3=8 by decide]
    go_wp2_with fail
    go_ret
    exact⟨rfl,HB.out⟩
 ·go_loopw [3,7] (fun a k wr=>∃ i:Nat,i<=3∧k = .int .i64 i∧a = .int .u64 (rga 4 i)∧Hid (Below w.heap.size w wr)) (fun _ k _=>(3-intOf k).toNat)
  case atStart=>exact⟨0,by omega,rfl,by rw[show rga 4 0=0 by decide],Below.refl _ _⟩
  case round=>
   obtain⟨i,hi,rfl,rfl,HB⟩:=hrel
   rcases (show i=0∨i=1∨i=2∨i=3 by omega) with rfl|rfl|rfl|rfl
   ·rw[show rga 4 0=0 by decide]
    go_wp2_with fail
    exact⟨⟨1,by omega,rfl,(congrArg (Value.int .u64) (by decide)),HB.out.alloc HB.out.size _⟩,by simp only[intOf];omega⟩
   ·rw[show rga 4 1=2 by decide]
    go_wp2_with fail
    exact⟨⟨2,by omega,rfl,(congrArg (Value.int .u64) (by decide)),HB.out.alloc HB.out.size _⟩,by simp only[intOf];omega⟩
   ·rw[show rga 4 2=2 by decide]
    go_wp2_with fail
    exact⟨⟨3,by omega,rfl,(congrArg (Value.int .u64) (by decide)),HB.out.alloc HB.out.size _⟩,by simp only[intOf];omega⟩
   ·rw[show rga 4 3=2 by decide]
    go_wp2_with fail
    go_ret
    exact⟨rfl,HB.out⟩
 ·go_loopw [3,7] (fun a k wr=>∃ i:Nat,i<=3∧k = .int .i64 i∧a = .int .u64 (rga 5 i)∧Hid (Below w.heap.size w wr)) (fun _ k _=>(3-intOf k).toNat)
  case atStart=>exact⟨0,by omega,rfl,by rw[show rga 5 0=0 by decide],Below.refl _ _⟩
  case round=>
   obtain⟨i,hi,rfl,rfl,HB⟩:=hrel
   rcases (show i=0∨i=1∨i=2∨i=3 by omega) with rfl|rfl|rfl|rfl
   ·rw[show rga 5 0=0 by decide]
    go_wp2_with fail
    exact⟨⟨1,by omega,rfl,(congrArg (Value.int .u64) (by decide)),HB.out.alloc HB.out.size _⟩,by simp only[intOf];omega⟩
   ·rw[show rga 5 1=2 by decide]
    go_wp2_with fail
    exact⟨⟨2,by omega,rfl,(congrArg (Value.int .u64) (by decide)),HB.out.alloc HB.out.size _⟩,by simp only[intOf];omega⟩
   ·rw[show rga 5 2=2 by decide]
    go_wp2_with fail
    exact⟨⟨3,by omega,rfl,(congrArg (Value.int .u64) (by decide)),HB.out.alloc HB.out.size _⟩,by simp only[intOf];omega⟩
   ·rw[show rga 5 3=10 by decide]
    go_wp2_with fail
    go_ret
    exact⟨rfl,HB.out⟩
 ·go_loopw [3,7] (fun a k wr=>∃ i:Nat,i<=3∧k = .int .i64 i∧a = .int .u64 (rga 6 i)∧Hid (Below w.heap.size w wr)) (fun _ k _=>(3-intOf k).toNat)
  case atStart=>exact⟨0,by omega,rfl,by rw[show rga 6 0=0 by decide],Below.refl _ _⟩
  case round=>
   obtain⟨i,hi,rfl,rfl,HB⟩:=hrel
   rcases (show i=0∨i=1∨i=2∨i=3 by omega) with rfl|rfl|rfl|rfl
   ·rw[show rga 6 0=0 by decide]
    go_wp2_with fail
    exact⟨⟨1,by omega,rfl,(congrArg (Value.int .u64) (by decide)),HB.out.alloc HB.out.size _⟩,by simp only[intOf];omega⟩
   ·rw[show rga 6 1=2 by decide]
    go_wp2_with fail
    exact⟨⟨2,by omega,rfl,(congrArg (Value.int .u64) (by decide)),HB.out.alloc HB.out.size _⟩,by simp only[intOf];omega⟩
   ·rw[show rga 6 2=6 by decide]
    go_wp2_with fail
    exact⟨⟨3,by omega,rfl,(congrArg (Value.int .u64) (by decide)),HB.out.alloc HB.out.size _⟩,by simp only[intOf];omega⟩
   ·rw[show rga 6 3=6 by decide]
    go_wp2_with fail
    go_ret
    exact⟨rfl,HB.out⟩
 ·go_loopw [3,7] (fun a k wr=>∃ i:Nat,i<=3∧k = .int .i64 i∧a = .int .u64 (rga 7 i)∧Hid (Below w.heap.size w wr)) (fun _ k _=>(3-intOf k).toNat)
  case atStart=>exact⟨0,by omega,rfl,by rw[show rga 7 0=0 by decide],Below.refl _ _⟩
  case round=>
   obtain⟨i,hi,rfl,rfl,HB⟩:=hrel
   rcases (show i=0∨i=1∨i=2∨i=3 by omega) with rfl|rfl|rfl|rfl
   ·rw[show rga 7 0=0 by decide]
    go_wp2_with fail
    exact⟨⟨1,by omega,rfl,(congrArg (Value.int .u64) (by decide)),HB.out.alloc HB.out.size _⟩,by simp only[intOf];omega⟩
   ·rw[show rga 7 1=2 by decide]
    go_wp2_with fail
    exact⟨⟨2,by omega,rfl,(congrArg (Value.int .u64) (by decide)),HB.out.alloc HB.out.size _⟩,by simp only[intOf];omega⟩
   ·rw[show rga 7 2=6 by decide]
    go_wp2_with fail
    exact⟨⟨3,by omega,rfl,(congrArg (Value.int .u64) (by decide)),HB.out.alloc HB.out.size _⟩,by simp only[intOf];omega⟩
   ·rw[show rga 7 3=14 by decide]
    go_wp2_with fail
    go_ret
    exact⟨rfl,HB.out⟩
end
end Go.Proofs.YtabnipbdbnmmpaaGreatDoor
