import Derived.Test.YtabnipbdbnmmpaaGreatDoorLd01
import Derived.Test.YtabnipbdbnmmpaaGreatDoorLd09
import Derived.Test.YtabnipbdbnmmpaaGreatDoorLd08
import Derived.Deep.RegionHeld3
set_option linter.unusedVariables false
set_option linter.unusedSimpArgs false
set_option maxHeartbeats 8000000
namespace Go.Proofs.YtabnipbdbnmmpaaGreatDoor
namespace Rm
open Go.RowKit
def MapP (w:World) (p b m N:Nat) (B:Nat->Int) (L:List Nat) (x:Pt) (root va leaf:Int) (r:Ending) (w':World):Prop:=
 (ndB N L root=false∧r = .returned (.int .i64 83)∧Below w.heap.size w w')∨(ndB N L root=true∧¬ x.k=0∧r = .returned (.int .i64 84)∧Below w.heap.size w w')∨(ndB N L root=true∧x.k=0∧(L.length:Int)<x.l∧r = .returned (.int .i64 85)∧Below w.heap.size w w') ∨
 (ndB N L root=true∧x.k=0∧x.l<=L.length∧r = .returned (.int .i64 0)∧∃ B' L',Lays N va leaf 2 B L root B' L'∧L=L.take x.l.toNat ++ L'∧Ram w' p b m N B' L'∧Fra p b m w w')
section
variable {w:World} {p b m N:Nat} {B:Nat->Int} {L:List Nat}
theorem map_late (h:Ram w p b m N B L) (root va pa perm:Int) (hr:0<=root∧root<18446744073709551616) (hv:0<=va∧va<18446744073709551616) (hp:0<=pa∧pa<18446744073709551616) (hu:va%4096=0∧va<274877906944) (hpa:pa%4096=0∧pa<72057594037927936) (hmp:(!ho perm 18446744073709551361 && ho perm 10 && (!hs perm 4 || hs perm 2))=true):Calls Tryz.prog 145 #[.pointer (some ⟨p,0,.none⟩),.int .u64 root,.int .u64 va,.int .u64 pa,.int .u64 perm] w fun r w'=>MapP w p b m N B L (look N L B root va) root va (toP pa perm) r w':=by
 have c39:=look_any h root va hr hv
 have HR:Hid (Ram w p b m N B L):=h
 have c40:=fun W=>userPage_any va hv W
 have c41:=fun W=>mayPerm_any perm W
 have hd:decide (va%4096=0∧va<274877906944)=true:=by simpa using hu
 simp only[hd] at c40
 simp only[hmp] at c41
 have HL:Hid ((look N L B root va).k=0->(look N L B root va).l<=L.length -> ∃ B' L',Lays N va (toP pa perm) 2 B L root B' L'∧L=L.take (look N L B root va).l.toNat ++ L'):=fun h1 h2=>lays_look N va (toP pa perm) B L HR.out.nd HR.out.lt 2 root 0 0 0 0 h1 h2
 have hlen:=length_le N L h.mem.n1 h.nd h.lt
 have n2:=h.mem.n2
 generalize look N L B root va=x at *
 obtain⟨a0,a1,a2,l,e,k⟩:=x
 simp only[Pt.val] at c39
 obtain⟨hp1,hp2⟩:=hpa
 clear h hu hd hmp
 cases hnd:ndB N L root
 ·go_enter Tryz.func145,Tryz.ntmps145
  go_wp2_with (first|(go_at_call 104;refine c39.mono ?_;rintro r V0 ⟨rfl,hb0⟩;have b1:=hb0.trans ((below1 V0 (.cells #[.int .u64 a0,.int .u64 a1,.int .u64 a2,.int .i64 l,.int .u64 e,.int .i64 k] 169)).mono hb0.size);have c38:=isMade_any (HR.out.below b1);have c42:=(by have:=isNode_any (HR.out.below b1) root hr;rw[hnd] at this;exact this:Calls Tryz.prog 159 #[.pointer (some ⟨p,0,.none⟩),.int .u64 root] _ fun r w2=>r = .returned (.bool false)∧Below _ _ w2);have HB1:Hid (Below w.heap.size w (V0.alloc (.cells #[.int .u64 a0,.int .u64 a1,.int .u64 a2,.int .i64 l,.int .u64 e,.int .i64 k] 169))):=b1;clear b1 hb0)|(go_at_call 157;refine c38.mono ?_;rintro r V1 ⟨rfl,hV1⟩;subst hV1)|(go_at_call 158;refine(c40 _).mono ?_;rintro r V1 ⟨rfl,hV1⟩;subst hV1)|(go_at_call 178;refine(c41 _).mono ?_;rintro r V1 ⟨rfl,hV1⟩;subst hV1)|(go_at_call 159;refine c42.mono ?_;rintro r V2 ⟨rfl,hb2⟩))
  go_ret
  exact .inl ⟨hnd,rfl,HB1.out.trans (hb2.mono HB1.out.size)⟩
 ·by_cases hk:k=0
  ·subst hk
   obtain⟨n,hn⟩:∃ n:Int,n=L.length:=⟨_,rfl⟩
   have HN:Hid (n=L.length):=hn
   by_cases hlt:n<l
   ·go_enter Tryz.func145,Tryz.ntmps145
    go_upto_region 14 with(first|(go_at_call 104;refine c39.mono ?_;rintro r V0 ⟨rfl,hb0⟩;have b1:=hb0.trans ((below1 V0 (.cells #[.int .u64 a0,.int .u64 a1,.int .u64 a2,.int .i64 l,.int .u64 e,.int .i64 0] 169)).mono hb0.size);have c38:=isMade_any (HR.out.below b1);have c42:=(by have:=isNode_any (HR.out.below b1) root hr;rw[hnd] at this;exact this:Calls Tryz.prog 159 #[.pointer (some ⟨p,0,.none⟩),.int .u64 root] _ fun r w2=>r = .returned (.bool true)∧Below _ _ w2);have HB1:Hid (Below w.heap.size w (V0.alloc (.cells #[.int .u64 a0,.int .u64 a1,.int .u64 a2,.int .i64 l,.int .u64 e,.int .i64 0] 169))):=b1;clear b1 hb0)|(go_at_call 157;refine c38.mono ?_;rintro r V1 ⟨rfl,hV1⟩;subst hV1)|(go_at_call 158;refine(c40 _).mono ?_;rintro r V1 ⟨rfl,hV1⟩;subst hV1)|(go_at_call 178;refine(c41 _).mono ?_;rintro r V1 ⟨rfl,hV1⟩;subst hV1)|(go_at_call 159;refine c42.mono ?_;rintro r V2 ⟨rfl,hb2⟩;have C2:=(C6.new V0 (.int .u64 a0) (.int .u64 a1) (.int .u64 a2) (.int .i64 l) (.int .u64 e) (.int .i64 0) 169).below hb2;obtain⟨z0,z1,z2,z3,z4,z5,y0,y1,y2,y3,y4,y5⟩:=C2))
    have b2:=HB1.out.trans (hb2.mono HB1.out.size)
    have HB2:Hid (Below w.heap.size w V2):=b2
    have HZ:Hid (V0.heap.size<V2.heap.size):=zC z3
    have s27:∀ W,(W.cell? ⟨V0.heap.size,3,.none⟩=some (.int .i64 l)∧Below V2.heap.size V2 W)->Calls Tryz.prog 15 #[.pointer (some ⟨p,0,.none⟩)] W fun r W'=>r = .returned (.int .i64 n)∧(W'.cell? ⟨V0.heap.size,3,.none⟩=some (.int .i64 l)∧Below V2.heap.size V2 W'):=fun W hS=>by
     have R2:=HR.out.below (HB2.out.trans (hS.2.mono HB2.out.size))
     refine(count_any R2.mem (by omega)).mono ?_
     rintro r W' ⟨he,kk,rfl⟩
     have hb9:Below V2.heap.size V2 (W.drewN kk):=hS.2.trans (blw_drewN _ _ _)
     refine⟨he.trans ?_,hS.1,hb9⟩
     rw[HN.out]
     congr 2
     omega
    have j0:(V2.drew.cell? ⟨V0.heap.size,3,.none⟩=some (.int .i64 l)∧Below V2.heap.size V2 V2.drew):=⟨z3,zB.drew⟩
    clear c38 c40 c41 c42 hb2 b2 z0 z1 z2 z3 z4 z5 y0 y1 y2 y3 y4 y5
    go_region_held3 (fun W=>(W.cell? ⟨V0.heap.size,3,.none⟩=some (.int .i64 l)∧Below V2.heap.size V2 W)) (first|assumption|exact j0) (first|(go_at_call 15;refine(s27 _ (by assumption)).mono ?_;rintro r V3 ⟨rfl,hS3⟩))
    have HS3:Hid (Below V2.heap.size V2 V3):=hS3.2
    rename_i hHeld
    clear hS3 hHeld s27 j0
    go_wp2
    go_ret
    exact .inr (.inr (.inl ⟨hnd,rfl,by rw[<-HN.out];exact hlt,rfl,HB2.out.trans (HS3.out.mono HB2.out.size)⟩))
   ·obtain⟨B',L',hY,hT⟩:=HL.out rfl (by show l<=(L.length:Int);omega)
    have HY:Hid (Lays N va (toP pa perm) 2 B L root B' L'∧L=L.take l.toNat ++ L'):=⟨hY,hT⟩
    have c44:=fun W=>toPage_any pa perm hp W
    have htb:=toP_b pa perm
    have c43:Hid (∀ W,Below w.heap.size w W->Calls Tryz.prog 179 #[.pointer (some ⟨p,0,.none⟩),.int .u64 root,.int .u64 va,.agg #[.pointer (some ⟨p,0,.none⟩),.int .u64 (toP pa perm)]] W fun e w'=>(∃ v,e = .returned v)∧Ram w' p b m N B' L'∧Fra p b m W w'):=fun W hb=>lay_any (HR.out.below hb) root va (toP pa perm) hr hv htb hY
    have hlt2:l<=n:=by omega
    clear hY hT
    generalize toP pa perm=lf at *
    go_enter Tryz.func145,Tryz.ntmps145
    go_upto_region 14 with(first|(go_at_call 104;refine c39.mono ?_;rintro r V0 ⟨rfl,hb0⟩;have b1:=hb0.trans ((below1 V0 (.cells #[.int .u64 a0,.int .u64 a1,.int .u64 a2,.int .i64 l,.int .u64 e,.int .i64 0] 169)).mono hb0.size);have c38:=isMade_any (HR.out.below b1);have c42:=(by have:=isNode_any (HR.out.below b1) root hr;rw[hnd] at this;exact this:Calls Tryz.prog 159 #[.pointer (some ⟨p,0,.none⟩),.int .u64 root] _ fun r w2=>r = .returned (.bool true)∧Below _ _ w2);have HB1:Hid (Below w.heap.size w (V0.alloc (.cells #[.int .u64 a0,.int .u64 a1,.int .u64 a2,.int .i64 l,.int .u64 e,.int .i64 0] 169))):=b1;clear b1 hb0)|(go_at_call 157;refine c38.mono ?_;rintro r V1 ⟨rfl,hV1⟩;subst hV1)|(go_at_call 158;refine(c40 _).mono ?_;rintro r V1 ⟨rfl,hV1⟩;subst hV1)|(go_at_call 178;refine(c41 _).mono ?_;rintro r V1 ⟨rfl,hV1⟩;subst hV1)|(go_at_call 159;refine c42.mono ?_;rintro r V2 ⟨rfl,hb2⟩;have C2:=(C6.new V0 (.int .u64 a0) (.int .u64 a1) (.int .u64 a2) (.int .i64 l) (.int .u64 e) (.int .i64 0) 169).below hb2;obtain⟨z0,z1,z2,z3,z4,z5,y0,y1,y2,y3,y4,y5⟩:=C2))
    have b2:=HB1.out.trans (hb2.mono HB1.out.size)
    have HB2:Hid (Below w.heap.size w V2):=b2
    have HZ:Hid (V0.heap.size<V2.heap.size):=zC z3
    have s27:∀ W,(W.cell? ⟨V0.heap.size,3,.none⟩=some (.int .i64 l)∧Below V2.heap.size V2 W)->Calls Tryz.prog 15 #[.pointer (some ⟨p,0,.none⟩)] W fun r W'=>r = .returned (.int .i64 n)∧(W'.cell? ⟨V0.heap.size,3,.none⟩=some (.int .i64 l)∧Below V2.heap.size V2 W'):=fun W hS=>by
     have R2:=HR.out.below (HB2.out.trans (hS.2.mono HB2.out.size))
     refine(count_any R2.mem (by omega)).mono ?_
     rintro r W' ⟨he,kk,rfl⟩
     have hb9:Below V2.heap.size V2 (W.drewN kk):=hS.2.trans (blw_drewN _ _ _)
     refine⟨he.trans ?_,hS.1,hb9⟩
     rw[HN.out]
     congr 2
     omega
    have j0:(V2.drew.cell? ⟨V0.heap.size,3,.none⟩=some (.int .i64 l)∧Below V2.heap.size V2 V2.drew):=⟨z3,zB.drew⟩
    clear c38 c40 c41 c42 hb2 b2 z0 z1 z2 z3 z4 z5 y0 y1 y2 y3 y4 y5
    go_region_held3 (fun W=>(W.cell? ⟨V0.heap.size,3,.none⟩=some (.int .i64 l)∧Below V2.heap.size V2 W)) (first|assumption|exact j0) (first|(go_at_call 15;refine(s27 _ (by assumption)).mono ?_;rintro r V3 ⟨rfl,hS3⟩))
    have HS3:Hid (Below V2.heap.size V2 V3):=hS3.2
    rename_i hHeld
    clear hS3 hHeld s27 j0
    have b3:=HB2.out.trans (HS3.out.mono HB2.out.size)
    have c43':=c43.out V3 b3
    have HB3:Hid (Below w.heap.size w V3):=b3
    clear b3 c43
    go_wp2_with (first|(go_at_call 180;refine(c44 _).mono ?_;rintro r V4 ⟨rfl,hV4⟩;subst hV4)|(go_at_call 179;refine c43'.mono ?_;rintro r V5 ⟨⟨u,rfl⟩,hR5,hF5⟩)|fail)
    go_ret
    exact .inr (.inr (.inr ⟨hnd,rfl,by show l<=(L.length:Int);rw[<-HN.out];exact hlt2,rfl,B',L',HY.out.1,HY.out.2,hR5,(Fra.below HB3.out).trans hF5⟩))
  ·go_enter Tryz.func145,Tryz.ntmps145
   go_wp2_with (first|(go_at_call 104;refine c39.mono ?_;rintro r V0 ⟨rfl,hb0⟩;have b1:=hb0.trans ((below1 V0 (.cells #[.int .u64 a0,.int .u64 a1,.int .u64 a2,.int .i64 l,.int .u64 e,.int .i64 k] 169)).mono hb0.size);have c38:=isMade_any (HR.out.below b1);have c42:=(by have:=isNode_any (HR.out.below b1) root hr;rw[hnd] at this;exact this:Calls Tryz.prog 159 #[.pointer (some ⟨p,0,.none⟩),.int .u64 root] _ fun r w2=>r = .returned (.bool true)∧Below _ _ w2);have HB1:Hid (Below w.heap.size w (V0.alloc (.cells #[.int .u64 a0,.int .u64 a1,.int .u64 a2,.int .i64 l,.int .u64 e,.int .i64 k] 169))):=b1;clear b1 hb0)|(go_at_call 157;refine c38.mono ?_;rintro r V1 ⟨rfl,hV1⟩;subst hV1)|(go_at_call 158;refine(c40 _).mono ?_;rintro r V1 ⟨rfl,hV1⟩;subst hV1)|(go_at_call 178;refine(c41 _).mono ?_;rintro r V1 ⟨rfl,hV1⟩;subst hV1)|(go_at_call 159;refine c42.mono ?_;rintro r V2 ⟨rfl,hb2⟩;have C2:=(C6.new V0 (.int .u64 a0) (.int .u64 a1) (.int .u64 a2) (.int .i64 l) (.int .u64 e) (.int .i64 k) 169).below hb2;obtain⟨z0,z1,z2,z3,z4,z5,y0,y1,y2,y3,y4,y5⟩:=C2))
   go_ret
   exact .inr (.inl ⟨hnd,hk,rfl,HB1.out.trans (hb2.mono HB1.out.size)⟩)
end
end Rm
namespace Rm
open Go.RowKit
def needY (F:Nat->Option Nat) (va:Int):Nat:=if F (y1 va)=none then 2 else if F (y0 va)=none then 1 else 0
section
variable {w:World} {p b m N:Nat} {B:Nat->Int} {L:List Nat} {F:Nat->Option Nat} {lf:Nat->Nat->Int}
theorem look_needY (h:PT N L B F lf) (hN:N<=4096) {r:Nat} (hr:F 0=some r) (va:Int) (hz:lf (y0 va) (i0 va)=0):(look N L B (ad r) va).k=0∧(look N L B (ad r) va).l=(needY F va:Nat):=by
 unfold needY
 cases h1:F (y1 va) with
 |none=>
  rw[look_2 h hr va h1]
  simp
 |some g=>
  cases h0:F (y0 va) with
  |none=>
   rw[look_1 h hN hr va h1 h0]
   simp
  |some q=>
   rw[look_0 h hN hr va h1 h0,hz]
   simp[kd_zero]
theorem ad_b (f N:Nat) (h:f<N) (hN:N<=4096):0<=ad f∧ad f<72057594037927936∧ad f%4096=0:=by unfold ad;omega
theorem map_pt (h:Ram w p b m N B L) (hP:PT N L B F lf) {r:Nat} (hr:F 0=some r) (va pa perm:Int) (hv:0<=va) (hu:va%4096=0∧va<274877906944) (hpa:0<=pa∧pa%4096=0∧pa<72057594037927936)
  (hmp:(!ho perm 18446744073709551361 && ho perm 10 && (!hs perm 4 || hs perm 2))=true) (hk:kd (toP pa perm) 0=2∧0<=toP pa perm∧toP pa perm<18446744073709551616) (hz:lf (y0 va) (i0 va)=0) (hn:needY F va<=L.length) :
  Calls Tryz.prog 145 #[.pointer (some ⟨p,0,.none⟩),.int .u64 (ad r),.int .u64 va,.int .u64 pa,.int .u64 perm] w fun e w'=>e = .returned (.int .i64 0)∧∃ B' L' F',LP N va (toP pa perm) L B F lf L' B' F'∧L=L.take (needY F va) ++ L'∧Ram w' p b m N B' L'∧Fra p b m w w':=by
 have hN:=h.mem.n2
 have hrb:=ad_b r N (hP.held 0 r hr).2.1 hN
 obtain⟨l1,l2⟩:=look_needY hP hN hr va hz
 refine(map_late h (ad r) va pa perm ⟨hrb.1,by omega⟩ ⟨hv,by omega⟩ ⟨hpa.1,by omega⟩ hu ⟨hpa.2.1,hpa.2.2⟩ hmp).mono fun e w' hM=>?_
 unfold MapP at hM
 have hnd:=hP.ndB hr
 rw[l1,l2] at hM
 rcases hM with⟨h1,_⟩|⟨_,h1,_⟩|⟨_,_,h1,_⟩|⟨_,_,_,rfl,B',L',h1,h2,h3,h4⟩
 ·rw[hnd] at h1;cases h1
 ·exact absurd rfl h1
 ·omega
 ·obtain⟨F',R⟩:=lays_pt hP hN h.nd h.lt hr hk h1
  exact⟨rfl,B',L',F',R,by simpa using h2,h3,h4⟩
theorem PT.initY {i:Nat} (hi:1<=i∧i<N) (hL:i∉L):PT N L (zer B i) (fun x=>if x=0 then some i else none) (fun _ _=>0):=by
 refine⟨⟨i,by simp⟩,fun x f hf=>?_,fun x y f hx hy=>?_,fun x e hx he hne=>?_,fun x hx=>?_,fun x g hx hg e he=>?_,fun y g hy hg k hk=>?_,fun _ _=>.inl rfl,fun _ _ _=>rfl⟩
 ·by_cases e:x=0
  ·simp only[e,if_true,Option.some.injEq] at hf
   subst hf
   exact⟨hi.1,hi.2,hL⟩
  ·simp[e] at hf
 ·by_cases e:x=0<;>by_cases e2:y=0<;>simp_all
 ·have:=ch_pos x e
  simp[show ch x e≠0 by omega] at hne
 ·by_cases e:x=0
  ·omega
  ·simp[e] at hx
 ·by_cases e2:x=0
  ·simp only[e2,if_true,Option.some.injEq] at hg
   subst hg
   have:=ch_pos x e
   rw[evn_zer_same _ _ _ he]
   simp[show ch x e≠0 by omega,ptr]
  ·simp[e2] at hg
 ·simp[show y≠0 by omega] at hg
end
def isHd (N:Nat) (L:List Nat) (pa:Int):Prop:=∃ f:Nat,f<N∧f∉L∧pa=ad f
end Rm
namespace Rm
open Go.RowKit
section
variable {w:World} {p b m N:Nat} {B:Nat->Int} {L:List Nat} {F:Nat->Option Nat} {lf:Nat->Nat->Int}
theorem load1_any (h:Ram w p b m N B L) (pa:Int) (hp:0<=pa∧pa<18446744073709551616):∃ x ok,(ok=true↔isHd N L (pa/4096*4096)) ∧
  Calls Tryz.prog 152 #[.pointer (some ⟨p,0,.none⟩),.int .u64 pa,.int .i64 1] w fun e w'=>e = .returned (.tuple #[.int .u64 x,.bool ok])∧Below w.heap.size w w':=by
 have n2:=h.mem.n2
 by_cases ho:2147483648<=pa∧pa-2147483648+1<=4096*N
 ·obtain⟨o,rfl⟩:∃ o:Nat,pa=2147483648+o:=⟨(pa-2147483648).toNat,by omega⟩
  have hfN:o/4096<N:=by omega
  have hpg:(2147483648+(o:Int))/4096*4096=ad (o/4096):=by unfold ad;omega
  by_cases hL:o/4096∈L
  ·refine⟨0,false,?_,?_⟩
   ·constructor
    ·intro h;cases h
    ·rintro⟨f,h1,h2,h3⟩
     rw[hpg] at h3
     have:f=o/4096:=by unfold ad at h3;omega
     exact absurd (this ▸ hL) h2
   ·have c:=reach_hole h.mem o 1 (by omega) (by omega) (o/4096) (by omega) (by omega) (by rw[hdL_in hfN];simp[hL])
    exact load_no _ 1 (access_no _ 1 0 false c)
  ·refine⟨num B o 1,true,?_,?_⟩
   ·simp only[true_iff]
    exact⟨o/4096,hfN,hL,hpg⟩
   ·exact load_ok h.mem o 1 (.inl rfl) (by omega) (fun f h1 h2=>by
     have:f=o/4096:=by omega
     rw[this,hdL_in hfN]
     simp[hL])
 ·refine⟨0,false,?_,?_⟩
  ·constructor
   ·intro h;cases h
   ·rintro⟨f,h1,h2,h3⟩
    unfold ad at h3
    omega
  ·exact load_no _ 1 (access_no _ 1 0 false (reach_out h.mem pa 1 hp (by omega) (by omega) ho))
theorem held_any (h:Ram w p b m N B L) (pa:Int) (hp:0<=pa∧pa<18446744073709551616):∃ ok,(ok=true↔isHd N L pa) ∧
  Calls Tryz.prog 143 #[.pointer (some ⟨p,0,.none⟩),.int .u64 pa] w fun e w'=>e = .returned (.bool ok)∧Below w.heap.size w w':=by
 obtain⟨x,ok,h1,c⟩:=load1_any h pa hp
 refine⟨ok && decide (pa%4096=0),?_,?_⟩
 ·constructor
  ·intro e
   simp only[Bool.and_eq_true,decide_eq_true_eq] at e
   have:=h1.1 e.1
   rwa [show pa/4096*4096=pa by omega] at this
  ·intro e
   obtain⟨f,h2,h3,h4⟩:=e
   have h5:pa%4096=0:=by unfold ad at h4;omega
   rw[h1.2 (by rw[show pa/4096*4096=pa by omega];exact⟨f,h2,h3,h4⟩)]
   simp[h5]
 ·clear h h1
  cases ok
  ·go_enter Tryz.func143,Tryz.ntmps143
   go_wp2_with (go_at_call 152;refine c.mono ?_;rintro _ w1 ⟨rfl,b1⟩)
   go_ret
   exact⟨by simp,b1⟩
  ·by_cases h5:pa%4096=0
   ·go_enter Tryz.func143,Tryz.ntmps143
    go_wp2_with (go_at_call 152;refine c.mono ?_;rintro _ w1 ⟨rfl,b1⟩)
    go_ret
    exact⟨by simp[h5],b1⟩
   ·have h6:(pa%4096 == 0)=false:=by simpa using h5
    go_enter Tryz.func143,Tryz.ntmps143
    go_wp2_with (go_at_call 152;refine c.mono ?_;rintro _ w1 ⟨rfl,b1⟩)
    go_ret
    exact⟨by simp[h5],b1⟩
theorem two_any (h:Ram w p b m N B L) (a t:Int) (ha:0<=a∧a<18446744073709551616) (ht:0<=t∧t<18446744073709551616):∃ ok,(ok=true↔isHd N L a∧isHd N L t∧a≠t) ∧
  Calls Tryz.prog 91 #[.pointer (some ⟨p,0,.none⟩),.int .u64 a,.int .u64 t] w fun e w'=>e = .returned (.bool ok)∧Below w.heap.size w w':=by
 obtain⟨o1,h1,c1⟩:=held_any h a ha
 cases o1
 ·refine⟨false,?_,?_⟩
  ·constructor
   ·intro e;cases e
   ·intro e;exact absurd (h1.2 e.1) (by simp)
  ·clear h h1
   go_enter Tryz.func91,Tryz.ntmps91
   go_wp2_with (go_at_call 143;refine c1.mono ?_;rintro _ w1 ⟨rfl,b1⟩)
   go_ret
   exact⟨rfl,b1⟩
 ·have hy:∀ w',Below w.heap.size w w' -> ∃ ok,(ok=true↔isHd N L t)∧Calls Tryz.prog 143 #[.pointer (some ⟨p,0,.none⟩),.int .u64 t] w' fun e w''=>e = .returned (.bool ok)∧Below w'.heap.size w' w'':=fun w' b=>held_any (h.below b) t ht
  by_cases h2:isHd N L t
  ·have hy2:∀ w',Below w.heap.size w w'->Calls Tryz.prog 143 #[.pointer (some ⟨p,0,.none⟩),.int .u64 t] w' fun e w''=>e = .returned (.bool true)∧Below w'.heap.size w' w'':=fun w' b=>by
    obtain⟨ok,e1,e2⟩:=hy w' b
    obtain rfl:ok=true:=e1.2 h2
    exact e2
   have HY:Hid (∀ w',Below w.heap.size w w'->Calls Tryz.prog 143 #[.pointer (some ⟨p,0,.none⟩),.int .u64 t] w' fun e w''=>e = .returned (.bool true)∧Below w'.heap.size w' w''):=hy2
   refine⟨decide (a≠t),?_,?_⟩
   ·constructor
    ·intro e;exact⟨h1.1 rfl,h2,of_decide_eq_true e⟩
    ·intro e;exact decide_eq_true e.2.2
   ·clear h h1 hy hy2
    by_cases hat:a=t
    ·subst hat
     go_enter Tryz.func91,Tryz.ntmps91
     go_wp2_with first|(go_at_call_of 143 (.int .u64 a);refine c1.mono ?_;rintro _ w1 ⟨rfl,b1⟩)|(go_at_call 143;first|(refine(HY.out _ b1).mono ?_;rintro _ w2 ⟨rfl,b2⟩)|(refine c1.mono ?_;rintro _ w1 ⟨rfl,b1⟩))
     go_ret
     exact⟨by simp,b1.trans (b2.mono b1.size)⟩
    ·have hne:(a != t)=true:=by simpa using hat
     go_enter Tryz.func91,Tryz.ntmps91
     go_wp2_with (go_at_call 143;first|(refine(HY.out _ b1).mono ?_;rintro _ w2 ⟨rfl,b2⟩)|(refine c1.mono ?_;rintro _ w1 ⟨rfl,b1⟩))
     go_ret
     exact⟨by simp[hat],b1.trans (b2.mono b1.size)⟩
  ·have hy2:∀ w',Below w.heap.size w w'->Calls Tryz.prog 143 #[.pointer (some ⟨p,0,.none⟩),.int .u64 t] w' fun e w''=>e = .returned (.bool false)∧Below w'.heap.size w' w'':=fun w' b=>by
    obtain⟨ok,e1,e2⟩:=hy w' b
    cases ok
    ·exact e2
    ·exact absurd (e1.1 rfl) h2
   have HY:Hid (∀ w',Below w.heap.size w w'->Calls Tryz.prog 143 #[.pointer (some ⟨p,0,.none⟩),.int .u64 t] w' fun e w''=>e = .returned (.bool false)∧Below w'.heap.size w' w''):=hy2
   refine⟨false,?_,?_⟩
   ·constructor
    ·intro e;cases e
    ·intro e;exact absurd e.2.1 h2
   ·clear h h1 hy hy2 h2
    go_enter Tryz.func91,Tryz.ntmps91
    go_wp2_with (go_at_call 143;first|(refine(HY.out _ b1).mono ?_;rintro _ w2 ⟨rfl,b2⟩)|(refine c1.mono ?_;rintro _ w1 ⟨rfl,b1⟩))
    go_ret
    exact⟨rfl,b1.trans (b2.mono b1.size)⟩
end
end Rm
namespace Rm
open Go.RowKit
theorem tt_y1:y1 274877902848=y1 274877898752:=by decide
theorem tt_y0:y0 274877902848=y0 274877898752:=by decide
theorem tt_i0:i0 274877902848≠i0 274877898752:=by decide
theorem perm198:(!ho 198 18446744073709551361 && ho 198 10 && (!hs 198 4 || hs 198 2))=true:=by decide
theorem perm74:(!ho 74 18446744073709551361 && ho 74 10 && (!hs 74 4 || hs 74 2))=true:=by decide
theorem leaf_b (pa c:Int) (hp:0<=pa∧pa%4096=0∧pa<72057594037927936) (hc:0<=c∧c<256) (he:c%2=0) (h4:((c+1).toNat &&& 4=4)->((c+1).toNat &&& 2=2)) (h10:(c+1).toNat &&& 10≠0):kd (toP pa c) 0=2∧0<=toP pa c∧toP pa c<18446744073709551616:=by
 refine⟨kd_leaf pa c ⟨hp.1,hp.2.2⟩ hp.2.1 hc he ?_ ?_,?_⟩
 ·have e4:hs (toP pa c) 4=((((c+1).toNat &&& 4:Nat):Int) == ((4:Nat):Int)):=hs_toP pa c ⟨hp.1,hp.2.2⟩ (by omega) he 4 (by omega)
  have e2:hs (toP pa c) 2=((((c+1).toNat &&& 2:Nat):Int) == ((2:Nat):Int)):=hs_toP pa c ⟨hp.1,hp.2.2⟩ (by omega) he 2 (by omega)
  rw[e4,e2]
  intro h
  have h1:(c+1).toNat &&& 4=4:=Int.ofNat.inj (beq_iff_eq.1 h)
  exact beq_iff_eq.2 (congrArg Int.ofNat (h4 h1))
 ·have e10:ho (toP pa c) 10=((((c+1).toNat &&& 10:Nat):Int) != 0):=ho_toP pa c ⟨hp.1,hp.2.2⟩ (by omega) he 10 (by omega)
  rw[e10]
  simp only[bne_iff_ne,ne_eq]
  intro h
  exact h10 (Int.ofNat.inj h)
 ·rw[toP_val pa c ⟨hp.1,hp.2.2⟩ (by omega) he]
  omega
structure C2w (w:World) (x:Nat) (a b:Value):Prop where
 a:w.cell? ⟨x,0,.none⟩=some a
 b:w.cell? ⟨x,1,.none⟩=some b
 f:∀ k,w.frozen? ⟨x,k,.none⟩=false
theorem C2w.fra {w w':World} {x p b m:Nat} {u v:Value} (h:C2w w x u v) (f:Fra p b m w w') (h1:x≠p) (h2:x≠b) (h3:x≠m):C2w w' x u v:=
 have hl:x<w.heap.size:=zC h.a
 ⟨(f.cell (x:=⟨x,0,.none⟩) hl h1 h2 h3).trans h.a,(f.cell (x:=⟨x,1,.none⟩) hl h1 h2 h3).trans h.b,fun k=>(f.frozen (x:=⟨x,k,.none⟩) hl h1 h2 h3).trans (h.f k)⟩
section
variable {w:World} {p b m N:Nat} {B:Nat->Int}
end
end Rm
namespace Rm
open Go.RowKit
section
variable {w:World} {p b m N:Nat} {B:Nat->Int} {L:List Nat}
theorem len_le (h:Ram w p b m N B L):L.length<N:=length_le N L h.mem.n1 h.nd h.lt
theorem count_ram (h:Ram w p b m N B L):Calls Tryz.prog 15 #[.pointer (some ⟨p,0,.none⟩)] w fun e w'=>e = .returned (.int .i64 L.length)∧∃ k,w'=w.drewN k:=by
 have h1:=len_le h
 refine(count_any h.mem (by omega)).mono fun e w' ⟨h2,h3⟩=>⟨?_,h3⟩
 rw[h2]
 refine congrArg Ending.returned (congrArg (Value.int .i64) ?_)
 omega
theorem below_dr (w:World) (k:Nat):Below w.heap.size w (w.drewN k):=⟨rfl,rfl,rfl,Nat.le_refl _,fun _ _=>rfl⟩
end
end Rm
namespace Rm
open Go.RowKit
def LayP (w:World) (p b m N:Nat) (B:Nat->Int) (f:Nat) (L1:List Nat) (F:Nat->Option Nat) (lf:Nat->Nat->Int) (pg perm:Int) (e:Ending) (w':World):Prop:=e = .returned (.int .u64 (ad f))∧∃ B' L' F',LP N (pg*4096) (toP (ad f) perm) L1 (zer B f) F lf L' B' F'∧L1=L1.take (needY F (pg*4096)) ++ L'∧Ram w' p b m N B' L'∧Fra p b m w w'
section
variable {w:World} {p b m N:Nat} {B:Nat->Int} {F:Nat->Option Nat} {lf:Nat->Nat->Int}
theorem PT.zero {f:Nat} {L1:List Nat} (h:PT N (f :: L1) B F lf):PT N L1 (zer B f) F lf:=by
 have hfn:∀ x q,F x=some q->q≠f:=fun x q hx e=>(h.held x q hx).2.2 (by rw[e];exact List.mem_cons_self ..)
 exact h.keep (fun x q hx k hk=>zer_out _ _ _ (by rcases Nat.lt_or_gt_of_ne (hfn x q hx) with h|h<;>omega)) (fun x q hx hm=>(h.held x q hx).2.2 (List.mem_cons_of_mem _ hm))
theorem lay_pt {f:Nat} {L1:List Nat} (h:Ram w p b m N B (f :: L1)) (hP:PT N (f :: L1) B F lf) {r:Nat} (hr:F 0=some r) (pg perm:Int) (hpg:0<=pg∧pg<67108864)
  (hmp:(!ho perm 18446744073709551361 && ho perm 10 && (!hs perm 4 || hs perm 2))=true) (hk:kd (toP (ad f) perm) 0=2∧0<=toP (ad f) perm∧toP (ad f) perm<18446744073709551616) (hz:lf (y0 (pg*4096)) (i0 (pg*4096))=0) (hn:needY F (pg*4096)<=L1.length) :
  Calls Tryz.prog 184 #[.agg #[.pointer (some ⟨p,0,.none⟩),.int .u64 (ad r)],.int .i64 pg,.int .u64 perm] w (LayP w p b m N B f L1 F lf pg perm):=by
 have hN:=h.mem.n2
 have hf:=h.lt f (List.mem_cons_self ..)
 have hfb:=ad_b f N hf.2 hN
 obtain⟨X,hX⟩:∃ X,X=w.heap.size:=⟨_,rfl⟩
 obtain⟨w1,hw1⟩:∃ w1,w1=w.alloc (.cells #[.pointer (some ⟨p,0,.none⟩),.int .u64 (ad r)] 105):=⟨_,rfl⟩
 have b1:Below w.heap.size w w1:=by rw[hw1];exact zB.alloc zL _
 have k1:C2w w1 X (.pointer (some ⟨p,0,.none⟩)) (.int .u64 (ad r)):=by
  rw[hw1,hX]
  exact⟨by simp,by simp,fun k=>World.frozen?_alloc_new _ _ _ _⟩
 have hp:p<X:=by rw[hX];exact zC h.mem.c0
 have hb:b<X:=by rw[hX];exact zC (h.mem.cb 0 (by have:=h.mem.n1;omega))
 have hm:m<X:=by rw[hX];exact h.mem.mlt
 have c17:=alloc_some f (h.below b1)
 have HW:Hid (Below w.heap.size w w1∧C2w w1 X (.pointer (some ⟨p,0,.none⟩)) (.int .u64 (ad r))):=⟨b1,k1⟩
 have HP:Hid (PT N L1 (zer B f) F lf∧F 0=some r):=⟨hP.zero,hr⟩
 have kc0:=k1.a
 have kc1:=k1.b
 clear h hP b1 k1 hr
 go_enter Tryz.func184,Tryz.ntmps184
 go_upto_region 1 with fail
 rw[<-hw1,<-hX]
 have HXX:Hid (X=w.heap.size):=hX
 clear hw1 hX
 go_upto_region 2 with(go_at_call 9;refine c17.mono ?_;rintro _ w2 ⟨rfl,r2,f2⟩;have H2:Hid (Ram w2 p b m N (zer B f) L1∧Fra p b m w1 w2):=⟨r2,f2⟩;clear r2 f2 c17)
 have k2:=HW.out.2.fra H2.out.2 (by omega) (by omega) (by omega)
 have kS:w2.drew.cell? ⟨X,0,.none⟩=some (.pointer (some ⟨p,0,.none⟩))∧w2.drew.cell? ⟨X,1,.none⟩=some (.int .u64 (ad r)):=⟨k2.a,k2.b⟩
 have had:(2147483648+(f:Int)*4096)=ad f:=rfl
 rw[had]
 clear kc0 kc1 had
 refine wp_region_held_drew (S:=(fun U=>U.cell? ⟨X,0,.none⟩=some (.pointer (some ⟨p,0,.none⟩))∧U.cell? ⟨X,1,.none⟩=some (.int .u64 (ad r)))) (by kernel_rfl) kS (fun hHeld=>?_)
 refine aT 0 (.pointer (some ⟨X,0,.none⟩)) rfl ?_
 simp only[xX]
 refine aT 1 (.pointer (some ⟨p,0,.none⟩)) rfl ?_
 simp only[xX]
 refine aT 2 (.pointer (some ⟨X,1,.none⟩)) rfl ?_
 simp only[xX]
 refine aT 3 (.int .u64 (ad r)) rfl ?_
 simp only[xX]
 refine aT 4 (.int .i64 pg) rfl ?_
 simp only[xX]
 refine aT 6 (.int .u64 (ad f)) rfl ?_
 simp only[xX]
 refine aT 7 (.int .u64 perm) rfl ?_
 simp only[xX]
 refine zR 5 rfl (fun K hK=>?_)
 go_simp
 go_at_call 98
 refine(addrOf_any pg (by omega) _).mono ?_
 rintro _ w3 ⟨rfl,e3⟩
 obtain rfl:w2.drew=w3:=e3.symm
 refine hK.out _ _ kS (fun hHeld=>?_)
 clear hK K
 try simp only[xX]
 refine zR 8 rfl (fun K hK=>?_)
 have c1:=map_pt (w:=w2.drew) H2.out.1.drew HP.out.1 HP.out.2 (pg*4096) (ad f) perm (by omega) (by omega) ⟨hfb.1,hfb.2.2,hfb.2.1⟩ hmp hk hz hn
 go_simp
 go_at_call 145
 refine c1.mono ?_
 rintro _ w3 ⟨rfl,B',L',F',R,e1,r3,f3⟩
 have H3:Hid (LP N (pg*4096) (toP (ad f) perm) L1 (zer B f) F lf L' B' F'∧L1=L1.take (needY F (pg*4096)) ++ L'∧Ram w3 p b m N B' L'∧Fra p b m w w3):=⟨R,e1,r3,(Fra.below HW.out.1).trans (H2.out.2.trans ((Fra.below zB.drew).trans f3))⟩
 have k3:=k2.fra ((Fra.below zB.drew).trans f3) (by omega) (by omega) (by omega)
 clear R e1 r3 f3 c1
 refine hK.out _ _ ⟨k3.a,k3.b⟩ (fun hHeld=>?_)
 clear hK K
 try simp only[xX]
 refine wpAnyH_done (by kernel_rfl) ?_ _
 go_wp2_with fail
 go_ret
 exact⟨rfl,B',L',F',H3.out⟩
end
end Rm
namespace Rm
open Go.RowKit
def ndP (n:Int):Int:=if n=0 then 3 else 4+(n+511)/512
theorem ndP_any (n:Int) (h:0<=n∧n<=4096) (w:World):Calls Tryz.prog 207 #[.int .i64 n] w fun e w'=>e = .returned (.int .i64 (ndP n))∧w'=w:=by
 unfold ndP
 by_cases h0:n=0
 ·subst h0
  go_enter Tryz.func207,Tryz.ntmps207
  go_wp2
  go_ret
  exact⟨rfl,rfl⟩
 ·rw[if_neg h0,show n+511=n+512-1 by omega]
  have h1:(n == 0)=false:=by simpa using h0
  have h2:0<n:=by omega
  go_enter Tryz.func207,Tryz.ntmps207
  go_wp2
  go_ret
  exact⟨rfl,rfl⟩
def rgt (c:Int):Prop:=c=8∨c=2∨c=10∨c=6∨c=14
theorem mayS_any (c:Int) (h:rgt c) (w:World):Calls Tryz.prog 181 #[.int .u64 c] w fun e w'=>e = .returned (.bool true)∧w'=w:=by
 rcases h with rfl|rfl|rfl|rfl|rfl
 all_goals
  go_enter Tryz.func181,Tryz.ntmps181
  go_wp2
  go_ret
  exact⟨rfl,rfl⟩
theorem rgt_or {c:Int} (h:rgt c):bits .or .u64 c 16=c+16∧bits .or .u64 (c+16) 64=c+80∧bits .or .u64 (c+80) 128=c+208:=by
 rcases h with rfl|rfl|rfl|rfl|rfl<;>decide
theorem rgt_ok {c:Int} (h:rgt c):(!ho (c+208) 18446744073709551361 && ho (c+208) 10 && (!hs (c+208) 4 || hs (c+208) 2))=true:=by
 rcases h with rfl|rfl|rfl|rfl|rfl<;>decide
theorem rgt_leaf {c:Int} (h:rgt c) {f N:Nat} (hf:f<N) (hN:N<=4096):kd (toP (ad f) (c+208)) 0=2∧0<=toP (ad f) (c+208)∧toP (ad f) (c+208)<18446744073709551616:=by
 have hb:=ad_b f N hf hN
 rcases h with rfl|rfl|rfl|rfl|rfl<;>exact leaf_b _ _ ⟨hb.1,hb.2.2,hb.2.1⟩ (by decide) (by decide) (by decide) (by decide)
section
variable {w:World} {s p b m N:Nat} {root size:Int} {B:Nat->Int} {L:List Nat}
theorem each_zero (va:Int) (f g:Value) (w:World) (s:Nat):Calls Tryz.prog 49 #[.pointer (some ⟨s,0,.none⟩),.int .u64 va,.int .i64 0,f,g] w fun e w'=>e = .returned (.bool true)∧w'=w:=by
 go_enter Tryz.func49,Tryz.ntmps49
 go_wp2_with fail
 go_loopw [2] (fun k wr=>k = .int .i64 0∧wr=w) (fun _ _=>0)
 case atStart=>exact⟨rfl,rfl⟩
 case round=>
  obtain⟨rfl,rfl⟩:=hrel
  go_wp2
  go_ret
  exact⟨rfl,rfl⟩
theorem end_any (h:Sp w s p root size) (hs:0<=size∧size<=1099511627776):Calls Tryz.prog 48 #[.pointer (some ⟨s,0,.none⟩)] w fun e w'=>e = .returned (.int .u64 ((size+4095)/4096*4096))∧w'=w:=by
 have c77:=pages_sp h hs
 have c76:=addrOf_any ((size+4095)/4096) (by omega) w
 clear h
 go_enter Tryz.func48,Tryz.ntmps48
 go_wp2_with first|(go_at_call 99;refine c77.mono ?_;rintro _ w1 ⟨rfl,e1⟩;obtain rfl:w=w1:=e1.symm)|(go_at_call 98;refine c76.mono ?_;rintro _ w1 ⟨rfl,e1⟩;obtain rfl:w=w1:=e1.symm)
 go_ret
 exact⟨rfl,rfl⟩
set_option maxRecDepth 4000 in
theorem room_any (h:Sp w s p root size) (hR:Ram w p b m N B L) (P:Int) (hP:0<=P∧P<4096) (hs:size=P*4096) (hd:1+ndP (P+1)-ndP P<=L.length):Calls Tryz.prog 182 #[.pointer (some ⟨s,0,.none⟩),.int .i64 (P+1)] w fun e w'=>e = .returned (.bool true)∧∃ k,w'=w.drewN k:=by
 have c77:=pages_sp h (by omega)
 rw[show (size+4095)/4096=P by omega] at c77
 have c0:=h.c0
 have c10:=count_ram hR
 have d1:=ndP_any (P+1) (by omega) w
 have d2:=ndP_any P (by omega) w
 have hl:=len_le hR
 have n2:=hR.mem.n2
 have hb:0<=ndP P∧ndP P<=100∧0<=ndP (P+1)∧ndP (P+1)<=100:=by unfold ndP;split<;>split<;>omega
 generalize ndP P=u at *
 generalize ndP (P+1)=v at *
 generalize hg:L.length=g at *
 clear hs h hR hg
 have hd':P+1-P+v-u<=(g:Int):=by omega
 clear hd
 go_enter Tryz.func182,Tryz.ntmps182
 go_wp2_with (go_at_call 99;refine c77.mono ?_;rintro _ w1 ⟨rfl,e1⟩;obtain rfl:w=w1:=e1.symm)
 refine d1.mono ?_
 rintro _ w1 ⟨rfl,e1⟩
 obtain rfl:w=w1:=e1.symm
 go_wp2_with (go_at_call 99;refine c77.mono ?_;rintro _ w1 ⟨rfl,e1⟩;obtain rfl:w=w1:=e1.symm)
 refine d2.mono ?_
 rintro _ w1 ⟨rfl,e1⟩
 obtain rfl:w=w1:=e1.symm
 go_wp2_with (go_at_call 15;refine c10.mono ?_;rintro _ w1 ⟨rfl,k1,rfl⟩)
 go_ret
 exact⟨rfl,k1,rfl⟩
end
end Rm
namespace Rm
open Go.RowKit
section
variable {w:World} {s p b m N:Nat} {root size:Int} {B:Nat->Int} {L:List Nat}
theorem tail_zero (h:Sp w s p root size) (hs:0<=size∧size<=1099511627776) (ha:size%4096=0):Calls Tryz.prog 183 #[.pointer (some ⟨s,0,.none⟩)] w fun e w'=>e = .returned (.tuple #[])∧Below w.heap.size w w':=by
 obtain⟨X,hX⟩:∃ X,X=w.heap.size:=⟨_,rfl⟩
 obtain⟨w1,hw1⟩:∃ w1,w1=w.alloc (.cells #[.pointer (some ⟨s,0,.none⟩)] 42):=⟨_,rfl⟩
 have b1:Below w.heap.size w w1:=by rw[hw1];exact zB.alloc zL _
 have k1:w1.cell? ⟨X,0,.none⟩=some (.pointer (some ⟨s,0,.none⟩)):=by rw[hw1,hX];simp
 have h1:=h.below b1
 have hd:(w1.drew).heap.size=w1.heap.size:=rfl
 have bd:Below w1.heap.size w1 w1.drew:=zB.drew
 have h2:=h1.below bd
 have kS:w1.drew.cell? ⟨X,0,.none⟩=some (.pointer (some ⟨s,0,.none⟩))∧w1.drew.cell? ⟨s,2,.none⟩=some (.int .u64 size):=⟨k1,h2.c2⟩
 have c35:=end_any h2 hs
 rw[show (size+4095)/4096*4096=size by omega] at c35
 have HB:Hid (Below w.heap.size w w1):=b1
 have e0:IntKind.u64.wrap (size-size)=0:=by rw[IntKind.wrap_u64];omega
 have z0:IntKind.u64.wrap 0=0:=by decide
 have z1:IntKind.i64.wrap 0=0:=by decide
 clear h h1 h2 b1 k1 hd bd ha
 go_enter Tryz.func183,Tryz.ntmps183
 go_upto_region 1 with fail
 rw[<-hw1,<-hX]
 have HXX:Hid (X=w.heap.size):=hX
 clear hw1 hX
 refine wp_region_held_drew (S:=(fun U=>U.cell? ⟨X,0,.none⟩=some (.pointer (some ⟨s,0,.none⟩))∧U.cell? ⟨s,2,.none⟩=some (.int .u64 size))) (by kernel_rfl) kS (fun hHeld=>?_)
 refine aT 0 (.pointer (some ⟨s,0,.none⟩)) rfl ?_
 simp only[xX]
 refine aT 2 (.pointer (some ⟨s,0,.none⟩)) rfl ?_
 simp only[xX]
 refine aT 3 (.pointer (some ⟨s,0,.none⟩)) rfl ?_
 simp only[xX]
 refine aT 4 (.pointer (some ⟨s,2,.none⟩)) rfl ?_
 simp only[xX]
 refine aT 5 (.int .u64 size) rfl ?_
 simp only[xX]
 refine zR 1 rfl (fun K hK=>?_)
 go_simp
 go_at_call 48
 refine c35.mono ?_
 rintro _ w3 ⟨rfl,e3⟩
 obtain rfl:w1.drew=w3:=e3.symm
 refine hK.out _ _ kS (fun hHeld=>?_)
 clear hK K
 try simp only[xX]
 refine aT 6 (.int .u64 0) rfl ?_
 simp only[xX]
 refine aT 7 (.int .i64 0) rfl ?_
 simp only[xX]
 refine aT 8 (.int .i64 0) rfl ?_
 simp only[xX]
 refine wpAnyH_done (by kernel_rfl) ?_ _
 have kS2:w1.drew.drew.cell? ⟨X,0,.none⟩=some (.pointer (some ⟨s,0,.none⟩))∧w1.drew.drew.cell? ⟨s,2,.none⟩=some (.int .u64 size):=kS
 go_upto_region 2 with fail
 refine wp_region_held_drew (S:=(fun U=>U.cell? ⟨X,0,.none⟩=some (.pointer (some ⟨s,0,.none⟩))∧U.cell? ⟨s,2,.none⟩=some (.int .u64 size))) (by kernel_rfl) kS2 (fun hHeld=>?_)
 refine aT 0 (.pointer (some ⟨s,0,.none⟩)) rfl ?_
 simp only[xX]
 refine aT 1 (.pointer (some ⟨s,0,.none⟩)) rfl ?_
 simp only[xX]
 refine aT 2 (.pointer (some ⟨s,0,.none⟩)) rfl ?_
 simp only[xX]
 refine aT 3 (.pointer (some ⟨s,2,.none⟩)) rfl ?_
 simp only[xX]
 refine aT 4 (.int .u64 size) rfl ?_
 simp only[xX]
 refine aT 5 (.int .i64 0) rfl ?_
 simp only[xX]
 refine aT 6 (.pointer (some ⟨s,0,.none⟩)) rfl ?_
 simp only[xX]
 refine aT 7 (.func (.func 149) #[.pointer (some ⟨s,0,.none⟩)] #[]) rfl ?_
 simp only[xX]
 refine aT 8 (.func (.func 208) #[] #[.pointer (some ⟨X,0,.none⟩)]) rfl ?_
 simp only[xX]
 refine zR 9 rfl (fun K hK=>?_)
 go_simp
 go_at_call 49
 refine(each_zero _ _ _ _ _).mono ?_
 rintro _ w3 ⟨rfl,e3⟩
 obtain rfl:w1.drew.drew=w3:=e3.symm
 refine hK.out _ _ kS2 (fun hHeld=>?_)
 clear hK K
 try simp only[xX]
 refine wpAnyH_done (by kernel_rfl) ?_ _
 go_wp2_with fail
 refine bodyPost_end (v:=.tuple #[]) (by simp[results,Tryz.results183,go_sem]) rfl ⟨rfl,HB.out.drew.drew⟩
end
end Rm
namespace Rm
open Go.RowKit
def GrP (w:World) (s p b m N:Nat) (B:Nat->Int) (f:Nat) (L1:List Nat) (F:Nat->Option Nat) (lf:Nat->Nat->Int) (r:Nat) (P c:Int) (w':World):Prop:=
 Sp w' s p (ad r) ((P+1)*4096)∧(∃ B' L' F',LP N (P*4096) (toP (ad f) (c+208)) L1 (zer B f) F lf L' B' F'∧L1=L1.take (needY F (P*4096)) ++ L'∧Ram w' p b m N B' L') ∧
 w.heap.size<=w'.heap.size∧w'.os=w.os∧w'.tape=w.tape∧w'.output=w.output∧∀ k,k<w.heap.size->k≠p->k≠b->k≠m->k≠s->w'.heap[k]? = w.heap[k]?
def G1 (w:World) (s p b m N:Nat) (B:Nat->Int) (f:Nat) (L1:List Nat) (F:Nat->Option Nat) (lf:Nat->Nat->Int) (r:Nat) (P c:Int) (w':World):Prop:=
 Sp w' s p (ad r) (P*4096)∧Fra p b m w w'∧∃ B' L' F',LP N (P*4096) (toP (ad f) (c+208)) L1 (zer B f) F lf L' B' F'∧L1=L1.take (needY F (P*4096)) ++ L'∧Ram w' p b m N B' L'
section
variable {w:World} {s p b m N:Nat} {B:Nat->Int} {F:Nat->Option Nat} {lf:Nat->Nat->Int}
set_option maxRecDepth 4000 in
theorem grow_pt {f r:Nat} {L1:List Nat} {P c:Int} (hS:Sp w s p (ad r) (P*4096)) (h:Ram w p b m N B (f :: L1)) (hP:PT N (f :: L1) B F lf) (hr:F 0=some r) (hne:s≠p∧s≠b∧s≠m) (hPb:0<=P∧P<4096) (hc:rgt c)
  (hz:lf (y0 (P*4096)) (i0 (P*4096))=0) (hn:needY F (P*4096)<=L1.length) (hd:1+ndP (P+1)-ndP P<=(f :: L1).length) :
  Calls Tryz.prog 146 #[.pointer (some ⟨s,0,.none⟩),.int .u64 ((P+1)*4096),.int .u64 c] w fun e w'=>e = .returned (.int .i64 0)∧GrP w s p b m N B f L1 F lf r P c w':=by
 have hN:=h.mem.n2
 have hf:=h.lt f (List.mem_cons_self ..)
 have hcb:0<=c∧c<16:=by rcases hc with rfl|rfl|rfl|rfl|rfl<;>omega
 obtain⟨o1,o2,o3⟩:=rgt_or hc
 have c33:=fun W (hW:Sp W s p (ad r) (P*4096))=>made_sp hW
 have c147:=fun W=>mayS_any c hc W
 have c119:=fun W=>pagesOf_any ((P+1)*4096) (by omega) W
 rw[show ((P+1)*4096+4095)/4096=P+1 by omega] at c119
 have c77:=fun W (hW:Sp W s p (ad r) (P*4096))=>pages_sp hW (by omega)
 rw[show (P*4096+4095)/4096=P by omega] at c77
 have c148:=room_any hS h P hPb rfl hd
 have H0:Hid (Sp w s p (ad r) (P*4096)∧Ram w p b m N B (f :: L1)∧PT N (f :: L1) B F lf∧F 0=some r):=⟨hS,h,hP,hr⟩
 have HC:Hid (rgt c∧f<N∧N<=4096):=⟨hc,hf.2,hN⟩
 have k2:=hS.c2
 have k0:=hS.c0
 have k1:=hS.c1
 have hlt:=hS.lt
 clear hS h hP hr hd hc hf
 go_enter Tryz.func146,Tryz.ntmps146
 go_upto_region 7 with first|(go_at_call 46;refine(c33 _ H0.out.1).mono ?_;rintro _ w1 ⟨rfl,e1⟩;obtain rfl:w=w1:=e1.symm)|(go_at_call 181;refine(c147 _).mono ?_;rintro _ w1 ⟨rfl,e1⟩;obtain rfl:w=w1:=e1.symm)
 go_upto_region 9 with first|(go_at_call 112;refine(c119 _).mono ?_;rintro _ w1 ⟨rfl,e1⟩;obtain rfl:w=w1:=e1.symm)|(go_at_call 182;refine c148.mono ?_;rintro _ w1 ⟨rfl,k3,rfl⟩)
 obtain⟨wa,hwa⟩:∃ wa,wa=w.drewN k3:=⟨_,rfl⟩
 have ba:Below w.heap.size w wa:=by rw[hwa];exact below_dr w k3
 rw[<-hwa]
 clear hwa k2 k0 k1
 have Sa:=H0.out.1.below ba
 have HA:Hid (Below w.heap.size w wa):=ba
 have k2:=Sa.c2
 have c149:=tail_zero Sa (by omega) (by omega)
 have hgt:P<P+1:=by omega
 clear ba
 go_upto_region 11 with(go_at_call 183;refine c149.mono ?_;rintro _ wb ⟨rfl,b2⟩;have HBb:Hid (Below w.heap.size w wb):=HA.out.trans (b2.mono HA.out.size);clear b2 c149)
 have Sb:=H0.out.1.below HBb.out
 have d77:=c77 wb Sb
 clear Sb Sa k2 HA
 go_wp2_with (go_at_call 99;refine d77.mono ?_;rintro _ w1 ⟨rfl,e1⟩;obtain rfl:wb=w1:=e1.symm)
 go_loopw [7] (fun k wr=>(k = .int .i64 P∧Hid (Below w.heap.size w wr))∨(k = .int .i64 (P+1)∧Hid (G1 w s p b m N B f L1 F lf r P c wr))) (fun k _=>(P+1-intOf k).toNat)
 case atStart=>exact .inl ⟨rfl,HBb.out⟩
 case round=>
  rcases hrel with⟨rfl,HB⟩|⟨rfl,HG⟩
  ·have Sr:=H0.out.1.below HB.out
   have k0:=Sr.c0
   have k1:=Sr.c1
   have k2:=Sr.c2
   have c150:=lay_pt (H0.out.2.1.below HB.out) H0.out.2.2.1 H0.out.2.2.2 P (c+208) (by omega) (rgt_ok HC.out.1) (rgt_leaf HC.out.1 HC.out.2.1 HC.out.2.2) hz hn
   unfold LayP at c150
   have HSr:Hid (Sp wr s p (ad r) (P*4096)):=Sr
   clear Sr
   go_wp2_with first|(go_at_call 112;refine(c119 _).mono ?_;rintro _ w1 ⟨rfl,e1⟩;obtain rfl:wr=w1:=e1.symm)|(go_at_call 184;refine c150.mono ?_;rintro _ w2 ⟨rfl,B',L',F',R,e1,r2,f2⟩;have HG:Hid (G1 w s p b m N B f L1 F lf r P c w2):=⟨HSr.out.fra f2 hne.1 hne.2.1 hne.2.2,(Fra.below HB.out).trans f2,B',L',F',R,e1,r2⟩;clear R e1 r2 f2 c150)
   exact⟨.inr ⟨rfl,HG⟩,by simp only[intOf];omega⟩
  ·have k2:=HG.out.1.c2
   have kf:=HG.out.1.fr 2
   go_wp2_with (go_at_call 112;refine(c119 _).mono ?_;rintro _ w1 ⟨rfl,e1⟩;obtain rfl:wr=w1:=e1.symm)
   go_ret
   refine⟨rfl,?_⟩
   obtain⟨g1,g2,B',L',F',g3,g4,g5⟩:=HG.out
   refine⟨⟨(zO (by simp)).trans g1.c0,(zO (by simp)).trans g1.c1,World.cell?_setCell_same' _ _ _ (by rw[g1.c2];rfl),fun k=>by rw[World.frozen?_setCell];exact g1.fr k⟩,⟨B',L',F',g3,g4,?_⟩,?_,g2.os,g2.tape,g2.output,fun k hk h1 h2 h3 h4=>?_⟩
   ·exact g5.beside ⟨s,2,.none⟩ _ (fun e=>hne.1 e.symm) (fun e=>hne.2.1 e.symm) (fun e=>hne.2.2 e.symm)
   ·simpa [World.setCell] using g2.size
   ·exact(Below.heap_setCell _ _ _ _ (fun e=>h4 e)).trans (g2.block k hk h1 h2 h3)
end
end Rm
namespace Rm
open Go.RowKit
section
variable {w:World} {s p b m N:Nat} {B:Nat->Int} {L:List Nat} {F:Nat->Option Nat} {lf:Nat->Nat->Int}
theorem write_pg (h:Ram w p b m N B L) (q o n:Nat) (hq:q<N∧q∉L) (hn:1<=n) (ho:o+n<=4096) (g k c:Nat) (R:Nat->Int) (hR:∀ i,0<=R i∧R i<256) (hg:∀ i,i<n->w.cell? ⟨g,k+i,.none⟩=some (.int .u8 (R i))) :
  Calls Tryz.prog 103 #[.pointer (some ⟨p,0,.none⟩),.int .u64 (ad q+o),.slice (some ⟨g,k,.none⟩) n c] w fun e w'=>e = .returned (.bool true)∧Ram w' p b m N (over B (q*4096+o) ((List.range n).map R)) L∧Fra p b m w w':=by
 have hc:=write_ok h.mem (q*4096+o) n hn (by omega) (fun f h1 h2=>by
  have:f=q:=by omega
  rw[this,hdL_in hq.1]
  simp[hq.2]) g k c R hR hg
 rw[show (2147483648+((q*4096+o:Nat):Int))=ad q+o by unfold ad;omega] at hc
 refine hc.mono fun e w' ⟨h1,h2,h3⟩=>⟨h1,h.laid h2 (fun j hj=>?_),h3⟩
 have hjq:j≠q:=fun e=>hq.2 (e ▸ hj)
 simp only[List.length_map,List.length_range]
 rcases Nat.lt_or_gt_of_ne hjq with h|h<;>omega
theorem ext_lowY (va:Int) (h:0<=va∧va<274877906944):ext va=va:=by unfold ext;rw[if_pos (by omega)];omega
theorem leaf_pt (hP:PT N L B F lf) (hN:N<=4096) {r g1 q1:Nat} (hr:F 0=some r) (va:Int) (hv:0<=va∧va<274877906944) (h1:F (y1 va)=some g1) (h0:F (y0 va)=some q1) (hk:kd (lf (y0 va) (i0 va)) 0=2) :
  (if finds (look N L B (ad r) va) va=true then (look N L B (ad r) va).e else 0)=lf (y0 va) (i0 va):=by
 rw[look_0 hP hN hr va h1 h0]
 have:finds ⟨st (ad q1) va 0,st (ad g1) va 1,st (ad r) va 2,0,lf (y0 va) (i0 va),kd (lf (y0 va) (i0 va)) 0⟩ va=true:=by
  unfold finds
  rw[ext_lowY va hv]
  simp[hk]
 rw[if_pos this]
structure Pag (N:Nat) (L:List Nat) (F:Nat->Option Nat) (lf:Nat->Nat->Int) (va:Int) (q:Nat) (c:Int):Prop where
 w1:∃ g,F (y1 va)=some g
 w0:∃ g,F (y0 va)=some g
 l:lf (y0 va) (i0 va)=toP (ad q) c
 k:kd (toP (ad q) c) 0=2
 cb:0<=c∧c<256∧c%2=0
 qb:q<N∧q∉L
 nn:∀ x,F x≠some q
theorem Pag.val {va:Int} {q:Nat} {c:Int} (h:Pag N L F lf va q c) (hN:N<=4096):toP (ad q) c=ad q/4096*1024+c+1:=by
 have hb:=ad_b q N h.qb.1 hN
 exact toP_val _ _ ⟨hb.1,hb.2.1⟩ (by have:=h.cb;omega) h.cb.2.2
theorem kern_pt {r q:Nat} {size c:Int} (hS:Sp w s p (ad r) size) (h:Ram w p b m N B L) (hP:PT N L B F lf) (hr:F 0=some r) (va:Int) (hv:0<=va∧va<274877906944) (hq:Pag N L F lf va q c) :
  Calls Tryz.prog 149 #[.pointer (some ⟨s,0,.none⟩),.int .u64 va] w fun e w'=>e = .returned (.tuple #[.int .u64 (ad q+va%4096),.bool true])∧Below w.heap.size w w':=by
 have hN:=h.mem.n2
 have hb:=ad_b q N hq.qb.1 hN
 have hrb:=ad_b r N (hP.held 0 r hr).2.1 hN
 obtain⟨g1,e1⟩:=hq.w1
 obtain⟨g0,e0⟩:=hq.w0
 have c151:=leaf_any h (ad r) va ⟨hrb.1,by omega⟩ (by omega)
 rw[leaf_pt hP hN hr va hv e1 e0 (by rw[hq.l];exact hq.k),hq.l] at c151
 have hval:=hq.val hN
 have hcc:=hq.cb
 have hbd:0<=toP (ad q) c∧toP (ad q) c<18014398509481984:=by rw[hval];omega
 have hfr:toP (ad q) c/1024*4096=ad q:=by rw[hval];omega
 have hnz:(toP (ad q) c != 0)=true:=by
  have:toP (ad q) c≠0:=by rw[hval];omega
  simpa using this
 have c152:=fun W=>frameOf_any (toP (ad q) c) hbd W
 rw[hfr] at c152
 have hwr:IntKind.u64.wrap (ad q+va%4096)=ad q+va%4096:=by rw[IntKind.wrap_u64];omega
 have k0:=hS.c0
 have k1:=hS.c1
 generalize toP (ad q) c=tp at *
 clear h hP hq hval hfr hS e1 e0
 go_enter Tryz.func149,Tryz.ntmps149
 go_wp2_with first|(go_at_call 185;refine c151.mono ?_;rintro _ w1 ⟨rfl,b1⟩)|(go_at_call 128;refine(c152 _).mono ?_;rintro _ w2 ⟨rfl,e2⟩;obtain rfl:w1=w2:=e2.symm)
 refine bodyPost_ret (v:=.tuple #[.int .u64 (ad q+va%4096),.bool true]) (by simp[results,Tryz.results149,go_sem]) rfl ⟨rfl,b1⟩
end
end Rm
end Go.Proofs.YtabnipbdbnmmpaaGreatDoor
