import Derived.Test.YtabnipbdbnmmpaaGreatDoorLd01
import Derived.Test.YtabnipbdbnmmpaaGreatDoorLd07
import Derived.Laws.Bits64b
import Derived.Test.YtabnipbdbnmmpaaGreatDoorLd06
set_option linter.unusedVariables false
set_option linter.unusedSimpArgs false
set_option maxHeartbeats 8000000
namespace Go.Proofs.YtabnipbdbnmmpaaGreatDoor
namespace Rm
open Go.RowKit
def ext (va:Int):Int:=if va%549755813888<274877906944 then va%549755813888 else va%549755813888+18446743523953737728
theorem ext_any (va:Int) (hv:0<=va∧va<18446744073709551616) (w:World):Calls Tryz.prog 155 #[.int .u64 va] w fun r w'=>r = .returned (.int .u64 (ext va))∧w'=w:=by
 have h:IntKind.u64.wrap (wrap64 (IntKind.u64.wrap (va*33554432))/33554432)=ext va:=by
  rw[IntKind.wrap_u64,IntKind.wrap_u64]
  unfold wrap64 ext
  split<;>omega
 rw[<-h]
 clear h
 go_enter Tryz.func155,Tryz.ntmps155
 go_wp2
 go_ret
 exact⟨rfl,rfl⟩
theorem right_any (va:Int) (hv:0<=va∧va<18446744073709551616) (w:World):Calls Tryz.prog 105 #[.int .u64 va] w fun r w'=>r = .returned (.bool (va == ext va))∧w'=w:=by
 have c:=fun W=>ext_any va hv W
 go_enter Tryz.func105,Tryz.ntmps105
 go_wp2_with (go_at_call 155;refine(c _).mono ?_;rintro r w0 ⟨rfl,rfl⟩)
 go_ret
 exact⟨rfl,rfl⟩
theorem userPage_any (va:Int) (hv:0<=va∧va<18446744073709551616) (w:World):Calls Tryz.prog 158 #[.int .u64 va] w fun r w'=>r = .returned (.bool (decide (va%4096=0∧va<274877906944)))∧w'=w:=by
 by_cases k0:va%4096=0
 ·by_cases k1:va<274877906944
  ·have e:decide (va%4096=0∧va<274877906944)=true:=by simp[k0,k1]
   rw[e]
   go_enter Tryz.func158,Tryz.ntmps158
   go_wp2
   go_ret
   exact⟨by simp[k0,k1],rfl⟩
  ·have e:decide (va%4096=0∧va<274877906944)=false:=by simp[k1]
   rw[e]
   go_enter Tryz.func158,Tryz.ntmps158
   go_wp2
   go_ret
   exact⟨by simp[k0,k1],rfl⟩
 ·have e:decide (va%4096=0∧va<274877906944)=false:=by simp[k0]
  rw[e]
  go_enter Tryz.func158,Tryz.ntmps158
  go_wp2
  go_ret
  exact⟨rfl,rfl⟩
def finds (x:Pt) (va:Int):Bool:=x.k == 2 && va == ext va
section
variable {w:World} {p b m N:Nat} {B:Nat->Int} {L:List Nat}
theorem entry_any (h:Ram w p b m N B L) (root va:Int) (hr:0<=root∧root<18446744073709551616) (hv:0<=va∧va<18446744073709551616):Calls Tryz.prog 54 #[.pointer (some ⟨p,0,.none⟩),.int .u64 root,.int .u64 va] w fun r w'=>r = .returned (.tuple #[.int .u64 (if finds (look N L B root va) va then (look N L B root va).e else 0),.int .i64 (if finds (look N L B root va) va then (look N L B root va).l else 0),.bool (finds (look N L B root va) va)])∧Below w.heap.size w w':=by
 have c:=look_any h root va hr hv
 have c49:=fun W=>right_any va hv W
 clear h
 generalize look N L B root va=x at *
 obtain⟨a0,a1,a2,l,e,k⟩:=x
 simp only[Pt.val,finds] at c ⊢
 by_cases hk:k=2
 ·subst hk
  have hrt:(va == ext va)=false∨(va == ext va)=true:=by cases (va == ext va)<;>simp
  rcases hrt with hrt|hrt
  ·simp only[hrt] at c49
   simp only[hrt,beq_self_eq_true,Bool.and_false,Bool.false_eq_true,if_false]
   go_enter Tryz.func54,Tryz.ntmps54
   go_wp2_with (first|(go_at_call 104;refine c.mono ?_;rintro r w0 ⟨rfl,hb⟩)|(go_at_call 105;refine(c49 _).mono ?_;rintro r w1 ⟨rfl,rfl⟩))
   go_ret3
   exact⟨rfl,hb.trans ((below1 _ _).mono hb.size)⟩
  ·simp only[hrt] at c49
   simp only[hrt,beq_self_eq_true,Bool.and_true,if_true]
   go_enter Tryz.func54,Tryz.ntmps54
   go_wp2_with (first|(go_at_call 104;refine c.mono ?_;rintro r w0 ⟨rfl,hb⟩)|(go_at_call 105;refine(c49 _).mono ?_;rintro r w1 ⟨rfl,rfl⟩))
   go_quiet (fail)
   go_wp2
   go_ret3
   exact⟨rfl,(hb.trans ((below1 _ _).mono hb.size)).trans (blw_drewN _ _ _)⟩
 ·have hk2:(k == 2)=false:=by simpa using hk
  simp only[hk2,Bool.false_and,Bool.false_eq_true,if_false]
  go_enter Tryz.func54,Tryz.ntmps54
  go_wp2_with (first|(go_at_call 104;refine c.mono ?_;rintro r w0 ⟨rfl,hb⟩))
  go_ret3
  exact⟨rfl,hb.trans ((below1 _ _).mono hb.size)⟩
theorem isMade_any (h:Ram w p b m N B L):Calls Tryz.prog 157 #[.pointer (some ⟨p,0,.none⟩)] w fun r w'=>r = .returned (.bool true)∧w'=w:=by
 have c:=frames_any h.mem
 have n1:=h.mem.n1
 have hN:(0:Int)<N:=by omega
 clear h
 go_enter Tryz.func157,Tryz.ntmps157
 go_wp2_with (go_at_call 41;refine c.mono ?_;rintro r w0 ⟨rfl,rfl⟩)
 go_ret
 exact⟨by simp;omega,rfl⟩
theorem new_some (i:Nat) {l:List Nat} (h:Ram w p b m N B (i :: l)):Calls Tryz.prog 144 #[.pointer (some ⟨p,0,.none⟩)] w fun r w'=>r = .returned (.tuple #[.int .u64 (2147483648+i*4096),.int .i64 0])∧Ram w' p b m N (zer B i) l∧Fra p b m w w':=by
 have c:=isMade_any h
 have c1:=alloc_some i h
 clear h
 go_enter Tryz.func144,Tryz.ntmps144
 go_wp2_with (first|(go_at_call 157;refine c.mono ?_;rintro r w0 ⟨rfl,rfl⟩)|(go_at_call 9;refine c1.mono ?_;rintro r w1 ⟨rfl,hR,hF⟩))
 go_ret2
 exact⟨rfl,hR,hF⟩
theorem isNode_any (h:Ram w p b m N B L) (nd:Int) (hn:0<=nd∧nd<18446744073709551616):Calls Tryz.prog 159 #[.pointer (some ⟨p,0,.none⟩),.int .u64 nd] w fun r w'=>r = .returned (.bool (ndB N L nd))∧Below w.heap.size w w':=by
 have c65:=fun W=>mayBeNode_any nd hn W
 cases hnd:ndB N L nd
 ·by_cases hal:nd%4096=0∧nd≠2147483648
  ·have c64:=load_free h nd 0 hn hal.1 (by omega) (ndB_not hnd hal.1 hal.2)
   rw[show nd+((0:Nat):Int)*8=nd by omega] at c64
   clear h hnd hal
   go_enter Tryz.func159,Tryz.ntmps159
   go_wp2_with (first|(go_at_call 152;refine c64.mono ?_;rintro r w0 ⟨rfl,hb⟩))
   go_ret
   exact⟨rfl,hb⟩
  ·have mb:decide (nd%4096=0∧nd≠2147483648)=false:=by simpa using hal
   simp only[mb] at c65
   have c64:=load_any h nd hn
   clear h hnd hal mb
   go_enter Tryz.func159,Tryz.ntmps159
   go_wp2_with (first|(go_at_call 152;refine c64.mono ?_;rintro r w0 ⟨⟨x,ok,rfl,h0,h1⟩,hb⟩;cases ok)|(go_at_call 153;refine(c65 _).mono ?_;rintro r w1 ⟨rfl,rfl⟩))
   all_goals go_ret
   all_goals exact⟨rfl,hb⟩
 ·obtain⟨q1,q2,q3,q4⟩:=ndB_spec hnd
  have mb:decide (nd%4096=0∧nd≠2147483648)=true:=by simp;omega
  simp only[mb] at c65
  have c64:=load_held h (fi nd) 0 q3 q4 (by omega)
  rw[show 2147483648+(fi nd:Int)*4096+((0:Nat):Int)*8=nd by omega] at c64
  generalize num B (fi nd*4096+0*8) 8=x at *
  clear h hnd mb q1 q2 q3 q4
  go_enter Tryz.func159,Tryz.ntmps159
  go_wp2_with (first|(go_at_call 152;refine c64.mono ?_;rintro r w0 ⟨rfl,hb⟩)|(go_at_call 153;refine(c65 _).mono ?_;rintro r w1 ⟨rfl,rfl⟩))
  go_ret
  exact⟨rfl,hb⟩
end
end Rm
namespace Rm
open Go.RowKit
def toP (pa c:Int):Int:=bits .or .u64 (bits .or .u64 (pa/4096*1024) c) 1
theorem toPage_any (pa c:Int) (hp:0<=pa∧pa<18446744073709551616) (w:World):Calls Tryz.prog 180 #[.int .u64 pa,.int .u64 c] w fun r w'=>r = .returned (.int .u64 (toP pa c))∧w'=w:=by
 unfold toP
 go_enter Tryz.func180,Tryz.ntmps180
 go_wp2
 go_ret
 exact⟨rfl,rfl⟩
theorem mayPerm_any (c:Int) (w:World):Calls Tryz.prog 178 #[.int .u64 c] w fun r w'=>r = .returned (.bool (!ho c 18446744073709551361 && ho c 10 && (!hs c 4 || hs c 2)))∧w'=w:=by
 have c68:=fun W=>readIf_any c W
 generalize (!hs c 4 || hs c 2)=x at *
 have h1:ho c 18446744073709551361=false∨ho c 18446744073709551361=true:=by cases ho c 18446744073709551361<;>simp
 have h2:ho c 10=false∨ho c 10=true:=by cases ho c 10<;>simp
 rcases h1 with h1|h1<;>rcases h2 with h2|h2
 all_goals
  simp only[h1,h2]
  go_enter Tryz.func178,Tryz.ntmps178
  go_wp2_with (first|(go_at_call 188;refine(hasOne_any _ _ _).mono ?_;rintro r w0 ⟨rfl,rfl⟩)|(go_at_call 187;refine(c68 _).mono ?_;rintro r w0 ⟨rfl,rfl⟩))
  go_ret
  exact⟨by simp,rfl⟩
theorem or_b (a c:Int):0<=bits .or .u64 a c∧bits .or .u64 a c<18446744073709551616:=by
 have e:bits .or .u64 a c=IntKind.u64.wrap (((BitVec.ofInt 64 a ||| BitVec.ofInt 64 c).toNat:Nat):Int):=rfl
 rw[e,IntKind.wrap_u64]
 omega
theorem toP_b (pa c:Int):0<=toP pa c∧toP pa c<18446744073709551616:=or_b _ _
section
variable {w w':World} {p b m N:Nat} {B:Nat->Int} {L:List Nat}
theorem Ram.laid (h:Ram w p b m N B L) {o:Nat} {vs:List Int} (hm:Mem w' p b m N (over B o vs) (adr L) (hdL N L) (N-L.length)) (hf:∀ j∈L,o+vs.length<=j*4096∨j*4096+4096<=o):Ram w' p b m N (over B o vs) L:=
 ⟨hm,h.nd,h.lt,h.thr.congr (fun j hj k hk=>by
  have:=hf j hj
  unfold over
  rw[if_neg (by omega)])⟩
theorem store_nd (h:Ram w p b m N B L) (nd va l v:Int) (hn:ndB N L nd=true) (hv:0<=v∧v<18446744073709551616):Calls Tryz.prog 160 #[.pointer (some ⟨p,0,.none⟩),.int .u64 (nd+ix va l*8),.int .i64 8,.int .u64 v] w fun e w'=>e = .returned (.bool true)∧Ram w' p b m N (over B (fi nd*4096+(ix va l).toNat*8) (le v 8)) L∧Fra p b m w w':=by
 obtain⟨h1,h2,h3,h4⟩:=ndB_spec hn
 have hb:=ix_b va l
 have c:=store_ok h.mem (fi nd*4096+(ix va l).toNat*8) 8 (by omega) (by omega) (fun f k1 k2=>by
  obtain rfl:f=fi nd:=by omega
  rw[hdL_in h3]
  simp[h4]) v hv
 rw[show (2147483648+((fi nd*4096+(ix va l).toNat*8:Nat):Int))=nd+ix va l*8 by omega] at c
 refine c.mono ?_
 rintro e w2 ⟨he,hm,hF⟩
 refine⟨he,h.laid hm (fun j hj=>?_),hF⟩
 have hne:j≠fi nd:=fun e=>h4 (e ▸ hj)
 rw[le_len]
 omega
theorem meetL_keep (q:Option Addr) (leaf l at_ e:Int) (he:0<=e∧e<18446744073709551616) (hl:l=0∨l=1∨l=2) (hk:kd e l≠0) (w:World):Calls Tryz.prog 243 #[.agg #[.pointer q,.int .u64 leaf],.int .i64 l,.int .u64 at_,.int .u64 e] w fun r w'=>r = .returned (.tuple #[.int .u64 e,.bool true])∧Below w.heap.size w w':=by
 have c66:=fun W=>kind_any e l he hl W
 generalize kd e l=k at *
 have hk2:(k != 0)=true:=by simpa using hk
 go_enter Tryz.func243,Tryz.ntmps243
 go_wp2_with (first|(go_at_call 154;refine(c66 _).mono ?_;rintro r w0 ⟨rfl,rfl⟩))
 go_ret2
 exact⟨rfl,below1 _ _⟩
theorem meetL_leaf (h:Ram w p b m N B L) (nd va leaf e:Int) (hn:ndB N L nd=true) (hv:0<=leaf∧leaf<18446744073709551616) (he:0<=e∧e<18446744073709551616) (hk:kd e 0=0):Calls Tryz.prog 243 #[.agg #[.pointer (some ⟨p,0,.none⟩),.int .u64 leaf],.int .i64 0,.int .u64 (nd+ix va 0*8),.int .u64 e] w fun r w'=>r = .returned (.tuple #[.int .u64 leaf,.bool true])∧Ram w' p b m N (over B (fi nd*4096+(ix va 0).toNat*8) (le leaf 8)) L∧Fra p b m w w':=by
 have c66:=fun W=>kind_any e 0 he (by omega) W
 have b0:=below1 w (.cells #[.pointer (some ⟨p,0,.none⟩),.int .u64 leaf] 248)
 have c47:=store_nd (h.below b0) nd va 0 leaf hn hv
 have HF:Hid (Fra p b m w _):=Fra.below b0
 rw[hk] at c66
 clear h b0 hk
 generalize nd+ix va 0*8=at_ at *
 go_enter Tryz.func243,Tryz.ntmps243
 go_wp2_with (first|(go_at_call 154;refine(c66 _).mono ?_;rintro r w0 ⟨rfl,rfl⟩)|(go_at_call 160;refine c47.mono ?_;rintro r w1 ⟨rfl,hR,hF⟩))
 go_ret2
 exact⟨rfl,hR,HF.out.trans hF⟩
theorem meetL_node {i:Nat} {l':List Nat} (h:Ram w p b m N B (i :: l')) (nd va leaf l e:Int) (hl:l=1∨l=2) (hn:ndB N l' nd=true) (he:0<=e∧e<18446744073709551616) (hk:kd e l=0):Calls Tryz.prog 243 #[.agg #[.pointer (some ⟨p,0,.none⟩),.int .u64 leaf],.int .i64 l,.int .u64 (nd+ix va l*8),.int .u64 e] w fun r w'=>r = .returned (.tuple #[.int .u64 (toP (2147483648+i*4096) 0),.bool true])∧Ram w' p b m N (over (zer B i) (fi nd*4096+(ix va l).toNat*8) (le (toP (2147483648+i*4096) 0) 8)) l'∧Fra p b m w w':=by
 have c66:=fun W=>kind_any e l he (by omega) W
 have b0:=below1 w (.cells #[.pointer (some ⟨p,0,.none⟩),.int .u64 leaf] 248)
 have c22:=alloc_some i (h.below b0)
 have hi:=h.lt i (by simp)
 have n2:=h.mem.n2
 have c44:=fun W=>toPage_any (2147483648+i*4096) 0 (by omega) W
 have HF:Hid (Fra p b m w _):=Fra.below b0
 have HP:=toP_b (2147483648+(i:Int)*4096) 0
 have c47:Hid (∀ W,Ram W p b m N (zer B i) l'->Calls Tryz.prog 160 #[.pointer (some ⟨p,0,.none⟩),.int .u64 (nd+ix va l*8),.int .i64 8,.int .u64 (toP (2147483648+i*4096) 0)] W fun e w'=>e = .returned (.bool true)∧Ram w' p b m N (over (zer B i) (fi nd*4096+(ix va l).toNat*8) (le (toP (2147483648+i*4096) 0) 8)) l'∧Fra p b m W w'):=fun W hW=>store_nd hW nd va l _ hn HP
 have hlt:(0:Int)<l:=by omega
 rw[hk] at c66
 have P0:=(below1 w (.cells #[.pointer (some ⟨p,0,.none⟩),.int .u64 leaf] 248))
 have hpw:p<w.heap.size:=h.mem.plt
 have hbw:b<w.heap.size:=h.mem.blt
 have hmw:m<w.heap.size:=h.mem.mlt
 have HZ:Hid (∀ W,Fra p b m (w.alloc (.cells #[.pointer (some ⟨p,0,.none⟩),.int .u64 leaf] 248)) W->W.cell? ⟨w.heap.size,0,.none⟩=some (.pointer (some ⟨p,0,.none⟩))):=fun W hF=>(hF.cell (x:=⟨w.heap.size,0,.none⟩) (by simp) (by show w.heap.size≠p;omega) (by show w.heap.size≠b;omega) (by show w.heap.size≠m;omega)).trans (by simp)
 clear h b0 hk P0 hpw hbw hmw hi
 generalize nd+ix va l*8=at_ at *
 generalize toP (2147483648+i*4096) 0=tp at *
 go_enter Tryz.func243,Tryz.ntmps243
 go_wp2_with (first|(go_at_call 154;refine(c66 _).mono ?_;rintro r w0 ⟨rfl,rfl⟩)|(go_at_call 9;refine c22.mono ?_;rintro r V1 ⟨rfl,hR1,hF1⟩;have z1:=HZ.out V1 hF1;have c47':=c47.out V1 hR1;have HF1:Hid (Fra p b m (w.alloc (.cells #[.pointer (some ⟨p,0,.none⟩),.int .u64 leaf] 248)) V1):=hF1;clear hR1 hF1 c22)|(go_at_call 180;refine(c44 _).mono ?_;rintro r V1 ⟨rfl,rfl⟩)|(go_at_call 160;refine c47'.mono ?_;rintro r V2 ⟨rfl,hR,hF⟩))
 go_ret2
 exact⟨rfl,hR,(HF.out.trans HF1.out).trans hF⟩
end
end Rm
namespace Rm
open Go.RowKit
theorem land_low (x c:Nat) (hc:c<1024):x &&& c=(x%1024) &&& c:=by
 have e:c=1023 &&& c:=by
  have:c%1024=c:=Nat.mod_eq_of_lt hc
  have h:=Nat.and_two_pow_sub_one_eq_mod c 10
  rw[Nat.and_comm]
  simpa [this] using h.symm
 have h2:x%1024=x &&& 1023:=(Nat.and_two_pow_sub_one_eq_mod x 10).symm
 rw[h2,Nat.and_assoc,<-e]
theorem and_low (e:Int) (he:0<=e∧e<18446744073709551616) (c:Nat) (hc:c<1024):bits .and .u64 e c=(((e%1024).toNat &&& c:Nat):Int):=by
 obtain⟨n,rfl⟩:∃ n:Nat,e=n:=⟨e.toNat,by omega⟩
 have h:=bits_and_u64_nat n c (by omega) (by omega)
 rw[h,land_low n c hc]
 congr 2
theorem join_u (i:Nat) (x y:Int) (hx₀:0<=x) (hx:x%2 ^ i=0) (hx₁:x<18446744073709551616) (hy₀:0<=y) (hy:y<2 ^ i) (hy₁:y<18446744073709551616):bits .or .u64 x y=x+y:=
 bits_join .u64 64 (by decide) (fun n h0 h1=>by rw[IntKind.wrap_u64];omega) i x y hx₀ hx (by omega) hy₀ hy (by omega)
theorem toP_val (pa c:Int) (hp:0<=pa∧pa<72057594037927936) (hc:0<=c∧c<1023) (he:c%2=0):toP pa c=pa/4096*1024+c+1:=by
 unfold toP
 rw[join_u 10 (pa/4096*1024) c (by omega) (by omega) (by omega) hc.1 (by omega) (by omega),join_u 1 (pa/4096*1024+c) 1 (by omega) (by omega) (by omega) (by omega) (by omega) (by omega)]
theorem adE_toP (pa c:Int) (hp:0<=pa∧pa<72057594037927936) (ha:pa%4096=0) (hc:0<=c∧c<1023) (he:c%2=0):adE (toP pa c)=pa:=by
 rw[toP_val pa c hp hc he]
 unfold adE
 omega
theorem hs_toP (pa c:Int) (hp:0<=pa∧pa<72057594037927936) (hc:0<=c∧c<1023) (he:c%2=0) (d:Nat) (hd:d<1024):hs (toP pa c) d=((((c+1).toNat &&& d:Nat):Int) == (d:Int)):=by
 have hv:=toP_val pa c hp hc he
 unfold hs
 rw[and_low (toP pa c) (toP_b pa c) d hd,hv,show (pa/4096*1024+c+1)%1024=c+1 by omega]
theorem ho_toP (pa c:Int) (hp:0<=pa∧pa<72057594037927936) (hc:0<=c∧c<1023) (he:c%2=0) (d:Nat) (hd:d<1024):ho (toP pa c) d=((((c+1).toNat &&& d:Nat):Int) != 0):=by
 have hv:=toP_val pa c hp hc he
 unfold ho
 rw[and_low (toP pa c) (toP_b pa c) d hd,hv,show (pa/4096*1024+c+1)%1024=c+1 by omega]
theorem kd_node (pa l:Int) (hp:0<=pa∧pa<72057594037927936) (hl:l=1∨l=2):kd (toP pa 0) l=3:=by
 have h1:=hs_toP pa 0 hp (by omega) (by omega) 1 (by omega)
 have h4:=hs_toP pa 0 hp (by omega) (by omega) 4 (by omega)
 have h10:=ho_toP pa 0 hp (by omega) (by omega) 10 (by omega)
 have h208:=ho_toP pa 0 hp (by omega) (by omega) 208 (by omega)
 have hv:=toP_val pa 0 hp (by omega) (by omega)
 have e1:hs (toP pa 0) 1=true:=h1
 have e4:hs (toP pa 0) 4=false:=h4
 have e10:ho (toP pa 0) 10=false:=h10
 have e208:ho (toP pa 0) 208=false:=h208
 have hlt:¬ 18014398509481984<=toP pa 0:=by rw[hv];omega
 unfold kd
 simp only[e1,e4,e10,e208,hlt,Bool.false_eq_true,if_false,false_and]
 rcases hl with rfl|rfl<;>simp
theorem kd_leaf (pa c:Int) (hp:0<=pa∧pa<72057594037927936) (ha:pa%4096=0) (hc:0<=c∧c<256) (he:c%2=0) (hrw:hs (toP pa c) 4=true->hs (toP pa c) 2=true) (hrx:ho (toP pa c) 10=true):kd (toP pa c) 0=2:=by
 have h1:=hs_toP pa c hp (by omega) he 1 (by omega)
 have e1:hs (toP pa c) 1=true:=by
  have hx:((c+1).toNat &&& 1:Nat)=1:=by
   rw[Nat.and_one_is_mod]
   omega
  rw[show hs (toP pa c) 1=((((c+1).toNat &&& 1:Nat):Int) == ((1:Nat):Int)) from h1,hx]
  rfl
 have hv:=toP_val pa c hp (by omega) he
 have hlt:¬ 18014398509481984<=toP pa c:=by rw[hv];omega
 have hno:¬ (hs (toP pa c) 4=true∧hs (toP pa c) 2=false):=fun e=>by
  have:=hrw e.1
  rw[this] at e
  simp at e
 unfold kd
 rw[if_neg (by rw[e1];simp),if_neg hlt,if_neg hno,if_pos hrx,adE_toP pa c hp ha (by omega) he,spn0,if_pos ha]
end Rm
namespace Rm
open Go.RowKit
theorem C6.fra {W W':World} {p b m P:Nat} {x0 x1 x2 x3 x4 x5:Value} (h:C6 W P x0 x1 x2 x3 x4 x5) (f:Fra p b m W W') (h1:P≠p) (h2:P≠b) (h3:P≠m):C6 W' P x0 x1 x2 x3 x4 x5:=by
 have hP:P<W.heap.size:=zC h.c0
 exact⟨(f.cell (x:=⟨P,0,.none⟩) hP h1 h2 h3).trans h.c0,(f.cell (x:=⟨P,1,.none⟩) hP h1 h2 h3).trans h.c1,(f.cell (x:=⟨P,2,.none⟩) hP h1 h2 h3).trans h.c2,(f.cell (x:=⟨P,3,.none⟩) hP h1 h2 h3).trans h.c3,(f.cell (x:=⟨P,4,.none⟩) hP h1 h2 h3).trans h.c4,(f.cell (x:=⟨P,5,.none⟩) hP h1 h2 h3).trans h.c5,
  (f.frozen (x:=⟨P,0,.none⟩) hP h1 h2 h3).trans h.f0,(f.frozen (x:=⟨P,1,.none⟩) hP h1 h2 h3).trans h.f1,(f.frozen (x:=⟨P,2,.none⟩) hP h1 h2 h3).trans h.f2,(f.frozen (x:=⟨P,3,.none⟩) hP h1 h2 h3).trans h.f3,(f.frozen (x:=⟨P,4,.none⟩) hP h1 h2 h3).trans h.f4,(f.frozen (x:=⟨P,5,.none⟩) hP h1 h2 h3).trans h.f5⟩
def Lays (N:Nat) (va leaf:Int):Nat->(Nat->Int)->List Nat->Int->(Nat->Int)->List Nat->Prop
 |0,B,L,nd,B',L'=>ndB N L nd=true∧kd (ent B nd va 0) 0=0∧B'=over B (fi nd*4096+(ix va 0).toNat*8) (le leaf 8)∧L'=L
 |l+1,B,L,nd,B',L'=>ndB N L nd=true∧((kd (ent B nd va (l+1:Nat)) (l+1:Nat)=3∧Lays N va leaf l B L (adE (ent B nd va (l+1:Nat))) B' L') ∨
   (kd (ent B nd va (l+1:Nat)) (l+1:Nat)=0∧∃ i L1,L=i :: L1∧ndB N L1 nd=true∧Lays N va leaf l (over (zer B i) (fi nd*4096+(ix va (l+1:Nat)).toNat*8) (le (toP (2147483648+i*4096) 0) 8)) L1 (2147483648+i*4096) B' L'))
structure LW (w W:World) (p b m:Nat) (leaf:Int) (a0 a1 a2 l e k:Int):Prop where
 c:C6 W (w.heap.size+1+1) (.int .u64 a0) (.int .u64 a1) (.int .u64 a2) (.int .i64 l) (.int .u64 e) (.int .i64 k)
 r:C6 W (w.heap.size+1) (.int .u64 0) (.int .u64 0) (.int .u64 0) (.int .i64 0) (.int .u64 0) (.int .i64 0)
 g0:W.cell? ⟨w.heap.size,0,.none⟩=some (.pointer (some ⟨p,0,.none⟩))
 g1:W.cell? ⟨w.heap.size,1,.none⟩=some (.int .u64 leaf)
 f:Fra p b m w W
section
variable {w W W':World} {p b m:Nat} {leaf a0 a1 a2 l e k:Int}
theorem LW.fra (h:LW w W p b m leaf a0 a1 a2 l e k) (hp:p<w.heap.size) (hb:b<w.heap.size) (hm:m<w.heap.size) (f:Fra p b m W W'):LW w W' p b m leaf a0 a1 a2 l e k:=by
 have h0:w.heap.size<W.heap.size:=zC h.g0
 exact⟨h.c.fra f (by omega) (by omega) (by omega),h.r.fra f (by omega) (by omega) (by omega),(f.cell (x:=⟨w.heap.size,0,.none⟩) h0 (by show w.heap.size≠p;omega) (by show w.heap.size≠b;omega) (by show w.heap.size≠m;omega)).trans h.g0,(f.cell (x:=⟨w.heap.size,1,.none⟩) h0 (by show w.heap.size≠p;omega) (by show w.heap.size≠b;omega) (by show w.heap.size≠m;omega)).trans h.g1,h.f.trans f⟩
theorem LW.below (h:LW w W p b m leaf a0 a1 a2 l e k) (hp:p<w.heap.size) (hb:b<w.heap.size) (hm:m<w.heap.size) (f:Below W.heap.size W W'):LW w W' p b m leaf a0 a1 a2 l e k:=h.fra hp hb hm (Fra.below f)
end
theorem Fra.beside {p b m:Nat} {w W:World} (h:Fra p b m w W) (a:Addr) (v:Value) (ha:w.heap.size<=a.block):Fra p b m w (W.setCell a v):=by
 have g:Below w.heap.size W (W.setCell a v):=zB.setCell ha _
 exact⟨g.os.trans h.os,g.tape.trans h.tape,g.output.trans h.output,Nat.le_trans h.size g.size,fun k hk h1 h2 h3=>(g.block k hk).trans (h.block k hk h1 h2 h3)⟩
end Rm
namespace Rm
open Go.RowKit
theorem kd_zero (l:Int):kd 0 l=0:=by
 have h:hs 0 1=false:=by decide
 unfold kd
 rw[if_pos h]
theorem fi_adr (i:Nat):fi (2147483648+(i:Int)*4096)=i:=by unfold fi;omega
theorem ent_zero (B:Nat->Int) (nd va l:Int) (h:∀ k,k<4096->B (fi nd*4096+k)=0):ent B nd va l=0:=by
 have hi:=ix_b va l
 have key:∀ j,j<=8->num B (fi nd*4096+(ix va l).toNat*8) j=0:=by
  intro j
  induction j with
  |zero=>intro _;rfl
  |succ j ih=>
   intro hj
   have e:=h ((ix va l).toNat*8+j) (by omega)
   simp only[num,ih (by omega)]
   rw[show fi nd*4096+(ix va l).toNat*8+j=fi nd*4096+((ix va l).toNat*8+j) by omega,e]
   simp
 exact key 8 (by omega)
theorem ndB_mk {N:Nat} {L:List Nat} {i:Nat} (h1:1<=i) (h2:i<N) (h3:i∉L):ndB N L (2147483648+(i:Int)*4096)=true:=by
 unfold ndB
 rw[fi_adr]
 simp only[decide_eq_true_eq]
 exact⟨trivial,h1,h2,h3⟩
theorem ndB_cons {N:Nat} {L:List Nat} {i:Nat} {nd:Int} (h:ndB N (i :: L) nd=true):ndB N L nd=true∧fi nd≠i:=by
 obtain⟨h1,h2,h3,h4⟩:=ndB_spec h
 rw[List.mem_cons,not_or] at h4
 refine⟨?_,h4.1⟩
 unfold ndB
 simp only[decide_eq_true_eq]
 exact⟨h1,h2,h3,h4.2⟩
theorem new_zero (B:Nat->Int) (i f o:Nat) (vs:List Int) (hv:vs.length=8) (ho:o+8<=4096) (hf:f≠i):∀ k,k<4096->over (zer B i) (f*4096+o) vs (fi (2147483648+(i:Int)*4096)*4096+k)=0:=fun k hk=>by
 rw[fi_adr]
 unfold over
 rw[if_neg (by rw[hv];omega)]
 exact zer_in B i k hk
theorem lays_zero (N:Nat) (va leaf:Int):∀ (l:Nat) (B:Nat->Int) (L:List Nat) (nd:Int),(∀ k,k<4096->B (fi nd*4096+k)=0)->ndB N L nd=true->L.Nodup->(∀ i∈L,1<=i∧i<N)->l<=L.length -> ∃ B' L',Lays N va leaf l B L nd B' L'∧L=L.take l ++ L'
 |0,B,L,nd,hz,hn,hd,hl,hle=>⟨_,L,⟨hn,by rw[ent_zero B nd va 0 hz];exact kd_zero 0,rfl,rfl⟩,by simp⟩
 |l+1,B,[],nd,hz,hn,hd,hl,hle=>by simp at hle
 |l+1,B,i :: L1,nd,hz,hn,hd,hl,hle=>by
  obtain⟨hn2,hne⟩:=ndB_cons hn
  obtain⟨hi,hd2⟩:=List.nodup_cons.1 hd
  have hb:=ix_b va (l+1:Nat)
  have hil:=hl i (by simp)
  obtain⟨B',L',h1,h2⟩:=lays_zero N va leaf l (over (zer B i) (fi nd*4096+(ix va (l+1:Nat)).toNat*8) (le (toP (2147483648+i*4096) 0) 8)) L1 (2147483648+(i:Int)*4096)
   (new_zero B i (fi nd) ((ix va (l+1:Nat)).toNat*8) _ (le_len _ _) (by omega) hne) (ndB_mk hil.1 hil.2 hi) hd2 (fun j hj=>hl j (List.mem_cons_of_mem _ hj)) (by simpa using hle)
  refine⟨B',L',⟨hn,.inr ⟨by rw[ent_zero B nd va _ hz];exact kd_zero _,i,L1,rfl,hn2,h1⟩⟩,?_⟩
  rw[List.take_succ_cons,List.cons_append,<-h2]
theorem lays_look (N:Nat) (va leaf:Int) (B:Nat->Int) (L:List Nat) (hd:L.Nodup) (hl:∀ i∈L,1<=i∧i<N):∀ (l:Nat) (nd a0 a1 a2 e:Int),(wk N L B va l nd a0 a1 a2 e).k=0->(wk N L B va l nd a0 a1 a2 e).l<=L.length -> ∃ B' L',Lays N va leaf l B L nd B' L'∧L=L.take (wk N L B va l nd a0 a1 a2 e).l.toNat ++ L'
 |0,nd,a0,a1,a2,e=>fun hk hle=>by
  by_cases hn:ndB N L nd=true
  ·have ew:=wk_stop0 (B:=B) (va:=va) (a0:=a0) (a1:=a1) (a2:=a2) (e:=e) hn
   rw[ew] at hk ⊢
   exact⟨_,L,⟨hn,hk,rfl,rfl⟩,by simp⟩
  ·have ew:wk N L B va 0 nd a0 a1 a2 e=⟨a0,a1,a2,0,e,4⟩:=if_neg hn
   rw[ew] at hk
   simp at hk
 |l+1,nd,a0,a1,a2,e=>fun hk hle=>by
  by_cases hn:ndB N L nd=true
  ·by_cases h3:kd (ent B nd va (l+1:Nat)) (l+1:Nat)=3
   ·have ew:wk N L B va (l+1) nd a0 a1 a2 e=wk N L B va l (adE (ent B nd va (l+1:Nat))) a0 (if l=0 then st nd va 1 else a1) (if l=1 then st nd va 2 else a2) (ent B nd va (l+1:Nat)):=(if_pos hn).trans (if_pos h3)
    rw[ew] at hk hle ⊢
    obtain⟨B',L',h1,h2⟩:=lays_look N va leaf B L hd hl l _ _ _ _ _ hk hle
    exact⟨B',L',⟨hn,.inl ⟨h3,h1⟩⟩,h2⟩
   ·have ew:wk N L B va (l+1) nd a0 a1 a2 e=⟨a0,if l=0 then st nd va 1 else a1,if l=1 then st nd va 2 else a2,(l+1:Nat),ent B nd va (l+1:Nat),kd (ent B nd va (l+1:Nat)) (l+1:Nat)⟩:=(if_pos hn).trans (if_neg h3)
    rw[ew] at hk hle ⊢
    simp only at hk hle ⊢
    rw[Int.toNat_natCast]
    match L,hd,hl,hn,hle with
    |[],hd,hl,hn,hle=>simp at hle;omega
    |i :: L1,hd,hl,hn,hle=>
     obtain⟨hn2,hne⟩:=ndB_cons hn
     obtain⟨hi,hd2⟩:=List.nodup_cons.1 hd
     have hb:=ix_b va (l+1:Nat)
     have hil:=hl i (by simp)
     obtain⟨B',L',h1,h2⟩:=lays_zero N va leaf l (over (zer B i) (fi nd*4096+(ix va (l+1:Nat)).toNat*8) (le (toP (2147483648+i*4096) 0) 8)) L1 (2147483648+(i:Int)*4096)
      (new_zero B i (fi nd) ((ix va (l+1:Nat)).toNat*8) _ (le_len _ _) (by omega) hne) (ndB_mk hil.1 hil.2 hi) hd2 (fun j hj=>hl j (List.mem_cons_of_mem _ hj)) (by simp at hle;omega)
     refine⟨B',L',⟨hn,.inr ⟨hk,i,L1,rfl,hn2,h1⟩⟩,?_⟩
     rw[List.take_succ_cons,List.cons_append,<-h2]
  ·have ew:wk N L B va (l+1) nd a0 a1 a2 e=⟨a0,a1,a2,(l+1:Nat),e,4⟩:=if_neg hn
   rw[ew] at hk
   simp at hk
end Rm
namespace Rm
open Go.RowKit
def ad (f:Nat):Int:=2147483648+(f:Int)*4096
def evn (B:Nat->Int) (f i:Nat):Int:=num B (f*4096+i*8) 8
theorem ent_evn (B:Nat->Int) (f:Nat) (va l:Int):ent B (ad f) va l=evn B f (ix va l).toNat:=by unfold ent evn ad;rw[fi_adr]
theorem num_ext (B B':Nat->Int) (o:Nat):∀ n,(∀ k,k<n->B' (o+k)=B (o+k))->num B' o n=num B o n
 |0,_=>rfl
 |n+1,h=>by
  simp only[num]
  rw[num_ext B B' o n (fun k hk=>h k (by omega)),h n (by omega)]
theorem leG (v:Int) (n k:Nat) (hk:k<n):(le v n).getD k 0=v/256 ^ k%256:=by
 rw[List.getD_eq_getElem?_getD]
 simp[le,hk]
theorem evn_over_same (B:Nat->Int) (f i:Nat) (v:Int) (hv:0<=v∧v<18446744073709551616):evn (over B (f*4096+i*8) (le v 8)) f i=v:=by
 refine num_jb _ _ _ hv fun k hk=>?_
 unfold over
 rw[if_pos ⟨by omega,by rw[le_len];omega⟩,show f*4096+i*8+k-(f*4096+i*8)=k by omega]
 exact leG v 8 k hk
theorem over_out (B:Nat->Int) (f i:Nat) (v:Int) (j:Nat) (h:j<f*4096+i*8∨f*4096+i*8+8<=j):over B (f*4096+i*8) (le v 8) j=B j:=by
 unfold over
 rw[if_neg (by rw[le_len];omega)]
theorem evn_over_other (B:Nat->Int) (f i g j:Nat) (v:Int) (hi:i<512) (hj:j<512) (h:g≠f∨j≠i):evn (over B (f*4096+i*8) (le v 8)) g j=evn B g j:=by
 refine num_ext _ _ _ _ fun k hk=>over_out _ _ _ _ _ ?_
 rcases h with h|h
 ·rcases Nat.lt_or_gt_of_ne h with h|h<;>omega
 ·by_cases e:g=f
  ·subst e
   omega
  ·rcases Nat.lt_or_gt_of_ne e with h|h<;>omega
theorem evn_zer_same (B:Nat->Int) (f i:Nat) (hi:i<512):evn (zer B f) f i=0:=by
 refine num_jb _ _ _ (by omega) fun k hk=>?_
 rw[Nat.add_assoc,zer_in B f _ (by omega)]
 simp
theorem evn_zer_other (B:Nat->Int) (f g i:Nat) (hi:i<512) (h:g≠f):evn (zer B f) g i=evn B g i:=by
 refine num_ext _ _ _ _ fun k hk=>zer_out _ _ _ ?_
 rcases Nat.lt_or_gt_of_ne h with h|h<;>omega
def ptr:Option Nat->Int
 |none=>0
 |some f=>toP (ad f) 0
def ch (x e:Nat):Nat:=if x=0 then 1+e else 513+512*(x-1)+e
theorem ch_inj {x y e d:Nat} (hx:x<=512) (hy:y<=512) (he:e<512) (hd:d<512) (h:ch x e=ch y d):x=y∧e=d:=by
 unfold ch at h
 split at h<;>split at h<;>omega
theorem ch_pos (x e:Nat):0<ch x e:=by unfold ch;split<;>omega
def setO (F:Nat->Option Nat) (x f:Nat):Nat->Option Nat:=fun y=>if y=x then some f else F y
def setE (lf:Nat->Nat->Int) (y k:Nat) (v:Int):Nat->Nat->Int:=fun a b=>if a=y∧b=k then v else lf a b
structure PT (N:Nat) (L:List Nat) (B:Nat->Int) (F:Nat->Option Nat) (lf:Nat->Nat->Int):Prop where
 root:∃ r,F 0=some r
 held:∀ x f,F x=some f->1<=f∧f<N∧f∉L
 inj:∀ x y f,F x=some f->F y=some f->x=y
 up:∀ x e,x<=512->e<512->F (ch x e)≠none->F x≠none
 dom:∀ x,F x≠none->x<262657
 ep:∀ x g,x<=512->F x=some g -> ∀ e,e<512->evn B g e=ptr (F (ch x e))
 el:∀ y g,513<=y->F y=some g -> ∀ k,k<512->evn B g k=lf y k
 lv:∀ y k,lf y k=0∨(kd (lf y k) 0=2∧0<=lf y k∧lf y k<18446744073709551616)
 ln:∀ y,F y=none -> ∀ k,lf y k=0
section
variable {N:Nat} {L:List Nat} {B:Nat->Int} {F:Nat->Option Nat} {lf:Nat->Nat->Int}
theorem toPb (f N:Nat) (hf:f<N) (hN:N<=4096):0<=toP (ad f) 0∧toP (ad f) 0<18446744073709551616:=by
 rw[toP_val (ad f) 0 (by unfold ad;omega) (by omega) (by omega)]
 unfold ad
 omega
theorem PT.keep {B':Nat->Int} {L':List Nat} (h:PT N L B F lf) (hB:∀ x f,F x=some f -> ∀ k,k<4096->B' (f*4096+k)=B (f*4096+k)) (hL:∀ x f,F x=some f->f∉L'):PT N L' B' F lf:=by
 have he:∀ x f,F x=some f -> ∀ e,e<512->evn B' f e=evn B f e:=fun x f hf e he=>num_ext _ _ _ _ fun k hk=>by rw[Nat.add_assoc];exact hB x f hf _ (by omega)
 exact⟨h.root,fun x f hf=>⟨(h.held x f hf).1,(h.held x f hf).2.1,hL x f hf⟩,h.inj,h.up,h.dom,fun x g hx hg e h1=>(he x g hg e h1).trans (h.ep x g hx hg e h1),fun y g hy hg k hk=>(he y g hg k hk).trans (h.el y g hy hg k hk),h.lv,h.ln⟩
theorem PT.leaf {y q k:Nat} {v:Int} (h:PT N L B F lf) (hy:513<=y) (hq:F y=some q) (hk:k<512) (hv:v=0∨(kd v 0=2∧0<=v∧v<18446744073709551616)):PT N L (over B (q*4096+k*8) (le v 8)) F (setE lf y k v):=by
 have hvb:0<=v∧v<18446744073709551616:=by rcases hv with e|e<;>omega
 refine⟨h.root,h.held,h.inj,h.up,h.dom,fun x g hx hg e he=>?_,fun z g hz hg d hd=>?_,fun z d=>?_,fun z hz d=>?_⟩
 ·rw[evn_over_other _ _ _ _ _ _ hk he (.inl (fun e2=>by subst e2;have:=h.inj x y g hg hq;omega))]
  exact h.ep x g hx hg e he
 ·unfold setE
  by_cases e:z=y∧d=k
  ·obtain⟨rfl,rfl⟩:=e
   rw[hq] at hg
   injection hg with hg
   subst hg
   rw[if_pos ⟨rfl,rfl⟩]
   exact evn_over_same _ _ _ _ hvb
  ·rw[if_neg e,evn_over_other _ _ _ _ _ _ hk hd (by
    by_cases e2:g=q
    ·subst e2
     have:=h.inj z y g hg hq
     exact .inr (fun e3=>e ⟨this,e3⟩)
    ·exact .inl e2)]
   exact h.el z g hz hg d hd
 ·unfold setE
  split
  ·exact hv
  ·exact h.lv z d
 ·unfold setE
  rw[if_neg (by rintro⟨rfl,_⟩;rw[hq] at hz;cases hz)]
  exact h.ln z hz d
theorem PT.node {f x g e:Nat} {L1:List Nat} (h:PT N (f :: L1) B F lf) (hN:N<=4096) (hd:(f :: L1).Nodup) (hf:1<=f∧f<N) (hx:x<=512) (hg:F x=some g) (he:e<512) (hn:F (ch x e)=none) :
  PT N L1 (over (zer B f) (g*4096+e*8) (le (toP (ad f) 0) 8)) (setO F (ch x e) f) lf:=by
 have hfn:∀ z q,F z=some q->q≠f:=fun z q hz e=>(h.held z q hz).2.2 (by rw[e];exact List.mem_cons_self ..)
 have hgf:g≠f:=hfn x g hg
 have hb:=toPb f N hf.2 hN
 have hxc:x≠ch x e:=fun e2=>by rw[<-e2,hg] at hn;cases hn
 have hfL:f∉L1:=(List.nodup_cons.1 hd).1
 have evo:∀ q d,d<512->q≠f->(q≠g∨d≠e)->evn (over (zer B f) (g*4096+e*8) (le (toP (ad f) 0) 8)) q d=evn B q d:=fun q d h1 h2 h3=>by rw[evn_over_other _ _ _ _ _ _ he h1 h3,evn_zer_other _ _ _ _ h1 h2]
 have evf:∀ d,d<512->evn (over (zer B f) (g*4096+e*8) (le (toP (ad f) 0) 8)) f d=0:=fun d h1=>by rw[evn_over_other _ _ _ _ _ _ he h1 (.inl (Ne.symm hgf)),evn_zer_same _ _ _ h1]
 have sF:∀ z,z≠ch x e->setO F (ch x e) f z=F z:=fun z hz=>by unfold setO;rw[if_neg hz]
 have sT:setO F (ch x e) f (ch x e)=some f:=by unfold setO;rw[if_pos rfl]
 refine⟨?_,fun z q hz=>?_,fun z y q hz hy=>?_,fun z d hz hd2 hne=>?_,fun z hz=>?_,fun z q hz hq d hd2=>?_,fun z q hz hq d hd2=>?_,h.lv,fun z hz d=>?_⟩
 ·obtain⟨r,hr⟩:=h.root
  exact⟨r,by rw[sF 0 (by have:=ch_pos x e;omega)];exact hr⟩
 ·by_cases e2:z=ch x e
  ·subst e2
   rw[sT] at hz
   injection hz with hz
   subst hz
   exact⟨hf.1,hf.2,hfL⟩
  ·rw[sF z e2] at hz
   have:=h.held z q hz
   exact⟨this.1,this.2.1,fun hm=>this.2.2 (List.mem_cons_of_mem _ hm)⟩
 ·by_cases e2:z=ch x e<;>by_cases e3:y=ch x e
  ·rw[e2,e3]
  ·rw[e2,sT] at hz
   injection hz with hz
   rw[sF y e3] at hy
   exact absurd hz.symm (hfn y q hy)
  ·rw[e3,sT] at hy
   injection hy with hy
   rw[sF z e2] at hz
   exact absurd hy.symm (hfn z q hz)
  ·rw[sF z e2] at hz
   rw[sF y e3] at hy
   exact h.inj z y q hz hy
 ·by_cases e2:z=ch x e
  ·rw[e2,sT];simp
  ·rw[sF z e2]
   by_cases e3:ch z d=ch x e
   ·obtain⟨rfl,_⟩:=ch_inj hz hx hd2 he e3
    rw[hg];simp
   ·rw[sF _ e3] at hne
    exact h.up z d hz hd2 hne
 ·by_cases e2:z=ch x e
  ·subst e2
   unfold ch
   split<;>omega
  ·rw[sF z e2] at hz
   exact h.dom z hz
 ·by_cases e2:z=ch x e
  ·subst e2
   rw[sT] at hq
   injection hq with hq
   subst hq
   rw[evf d hd2]
   have:setO F (ch x e) f (ch (ch x e) d)=none:=by
    have e3:ch (ch x e) d≠ch x e:=fun e3=>by
     unfold ch at e3 hz
     split at e3<;>split at e3<;>omega
    rw[sF _ e3]
    cases hc:F (ch (ch x e) d) with
    |none=>rfl
    |some q=>exact absurd hn (h.up (ch x e) d hz hd2 (by rw[hc];simp))
   rw[this]
   rfl
  ·rw[sF z e2] at hq
   by_cases e3:q=g∧d=e
   ·obtain⟨rfl,rfl⟩:=e3
    obtain rfl:z=x:=h.inj z x q hq hg
    rw[sT,evn_over_same _ _ _ _ hb]
    rfl
   ·rw[evo q d hd2 (hfn z q hq) (by
     by_cases e4:q=g
     ·exact .inr (fun e5=>e3 ⟨e4,e5⟩)
     ·exact .inl e4)]
    rw[h.ep z q hz hq d hd2]
    rw[sF]
    intro e4
    obtain⟨rfl,rfl⟩:=ch_inj hz hx hd2 he e4
    rw[hg] at hq
    injection hq with hq
    exact e3 ⟨hq.symm,rfl⟩
 ·by_cases e2:z=ch x e
  ·subst e2
   rw[sT] at hq
   injection hq with hq
   subst hq
   rw[evf d hd2,h.ln _ hn]
  ·rw[sF z e2] at hq
   rw[evo q d hd2 (hfn z q hq) (.inl (fun e3=>by subst e3;have:=h.inj z x q hq hg;omega))]
   exact h.el z q hz hq d hd2
 ·by_cases e2:z=ch x e
  ·subst e2
   rw[sT] at hz
   cases hz
  ·rw[sF z e2] at hz
   exact h.ln z hz d
end
end Rm
namespace Rm
open Go.RowKit
def i2 (va:Int):Nat:=(ix va 2).toNat
def i1 (va:Int):Nat:=(ix va 1).toNat
def i0 (va:Int):Nat:=(ix va 0).toNat
def y1 (va:Int):Nat:=ch 0 (i2 va)
def y0 (va:Int):Nat:=ch (y1 va) (i1 va)
theorem i2_lt (va:Int):i2 va<512:=by unfold i2;have:=ix_b va 2;omega
theorem i1_lt (va:Int):i1 va<512:=by unfold i1;have:=ix_b va 1;omega
theorem i0_lt (va:Int):i0 va<512:=by unfold i0;have:=ix_b va 0;omega
theorem y1_le (va:Int):y1 va<=512∧1<=y1 va:=by unfold y1 ch;have:=i2_lt va;simp;omega
theorem y0_ge (va:Int):513<=y0 va:=by unfold y0 ch;have:=y1_le va;rw[if_neg (by omega)];omega
section
variable {N:Nat} {L:List Nat} {B:Nat->Int} {F:Nat->Option Nat} {lf:Nat->Nat->Int}
theorem PT.ndB (h:PT N L B F lf) {x f:Nat} (hf:F x=some f):ndB N L (ad f)=true:=by
 have:=h.held x f hf
 exact ndB_mk this.1 this.2.1 this.2.2
theorem ptr_kd {f:Nat} (hf:f<N) (hN:N<=4096) (l:Int) (hl:l=1∨l=2):kd (ptr (some f)) l=3:=kd_node _ _ (by unfold ad;omega) hl
theorem ptr_ad {f:Nat} (hf:f<N) (hN:N<=4096):adE (ptr (some f))=ad f:=adE_toP _ _ (by unfold ad;omega) (by unfold ad;omega) (by omega) (by omega)
theorem c2:((1+1:Nat):Int)=2:=rfl
theorem c1:((0+1:Nat):Int)=1:=rfl
theorem look_2 (h:PT N L B F lf) {r:Nat} (hr:F 0=some r) (va:Int) (hn:F (y1 va)=none):look N L B (ad r) va=⟨0,0,st (ad r) va 2,2,0,0⟩:=by
 unfold look
 rw[show (2:Nat)=1+1 from rfl,wk,if_pos (h.ndB hr),c2,ent_evn]
 have e:evn B r (ix va 2).toNat=0:=by
  have:=h.ep 0 r (by omega) hr (i2 va) (i2_lt va)
  rw[show ch 0 (i2 va)=y1 va from rfl,hn] at this
  exact this
 rw[e,kd_zero,if_neg (by decide)]
 rfl
theorem look_1 (h:PT N L B F lf) (hN:N<=4096) {r g:Nat} (hr:F 0=some r) (va:Int) (hg:F (y1 va)=some g) (hn:F (y0 va)=none):look N L B (ad r) va=⟨0,st (ad g) va 1,st (ad r) va 2,1,0,0⟩:=by
 unfold look
 have hgN:=(h.held _ _ hg).2.1
 rw[show (2:Nat)=1+1 from rfl,wk,if_pos (h.ndB hr),c2,ent_evn]
 have e:evn B r (ix va 2).toNat=ptr (some g):=by
  have:=h.ep 0 r (by omega) hr (i2 va) (i2_lt va)
  rw[show ch 0 (i2 va)=y1 va from rfl,hg] at this
  exact this
 have e1:evn B g (ix va 1).toNat=0:=by
  have:=h.ep (y1 va) g (y1_le va).1 hg (i1 va) (i1_lt va)
  rw[show ch (y1 va) (i1 va)=y0 va from rfl,hn] at this
  exact this
 rw[e,ptr_kd hgN hN 2 (.inr rfl),if_pos rfl,ptr_ad hgN hN,show (1:Nat)=0+1 from rfl,wk,if_pos (h.ndB hg),c1,ent_evn,e1,kd_zero,if_neg (by decide)]
 rfl
theorem look_0 (h:PT N L B F lf) (hN:N<=4096) {r g q:Nat} (hr:F 0=some r) (va:Int) (hg:F (y1 va)=some g) (hq:F (y0 va)=some q) :
  look N L B (ad r) va=⟨st (ad q) va 0,st (ad g) va 1,st (ad r) va 2,0,lf (y0 va) (i0 va),kd (lf (y0 va) (i0 va)) 0⟩:=by
 unfold look
 have hgN:=(h.held _ _ hg).2.1
 have hqN:=(h.held _ _ hq).2.1
 rw[show (2:Nat)=1+1 from rfl,wk,if_pos (h.ndB hr),c2,ent_evn]
 have e:evn B r (ix va 2).toNat=ptr (some g):=by
  have:=h.ep 0 r (by omega) hr (i2 va) (i2_lt va)
  rw[show ch 0 (i2 va)=y1 va from rfl,hg] at this
  exact this
 have e1:evn B g (ix va 1).toNat=ptr (some q):=by
  have:=h.ep (y1 va) g (y1_le va).1 hg (i1 va) (i1_lt va)
  rw[show ch (y1 va) (i1 va)=y0 va from rfl,hq] at this
  exact this
 have e0:evn B q (ix va 0).toNat=lf (y0 va) (i0 va):=h.el (y0 va) q (y0_ge va) hq (i0 va) (i0_lt va)
 rw[e,ptr_kd hgN hN 2 (.inr rfl),if_pos rfl,ptr_ad hgN hN,show (1:Nat)=0+1 from rfl,wk,if_pos (h.ndB hg),c1,ent_evn,e1,ptr_kd hqN hN 1 (.inl rfl),if_pos rfl,ptr_ad hqN hN,wk,if_pos (h.ndB hq),ent_evn,e0]
 rfl
structure LP (N:Nat) (va leaf:Int) (L:List Nat) (B:Nat->Int) (F:Nat->Option Nat) (lf:Nat->Nat->Int) (L':List Nat) (B':Nat->Int) (F':Nat->Option Nat):Prop where
 pt:PT N L' B' F' (setE lf (y0 va) (i0 va) leaf)
 ext:∀ x f,F x=some f->F' x=some f
 new:∀ x f,F' x=some f->F x=some f∨(f∈L∧f∉L'∧(x=y1 va∨x=y0 va))
 has:∃ g q,F' (y1 va)=some g∧F' (y0 va)=some q
 byt:∀ f,(∀ x,F' x≠some f) -> ∀ k,k<4096->B' (f*4096+k)=B (f*4096+k)
 sub:∀ f,f∈L'->f∈L
 zero:lf (y0 va) (i0 va)=0
theorem lays_0 {va:Int} (h:PT N L B F lf) {q g:Nat} (hg:F (y1 va)=some g) (hq:F (y0 va)=some q) {leaf:Int} (hv:kd leaf 0=2∧0<=leaf∧leaf<18446744073709551616) {B':Nat->Int} {L':List Nat} (hl:Lays N va leaf 0 B L (ad q) B' L') :
  LP N va leaf L B F lf L' B' F:=by
 obtain⟨_,h1,rfl,rfl⟩:=hl
 have e0:evn B q (ix va 0).toNat=lf (y0 va) (i0 va):=h.el (y0 va) q (y0_ge va) hq (i0 va) (i0_lt va)
 rw[ent_evn,e0] at h1
 have hz:lf (y0 va) (i0 va)=0:=by
  rcases h.lv (y0 va) (i0 va) with e|e
  ·exact e
  ·rw[e.1] at h1
   cases h1
 have hfi:fi (ad q)=q:=fi_adr q
 rw[hfi]
 exact⟨h.leaf (y0_ge va) hq (i0_lt va) (.inr hv),fun _ _ h=>h,fun _ _ h=>.inl h,⟨g,q,hg,hq⟩,fun f hf k hk=>over_out _ _ _ _ _ (by
  have:f≠q:=fun e=>hf _ (by rw[e];exact hq)
  have hi:=i0_lt va
  unfold i0 at hi
  rcases Nat.lt_or_gt_of_ne this with h|h<;>omega),fun _ h=>h,hz⟩
theorem lays_1 {va:Int} (h:PT N L B F lf) (hN:N<=4096) (hd:L.Nodup) (hlt:∀ i∈L,1<=i∧i<N) {g:Nat} (hg:F (y1 va)=some g) {leaf:Int} (hv:kd leaf 0=2∧0<=leaf∧leaf<18446744073709551616) {B':Nat->Int} {L':List Nat} (hl:Lays N va leaf 1 B L (ad g) B' L') :
  ∃ F',LP N va leaf L B F lf L' B' F':=by
 rw[show (1:Nat)=0+1 from rfl] at hl
 unfold Lays at hl
 rw[c1,ent_evn] at hl
 have e1:evn B g (ix va 1).toNat=ptr (F (y0 va)):=h.ep (y1 va) g (y1_le va).1 hg (i1 va) (i1_lt va)
 rw[e1] at hl
 have hfi:fi (ad g)=g:=fi_adr g
 obtain⟨_,hl|hl⟩:=hl
 ·cases hq:F (y0 va) with
  |none=>
   rw[hq] at hl
   have:=hl.1
   rw[show ptr none=0 from rfl,kd_zero] at this
   cases this
  |some q=>
   rw[hq,ptr_ad (h.held _ _ hq).2.1 hN] at hl
   exact⟨F,lays_0 h hg hq hv hl.2⟩
 ·obtain⟨hk,f,L1,rfl,_,hl⟩:=hl
  have hn:F (y0 va)=none:=by
   cases hq:F (y0 va) with
   |none=>rfl
   |some q=>
    rw[hq,ptr_kd (h.held _ _ hq).2.1 hN 1 (.inl rfl)] at hk
    cases hk
  have hf:=hlt f (List.mem_cons_self ..)
  have hP:=h.node hN hd hf (y1_le va).1 hg (i1_lt va) hn
  rw[hfi] at hl
  have hy:ch (y1 va) (i1 va)=y0 va:=rfl
  rw[hy] at hP
  have n10:y1 va≠y0 va:=by have:=y1_le va;have:=y0_ge va;omega
  have g1:setO F (y0 va) f (y1 va)=some g:=by unfold setO;rw[if_neg n10];exact hg
  have q1:setO F (y0 va) f (y0 va)=some f:=by unfold setO;rw[if_pos rfl]
  have R:=lays_0 hP g1 q1 hv hl
  have hfL:f∉L1:=(List.nodup_cons.1 hd).1
  refine⟨setO F (y0 va) f,R.pt,fun x q hx=>?_,fun x q hx=>?_,R.has,fun q hq k hk=>?_,fun q hq=>List.mem_cons_of_mem _ (R.sub q hq),R.zero⟩
  ·unfold setO
   rw[if_neg (fun e=>by rw[e,hn] at hx;cases hx)]
   exact hx
  ·unfold setO at hx
   split at hx
   ·injection hx with hx
    subst hx
    rename_i e
    exact .inr ⟨List.mem_cons_self ..,fun hm=>hfL (R.sub _ hm),.inr e⟩
   ·exact .inl hx
  ·rw[R.byt q hq k hk]
   have hqf:q≠f:=fun e=>hq (y0 va) (by rw[e];exact q1)
   have hqg:q≠g:=fun e=>hq (y1 va) (by rw[e];exact g1)
   have hi:=i1_lt va
   have ho:over (zer B f) (g*4096+i1 va*8) (le (toP (ad f) 0) 8) (q*4096+k)=zer B f (q*4096+k):=over_out _ _ _ _ _ (by
    rcases Nat.lt_or_gt_of_ne hqg with h|h<;>omega)
   rw[ho]
   exact zer_out _ _ _ (by rcases Nat.lt_or_gt_of_ne hqf with h|h<;>omega)
theorem lays_pt {va:Int} (h:PT N L B F lf) (hN:N<=4096) (hd:L.Nodup) (hlt:∀ i∈L,1<=i∧i<N) {r:Nat} (hr:F 0=some r) {leaf:Int} (hv:kd leaf 0=2∧0<=leaf∧leaf<18446744073709551616) {B':Nat->Int} {L':List Nat} (hl:Lays N va leaf 2 B L (ad r) B' L') :
  ∃ F',LP N va leaf L B F lf L' B' F':=by
 rw[show (2:Nat)=1+1 from rfl] at hl
 unfold Lays at hl
 rw[c2,ent_evn] at hl
 have e2:evn B r (ix va 2).toNat=ptr (F (y1 va)):=h.ep 0 r (by omega) hr (i2 va) (i2_lt va)
 rw[e2] at hl
 have hfi:fi (ad r)=r:=fi_adr r
 obtain⟨_,hl|hl⟩:=hl
 ·cases hq:F (y1 va) with
  |none=>
   rw[hq] at hl
   have:=hl.1
   rw[show ptr none=0 from rfl,kd_zero] at this
   cases this
  |some g=>
   rw[hq,ptr_ad (h.held _ _ hq).2.1 hN] at hl
   exact lays_1 h hN hd hlt hq hv hl.2
 ·obtain⟨hk,f,L1,rfl,_,hl⟩:=hl
  have hn:F (y1 va)=none:=by
   cases hq:F (y1 va) with
   |none=>rfl
   |some q=>
    rw[hq,ptr_kd (h.held _ _ hq).2.1 hN 2 (.inr rfl)] at hk
    cases hk
  have hf:=hlt f (List.mem_cons_self ..)
  have hP:=h.node hN hd hf (by omega) hr (i2_lt va) hn
  rw[hfi] at hl
  have hy:ch 0 (i2 va)=y1 va:=rfl
  rw[hy] at hP
  have n0:(0:Nat)≠y1 va:=by have:=y1_le va;omega
  have r1:setO F (y1 va) f 0=some r:=by unfold setO;rw[if_neg n0];exact hr
  have g1:setO F (y1 va) f (y1 va)=some f:=by unfold setO;rw[if_pos rfl]
  have hfL:f∉L1:=(List.nodup_cons.1 hd).1
  obtain⟨F',R⟩:=lays_1 (va:=va) hP hN (List.nodup_cons.1 hd).2 (fun i hi=>hlt i (List.mem_cons_of_mem _ hi)) g1 hv hl
  refine⟨F',R.pt,fun x q hx=>R.ext x q ?_,fun x q hx=>?_,R.has,fun q hq k hk=>?_,fun q hq=>List.mem_cons_of_mem _ (R.sub q hq),R.zero⟩
  ·unfold setO
   rw[if_neg (fun e=>by rw[e,hn] at hx;cases hx)]
   exact hx
  ·rcases R.new x q hx with h1|⟨h1,h2,h3⟩
   ·unfold setO at h1
    split at h1
    ·injection h1 with h1
     subst h1
     rename_i e
     exact .inr ⟨List.mem_cons_self ..,fun hm=>hfL (R.sub _ hm),.inl e⟩
    ·exact .inl h1
   ·exact .inr ⟨List.mem_cons_of_mem _ h1,h2,h3⟩
  ·rw[R.byt q hq k hk]
   have hqf:q≠f:=fun e=>hq (y1 va) (by rw[e];exact R.ext _ _ g1)
   have hqr:q≠r:=fun e=>hq 0 (by rw[e];exact R.ext _ _ r1)
   have hi:=i2_lt va
   have ho:over (zer B f) (r*4096+i2 va*8) (le (toP (ad f) 0) 8) (q*4096+k)=zer B f (q*4096+k):=over_out _ _ _ _ _ (by
    rcases Nat.lt_or_gt_of_ne hqr with h|h<;>omega)
   rw[ho]
   exact zer_out _ _ _ (by rcases Nat.lt_or_gt_of_ne hqf with h|h<;>omega)
end
end Rm
namespace Rm
open Go.RowKit
def ft (B:Nat->Int) (i:Nat):Nat->Nat->Int
 |0,j=>512
 |k+1,j=>if hs (B (i*4096+j*8)) 1=true then j else ft B i k (j+1)
theorem ft_b (B:Nat->Int) (i:Nat):∀ k j:Nat,j+k<=512->(j:Int)<=ft B i k j∧ft B i k j<=512
 |0,j,h=>by simp only[ft];omega
 |k+1,j,h=>by
  have:=ft_b B i k (j+1) (by omega)
  simp only[ft]
  split<;>omega
section
variable {w:World} {p b m N:Nat} {B:Nat->Int} {L:List Nat}
theorem firstTaken_any (h:Ram w p b m N B L) (nd:Int) (hn:ndB N L nd=true) (j:Nat) (hj:j<=512):Calls Tryz.prog 191 #[.pointer (some ⟨p,0,.none⟩),.int .u64 nd,.int .u64 j] w fun r w'=>r = .returned (.int .u64 (ft B (fi nd) (512-j) j))∧Below w.heap.size w w':=by
 obtain⟨q1,q2,q3,q4⟩:=ndB_spec hn
 have n2:=h.mem.n2
 have w1:IntKind.u64.wrap ((j:Int)*8)=(j:Int)*8:=by rw[IntKind.wrap_u64];omega
 have w2:IntKind.u64.wrap (nd+(j:Int)*8)=nd+(j:Int)*8:=by rw[IntKind.wrap_u64];omega
 by_cases h0:j=512
 ·have c:=read_zero h.mem (nd+4096)
  have e0:ft B (fi nd) (512-j) j=512:=by rw[h0];rfl
  rw[e0,show (j:Int)=512 by omega]
  have w3:IntKind.u64.wrap (nd+4096)=nd+4096:=by rw[IntKind.wrap_u64];omega
  clear h hn q1 q2 q3 q4 e0 w1 w2 h0
  go_enter Tryz.func191,Tryz.ntmps191
  go_wp2_with (first|(go_at_call 20;refine c.mono ?_;rintro r w0 ⟨rfl,rfl⟩))
  refine wp_loop_rounds 1 ?_
  rw[rounds_succ]
  go_wp2
  go_ret
  exact⟨rfl,Below.refl _ _⟩
 ·have c:=read_ok h.mem (fi nd*4096+j*8) ((512-j)*8) (by omega) (by omega) (fun f h1 h2=>by
   obtain rfl:f=fi nd:=by omega
   rw[hdL_in q3]
   simp[q4])
  rw[show (2147483648+((fi nd*4096+j*8:Nat):Int))=nd+(j:Int)*8 by omega] at c
  have hB:=h.mem.bb
  obtain⟨M,hM⟩:∃ M,M=512-j:=⟨_,rfl⟩
  obtain⟨F,hF⟩:∃ F,F=ft B (fi nd) (512-j) j:=⟨_,rfl⟩
  have HF:Hid (F=ft B (fi nd) (512-j) j):=hF
  rw[<-hF]
  rw[<-hM] at c
  have hj2:(j:Int)<512:=by omega
  have hM2:(M:Int)=512-(j:Int):=by omega
  have HM:Hid (M=512-j):=hM
  rw[show ((M*8:Nat):Int)=(512-(j:Int))*8 by omega] at c
  have hM3:IntKind.u64.wrap (512-(j:Int))=(M:Int):=by rw[IntKind.wrap_u64];omega
  have hMl:M<=512:=by omega
  clear hF hM h q1 q2 q3 q4 hn h0
  go_enter Tryz.func191,Tryz.ntmps191
  go_wp2_with (first|(go_at_call 20;refine c.mono ?_;rintro r w0 ⟨g,hg1,hg2,rfl,hrow,hfz,hb⟩))
  have HR:Hid (RowB w0 g (M*8) (fun i=>B (fi nd*4096+j*8+i))):=hrow
  have HB:Hid (Below w.heap.size w w0):=hb
  have HM2:Hid ((M:Int)=512-(j:Int)):=hM2
  clear hrow hfz hb c w1 w2 hM3 hM2
  go_loopw [9] (fun k wr=>∃ t:Nat,t<=M∧k = .int .i64 ((t:Int)*8)∧wr=w0∧ft B (fi nd) (M-t) (j+t)=F) (fun k _=>M-(intOf k/8).toNat)
  case atStart=>exact⟨0,by omega,rfl,rfl,by rw[HF.out,HM.out];rfl⟩
  case round=>
   obtain⟨t,ht,rfl,rfl,hft⟩:=hrel
   by_cases htM:t<M
   ·have z0:=HR.out (t*8) (by omega)
    have e1:fi nd*4096+j*8+t*8=fi nd*4096+(j+t)*8:=by omega
    simp only[e1] at z0
    have hbb:=hB (fi nd*4096+(j+t)*8)
    have hft2:(if hs (B (fi nd*4096+(j+t)*8)) 1=true then ((j+t:Nat):Int) else ft B (fi nd) (M-t-1) (j+t+1))=F:=by
     rw[<-hft,show M-t=(M-t-1)+1 by omega]
     rfl
    generalize B (fi nd*4096+(j+t)*8)=x at *
    have Hft:Hid ((if hs x 1=true then ((j+t:Nat):Int) else ft B (fi nd) (M-t-1) (j+t+1))=F):=hft2
    have i1:(t:Int)*8<(M:Int)*8:=by omega
    have i2:((t:Int)*8).toNat=t*8:=by omega
    have i3:(0:Int)<=(t:Int)*8:=by omega
    have i4:(t:Int)*8/8=t:=by omega
    have c77:=fun W=>has_any x 1 W
    have hx:hs x 1=false∨hs x 1=true:=by cases hs x 1<;>simp
    clear hft hft2 hB
    rcases hx with hx|hx
    ·simp only[hx] at c77
     have hft3:ft B (fi nd) (M-(t+1)) (j+(t+1))=F:=by
      have:=Hft.out
      simp only[hx,Bool.false_eq_true,if_false] at this
      rw[show M-(t+1)=M-t-1 by omega,show j+(t+1)=j+t+1 by omega]
      exact this
     have Hft3:Hid (ft B (fi nd) (M-(t+1)) (j+(t+1))=F):=hft3
     clear hft3 hx
     go_wp2_with (first|(go_at_call 109;refine(c77 _).mono ?_;rintro r wr ⟨rfl,rfl⟩))
     refine⟨⟨t+1,by omega,?_,by simp,Hft3.out⟩,?_⟩
     ·simp only[Value.int.injEq,true_and]
      omega
     ·simp only[intOf]
      omega
    ·simp only[hx] at c77
     have hF2:F=(j:Int)+t:=by
      have:=Hft.out
      simp only[hx,if_true] at this
      omega
     have HF2:Hid (F=(j:Int)+t):=hF2
     have w5:IntKind.u64.wrap ((j:Int)+t)=(j:Int)+t:=by rw[IntKind.wrap_u64];omega
     clear hF2 hx
     go_wp2_with (first|(go_at_call 109;refine(c77 _).mono ?_;rintro r wr ⟨rfl,rfl⟩))
     go_ret
     exact⟨by rw[HF2.out];rfl,HB.out⟩
   ·have i1:¬ ((t:Int)*8<(M:Int)*8):=by omega
    have hF2:F=512:=by
     rw[<-hft,show M-t=0 by omega]
     rfl
    have HF2:Hid (F=512):=hF2
    clear hF2 hft
    go_wp2
    go_ret
    exact⟨by rw[HF2.out];rfl,HB.out⟩
end
end Rm
namespace Rm
open Go.RowKit
structure Sp (w:World) (s p:Nat) (root size:Int):Prop where
 c0:w.cell? ⟨s,0,.none⟩=some (.pointer (some ⟨p,0,.none⟩))
 c1:w.cell? ⟨s,1,.none⟩=some (.int .u64 root)
 c2:w.cell? ⟨s,2,.none⟩=some (.int .u64 size)
 fr:∀ k,w.frozen? ⟨s,k,.none⟩=false
theorem Sp.lt {w:World} {s p:Nat} {root size:Int} (h:Sp w s p root size):s<w.heap.size:=zC h.c0
theorem Sp.below {w w':World} {s p:Nat} {root size:Int} (h:Sp w s p root size) (b:Below w.heap.size w w'):Sp w' s p root size:=
 ⟨(b.cell (p:=⟨s,0,.none⟩) h.lt).trans h.c0,(b.cell (p:=⟨s,1,.none⟩) h.lt).trans h.c1,(b.cell (p:=⟨s,2,.none⟩) h.lt).trans h.c2,fun k=>(b.frozen (p:=⟨s,k,.none⟩) h.lt).trans (h.fr k)⟩
theorem Sp.fra {w w':World} {s p b m:Nat} {root size:Int} (h:Sp w s p root size) (f:Fra p b m w w') (h1:s≠p) (h2:s≠b) (h3:s≠m):Sp w' s p root size:=
 ⟨(f.cell (x:=⟨s,0,.none⟩) h.lt h1 h2 h3).trans h.c0,(f.cell (x:=⟨s,1,.none⟩) h.lt h1 h2 h3).trans h.c1,(f.cell (x:=⟨s,2,.none⟩) h.lt h1 h2 h3).trans h.c2,fun k=>(f.frozen (x:=⟨s,k,.none⟩) h.lt h1 h2 h3).trans (h.fr k)⟩
theorem made_sp {w:World} {s p:Nat} {root size:Int} (h:Sp w s p root size):Calls Tryz.prog 46 #[.pointer (some ⟨s,0,.none⟩)] w fun e w'=>e = .returned (.bool true)∧w'=w:=by
 have c0:=h.c0
 clear h
 go_enter Tryz.func46,Tryz.ntmps46
 go_wp2
 go_ret
 exact⟨rfl,rfl⟩
theorem size_sp {w:World} {s p:Nat} {root size:Int} (h:Sp w s p root size):Calls Tryz.prog 22 #[.pointer (some ⟨s,0,.none⟩)] w fun e w'=>e = .returned (.int .u64 size)∧w'=w:=by
 have c0:=h.c0
 have c2:=h.c2
 have c33:=made_sp h
 clear h
 go_enter Tryz.func22,Tryz.ntmps22
 go_wp2_with (go_at_call 46;refine c33.mono ?_;rintro _ w1 ⟨rfl,e1⟩;obtain rfl:w=w1:=e1.symm)
 go_ret
 exact⟨rfl,rfl⟩
theorem pagesOf_any (x:Int) (h:0<=x∧x<=1099511627776) (w:World):Calls Tryz.prog 112 #[.int .u64 x] w fun e w'=>e = .returned (.int .i64 ((x+4095)/4096))∧w'=w:=by
 have h1:IntKind.u64.wrap (x+4096)=x+4096:=by rw[IntKind.wrap_u64];omega
 have h2:IntKind.u64.wrap (x+4096-1)=x+4095:=by rw[IntKind.wrap_u64];omega
 go_enter Tryz.func112,Tryz.ntmps112
 go_wp2
 go_ret
 exact⟨rfl,rfl⟩
theorem pages_sp {w:World} {s p:Nat} {root size:Int} (h:Sp w s p root size) (hs:0<=size∧size<=1099511627776):Calls Tryz.prog 99 #[.pointer (some ⟨s,0,.none⟩)] w fun e w'=>e = .returned (.int .i64 ((size+4095)/4096))∧w'=w:=by
 have c13:=size_sp h
 have c119:=pagesOf_any size hs w
 clear h
 go_enter Tryz.func99,Tryz.ntmps99
 go_wp2_with first|(go_at_call 22;refine c13.mono ?_;rintro _ w1 ⟨rfl,e1⟩;obtain rfl:w=w1:=e1.symm)|(go_at_call 112;refine c119.mono ?_;rintro _ w1 ⟨rfl,e1⟩;obtain rfl:w=w1:=e1.symm)
 go_ret
 exact⟨rfl,rfl⟩
theorem addrOf_any (k:Int) (h:0<=k∧k<=268435456) (w:World):Calls Tryz.prog 98 #[.int .i64 k] w fun e w'=>e = .returned (.int .u64 (k*4096))∧w'=w:=by
 have h1:IntKind.u64.wrap k=k:=by rw[IntKind.wrap_u64];omega
 have h2:IntKind.u64.wrap (k*4096)=k*4096:=by rw[IntKind.wrap_u64];omega
 go_enter Tryz.func98,Tryz.ntmps98
 go_wp2
 go_ret
 exact⟨rfl,rfl⟩
theorem frameOf_any (e:Int) (h:0<=e∧e<18014398509481984) (w:World):Calls Tryz.prog 128 #[.int .u64 e] w fun r w'=>r = .returned (.int .u64 (e/1024*4096))∧w'=w:=by
 have h2:IntKind.u64.wrap (e/1024*4096)=e/1024*4096:=by rw[IntKind.wrap_u64];omega
 go_enter Tryz.func128,Tryz.ntmps128
 go_wp2
 go_ret
 exact⟨rfl,rfl⟩
theorem leaf_any {w:World} {p b m N:Nat} {B:Nat->Int} {L:List Nat} (h:Ram w p b m N B L) (root va:Int) (hr:0<=root∧root<18446744073709551616) (hv:0<=va∧va<18446744073709551616) :
  Calls Tryz.prog 185 #[.agg #[.pointer (some ⟨p,0,.none⟩),.int .u64 root],.int .u64 va] w fun r w'=>r = .returned (.int .u64 (if finds (look N L B root va) va=true then (look N L B root va).e else 0))∧Below w.heap.size w w':=by
 have HB:Hid (Below w.heap.size w (w.alloc (.cells #[.pointer (some ⟨p,0,.none⟩),.int .u64 root] 105))):=zB.alloc zL _
 have c:=entry_any (h.below HB.out) root va hr hv
 generalize (if finds (look N L B root va) va=true then (look N L B root va).e else 0)=x at c ⊢
 generalize look N L B root va=y at c
 clear h
 go_enter Tryz.func185,Tryz.ntmps185
 go_wp2_with (go_at_call 54;refine c.mono ?_;rintro _ w1 ⟨rfl,b1⟩)
 all_goals go_ret
 all_goals exact⟨rfl,HB.out.trans (b1.mono HB.out.size)⟩
end Rm
end Go.Proofs.YtabnipbdbnmmpaaGreatDoor
