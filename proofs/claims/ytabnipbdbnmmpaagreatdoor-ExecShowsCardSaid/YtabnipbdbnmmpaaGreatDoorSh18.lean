import Derived.Test.YtabnipbdbnmmpaaGreatDoorSh01
import Derived.Test.YtabnipbdbnmmpaaGreatDoorSh17
import Derived.Laws.Bits64b
set_option linter.unusedVariables false
set_option linter.unusedSimpArgs false
namespace Go.Proofs.YtabnipbdbnmmpaaGreatDoor
namespace Rm
open Go.RowKit
def ext (va:Int) : Int := if va % 549755813888<274877906944 then va % 549755813888 else va % 549755813888+18446743523953737728
theorem ext_any (va:Int) (hv:0≤va∧va<18446744073709551616) (w:World) : Calls Tryz.prog 155 #[.int .u64 va] w fun r w' => r = .returned (.int .u64 (ext va))∧w'=w := by
 have h : IntKind.u64.wrap (wrap64 (IntKind.u64.wrap (va*33554432)) / 33554432)=ext va := by
  rw [IntKind.wrap_u64,IntKind.wrap_u64]
  unfold wrap64 ext
  split <;> omega
 rw [← h]
 clear h
 go_enter Tryz.func155,Tryz.ntmps155
 go_wp2
 go_ret
 exact ⟨rfl,rfl⟩
theorem right_any (va:Int) (hv:0≤va∧va<18446744073709551616) (w:World) : Calls Tryz.prog 105 #[.int .u64 va] w fun r w' => r = .returned (.bool (va == ext va))∧w'=w := by
 have c := fun W => ext_any va hv W
 go_enter Tryz.func105,Tryz.ntmps105
 go_wp2_with (go_at_call 155; refine (c _).mono ?_; rintro r w0 ⟨rfl,rfl⟩)
 go_ret
 exact ⟨rfl,rfl⟩
theorem userPage_any (va:Int) (hv:0≤va∧va<18446744073709551616) (w:World) : Calls Tryz.prog 158 #[.int .u64 va] w fun r w' => r = .returned (.bool (decide (va % 4096=0∧va<274877906944)))∧w'=w := by
 by_cases k0 : va % 4096=0
 ·by_cases k1 : va<274877906944
  ·have e : decide (va % 4096=0∧va<274877906944)=true := by simp [k0,k1]
   rw [e]
   go_enter Tryz.func158,Tryz.ntmps158
   go_wp2
   go_ret
   exact ⟨by simp [k0,k1],rfl⟩
  ·have e : decide (va % 4096=0∧va<274877906944)=false := by simp [k1]
   rw [e]
   go_enter Tryz.func158,Tryz.ntmps158
   go_wp2
   go_ret
   exact ⟨by simp [k0,k1],rfl⟩
 ·have e : decide (va % 4096=0∧va<274877906944)=false := by simp [k0]
  rw [e]
  go_enter Tryz.func158,Tryz.ntmps158
  go_wp2
  go_ret
  exact ⟨rfl,rfl⟩
def finds (x:Pt) (va:Int) : Bool := x.k == 2 && va == ext va
theorem wk_b {N:Nat} {L:List Nat} {B:Nat→Int} {va:Int} (hB:∀ i,0≤B i∧B i<256) : ∀ (l:Nat) (nd a0 a1 a2 e:Int),(0≤e∧e<18446744073709551616)→0≤(wk N L B va l nd a0 a1 a2 e).e∧(wk N L B va l nd a0 a1 a2 e).e<18446744073709551616∧((wk N L B va l nd a0 a1 a2 e).l=0∨(wk N L B va l nd a0 a1 a2 e).l=1∨(wk N L B va l nd a0 a1 a2 e).l=2∨2<l)
 | 0,nd,a0,a1,a2,e,he => by
  unfold wk
  split
  ·have := ent_b hB nd va 0
   exact ⟨this.1,this.2,.inl rfl⟩
  ·exact ⟨he.1,he.2,.inl rfl⟩
 | l+1,nd,a0,a1,a2,e,he => by
  unfold wk
  have hx := ent_b hB nd va (l+1 : Nat)
  split
  ·split
   ·have := wk_b (N:=N) (L:=L) (va:=va) hB l (adE (ent B nd va (l+1 : Nat))) a0 (if l=0 then st nd va 1 else a1) (if l=1 then st nd va 2 else a2) (ent B nd va (l+1 : Nat)) hx
    exact ⟨this.1,this.2.1,by rcases this.2.2 with h | h | h | h <;> first | exact .inl h | exact .inr (.inl h) | exact .inr (.inr (.inl h)) | exact .inr (.inr (.inr (by omega)))⟩
   ·exact ⟨hx.1,hx.2,by by_cases h0 : l = 0
                        ·subst h0; exact .inr (.inl rfl)
                        ·by_cases h1 : l=1
                         ·subst h1; exact .inr (.inr (.inl rfl))
                         ·exact .inr (.inr (.inr (by omega)))⟩
  ·exact ⟨he.1,he.2,by by_cases h0 : l = 0
                       ·subst h0; exact .inr (.inl rfl)
                       ·by_cases h1 : l=1
                        ·subst h1; exact .inr (.inr (.inl rfl))
                        ·exact .inr (.inr (.inr (by omega)))⟩
theorem look_b {N:Nat} {L:List Nat} {B:Nat→Int} (hB:∀ i,0≤B i∧B i<256) (root va:Int) : 0≤(look N L B root va).e∧(look N L B root va).e<18446744073709551616∧((look N L B root va).l=0∨(look N L B root va).l=1∨(look N L B root va).l=2) := by
 have := wk_b (N:=N) (L:=L) (va:=va) hB 2 root 0 0 0 0 (by omega)
 exact ⟨this.1,this.2.1,by rcases this.2.2 with h | h | h | h <;> first | exact .inl h | exact .inr (.inl h) | exact .inr (.inr h) | omega⟩
section
variable {w:World} {p b m N:Nat} {B:Nat→Int} {L:List Nat}
theorem entry_any (h:Ram w p b m N B L) (root va:Int) (hr:0≤root∧root<18446744073709551616) (hv:0≤va∧va<18446744073709551616) : Calls Tryz.prog 54 #[.pointer (some ⟨p,0,.none⟩),.int .u64 root,.int .u64 va] w fun r w' => r = .returned (.tuple #[.int .u64 (if finds (look N L B root va) va then (look N L B root va).e else 0),.int .i64 (if finds (look N L B root va) va then (look N L B root va).l else 0),.bool (finds (look N L B root va) va)])∧Below w.heap.size w w' := by
 have c := look_any h root va hr hv
 have c49 := fun W => right_any va hv W
 clear h
 generalize look N L B root va=x at *
 obtain ⟨a0,a1,a2,l,e,k⟩ := x
 simp only [Pt.val,finds] at c ⊢
 by_cases hk : k=2
 ·subst hk
  have hrt : (va == ext va)=false∨(va == ext va)=true := by cases (va == ext va) <;> simp
  rcases hrt with hrt | hrt
  ·simp only [hrt] at c49
   simp only [hrt,beq_self_eq_true,Bool.and_false,Bool.false_eq_true,if_false]
   go_enter Tryz.func54,Tryz.ntmps54
   go_wp2_with (first | (go_at_call 104; refine c.mono ?_; rintro r w0 ⟨rfl,hb⟩) | (go_at_call 105; refine (c49 _).mono ?_; rintro r w1 ⟨rfl,rfl⟩))
   go_ret3
   exact ⟨rfl,hb.trans ((below1 _ _).mono hb.size)⟩
  ·simp only [hrt] at c49
   simp only [hrt,beq_self_eq_true,Bool.and_true,if_true]
   go_enter Tryz.func54,Tryz.ntmps54
   go_wp2_with (first | (go_at_call 104; refine c.mono ?_; rintro r w0 ⟨rfl,hb⟩) | (go_at_call 105; refine (c49 _).mono ?_; rintro r w1 ⟨rfl,rfl⟩))
   go_quiet (fail)
   go_wp2
   go_ret3
   exact ⟨rfl,(hb.trans ((below1 _ _).mono hb.size)).trans (blw_drewN _ _ _)⟩
 ·have hk2 : (k == 2)=false := by simpa using hk
  simp only [hk2,Bool.false_and,Bool.false_eq_true,if_false]
  go_enter Tryz.func54,Tryz.ntmps54
  go_wp2_with (first | (go_at_call 104; refine c.mono ?_; rintro r w0 ⟨rfl,hb⟩))
  go_ret3
  exact ⟨rfl,hb.trans ((below1 _ _).mono hb.size)⟩
theorem isMade_any (h:Ram w p b m N B L) : Calls Tryz.prog 157 #[.pointer (some ⟨p,0,.none⟩)] w fun r w' => r = .returned (.bool true)∧w'=w := by
 have c := frames_any h.mem
 have n1 := h.mem.n1
 have hN : (0:Int)<N := by omega
 clear h
 go_enter Tryz.func157,Tryz.ntmps157
 go_wp2_with (go_at_call 41; refine c.mono ?_; rintro r w0 ⟨rfl,rfl⟩)
 go_ret
 exact ⟨by simp; omega,rfl⟩
theorem new_some (i:Nat) {l:List Nat} (h:Ram w p b m N B (i :: l)) : Calls Tryz.prog 144 #[.pointer (some ⟨p,0,.none⟩)] w fun r w' => r = .returned (.tuple #[.int .u64 (2147483648+i*4096),.int .i64 0])∧Ram w' p b m N (zer B i) l∧Fra p b m w w' := by
 have c := isMade_any h
 have c1 := alloc_some i h
 clear h
 go_enter Tryz.func144,Tryz.ntmps144
 go_wp2_with (first | (go_at_call 157; refine c.mono ?_; rintro r w0 ⟨rfl,rfl⟩) | (go_at_call 9; refine c1.mono ?_; rintro r w1 ⟨rfl,hR,hF⟩))
 go_ret2
 exact ⟨rfl,hR,hF⟩
theorem isNode_any (h:Ram w p b m N B L) (nd:Int) (hn:0≤nd∧nd<18446744073709551616) : Calls Tryz.prog 159 #[.pointer (some ⟨p,0,.none⟩),.int .u64 nd] w fun r w' => r = .returned (.bool (ndB N L nd))∧Below w.heap.size w w' := by
 have c65 := fun W => mayBeNode_any nd hn W
 cases hnd : ndB N L nd
 ·by_cases hal : nd % 4096=0∧nd≠2147483648
  ·have c64 := load_free h nd 0 hn hal.1 (by omega) (ndB_not hnd hal.1 hal.2)
   rw [show nd+((0:Nat) : Int)*8=nd by omega] at c64
   clear h hnd hal
   go_enter Tryz.func159,Tryz.ntmps159
   go_wp2_with (first | (go_at_call 152; refine c64.mono ?_; rintro r w0 ⟨rfl,hb⟩))
   go_ret
   exact ⟨rfl,hb⟩
  ·have mb : decide (nd % 4096=0∧nd≠2147483648)=false := by simpa using hal
   simp only [mb] at c65
   have c64 := load_any h nd hn
   clear h hnd hal mb
   go_enter Tryz.func159,Tryz.ntmps159
   go_wp2_with (first | (go_at_call 152; refine c64.mono ?_; rintro r w0 ⟨⟨x,ok,rfl,h0,h1⟩,hb⟩; cases ok) | (go_at_call 153; refine (c65 _).mono ?_; rintro r w1 ⟨rfl,rfl⟩))
   all_goals go_ret
   all_goals exact ⟨rfl,hb⟩
 ·obtain ⟨q1,q2,q3,q4⟩ := ndB_spec hnd
  have mb : decide (nd % 4096=0∧nd≠2147483648)=true := by simp; omega
  simp only [mb] at c65
  have c64 := load_held h (fi nd) 0 q3 q4 (by omega)
  rw [show 2147483648+(fi nd:Int)*4096+((0:Nat) : Int)*8=nd by omega] at c64
  generalize num B (fi nd*4096+0*8) 8=x at *
  clear h hnd mb q1 q2 q3 q4
  go_enter Tryz.func159,Tryz.ntmps159
  go_wp2_with (first | (go_at_call 152; refine c64.mono ?_; rintro r w0 ⟨rfl,hb⟩) | (go_at_call 153; refine (c65 _).mono ?_; rintro r w1 ⟨rfl,rfl⟩))
  go_ret
  exact ⟨rfl,hb⟩
end
end Rm
namespace Rm
open Go.RowKit
def toP (pa c:Int) : Int := bits .or .u64 (bits .or .u64 (pa / 4096*1024) c) 1
theorem toPage_any (pa c:Int) (hp:0≤pa∧pa<18446744073709551616) (w:World) : Calls Tryz.prog 180 #[.int .u64 pa,.int .u64 c] w fun r w' => r = .returned (.int .u64 (toP pa c))∧w'=w := by
 unfold toP
 go_enter Tryz.func180,Tryz.ntmps180
 go_wp2
 go_ret
 exact ⟨rfl,rfl⟩
theorem mayPerm_any (c:Int) (w:World) : Calls Tryz.prog 178 #[.int .u64 c] w fun r w' => r = .returned (.bool (!ho c 18446744073709551361 && ho c 10 && (!hs c 4 || hs c 2)))∧w'=w := by
 have c68 := fun W => readIf_any c W
 generalize (!hs c 4 || hs c 2)=x at *
 have h1 : ho c 18446744073709551361=false∨ho c 18446744073709551361=true := by cases ho c 18446744073709551361 <;> simp
 have h2 : ho c 10=false∨ho c 10=true := by cases ho c 10 <;> simp
 rcases h1 with h1 | h1 <;> rcases h2 with h2 | h2
 all_goals
  simp only [h1,h2]
  go_enter Tryz.func178,Tryz.ntmps178
  go_wp2_with (first | (go_at_call 188; refine (hasOne_any _ _ _).mono ?_; rintro r w0 ⟨rfl,rfl⟩) | (go_at_call 187; refine (c68 _).mono ?_; rintro r w0 ⟨rfl,rfl⟩))
  go_ret
  exact ⟨by simp,rfl⟩
theorem or_b (a c:Int) : 0≤bits .or .u64 a c∧bits .or .u64 a c<18446744073709551616 := by
 have e : bits .or .u64 a c=IntKind.u64.wrap (((BitVec.ofInt 64 a ||| BitVec.ofInt 64 c).toNat : Nat) : Int) := rfl
 rw [e,IntKind.wrap_u64]
 omega
theorem toP_b (pa c:Int) : 0≤toP pa c∧toP pa c<18446744073709551616 := or_b _ _
section
variable {w w':World} {p b m N:Nat} {B:Nat→Int} {L:List Nat}
theorem Ram.laid (h:Ram w p b m N B L) {o:Nat} {vs:List Int} (hm:Mem w' p b m N (over B o vs) (adr L) (hdL N L) (N - L.length)) (hf:∀ j ∈ L,o+vs.length≤j*4096∨j*4096+4096≤o) : Ram w' p b m N (over B o vs) L :=
 ⟨hm,h.nd,h.lt,h.thr.congr (fun j hj k hk => by
  have := hf j hj
  unfold over
  rw [if_neg (by omega)])⟩
theorem store_nd (h:Ram w p b m N B L) (nd va l v:Int) (hn:ndB N L nd=true) (hv:0≤v∧v<18446744073709551616) : Calls Tryz.prog 160 #[.pointer (some ⟨p,0,.none⟩),.int .u64 (nd+ix va l*8),.int .i64 8,.int .u64 v] w fun e w' => e = .returned (.bool true)∧Ram w' p b m N (over B (fi nd*4096+(ix va l).toNat*8) (le v 8)) L∧Fra p b m w w' := by
 obtain ⟨h1,h2,h3,h4⟩ := ndB_spec hn
 have hb := ix_b va l
 have c := store_ok h.mem (fi nd*4096+(ix va l).toNat*8) 8 (by omega) (by omega) (fun f k1 k2 => by
  obtain rfl : f=fi nd := by omega
  rw [hdL_in h3]
  simp [h4]) v hv
 rw [show (2147483648+((fi nd*4096+(ix va l).toNat*8 : Nat) : Int))=nd+ix va l*8 by omega] at c
 refine c.mono ?_
 rintro e w2 ⟨he,hm,hF⟩
 refine ⟨he,h.laid hm (fun j hj => ?_),hF⟩
 have hne : j≠fi nd := fun e => h4 (e ▸ hj)
 rw [le_len]
 omega
theorem meetL_keep (q:Option Addr) (leaf l at_ e:Int) (he:0≤e∧e<18446744073709551616) (hl:l=0∨l=1∨l=2) (hk:kd e l≠0) (w:World) : Calls Tryz.prog 243 #[.agg #[.pointer q,.int .u64 leaf],.int .i64 l,.int .u64 at_,.int .u64 e] w fun r w' => r = .returned (.tuple #[.int .u64 e,.bool true])∧Below w.heap.size w w' := by
 have c66 := fun W => kind_any e l he hl W
 generalize kd e l=k at *
 have hk2 : (k != 0)=true := by simpa using hk
 go_enter Tryz.func243,Tryz.ntmps243
 go_wp2_with (first | (go_at_call 154; refine (c66 _).mono ?_; rintro r w0 ⟨rfl,rfl⟩))
 go_ret2
 exact ⟨rfl,below1 _ _⟩
theorem meetL_leaf (h:Ram w p b m N B L) (nd va leaf e:Int) (hn:ndB N L nd=true) (hv:0≤leaf∧leaf<18446744073709551616) (he:0≤e∧e<18446744073709551616) (hk:kd e 0=0) : Calls Tryz.prog 243 #[.agg #[.pointer (some ⟨p,0,.none⟩),.int .u64 leaf],.int .i64 0,.int .u64 (nd+ix va 0*8),.int .u64 e] w fun r w' => r = .returned (.tuple #[.int .u64 leaf,.bool true])∧Ram w' p b m N (over B (fi nd*4096+(ix va 0).toNat*8) (le leaf 8)) L∧Fra p b m w w' := by
 have c66 := fun W => kind_any e 0 he (by omega) W
 have b0 := below1 w (.cells #[.pointer (some ⟨p,0,.none⟩),.int .u64 leaf] 248)
 have c47 := store_nd (h.below b0) nd va 0 leaf hn hv
 have HF : Hid (Fra p b m w _) := Fra.below b0
 rw [hk] at c66
 clear h b0 hk
 generalize nd+ix va 0*8=at_ at *
 go_enter Tryz.func243,Tryz.ntmps243
 go_wp2_with (first | (go_at_call 154; refine (c66 _).mono ?_; rintro r w0 ⟨rfl,rfl⟩) | (go_at_call 160; refine c47.mono ?_; rintro r w1 ⟨rfl,hR,hF⟩))
 go_ret2
 exact ⟨rfl,hR,HF.out.trans hF⟩
theorem meetL_node {i:Nat} {l':List Nat} (h:Ram w p b m N B (i :: l')) (nd va leaf l e:Int) (hl:l=1∨l=2) (hn:ndB N l' nd=true) (he:0≤e∧e<18446744073709551616) (hk:kd e l=0) : Calls Tryz.prog 243 #[.agg #[.pointer (some ⟨p,0,.none⟩),.int .u64 leaf],.int .i64 l,.int .u64 (nd+ix va l*8),.int .u64 e] w fun r w' => r = .returned (.tuple #[.int .u64 (toP (2147483648+i*4096) 0),.bool true])∧Ram w' p b m N (over (zer B i) (fi nd*4096+(ix va l).toNat*8) (le (toP (2147483648+i*4096) 0) 8)) l'∧Fra p b m w w' := by
 have c66 := fun W => kind_any e l he (by omega) W
 have b0 := below1 w (.cells #[.pointer (some ⟨p,0,.none⟩),.int .u64 leaf] 248)
 have c22 := alloc_some i (h.below b0)
 have hi := h.lt i (by simp)
 have n2 := h.mem.n2
 have c44 := fun W => toPage_any (2147483648+i*4096) 0 (by omega) W
 have HF : Hid (Fra p b m w _) := Fra.below b0
 have HP := toP_b (2147483648+(i:Int)*4096) 0
 have c47 : Hid (∀ W,Ram W p b m N (zer B i) l'→Calls Tryz.prog 160 #[.pointer (some ⟨p,0,.none⟩),.int .u64 (nd+ix va l*8),.int .i64 8,.int .u64 (toP (2147483648+i*4096) 0)] W fun e w' => e = .returned (.bool true)∧Ram w' p b m N (over (zer B i) (fi nd*4096+(ix va l).toNat*8) (le (toP (2147483648+i*4096) 0) 8)) l'∧Fra p b m W w') := fun W hW => store_nd hW nd va l _ hn HP
 have hlt : (0:Int)<l := by omega
 rw [hk] at c66
 have P0 := (below1 w (.cells #[.pointer (some ⟨p,0,.none⟩),.int .u64 leaf] 248))
 have hpw : p<w.heap.size := h.mem.plt
 have hbw : b<w.heap.size := h.mem.blt
 have hmw : m<w.heap.size := h.mem.mlt
 have HZ : Hid (∀ W,Fra p b m (w.alloc (.cells #[.pointer (some ⟨p,0,.none⟩),.int .u64 leaf] 248)) W→W.cell? ⟨w.heap.size,0,.none⟩=some (.pointer (some ⟨p,0,.none⟩))) := fun W hF => (hF.cell (x:=⟨w.heap.size,0,.none⟩) (by simp) (by show w.heap.size≠p; omega) (by show w.heap.size≠b; omega) (by show w.heap.size≠m; omega)).trans (by simp)
 clear h b0 hk P0 hpw hbw hmw hi
 generalize nd+ix va l*8=at_ at *
 generalize toP (2147483648+i*4096) 0=tp at *
 go_enter Tryz.func243,Tryz.ntmps243
 go_wp2_with (first | (go_at_call 154; refine (c66 _).mono ?_; rintro r w0 ⟨rfl,rfl⟩) | (go_at_call 9; refine c22.mono ?_; rintro r V1 ⟨rfl,hR1,hF1⟩; have z1 := HZ.out V1 hF1; have c47' := c47.out V1 hR1; have HF1 : Hid (Fra p b m (w.alloc (.cells #[.pointer (some ⟨p,0,.none⟩),.int .u64 leaf] 248)) V1) := hF1; clear hR1 hF1 c22) | (go_at_call 180; refine (c44 _).mono ?_; rintro r V1 ⟨rfl,rfl⟩) | (go_at_call 160; refine c47'.mono ?_; rintro r V2 ⟨rfl,hR,hF⟩))
 go_ret2
 exact ⟨rfl,hR,(HF.out.trans HF1.out).trans hF⟩
end
end Rm
namespace Rm
open Go.RowKit
theorem land_low (x c:Nat) (hc:c<1024) : x &&& c=(x % 1024) &&& c := by
 have e : c=1023 &&& c := by
  have : c % 1024=c := Nat.mod_eq_of_lt hc
  have h := Nat.and_two_pow_sub_one_eq_mod c 10
  rw [Nat.and_comm]
  simpa [this] using h.symm
 have h2 : x % 1024=x &&& 1023 := (Nat.and_two_pow_sub_one_eq_mod x 10).symm
 rw [h2,Nat.and_assoc,← e]
theorem and_low (e:Int) (he:0≤e∧e<18446744073709551616) (c:Nat) (hc:c<1024) : bits .and .u64 e c=(((e % 1024).toNat &&& c : Nat) : Int) := by
 obtain ⟨n,rfl⟩ : ∃ n : Nat,e=n := ⟨e.toNat,by omega⟩
 have h := bits_and_u64_nat n c (by omega) (by omega)
 rw [h,land_low n c hc]
 congr 2
theorem join_u (i:Nat) (x y:Int) (hx₀:0≤x) (hx:x % 2 ^ i=0) (hx₁:x<18446744073709551616) (hy₀:0≤y) (hy:y<2 ^ i) (hy₁:y<18446744073709551616) : bits .or .u64 x y=x+y :=
 bits_join .u64 64 (by decide) (fun n h0 h1 => by rw [IntKind.wrap_u64]; omega) i x y hx₀ hx (by omega) hy₀ hy (by omega)
theorem toP_val (pa c:Int) (hp:0≤pa∧pa<72057594037927936) (hc:0≤c∧c<1023) (he:c % 2=0) : toP pa c=pa / 4096*1024+c+1 := by
 unfold toP
 rw [join_u 10 (pa / 4096*1024) c (by omega) (by omega) (by omega) hc.1 (by omega) (by omega),join_u 1 (pa / 4096*1024+c) 1 (by omega) (by omega) (by omega) (by omega) (by omega) (by omega)]
theorem adE_toP (pa c:Int) (hp:0≤pa∧pa<72057594037927936) (ha:pa % 4096=0) (hc:0≤c∧c<1023) (he:c % 2=0) : adE (toP pa c)=pa := by
 rw [toP_val pa c hp hc he]
 unfold adE
 omega
theorem hs_toP (pa c:Int) (hp:0≤pa∧pa<72057594037927936) (hc:0≤c∧c<1023) (he:c % 2=0) (d:Nat) (hd:d<1024) : hs (toP pa c) d=((((c+1).toNat &&& d : Nat) : Int) == (d:Int)) := by
 have hv := toP_val pa c hp hc he
 unfold hs
 rw [and_low (toP pa c) (toP_b pa c) d hd,hv,show (pa / 4096*1024+c+1) % 1024=c+1 by omega]
theorem ho_toP (pa c:Int) (hp:0≤pa∧pa<72057594037927936) (hc:0≤c∧c<1023) (he:c % 2=0) (d:Nat) (hd:d<1024) : ho (toP pa c) d=((((c+1).toNat &&& d : Nat) : Int) != 0) := by
 have hv := toP_val pa c hp hc he
 unfold ho
 rw [and_low (toP pa c) (toP_b pa c) d hd,hv,show (pa / 4096*1024+c+1) % 1024=c+1 by omega]
theorem kd_node (pa l:Int) (hp:0≤pa∧pa<72057594037927936) (hl:l=1∨l=2) : kd (toP pa 0) l=3 := by
 have h1 := hs_toP pa 0 hp (by omega) (by omega) 1 (by omega)
 have h4 := hs_toP pa 0 hp (by omega) (by omega) 4 (by omega)
 have h10 := ho_toP pa 0 hp (by omega) (by omega) 10 (by omega)
 have h208 := ho_toP pa 0 hp (by omega) (by omega) 208 (by omega)
 have hv := toP_val pa 0 hp (by omega) (by omega)
 have e1 : hs (toP pa 0) 1=true := h1
 have e4 : hs (toP pa 0) 4=false := h4
 have e10 : ho (toP pa 0) 10=false := h10
 have e208 : ho (toP pa 0) 208=false := h208
 have hlt : ¬ 18014398509481984≤toP pa 0 := by rw [hv]; omega
 unfold kd
 simp only [e1,e4,e10,e208,hlt,Bool.false_eq_true,if_false,false_and]
 rcases hl with rfl | rfl <;> simp
theorem kd_leaf (pa c:Int) (hp:0≤pa∧pa<72057594037927936) (ha:pa % 4096=0) (hc:0≤c∧c<256) (he:c % 2=0) (hrw:hs (toP pa c) 4=true→hs (toP pa c) 2=true) (hrx:ho (toP pa c) 10=true) : kd (toP pa c) 0=2 := by
 have h1 := hs_toP pa c hp (by omega) he 1 (by omega)
 have e1 : hs (toP pa c) 1=true := by
  have hx : ((c+1).toNat &&& 1 : Nat)=1 := by
   rw [Nat.and_one_is_mod]
   omega
  rw [show hs (toP pa c) 1=((((c+1).toNat &&& 1 : Nat) : Int) == ((1:Nat) : Int)) from h1,hx]
  rfl
 have hv := toP_val pa c hp (by omega) he
 have hlt : ¬ 18014398509481984≤toP pa c := by rw [hv]; omega
 have hno : ¬ (hs (toP pa c) 4=true∧hs (toP pa c) 2=false) := fun e => by
  have := hrw e.1
  rw [this] at e
  simp at e
 unfold kd
 rw [if_neg (by rw [e1]; simp),if_neg hlt,if_neg hno,if_pos hrx,adE_toP pa c hp ha (by omega) he,spn0,if_pos ha]
end Rm
namespace Rm
open Go.RowKit
theorem C6.fra {W W':World} {p b m P:Nat} {x0 x1 x2 x3 x4 x5:Value} (h:C6 W P x0 x1 x2 x3 x4 x5) (f:Fra p b m W W') (h1:P≠p) (h2:P≠b) (h3:P≠m) : C6 W' P x0 x1 x2 x3 x4 x5 := by
 have hP : P<W.heap.size := lt_of_cell h.c0
 exact ⟨(f.cell (x:=⟨P,0,.none⟩) hP h1 h2 h3).trans h.c0,(f.cell (x:=⟨P,1,.none⟩) hP h1 h2 h3).trans h.c1,(f.cell (x:=⟨P,2,.none⟩) hP h1 h2 h3).trans h.c2,(f.cell (x:=⟨P,3,.none⟩) hP h1 h2 h3).trans h.c3,(f.cell (x:=⟨P,4,.none⟩) hP h1 h2 h3).trans h.c4,(f.cell (x:=⟨P,5,.none⟩) hP h1 h2 h3).trans h.c5,
  (f.frozen (x:=⟨P,0,.none⟩) hP h1 h2 h3).trans h.f0,(f.frozen (x:=⟨P,1,.none⟩) hP h1 h2 h3).trans h.f1,(f.frozen (x:=⟨P,2,.none⟩) hP h1 h2 h3).trans h.f2,(f.frozen (x:=⟨P,3,.none⟩) hP h1 h2 h3).trans h.f3,(f.frozen (x:=⟨P,4,.none⟩) hP h1 h2 h3).trans h.f4,(f.frozen (x:=⟨P,5,.none⟩) hP h1 h2 h3).trans h.f5⟩
def Lays (N:Nat) (va leaf:Int) : Nat→(Nat→Int)→List Nat→Int→(Nat→Int)→List Nat→Prop
 | 0,B,L,nd,B',L' => ndB N L nd=true∧kd (ent B nd va 0) 0=0∧B'=over B (fi nd*4096+(ix va 0).toNat*8) (le leaf 8)∧L'=L
 | l+1,B,L,nd,B',L' => ndB N L nd=true∧((kd (ent B nd va (l+1 : Nat)) (l+1 : Nat)=3∧Lays N va leaf l B L (adE (ent B nd va (l+1 : Nat))) B' L') ∨
   (kd (ent B nd va (l+1 : Nat)) (l+1 : Nat)=0 ∧ ∃ i L1,L=i :: L1∧ndB N L1 nd=true∧Lays N va leaf l (over (zer B i) (fi nd*4096+(ix va (l+1 : Nat)).toNat*8) (le (toP (2147483648+i*4096) 0) 8)) L1 (2147483648+i*4096) B' L'))
structure LW (w W:World) (p b m:Nat) (leaf:Int) (a0 a1 a2 l e k:Int) : Prop where
 c : C6 W (w.heap.size+1+1) (.int .u64 a0) (.int .u64 a1) (.int .u64 a2) (.int .i64 l) (.int .u64 e) (.int .i64 k)
 r : C6 W (w.heap.size+1) (.int .u64 0) (.int .u64 0) (.int .u64 0) (.int .i64 0) (.int .u64 0) (.int .i64 0)
 g0 : W.cell? ⟨w.heap.size,0,.none⟩=some (.pointer (some ⟨p,0,.none⟩))
 g1 : W.cell? ⟨w.heap.size,1,.none⟩=some (.int .u64 leaf)
 f : Fra p b m w W
section
variable {w W W':World} {p b m:Nat} {leaf a0 a1 a2 l e k:Int}
theorem LW.fra (h:LW w W p b m leaf a0 a1 a2 l e k) (hp:p<w.heap.size) (hb:b<w.heap.size) (hm:m<w.heap.size) (f:Fra p b m W W') : LW w W' p b m leaf a0 a1 a2 l e k := by
 have h0 : w.heap.size<W.heap.size := lt_of_cell h.g0
 exact ⟨h.c.fra f (by omega) (by omega) (by omega),h.r.fra f (by omega) (by omega) (by omega),(f.cell (x:=⟨w.heap.size,0,.none⟩) h0 (by show w.heap.size≠p; omega) (by show w.heap.size≠b; omega) (by show w.heap.size≠m; omega)).trans h.g0,(f.cell (x:=⟨w.heap.size,1,.none⟩) h0 (by show w.heap.size≠p; omega) (by show w.heap.size≠b; omega) (by show w.heap.size≠m; omega)).trans h.g1,h.f.trans f⟩
theorem LW.below (h:LW w W p b m leaf a0 a1 a2 l e k) (hp:p<w.heap.size) (hb:b<w.heap.size) (hm:m<w.heap.size) (f:Below W.heap.size W W') : LW w W' p b m leaf a0 a1 a2 l e k := h.fra hp hb hm (Fra.below f)
end
theorem Fra.beside {p b m:Nat} {w W:World} (h:Fra p b m w W) (a:Addr) (v:Value) (ha:w.heap.size≤a.block) : Fra p b m w (W.setCell a v) := by
 have g : Below w.heap.size W (W.setCell a v) := (Below.refl _ _).setCell ha _
 exact ⟨g.os.trans h.os,g.tape.trans h.tape,g.output.trans h.output,Nat.le_trans h.size g.size,fun k hk h1 h2 h3 => (g.block k hk).trans (h.block k hk h1 h2 h3)⟩
end Rm
end Go.Proofs.YtabnipbdbnmmpaaGreatDoor
