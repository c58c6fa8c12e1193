import Derived.Test.YtabnipbdbnmmpaaGreatDoorSh01
import Derived.Test.YtabnipbdbnmmpaaGreatDoorSh18
import Derived.Test.YtabnipbdbnmmpaaGreatDoorSh19
import Derived.Test.YtabnipbdbnmmpaaGreatDoorSh14
set_option linter.unusedVariables false
set_option linter.unusedSimpArgs false
namespace Go.Proofs.YtabnipbdbnmmpaaGreatDoor
namespace Rm
open Go.RowKit
theorem letsF_any (e:Int) (w:World) : Calls Tryz.prog 106 #[.int .u64 e] w fun r w' => r = .returned (.bool (hs e 8))∧w'=w := by
 go_enter Tryz.func106,Tryz.ntmps106
 go_wp2_with (go_at_call 109; refine (has_any _ _ _).mono ?_; rintro r w0 ⟨rfl,rfl⟩)
 go_ret
 exact ⟨rfl,rfl⟩
theorem letsL_any (e:Int) (w:World) : Calls Tryz.prog 107 #[.int .u64 e] w fun r w' => r = .returned (.bool (hs e 2))∧w'=w := by
 go_enter Tryz.func107,Tryz.ntmps107
 go_wp2_with (go_at_call 109; refine (has_any _ _ _).mono ?_; rintro r w0 ⟨rfl,rfl⟩)
 go_ret
 exact ⟨rfl,rfl⟩
theorem letsS_any (e:Int) (w:World) : Calls Tryz.prog 108 #[.int .u64 e] w fun r w' => r = .returned (.bool (hs e 132))∧w'=w := by
 go_enter Tryz.func108,Tryz.ntmps108
 go_wp2_with (go_at_call 109; refine (has_any _ _ _).mono ?_; rintro r w0 ⟨rfl,rfl⟩)
 go_ret
 exact ⟨rfl,rfl⟩
def lts (e a:Int) : Bool := if a=1 then hs e 80 && hs e 8 else if a=2 then hs e 80 && hs e 2 else if a=3 then hs e 80 && hs e 132 else false
theorem idx129 (i:Nat) (x:Int) (f:Nat) (h:(i=0∧x=1∧f=106)∨(i=1∧x=2∧f=107)∨(i=2∧x=3∧f=108)) (w:World) : (Instr.index 176 (.agg #[.int .i64 1,.func (.func 106) #[] #[],.int .i64 2,.func (.func 107) #[] #[],.int .i64 3,.func (.func 108) #[] #[]]) (.int .i64 i)).run Tryz.prog w = .ok (.agg #[.int .i64 x,.func (.func f) #[] #[]]) w := by
 rcases h with ⟨rfl,rfl,rfl⟩ | ⟨rfl,rfl,rfl⟩ | ⟨rfl,rfl,rfl⟩ <;> kernel_rfl
theorem run_store_func (P:Program) (w:World) (a:Addr) (f:Fn) (c d:Array Value) (m:Mode) (hc:(w.cell? a).isSome=true) (hf:w.frozen? a=false) :
  (store a (.func f c d) m).run P w = .ok () (w.setCell a (.func f c d)) := by
 obtain ⟨u,hu⟩ := Option.isSome_iff_exists.1 hc
 rw [run_store P w a (.func f c d) m rfl,hu]
 simp [hf]
attribute [local go_sem] run_store_func
set_option maxHeartbeats 1000000 in
set_option maxRecDepth 10000 in
theorem lets_any (e a:Int) (w:World) : Calls Tryz.prog 55 #[.int .u64 e,.int .i64 a] w fun r w' => r = .returned (.bool (lts e a))∧Below w.heap.size w w' := by
 have i0 : ∀ w : World,(Instr.index 176 (Value.agg #[.int .i64 1,.func (.func 106) #[] #[],.int .i64 2,.func (.func 107) #[] #[],.int .i64 3,.func (.func 108) #[] #[]]) (.int .i64 0)).run Tryz.prog w = .ok (.agg #[.int .i64 1,.func (.func 106) #[] #[]]) w := idx129 0 1 106 (by omega)
 have i1 : ∀ w : World,(Instr.index 176 (Value.agg #[.int .i64 1,.func (.func 106) #[] #[],.int .i64 2,.func (.func 107) #[] #[],.int .i64 3,.func (.func 108) #[] #[]]) (.int .i64 1)).run Tryz.prog w = .ok (.agg #[.int .i64 2,.func (.func 107) #[] #[]]) w := idx129 1 2 107 (by omega)
 have i2 : ∀ w : World,(Instr.index 176 (Value.agg #[.int .i64 1,.func (.func 106) #[] #[],.int .i64 2,.func (.func 107) #[] #[],.int .i64 3,.func (.func 108) #[] #[]]) (.int .i64 2)).run Tryz.prog w = .ok (.agg #[.int .i64 3,.func (.func 108) #[] #[]]) w := idx129 2 3 108 (by omega)
 by_cases h1 : a=1
 ·subst h1
  have hfin : lts e 1=(hs e 80 && hs e 8) := by simp [lts]
  rw [hfin]
  clear hfin
  cases h80 : hs e 80 <;> cases hbt : hs e 8
  all_goals
   go_enter Tryz.func55,Tryz.ntmps55
   go_upto_region 2 with fail
   generalize hT : (Value.agg #[.int .i64 1,.func (.func 106) #[] #[],.int .i64 2,.func (.func 107) #[] #[],.int .i64 3,.func (.func 108) #[] #[]])=T at *
   clear hT
   refine wp_loop_rounds 1 ?_
   rw [rounds_succ]
   go_wp2_with (first | (go_at_call 109; refine (has_any _ _ _).mono ?_; rintro r w0 ⟨rfl,rfl⟩) | (go_at_call 106; refine (letsF_any _ _).mono ?_; rintro r w0 ⟨rfl,rfl⟩))
   go_ret
   exact ⟨rfl,by first | exact below1 _ _ | exact below2 _ _ _ | exact below3 _ _ _ _⟩
 by_cases h2 : a=2
 ·subst h2
  have hfin : lts e 2=(hs e 80 && hs e 2) := by simp [lts]
  rw [hfin]
  clear hfin
  cases h80 : hs e 80 <;> cases hbt : hs e 2
  all_goals
   go_enter Tryz.func55,Tryz.ntmps55
   go_upto_region 2 with fail
   generalize hT : (Value.agg #[.int .i64 1,.func (.func 106) #[] #[],.int .i64 2,.func (.func 107) #[] #[],.int .i64 3,.func (.func 108) #[] #[]])=T at *
   clear hT
   refine wp_loop_rounds 2 ?_
   rw [rounds_succ]
   go_wp2_with (first | (go_at_call 109; refine (has_any _ _ _).mono ?_; rintro r w0 ⟨rfl,rfl⟩) | (go_at_call 107; refine (letsL_any _ _).mono ?_; rintro r w0 ⟨rfl,rfl⟩))
   rw [rounds_succ]
   go_wp2_with (first | (go_at_call 109; refine (has_any _ _ _).mono ?_; rintro r w0 ⟨rfl,rfl⟩) | (go_at_call 107; refine (letsL_any _ _).mono ?_; rintro r w0 ⟨rfl,rfl⟩))
   go_ret
   exact ⟨rfl,by first | exact below1 _ _ | exact below2 _ _ _ | exact below3 _ _ _ _⟩
 by_cases h3 : a=3
 ·subst h3
  have hfin : lts e 3=(hs e 80 && hs e 132) := by simp [lts]
  rw [hfin]
  clear hfin
  cases h80 : hs e 80 <;> cases hbt : hs e 132
  all_goals
   go_enter Tryz.func55,Tryz.ntmps55
   go_upto_region 2 with fail
   generalize hT : (Value.agg #[.int .i64 1,.func (.func 106) #[] #[],.int .i64 2,.func (.func 107) #[] #[],.int .i64 3,.func (.func 108) #[] #[]])=T at *
   clear hT
   refine wp_loop_rounds 3 ?_
   rw [rounds_succ]
   go_wp2_with (first | (go_at_call 109; refine (has_any _ _ _).mono ?_; rintro r w0 ⟨rfl,rfl⟩) | (go_at_call 108; refine (letsS_any _ _).mono ?_; rintro r w0 ⟨rfl,rfl⟩))
   rw [rounds_succ]
   go_wp2_with (first | (go_at_call 109; refine (has_any _ _ _).mono ?_; rintro r w0 ⟨rfl,rfl⟩) | (go_at_call 108; refine (letsS_any _ _).mono ?_; rintro r w0 ⟨rfl,rfl⟩))
   rw [rounds_succ]
   go_wp2_with (first | (go_at_call 109; refine (has_any _ _ _).mono ?_; rintro r w0 ⟨rfl,rfl⟩) | (go_at_call 108; refine (letsS_any _ _).mono ?_; rintro r w0 ⟨rfl,rfl⟩))
   go_ret
   exact ⟨rfl,by first | exact below1 _ _ | exact below2 _ _ _ | exact below3 _ _ _ _⟩
 have hfin : lts e a=false := by simp [lts,h1,h2,h3]
 rw [hfin]
 clear hfin
 have e1 : ¬ (1:Int)=a := fun e => h1 e.symm
 have e2 : ¬ (2:Int)=a := fun e => h2 e.symm
 have e3 : ¬ (3:Int)=a := fun e => h3 e.symm
 go_enter Tryz.func55,Tryz.ntmps55
 go_upto_region 2 with fail
 generalize hT : (Value.agg #[.int .i64 1,.func (.func 106) #[] #[],.int .i64 2,.func (.func 107) #[] #[],.int .i64 3,.func (.func 108) #[] #[]])=T at *
 clear hT
 refine wp_loop_rounds 4 ?_
 rw [rounds_succ]
 go_wp2
 rw [rounds_succ]
 go_wp2
 rw [rounds_succ]
 go_wp2
 rw [rounds_succ]
 go_wp2
 go_ret
 exact ⟨rfl,below3 _ _ _ _⟩
def trA (x:Pt) (va a:Int) : Bool := finds x va && lts x.e a
end Rm
namespace Rm
open Go.RowKit
def trP (x:Pt) (va:Int) : Int := (adE x.e+va % spn x.l) % 18446744073709551616
section
variable {w:World} {p b m N:Nat} {B:Nat→Int} {L:List Nat}
theorem translate_any (h:Ram w p b m N B L) (root va a:Int) (hr:0≤root∧root<18446744073709551616) (hv:0≤va∧va<18446744073709551616) : Calls Tryz.prog 18 #[.pointer (some ⟨p,0,.none⟩),.int .u64 root,.int .u64 va,.int .i64 a] w fun r w' => r = .returned (.tuple #[.int .u64 (if trA (look N L B root va) va a then trP (look N L B root va) va else 0),.bool (trA (look N L B root va) va a)])∧Below w.heap.size w w' := by
 have c := entry_any h root va hr hv
 have lb := look_b (N:=N) (L:=L) h.mem.bb root va
 clear h
 generalize look N L B root va=x at *
 obtain ⟨a0,a1,a2,l,e,k⟩ := x
 simp only at lb c ⊢
 have hf : finds ⟨a0,a1,a2,l,e,k⟩ va=false∨finds ⟨a0,a1,a2,l,e,k⟩ va=true := by cases finds ⟨a0,a1,a2,l,e,k⟩ va <;> simp
 rcases hf with hf | hf
 ·simp only [trA,hf,Bool.false_and,Bool.false_eq_true,if_false] at c ⊢
  clear hf
  go_enter Tryz.func18,Tryz.ntmps18
  go_wp2_with (first | (go_at_call 54; refine c.mono ?_; rintro r w0 ⟨rfl,hb⟩))
  go_ret2
  exact ⟨rfl,hb⟩
 ·have c50 := fun W => lets_any e a W
  have hl : lts e a=false∨lts e a=true := by cases lts e a <;> simp
  rcases hl with hl | hl
  ·simp only [hl] at c50
   simp only [trA,hf,hl,Bool.true_and,Bool.false_eq_true,if_false,if_true] at c ⊢
   clear hf hl
   go_enter Tryz.func18,Tryz.ntmps18
   go_wp2_with (first | (go_at_call 54; refine c.mono ?_; rintro r w0 ⟨rfl,hb⟩) | (go_at_call 55; refine (c50 _).mono ?_; rintro r w1 ⟨rfl,hb1⟩))
   go_ret2
   exact ⟨rfl,hb.trans (hb1.mono hb.size)⟩
  ·simp only [hl] at c50
   have c46 := fun W => address_any e W ⟨lb.1,lb.2.1⟩
   have c51 := fun W => inSpan_any va l hv (by omega) W
   have hw : trP ⟨a0,a1,a2,l,e,k⟩ va=IntKind.u64.wrap (adE e+va % spn l) := (IntKind.wrap_u64 _).symm
   simp only [trA,hf,hl,hw,Bool.true_and,if_true] at c ⊢
   clear hf hl hw lb
   generalize adE e=ax at *
   generalize va % spn l=vx at *
   go_enter Tryz.func18,Tryz.ntmps18
   go_wp2_with (first | (go_at_call 54; refine c.mono ?_; rintro r w0 ⟨rfl,hb⟩) | (go_at_call 55; refine (c50 _).mono ?_; rintro r w1 ⟨rfl,hb1⟩) | (go_at_call 56; refine (c46 _).mono ?_; rintro r w1 ⟨rfl,rfl⟩) | (go_at_call 57; refine (c51 _).mono ?_; rintro r w1 ⟨rfl,rfl⟩))
   go_ret2
   exact ⟨rfl,hb.trans (hb1.mono hb.size)⟩
end
end Rm
namespace Rm
open Go.RowKit
def ft (B:Nat→Int) (i:Nat) : Nat→Nat→Int
 | 0,j => 512
 | k+1,j => if hs (B (i*4096+j*8)) 1=true then j else ft B i k (j+1)
theorem ft_b (B:Nat→Int) (i:Nat) : ∀ k j : Nat,j+k≤512→(j:Int)≤ft B i k j∧ft B i k j≤512
 | 0,j,h => by simp only [ft]; omega
 | k+1,j,h => by
  have := ft_b B i k (j+1) (by omega)
  simp only [ft]
  split <;> omega
section
variable {w:World} {p b m N:Nat} {B:Nat→Int} {L:List Nat}
set_option maxHeartbeats 1000000 in
theorem firstTaken_any (h:Ram w p b m N B L) (nd:Int) (hn:ndB N L nd=true) (j:Nat) (hj:j≤512) : Calls Tryz.prog 191 #[.pointer (some ⟨p,0,.none⟩),.int .u64 nd,.int .u64 j] w fun r w' => r = .returned (.int .u64 (ft B (fi nd) (512 - j) j))∧Below w.heap.size w w' := by
 obtain ⟨q1,q2,q3,q4⟩ := ndB_spec hn
 have n2 := h.mem.n2
 have w1 : IntKind.u64.wrap ((j:Int)*8)=(j:Int)*8 := by rw [IntKind.wrap_u64]; omega
 have w2 : IntKind.u64.wrap (nd+(j:Int)*8)=nd+(j:Int)*8 := by rw [IntKind.wrap_u64]; omega
 by_cases h0 : j=512
 ·have c := read_zero h.mem (nd+4096)
  have e0 : ft B (fi nd) (512 - j) j=512 := by rw [h0]; rfl
  rw [e0,show (j:Int)=512 by omega]
  have w3 : IntKind.u64.wrap (nd+4096)=nd+4096 := by rw [IntKind.wrap_u64]; omega
  clear h hn q1 q2 q3 q4 e0 w1 w2 h0
  go_enter Tryz.func191,Tryz.ntmps191
  go_wp2_with (first | (go_at_call 20; refine c.mono ?_; rintro r w0 ⟨rfl,rfl⟩))
  refine wp_loop_rounds 1 ?_
  rw [rounds_succ]
  go_wp2
  go_ret
  exact ⟨rfl,Below.refl _ _⟩
 ·have c := read_ok h.mem (fi nd*4096+j*8) ((512 - j)*8) (by omega) (by omega) (fun f h1 h2 => by
   obtain rfl : f=fi nd := by omega
   rw [hdL_in q3]
   simp [q4])
  rw [show (2147483648+((fi nd*4096+j*8 : Nat) : Int))=nd+(j:Int)*8 by omega] at c
  have hB := h.mem.bb
  obtain ⟨M,hM⟩ : ∃ M,M=512 - j := ⟨_,rfl⟩
  obtain ⟨F,hF⟩ : ∃ F,F=ft B (fi nd) (512 - j) j := ⟨_,rfl⟩
  have HF : Hid (F=ft B (fi nd) (512 - j) j) := hF
  rw [← hF]
  rw [← hM] at c
  have hj2 : (j:Int)<512 := by omega
  have hM2 : (M:Int)=512 - (j:Int) := by omega
  have HM : Hid (M=512 - j) := hM
  rw [show ((M*8 : Nat) : Int)=(512 - (j:Int))*8 by omega] at c
  have hM3 : IntKind.u64.wrap (512 - (j:Int))=(M:Int) := by rw [IntKind.wrap_u64]; omega
  have hMl : M≤512 := by omega
  clear hF hM h q1 q2 q3 q4 hn h0
  go_enter Tryz.func191,Tryz.ntmps191
  go_wp2_with (first | (go_at_call 20; refine c.mono ?_; rintro r w0 ⟨g,hg1,hg2,rfl,hrow,hfz,hb⟩))
  have HR : Hid (RowB w0 g (M*8) (fun i => B (fi nd*4096+j*8+i))) := hrow
  have HB : Hid (Below w.heap.size w w0) := hb
  have HM2 : Hid ((M:Int)=512 - (j:Int)) := hM2
  clear hrow hfz hb c w1 w2 hM3 hM2
  go_loopw [9] (fun k wr => ∃ t : Nat,t≤M∧k = .int .i64 ((t:Int)*8)∧wr=w0∧ft B (fi nd) (M - t) (j+t)=F) (fun k _ => M - (intOf k / 8).toNat)
  case atStart => exact ⟨0,by omega,rfl,rfl,by rw [HF.out,HM.out]; rfl⟩
  case round =>
   obtain ⟨t,ht,rfl,rfl,hft⟩ := hrel
   by_cases htM : t<M
   ·have z0 := HR.out (t*8) (by omega)
    have e1 : fi nd*4096+j*8+t*8=fi nd*4096+(j+t)*8 := by omega
    simp only [e1] at z0
    have hbb := hB (fi nd*4096+(j+t)*8)
    have hft2 : (if hs (B (fi nd*4096+(j+t)*8)) 1=true then ((j+t : Nat) : Int) else ft B (fi nd) (M - t - 1) (j+t+1))=F := by
     rw [← hft,show M - t=(M - t - 1)+1 by omega]
     rfl
    generalize B (fi nd*4096+(j+t)*8)=x at *
    have Hft : Hid ((if hs x 1=true then ((j+t : Nat) : Int) else ft B (fi nd) (M - t - 1) (j+t+1))=F) := hft2
    have i1 : (t:Int)*8<(M:Int)*8 := by omega
    have i2 : ((t:Int)*8).toNat=t*8 := by omega
    have i3 : (0:Int)≤(t:Int)*8 := by omega
    have i4 : (t:Int)*8 / 8=t := by omega
    have c77 := fun W => has_any x 1 W
    have hx : hs x 1=false∨hs x 1=true := by cases hs x 1 <;> simp
    clear hft hft2 hB
    rcases hx with hx | hx
    ·simp only [hx] at c77
     have hft3 : ft B (fi nd) (M - (t+1)) (j+(t+1))=F := by
      have := Hft.out
      simp only [hx,Bool.false_eq_true,if_false] at this
      rw [show M - (t+1)=M - t - 1 by omega,show j+(t+1)=j+t+1 by omega]
      exact this
     have Hft3 : Hid (ft B (fi nd) (M - (t+1)) (j+(t+1))=F) := hft3
     clear hft3 hx
     go_wp2_with (first | (go_at_call 109; refine (c77 _).mono ?_; rintro r wr ⟨rfl,rfl⟩))
     refine ⟨⟨t+1,by omega,?_,by simp,Hft3.out⟩,?_⟩
     ·simp only [Value.int.injEq,true_and]
      omega
     ·simp only [intOf]
      omega
    ·simp only [hx] at c77
     have hF2 : F=(j:Int)+t := by
      have := Hft.out
      simp only [hx,if_true] at this
      omega
     have HF2 : Hid (F=(j:Int)+t) := hF2
     have w5 : IntKind.u64.wrap ((j:Int)+t)=(j:Int)+t := by rw [IntKind.wrap_u64]; omega
     clear hF2 hx
     go_wp2_with (first | (go_at_call 109; refine (c77 _).mono ?_; rintro r wr ⟨rfl,rfl⟩))
     go_ret
     exact ⟨by rw [HF2.out]; rfl,HB.out⟩
   ·have i1 : ¬ ((t:Int)*8<(M:Int)*8) := by omega
    have hF2 : F=512 := by
     rw [← hft,show M - t=0 by omega]
     rfl
    have HF2 : Hid (F=512) := hF2
    clear hF2 hft
    go_wp2
    go_ret
    exact ⟨by rw [HF2.out]; rfl,HB.out⟩
end
end Rm
namespace Rm
open Go.RowKit
structure Sp (w:World) (s p:Nat) (root size:Int) : Prop where
 c0 : w.cell? ⟨s,0,.none⟩=some (.pointer (some ⟨p,0,.none⟩))
 c1 : w.cell? ⟨s,1,.none⟩=some (.int .u64 root)
 c2 : w.cell? ⟨s,2,.none⟩=some (.int .u64 size)
 fr : ∀ k,w.frozen? ⟨s,k,.none⟩=false
theorem Sp.lt {w:World} {s p:Nat} {root size:Int} (h:Sp w s p root size) : s<w.heap.size := lt_of_cell h.c0
theorem Sp.below {w w':World} {s p:Nat} {root size:Int} (h:Sp w s p root size) (b:Below w.heap.size w w') : Sp w' s p root size :=
 ⟨(b.cell (p:=⟨s,0,.none⟩) h.lt).trans h.c0,(b.cell (p:=⟨s,1,.none⟩) h.lt).trans h.c1,(b.cell (p:=⟨s,2,.none⟩) h.lt).trans h.c2,fun k => (b.frozen (p:=⟨s,k,.none⟩) h.lt).trans (h.fr k)⟩
theorem Sp.fra {w w':World} {s p b m:Nat} {root size:Int} (h:Sp w s p root size) (f:Fra p b m w w') (h1:s≠p) (h2:s≠b) (h3:s≠m) : Sp w' s p root size :=
 ⟨(f.cell (x:=⟨s,0,.none⟩) h.lt h1 h2 h3).trans h.c0,(f.cell (x:=⟨s,1,.none⟩) h.lt h1 h2 h3).trans h.c1,(f.cell (x:=⟨s,2,.none⟩) h.lt h1 h2 h3).trans h.c2,fun k => (f.frozen (x:=⟨s,k,.none⟩) h.lt h1 h2 h3).trans (h.fr k)⟩
theorem made_sp {w:World} {s p:Nat} {root size:Int} (h:Sp w s p root size) : Calls Tryz.prog 46 #[.pointer (some ⟨s,0,.none⟩)] w fun e w' => e = .returned (.bool true)∧w'=w := by
 have c0 := h.c0
 clear h
 go_enter Tryz.func46,Tryz.ntmps46
 go_wp2
 go_ret
 exact ⟨rfl,rfl⟩
theorem size_sp {w:World} {s p:Nat} {root size:Int} (h:Sp w s p root size) : Calls Tryz.prog 22 #[.pointer (some ⟨s,0,.none⟩)] w fun e w' => e = .returned (.int .u64 size)∧w'=w := by
 have c0 := h.c0
 have c2 := h.c2
 have c33 := made_sp h
 clear h
 go_enter Tryz.func22,Tryz.ntmps22
 go_wp2_with (go_at_call 46; refine c33.mono ?_; rintro _ w1 ⟨rfl,e1⟩; obtain rfl : w=w1 := e1.symm)
 go_ret
 exact ⟨rfl,rfl⟩
theorem pagesOf_any (x:Int) (h:0≤x∧x≤1099511627776) (w:World) : Calls Tryz.prog 112 #[.int .u64 x] w fun e w' => e = .returned (.int .i64 ((x+4095) / 4096))∧w'=w := by
 have h1 : IntKind.u64.wrap (x+4096)=x+4096 := by rw [IntKind.wrap_u64]; omega
 have h2 : IntKind.u64.wrap (x+4096 - 1)=x+4095 := by rw [IntKind.wrap_u64]; omega
 go_enter Tryz.func112,Tryz.ntmps112
 go_wp2
 go_ret
 exact ⟨rfl,rfl⟩
theorem pages_sp {w:World} {s p:Nat} {root size:Int} (h:Sp w s p root size) (hs:0≤size∧size≤1099511627776) : Calls Tryz.prog 99 #[.pointer (some ⟨s,0,.none⟩)] w fun e w' => e = .returned (.int .i64 ((size+4095) / 4096))∧w'=w := by
 have c13 := size_sp h
 have c119 := pagesOf_any size hs w
 clear h
 go_enter Tryz.func99,Tryz.ntmps99
 go_wp2_with first | (go_at_call 22; refine c13.mono ?_; rintro _ w1 ⟨rfl,e1⟩; obtain rfl : w=w1 := e1.symm) | (go_at_call 112; refine c119.mono ?_; rintro _ w1 ⟨rfl,e1⟩; obtain rfl : w=w1 := e1.symm)
 go_ret
 exact ⟨rfl,rfl⟩
theorem addrOf_any (k:Int) (h:0≤k∧k≤268435456) (w:World) : Calls Tryz.prog 98 #[.int .i64 k] w fun e w' => e = .returned (.int .u64 (k*4096))∧w'=w := by
 have h1 : IntKind.u64.wrap k=k := by rw [IntKind.wrap_u64]; omega
 have h2 : IntKind.u64.wrap (k*4096)=k*4096 := by rw [IntKind.wrap_u64]; omega
 go_enter Tryz.func98,Tryz.ntmps98
 go_wp2
 go_ret
 exact ⟨rfl,rfl⟩
theorem frameOf_any (e:Int) (h:0≤e∧e<18014398509481984) (w:World) : Calls Tryz.prog 128 #[.int .u64 e] w fun r w' => r = .returned (.int .u64 (e / 1024*4096))∧w'=w := by
 have h2 : IntKind.u64.wrap (e / 1024*4096)=e / 1024*4096 := by rw [IntKind.wrap_u64]; omega
 go_enter Tryz.func128,Tryz.ntmps128
 go_wp2
 go_ret
 exact ⟨rfl,rfl⟩
theorem fits_any (va n en:Int) (hv:0≤va∧va<18446744073709551616) (hn:0≤n∧n<9223372036854775808) (he:va≤en∧en<18446744073709551616) (hf:n≤en - va) (w:World) : Calls Tryz.prog 47 #[.int .u64 va,.int .i64 n,.int .u64 en] w fun r w' => r = .returned (.bool true)∧w'=w := by
 have h1 : IntKind.u64.wrap n=n := by rw [IntKind.wrap_u64]; omega
 have h2 : IntKind.u64.wrap (en - va)=en - va := by rw [IntKind.wrap_u64]; omega
 obtain ⟨h3,h4⟩ := he
 go_enter Tryz.func47,Tryz.ntmps47
 go_wp2
 go_ret
 exact ⟨rfl,rfl⟩
theorem leaf_any {w:World} {p b m N:Nat} {B:Nat→Int} {L:List Nat} (h:Ram w p b m N B L) (root va:Int) (hr:0≤root∧root<18446744073709551616) (hv:0≤va∧va<18446744073709551616) :
  Calls Tryz.prog 185 #[.agg #[.pointer (some ⟨p,0,.none⟩),.int .u64 root],.int .u64 va] w fun r w' => r = .returned (.int .u64 (if finds (look N L B root va) va=true then (look N L B root va).e else 0))∧Below w.heap.size w w' := by
 have HB : Hid (Below w.heap.size w (w.alloc (.cells #[.pointer (some ⟨p,0,.none⟩),.int .u64 root] 105))) := (Below.refl _ _).alloc (Nat.le_refl _) _
 have c := entry_any (h.below HB.out) root va hr hv
 generalize (if finds (look N L B root va) va=true then (look N L B root va).e else 0)=x at c ⊢
 generalize look N L B root va=y at c
 clear h
 go_enter Tryz.func185,Tryz.ntmps185
 go_wp2_with (go_at_call 54; refine c.mono ?_; rintro _ w1 ⟨rfl,b1⟩)
 all_goals go_ret
 all_goals exact ⟨rfl,HB.out.trans (b1.mono HB.out.size)⟩
end Rm
end Go.Proofs.YtabnipbdbnmmpaaGreatDoor
