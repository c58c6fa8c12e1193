import Derived.Test.YtabnipbdbnmmpaaGreatDoorSh01
import Derived.Test.YtabnipbdbnmmpaaGreatDoorSh22
set_option linter.unusedVariables false
set_option linter.unusedSimpArgs false
namespace Go.Proofs.YtabnipbdbnmmpaaGreatDoor
namespace Rm
open Go.RowKit
def LayP (w:World) (p b m N:Nat) (B:Nat→Int) (f:Nat) (L1:List Nat) (F:Nat→Option Nat) (lf:Nat→Nat→Int) (pg perm:Int) (e:Ending) (w':World) : Prop := e = .returned (.int .u64 (ad f)) ∧ ∃ B' L' F',LP N (pg*4096) (toP (ad f) perm) L1 (zer B f) F lf L' B' F'∧L1=L1.take (needY F (pg*4096)) ++ L'∧Ram w' p b m N B' L'∧Fra p b m w w'
section
variable {w:World} {p b m N:Nat} {B:Nat→Int} {F:Nat→Option Nat} {lf:Nat→Nat→Int}
theorem PT.zero {f:Nat} {L1:List Nat} (h:PT N (f :: L1) B F lf) : PT N L1 (zer B f) F lf := by
 have hfn : ∀ x q,F x=some q→q≠f := fun x q hx e => (h.held x q hx).2.2 (by rw [e]; exact List.mem_cons_self ..)
 exact h.keep (fun x q hx k hk => zer_out _ _ _ (by rcases Nat.lt_or_gt_of_ne (hfn x q hx) with h | h <;> omega)) (fun x q hx hm => (h.held x q hx).2.2 (List.mem_cons_of_mem _ hm))
set_option maxHeartbeats 1000000 in
theorem lay_pt {f:Nat} {L1:List Nat} (h:Ram w p b m N B (f :: L1)) (hP:PT N (f :: L1) B F lf) {r:Nat} (hr:F 0=some r) (pg perm:Int) (hpg:0≤pg∧pg<67108864)
  (hmp:(!ho perm 18446744073709551361 && ho perm 10 && (!hs perm 4 || hs perm 2))=true) (hk:kd (toP (ad f) perm) 0=2∧0≤toP (ad f) perm∧toP (ad f) perm<18446744073709551616) (hz:lf (y0 (pg*4096)) (i0 (pg*4096))=0) (hn:needY F (pg*4096)≤L1.length) :
  Calls Tryz.prog 184 #[.agg #[.pointer (some ⟨p,0,.none⟩),.int .u64 (ad r)],.int .i64 pg,.int .u64 perm] w (LayP w p b m N B f L1 F lf pg perm) := by
 have hN := h.mem.n2
 have hf := h.lt f (List.mem_cons_self ..)
 have hfb := ad_b f N hf.2 hN
 obtain ⟨X,hX⟩ : ∃ X,X=w.heap.size := ⟨_,rfl⟩
 obtain ⟨w1,hw1⟩ : ∃ w1,w1=w.alloc (.cells #[.pointer (some ⟨p,0,.none⟩),.int .u64 (ad r)] 105) := ⟨_,rfl⟩
 have b1 : Below w.heap.size w w1 := by rw [hw1]; exact (Below.refl _ _).alloc (Nat.le_refl _) _
 have k1 : C2w w1 X (.pointer (some ⟨p,0,.none⟩)) (.int .u64 (ad r)) := by
  rw [hw1,hX]
  exact ⟨by simp,by simp,fun k => World.frozen?_alloc_new _ _ _ _⟩
 have hp : p<X := by rw [hX]; exact lt_of_cell h.mem.c0
 have hb : b<X := by rw [hX]; exact lt_of_cell (h.mem.cb 0 (by have := h.mem.n1; omega))
 have hm : m<X := by rw [hX]; exact h.mem.mlt
 have c17 := alloc_some f (h.below b1)
 have HW : Hid (Below w.heap.size w w1∧C2w w1 X (.pointer (some ⟨p,0,.none⟩)) (.int .u64 (ad r))) := ⟨b1,k1⟩
 have HP : Hid (PT N L1 (zer B f) F lf∧F 0=some r) := ⟨hP.zero,hr⟩
 have kc0 := k1.a
 have kc1 := k1.b
 clear h hP b1 k1 hr
 go_enter Tryz.func184,Tryz.ntmps184
 go_upto_region 1 with fail
 rw [← hw1,← hX]
 have HXX : Hid (X=w.heap.size) := hX
 clear hw1 hX
 go_upto_region 2 with (go_at_call 9; refine c17.mono ?_; rintro _ w2 ⟨rfl,r2,f2⟩; have H2 : Hid (Ram w2 p b m N (zer B f) L1∧Fra p b m w1 w2) := ⟨r2,f2⟩; clear r2 f2 c17)
 have k2 := HW.out.2.fra H2.out.2 (by omega) (by omega) (by omega)
 have kS : w2.drew.cell? ⟨X,0,.none⟩=some (.pointer (some ⟨p,0,.none⟩))∧w2.drew.cell? ⟨X,1,.none⟩=some (.int .u64 (ad r)) := ⟨k2.a,k2.b⟩
 have had : (2147483648+(f:Int)*4096)=ad f := rfl
 rw [had]
 clear kc0 kc1 had
 refine wp_region_held_drew (S:=(fun U => U.cell? ⟨X,0,.none⟩=some (.pointer (some ⟨p,0,.none⟩))∧U.cell? ⟨X,1,.none⟩=some (.int .u64 (ad r)))) (by kernel_rfl) kS (fun hHeld => ?_)
 refine aT 0 (.pointer (some ⟨X,0,.none⟩)) rfl ?_
 simp only [X0,X1,X2,X3,X4,X5,X6]
 refine aT 1 (.pointer (some ⟨p,0,.none⟩)) rfl ?_
 simp only [X0,X1,X2,X3,X4,X5,X6]
 refine aT 2 (.pointer (some ⟨X,1,.none⟩)) rfl ?_
 simp only [X0,X1,X2,X3,X4,X5,X6]
 refine aT 3 (.int .u64 (ad r)) rfl ?_
 simp only [X0,X1,X2,X3,X4,X5,X6]
 refine aT 4 (.int .i64 pg) rfl ?_
 simp only [X0,X1,X2,X3,X4,X5,X6]
 refine aT 6 (.int .u64 (ad f)) rfl ?_
 simp only [X0,X1,X2,X3,X4,X5,X6]
 refine aT 7 (.int .u64 perm) rfl ?_
 simp only [X0,X1,X2,X3,X4,X5,X6]
 refine wpAnyH_ready (rs:=[5]) (by kernel_rfl) (by simp) ?_
 refine AllReadyH.cons rfl (fun K hK => ?_) AllReadyH.nil
 go_simp
 go_at_call 98
 refine (addrOf_any pg (by omega) _).mono ?_
 rintro _ w3 ⟨rfl,e3⟩
 obtain rfl : w2.drew=w3 := e3.symm
 refine hK.out _ _ kS (fun hHeld => ?_)
 clear hK K
 try simp only [X0,X1,X2,X3,X4,X5,X6]
 refine wpAnyH_ready (rs:=[8]) (by kernel_rfl) (by simp) ?_
 refine AllReadyH.cons rfl (fun K hK => ?_) AllReadyH.nil
 have c1 := map_pt (w:=w2.drew) H2.out.1.drew HP.out.1 HP.out.2 (pg*4096) (ad f) perm (by omega) (by omega) ⟨hfb.1,hfb.2.2,hfb.2.1⟩ hmp hk hz hn
 go_simp
 go_at_call 145
 refine c1.mono ?_
 rintro _ w3 ⟨rfl,B',L',F',R,e1,r3,f3⟩
 have H3 : Hid (LP N (pg*4096) (toP (ad f) perm) L1 (zer B f) F lf L' B' F'∧L1=L1.take (needY F (pg*4096)) ++ L'∧Ram w3 p b m N B' L'∧Fra p b m w w3) := ⟨R,e1,r3,(Fra.below HW.out.1).trans (H2.out.2.trans ((Fra.below (Below.refl _ _).drew).trans f3))⟩
 have k3 := k2.fra ((Fra.below (Below.refl _ _).drew).trans f3) (by omega) (by omega) (by omega)
 clear R e1 r3 f3 c1
 refine hK.out _ _ ⟨k3.a,k3.b⟩ (fun hHeld => ?_)
 clear hK K
 try simp only [X0,X1,X2,X3,X4,X5,X6]
 refine wpAnyH_done (by kernel_rfl) ?_ _
 go_wp2_with fail
 go_ret
 exact ⟨rfl,B',L',F',H3.out⟩
end
end Rm
namespace Rm
open Go.RowKit
def ndP (n:Int) : Int := if n=0 then 3 else 4+(n+511) / 512
theorem ndP_any (n:Int) (h:0≤n∧n≤4096) (w:World) : Calls Tryz.prog 207 #[.int .i64 n] w fun e w' => e = .returned (.int .i64 (ndP n))∧w'=w := by
 unfold ndP
 by_cases h0 : n=0
 ·subst h0
  go_enter Tryz.func207,Tryz.ntmps207
  go_wp2
  go_ret
  exact ⟨rfl,rfl⟩
 ·rw [if_neg h0,show n+511=n+512 - 1 by omega]
  have h1 : (n == 0)=false := by simpa using h0
  have h2 : 0<n := by omega
  go_enter Tryz.func207,Tryz.ntmps207
  go_wp2
  go_ret
  exact ⟨rfl,rfl⟩
def rgt (c:Int) : Prop := c=8∨c=2∨c=10∨c=6∨c=14
theorem mayS_any (c:Int) (h:rgt c) (w:World) : Calls Tryz.prog 181 #[.int .u64 c] w fun e w' => e = .returned (.bool true)∧w'=w := by
 rcases h with rfl | rfl | rfl | rfl | rfl
 all_goals
  go_enter Tryz.func181,Tryz.ntmps181
  go_wp2
  go_ret
  exact ⟨rfl,rfl⟩
theorem rgt_or {c:Int} (h:rgt c) : bits .or .u64 c 16=c+16∧bits .or .u64 (c+16) 64=c+80∧bits .or .u64 (c+80) 128=c+208 := by
 rcases h with rfl | rfl | rfl | rfl | rfl <;> decide
theorem rgt_ok {c:Int} (h:rgt c) : (!ho (c+208) 18446744073709551361 && ho (c+208) 10 && (!hs (c+208) 4 || hs (c+208) 2))=true := by
 rcases h with rfl | rfl | rfl | rfl | rfl <;> decide
theorem rgt_leaf {c:Int} (h:rgt c) {f N:Nat} (hf:f<N) (hN:N≤4096) : kd (toP (ad f) (c+208)) 0=2∧0≤toP (ad f) (c+208)∧toP (ad f) (c+208)<18446744073709551616 := by
 have hb := ad_b f N hf hN
 rcases h with rfl | rfl | rfl | rfl | rfl <;> exact leaf_b _ _ ⟨hb.1,hb.2.2,hb.2.1⟩ (by decide) (by decide) (by decide) (by decide)
section
variable {w:World} {s p b m N:Nat} {root size:Int} {B:Nat→Int} {L:List Nat}
theorem each_zero (va:Int) (f g:Value) (w:World) (s:Nat) : Calls Tryz.prog 49 #[.pointer (some ⟨s,0,.none⟩),.int .u64 va,.int .i64 0,f,g] w fun e w' => e = .returned (.bool true)∧w'=w := by
 go_enter Tryz.func49,Tryz.ntmps49
 go_wp2_with fail
 go_loopw [2] (fun k wr => k = .int .i64 0∧wr=w) (fun _ _ => 0)
 case atStart => exact ⟨rfl,rfl⟩
 case round =>
  obtain ⟨rfl,rfl⟩ := hrel
  go_wp2
  go_ret
  exact ⟨rfl,rfl⟩
theorem end_any (h:Sp w s p root size) (hs:0≤size∧size≤1099511627776) : Calls Tryz.prog 48 #[.pointer (some ⟨s,0,.none⟩)] w fun e w' => e = .returned (.int .u64 ((size+4095) / 4096*4096))∧w'=w := by
 have c77 := pages_sp h hs
 have c76 := addrOf_any ((size+4095) / 4096) (by omega) w
 clear h
 go_enter Tryz.func48,Tryz.ntmps48
 go_wp2_with first | (go_at_call 99; refine c77.mono ?_; rintro _ w1 ⟨rfl,e1⟩; obtain rfl : w=w1 := e1.symm) | (go_at_call 98; refine c76.mono ?_; rintro _ w1 ⟨rfl,e1⟩; obtain rfl : w=w1 := e1.symm)
 go_ret
 exact ⟨rfl,rfl⟩
set_option maxRecDepth 4000 in
theorem room_any (h:Sp w s p root size) (hR:Ram w p b m N B L) (P:Int) (hP:0≤P∧P<4096) (hs:size=P*4096) (hd:1+ndP (P+1) - ndP P≤L.length) : Calls Tryz.prog 182 #[.pointer (some ⟨s,0,.none⟩),.int .i64 (P+1)] w fun e w' => e = .returned (.bool true) ∧ ∃ k,w'=w.drewN k := by
 have c77 := pages_sp h (by omega)
 rw [show (size+4095) / 4096=P by omega] at c77
 have c0 := h.c0
 have c10 := count_ram hR
 have d1 := ndP_any (P+1) (by omega) w
 have d2 := ndP_any P (by omega) w
 have hl := len_le hR
 have n2 := hR.mem.n2
 have hb : 0≤ndP P∧ndP P≤100∧0≤ndP (P+1)∧ndP (P+1)≤100 := by unfold ndP; split <;> split <;> omega
 generalize ndP P=u at *
 generalize ndP (P+1)=v at *
 generalize hg : L.length=g at *
 clear hs h hR hg
 have hd' : P+1 - P+v - u≤(g:Int) := by omega
 clear hd
 go_enter Tryz.func182,Tryz.ntmps182
 go_wp2_with (go_at_call 99; refine c77.mono ?_; rintro _ w1 ⟨rfl,e1⟩; obtain rfl : w=w1 := e1.symm)
 refine d1.mono ?_
 rintro _ w1 ⟨rfl,e1⟩
 obtain rfl : w=w1 := e1.symm
 go_wp2_with (go_at_call 99; refine c77.mono ?_; rintro _ w1 ⟨rfl,e1⟩; obtain rfl : w=w1 := e1.symm)
 refine d2.mono ?_
 rintro _ w1 ⟨rfl,e1⟩
 obtain rfl : w=w1 := e1.symm
 go_wp2_with (go_at_call 15; refine c10.mono ?_; rintro _ w1 ⟨rfl,k1,rfl⟩)
 go_ret
 exact ⟨rfl,k1,rfl⟩
end
end Rm
namespace Rm
open Go.RowKit
section
variable {w:World} {s p b m N:Nat} {root size:Int} {B:Nat→Int} {L:List Nat}
set_option maxHeartbeats 1000000 in
theorem tail_zero (h:Sp w s p root size) (hs:0≤size∧size≤1099511627776) (ha:size % 4096=0) : Calls Tryz.prog 183 #[.pointer (some ⟨s,0,.none⟩)] w fun e w' => e = .returned (.tuple #[])∧Below w.heap.size w w' := by
 obtain ⟨X,hX⟩ : ∃ X,X=w.heap.size := ⟨_,rfl⟩
 obtain ⟨w1,hw1⟩ : ∃ w1,w1=w.alloc (.cells #[.pointer (some ⟨s,0,.none⟩)] 42) := ⟨_,rfl⟩
 have b1 : Below w.heap.size w w1 := by rw [hw1]; exact (Below.refl _ _).alloc (Nat.le_refl _) _
 have k1 : w1.cell? ⟨X,0,.none⟩=some (.pointer (some ⟨s,0,.none⟩)) := by rw [hw1,hX]; simp
 have h1 := h.below b1
 have hd : (w1.drew).heap.size=w1.heap.size := rfl
 have bd : Below w1.heap.size w1 w1.drew := (Below.refl _ _).drew
 have h2 := h1.below bd
 have kS : w1.drew.cell? ⟨X,0,.none⟩=some (.pointer (some ⟨s,0,.none⟩))∧w1.drew.cell? ⟨s,2,.none⟩=some (.int .u64 size) := ⟨k1,h2.c2⟩
 have c35 := end_any h2 hs
 rw [show (size+4095) / 4096*4096=size by omega] at c35
 have HB : Hid (Below w.heap.size w w1) := b1
 have e0 : IntKind.u64.wrap (size - size)=0 := by rw [IntKind.wrap_u64]; omega
 have z0 : IntKind.u64.wrap 0=0 := by decide
 have z1 : IntKind.i64.wrap 0=0 := by decide
 clear h h1 h2 b1 k1 hd bd ha
 go_enter Tryz.func183,Tryz.ntmps183
 go_upto_region 1 with fail
 rw [← hw1,← hX]
 have HXX : Hid (X=w.heap.size) := hX
 clear hw1 hX
 refine wp_region_held_drew (S:=(fun U => U.cell? ⟨X,0,.none⟩=some (.pointer (some ⟨s,0,.none⟩))∧U.cell? ⟨s,2,.none⟩=some (.int .u64 size))) (by kernel_rfl) kS (fun hHeld => ?_)
 refine aT 0 (.pointer (some ⟨s,0,.none⟩)) rfl ?_
 simp only [X0,X1,X2,X3,X4,X5,X6]
 refine aT 2 (.pointer (some ⟨s,0,.none⟩)) rfl ?_
 simp only [X0,X1,X2,X3,X4,X5,X6]
 refine aT 3 (.pointer (some ⟨s,0,.none⟩)) rfl ?_
 simp only [X0,X1,X2,X3,X4,X5,X6]
 refine aT 4 (.pointer (some ⟨s,2,.none⟩)) rfl ?_
 simp only [X0,X1,X2,X3,X4,X5,X6]
 refine aT 5 (.int .u64 size) rfl ?_
 simp only [X0,X1,X2,X3,X4,X5,X6]
 refine wpAnyH_ready (rs:=[1]) (by kernel_rfl) (by simp) ?_
 refine AllReadyH.cons rfl (fun K hK => ?_) AllReadyH.nil
 go_simp
 go_at_call 48
 refine c35.mono ?_
 rintro _ w3 ⟨rfl,e3⟩
 obtain rfl : w1.drew=w3 := e3.symm
 refine hK.out _ _ kS (fun hHeld => ?_)
 clear hK K
 try simp only [X0,X1,X2,X3,X4,X5,X6]
 refine aT 6 (.int .u64 0) rfl ?_
 simp only [X0,X1,X2,X3,X4,X5,X6]
 refine aT 7 (.int .i64 0) rfl ?_
 simp only [X0,X1,X2,X3,X4,X5,X6]
 refine aT 8 (.int .i64 0) rfl ?_
 simp only [X0,X1,X2,X3,X4,X5,X6]
 refine wpAnyH_done (by kernel_rfl) ?_ _
 have kS2 : w1.drew.drew.cell? ⟨X,0,.none⟩=some (.pointer (some ⟨s,0,.none⟩))∧w1.drew.drew.cell? ⟨s,2,.none⟩=some (.int .u64 size) := kS
 go_upto_region 2 with fail
 refine wp_region_held_drew (S:=(fun U => U.cell? ⟨X,0,.none⟩=some (.pointer (some ⟨s,0,.none⟩))∧U.cell? ⟨s,2,.none⟩=some (.int .u64 size))) (by kernel_rfl) kS2 (fun hHeld => ?_)
 refine aT 0 (.pointer (some ⟨s,0,.none⟩)) rfl ?_
 simp only [X0,X1,X2,X3,X4,X5,X6]
 refine aT 1 (.pointer (some ⟨s,0,.none⟩)) rfl ?_
 simp only [X0,X1,X2,X3,X4,X5,X6]
 refine aT 2 (.pointer (some ⟨s,0,.none⟩)) rfl ?_
 simp only [X0,X1,X2,X3,X4,X5,X6]
 refine aT 3 (.pointer (some ⟨s,2,.none⟩)) rfl ?_
 simp only [X0,X1,X2,X3,X4,X5,X6]
 refine aT 4 (.int .u64 size) rfl ?_
 simp only [X0,X1,X2,X3,X4,X5,X6]
 refine aT 5 (.int .i64 0) rfl ?_
 simp only [X0,X1,X2,X3,X4,X5,X6]
 refine aT 6 (.pointer (some ⟨s,0,.none⟩)) rfl ?_
 simp only [X0,X1,X2,X3,X4,X5,X6]
 refine aT 7 (.func (.func 149) #[.pointer (some ⟨s,0,.none⟩)] #[]) rfl ?_
 simp only [X0,X1,X2,X3,X4,X5,X6]
 refine aT 8 (.func (.func 208) #[] #[.pointer (some ⟨X,0,.none⟩)]) rfl ?_
 simp only [X0,X1,X2,X3,X4,X5,X6]
 refine wpAnyH_ready (rs:=[9]) (by kernel_rfl) (by simp) ?_
 refine AllReadyH.cons rfl (fun K hK => ?_) AllReadyH.nil
 go_simp
 go_at_call 49
 refine (each_zero _ _ _ _ _).mono ?_
 rintro _ w3 ⟨rfl,e3⟩
 obtain rfl : w1.drew.drew=w3 := e3.symm
 refine hK.out _ _ kS2 (fun hHeld => ?_)
 clear hK K
 try simp only [X0,X1,X2,X3,X4,X5,X6]
 refine wpAnyH_done (by kernel_rfl) ?_ _
 go_wp2_with fail
 refine bodyPost_end (v:=.tuple #[]) (by simp [results,Tryz.results183,go_sem]) rfl ⟨rfl,HB.out.drew.drew⟩
end
end Rm
namespace Rm
open Go.RowKit
def GrP (w:World) (s p b m N:Nat) (B:Nat→Int) (f:Nat) (L1:List Nat) (F:Nat→Option Nat) (lf:Nat→Nat→Int) (r:Nat) (P c:Int) (w':World) : Prop :=
 Sp w' s p (ad r) ((P+1)*4096)∧(∃ B' L' F',LP N (P*4096) (toP (ad f) (c+208)) L1 (zer B f) F lf L' B' F'∧L1=L1.take (needY F (P*4096)) ++ L'∧Ram w' p b m N B' L') ∧
 w.heap.size≤w'.heap.size∧w'.os=w.os∧w'.tape=w.tape∧w'.output=w.output ∧ ∀ k,k<w.heap.size→k≠p→k≠b→k≠m→k≠s→w'.heap[k]? = w.heap[k]?
def G1 (w:World) (s p b m N:Nat) (B:Nat→Int) (f:Nat) (L1:List Nat) (F:Nat→Option Nat) (lf:Nat→Nat→Int) (r:Nat) (P c:Int) (w':World) : Prop :=
 Sp w' s p (ad r) (P*4096)∧Fra p b m w w' ∧ ∃ B' L' F',LP N (P*4096) (toP (ad f) (c+208)) L1 (zer B f) F lf L' B' F'∧L1=L1.take (needY F (P*4096)) ++ L'∧Ram w' p b m N B' L'
section
variable {w:World} {s p b m N:Nat} {B:Nat→Int} {F:Nat→Option Nat} {lf:Nat→Nat→Int}
set_option maxRecDepth 4000 in
set_option maxHeartbeats 2000000 in
theorem grow_pt {f r:Nat} {L1:List Nat} {P c:Int} (hS:Sp w s p (ad r) (P*4096)) (h:Ram w p b m N B (f :: L1)) (hP:PT N (f :: L1) B F lf) (hr:F 0=some r) (hne:s≠p∧s≠b∧s≠m) (hPb:0≤P∧P<4096) (hc:rgt c)
  (hz:lf (y0 (P*4096)) (i0 (P*4096))=0) (hn:needY F (P*4096)≤L1.length) (hd:1+ndP (P+1) - ndP P≤(f :: L1).length) :
  Calls Tryz.prog 146 #[.pointer (some ⟨s,0,.none⟩),.int .u64 ((P+1)*4096),.int .u64 c] w fun e w' => e = .returned (.int .i64 0)∧GrP w s p b m N B f L1 F lf r P c w' := by
 have hN := h.mem.n2
 have hf := h.lt f (List.mem_cons_self ..)
 have hcb : 0≤c∧c<16 := by rcases hc with rfl | rfl | rfl | rfl | rfl <;> omega
 obtain ⟨o1,o2,o3⟩ := rgt_or hc
 have c33 := fun W (hW:Sp W s p (ad r) (P*4096)) => made_sp hW
 have c147 := fun W => mayS_any c hc W
 have c119 := fun W => pagesOf_any ((P+1)*4096) (by omega) W
 rw [show ((P+1)*4096+4095) / 4096=P+1 by omega] at c119
 have c77 := fun W (hW:Sp W s p (ad r) (P*4096)) => pages_sp hW (by omega)
 rw [show (P*4096+4095) / 4096=P by omega] at c77
 have c148 := room_any hS h P hPb rfl hd
 have H0 : Hid (Sp w s p (ad r) (P*4096)∧Ram w p b m N B (f :: L1)∧PT N (f :: L1) B F lf∧F 0=some r) := ⟨hS,h,hP,hr⟩
 have HC : Hid (rgt c∧f<N∧N≤4096) := ⟨hc,hf.2,hN⟩
 have k2 := hS.c2
 have k0 := hS.c0
 have k1 := hS.c1
 have hlt := hS.lt
 clear hS h hP hr hd hc hf
 go_enter Tryz.func146,Tryz.ntmps146
 go_upto_region 7 with first | (go_at_call 46; refine (c33 _ H0.out.1).mono ?_; rintro _ w1 ⟨rfl,e1⟩; obtain rfl : w=w1 := e1.symm) | (go_at_call 181; refine (c147 _).mono ?_; rintro _ w1 ⟨rfl,e1⟩; obtain rfl : w=w1 := e1.symm)
 go_upto_region 9 with first | (go_at_call 112; refine (c119 _).mono ?_; rintro _ w1 ⟨rfl,e1⟩; obtain rfl : w=w1 := e1.symm) | (go_at_call 182; refine c148.mono ?_; rintro _ w1 ⟨rfl,k3,rfl⟩)
 obtain ⟨wa,hwa⟩ : ∃ wa,wa=w.drewN k3 := ⟨_,rfl⟩
 have ba : Below w.heap.size w wa := by rw [hwa]; exact below_dr w k3
 rw [← hwa]
 clear hwa k2 k0 k1
 have Sa := H0.out.1.below ba
 have HA : Hid (Below w.heap.size w wa) := ba
 have k2 := Sa.c2
 have c149 := tail_zero Sa (by omega) (by omega)
 have hgt : P<P+1 := by omega
 clear ba
 go_upto_region 11 with (go_at_call 183; refine c149.mono ?_; rintro _ wb ⟨rfl,b2⟩; have HBb : Hid (Below w.heap.size w wb) := HA.out.trans (b2.mono HA.out.size); clear b2 c149)
 have Sb := H0.out.1.below HBb.out
 have d77 := c77 wb Sb
 clear Sb Sa k2 HA
 go_wp2_with (go_at_call 99; refine d77.mono ?_; rintro _ w1 ⟨rfl,e1⟩; obtain rfl : wb=w1 := e1.symm)
 go_loopw [7] (fun k wr => (k = .int .i64 P∧Hid (Below w.heap.size w wr))∨(k = .int .i64 (P+1)∧Hid (G1 w s p b m N B f L1 F lf r P c wr))) (fun k _ => (P+1 - intOf k).toNat)
 case atStart => exact .inl ⟨rfl,HBb.out⟩
 case round =>
  rcases hrel with ⟨rfl,HB⟩ | ⟨rfl,HG⟩
  ·have Sr := H0.out.1.below HB.out
   have k0 := Sr.c0
   have k1 := Sr.c1
   have k2 := Sr.c2
   have c150 := lay_pt (H0.out.2.1.below HB.out) H0.out.2.2.1 H0.out.2.2.2 P (c+208) (by omega) (rgt_ok HC.out.1) (rgt_leaf HC.out.1 HC.out.2.1 HC.out.2.2) hz hn
   unfold LayP at c150
   have HSr : Hid (Sp wr s p (ad r) (P*4096)) := Sr
   clear Sr
   go_wp2_with first | (go_at_call 112; refine (c119 _).mono ?_; rintro _ w1 ⟨rfl,e1⟩; obtain rfl : wr=w1 := e1.symm) | (go_at_call 184; refine c150.mono ?_; rintro _ w2 ⟨rfl,B',L',F',R,e1,r2,f2⟩; have HG : Hid (G1 w s p b m N B f L1 F lf r P c w2) := ⟨HSr.out.fra f2 hne.1 hne.2.1 hne.2.2,(Fra.below HB.out).trans f2,B',L',F',R,e1,r2⟩; clear R e1 r2 f2 c150)
   exact ⟨.inr ⟨rfl,HG⟩,by simp only [intOf]; omega⟩
  ·have k2 := HG.out.1.c2
   have kf := HG.out.1.fr 2
   go_wp2_with (go_at_call 112; refine (c119 _).mono ?_; rintro _ w1 ⟨rfl,e1⟩; obtain rfl : wr=w1 := e1.symm)
   go_ret
   refine ⟨rfl,?_⟩
   obtain ⟨g1,g2,B',L',F',g3,g4,g5⟩ := HG.out
   refine ⟨⟨(World.cell?_setCell_other _ _ _ _ (by simp)).trans g1.c0,(World.cell?_setCell_other _ _ _ _ (by simp)).trans g1.c1,World.cell?_setCell_same' _ _ _ (by rw [g1.c2]; rfl),fun k => by rw [World.frozen?_setCell]; exact g1.fr k⟩,⟨B',L',F',g3,g4,?_⟩,?_,g2.os,g2.tape,g2.output,fun k hk h1 h2 h3 h4 => ?_⟩
   ·exact g5.beside ⟨s,2,.none⟩ _ (fun e => hne.1 e.symm) (fun e => hne.2.1 e.symm) (fun e => hne.2.2 e.symm)
   ·simpa [World.setCell] using g2.size
   ·exact (Below.heap_setCell _ _ _ _ (fun e => h4 e)).trans (g2.block k hk h1 h2 h3)
end
end Rm
namespace Rm
open Go.RowKit
section
variable {w:World} {s p b m N:Nat} {B:Nat→Int} {L:List Nat} {F:Nat→Option Nat} {lf:Nat→Nat→Int}
theorem write_pg (h:Ram w p b m N B L) (q o n:Nat) (hq:q<N∧q ∉ L) (hn:1≤n) (ho:o+n≤4096) (g k c:Nat) (R:Nat→Int) (hR:∀ i,0≤R i∧R i<256) (hg:∀ i,i<n→w.cell? ⟨g,k+i,.none⟩=some (.int .u8 (R i))) :
  Calls Tryz.prog 103 #[.pointer (some ⟨p,0,.none⟩),.int .u64 (ad q+o),.slice (some ⟨g,k,.none⟩) n c] w fun e w' => e = .returned (.bool true)∧Ram w' p b m N (over B (q*4096+o) ((List.range n).map R)) L∧Fra p b m w w' := by
 have hc := write_ok h.mem (q*4096+o) n hn (by omega) (fun f h1 h2 => by
  have : f=q := by omega
  rw [this,hdL_in hq.1]
  simp [hq.2]) g k c R hR hg
 rw [show (2147483648+((q*4096+o : Nat) : Int))=ad q+o by unfold ad; omega] at hc
 refine hc.mono fun e w' ⟨h1,h2,h3⟩ => ⟨h1,h.laid h2 (fun j hj => ?_),h3⟩
 have hjq : j≠q := fun e => hq.2 (e ▸ hj)
 simp only [List.length_map,List.length_range]
 rcases Nat.lt_or_gt_of_ne hjq with h | h <;> omega
theorem ext_lowY (va:Int) (h:0≤va∧va<274877906944) : ext va=va := by unfold ext; rw [if_pos (by omega)]; omega
theorem leaf_pt (hP:PT N L B F lf) (hN:N≤4096) {r g1 q1:Nat} (hr:F 0=some r) (va:Int) (hv:0≤va∧va<274877906944) (h1:F (y1 va)=some g1) (h0:F (y0 va)=some q1) (hk:kd (lf (y0 va) (i0 va)) 0=2) :
  (if finds (look N L B (ad r) va) va=true then (look N L B (ad r) va).e else 0)=lf (y0 va) (i0 va) := by
 rw [look_0 hP hN hr va h1 h0]
 have : finds ⟨st (ad q1) va 0,st (ad g1) va 1,st (ad r) va 2,0,lf (y0 va) (i0 va),kd (lf (y0 va) (i0 va)) 0⟩ va=true := by
  unfold finds
  rw [ext_lowY va hv]
  simp [hk]
 rw [if_pos this]
structure Pag (N:Nat) (L:List Nat) (F:Nat→Option Nat) (lf:Nat→Nat→Int) (va:Int) (q:Nat) (c:Int) : Prop where
 w1 : ∃ g,F (y1 va)=some g
 w0 : ∃ g,F (y0 va)=some g
 l : lf (y0 va) (i0 va)=toP (ad q) c
 k : kd (toP (ad q) c) 0=2
 cb : 0≤c∧c<256∧c % 2=0
 qb : q<N∧q ∉ L
 nn : ∀ x,F x≠some q
theorem Pag.val {va:Int} {q:Nat} {c:Int} (h:Pag N L F lf va q c) (hN:N≤4096) : toP (ad q) c=ad q / 4096*1024+c+1 := by
 have hb := ad_b q N h.qb.1 hN
 exact toP_val _ _ ⟨hb.1,hb.2.1⟩ (by have := h.cb; omega) h.cb.2.2
theorem kern_pt {r q:Nat} {size c:Int} (hS:Sp w s p (ad r) size) (h:Ram w p b m N B L) (hP:PT N L B F lf) (hr:F 0=some r) (va:Int) (hv:0≤va∧va<274877906944) (hq:Pag N L F lf va q c) :
  Calls Tryz.prog 149 #[.pointer (some ⟨s,0,.none⟩),.int .u64 va] w fun e w' => e = .returned (.tuple #[.int .u64 (ad q+va % 4096),.bool true])∧Below w.heap.size w w' := by
 have hN := h.mem.n2
 have hb := ad_b q N hq.qb.1 hN
 have hrb := ad_b r N (hP.held 0 r hr).2.1 hN
 obtain ⟨g1,e1⟩ := hq.w1
 obtain ⟨g0,e0⟩ := hq.w0
 have c151 := leaf_any h (ad r) va ⟨hrb.1,by omega⟩ (by omega)
 rw [leaf_pt hP hN hr va hv e1 e0 (by rw [hq.l]; exact hq.k),hq.l] at c151
 have hval := hq.val hN
 have hcc := hq.cb
 have hbd : 0≤toP (ad q) c∧toP (ad q) c<18014398509481984 := by rw [hval]; omega
 have hfr : toP (ad q) c / 1024*4096=ad q := by rw [hval]; omega
 have hnz : (toP (ad q) c != 0)=true := by
  have : toP (ad q) c≠0 := by rw [hval]; omega
  simpa using this
 have c152 := fun W => frameOf_any (toP (ad q) c) hbd W
 rw [hfr] at c152
 have hwr : IntKind.u64.wrap (ad q+va % 4096)=ad q+va % 4096 := by rw [IntKind.wrap_u64]; omega
 have k0 := hS.c0
 have k1 := hS.c1
 generalize toP (ad q) c=tp at *
 clear h hP hq hval hfr hS e1 e0
 go_enter Tryz.func149,Tryz.ntmps149
 go_wp2_with first | (go_at_call 185; refine c151.mono ?_; rintro _ w1 ⟨rfl,b1⟩) | (go_at_call 128; refine (c152 _).mono ?_; rintro _ w2 ⟨rfl,e2⟩; obtain rfl : w1=w2 := e2.symm)
 refine bodyPost_ret (v:=.tuple #[.int .u64 (ad q+va % 4096),.bool true]) (by simp [results,Tryz.results149,go_sem]) rfl ⟨rfl,b1⟩
end
end Rm
end Go.Proofs.YtabnipbdbnmmpaaGreatDoor
