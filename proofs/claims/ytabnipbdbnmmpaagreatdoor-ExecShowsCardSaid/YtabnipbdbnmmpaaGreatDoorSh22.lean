import Derived.Test.YtabnipbdbnmmpaaGreatDoorSh01
import Derived.Test.YtabnipbdbnmmpaaGreatDoorSh21
import Derived.Test.YtabnipbdbnmmpaaGreatDoorSh19
import Derived.Deep.RegionHeld3
import Derived.Test.YtabnipbdbnmmpaaGreatDoorSh20
set_option linter.unusedVariables false
set_option linter.unusedSimpArgs false
namespace Go.Proofs.YtabnipbdbnmmpaaGreatDoor
namespace Rm
open Go.RowKit
def MapP (w:World) (p b m N:Nat) (B:Nat→Int) (L:List Nat) (x:Pt) (root va leaf:Int) (r:Ending) (w':World) : Prop :=
 (ndB N L root=false∧r = .returned (.int .i64 83)∧Below w.heap.size w w')∨(ndB N L root=true∧¬ x.k=0∧r = .returned (.int .i64 84)∧Below w.heap.size w w')∨(ndB N L root=true∧x.k=0∧(L.length:Int)<x.l∧r = .returned (.int .i64 85)∧Below w.heap.size w w') ∨
 (ndB N L root=true∧x.k=0∧x.l≤L.length∧r = .returned (.int .i64 0) ∧ ∃ B' L',Lays N va leaf 2 B L root B' L'∧L=L.take x.l.toNat ++ L'∧Ram w' p b m N B' L'∧Fra p b m w w')
section
variable {w:World} {p b m N:Nat} {B:Nat→Int} {L:List Nat}
set_option maxHeartbeats 2000000 in
theorem map_late (h:Ram w p b m N B L) (root va pa perm:Int) (hr:0≤root∧root<18446744073709551616) (hv:0≤va∧va<18446744073709551616) (hp:0≤pa∧pa<18446744073709551616) (hu:va % 4096=0∧va<274877906944) (hpa:pa % 4096=0∧pa<72057594037927936) (hmp:(!ho perm 18446744073709551361 && ho perm 10 && (!hs perm 4 || hs perm 2))=true) : Calls Tryz.prog 145 #[.pointer (some ⟨p,0,.none⟩),.int .u64 root,.int .u64 va,.int .u64 pa,.int .u64 perm] w fun r w' => MapP w p b m N B L (look N L B root va) root va (toP pa perm) r w' := by
 have c39 := look_any h root va hr hv
 have HR : Hid (Ram w p b m N B L) := h
 have c40 := fun W => userPage_any va hv W
 have c41 := fun W => mayPerm_any perm W
 have hd : decide (va % 4096=0∧va<274877906944)=true := by simpa using hu
 simp only [hd] at c40
 simp only [hmp] at c41
 have HL : Hid ((look N L B root va).k=0→(look N L B root va).l≤L.length → ∃ B' L',Lays N va (toP pa perm) 2 B L root B' L'∧L=L.take (look N L B root va).l.toNat ++ L') := fun h1 h2 => lays_look N va (toP pa perm) B L HR.out.nd HR.out.lt 2 root 0 0 0 0 h1 h2
 have hlen := length_le N L h.mem.n1 h.nd h.lt
 have n2 := h.mem.n2
 generalize look N L B root va=x at *
 obtain ⟨a0,a1,a2,l,e,k⟩ := x
 simp only [Pt.val] at c39
 obtain ⟨hp1,hp2⟩ := hpa
 clear h hu hd hmp
 cases hnd : ndB N L root
 ·go_enter Tryz.func145,Tryz.ntmps145
  go_wp2_with (first | (go_at_call 104; refine c39.mono ?_; rintro r V0 ⟨rfl,hb0⟩; have b1 := hb0.trans ((below1 V0 (.cells #[.int .u64 a0,.int .u64 a1,.int .u64 a2,.int .i64 l,.int .u64 e,.int .i64 k] 169)).mono hb0.size); have c38 := isMade_any (HR.out.below b1); have c42 := (by have := isNode_any (HR.out.below b1) root hr; rw [hnd] at this; exact this : Calls Tryz.prog 159 #[.pointer (some ⟨p,0,.none⟩),.int .u64 root] _ fun r w2 => r = .returned (.bool false)∧Below _ _ w2); have HB1 : Hid (Below w.heap.size w (V0.alloc (.cells #[.int .u64 a0,.int .u64 a1,.int .u64 a2,.int .i64 l,.int .u64 e,.int .i64 k] 169))) := b1; clear b1 hb0) | (go_at_call 157; refine c38.mono ?_; rintro r V1 ⟨rfl,hV1⟩; subst hV1) | (go_at_call 158; refine (c40 _).mono ?_; rintro r V1 ⟨rfl,hV1⟩; subst hV1) | (go_at_call 178; refine (c41 _).mono ?_; rintro r V1 ⟨rfl,hV1⟩; subst hV1) | (go_at_call 159; refine c42.mono ?_; rintro r V2 ⟨rfl,hb2⟩))
  go_ret
  exact .inl ⟨hnd,rfl,HB1.out.trans (hb2.mono HB1.out.size)⟩
 ·by_cases hk : k=0
  ·subst hk
   obtain ⟨n,hn⟩ : ∃ n : Int,n=L.length := ⟨_,rfl⟩
   have HN : Hid (n=L.length) := hn
   by_cases hlt : n<l
   ·go_enter Tryz.func145,Tryz.ntmps145
    go_upto_region 14 with (first | (go_at_call 104; refine c39.mono ?_; rintro r V0 ⟨rfl,hb0⟩; have b1 := hb0.trans ((below1 V0 (.cells #[.int .u64 a0,.int .u64 a1,.int .u64 a2,.int .i64 l,.int .u64 e,.int .i64 0] 169)).mono hb0.size); have c38 := isMade_any (HR.out.below b1); have c42 := (by have := isNode_any (HR.out.below b1) root hr; rw [hnd] at this; exact this : Calls Tryz.prog 159 #[.pointer (some ⟨p,0,.none⟩),.int .u64 root] _ fun r w2 => r = .returned (.bool true)∧Below _ _ w2); have HB1 : Hid (Below w.heap.size w (V0.alloc (.cells #[.int .u64 a0,.int .u64 a1,.int .u64 a2,.int .i64 l,.int .u64 e,.int .i64 0] 169))) := b1; clear b1 hb0) | (go_at_call 157; refine c38.mono ?_; rintro r V1 ⟨rfl,hV1⟩; subst hV1) | (go_at_call 158; refine (c40 _).mono ?_; rintro r V1 ⟨rfl,hV1⟩; subst hV1) | (go_at_call 178; refine (c41 _).mono ?_; rintro r V1 ⟨rfl,hV1⟩; subst hV1) | (go_at_call 159; refine c42.mono ?_; rintro r V2 ⟨rfl,hb2⟩; have C2 := (C6.new V0 (.int .u64 a0) (.int .u64 a1) (.int .u64 a2) (.int .i64 l) (.int .u64 e) (.int .i64 0) 169).below hb2; obtain ⟨z0,z1,z2,z3,z4,z5,y0,y1,y2,y3,y4,y5⟩ := C2))
    have b2 := HB1.out.trans (hb2.mono HB1.out.size)
    have HB2 : Hid (Below w.heap.size w V2) := b2
    have HZ : Hid (V0.heap.size<V2.heap.size) := lt_of_cell z3
    have s27 : ∀ W,(W.cell? ⟨V0.heap.size,3,.none⟩=some (.int .i64 l)∧Below V2.heap.size V2 W)→Calls Tryz.prog 15 #[.pointer (some ⟨p,0,.none⟩)] W fun r W' => r = .returned (.int .i64 n)∧(W'.cell? ⟨V0.heap.size,3,.none⟩=some (.int .i64 l)∧Below V2.heap.size V2 W') := fun W hS => by
     have R2 := HR.out.below (HB2.out.trans (hS.2.mono HB2.out.size))
     refine (count_any R2.mem (by omega)).mono ?_
     rintro r W' ⟨he,kk,rfl⟩
     have hb9 : Below V2.heap.size V2 (W.drewN kk) := hS.2.trans (blw_drewN _ _ _)
     refine ⟨he.trans ?_,hS.1,hb9⟩
     rw [HN.out]
     congr 2
     omega
    have j0 : (V2.drew.cell? ⟨V0.heap.size,3,.none⟩=some (.int .i64 l)∧Below V2.heap.size V2 V2.drew) := ⟨z3,(Below.refl _ _).drew⟩
    clear c38 c40 c41 c42 hb2 b2 z0 z1 z2 z3 z4 z5 y0 y1 y2 y3 y4 y5
    go_region_held3 (fun W => (W.cell? ⟨V0.heap.size,3,.none⟩=some (.int .i64 l)∧Below V2.heap.size V2 W)) (first | assumption | exact j0) (first | (go_at_call 15; refine (s27 _ (by assumption)).mono ?_; rintro r V3 ⟨rfl,hS3⟩))
    have HS3 : Hid (Below V2.heap.size V2 V3) := hS3.2
    rename_i hHeld
    clear hS3 hHeld s27 j0
    go_wp2
    go_ret
    exact .inr (.inr (.inl ⟨hnd,rfl,by rw [← HN.out]; exact hlt,rfl,HB2.out.trans (HS3.out.mono HB2.out.size)⟩))
   ·obtain ⟨B',L',hY,hT⟩ := HL.out rfl (by show l≤(L.length:Int); omega)
    have HY : Hid (Lays N va (toP pa perm) 2 B L root B' L'∧L=L.take l.toNat ++ L') := ⟨hY,hT⟩
    have c44 := fun W => toPage_any pa perm hp W
    have htb := toP_b pa perm
    have c43 : Hid (∀ W,Below w.heap.size w W→Calls Tryz.prog 179 #[.pointer (some ⟨p,0,.none⟩),.int .u64 root,.int .u64 va,.agg #[.pointer (some ⟨p,0,.none⟩),.int .u64 (toP pa perm)]] W fun e w' => (∃ v,e = .returned v)∧Ram w' p b m N B' L'∧Fra p b m W w') := fun W hb => lay_any (HR.out.below hb) root va (toP pa perm) hr hv htb hY
    have hlt2 : l≤n := by omega
    clear hY hT
    generalize toP pa perm=lf at *
    go_enter Tryz.func145,Tryz.ntmps145
    go_upto_region 14 with (first | (go_at_call 104; refine c39.mono ?_; rintro r V0 ⟨rfl,hb0⟩; have b1 := hb0.trans ((below1 V0 (.cells #[.int .u64 a0,.int .u64 a1,.int .u64 a2,.int .i64 l,.int .u64 e,.int .i64 0] 169)).mono hb0.size); have c38 := isMade_any (HR.out.below b1); have c42 := (by have := isNode_any (HR.out.below b1) root hr; rw [hnd] at this; exact this : Calls Tryz.prog 159 #[.pointer (some ⟨p,0,.none⟩),.int .u64 root] _ fun r w2 => r = .returned (.bool true)∧Below _ _ w2); have HB1 : Hid (Below w.heap.size w (V0.alloc (.cells #[.int .u64 a0,.int .u64 a1,.int .u64 a2,.int .i64 l,.int .u64 e,.int .i64 0] 169))) := b1; clear b1 hb0) | (go_at_call 157; refine c38.mono ?_; rintro r V1 ⟨rfl,hV1⟩; subst hV1) | (go_at_call 158; refine (c40 _).mono ?_; rintro r V1 ⟨rfl,hV1⟩; subst hV1) | (go_at_call 178; refine (c41 _).mono ?_; rintro r V1 ⟨rfl,hV1⟩; subst hV1) | (go_at_call 159; refine c42.mono ?_; rintro r V2 ⟨rfl,hb2⟩; have C2 := (C6.new V0 (.int .u64 a0) (.int .u64 a1) (.int .u64 a2) (.int .i64 l) (.int .u64 e) (.int .i64 0) 169).below hb2; obtain ⟨z0,z1,z2,z3,z4,z5,y0,y1,y2,y3,y4,y5⟩ := C2))
    have b2 := HB1.out.trans (hb2.mono HB1.out.size)
    have HB2 : Hid (Below w.heap.size w V2) := b2
    have HZ : Hid (V0.heap.size<V2.heap.size) := lt_of_cell z3
    have s27 : ∀ W,(W.cell? ⟨V0.heap.size,3,.none⟩=some (.int .i64 l)∧Below V2.heap.size V2 W)→Calls Tryz.prog 15 #[.pointer (some ⟨p,0,.none⟩)] W fun r W' => r = .returned (.int .i64 n)∧(W'.cell? ⟨V0.heap.size,3,.none⟩=some (.int .i64 l)∧Below V2.heap.size V2 W') := fun W hS => by
     have R2 := HR.out.below (HB2.out.trans (hS.2.mono HB2.out.size))
     refine (count_any R2.mem (by omega)).mono ?_
     rintro r W' ⟨he,kk,rfl⟩
     have hb9 : Below V2.heap.size V2 (W.drewN kk) := hS.2.trans (blw_drewN _ _ _)
     refine ⟨he.trans ?_,hS.1,hb9⟩
     rw [HN.out]
     congr 2
     omega
    have j0 : (V2.drew.cell? ⟨V0.heap.size,3,.none⟩=some (.int .i64 l)∧Below V2.heap.size V2 V2.drew) := ⟨z3,(Below.refl _ _).drew⟩
    clear c38 c40 c41 c42 hb2 b2 z0 z1 z2 z3 z4 z5 y0 y1 y2 y3 y4 y5
    go_region_held3 (fun W => (W.cell? ⟨V0.heap.size,3,.none⟩=some (.int .i64 l)∧Below V2.heap.size V2 W)) (first | assumption | exact j0) (first | (go_at_call 15; refine (s27 _ (by assumption)).mono ?_; rintro r V3 ⟨rfl,hS3⟩))
    have HS3 : Hid (Below V2.heap.size V2 V3) := hS3.2
    rename_i hHeld
    clear hS3 hHeld s27 j0
    have b3 := HB2.out.trans (HS3.out.mono HB2.out.size)
    have c43' := c43.out V3 b3
    have HB3 : Hid (Below w.heap.size w V3) := b3
    clear b3 c43
    go_wp2_with (first | (go_at_call 180; refine (c44 _).mono ?_; rintro r V4 ⟨rfl,hV4⟩; subst hV4) | (go_at_call 179; refine c43'.mono ?_; rintro r V5 ⟨⟨u,rfl⟩,hR5,hF5⟩) | fail)
    go_ret
    exact .inr (.inr (.inr ⟨hnd,rfl,by show l≤(L.length:Int); rw [← HN.out]; exact hlt2,rfl,B',L',HY.out.1,HY.out.2,hR5,(Fra.below HB3.out).trans hF5⟩))
  ·go_enter Tryz.func145,Tryz.ntmps145
   go_wp2_with (first | (go_at_call 104; refine c39.mono ?_; rintro r V0 ⟨rfl,hb0⟩; have b1 := hb0.trans ((below1 V0 (.cells #[.int .u64 a0,.int .u64 a1,.int .u64 a2,.int .i64 l,.int .u64 e,.int .i64 k] 169)).mono hb0.size); have c38 := isMade_any (HR.out.below b1); have c42 := (by have := isNode_any (HR.out.below b1) root hr; rw [hnd] at this; exact this : Calls Tryz.prog 159 #[.pointer (some ⟨p,0,.none⟩),.int .u64 root] _ fun r w2 => r = .returned (.bool true)∧Below _ _ w2); have HB1 : Hid (Below w.heap.size w (V0.alloc (.cells #[.int .u64 a0,.int .u64 a1,.int .u64 a2,.int .i64 l,.int .u64 e,.int .i64 k] 169))) := b1; clear b1 hb0) | (go_at_call 157; refine c38.mono ?_; rintro r V1 ⟨rfl,hV1⟩; subst hV1) | (go_at_call 158; refine (c40 _).mono ?_; rintro r V1 ⟨rfl,hV1⟩; subst hV1) | (go_at_call 178; refine (c41 _).mono ?_; rintro r V1 ⟨rfl,hV1⟩; subst hV1) | (go_at_call 159; refine c42.mono ?_; rintro r V2 ⟨rfl,hb2⟩; have C2 := (C6.new V0 (.int .u64 a0) (.int .u64 a1) (.int .u64 a2) (.int .i64 l) (.int .u64 e) (.int .i64 k) 169).below hb2; obtain ⟨z0,z1,z2,z3,z4,z5,y0,y1,y2,y3,y4,y5⟩ := C2))
   go_ret
   exact .inr (.inl ⟨hnd,hk,rfl,HB1.out.trans (hb2.mono HB1.out.size)⟩)
end
end Rm
namespace Rm
open Go.RowKit
def needY (F:Nat→Option Nat) (va:Int) : Nat := if F (y1 va)=none then 2 else if F (y0 va)=none then 1 else 0
section
variable {w:World} {p b m N:Nat} {B:Nat→Int} {L:List Nat} {F:Nat→Option Nat} {lf:Nat→Nat→Int}
theorem look_needY (h:PT N L B F lf) (hN:N≤4096) {r:Nat} (hr:F 0=some r) (va:Int) (hz:lf (y0 va) (i0 va)=0) : (look N L B (ad r) va).k=0∧(look N L B (ad r) va).l=(needY F va:Nat) := by
 unfold needY
 cases h1 : F (y1 va) with
 | none =>
  rw [look_2 h hr va h1]
  simp
 | some g =>
  cases h0 : F (y0 va) with
  | none =>
   rw [look_1 h hN hr va h1 h0]
   simp
  | some q =>
   rw [look_0 h hN hr va h1 h0,hz]
   simp [kd_zero]
theorem ad_b (f N:Nat) (h:f<N) (hN:N≤4096) : 0≤ad f∧ad f<72057594037927936∧ad f % 4096=0 := by unfold ad; omega
theorem map_pt (h:Ram w p b m N B L) (hP:PT N L B F lf) {r:Nat} (hr:F 0=some r) (va pa perm:Int) (hv:0≤va) (hu:va % 4096=0∧va<274877906944) (hpa:0≤pa∧pa % 4096=0∧pa<72057594037927936)
  (hmp:(!ho perm 18446744073709551361 && ho perm 10 && (!hs perm 4 || hs perm 2))=true) (hk:kd (toP pa perm) 0=2∧0≤toP pa perm∧toP pa perm<18446744073709551616) (hz:lf (y0 va) (i0 va)=0) (hn:needY F va≤L.length) :
  Calls Tryz.prog 145 #[.pointer (some ⟨p,0,.none⟩),.int .u64 (ad r),.int .u64 va,.int .u64 pa,.int .u64 perm] w fun e w' => e = .returned (.int .i64 0) ∧ ∃ B' L' F',LP N va (toP pa perm) L B F lf L' B' F'∧L=L.take (needY F va) ++ L'∧Ram w' p b m N B' L'∧Fra p b m w w' := by
 have hN := h.mem.n2
 have hrb := ad_b r N (hP.held 0 r hr).2.1 hN
 obtain ⟨l1,l2⟩ := look_needY hP hN hr va hz
 refine (map_late h (ad r) va pa perm ⟨hrb.1,by omega⟩ ⟨hv,by omega⟩ ⟨hpa.1,by omega⟩ hu ⟨hpa.2.1,hpa.2.2⟩ hmp).mono fun e w' hM => ?_
 unfold MapP at hM
 have hnd := hP.ndB hr
 rw [l1,l2] at hM
 rcases hM with ⟨h1,_⟩ | ⟨_,h1,_⟩ | ⟨_,_,h1,_⟩ | ⟨_,_,_,rfl,B',L',h1,h2,h3,h4⟩
 ·rw [hnd] at h1; cases h1
 ·exact absurd rfl h1
 ·omega
 ·obtain ⟨F',R⟩ := lays_pt hP hN h.nd h.lt hr hk h1
  exact ⟨rfl,B',L',F',R,by simpa using h2,h3,h4⟩
theorem PT.initY {i:Nat} (hi:1≤i∧i<N) (hL:i ∉ L) : PT N L (zer B i) (fun x => if x=0 then some i else none) (fun _ _ => 0) := by
 refine ⟨⟨i,by simp⟩,fun x f hf => ?_,fun x y f hx hy => ?_,fun x e hx he hne => ?_,fun x hx => ?_,fun x g hx hg e he => ?_,fun y g hy hg k hk => ?_,fun _ _ => .inl rfl,fun _ _ _ => rfl⟩
 ·by_cases e : x=0
  ·simp only [e,if_true,Option.some.injEq] at hf
   subst hf
   exact ⟨hi.1,hi.2,hL⟩
  ·simp [e] at hf
 ·by_cases e : x=0 <;> by_cases e2 : y=0 <;> simp_all
 ·have := ch_pos x e
  simp [show ch x e≠0 by omega] at hne
 ·by_cases e : x=0
  ·omega
  ·simp [e] at hx
 ·by_cases e2 : x=0
  ·simp only [e2,if_true,Option.some.injEq] at hg
   subst hg
   have := ch_pos x e
   rw [evn_zer_same _ _ _ he]
   simp [show ch x e≠0 by omega,ptr]
  ·simp [e2] at hg
 ·simp [show y≠0 by omega] at hg
end
def isHd (N:Nat) (L:List Nat) (pa:Int) : Prop := ∃ f : Nat,f<N∧f ∉ L∧pa=ad f
end Rm
namespace Rm
open Go.RowKit
section
variable {w:World} {p b m N:Nat} {B:Nat→Int} {L:List Nat} {F:Nat→Option Nat} {lf:Nat→Nat→Int}
theorem load1_any (h:Ram w p b m N B L) (pa:Int) (hp:0≤pa∧pa<18446744073709551616) : ∃ x ok,(ok=true ↔ isHd N L (pa / 4096*4096)) ∧
  Calls Tryz.prog 152 #[.pointer (some ⟨p,0,.none⟩),.int .u64 pa,.int .i64 1] w fun e w' => e = .returned (.tuple #[.int .u64 x,.bool ok])∧Below w.heap.size w w' := by
 have n2 := h.mem.n2
 by_cases ho : 2147483648≤pa∧pa - 2147483648+1≤4096*N
 ·obtain ⟨o,rfl⟩ : ∃ o : Nat,pa=2147483648+o := ⟨(pa - 2147483648).toNat,by omega⟩
  have hfN : o / 4096<N := by omega
  have hpg : (2147483648+(o:Int)) / 4096*4096=ad (o / 4096) := by unfold ad; omega
  by_cases hL : o / 4096 ∈ L
  ·refine ⟨0,false,?_,?_⟩
   ·constructor
    ·intro h; cases h
    ·rintro ⟨f,h1,h2,h3⟩
     rw [hpg] at h3
     have : f=o / 4096 := by unfold ad at h3; omega
     exact absurd (this ▸ hL) h2
   ·have c := reach_hole h.mem o 1 (by omega) (by omega) (o / 4096) (by omega) (by omega) (by rw [hdL_in hfN]; simp [hL])
    exact load_no _ 1 (access_no _ 1 0 false c)
  ·refine ⟨num B o 1,true,?_,?_⟩
   ·simp only [true_iff]
    exact ⟨o / 4096,hfN,hL,hpg⟩
   ·exact load_ok h.mem o 1 (.inl rfl) (by omega) (fun f h1 h2 => by
     have : f=o / 4096 := by omega
     rw [this,hdL_in hfN]
     simp [hL])
 ·refine ⟨0,false,?_,?_⟩
  ·constructor
   ·intro h; cases h
   ·rintro ⟨f,h1,h2,h3⟩
    unfold ad at h3
    omega
  ·exact load_no _ 1 (access_no _ 1 0 false (reach_out h.mem pa 1 hp (by omega) (by omega) ho))
theorem held_any (h:Ram w p b m N B L) (pa:Int) (hp:0≤pa∧pa<18446744073709551616) : ∃ ok,(ok=true ↔ isHd N L pa) ∧
  Calls Tryz.prog 143 #[.pointer (some ⟨p,0,.none⟩),.int .u64 pa] w fun e w' => e = .returned (.bool ok)∧Below w.heap.size w w' := by
 obtain ⟨x,ok,h1,c⟩ := load1_any h pa hp
 refine ⟨ok && decide (pa % 4096=0),?_,?_⟩
 ·constructor
  ·intro e
   simp only [Bool.and_eq_true,decide_eq_true_eq] at e
   have := h1.1 e.1
   rwa [show pa / 4096*4096=pa by omega] at this
  ·intro e
   obtain ⟨f,h2,h3,h4⟩ := e
   have h5 : pa % 4096=0 := by unfold ad at h4; omega
   rw [h1.2 (by rw [show pa / 4096*4096=pa by omega]; exact ⟨f,h2,h3,h4⟩)]
   simp [h5]
 ·clear h h1
  cases ok
  ·go_enter Tryz.func143,Tryz.ntmps143
   go_wp2_with (go_at_call 152; refine c.mono ?_; rintro _ w1 ⟨rfl,b1⟩)
   go_ret
   exact ⟨by simp,b1⟩
  ·by_cases h5 : pa % 4096=0
   ·go_enter Tryz.func143,Tryz.ntmps143
    go_wp2_with (go_at_call 152; refine c.mono ?_; rintro _ w1 ⟨rfl,b1⟩)
    go_ret
    exact ⟨by simp [h5],b1⟩
   ·have h6 : (pa % 4096 == 0)=false := by simpa using h5
    go_enter Tryz.func143,Tryz.ntmps143
    go_wp2_with (go_at_call 152; refine c.mono ?_; rintro _ w1 ⟨rfl,b1⟩)
    go_ret
    exact ⟨by simp [h5],b1⟩
theorem two_any (h:Ram w p b m N B L) (a t:Int) (ha:0≤a∧a<18446744073709551616) (ht:0≤t∧t<18446744073709551616) : ∃ ok,(ok=true ↔ isHd N L a∧isHd N L t∧a≠t) ∧
  Calls Tryz.prog 91 #[.pointer (some ⟨p,0,.none⟩),.int .u64 a,.int .u64 t] w fun e w' => e = .returned (.bool ok)∧Below w.heap.size w w' := by
 obtain ⟨o1,h1,c1⟩ := held_any h a ha
 cases o1
 ·refine ⟨false,?_,?_⟩
  ·constructor
   ·intro e; cases e
   ·intro e; exact absurd (h1.2 e.1) (by simp)
  ·clear h h1
   go_enter Tryz.func91,Tryz.ntmps91
   go_wp2_with (go_at_call 143; refine c1.mono ?_; rintro _ w1 ⟨rfl,b1⟩)
   go_ret
   exact ⟨rfl,b1⟩
 ·have hy : ∀ w',Below w.heap.size w w' → ∃ ok,(ok=true ↔ isHd N L t)∧Calls Tryz.prog 143 #[.pointer (some ⟨p,0,.none⟩),.int .u64 t] w' fun e w'' => e = .returned (.bool ok)∧Below w'.heap.size w' w'' := fun w' b => held_any (h.below b) t ht
  by_cases h2 : isHd N L t
  ·have hy2 : ∀ w',Below w.heap.size w w'→Calls Tryz.prog 143 #[.pointer (some ⟨p,0,.none⟩),.int .u64 t] w' fun e w'' => e = .returned (.bool true)∧Below w'.heap.size w' w'' := fun w' b => by
    obtain ⟨ok,e1,e2⟩ := hy w' b
    obtain rfl : ok=true := e1.2 h2
    exact e2
   have HY : Hid (∀ w',Below w.heap.size w w'→Calls Tryz.prog 143 #[.pointer (some ⟨p,0,.none⟩),.int .u64 t] w' fun e w'' => e = .returned (.bool true)∧Below w'.heap.size w' w'') := hy2
   refine ⟨decide (a≠t),?_,?_⟩
   ·constructor
    ·intro e; exact ⟨h1.1 rfl,h2,of_decide_eq_true e⟩
    ·intro e; exact decide_eq_true e.2.2
   ·clear h h1 hy hy2
    by_cases hat : a=t
    ·subst hat
     go_enter Tryz.func91,Tryz.ntmps91
     go_wp2_with first | (go_at_call_of 143 (.int .u64 a); refine c1.mono ?_; rintro _ w1 ⟨rfl,b1⟩) | (go_at_call 143; first | (refine (HY.out _ b1).mono ?_; rintro _ w2 ⟨rfl,b2⟩) | (refine c1.mono ?_; rintro _ w1 ⟨rfl,b1⟩))
     go_ret
     exact ⟨by simp,b1.trans (b2.mono b1.size)⟩
    ·have hne : (a != t)=true := by simpa using hat
     go_enter Tryz.func91,Tryz.ntmps91
     go_wp2_with (go_at_call 143; first | (refine (HY.out _ b1).mono ?_; rintro _ w2 ⟨rfl,b2⟩) | (refine c1.mono ?_; rintro _ w1 ⟨rfl,b1⟩))
     go_ret
     exact ⟨by simp [hat],b1.trans (b2.mono b1.size)⟩
  ·have hy2 : ∀ w',Below w.heap.size w w'→Calls Tryz.prog 143 #[.pointer (some ⟨p,0,.none⟩),.int .u64 t] w' fun e w'' => e = .returned (.bool false)∧Below w'.heap.size w' w'' := fun w' b => by
    obtain ⟨ok,e1,e2⟩ := hy w' b
    cases ok
    ·exact e2
    ·exact absurd (e1.1 rfl) h2
   have HY : Hid (∀ w',Below w.heap.size w w'→Calls Tryz.prog 143 #[.pointer (some ⟨p,0,.none⟩),.int .u64 t] w' fun e w'' => e = .returned (.bool false)∧Below w'.heap.size w' w'') := hy2
   refine ⟨false,?_,?_⟩
   ·constructor
    ·intro e; cases e
    ·intro e; exact absurd e.2.1 h2
   ·clear h h1 hy hy2 h2
    go_enter Tryz.func91,Tryz.ntmps91
    go_wp2_with (go_at_call 143; first | (refine (HY.out _ b1).mono ?_; rintro _ w2 ⟨rfl,b2⟩) | (refine c1.mono ?_; rintro _ w1 ⟨rfl,b1⟩))
    go_ret
    exact ⟨rfl,b1.trans (b2.mono b1.size)⟩
end
end Rm
namespace Rm
open Go.RowKit
theorem tt_y1 : y1 274877902848=y1 274877898752 := by decide
theorem tt_y0 : y0 274877902848=y0 274877898752 := by decide
theorem tt_i0 : i0 274877902848≠i0 274877898752 := by decide
theorem perm198 : (!ho 198 18446744073709551361 && ho 198 10 && (!hs 198 4 || hs 198 2))=true := by decide
theorem perm74 : (!ho 74 18446744073709551361 && ho 74 10 && (!hs 74 4 || hs 74 2))=true := by decide
theorem leaf_b (pa c:Int) (hp:0≤pa∧pa % 4096=0∧pa<72057594037927936) (hc:0≤c∧c<256) (he:c % 2=0) (h4:((c+1).toNat &&& 4=4)→((c+1).toNat &&& 2=2)) (h10:(c+1).toNat &&& 10≠0) : kd (toP pa c) 0=2∧0≤toP pa c∧toP pa c<18446744073709551616 := by
 refine ⟨kd_leaf pa c ⟨hp.1,hp.2.2⟩ hp.2.1 hc he ?_ ?_,?_⟩
 ·have e4 : hs (toP pa c) 4=((((c+1).toNat &&& 4 : Nat) : Int) == ((4:Nat) : Int)) := hs_toP pa c ⟨hp.1,hp.2.2⟩ (by omega) he 4 (by omega)
  have e2 : hs (toP pa c) 2=((((c+1).toNat &&& 2 : Nat) : Int) == ((2:Nat) : Int)) := hs_toP pa c ⟨hp.1,hp.2.2⟩ (by omega) he 2 (by omega)
  rw [e4,e2]
  intro h
  have h1 : (c+1).toNat &&& 4=4 := Int.ofNat.inj (beq_iff_eq.1 h)
  exact beq_iff_eq.2 (congrArg Int.ofNat (h4 h1))
 ·have e10 : ho (toP pa c) 10=((((c+1).toNat &&& 10 : Nat) : Int) != 0) := ho_toP pa c ⟨hp.1,hp.2.2⟩ (by omega) he 10 (by omega)
  rw [e10]
  simp only [bne_iff_ne,ne_eq]
  intro h
  exact h10 (Int.ofNat.inj h)
 ·rw [toP_val pa c ⟨hp.1,hp.2.2⟩ (by omega) he]
  omega
structure C2w (w:World) (x:Nat) (a b:Value) : Prop where
 a : w.cell? ⟨x,0,.none⟩=some a
 b : w.cell? ⟨x,1,.none⟩=some b
 f : ∀ k,w.frozen? ⟨x,k,.none⟩=false
theorem C2w.fra {w w':World} {x p b m:Nat} {u v:Value} (h:C2w w x u v) (f:Fra p b m w w') (h1:x≠p) (h2:x≠b) (h3:x≠m) : C2w w' x u v :=
 have hl : x<w.heap.size := lt_of_cell h.a
 ⟨(f.cell (x:=⟨x,0,.none⟩) hl h1 h2 h3).trans h.a,(f.cell (x:=⟨x,1,.none⟩) hl h1 h2 h3).trans h.b,fun k => (f.frozen (x:=⟨x,k,.none⟩) hl h1 h2 h3).trans (h.f k)⟩
section
variable {w:World} {p b m N:Nat} {B:Nat→Int}
end
end Rm
namespace Rm
open Go.RowKit
section
variable {w:World} {p b m N:Nat} {B:Nat→Int} {L:List Nat}
theorem len_le (h:Ram w p b m N B L) : L.length<N := length_le N L h.mem.n1 h.nd h.lt
theorem count_ram (h:Ram w p b m N B L) : Calls Tryz.prog 15 #[.pointer (some ⟨p,0,.none⟩)] w fun e w' => e = .returned (.int .i64 L.length) ∧ ∃ k,w'=w.drewN k := by
 have h1 := len_le h
 refine (count_any h.mem (by omega)).mono fun e w' ⟨h2,h3⟩ => ⟨?_,h3⟩
 rw [h2]
 refine congrArg Ending.returned (congrArg (Value.int .i64) ?_)
 omega
theorem below_dr (w:World) (k:Nat) : Below w.heap.size w (w.drewN k) := ⟨rfl,rfl,rfl,Nat.le_refl _,fun _ _ => rfl⟩
end
end Rm
end Go.Proofs.YtabnipbdbnmmpaaGreatDoor
