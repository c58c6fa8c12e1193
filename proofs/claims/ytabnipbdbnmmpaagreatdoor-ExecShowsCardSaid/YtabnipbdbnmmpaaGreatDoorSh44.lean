import Derived.Test.YtabnipbdbnmmpaaGreatDoorSh01
import Derived.Test.YtabnipbdbnmmpaaGreatDoorSh29
import Derived.Test.YtabnipbdbnmmpaaGreatDoorSh43
import Derived.Test.YtabnipbdbnmmpaaGreatDoorSh39
import Derived.Test.YtabnipbdbnmmpaaGreatDoorSh11
import Derived.OrdersHeld
import Derived.Deep.MidRow
set_option linter.unusedVariables false
set_option linter.unusedSimpArgs false
namespace Go.Proofs.YtabnipbdbnmmpaaGreatDoor
section
open Go.RowKit Go.Shelf
structure Laid3 (w:World) : Prop where
 c0 : w.cell? ⟨2,0,.none⟩=some (.int .u32 4)
 c1 : w.cell? ⟨2,1,.none⟩=some (.int .u64 2)
 c2 : w.cell? ⟨2,2,.none⟩=some (.int .u32 2)
 c3 : w.cell? ⟨2,3,.none⟩=some (.int .u64 4)
 c4 : w.cell? ⟨2,4,.none⟩=some (.int .u32 1)
 c5 : w.cell? ⟨2,5,.none⟩=some (.int .u64 8)
theorem Laid3.below {w w':World} (h:Laid3 w) (b:Below w.heap.size w w') : Laid3 w' :=
 have hl : 2<w.heap.size := lt_of_cell h.c0
 ⟨(b.cell (p:=⟨2,0,.none⟩) hl).trans h.c0,(b.cell (p:=⟨2,1,.none⟩) hl).trans h.c1,(b.cell (p:=⟨2,2,.none⟩) hl).trans h.c2,(b.cell (p:=⟨2,3,.none⟩) hl).trans h.c3,(b.cell (p:=⟨2,4,.none⟩) hl).trans h.c4,(b.cell (p:=⟨2,5,.none⟩) hl).trans h.c5⟩
def rga (fl:Int) (i:Nat) : Int := (if 1≤i∧(fl=4∨fl=5∨fl=6∨fl=7) then 2 else 0)+(if 2≤i∧(fl=6∨fl=7) then 4 else 0)+(if 3≤i∧(fl=1∨fl=5∨fl=7) then 8 else 0)
theorem rga_rgt {fl:Int} (h:fl=1∨fl=4∨fl=5∨fl=6∨fl=7) : Rm.rgt (rga fl 3) := by
 unfold Rm.rgt
 rcases h with rfl | rfl | rfl | rfl | rfl <;> decide
theorem ix0 (w:World) : (Instr.index 252 (.agg #[.int .u32 4,.int .u64 2,.int .u32 2,.int .u64 4,.int .u32 1,.int .u64 8]) (.int .i64 0)).run Tryz.prog w = .ok (.agg #[.int .u32 4,.int .u64 2]) w := by kernel_rfl
theorem ix1 (w:World) : (Instr.index 252 (.agg #[.int .u32 4,.int .u64 2,.int .u32 2,.int .u64 4,.int .u32 1,.int .u64 8]) (.int .i64 1)).run Tryz.prog w = .ok (.agg #[.int .u32 2,.int .u64 4]) w := by kernel_rfl
theorem ix2 (w:World) : (Instr.index 252 (.agg #[.int .u32 4,.int .u64 2,.int .u32 2,.int .u64 4,.int .u32 1,.int .u64 8]) (.int .i64 2)).run Tryz.prog w = .ok (.agg #[.int .u32 1,.int .u64 8]) w := by kernel_rfl
set_option maxRecDepth 4000 in
set_option maxHeartbeats 2000000 in
theorem rightsOf_any {w:World} (h:Laid3 w) (fl:Int) (hf:fl=1∨fl=4∨fl=5∨fl=6∨fl=7) : Calls Tryz.prog 148 #[.int .u32 fl] w fun e w' => e = .returned (.int .u64 (rga fl 3))∧Below w.heap.size w w' := by
 obtain ⟨c0,c1,c2,c3,c4,c5⟩ := h
 have x0 := ix0
 have x1 := ix1
 have x2 := ix2
 rcases hf with rfl | rfl | rfl | rfl | rfl
 all_goals
  go_enter Tryz.func148,Tryz.ntmps148
  go_wp2_with fail
  clear c0 c1 c2 c3 c4 c5
 ·go_loopw [3,7] (fun a k wr => ∃ i : Nat,i≤3∧k = .int .i64 i∧a = .int .u64 (rga 1 i)∧Hid (Below w.heap.size w wr)) (fun _ k _ => (3 - intOf k).toNat)
  case atStart => exact ⟨0,by omega,rfl,by rw [show rga 1 0=0 by decide],Below.refl _ _⟩
  case round =>
   obtain ⟨i,hi,rfl,rfl,HB⟩ := hrel
   rcases (show i=0∨i=1∨i=2∨i=3 by omega) with rfl | rfl | rfl | rfl
   ·rw [show rga 1 0=0 by decide]
    go_wp2_with fail
    exact ⟨⟨1,by omega,rfl,(congrArg (Value.int .u64) (by decide)),HB.out.alloc HB.out.size _⟩,by simp only [intOf]; omega⟩
   ·rw [show rga 1 1=0 by decide]
    go_wp2_with fail
    exact ⟨⟨2,by omega,rfl,(congrArg (Value.int .u64) (by decide)),HB.out.alloc HB.out.size _⟩,by simp only [intOf]; omega⟩
   ·rw [show rga 1 2=0 by decide]
    go_wp2_with fail
    exact ⟨⟨3,by omega,rfl,(congrArg (Value.int .u64) (by decide)),HB.out.alloc HB.out.size _⟩,by simp only [intOf]; omega⟩
   ·rw [show rga 1 3=8 by decide]
    go_wp2_with fail
    go_ret
    exact ⟨rfl,HB.out⟩
 ·go_loopw [3,7] (fun a k wr => ∃ i : Nat,i≤3∧k = .int .i64 i∧a = .int .u64 (rga 4 i)∧Hid (Below w.heap.size w wr)) (fun _ k _ => (3 - intOf k).toNat)
  case atStart => exact ⟨0,by omega,rfl,by rw [show rga 4 0=0 by decide],Below.refl _ _⟩
  case round =>
   obtain ⟨i,hi,rfl,rfl,HB⟩ := hrel
   rcases (show i=0∨i=1∨i=2∨i=3 by omega) with rfl | rfl | rfl | rfl
   ·rw [show rga 4 0=0 by decide]
    go_wp2_with fail
    exact ⟨⟨1,by omega,rfl,(congrArg (Value.int .u64) (by decide)),HB.out.alloc HB.out.size _⟩,by simp only [intOf]; omega⟩
   ·rw [show rga 4 1=2 by decide]
    go_wp2_with fail
    exact ⟨⟨2,by omega,rfl,(congrArg (Value.int .u64) (by decide)),HB.out.alloc HB.out.size _⟩,by simp only [intOf]; omega⟩
   ·rw [show rga 4 2=2 by decide]
    go_wp2_with fail
    exact ⟨⟨3,by omega,rfl,(congrArg (Value.int .u64) (by decide)),HB.out.alloc HB.out.size _⟩,by simp only [intOf]; omega⟩
   ·rw [show rga 4 3=2 by decide]
    go_wp2_with fail
    go_ret
    exact ⟨rfl,HB.out⟩
 ·go_loopw [3,7] (fun a k wr => ∃ i : Nat,i≤3∧k = .int .i64 i∧a = .int .u64 (rga 5 i)∧Hid (Below w.heap.size w wr)) (fun _ k _ => (3 - intOf k).toNat)
  case atStart => exact ⟨0,by omega,rfl,by rw [show rga 5 0=0 by decide],Below.refl _ _⟩
  case round =>
   obtain ⟨i,hi,rfl,rfl,HB⟩ := hrel
   rcases (show i=0∨i=1∨i=2∨i=3 by omega) with rfl | rfl | rfl | rfl
   ·rw [show rga 5 0=0 by decide]
    go_wp2_with fail
    exact ⟨⟨1,by omega,rfl,(congrArg (Value.int .u64) (by decide)),HB.out.alloc HB.out.size _⟩,by simp only [intOf]; omega⟩
   ·rw [show rga 5 1=2 by decide]
    go_wp2_with fail
    exact ⟨⟨2,by omega,rfl,(congrArg (Value.int .u64) (by decide)),HB.out.alloc HB.out.size _⟩,by simp only [intOf]; omega⟩
   ·rw [show rga 5 2=2 by decide]
    go_wp2_with fail
    exact ⟨⟨3,by omega,rfl,(congrArg (Value.int .u64) (by decide)),HB.out.alloc HB.out.size _⟩,by simp only [intOf]; omega⟩
   ·rw [show rga 5 3=10 by decide]
    go_wp2_with fail
    go_ret
    exact ⟨rfl,HB.out⟩
 ·go_loopw [3,7] (fun a k wr => ∃ i : Nat,i≤3∧k = .int .i64 i∧a = .int .u64 (rga 6 i)∧Hid (Below w.heap.size w wr)) (fun _ k _ => (3 - intOf k).toNat)
  case atStart => exact ⟨0,by omega,rfl,by rw [show rga 6 0=0 by decide],Below.refl _ _⟩
  case round =>
   obtain ⟨i,hi,rfl,rfl,HB⟩ := hrel
   rcases (show i=0∨i=1∨i=2∨i=3 by omega) with rfl | rfl | rfl | rfl
   ·rw [show rga 6 0=0 by decide]
    go_wp2_with fail
    exact ⟨⟨1,by omega,rfl,(congrArg (Value.int .u64) (by decide)),HB.out.alloc HB.out.size _⟩,by simp only [intOf]; omega⟩
   ·rw [show rga 6 1=2 by decide]
    go_wp2_with fail
    exact ⟨⟨2,by omega,rfl,(congrArg (Value.int .u64) (by decide)),HB.out.alloc HB.out.size _⟩,by simp only [intOf]; omega⟩
   ·rw [show rga 6 2=6 by decide]
    go_wp2_with fail
    exact ⟨⟨3,by omega,rfl,(congrArg (Value.int .u64) (by decide)),HB.out.alloc HB.out.size _⟩,by simp only [intOf]; omega⟩
   ·rw [show rga 6 3=6 by decide]
    go_wp2_with fail
    go_ret
    exact ⟨rfl,HB.out⟩
 ·go_loopw [3,7] (fun a k wr => ∃ i : Nat,i≤3∧k = .int .i64 i∧a = .int .u64 (rga 7 i)∧Hid (Below w.heap.size w wr)) (fun _ k _ => (3 - intOf k).toNat)
  case atStart => exact ⟨0,by omega,rfl,by rw [show rga 7 0=0 by decide],Below.refl _ _⟩
  case round =>
   obtain ⟨i,hi,rfl,rfl,HB⟩ := hrel
   rcases (show i=0∨i=1∨i=2∨i=3 by omega) with rfl | rfl | rfl | rfl
   ·rw [show rga 7 0=0 by decide]
    go_wp2_with fail
    exact ⟨⟨1,by omega,rfl,(congrArg (Value.int .u64) (by decide)),HB.out.alloc HB.out.size _⟩,by simp only [intOf]; omega⟩
   ·rw [show rga 7 1=2 by decide]
    go_wp2_with fail
    exact ⟨⟨2,by omega,rfl,(congrArg (Value.int .u64) (by decide)),HB.out.alloc HB.out.size _⟩,by simp only [intOf]; omega⟩
   ·rw [show rga 7 2=6 by decide]
    go_wp2_with fail
    exact ⟨⟨3,by omega,rfl,(congrArg (Value.int .u64) (by decide)),HB.out.alloc HB.out.size _⟩,by simp only [intOf]; omega⟩
   ·rw [show rga 7 3=14 by decide]
    go_wp2_with fail
    go_ret
    exact ⟨rfl,HB.out⟩
end
section
open Go.RowKit Go.Shelf
def pgs (s:Sg) : Int := (s.va+s.mem+4095) / 4096
def rgP (S:List Sg) (pg:Int) : Int := match S.find? (fun s => decide (pg<pgs s)) with | some s => rga s.fl 3 | none => 6
theorem rgP_hit {S:List Sg} {pg:Int} {i:Nat} {x:Sg} (hx:S[i]? = some x) (hb:∀ j y,j<i→S[j]? = some y→¬ pg<pgs y) (hp:pg<pgs x) : rgP S pg=rga x.fl 3 := by
 unfold rgP
 have : S.find? (fun s => decide (pg<pgs s))=some x := by
  obtain ⟨hl,he⟩ := List.getElem?_eq_some_iff.1 hx
  rw [List.find?_eq_some_iff_getElem]
  exact ⟨by simpa using hp,i,hl,he,fun j hj => by
   have := hb j S[j] hj (List.getElem?_eq_getElem (by omega))
   simpa using this⟩
 rw [this]
theorem rgP_miss {S:List Sg} {pg:Int} (hb:∀ (j:Nat) y,S[j]? = some y→¬ pg<pgs y) : rgP S pg=6 := by
 unfold rgP
 have : S.find? (fun s => decide (pg<pgs s))=none := by
  rw [List.find?_eq_none]
  intro y hy
  obtain ⟨j,hj⟩ := List.mem_iff_getElem?.1 hy
  simpa using hb j y hj
 rw [this]
set_option maxRecDepth 4000 in
set_option maxHeartbeats 2000000 in
theorem rights_any {w:World} {X c:Nat} {q:Option Addr} {E:List (Sg × Value)} {B:Nat→Int} (h:Segs w X (.slice q E.length c) E B) (hL:Laid3 w) (hl:E.length≤8) (en sp:Int) (dp:Option Addr) (dn dc:Nat) (pg:Int) :
  Calls Tryz.prog 94 #[.agg #[.int .u64 en,.slice q E.length c,.slice dp dn dc,.int .u64 sp],.int .i64 pg] w fun e w' => e = .returned (.int .u64 (rgP (E.map (·.1)) pg))∧Below w.heap.size w w' := by
 obtain ⟨q',c',e',hc1,hc2,hq⟩ := own_form h.own
 cases e'
 have HS : Hid (Segs w X (.slice q E.length c) E B∧Laid3 w) := ⟨h,hL⟩
 obtain ⟨w1,hw1⟩ : ∃ w1,w1=w.alloc (.cells #[.int .u64 en,.slice q E.length c,.slice dp dn dc,.int .u64 sp] 92) := ⟨_,rfl⟩
 have b1 : Below w.heap.size w w1 := by rw [hw1]; exact (Below.refl _ _).alloc (Nat.le_refl _) _
 have k1 : w1.cell? ⟨w.heap.size,1,.none⟩=some (.slice q E.length c) := by rw [hw1]; simp
 have HB1 : Hid (Below w.heap.size w w1) := b1
 clear h hL b1
 go_enter Tryz.func94,Tryz.ntmps94
 go_upto_region 1 with fail
 rw [← hw1]
 clear hw1
 go_wp2_with fail
 clear k1
 go_loopw [11] (fun a wr => ∃ i : Nat,i≤E.length∧a = .int .i64 i∧Hid ((∀ j y,j<i→(E.map (·.1))[j]? = some y→¬ pg<pgs y)∧Below w.heap.size w wr)) (fun a _ => (E.length - intOf a).toNat)
 case atStart => exact ⟨0,by omega,rfl,fun j y hj => by omega,HB1.out⟩
 case round =>
  obtain ⟨i,hi,rfl,HR⟩ := hrel
  by_cases hlt : i<E.length
  ·have g0 : (i:Int)<E.length := by omega
   obtain ⟨x,hx⟩ : ∃ x,E[i]? = some x := ⟨E[i],List.getElem?_eq_getElem hlt⟩
   have HS1 := HS.out.1.below HR.out.2
   obtain ⟨f0,f1,f2,f3⟩ := flatE_get E _ x hx
   obtain ⟨g,rfl,a0⟩ := own_cell HS1.own f0 (by omega) (by omega)
   obtain ⟨g1,e1,a1⟩ := own_cell HS1.own f1 (by omega) (by omega)
   obtain ⟨g2,e2,a2⟩ := own_cell HS1.own f2 (by omega) (by omega)
   obtain ⟨g3,e3,a3⟩ := own_cell HS1.own f3 (by omega) (by omega)
   simp only [Option.some.injEq,Addr.mk.injEq,and_true] at e1 e2 e3
   subst e1 e2 e3
   have hgd := HS1.gd x (List.mem_of_getElem? hx)
   obtain ⟨ldq,ldc,hld,_⟩ := own_form (HS1.dat x (List.mem_of_getElem? hx))
   rw [hld] at a2
   have c109 := fun W => below_any x.1.va x.1.fl x.1.mem ldq x.1.sz ldc W hgd.v hgd.m hgd.e
   have hxm : (E.map (·.1))[i]? = some x.1 := by rw [List.getElem?_map,hx]; rfl
   have HX : Hid ((E.map (·.1))[i]? = some x.1∧(x.1.fl=1∨x.1.fl=4∨x.1.fl=5∨x.1.fl=6∨x.1.fl=7)) := ⟨hxm,hgd.f⟩
   have hpg : (x.1.va+x.1.mem+4095) / 4096=pgs x.1 := rfl
   rw [hpg] at c109
   clear f0 f1 f2 f3 HS1 hgd hq hxm hx hld hpg
   generalize hpv : pgs x.1=pv at c109
   have HV : Hid (pgs x.1=pv) := hpv
   clear hpv
   have HA : Hid (Below w.heap.size w (wr.alloc (.cells #[.int .u64 x.1.va,.int .u32 x.1.fl,.slice ldq x.1.sz ldc,.int .u64 x.1.mem] 38))) := HR.out.2.alloc HR.out.2.size _
   by_cases hp : pg<pv
   ·have HH : Hid (rgP (E.map (·.1)) pg=rga x.1.fl 3) := rgP_hit HX.out.1 (fun j y hj hy => HR.out.1 j y hj hy) (by rw [HV.out]; exact hp)
    go_upto_region 5 with (go_at_call 147; refine (c109 _).mono ?_; rintro _ w2 ⟨rfl,b2⟩; have H2 : Hid (Below w.heap.size w w2∧w2.cell? ⟨wr.heap.size,1,.none⟩=some (.int .u32 x.1.fl)) := ⟨HA.out.trans (b2.mono HA.out.size),(b2.cell (p:=⟨wr.heap.size,1,.none⟩) (by simp)).trans (by simp)⟩; clear b2)
    have k2 := H2.out.2
    have c110 := rightsOf_any (HS.out.2.below H2.out.1) x.1.fl HX.out.2
    go_wp2_with (go_at_call 148; refine c110.mono ?_; rintro _ w3 ⟨rfl,b3⟩)
    go_ret
    exact ⟨by rw [HH.out]; rfl,H2.out.1.trans (b3.mono H2.out.1.size)⟩
   ·go_wp2_with (go_at_call 147; refine (c109 _).mono ?_; rintro _ w2 ⟨rfl,b2⟩; have H2 : Hid (Below w.heap.size w w2) := HA.out.trans (b2.mono HA.out.size); clear b2)
    refine ⟨⟨i+1,by omega,rfl,fun j y hj hy => ?_,H2.out⟩,by simp only [intOf]; omega⟩
    rcases Nat.lt_or_ge j i with e | e
    ·exact Int.not_lt.2 (HR.out.1 j y e hy)
    ·obtain rfl : j=i := by omega
     rw [HX.out.1] at hy
     injection hy with hy
     rw [← hy,HV.out]
     exact Int.not_lt.2 hp
  ·obtain rfl : i=E.length := by omega
   have HM : Hid (rgP (E.map (·.1)) pg=6) := rgP_miss (fun j y hy => HR.out.1 j y (by have := (List.getElem?_eq_some_iff.1 hy).1; rw [List.length_map] at this; exact this) hy)
   go_wp2_with fail
   go_ret
   exact ⟨by rw [HM.out]; rfl,HR.out.2⟩
end
section
open Go.RowKit Go.Shelf
theorem SpM_extc {ox:Rm.Oxt} {w:World} {s p b m N r P K:Nat} {M c c':Nat→Int} (h:Rm.SpM ox w s p b m N r P K M c) (e:∀ i,i<P→c' i=c i) : Rm.SpM ox w s p b m N r P K M c' := by
 obtain ⟨B,L,F,lf,fr,h1,h2,h4,h5⟩ := h
 exact ⟨B,L,F,lf,fr,⟨h1.sp,h1.sz,h1.pm,h1.ram,h1.ne,h1.tab.extc fun i hi => e i (List.mem_range.1 hi)⟩,h2,h4,h5⟩
theorem own_fraM {w w':World} {p b m X e k n:Nat} {v:Value} {xs:List Value} (h:w.ownsRow X e k v n xs) (f:Rm.Fra p b m w w') (hx:p<X∧b<X∧m<X) : w'.ownsRow X e k v n xs := by
 refine ⟨h.1,?_⟩
 rcases h.2 with h0 | ⟨g,cap,cur,hv,h1,h2,h3⟩
 ·exact .inl h0
 ·exact .inr ⟨g,cap,cur,hv,h1,(f.block g (Array.getElem?_eq_some_iff.1 h2).1 (by omega) (by omega) (by omega)).trans h2,h3⟩
theorem Segs.fraM {w w':World} {p b m X:Nat} {sv:Value} {E:List (Sg × Value)} {B:Nat→Int} (h:Segs w X sv E B) (f:Rm.Fra p b m w w') (hx:p<X∧b<X∧m<X) : Segs w' X sv E B :=
 ⟨own_fraM h.own f hx,fun x hm => own_fraM (h.dat x hm) f hx,h.gd⟩
theorem Laid3.fraM {w w':World} {p b m:Nat} (h:Laid3 w) (f:Rm.Fra p b m w w') (h1:2<p∧2<b∧2<m) : Laid3 w' :=
 have hl : 2<w.heap.size := lt_of_cell h.c0
 have k : ∀ i,w'.cell? ⟨2,i,.none⟩=w.cell? ⟨2,i,.none⟩ := fun i => f.cell (x:=⟨2,i,.none⟩) hl (by show 2≠p; omega) (by show 2≠b; omega) (by show 2≠m; omega)
 ⟨(k 0).trans h.c0,(k 1).trans h.c1,(k 2).trans h.c2,(k 3).trans h.c3,(k 4).trans h.c4,(k 5).trans h.c5⟩
theorem rgP_bM (S:List Sg) (h:∀ y ∈ S,y.fl=1∨y.fl=4∨y.fl=5∨y.fl=6∨y.fl=7) (pg:Int) : Rm.rgt (rgP S pg) := by
 unfold rgP
 cases hf : S.find? (fun s => decide (pg<pgs s)) with
 | none => simp [Rm.rgt]
 | some s => exact rga_rgt (h s (List.mem_of_find?_eq_some hf))
def cS (S:List Sg) : Nat→Int := fun i => rgP S (i:Int)+208
def GsW (ox:Rm.Oxt) (w0 wi:World) (s p b m N r:Nat) (S:List Sg) (j K:Nat) (w:World) : Prop := Rm.Fra p b m w0 w∧Rm.Tch p b m s wi w∧Rm.SpM ox w s p b m N r j K (fun _ => 0) (cS S)
set_option maxRecDepth 4000 in
set_option maxHeartbeats 2000000 in
theorem exGrowM {ox:Rm.Oxt} {w0 wi w:World} {s p b m N r:Nat} {X c:Nat} {q:Option Addr} {E:List (Sg × Value)} {Bq:Nat→Int} (hE:Segs w0 X (.slice q E.length c) E Bq) (hL:Laid3 w0) (hl:E.length≤8) (en sp:Int) (dp:Option Addr) (dn dc:Nat)
  (hX:p<X∧b<X∧m<X) (h3:2<p∧2<b∧2<m) (hs:w0.heap.size≤s) (K P:Nat) (hP:1≤P∧P≤4096) (hn:(P:Int)+Rm.ndP P≤K) (h0:GsW ox w0 wi s p b m N r (E.map (·.1)) 0 K w) :
  Calls Tryz.prog 93 #[.pointer (some ⟨s,0,.none⟩),.int .i64 P,.func (.func 94) #[.agg #[.int .u64 en,.slice q E.length c,.slice dp dn dc,.int .u64 sp]] #[]] w fun e w' => e = .returned (.tuple #[])∧GsW ox w0 wi s p b m N r (E.map (·.1)) P K w' := by
 have HE : Hid (Segs w0 X (.slice q E.length c) E Bq∧Laid3 w0) := ⟨hE,hL⟩
 have H0 : Hid (GsW ox w0 wi s p b m N r (E.map (·.1)) 0 K w) := h0
 have HF : Hid (∀ y ∈ E.map (·.1),y.fl=1∨y.fl=4∨y.fl=5∨y.fl=6∨y.fl=7) := fun y hy => by
  obtain ⟨x,hx,rfl⟩ := List.mem_map.1 hy
  exact (hE.gd x hx).f
 obtain ⟨hP1,hP2⟩ := hP
 clear hE hL h0
 go_enter Tryz.func93,Tryz.ntmps93
 go_wp2_with fail
 go_loopw [8] (fun k wr => ∃ j : Nat,j≤P∧k = .int .i64 j∧Hid (GsW ox w0 wi s p b m N r (E.map (·.1)) j K wr)) (fun k _ => (P - intOf k).toNat)
 case atStart => exact ⟨0,by omega,rfl,H0⟩
 case round =>
  obtain ⟨j,hj,rfl,HG⟩ := hrel
  by_cases hlt : j<P
  ·have g0 : (j:Int)<P := by omega
   obtain ⟨hfr,htc,hN⟩ := HG.out
   have c62 := rights_any (HE.out.1.fraM hfr hX) (HE.out.2.fraM hfr h3) hl en sp dp dn dc (j:Int)
   have c104 := fun W => addr_any ((j:Int)+1) W (by omega)
   have hjj : j<4096 := by omega
   have hjK : (j:Int)+1+Rm.ndP ((j:Int)+1)≤K := by have := Rm.ndP_mono (a:=(j:Int)+1) (c:=(P:Int)) (by omega) (by omega); omega
   have HC : Hid (∀ W,Below wr.heap.size wr W→Calls Tryz.prog 146 #[.pointer (some ⟨s,0,.none⟩),.int .u64 (((j:Int)+1)*4096),.int .u64 (rgP (E.map (·.1)) j)] W fun e w' => Rm.GmP ox W s p b m N r j K (fun _ => 0) (cS (E.map (·.1))) (rgP (E.map (·.1)) j) e w') := fun W bW => (hN.below bW).grow hjj hjK _ (rgP_bM _ HF.out _)
   have HN : Hid (Rm.Fra p b m w0 wr∧Rm.Tch p b m s wi wr) := ⟨hfr,htc⟩
   generalize hrg : rgP (E.map (·.1)) j=rg at c62 HC
   have HR : Hid (rgP (E.map (·.1)) j=rg) := hrg
   clear hrg hN hfr htc
   go_wp2_with first | (go_at_call 142; refine (c104 _).mono ?_; rintro _ w1 ⟨rfl,e1⟩; obtain rfl : wr=w1 := e1.symm) | (go_at_call 94; refine c62.mono ?_; rintro _ w2 ⟨rfl,b2⟩; have H2 : Hid (Below wr.heap.size wr w2) := b2; clear b2) | (go_at_call 146; refine (HC.out _ H2.out).mono ?_; rintro _ w3 ⟨rfl,hg1,hg2⟩; have H3 : Hid (Rm.SpM ox w3 s p b m N r (j+1) K (Rm.grM (fun _ => 0) j) (Rm.upd (cS (E.map (·.1))) j (rg+208))∧w2.heap.size≤w3.heap.size∧w3.os=w2.os∧w3.tape=w2.tape∧w3.output=w2.output ∧ ∀ k,k<w2.heap.size→k≠p→k≠b→k≠m→k≠s→w3.heap[k]? = w2.heap[k]?) := ⟨hg1,hg2⟩; clear hg1 hg2)
   refine ⟨⟨j+1,by omega,rfl,?_⟩,by simp only [intOf]; omega⟩
   obtain ⟨g1,gs,go1,go2,go3,gb⟩ := H3.out
   refine ⟨⟨go1.trans (H2.out.os.trans HN.out.1.os),go2.trans (H2.out.tape.trans HN.out.1.tape),go3.trans (H2.out.output.trans HN.out.1.output),Nat.le_trans HN.out.1.size (Nat.le_trans H2.out.size gs),fun k hk h1 h2 h3 => ?_⟩,(HN.out.2.trans (Rm.Tch.of (Rm.Fra.below H2.out))).trans ⟨go1,go2,go3,gs,gb⟩,?_⟩
   ·have hkw : k<wr.heap.size := Nat.lt_of_lt_of_le hk HN.out.1.size
    rw [gb k (Nat.lt_of_lt_of_le hkw H2.out.size) h1 h2 h3 (by omega),H2.out.block k hkw]
    exact HN.out.1.block k hk h1 h2 h3
   ·refine SpM_extc (g1.ext (fun a _ => ?_)) (fun i hi => ?_)
    ·unfold Rm.grM
     split <;> rfl
    ·unfold Rm.upd cS
     by_cases e : i=j
     ·rw [if_pos e,e,HR.out]
     ·rw [if_neg e]
  ·obtain rfl : j=P := by omega
   go_wp2_with fail
   exact bodyPost_end (v:=.tuple #[]) (by simp [results,Tryz.results93,go_sem]) rfl ⟨rfl,HG.out⟩
end
namespace Rm
open Go Go.RowKit
set_option maxHeartbeats 1000000 in
theorem put_zero (s va:Nat) (q:Option Addr) (cc:Nat) (f:Value) (w:World) : Calls Tryz.prog 53 #[.pointer (some ⟨s,0,.none⟩),.int .u64 va,.slice q 0 cc,f] w fun e w' => e = .returned (.bool true)∧Below w.heap.size w w' := by
 obtain ⟨w1,hw1⟩ : ∃ w1,w1=w.alloc (.cells #[.pointer (some ⟨s,0,.none⟩)] 42) := ⟨_,rfl⟩
 obtain ⟨w2,hw2⟩ : ∃ w2,w2=w1.alloc (.cells #[.slice q 0 cc] 24) := ⟨_,rfl⟩
 have z1 : w1.heap.size=w.heap.size+1 := by rw [hw1]; simp
 have b1 : Below w.heap.size w w1 := by rw [hw1]; exact below1 _ _
 have b12 : Below w1.heap.size w1 w2 := by rw [hw2]; exact below1 _ _
 have b2 := b1.trans (b12.mono b1.size)
 have ks : w2.cell? ⟨w.heap.size,0,.none⟩=some (.pointer (some ⟨s,0,.none⟩)) := (b12.cell (p:=⟨w.heap.size,0,.none⟩) (by show w.heap.size<w1.heap.size; omega)).trans (by rw [hw1]; simp)
 have kb : w2.cell? ⟨w.heap.size+1,0,.none⟩=some (.slice q 0 cc) := by rw [← z1,hw2]; simp
 have c52 := fun g : Value => each_zero (va:Int) f g w2 s
 have HB : Hid (Below w.heap.size w w2) := b2
 clear b1 b12 b2 z1
 go_enter Tryz.func53,Tryz.ntmps53
 go_upto_region 1 with fail
 rw [← hw1,← hw2]
 clear hw1 hw2
 go_wp2_with (go_at_call 49; refine (c52 _).mono ?_; rintro _ x1 ⟨rfl,e1⟩; obtain rfl : w2=x1 := e1.symm)
 go_ret
 exact ⟨rfl,HB.out⟩
section
variable {w:World} {s p b m N r P:Nat} {size:Int} {B:Nat→Int} {L:List Nat} {F:Nat→Option Nat} {lf:Nat→Nat→Int} {fr:Nat→Nat} {c:Nat→Int}
set_option maxHeartbeats 1000000 in
theorem poke_zero (h:SpU w s p b m N r P size B L F lf fr c) (va:Nat) (hv:(va:Int)<18446744073709551616) (q:Option Addr) (cc:Nat) : Calls Tryz.prog 95 #[.pointer (some ⟨s,0,.none⟩),.int .u64 va,.slice q 0 cc] w fun e w' => e = .returned (.bool (decide ((va:Int)≤size)))∧Below w.heap.size w w' := by
 have hm := h.pm
 have hsz := h.sz
 have c43 := made_sp h.sp
 have c50 := fits_gen (va:Int) 0 size (by omega) (by omega) (by omega) w
 rw [Int.add_zero] at c50
 have k2 := h.sp.c2
 have c57 := fun f : Value => put_zero s va q cc f w
 clear h hm hsz
 generalize decide ((va:Int)≤size)=v at *
 cases v
 all_goals
  go_enter Tryz.func95,Tryz.ntmps95
  go_wp2_with first | (go_at_call 46; refine c43.mono ?_; rintro _ x1 ⟨rfl,e1⟩; obtain rfl : w=x1 := e1.symm) | (go_at_call 47; refine c50.mono ?_; rintro _ x3 ⟨rfl,e9⟩; obtain rfl : w=x3 := e9.symm) | (go_at_call 53; refine (c57 _).mono ?_; rintro _ x4 ⟨rfl,b4⟩; have H4 : Hid (Below w.heap.size w x4) := b4; clear b4)
  go_ret
  first | exact ⟨rfl,Below.refl _ _⟩ | exact ⟨rfl,H4.out⟩
end
theorem SpM.poke0 {ox:Oxt} {w:World} {s p b m N r P K:Nat} {M c:Nat→Int} (h:SpM ox w s p b m N r P K M c) (va n:Nat) (hn:n=0) (hv:va≤P*4096) (q:Option Addr) (cc:Nat) (R:Nat→Int) :
  Calls Tryz.prog 95 #[.pointer (some ⟨s,0,.none⟩),.int .u64 va,.slice q n cc] w (PmP ox w s p b m N r P K (wrM M va n R) c) := by
 subst hn
 obtain ⟨B,L,F,lf,fr,hG,hM,hO,hK⟩ := h
 have hm := hG.pm
 refine (poke_zero hG.su va (by omega) q cc).mono fun e w' h9 => ?_
 refine ⟨?_,(show SpM ox w s p b m N r P K (wrM M va 0 R) c from ⟨B,L,F,lf,fr,hG,fun a ha => ?_,hO,hK⟩).below h9.2,Fra.below h9.2⟩
 ·rw [h9.1,decide_eq_true (by omega)]
 ·unfold wrM
  rw [if_neg (by omega)]
  exact hM a ha
end Rm
namespace Rg
open Go
theorem x1 {α:Type} {l:List α} {i:Nat} {a:α} : l.toArray.setIfInBounds i a=(l.set i a).toArray := List.setIfInBounds_toArray ..
theorem x2 {α:Type} {l:List α} {a b:α} : (a :: l).set 0 b=b :: l := List.set_cons_zero ..
theorem x3 {α:Type} {l:List α} {a b:α} {n:Nat} : (a :: l).set (n+1) b=a :: l.set n b := List.set_cons_succ ..
theorem x4 {α:Type} {l:List α} {i:Nat} (h:i<l.toArray.size) : l.toArray[i]=l[i]'(by simpa using h) := List.getElem_toArray ..
theorem x5 {α:Type} {a:α} {l:List α} {i:Nat} (h:i+1<(a :: l).length) : (a :: l)[i+1]=l[i]'(Nat.lt_of_succ_lt_succ h) := List.getElem_cons_succ ..
theorem x6 {α:Type} {a:α} {l:List α} (h:0<(a :: l).length) : (a :: l)[0]=a := List.getElem_cons_zero ..
section
variable {P:Program} {ops:Array Oper} {Q:Exit→Act→World→Prop} {S:World→Prop} {md:Region.Mode}
theorem nT {fuel:Nat} {listed:Array Bool} {a:Act} {w:World} {oi:Oper} (i:Nat) (v:Value) (hi:ops[i]? = some oi) (h:wpAnyH P md ops Q S fuel (listed.setIfInBounds i true) (a.put oi.dst v) w) (hy:∀ ww,S ww→(execOp a.eval oi).run P ww = .ok (.value v) ww := by exact fun ww hSw => by (try dsimp only at hSw); go_simp) (hw:Region.wanted oi (yielded ops a.tmps)=true := by rfl) (hs:Region.noSelect ops=true := by kernel_rfl) (hf:Region.free md ops listed i=true := by kernel_rfl) (hr:(Region.ready md ops listed).contains i=true := by kernel_rfl) (hS:S w := by assumption) (hQ:∀ c a w,Q (.panic c) (a.put oi.dst v) w→Q (.panic c) a w := by exact fun _ _ _ h => h) : wpAnyH P md ops Q S (fuel+1) listed a w :=
 wpAnyH_take hi hs hf hr hQ (.inl ⟨hw,hy⟩) hS h
theorem nU {fuel:Nat} {listed:Array Bool} {a:Act} {w:World} {oi:Oper} (i:Nat) (hi:ops[i]? = some oi) (h:wpAnyH P md ops Q S fuel (listed.setIfInBounds i true) (a.put oi.dst undef) w) (hw:Region.wanted oi (yielded ops a.tmps)=false := by rfl) (hs:Region.noSelect ops=true := by kernel_rfl) (hf:Region.free md ops listed i=true := by kernel_rfl) (hr:(Region.ready md ops listed).contains i=true := by kernel_rfl) (hS:S w := by assumption) (hQ:∀ c a w,Q (.panic c) (a.put oi.dst undef) w→Q (.panic c) a w := by exact fun _ _ _ h => h) : wpAnyH P md ops Q S (fuel+1) listed a w :=
 wpAnyH_take hi hs hf hr hQ (.inr ⟨hw,rfl⟩) hS h
end
end Rg
end Go.Proofs.YtabnipbdbnmmpaaGreatDoor
