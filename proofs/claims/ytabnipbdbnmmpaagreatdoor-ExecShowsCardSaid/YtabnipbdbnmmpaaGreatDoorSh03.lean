import Derived.Test.YtabnipbdbnmmpaaGreatDoorSh01
import Derived.Test.YtabnipbdbnmmpaaGreatDoorSh02
import Derived.Deep.RegionLaw
import Derived.Deep.MidRow
import Derived.Deep.RegionHeld3
set_option linter.unusedVariables false
set_option linter.unusedSimpArgs false
namespace Go.Proofs.YtabnipbdbnmmpaaGreatDoor
section
open Go.RowKit
def hOf : Nat→Nat := fun i => [0,4,5,6,16,18,20,24,32,52,54,56].getD i 0
def hBy : Nat→Nat := fun i => [4,1,1,1,2,2,4,8,8,2,2,2].getD i 0
def hFx : Nat→Int := fun i => [1179403647,2,1,1,2,243,1,0,0,64,56,0].getD i 0
def sOf : Nat→Nat := fun i => [0,4,8,16,24,32,40,48].getD i 0
def sBy : Nat→Nat := fun i => [4,4,8,8,8,8,8,8].getD i 0
def sFx : Nat→Int := fun i => [1,0,0,0,0,0,0,4096].getD i 0
structure Laid (w:World) : Prop where
 h0 : ∀ i,i<12→w.cell? ⟨0,i*3,.none⟩=some (.int .i64 (hOf i))
 h1 : ∀ i,i<12→w.cell? ⟨0,i*3+1,.none⟩=some (.int .i64 (hBy i))
 h2 : ∀ i,i<12→w.cell? ⟨0,i*3+2,.none⟩=some (.int .u64 (hFx i))
 s0 : ∀ i,i<8→w.cell? ⟨1,i*3,.none⟩=some (.int .i64 (sOf i))
 s1 : ∀ i,i<8→w.cell? ⟨1,i*3+1,.none⟩=some (.int .i64 (sBy i))
 s2 : ∀ i,i<8→w.cell? ⟨1,i*3+2,.none⟩=some (.int .u64 (sFx i))
theorem Laid.below {w w':World} (h:Laid w) (b:Below w.heap.size w w') : Laid w' :=
 ⟨fun i hi => (b.cell (lt_of_cell (h.h0 i hi))).trans (h.h0 i hi),fun i hi => (b.cell (lt_of_cell (h.h1 i hi))).trans (h.h1 i hi),fun i hi => (b.cell (lt_of_cell (h.h2 i hi))).trans (h.h2 i hi),fun i hi => (b.cell (lt_of_cell (h.s0 i hi))).trans (h.s0 i hi),fun i hi => (b.cell (lt_of_cell (h.s1 i hi))).trans (h.s1 i hi),fun i hi => (b.cell (lt_of_cell (h.s2 i hi))).trans (h.s2 i hi)⟩
def chk (B:Nat→Int) (i:Nat) : Prop := hFx i=0∨num B (hOf i) (hBy i)=hFx i
instance (B:Nat→Int) (i:Nat) : Decidable (chk B i) := by unfold chk; infer_instance
def Hd (B:Nat→Int) (a r:Int) : Prop := (r=0∧a=0 ∧ ∀ i,i<12→chk B i) ∨ ∃ i,i<12∧(∀ j,j<i→chk B j)∧¬ chk B i∧a=hOf i∧r=(if i<4 then 141 else 142)
theorem hd_one {B:Nat→Int} {a r a' r':Int} (h:Hd B a r) (h':Hd B a' r') : a=a'∧r=r' := by
 rcases h with ⟨h1,h2,h3⟩ | ⟨i,h1,h2,h3,h4,h5⟩ <;> rcases h' with ⟨g1,g2,g3⟩ | ⟨j,g1,g2,g3,g4,g5⟩
 ·omega
 ·exact absurd (h3 j g1) g3
 ·exact absurd (g3 i h1) h3
 ·have : i=j := by
   rcases Nat.lt_trichotomy i j with e | e | e
   ·exact absurd (g2 i e) h3
   ·exact e
   ·exact absurd (h2 j e) g3
  subst this
  exact ⟨h4.trans g4.symm,h5.trans g5.symm⟩
structure Fil (w:World) (rb b o n c:Nat) (B:Nat→Int) : Prop where
 f0 : w.cell? ⟨rb,0,.none⟩=some (.slice (some ⟨b,o,.none⟩) n c)
 row : Row w b o n B
 bd : ∀ i,0≤B i∧B i<256
 nc : n≤c∧c≤9223372036854775807
theorem Fil.below {w w':World} {rb b o n c:Nat} {B:Nat→Int} (h:Fil w rb b o n c B) (k:Below w.heap.size w w') : Fil w' rb b o n c B :=
 ⟨(k.cell (lt_of_cell h.f0)).trans h.f0,h.row.keep k,h.bd,h.nc⟩
theorem length_ok (rb n c:Nat) (fp:Option Addr) (w:World) (h:w.cell? ⟨rb,0,.none⟩=some (.slice fp n c)) (h1:n≤262144) (h2:64≤n) : Calls Tryz.prog 171 #[.pointer (some ⟨rb,0,.none⟩)] w fun e w' => e = .returned (.tuple #[])∧w'=w := by
 go_enter Tryz.func171,Tryz.ntmps171
 go_wp2
 exact ⟨rfl,_,results_none rfl _ _ _,rfl,rfl⟩
theorem length_up (rb n c:Nat) (fp:Option Addr) (w:World) (h:w.cell? ⟨rb,0,.none⟩=some (.slice fp n c)) (h1:262144<n) : Calls Tryz.prog 171 #[.pointer (some ⟨rb,0,.none⟩)] w fun e w' => Up w 262144 147 e w' := by
 go_enter Tryz.func171,Tryz.ntmps171
 go_wp2_with (go_at_call 175; refine (giveUp_any _ _ _).mono ?_; rintro e w0 ⟨v,rfl,hu⟩)
 exact ⟨rfl,v,rfl,hu⟩
theorem length_lo (rb n c:Nat) (fp:Option Addr) (w:World) (h:w.cell? ⟨rb,0,.none⟩=some (.slice fp n c)) (h1:n<64) : Calls Tryz.prog 171 #[.pointer (some ⟨rb,0,.none⟩)] w fun e w' => Up w n 140 e w' := by
 go_enter Tryz.func171,Tryz.ntmps171
 go_wp2_with (go_at_call 175; refine (giveUp_any _ _ _).mono ?_; rintro e w0 ⟨v,rfl,hu⟩)
 exact ⟨rfl,v,rfl,hu⟩
def hList : List Value := [.int .i64 0,.int .i64 4,.int .u64 1179403647,.int .i64 4,.int .i64 1,.int .u64 2,.int .i64 5,.int .i64 1,.int .u64 1,.int .i64 6,.int .i64 1,.int .u64 1,.int .i64 16,.int .i64 2,.int .u64 2,.int .i64 18,.int .i64 2,.int .u64 243,.int .i64 20,.int .i64 4,.int .u64 1,.int .i64 24,.int .i64 8,.int .u64 0,.int .i64 32,.int .i64 8,.int .u64 0,.int .i64 52,.int .i64 2,.int .u64 64,.int .i64 54,.int .i64 2,.int .u64 56,.int .i64 56,.int .i64 2,.int .u64 0]
theorem lt12 {i:Nat} (h:i<12) : i=0∨i=1∨i=2∨i=3∨i=4∨i=5∨i=6∨i=7∨i=8∨i=9∨i=10∨i=11 := by omega
theorem idx_head (i:Nat) (h:i<12) (w:World) : (Instr.index 205 (.agg hList.toArray) (.int .i64 i)).run Tryz.prog w = .ok (.agg #[.int .i64 (hOf i),.int .i64 (hBy i),.int .u64 (hFx i)]) w := by
 rcases lt12 h with rfl | rfl | rfl | rfl | rfl | rfl | rfl | rfl | rfl | rfl | rfl | rfl <;> kernel_rfl
theorem hList_at (i:Nat) (h:i<12) : hList[i*3]? = some (.int .i64 (hOf i))∧hList[i*3+1]? = some (.int .i64 (hBy i))∧hList[i*3+2]? = some (.int .u64 (hFx i)) := by
 rcases lt12 h with rfl | rfl | rfl | rfl | rfl | rfl | rfl | rfl | rfl | rfl | rfl | rfl <;> exact ⟨rfl,rfl,rfl⟩
theorem head_range (w:World) (h:Laid w) : w.rangeAt 0 0 hList := by
 intro j v hj
 have hl : j<36 := (List.getElem?_eq_some_iff.1 hj).1
 rw [Nat.zero_add]
 have e : j=j / 3*3∨j=j / 3*3+1∨j=j / 3*3+2 := by omega
 have h12 : j / 3<12 := by omega
 obtain ⟨l0,l1,l2⟩ := hList_at (j / 3) h12
 rcases e with e | e | e
 ·rw [e,l0] at hj
  injection hj with hj
  rw [e,← hj]
  exact h.h0 _ h12
 ·rw [e,l1] at hj
  injection hj with hj
  rw [e,← hj]
  exact h.h1 _ h12
 ·rw [e,l2] at hj
  injection hj with hj
  rw [e,← hj]
  exact h.h2 _ h12
theorem hOf_le (i:Nat) (h:i<12) : hOf i+hBy i≤64∧0<hBy i∧hBy i≤8 := by
 rcases lt12 h with rfl | rfl | rfl | rfl | rfl | rfl | rfl | rfl | rfl | rfl | rfl | rfl <;> decide
theorem hOf_16 (i:Nat) (h:i<12) : hOf i<16 ↔ i<4 := by
 rcases lt12 h with rfl | rfl | rfl | rfl | rfl | rfl | rfl | rfl | rfl | rfl | rfl | rfl <;> decide
theorem hFx_b (i:Nat) : 0≤hFx i∧hFx i<18446744073709551616 := by
 by_cases h : i<12
 ·rcases lt12 h with rfl | rfl | rfl | rfl | rfl | rfl | rfl | rfl | rfl | rfl | rfl | rfl <;> decide
 ·have : hFx i=0 := by
   unfold hFx
   rw [List.getD_eq_getElem?_getD,List.getElem?_eq_none (by simp; omega)]
   rfl
  omega
set_option maxHeartbeats 4000000 in
set_option maxRecDepth 100000 in
theorem head_any {w:World} {rb b o n c:Nat} {B:Nat→Int} (hL:Laid w) (hF:Fil w rb b o n c B) (h64:64≤n) : Calls Tryz.prog 172 #[.pointer (some ⟨rb,0,.none⟩)] w fun e w' => ∃ a r,Hd B a r∧((r=0∧e = .returned (.tuple #[])∧Below w.heap.size w w')∨(r≠0∧Up w a r e w')) := by
 have HFi : Hid (Fil w rb b o n c B) := hF
 have ix : ∀ i : Nat,i<12 → ∀ w,(Instr.index 205 (.agg hList.toArray) (.int .i64 i)).run Tryz.prog w = .ok (.agg #[.int .i64 (hOf i),.int .i64 (hBy i),.int .u64 (hFx i)]) w := fun i hi w => idx_head i hi w
 go_enter Tryz.func172,Tryz.ntmps172
 go_upto_region 0 with fail
 refine wp_region_lit ?_
 refine wpList_load_mid rfl 205 (.global 0) rfl 0 0 rfl hList _ (head_range w hL) Tryz.underlying205 rfl (by kernel_rfl) ?_
 clear hF hL
 have HX : Hid (∀ i : Nat,i<12 → ∀ w,(Instr.index 205 (.agg hList.toArray) (.int .i64 i)).run Tryz.prog w = .ok (.agg #[.int .i64 (hOf i),.int .i64 (hBy i),.int .u64 (hFx i)]) w) := ix
 clear ix
 generalize hList.toArray=hl at *
 simp only [X0,X1,X2,X3]
 go_wp2_with fail
 go_loopw [5] (fun a wr => ∃ i : Nat,i≤12∧a = .int .i64 i∧Hid ((∀ j,j<i→chk B j)∧Below w.heap.size w wr)) (fun a _ => (12 - intOf a).toNat)
 case atStart => exact ⟨0,by omega,rfl,fun j hj => by omega,Below.refl _ _⟩
 case round =>
  obtain ⟨i,hi,rfl,HS⟩ := hrel
  by_cases hlt : i<12
  ·have g0 : (i:Int)<12 := by omega
   have ix := HX.out i hlt
   have hle := hOf_le i hlt
   go_upto_region 3 with fail
   clear ix
   have HWx : Hid (Below w.heap.size w (wr.alloc (.cells #[.int .i64 (hOf i),.int .i64 (hBy i),.int .u64 (hFx i)] 204))) := HS.out.2.alloc HS.out.2.size _
   have q0 : (wr.alloc (.cells #[.int .i64 (hOf i),.int .i64 (hBy i),.int .u64 (hFx i)] 204)).cell? ⟨wr.heap.size,0,.none⟩=some (.int .i64 (hOf i)) := World.cell?_alloc_at _ _ _ _ rfl
   have q1 : (wr.alloc (.cells #[.int .i64 (hOf i),.int .i64 (hBy i),.int .u64 (hFx i)] 204)).cell? ⟨wr.heap.size,1,.none⟩=some (.int .i64 (hBy i)) := World.cell?_alloc_at _ _ _ _ rfl
   have q2 : (wr.alloc (.cells #[.int .i64 (hOf i),.int .i64 (hBy i),.int .u64 (hFx i)] 204)).cell? ⟨wr.heap.size,2,.none⟩=some (.int .u64 (hFx i)) := World.cell?_alloc_at _ _ _ _ rfl
   generalize (wr.alloc (.cells #[.int .i64 (hOf i),.int .i64 (hBy i),.int .u64 (hFx i)] 204))=Wx at *
   generalize wr.heap.size=x at *
   have q3 : Wx.cell? ⟨rb,0,.none⟩=some (.slice (some ⟨b,o,.none⟩) n c) := (HFi.out.below HWx.out).f0
   have c28 : ∀ W',Below Wx.heap.size Wx W'→Calls Tryz.prog 176 #[.agg #[.int .i64 (hOf i),.int .i64 (hBy i),.int .u64 (hFx i)],.slice (some ⟨b,o,.none⟩) n c] W' fun e w' => e = .returned (.int .u64 (num B (hOf i) (hBy i)))∧Below W'.heap.size W' w' := fun W' hb => in_any b o n c (hOf i) (hBy i) (hFx i) B W' (by omega) HFi.out.nc.1 HFi.out.nc.2 hle.2.1 hle.2.2 HFi.out.bd ((HFi.out.below HWx.out).row.keep hb)
   have hb0 : Below Wx.heap.size Wx Wx.drew := (Below.refl _ _).drew
   by_cases hz : hFx i=0
   ·have HN : Hid ((∀ j,j<i+1→chk B j)∧Below w.heap.size w Wx.drew) := ⟨fun j hj => by
     by_cases e : j=i
     ·subst e; exact .inl hz
     ·exact HS.out.1 j (by omega),HWx.out.drew⟩
    have k0 : Wx.drew.cell? ⟨x,0,.none⟩=some (.int .i64 (hOf i))∧Wx.drew.cell? ⟨x,1,.none⟩=some (.int .i64 (hBy i))∧Wx.drew.cell? ⟨x,2,.none⟩=some (.int .u64 (hFx i))∧Wx.drew.cell? ⟨rb,0,.none⟩=some (.slice (some ⟨b,o,.none⟩) n c) := ⟨q0,q1,q2,q3⟩
    go_upto_region 3 with fail
    refine wp_region_held_drew (S:=fun U2 => U2.cell? ⟨x,0,.none⟩=some (.int .i64 (hOf i))∧U2.cell? ⟨x,1,.none⟩=some (.int .i64 (hBy i))∧U2.cell? ⟨x,2,.none⟩=some (.int .u64 (hFx i))∧U2.cell? ⟨rb,0,.none⟩=some (.slice (some ⟨b,o,.none⟩) n c)) (by kernel_rfl) k0 (fun hHeld => ?_)
    refine aT 0 (.pointer (some ⟨x,2,.none⟩)) rfl ?_
    simp only [X0,X1,X2,X3,X4,X5,X6]
    refine aT 1 (.int .u64 (hFx i)) rfl ?_
    simp only [X0,X1,X2,X3,X4,X5,X6]
    refine aT 2 (.bool true) rfl ?_
    simp only [X0,X1,X2,X3,X4,X5,X6]
    refine aT 3 (.bool true) rfl ?_
    simp only [X0,X1,X2,X3,X4,X5,X6]
    refine aU 4 rfl ?_
    simp only [X0,X1,X2,X3,X4,X5,X6]
    refine aU 5 rfl ?_
    simp only [X0,X1,X2,X3,X4,X5,X6]
    refine aU 6 rfl ?_
    simp only [X0,X1,X2,X3,X4,X5,X6]
    refine aU 7 rfl ?_
    simp only [X0,X1,X2,X3,X4,X5,X6]
    refine aU 8 rfl ?_
    simp only [X0,X1,X2,X3,X4,X5,X6]
    refine aU 9 rfl ?_
    simp only [X0,X1,X2,X3,X4,X5,X6]
    refine aU 10 rfl ?_
    simp only [X0,X1,X2,X3,X4,X5,X6]
    refine aU 11 rfl ?_
    simp only [X0,X1,X2,X3,X4,X5,X6]
    refine aU 12 rfl ?_
    simp only [X0,X1,X2,X3,X4,X5,X6]
    refine aT 13 (.bool true) rfl ?_
    simp only [X0,X1,X2,X3,X4,X5,X6]
    refine wpAnyH_done (by kernel_rfl) ?_ _
    clear hHeld k0 q0 q1 q2 q3
    go_wp2_with fail
    exact ⟨⟨i+1,by omega,by simp,HN⟩,by simp [intOf]; omega⟩
   ·have hz' : (hFx i == 0)=false := by simpa using hz
    by_cases hm : num B (hOf i) (hBy i)=hFx i
    ·have HN : Hid (∀ j,j<i+1→chk B j) := fun j hj => by
      by_cases e : j=i
      ·subst e; exact .inr hm
      ·exact HS.out.1 j (by omega)
     have hm' : (num B (hOf i) (hBy i) == hFx i)=true := by simpa using hm
     have k0 : Wx.drew.cell? ⟨x,0,.none⟩=some (.int .i64 (hOf i))∧Wx.drew.cell? ⟨x,1,.none⟩=some (.int .i64 (hBy i))∧Wx.drew.cell? ⟨x,2,.none⟩=some (.int .u64 (hFx i))∧Wx.drew.cell? ⟨rb,0,.none⟩=some (.slice (some ⟨b,o,.none⟩) n c) := ⟨q0,q1,q2,q3⟩
     go_upto_region 3 with fail
     refine wp_region_held_drew (S:=fun U2 => U2.cell? ⟨x,0,.none⟩=some (.int .i64 (hOf i))∧U2.cell? ⟨x,1,.none⟩=some (.int .i64 (hBy i))∧U2.cell? ⟨x,2,.none⟩=some (.int .u64 (hFx i))∧U2.cell? ⟨rb,0,.none⟩=some (.slice (some ⟨b,o,.none⟩) n c)) (by kernel_rfl) k0 (fun hHeld => ?_)
     refine aT 0 (.pointer (some ⟨x,2,.none⟩)) rfl ?_
     simp only [X0,X1,X2,X3,X4,X5,X6]
     refine aT 1 (.int .u64 (hFx i)) rfl ?_
     simp only [X0,X1,X2,X3,X4,X5,X6]
     refine aT 2 (.bool false) rfl ?_
     simp only [X0,X1,X2,X3,X4,X5,X6]
     refine aT 3 (.bool false) rfl ?_
     simp only [X0,X1,X2,X3,X4,X5,X6]
     refine aT 4 (.agg #[.int .i64 (hOf i),.int .i64 (hBy i),.int .u64 (hFx i)]) rfl ?_
     simp only [X0,X1,X2,X3,X4,X5,X6]
     refine aT 5 (.pointer (some ⟨rb,0,.none⟩)) rfl ?_
     simp only [X0,X1,X2,X3,X4,X5,X6]
     refine aT 6 (.pointer (some ⟨rb,0,.none⟩)) rfl ?_
     simp only [X0,X1,X2,X3,X4,X5,X6]
     refine aT 7 (.pointer (some ⟨rb,0,.none⟩)) rfl ?_
     simp only [X0,X1,X2,X3,X4,X5,X6]
     refine aT 8 (.slice (some ⟨b,o,.none⟩) n c) rfl ?_
     simp only [X0,X1,X2,X3,X4,X5,X6]
     refine aT 10 (.pointer (some ⟨x,2,.none⟩)) rfl ?_
     simp only [X0,X1,X2,X3,X4,X5,X6]
     refine aT 11 (.int .u64 (hFx i)) rfl ?_
     simp only [X0,X1,X2,X3,X4,X5,X6]
     refine wpAnyH_ready (rs:=[9]) (by kernel_rfl) (by simp) ?_
     refine AllReadyH.cons rfl (fun K hK => ?_) AllReadyH.nil
     go_simp
     go_at_call 176
     refine (c28 _ (by assumption)).mono ?_
     rintro e W5 ⟨rfl,hb5⟩
     have HW5 : Hid (Below w.heap.size w W5∧Below Wx.drew.heap.size Wx.drew W5) := ⟨HWx.out.trans ((((Below.refl _ _).drew : Below Wx.heap.size Wx Wx.drew).trans hb5).mono HWx.out.size),hb5⟩
     have k1 : W5.cell? ⟨x,0,.none⟩=some (.int .i64 (hOf i))∧W5.cell? ⟨x,1,.none⟩=some (.int .i64 (hBy i))∧W5.cell? ⟨x,2,.none⟩=some (.int .u64 (hFx i))∧W5.cell? ⟨rb,0,.none⟩=some (.slice (some ⟨b,o,.none⟩) n c) := ⟨(hb5.cell (lt_of_cell k0.1)).trans k0.1,(hb5.cell (lt_of_cell k0.2.1)).trans k0.2.1,(hb5.cell (lt_of_cell k0.2.2.1)).trans k0.2.2.1,(hb5.cell (lt_of_cell k0.2.2.2)).trans k0.2.2.2⟩
     clear hb5
     refine hK.out _ _ k1 (fun hHeld => ?_)
     clear hK K
     try simp only [X0,X1,X2,X3,X4,X5,X6]
     refine aT 12 (.bool true) rfl ?_
     simp only [X0,X1,X2,X3,X4,X5,X6]
     refine aT 13 (.bool true) rfl ?_
     simp only [X0,X1,X2,X3,X4,X5,X6]
     refine wpAnyH_done (by kernel_rfl) ?_ _
     clear hHeld k0 k1 q0 q1 q2 q3
     go_wp2_with fail
     exact ⟨⟨i+1,by omega,by simp,HN,HW5.out.1⟩,by simp [intOf]; omega⟩
    ·have hm' : (num B (hOf i) (hBy i) == hFx i)=false := by simpa using hm
     have HD : Hid (¬ chk B i) := fun h => h.elim hz hm
     have h16 := hOf_16 i hlt
     have k0 : Wx.drew.cell? ⟨x,0,.none⟩=some (.int .i64 (hOf i))∧Wx.drew.cell? ⟨x,1,.none⟩=some (.int .i64 (hBy i))∧Wx.drew.cell? ⟨x,2,.none⟩=some (.int .u64 (hFx i))∧Wx.drew.cell? ⟨rb,0,.none⟩=some (.slice (some ⟨b,o,.none⟩) n c) := ⟨q0,q1,q2,q3⟩
     go_upto_region 3 with fail
     refine wp_region_held_drew (S:=fun U2 => U2.cell? ⟨x,0,.none⟩=some (.int .i64 (hOf i))∧U2.cell? ⟨x,1,.none⟩=some (.int .i64 (hBy i))∧U2.cell? ⟨x,2,.none⟩=some (.int .u64 (hFx i))∧U2.cell? ⟨rb,0,.none⟩=some (.slice (some ⟨b,o,.none⟩) n c)) (by kernel_rfl) k0 (fun hHeld => ?_)
     refine aT 0 (.pointer (some ⟨x,2,.none⟩)) rfl ?_
     simp only [X0,X1,X2,X3,X4,X5,X6]
     refine aT 1 (.int .u64 (hFx i)) rfl ?_
     simp only [X0,X1,X2,X3,X4,X5,X6]
     refine aT 2 (.bool false) rfl ?_
     simp only [X0,X1,X2,X3,X4,X5,X6]
     refine aT 3 (.bool false) rfl ?_
     simp only [X0,X1,X2,X3,X4,X5,X6]
     refine aT 4 (.agg #[.int .i64 (hOf i),.int .i64 (hBy i),.int .u64 (hFx i)]) rfl ?_
     simp only [X0,X1,X2,X3,X4,X5,X6]
     refine aT 5 (.pointer (some ⟨rb,0,.none⟩)) rfl ?_
     simp only [X0,X1,X2,X3,X4,X5,X6]
     refine aT 6 (.pointer (some ⟨rb,0,.none⟩)) rfl ?_
     simp only [X0,X1,X2,X3,X4,X5,X6]
     refine aT 7 (.pointer (some ⟨rb,0,.none⟩)) rfl ?_
     simp only [X0,X1,X2,X3,X4,X5,X6]
     refine aT 8 (.slice (some ⟨b,o,.none⟩) n c) rfl ?_
     simp only [X0,X1,X2,X3,X4,X5,X6]
     refine aT 10 (.pointer (some ⟨x,2,.none⟩)) rfl ?_
     simp only [X0,X1,X2,X3,X4,X5,X6]
     refine aT 11 (.int .u64 (hFx i)) rfl ?_
     simp only [X0,X1,X2,X3,X4,X5,X6]
     refine wpAnyH_ready (rs:=[9]) (by kernel_rfl) (by simp) ?_
     refine AllReadyH.cons rfl (fun K hK => ?_) AllReadyH.nil
     go_simp
     go_at_call 176
     refine (c28 _ (by assumption)).mono ?_
     rintro e W5 ⟨rfl,hb5⟩
     have HW5 : Hid (Below w.heap.size w W5∧Below Wx.drew.heap.size Wx.drew W5) := ⟨HWx.out.trans ((((Below.refl _ _).drew : Below Wx.heap.size Wx Wx.drew).trans hb5).mono HWx.out.size),hb5⟩
     have k1 : W5.cell? ⟨x,0,.none⟩=some (.int .i64 (hOf i))∧W5.cell? ⟨x,1,.none⟩=some (.int .i64 (hBy i))∧W5.cell? ⟨x,2,.none⟩=some (.int .u64 (hFx i))∧W5.cell? ⟨rb,0,.none⟩=some (.slice (some ⟨b,o,.none⟩) n c) := ⟨(hb5.cell (lt_of_cell k0.1)).trans k0.1,(hb5.cell (lt_of_cell k0.2.1)).trans k0.2.1,(hb5.cell (lt_of_cell k0.2.2.1)).trans k0.2.2.1,(hb5.cell (lt_of_cell k0.2.2.2)).trans k0.2.2.2⟩
     clear hb5
     refine hK.out _ _ k1 (fun hHeld => ?_)
     clear hK K
     try simp only [X0,X1,X2,X3,X4,X5,X6]
     refine aT 12 (.bool false) rfl ?_
     simp only [X0,X1,X2,X3,X4,X5,X6]
     refine aT 13 (.bool false) rfl ?_
     simp only [X0,X1,X2,X3,X4,X5,X6]
     refine wpAnyH_done (by kernel_rfl) ?_ _
     obtain ⟨k1a,k1b,k1c,k1d⟩ := k1
     clear hHeld k0 q0 q1 q2 q3
     by_cases h4 : i<4
     ·have g16 : (hOf i:Int)<16 := by have := h16.2 h4; omega
      go_wp2_with (go_at_call 175; refine (giveUp_any _ _ _).mono ?_; intro e w0 hu; obtain ⟨v,rfl,hu2⟩ := id hu)
      exact ⟨rfl,hOf i,141,.inr ⟨i,hlt,HS.out.1,HD.out,rfl,by rw [if_pos h4]⟩,.inr ⟨by decide,hu.back HW5.out.1⟩⟩
     ·have g16 : ¬ (hOf i:Int)<16 := by have := fun h => h4 (h16.1 h); omega
      go_wp2_with (go_at_call 175; refine (giveUp_any _ _ _).mono ?_; intro e w0 hu; obtain ⟨v,rfl,hu2⟩ := id hu)
      exact ⟨rfl,hOf i,142,.inr ⟨i,hlt,HS.out.1,HD.out,rfl,by rw [if_neg h4]⟩,.inr ⟨by decide,hu.back HW5.out.1⟩⟩
  ·have he : i=12 := by omega
   subst he
   go_wp2_with fail
   exact ⟨rfl,_,results_none rfl _ _ _,0,0,.inl ⟨rfl,rfl,HS.out.1⟩,.inl ⟨rfl,rfl,HS.out.2⟩⟩
end
end Go.Proofs.YtabnipbdbnmmpaaGreatDoor
