import Derived.Test.YtabnipbdbnmmpaaGreatDoorSh01
import Derived.Test.YtabnipbdbnmmpaaGreatDoorSh05
set_option linter.unusedVariables false
set_option linter.unusedSimpArgs false
namespace Go.Proofs.YtabnipbdbnmmpaaGreatDoor
section
open Go.RowKit
def sList : List Value := [.int .i64 0,.int .i64 4,.int .u64 1,.int .i64 4,.int .i64 4,.int .u64 0,.int .i64 8,.int .i64 8,.int .u64 0,.int .i64 16,.int .i64 8,.int .u64 0,.int .i64 24,.int .i64 8,.int .u64 0,.int .i64 32,.int .i64 8,.int .u64 0,.int .i64 40,.int .i64 8,.int .u64 0,.int .i64 48,.int .i64 8,.int .u64 4096]
theorem lt8 {i:Nat} (h:i<8) : i=0∨i=1∨i=2∨i=3∨i=4∨i=5∨i=6∨i=7 := by omega
theorem idx_seg (i:Nat) (h:i<8) (w:World) : (Instr.index 207 (.agg sList.toArray) (.int .i64 i)).run Tryz.prog w = .ok (.agg #[.int .i64 (sOf i),.int .i64 (sBy i),.int .u64 (sFx i)]) w := by
 rcases lt8 h with rfl | rfl | rfl | rfl | rfl | rfl | rfl | rfl <;> kernel_rfl
theorem sList_at (i:Nat) (h:i<8) : sList[i*3]? = some (.int .i64 (sOf i))∧sList[i*3+1]? = some (.int .i64 (sBy i))∧sList[i*3+2]? = some (.int .u64 (sFx i)) := by
 rcases lt8 h with rfl | rfl | rfl | rfl | rfl | rfl | rfl | rfl <;> exact ⟨rfl,rfl,rfl⟩
theorem seg_range (w:World) (h:Laid w) : w.rangeAt 1 0 sList := by
 intro j v hj
 have hl : j<24 := (List.getElem?_eq_some_iff.1 hj).1
 rw [Nat.zero_add]
 have e : j=j / 3*3∨j=j / 3*3+1∨j=j / 3*3+2 := by omega
 have h8 : j / 3<8 := by omega
 obtain ⟨l0,l1,l2⟩ := sList_at (j / 3) h8
 rcases e with e | e | e
 ·rw [e,l0] at hj
  injection hj with hj
  rw [e,← hj]
  exact h.s0 _ h8
 ·rw [e,l1] at hj
  injection hj with hj
  rw [e,← hj]
  exact h.s1 _ h8
 ·rw [e,l2] at hj
  injection hj with hj
  rw [e,← hj]
  exact h.s2 _ h8
theorem sOf_le' (i:Nat) (h:i<8) : sOf i+sBy i≤56∧0<sBy i∧sBy i≤8 := by
 rcases lt8 h with rfl | rfl | rfl | rfl | rfl | rfl | rfl | rfl <;> decide
theorem sFx_b' (i:Nat) (h:i<8) : 0≤sFx i∧sFx i<18446744073709551616 := by
 rcases lt8 h with rfl | rfl | rfl | rfl | rfl | rfl | rfl | rfl <;> decide
def sdP : Nat→Nat→Int
 | 0 => fun _ => 0
 | i+1 => putB (sdP i) (sOf i) (sBy i) (sFx i)
def segB (va fl mem at_:Int) (n:Nat) : Nat→Int := putB (putB (putB (putB (putB (putB (sdP 8) 4 4 fl) 8 8 at_) 16 8 va) 24 8 va) 32 8 n) 40 8 mem
def z56 : Array Value := (List.replicate 56 (.int .u8 0)).toArray
theorem z56_lit : (#[.int .u8 0,.int .u8 0,.int .u8 0,.int .u8 0,.int .u8 0,.int .u8 0,.int .u8 0,.int .u8 0,.int .u8 0,.int .u8 0,.int .u8 0,.int .u8 0,.int .u8 0,.int .u8 0,.int .u8 0,.int .u8 0,.int .u8 0,.int .u8 0,.int .u8 0,.int .u8 0,.int .u8 0,.int .u8 0,.int .u8 0,.int .u8 0,.int .u8 0,.int .u8 0,.int .u8 0,.int .u8 0,.int .u8 0,.int .u8 0,.int .u8 0,.int .u8 0,.int .u8 0,.int .u8 0,.int .u8 0,.int .u8 0,.int .u8 0,.int .u8 0,.int .u8 0,.int .u8 0,.int .u8 0,.int .u8 0,.int .u8 0,.int .u8 0,.int .u8 0,.int .u8 0,.int .u8 0,.int .u8 0,.int .u8 0,.int .u8 0,.int .u8 0,.int .u8 0,.int .u8 0,.int .u8 0,.int .u8 0,.int .u8 0] : Array Value)=z56 := rfl
theorem zer_row56 (u:World) (t:TypeId) : Row (u.alloc (.cells z56 t)) u.heap.size 0 56 (fun _ => 0) := by
 intro i hi
 rw [Nat.zero_add]
 exact (World.cell?_alloc_at _ _ _ _ rfl).trans (by unfold z56; rw [List.getElem?_toArray,List.getElem?_replicate,if_pos hi])
set_option maxHeartbeats 1600000 in
theorem segHeadW_any (va fl mem at_:Int) (q:Option Addr) (n c:Nat) (w:World) (hL:Laid w) (hva:0≤va∧va<18446744073709551616) (hfl:0≤fl∧fl<4294967296) (hmem:0≤mem∧mem<18446744073709551616) (hat:0≤at_ ∧ at_ < 18446744073709551616) (hc:n≤c∧c≤9223372036854775807) :
  Calls Tryz.prog 84 #[.agg #[.int .u64 va,.int .u32 fl,.slice q n c,.int .u64 mem],.int .u64 at_] w fun e w' => e = .returned (.agg (lst (segB va fl mem at_ n) 56).toArray)∧Below w.heap.size w w' := by
 have HX : Hid (∀ i : Nat,i<8 → ∀ w,(Instr.index 207 (.agg sList.toArray) (.int .i64 i)).run Tryz.prog w = .ok (.agg #[.int .i64 (sOf i),.int .i64 (sBy i),.int .u64 (sFx i)]) w) := fun i hi w => idx_seg i hi w
 go_enter Tryz.func84,Tryz.ntmps84
 go_upto_region 2 with fail
 rw [z56_lit]
 have hB3 : Below w.heap.size w (((w.alloc (.cells #[.int .u64 va,.int .u32 fl,.slice q n c,.int .u64 mem] 38)).alloc (.cells z56 154)).alloc (.cells z56 154)) := (((Below.refl _ _).alloc (Nat.le_refl _) _).alloc (by simp) _).alloc (by simp; omega) _
 have hL3 := hL.below hB3
 have hr3 : Row (((w.alloc (.cells #[.int .u64 va,.int .u32 fl,.slice q n c,.int .u64 mem] 38)).alloc (.cells z56 154)).alloc (.cells z56 154)) (w.heap.size+1+1) 0 56 (fun _ => 0) := by
  have := zer_row56 ((w.alloc (.cells #[.int .u64 va,.int .u32 fl,.slice q n c,.int .u64 mem] 38)).alloc (.cells z56 154)) 154
  simpa using this
 have hf3 : ∀ i,(((w.alloc (.cells #[.int .u64 va,.int .u32 fl,.slice q n c,.int .u64 mem] 38)).alloc (.cells z56 154)).alloc (.cells z56 154)).frozen? ⟨w.heap.size+1+1,i,.none⟩=false := fun i => by
  have := World.frozen?_alloc_new ((w.alloc (.cells #[.int .u64 va,.int .u32 fl,.slice q n c,.int .u64 mem] 38)).alloc (.cells z56 154)) z56 154 i
  simpa using this
 have hg3 : ∀ i,(((w.alloc (.cells #[.int .u64 va,.int .u32 fl,.slice q n c,.int .u64 mem] 38)).alloc (.cells z56 154)).alloc (.cells z56 154)).frozen? ⟨w.heap.size+1,i,.none⟩=false := fun i => by
  rw [frozen?_alloc_cells]
  simp
 have hq3 : Row (((w.alloc (.cells #[.int .u64 va,.int .u32 fl,.slice q n c,.int .u64 mem] 38)).alloc (.cells z56 154)).alloc (.cells z56 154)) (w.heap.size+1) 0 56 (fun _ => 0) := by
  have := zer_row56 (w.alloc (.cells #[.int .u64 va,.int .u32 fl,.slice q n c,.int .u64 mem] 38)) 154
  have k := this.keep ((Below.refl _ _).alloc (Nat.le_refl _) (.cells z56 154))
  simpa using k
 have a0 : (((w.alloc (.cells #[.int .u64 va,.int .u32 fl,.slice q n c,.int .u64 mem] 38)).alloc (.cells z56 154)).alloc (.cells z56 154)).cell? ⟨w.heap.size,0,.none⟩=some (.int .u64 va) := by go_simp
 have a1 : (((w.alloc (.cells #[.int .u64 va,.int .u32 fl,.slice q n c,.int .u64 mem] 38)).alloc (.cells z56 154)).alloc (.cells z56 154)).cell? ⟨w.heap.size,1,.none⟩=some (.int .u32 fl) := by go_simp
 have a2 : (((w.alloc (.cells #[.int .u64 va,.int .u32 fl,.slice q n c,.int .u64 mem] 38)).alloc (.cells z56 154)).alloc (.cells z56 154)).cell? ⟨w.heap.size,2,.none⟩=some (.slice q n c) := by go_simp
 have a3 : (((w.alloc (.cells #[.int .u64 va,.int .u32 fl,.slice q n c,.int .u64 mem] 38)).alloc (.cells z56 154)).alloc (.cells z56 154)).cell? ⟨w.heap.size,3,.none⟩=some (.int .u64 mem) := by go_simp
 have hz3 : (((w.alloc (.cells #[.int .u64 va,.int .u32 fl,.slice q n c,.int .u64 mem] 38)).alloc (.cells z56 154)).alloc (.cells z56 154)).heap.size=w.heap.size+1+1+1 := by simp
 have h2w : 2≤w.heap.size := lt_of_cell (hL.s0 0 (by omega))
 have HB3 : Hid (Below w.heap.size w (((w.alloc (.cells #[.int .u64 va,.int .u32 fl,.slice q n c,.int .u64 mem] 38)).alloc (.cells z56 154)).alloc (.cells z56 154))) := hB3
 clear hB3
 generalize (((w.alloc (.cells #[.int .u64 va,.int .u32 fl,.slice q n c,.int .u64 mem] 38)).alloc (.cells z56 154)).alloc (.cells z56 154))=W3 at *
 refine wp_region_lit ?_
 refine wpList_load_mid rfl 207 (.global 1) rfl 1 0 rfl sList _ (seg_range W3 hL3) Tryz.underlying207 rfl (by kernel_rfl) ?_
 generalize sList.toArray=hl at *
 simp only [X0,X1,X2,X3]
 have HL3 : Hid (Laid W3) := hL3
 have HR3 : Hid (Row W3 (w.heap.size+1) 0 56 (fun _ => 0)∧(∀ i,W3.frozen? ⟨w.heap.size+1,i,.none⟩=false)) := ⟨hq3,hg3⟩
 have HA0 : Hid (W3.cell? ⟨w.heap.size,0,.none⟩=some (.int .u64 va)) := a0
 have HA1 : Hid (W3.cell? ⟨w.heap.size,1,.none⟩=some (.int .u32 fl)) := a1
 have HA2 : Hid (W3.cell? ⟨w.heap.size,2,.none⟩=some (.slice q n c)) := a2
 have HA3 : Hid (W3.cell? ⟨w.heap.size,3,.none⟩=some (.int .u64 mem)) := a3
 have H0 : Hid (Wro W3 W3 (w.heap.size+1+1) 0 56 (sdP 0)) := ⟨hr3,hf3,fun _ _ _ => rfl,Nat.le_refl _,by omega,rfl,rfl,rfl⟩
 clear hL3 hq3 hg3 a0 a1 a2 a3 hr3 hf3 hL
 go_wp2_with fail
 go_loopw [9] (fun a wr => ∃ i : Nat,i≤8∧a = .int .i64 i∧Hid (Wro W3 wr (w.heap.size+1+1) 0 56 (sdP i))) (fun a _ => (8 - intOf a).toNat)
 case atStart => exact ⟨0,by omega,rfl,H0⟩
 case round =>
  obtain ⟨i,hi,rfl,HS⟩ := hrel
  by_cases hlt : i<8
  ·have g0 : (i:Int)<8 := by omega
   have ix := HX.out i hlt
   have hle := sOf_le' i hlt
   go_upto_region 5 with fail
   clear ix
   have HWx : Hid (Wro wr (wr.alloc (.cells #[.int .i64 (sOf i),.int .i64 (sBy i),.int .u64 (sFx i)] 204)) (w.heap.size+1+1) 0 56 (sdP i)) := Wro.alloc HS.out.row HS.out.fz (Nat.lt_of_lt_of_le HS.out.bl HS.out.sz) _
   have q0 : (wr.alloc (.cells #[.int .i64 (sOf i),.int .i64 (sBy i),.int .u64 (sFx i)] 204)).cell? ⟨wr.heap.size,0,.none⟩=some (.int .i64 (sOf i)) := World.cell?_alloc_at _ _ _ _ rfl
   have q1 : (wr.alloc (.cells #[.int .i64 (sOf i),.int .i64 (sBy i),.int .u64 (sFx i)] 204)).cell? ⟨wr.heap.size,1,.none⟩=some (.int .i64 (sBy i)) := World.cell?_alloc_at _ _ _ _ rfl
   have q2 : (wr.alloc (.cells #[.int .i64 (sOf i),.int .i64 (sBy i),.int .u64 (sFx i)] 204)).cell? ⟨wr.heap.size,2,.none⟩=some (.int .u64 (sFx i)) := World.cell?_alloc_at _ _ _ _ rfl
   have hxn : wr.heap.size≠w.heap.size+1+1 := Nat.ne_of_gt (Nat.lt_of_lt_of_le HS.out.bl HS.out.sz)
   generalize (wr.alloc (.cells #[.int .i64 (sOf i),.int .i64 (sBy i),.int .u64 (sFx i)] 204))=Wx at *
   generalize wr.heap.size=x at *
   have k0 : Wx.drew.cell? ⟨x,0,.none⟩=some (.int .i64 (sOf i))∧Wx.drew.cell? ⟨x,1,.none⟩=some (.int .i64 (sBy i))∧Wx.drew.cell? ⟨x,2,.none⟩=some (.int .u64 (sFx i)) := ⟨q0,q1,q2⟩
   have hfx := sFx_b' i hlt
   have c30 := put_any (w.heap.size+1+1) 0 56 56 (sOf i) (sBy i) (sFx i) (sFx i) (sdP i) Wx.drew (by omega) (by omega) (by omega) hle.2.1 hle.2.2 hfx HWx.out.row HWx.out.fz (Nat.lt_of_lt_of_le HWx.out.bl HWx.out.sz)
   refine wp_region_held_drew (S:=fun U2 => U2.cell? ⟨x,0,.none⟩=some (.int .i64 (sOf i))∧U2.cell? ⟨x,1,.none⟩=some (.int .i64 (sBy i))∧U2.cell? ⟨x,2,.none⟩=some (.int .u64 (sFx i))) (by kernel_rfl) k0 (fun hHeld => ?_)
   refine aT 0 (.agg #[.int .i64 (sOf i),.int .i64 (sBy i),.int .u64 (sFx i)]) rfl ?_
   simp only [X0,X1,X2,X3,X4,X5,X6]
   refine aT 1 (.slice (some ⟨w.heap.size+1+1,0,.none⟩) 56 56) rfl ?_
   simp only [X0,X1,X2,X3,X4,X5,X6]
   refine aT 2 (.pointer (some ⟨x,2,.none⟩)) rfl ?_
   simp only [X0,X1,X2,X3,X4,X5,X6]
   refine aT 3 (.int .u64 (sFx i)) rfl ?_
   simp only [X0,X1,X2,X3,X4,X5,X6]
   refine wpAnyH_ready (rs:=[4]) (by kernel_rfl) (by simp) ?_
   refine AllReadyH.cons rfl (fun K hK => ?_) AllReadyH.nil
   go_simp
   go_at_call 135
   refine c30.mono ?_
   rintro e W5 ⟨rfl,hw5⟩
   have k1 : W5.cell? ⟨x,0,.none⟩=some (.int .i64 (sOf i))∧W5.cell? ⟨x,1,.none⟩=some (.int .i64 (sBy i))∧W5.cell? ⟨x,2,.none⟩=some (.int .u64 (sFx i)) := ⟨hw5.cell hxn q0,hw5.cell hxn q1,hw5.cell hxn q2⟩
   have HN : Hid (Wro W3 W5 (w.heap.size+1+1) 0 56 (sdP (i+1))) := (HS.out.trans HWx.out).trans (Wro.trans (w1:=Wx.drew) ⟨HWx.out.row,HWx.out.fz,fun _ _ _ => rfl,Nat.le_refl _,Nat.lt_of_lt_of_le HWx.out.bl HWx.out.sz,rfl,rfl,rfl⟩ hw5)
   clear hw5
   refine hK.out _ _ k1 (fun hHeld => ?_)
   clear hK K
   try simp only [X0,X1,X2,X3,X4,X5,X6]
   refine wpAnyH_done (by kernel_rfl) ?_ _
   clear hHeld k0 k1 q0 q1 q2 c30
   go_wp2_with fail
   exact ⟨⟨i+1,by omega,by simp,HN⟩,by simp [intOf]; omega⟩
  ·have he : i=8 := by omega
   subst he
   go_upto_region 7 with fail
   have Hwr := HS
   clear HS
   have hwn : IntKind.u64.wrap (n:Int)=n := wraps_u64 _ (by omega) (by omega)
   have hwf : IntKind.u64.wrap fl=fl := wraps_u64 _ (by omega) (by omega)
   have HlL := HL3.out.wro Hwr.out (by omega) (by omega)
   have k0 : wr.drew.cell? ⟨1,3,.none⟩=some (.int .i64 4)∧wr.drew.cell? ⟨1,4,.none⟩=some (.int .i64 4)∧wr.drew.cell? ⟨1,5,.none⟩=some (.int .u64 0)∧wr.drew.cell? ⟨w.heap.size,1,.none⟩=some (.int .u32 fl) := ⟨HlL.s0 1 (by omega),HlL.s1 1 (by omega),HlL.s2 1 (by omega),Hwr.out.cell (by omega) HA1.out⟩
   clear HlL
   have c30 : Calls Tryz.prog 135 #[.agg #[.int .i64 4,.int .i64 4,.int .u64 0],.slice (some ⟨w.heap.size+1+1,0,.none⟩) 56 56,.int .u64 fl] wr.drew fun e w' => e = .returned (.tuple #[])∧Wro wr.drew w' (w.heap.size+1+1) 0 56 (putB (sdP 8) 4 4 fl) := put_any (w.heap.size+1+1) 0 56 56 4 4 0 fl (sdP 8) wr.drew (by omega) (by omega) (by omega) (by omega) (by omega) (by omega) Hwr.out.row Hwr.out.fz (Nat.lt_of_lt_of_le Hwr.out.bl Hwr.out.sz)
   refine wp_region_held_drew (S:=fun U2 => U2.cell? ⟨1,3,.none⟩=some (.int .i64 4)∧U2.cell? ⟨1,4,.none⟩=some (.int .i64 4)∧U2.cell? ⟨1,5,.none⟩=some (.int .u64 0)∧U2.cell? ⟨w.heap.size,1,.none⟩=some (.int .u32 fl)) (by kernel_rfl) k0 (fun hHeld => ?_)
   refine aT 0 (.pointer (some ⟨1,3,.none⟩)) rfl ?_
   simp only [X0,X1,X2,X3,X4,X5,X6]
   refine aT 1 (.agg #[.int .i64 4,.int .i64 4,.int .u64 0]) rfl ?_
   simp only [X0,X1,X2,X3,X4,X5,X6]
   refine aT 2 (.slice (some ⟨w.heap.size+1+1,0,.none⟩) 56 56) rfl ?_
   simp only [X0,X1,X2,X3,X4,X5,X6]
   refine aT 3 (.pointer (some ⟨w.heap.size,1,.none⟩)) rfl ?_
   simp only [X0,X1,X2,X3,X4,X5,X6]
   refine aT 4 (.int .u32 fl) rfl ?_
   simp only [X0,X1,X2,X3,X4,X5,X6]
   refine aT 5 (.int .u64 fl) rfl ?_
   simp only [X0,X1,X2,X3,X4,X5,X6]
   refine wpAnyH_ready (rs:=[6]) (by kernel_rfl) (by simp) ?_
   refine AllReadyH.cons rfl (fun K hK => ?_) AllReadyH.nil
   go_simp
   go_at_call 135
   refine c30.mono ?_
   rintro e V1 ⟨rfl,hw5⟩
   have k1 : V1.cell? ⟨1,3,.none⟩=some (.int .i64 4)∧V1.cell? ⟨1,4,.none⟩=some (.int .i64 4)∧V1.cell? ⟨1,5,.none⟩=some (.int .u64 0)∧V1.cell? ⟨w.heap.size,1,.none⟩=some (.int .u32 fl) := ⟨hw5.cell (by omega) (k0.1),hw5.cell (by omega) (k0.2.1),hw5.cell (by omega) (k0.2.2.1),hw5.cell (by omega) (k0.2.2.2)⟩
   have HV1 : Hid (Wro W3 V1 (w.heap.size+1+1) 0 56 (putB (sdP 8) 4 4 fl)) := Hwr.out.trans (Wro.trans (w1:=wr.drew) ⟨Hwr.out.row,Hwr.out.fz,fun _ _ _ => rfl,Nat.le_refl _,Nat.lt_of_lt_of_le Hwr.out.bl Hwr.out.sz,rfl,rfl,rfl⟩ hw5)
   clear hw5
   refine hK.out _ _ k1 (fun hHeld => ?_)
   clear hK K
   try simp only [X0,X1,X2,X3,X4,X5,X6]
   refine wpAnyH_done (by kernel_rfl) ?_ _
   clear hHeld k0 k1 c30 Hwr
   go_upto_region 8 with fail
   have HlL := HL3.out.wro HV1.out (by omega) (by omega)
   have k0 : V1.drew.cell? ⟨1,6,.none⟩=some (.int .i64 8)∧V1.drew.cell? ⟨1,7,.none⟩=some (.int .i64 8)∧V1.drew.cell? ⟨1,8,.none⟩=some (.int .u64 0) := ⟨HlL.s0 2 (by omega),HlL.s1 2 (by omega),HlL.s2 2 (by omega)⟩
   clear HlL
   have c30 : Calls Tryz.prog 135 #[.agg #[.int .i64 8,.int .i64 8,.int .u64 0],.slice (some ⟨w.heap.size+1+1,0,.none⟩) 56 56,.int .u64 at_] V1.drew fun e w' => e = .returned (.tuple #[])∧Wro V1.drew w' (w.heap.size+1+1) 0 56 (putB (putB (sdP 8) 4 4 fl) 8 8 at_) := put_any (w.heap.size+1+1) 0 56 56 8 8 0 at_ (putB (sdP 8) 4 4 fl) V1.drew (by omega) (by omega) (by omega) (by omega) (by omega) (by omega) HV1.out.row HV1.out.fz (Nat.lt_of_lt_of_le HV1.out.bl HV1.out.sz)
   refine wp_region_held_drew (S:=fun U2 => U2.cell? ⟨1,6,.none⟩=some (.int .i64 8)∧U2.cell? ⟨1,7,.none⟩=some (.int .i64 8)∧U2.cell? ⟨1,8,.none⟩=some (.int .u64 0)) (by kernel_rfl) k0 (fun hHeld => ?_)
   refine aT 0 (.pointer (some ⟨1,6,.none⟩)) rfl ?_
   simp only [X0,X1,X2,X3,X4,X5,X6]
   refine aT 1 (.agg #[.int .i64 8,.int .i64 8,.int .u64 0]) rfl ?_
   simp only [X0,X1,X2,X3,X4,X5,X6]
   refine aT 2 (.slice (some ⟨w.heap.size+1+1,0,.none⟩) 56 56) rfl ?_
   simp only [X0,X1,X2,X3,X4,X5,X6]
   refine aT 3 (.int .u64 at_) rfl ?_
   simp only [X0,X1,X2,X3,X4,X5,X6]
   refine wpAnyH_ready (rs:=[4]) (by kernel_rfl) (by simp) ?_
   refine AllReadyH.cons rfl (fun K hK => ?_) AllReadyH.nil
   go_simp
   go_at_call 135
   refine c30.mono ?_
   rintro e V2 ⟨rfl,hw5⟩
   have k1 : V2.cell? ⟨1,6,.none⟩=some (.int .i64 8)∧V2.cell? ⟨1,7,.none⟩=some (.int .i64 8)∧V2.cell? ⟨1,8,.none⟩=some (.int .u64 0) := ⟨hw5.cell (by omega) (k0.1),hw5.cell (by omega) (k0.2.1),hw5.cell (by omega) (k0.2.2)⟩
   have HV2 : Hid (Wro W3 V2 (w.heap.size+1+1) 0 56 (putB (putB (sdP 8) 4 4 fl) 8 8 at_)) := HV1.out.trans (Wro.trans (w1:=V1.drew) ⟨HV1.out.row,HV1.out.fz,fun _ _ _ => rfl,Nat.le_refl _,Nat.lt_of_lt_of_le HV1.out.bl HV1.out.sz,rfl,rfl,rfl⟩ hw5)
   clear hw5
   refine hK.out _ _ k1 (fun hHeld => ?_)
   clear hK K
   try simp only [X0,X1,X2,X3,X4,X5,X6]
   refine wpAnyH_done (by kernel_rfl) ?_ _
   clear hHeld k0 k1 c30 HV1
   go_upto_region 9 with fail
   have HlL := HL3.out.wro HV2.out (by omega) (by omega)
   have k0 : V2.drew.cell? ⟨1,9,.none⟩=some (.int .i64 16)∧V2.drew.cell? ⟨1,10,.none⟩=some (.int .i64 8)∧V2.drew.cell? ⟨1,11,.none⟩=some (.int .u64 0)∧V2.drew.cell? ⟨w.heap.size,0,.none⟩=some (.int .u64 va) := ⟨HlL.s0 3 (by omega),HlL.s1 3 (by omega),HlL.s2 3 (by omega),HV2.out.cell (by omega) HA0.out⟩
   clear HlL
   have c30 : Calls Tryz.prog 135 #[.agg #[.int .i64 16,.int .i64 8,.int .u64 0],.slice (some ⟨w.heap.size+1+1,0,.none⟩) 56 56,.int .u64 va] V2.drew fun e w' => e = .returned (.tuple #[])∧Wro V2.drew w' (w.heap.size+1+1) 0 56 (putB (putB (putB (sdP 8) 4 4 fl) 8 8 at_) 16 8 va) := put_any (w.heap.size+1+1) 0 56 56 16 8 0 va (putB (putB (sdP 8) 4 4 fl) 8 8 at_) V2.drew (by omega) (by omega) (by omega) (by omega) (by omega) (by omega) HV2.out.row HV2.out.fz (Nat.lt_of_lt_of_le HV2.out.bl HV2.out.sz)
   refine wp_region_held_drew (S:=fun U2 => U2.cell? ⟨1,9,.none⟩=some (.int .i64 16)∧U2.cell? ⟨1,10,.none⟩=some (.int .i64 8)∧U2.cell? ⟨1,11,.none⟩=some (.int .u64 0)∧U2.cell? ⟨w.heap.size,0,.none⟩=some (.int .u64 va)) (by kernel_rfl) k0 (fun hHeld => ?_)
   refine aT 0 (.pointer (some ⟨1,9,.none⟩)) rfl ?_
   simp only [X0,X1,X2,X3,X4,X5,X6]
   refine aT 1 (.agg #[.int .i64 16,.int .i64 8,.int .u64 0]) rfl ?_
   simp only [X0,X1,X2,X3,X4,X5,X6]
   refine aT 2 (.slice (some ⟨w.heap.size+1+1,0,.none⟩) 56 56) rfl ?_
   simp only [X0,X1,X2,X3,X4,X5,X6]
   refine aT 3 (.pointer (some ⟨w.heap.size,0,.none⟩)) rfl ?_
   simp only [X0,X1,X2,X3,X4,X5,X6]
   refine aT 4 (.int .u64 va) rfl ?_
   simp only [X0,X1,X2,X3,X4,X5,X6]
   refine wpAnyH_ready (rs:=[5]) (by kernel_rfl) (by simp) ?_
   refine AllReadyH.cons rfl (fun K hK => ?_) AllReadyH.nil
   go_simp
   go_at_call 135
   refine c30.mono ?_
   rintro e V3 ⟨rfl,hw5⟩
   have k1 : V3.cell? ⟨1,9,.none⟩=some (.int .i64 16)∧V3.cell? ⟨1,10,.none⟩=some (.int .i64 8)∧V3.cell? ⟨1,11,.none⟩=some (.int .u64 0)∧V3.cell? ⟨w.heap.size,0,.none⟩=some (.int .u64 va) := ⟨hw5.cell (by omega) (k0.1),hw5.cell (by omega) (k0.2.1),hw5.cell (by omega) (k0.2.2.1),hw5.cell (by omega) (k0.2.2.2)⟩
   have HV3 : Hid (Wro W3 V3 (w.heap.size+1+1) 0 56 (putB (putB (putB (sdP 8) 4 4 fl) 8 8 at_) 16 8 va)) := HV2.out.trans (Wro.trans (w1:=V2.drew) ⟨HV2.out.row,HV2.out.fz,fun _ _ _ => rfl,Nat.le_refl _,Nat.lt_of_lt_of_le HV2.out.bl HV2.out.sz,rfl,rfl,rfl⟩ hw5)
   clear hw5
   refine hK.out _ _ k1 (fun hHeld => ?_)
   clear hK K
   try simp only [X0,X1,X2,X3,X4,X5,X6]
   refine wpAnyH_done (by kernel_rfl) ?_ _
   clear hHeld k0 k1 c30 HV2
   go_upto_region 10 with fail
   have HlL := HL3.out.wro HV3.out (by omega) (by omega)
   have k0 : V3.drew.cell? ⟨1,12,.none⟩=some (.int .i64 24)∧V3.drew.cell? ⟨1,13,.none⟩=some (.int .i64 8)∧V3.drew.cell? ⟨1,14,.none⟩=some (.int .u64 0)∧V3.drew.cell? ⟨w.heap.size,0,.none⟩=some (.int .u64 va) := ⟨HlL.s0 4 (by omega),HlL.s1 4 (by omega),HlL.s2 4 (by omega),HV3.out.cell (by omega) HA0.out⟩
   clear HlL
   have c30 : Calls Tryz.prog 135 #[.agg #[.int .i64 24,.int .i64 8,.int .u64 0],.slice (some ⟨w.heap.size+1+1,0,.none⟩) 56 56,.int .u64 va] V3.drew fun e w' => e = .returned (.tuple #[])∧Wro V3.drew w' (w.heap.size+1+1) 0 56 (putB (putB (putB (putB (sdP 8) 4 4 fl) 8 8 at_) 16 8 va) 24 8 va) := put_any (w.heap.size+1+1) 0 56 56 24 8 0 va (putB (putB (putB (sdP 8) 4 4 fl) 8 8 at_) 16 8 va) V3.drew (by omega) (by omega) (by omega) (by omega) (by omega) (by omega) HV3.out.row HV3.out.fz (Nat.lt_of_lt_of_le HV3.out.bl HV3.out.sz)
   refine wp_region_held_drew (S:=fun U2 => U2.cell? ⟨1,12,.none⟩=some (.int .i64 24)∧U2.cell? ⟨1,13,.none⟩=some (.int .i64 8)∧U2.cell? ⟨1,14,.none⟩=some (.int .u64 0)∧U2.cell? ⟨w.heap.size,0,.none⟩=some (.int .u64 va)) (by kernel_rfl) k0 (fun hHeld => ?_)
   refine aT 0 (.pointer (some ⟨1,12,.none⟩)) rfl ?_
   simp only [X0,X1,X2,X3,X4,X5,X6]
   refine aT 1 (.agg #[.int .i64 24,.int .i64 8,.int .u64 0]) rfl ?_
   simp only [X0,X1,X2,X3,X4,X5,X6]
   refine aT 2 (.slice (some ⟨w.heap.size+1+1,0,.none⟩) 56 56) rfl ?_
   simp only [X0,X1,X2,X3,X4,X5,X6]
   refine aT 3 (.pointer (some ⟨w.heap.size,0,.none⟩)) rfl ?_
   simp only [X0,X1,X2,X3,X4,X5,X6]
   refine aT 4 (.int .u64 va) rfl ?_
   simp only [X0,X1,X2,X3,X4,X5,X6]
   refine wpAnyH_ready (rs:=[5]) (by kernel_rfl) (by simp) ?_
   refine AllReadyH.cons rfl (fun K hK => ?_) AllReadyH.nil
   go_simp
   go_at_call 135
   refine c30.mono ?_
   rintro e V4 ⟨rfl,hw5⟩
   have k1 : V4.cell? ⟨1,12,.none⟩=some (.int .i64 24)∧V4.cell? ⟨1,13,.none⟩=some (.int .i64 8)∧V4.cell? ⟨1,14,.none⟩=some (.int .u64 0)∧V4.cell? ⟨w.heap.size,0,.none⟩=some (.int .u64 va) := ⟨hw5.cell (by omega) (k0.1),hw5.cell (by omega) (k0.2.1),hw5.cell (by omega) (k0.2.2.1),hw5.cell (by omega) (k0.2.2.2)⟩
   have HV4 : Hid (Wro W3 V4 (w.heap.size+1+1) 0 56 (putB (putB (putB (putB (sdP 8) 4 4 fl) 8 8 at_) 16 8 va) 24 8 va)) := HV3.out.trans (Wro.trans (w1:=V3.drew) ⟨HV3.out.row,HV3.out.fz,fun _ _ _ => rfl,Nat.le_refl _,Nat.lt_of_lt_of_le HV3.out.bl HV3.out.sz,rfl,rfl,rfl⟩ hw5)
   clear hw5
   refine hK.out _ _ k1 (fun hHeld => ?_)
   clear hK K
   try simp only [X0,X1,X2,X3,X4,X5,X6]
   refine wpAnyH_done (by kernel_rfl) ?_ _
   clear hHeld k0 k1 c30 HV3
   go_upto_region 11 with fail
   have HlL := HL3.out.wro HV4.out (by omega) (by omega)
   have k0 : V4.drew.cell? ⟨1,15,.none⟩=some (.int .i64 32)∧V4.drew.cell? ⟨1,16,.none⟩=some (.int .i64 8)∧V4.drew.cell? ⟨1,17,.none⟩=some (.int .u64 0)∧V4.drew.cell? ⟨w.heap.size,2,.none⟩=some (.slice q n c) := ⟨HlL.s0 5 (by omega),HlL.s1 5 (by omega),HlL.s2 5 (by omega),HV4.out.cell (by omega) HA2.out⟩
   clear HlL
   have c30 : Calls Tryz.prog 135 #[.agg #[.int .i64 32,.int .i64 8,.int .u64 0],.slice (some ⟨w.heap.size+1+1,0,.none⟩) 56 56,.int .u64 n] V4.drew fun e w' => e = .returned (.tuple #[])∧Wro V4.drew w' (w.heap.size+1+1) 0 56 (putB (putB (putB (putB (putB (sdP 8) 4 4 fl) 8 8 at_) 16 8 va) 24 8 va) 32 8 n) := put_any (w.heap.size+1+1) 0 56 56 32 8 0 n (putB (putB (putB (putB (sdP 8) 4 4 fl) 8 8 at_) 16 8 va) 24 8 va) V4.drew (by omega) (by omega) (by omega) (by omega) (by omega) (by omega) HV4.out.row HV4.out.fz (Nat.lt_of_lt_of_le HV4.out.bl HV4.out.sz)
   refine wp_region_held_drew (S:=fun U2 => U2.cell? ⟨1,15,.none⟩=some (.int .i64 32)∧U2.cell? ⟨1,16,.none⟩=some (.int .i64 8)∧U2.cell? ⟨1,17,.none⟩=some (.int .u64 0)∧U2.cell? ⟨w.heap.size,2,.none⟩=some (.slice q n c)) (by kernel_rfl) k0 (fun hHeld => ?_)
   refine aT 0 (.pointer (some ⟨1,15,.none⟩)) rfl ?_
   simp only [X0,X1,X2,X3,X4,X5,X6]
   refine aT 1 (.agg #[.int .i64 32,.int .i64 8,.int .u64 0]) rfl ?_
   simp only [X0,X1,X2,X3,X4,X5,X6]
   refine aT 2 (.slice (some ⟨w.heap.size+1+1,0,.none⟩) 56 56) rfl ?_
   simp only [X0,X1,X2,X3,X4,X5,X6]
   refine aT 3 (.pointer (some ⟨w.heap.size,2,.none⟩)) rfl ?_
   simp only [X0,X1,X2,X3,X4,X5,X6]
   refine aT 4 (.slice q n c) rfl ?_
   simp only [X0,X1,X2,X3,X4,X5,X6]
   refine aT 5 (.int .i64 n) rfl ?_
   simp only [X0,X1,X2,X3,X4,X5,X6]
   refine aT 6 (.int .u64 n) rfl ?_
   simp only [X0,X1,X2,X3,X4,X5,X6]
   refine wpAnyH_ready (rs:=[7]) (by kernel_rfl) (by simp) ?_
   refine AllReadyH.cons rfl (fun K hK => ?_) AllReadyH.nil
   go_simp
   go_at_call 135
   refine c30.mono ?_
   rintro e V5 ⟨rfl,hw5⟩
   have k1 : V5.cell? ⟨1,15,.none⟩=some (.int .i64 32)∧V5.cell? ⟨1,16,.none⟩=some (.int .i64 8)∧V5.cell? ⟨1,17,.none⟩=some (.int .u64 0)∧V5.cell? ⟨w.heap.size,2,.none⟩=some (.slice q n c) := ⟨hw5.cell (by omega) (k0.1),hw5.cell (by omega) (k0.2.1),hw5.cell (by omega) (k0.2.2.1),hw5.cell (by omega) (k0.2.2.2)⟩
   have HV5 : Hid (Wro W3 V5 (w.heap.size+1+1) 0 56 (putB (putB (putB (putB (putB (sdP 8) 4 4 fl) 8 8 at_) 16 8 va) 24 8 va) 32 8 n)) := HV4.out.trans (Wro.trans (w1:=V4.drew) ⟨HV4.out.row,HV4.out.fz,fun _ _ _ => rfl,Nat.le_refl _,Nat.lt_of_lt_of_le HV4.out.bl HV4.out.sz,rfl,rfl,rfl⟩ hw5)
   clear hw5
   refine hK.out _ _ k1 (fun hHeld => ?_)
   clear hK K
   try simp only [X0,X1,X2,X3,X4,X5,X6]
   refine wpAnyH_done (by kernel_rfl) ?_ _
   clear hHeld k0 k1 c30 HV4
   go_upto_region 12 with fail
   have HlL := HL3.out.wro HV5.out (by omega) (by omega)
   have k0 : V5.drew.cell? ⟨1,18,.none⟩=some (.int .i64 40)∧V5.drew.cell? ⟨1,19,.none⟩=some (.int .i64 8)∧V5.drew.cell? ⟨1,20,.none⟩=some (.int .u64 0)∧V5.drew.cell? ⟨w.heap.size,3,.none⟩=some (.int .u64 mem) := ⟨HlL.s0 6 (by omega),HlL.s1 6 (by omega),HlL.s2 6 (by omega),HV5.out.cell (by omega) HA3.out⟩
   clear HlL
   have c30 : Calls Tryz.prog 135 #[.agg #[.int .i64 40,.int .i64 8,.int .u64 0],.slice (some ⟨w.heap.size+1+1,0,.none⟩) 56 56,.int .u64 mem] V5.drew fun e w' => e = .returned (.tuple #[])∧Wro V5.drew w' (w.heap.size+1+1) 0 56 (putB (putB (putB (putB (putB (putB (sdP 8) 4 4 fl) 8 8 at_) 16 8 va) 24 8 va) 32 8 n) 40 8 mem) := put_any (w.heap.size+1+1) 0 56 56 40 8 0 mem (putB (putB (putB (putB (putB (sdP 8) 4 4 fl) 8 8 at_) 16 8 va) 24 8 va) 32 8 n) V5.drew (by omega) (by omega) (by omega) (by omega) (by omega) (by omega) HV5.out.row HV5.out.fz (Nat.lt_of_lt_of_le HV5.out.bl HV5.out.sz)
   refine wp_region_held_drew (S:=fun U2 => U2.cell? ⟨1,18,.none⟩=some (.int .i64 40)∧U2.cell? ⟨1,19,.none⟩=some (.int .i64 8)∧U2.cell? ⟨1,20,.none⟩=some (.int .u64 0)∧U2.cell? ⟨w.heap.size,3,.none⟩=some (.int .u64 mem)) (by kernel_rfl) k0 (fun hHeld => ?_)
   refine aT 0 (.pointer (some ⟨1,18,.none⟩)) rfl ?_
   simp only [X0,X1,X2,X3,X4,X5,X6]
   refine aT 1 (.agg #[.int .i64 40,.int .i64 8,.int .u64 0]) rfl ?_
   simp only [X0,X1,X2,X3,X4,X5,X6]
   refine aT 2 (.slice (some ⟨w.heap.size+1+1,0,.none⟩) 56 56) rfl ?_
   simp only [X0,X1,X2,X3,X4,X5,X6]
   refine aT 3 (.pointer (some ⟨w.heap.size,3,.none⟩)) rfl ?_
   simp only [X0,X1,X2,X3,X4,X5,X6]
   refine aT 4 (.int .u64 mem) rfl ?_
   simp only [X0,X1,X2,X3,X4,X5,X6]
   refine wpAnyH_ready (rs:=[5]) (by kernel_rfl) (by simp) ?_
   refine AllReadyH.cons rfl (fun K hK => ?_) AllReadyH.nil
   go_simp
   go_at_call 135
   refine c30.mono ?_
   rintro e V6 ⟨rfl,hw5⟩
   have k1 : V6.cell? ⟨1,18,.none⟩=some (.int .i64 40)∧V6.cell? ⟨1,19,.none⟩=some (.int .i64 8)∧V6.cell? ⟨1,20,.none⟩=some (.int .u64 0)∧V6.cell? ⟨w.heap.size,3,.none⟩=some (.int .u64 mem) := ⟨hw5.cell (by omega) (k0.1),hw5.cell (by omega) (k0.2.1),hw5.cell (by omega) (k0.2.2.1),hw5.cell (by omega) (k0.2.2.2)⟩
   have HV6 : Hid (Wro W3 V6 (w.heap.size+1+1) 0 56 (putB (putB (putB (putB (putB (putB (sdP 8) 4 4 fl) 8 8 at_) 16 8 va) 24 8 va) 32 8 n) 40 8 mem)) := HV5.out.trans (Wro.trans (w1:=V5.drew) ⟨HV5.out.row,HV5.out.fz,fun _ _ _ => rfl,Nat.le_refl _,Nat.lt_of_lt_of_le HV5.out.bl HV5.out.sz,rfl,rfl,rfl⟩ hw5)
   clear hw5
   refine hK.out _ _ k1 (fun hHeld => ?_)
   clear hK K
   try simp only [X0,X1,X2,X3,X4,X5,X6]
   refine wpAnyH_done (by kernel_rfl) ?_ _
   clear hHeld k0 k1 c30 HV5
   go_upto_region 13 with fail
   have hrw : V6.rangeAt (w.heap.size+1+1) 0 (lst (segB va fl mem at_ n) 56) := row_range HV6.out.row
   have htw : V6.there (w.heap.size+1) 0 56 := fun j hj => ⟨by rw [HV6.out.cell (by omega) (HR3.out.1 j hj)]; rfl,by rw [HV6.out.frozen (by omega) (by omega)]; exact HR3.out.2 _⟩
   refine wp_region_lit ?_
   refine wpList_load_mid rfl 154 (.tmp 5) rfl (w.heap.size+1+1) 0 rfl (lst (segB va fl mem at_ n) 56) _ hrw Tryz.underlying154 rfl (by rw [lst_len]; kernel_rfl) ?_
   simp only [X0,X1,X2,X3]
   refine wpList_store_mid rfl 154 (.tmp 4) (.tmp 56) rfl (w.heap.size+1) 0 (lst (segB va fl mem at_ n) 56).toArray rfl rfl (by simpa [lst_len] using htw) (by rw [show (lst (segB va fl mem at_ n) 56).toArray.size=56 by simp [lst_len]]; kernel_rfl) (lst_one _ _) ?_
   have hr4 : (V6.setCells (w.heap.size+1) 0 (lst (segB va fl mem at_ n) 56).toArray.toList).rangeAt (w.heap.size+1) 0 (lst (segB va fl mem at_ n) 56) := World.rangeAt_setCells_same _ _ _ _ (by rw [lst_len]; exact htw)
   have HB4 : Hid (Below w.heap.size w (V6.setCells (w.heap.size+1) 0 (lst (segB va fl mem at_ n) 56).toArray.toList)) := (HB3.out.trans (HV6.out.below (by omega))).trans (below_setCells _ _ (by omega) _ _ _)
   generalize V6.setCells (w.heap.size+1) 0 (lst (segB va fl mem at_ n) 56).toArray.toList=U4 at *
   have hld := run_loadVar_mid (P:=Tryz.prog) U4 _ _ 154 _ _ hr4 Tryz.underlying154 rfl (by rw [lst_len]; kernel_rfl)
   clear hrw htw hr4
   generalize hgL : lst (segB va fl mem at_ n) 56=L at *
   go_wp2_with fail
   exact bodyPost_ret (v:=.agg L.toArray) (results_cell_any (p:=4) (ty:=154) rfl _ _ ⟨w.heap.size+1,0,none⟩ _ rfl hld) rfl ⟨by rw [hgL],HB4.out⟩
end
end Go.Proofs.YtabnipbdbnmmpaaGreatDoor
