import Derived.Test.YtabnipbdbnmmpaaGreatDoorSh01
import Derived.Test.YtabnipbdbnmmpaaGreatDoorSh04
set_option linter.unusedVariables false
set_option linter.unusedSimpArgs false
namespace Go.Proofs.YtabnipbdbnmmpaaGreatDoor
section
open Go.RowKit
def putB (H:Nat→Int) (of_ k:Nat) (v:Int) : Nat→Int := fun i => if of_ ≤ i∧i<of_ + k then v / 256 ^ (i - of_) % 256 else H i
theorem putB_zero (H:Nat→Int) (of_:Nat) (v:Int) : putB H of_ 0 v=H := by
 funext i
 unfold putB
 rw [if_neg (by omega)]
theorem putB_succ (H:Nat→Int) (of_ k:Nat) (v:Int) (i:Nat) : putB H of_ (k+1) v i=if i=of_ + k then v / 256 ^ k % 256 else putB H of_ k v i := by
 unfold putB
 by_cases e : i=of_ + k
 ·subst e
  rw [if_pos ⟨by omega,by omega⟩,if_pos rfl,show of_ + k - of_ = k by omega]
 ·rw [if_neg e]
  by_cases h : of_ ≤ i∧i<of_ + k
  ·rw [if_pos h,if_pos ⟨h.1,by omega⟩]
  ·rw [if_neg h,if_neg (by omega)]
structure Wro (w w':World) (b o n:Nat) (H:Nat→Int) : Prop where
 row : Row w' b o n H
 fz : ∀ i,w'.frozen? ⟨b,i,.none⟩=false
 ot : ∀ x,x≠b→x<w.heap.size→w'.heap[x]? = w.heap[x]?
 sz : w.heap.size≤w'.heap.size
 bl : b<w.heap.size
 os : w'.os=w.os
 tp : w'.tape=w.tape
 op : w'.output=w.output
theorem Wro.set {w w':World} {b o n of_ k:Nat} {H:Nat→Int} {v:Int} (h:Wro w w' b o n (putB H of_ k v)) (hk:of_ + k<n) : Wro w (w'.setCell ⟨b,o+(of_ + k),.none⟩ (.int .u8 (v / 256 ^ k % 256))) b o n (putB H of_ (k+1) v) := by
 refine ⟨fun i hi => ?_,fun i => (World.frozen?_setCell ..).trans (h.fz i),fun x hx hl => (Below.heap_setCell _ _ _ _ hx).trans (h.ot x hx hl),by rw [World.size_setCell]; exact h.sz,h.bl,h.os,h.tp,h.op⟩
 rw [putB_succ]
 by_cases e : i=of_ + k
 ·subst e
  rw [if_pos rfl]
  exact World.cell?_setCell_same' _ _ _ (by rw [h.row _ hi]; rfl)
 ·rw [if_neg e,World.cell?_setCell_other _ _ _ _ (by simp only [ne_eq,Addr.mk.injEq,and_true,not_and]; omega)]
  exact h.row i hi
theorem Wro.trans {w w1 w2:World} {b o n:Nat} {H H':Nat→Int} (h:Wro w w1 b o n H) (h':Wro w1 w2 b o n H') : Wro w w2 b o n H' :=
 ⟨h'.row,h'.fz,fun x hx hl => (h'.ot x hx (Nat.lt_of_lt_of_le hl h.sz)).trans (h.ot x hx hl),Nat.le_trans h.sz h'.sz,h.bl,h'.os.trans h.os,h'.tp.trans h.tp,h'.op.trans h.op⟩
theorem Wro.alloc {w:World} {b o n:Nat} {H:Nat→Int} (h:Row w b o n H) (hf:∀ i,w.frozen? ⟨b,i,.none⟩=false) (hb:b<w.heap.size) (ob:Obj) : Wro w (w.alloc ob) b o n H := by
 have k : Below w.heap.size w (w.alloc ob) := (Below.refl _ _).alloc (Nat.le_refl _) _
 exact ⟨h.keep k,fun i => (k.frozen (p:=⟨b,i,.none⟩) hb).trans (hf i),fun x _ hl => k.block x hl,k.size,hb,k.os,k.tape,k.output⟩
theorem shr_b (v:Int) (k:Nat) : v / 2 ^ (8*k) % 256=v / 256 ^ k % 256 := by
 have e : (2:Int) ^ (8*k)=256 ^ k := by rw [Int.pow_mul]; rfl
 rw [e]
set_option maxHeartbeats 1000000 in
theorem put_any (b o n c of_ by_:Nat) (fx v:Int) (H:Nat→Int) (w:World) (hn:of_ + by_ ≤ n) (hc:n≤c) (hcm:c≤9223372036854775807) (hk0:0<by_) (hk:by_ ≤ 8) (hv:0≤v∧v<18446744073709551616) (hr:Row w b o n H) (hf:∀ i,w.frozen? ⟨b,i,.none⟩=false) (hb:b<w.heap.size) :
  Calls Tryz.prog 135 #[.agg #[.int .i64 of_,.int .i64 by_,.int .u64 fx],.slice (some ⟨b,o,.none⟩) n c,.int .u64 v] w fun e w' => e = .returned (.tuple #[])∧Wro w w' b o n (putB H of_ by_ v) := by
 have c32 := fun w' => cut_any b o n c of_ by_ w' hk0 (by omega) hcm
 have HW : Hid (Wro w (w.alloc (.cells #[.int .i64 of_,.int .i64 by_,.int .u64 fx] 204)) b o n H) := Wro.alloc hr hf hb _
 clear hr hf
 go_enter Tryz.func135,Tryz.ntmps135
 go_wp2_with (first | (go_at_call 170; refine (c32 _).mono ?_; rintro e w1 ⟨rfl,rfl⟩) | fail)
 generalize (w.alloc (.cells #[.int .i64 of_,.int .i64 by_,.int .u64 fx] 204))=W1 at *
 go_loopw [16] (fun a wr => ∃ i : Nat,i≤by_ ∧ a = .int .i64 i∧Hid (Wro w wr b o n (putB H of_ i v))) (fun a _ => (by_ - intOf a).toNat)
 case atStart => exact ⟨0,by omega,rfl,by rw [putB_zero]; exact HW⟩
 case round =>
  obtain ⟨i,hi,rfl,HS⟩ := hrel
  by_cases hlt : i<by_
  ·have g0 : (i:Int)<by_ := by omega
   have a0 := HS.out.row (of_ + i) (by omega)
   rw [← Nat.add_assoc] at a0
   have f0 := HS.out.fz (o+of_ + i)
   have HN := HS.out.set (by omega)
   rw [← shr_b v,← Nat.add_assoc] at HN
   have HN2 : Hid (Wro w (wr.setCell ⟨b,o+of_ + i,.none⟩ (.int .u8 (v / 2 ^ (8*i) % 256))) b o n (putB H of_ (i+1) v)) := HN
   clear HN HS
   go_wp2_with fail
   exact ⟨⟨i+1,by omega,by simp,HN2⟩,by simp [intOf]; omega⟩
  ·have he : i=by_ := by omega
   have hn9 : ¬ ((i:Int)<by_) := by omega
   subst he
   go_wp2_with fail
   exact ⟨rfl,_,results_none rfl _ _ _,rfl,HS.out⟩
end
section
open Go.RowKit
theorem begin_any (p:Option Addr) (n c:Nat) (w:World) (hn:n≤100) (hc:n≤c∧c≤9223372036854775807) :
  Calls Tryz.prog 82 #[.slice p n c] w fun e w' => e = .returned (.int .u64 (64+56*n))∧w'=w := by
 go_enter Tryz.func82,Tryz.ntmps82
 go_wp2_with fail
 go_ret
 exact ⟨rfl,rfl⟩
def hdP : Nat→Nat→Int
 | 0 => fun _ => 0
 | i+1 => putB (hdP i) (hOf i) (hBy i) (hFx i)
def headB (en:Int) (n:Nat) : Nat→Int := putB (putB (putB (hdP 12) 24 8 en) 32 8 64) 56 2 n
theorem Laid.wro {w w':World} {b o n:Nat} {H:Nat→Int} (h:Laid w) (k:Wro w w' b o n H) (h0:b≠0) (h1:b≠1) : Laid w' := by
 have e : ∀ (x i:Nat) (v:Value),x≠b→w.cell? ⟨x,i,.none⟩=some v→w'.cell? ⟨x,i,.none⟩=some v := fun x i v hx hv => by
  rw [← hv]
  unfold World.cell?
  rw [k.ot x hx (lt_of_cell hv)]
 exact ⟨fun i hi => e 0 _ _ (Ne.symm h0) (h.h0 i hi),fun i hi => e 0 _ _ (Ne.symm h0) (h.h1 i hi),fun i hi => e 0 _ _ (Ne.symm h0) (h.h2 i hi),fun i hi => e 1 _ _ (Ne.symm h1) (h.s0 i hi),fun i hi => e 1 _ _ (Ne.symm h1) (h.s1 i hi),fun i hi => e 1 _ _ (Ne.symm h1) (h.s2 i hi)⟩
theorem Wro.cell {w w':World} {b o n:Nat} {H:Nat→Int} (k:Wro w w' b o n H) {x i:Nat} {v:Value} (hx:x≠b) (hv:w.cell? ⟨x,i,.none⟩=some v) : w'.cell? ⟨x,i,.none⟩=some v := by
 rw [← hv]
 unfold World.cell?
 rw [k.ot x hx (lt_of_cell hv)]
theorem Wro.frozen {w w':World} {b o n:Nat} {H:Nat→Int} (k:Wro w w' b o n H) {x i:Nat} (hx:x≠b) (hl:x<w.heap.size) : w'.frozen? ⟨x,i,.none⟩=w.frozen? ⟨x,i,.none⟩ := World.frozen?_of_block (w:=w) (k.ot x hx hl)
def z64 : Array Value := (List.replicate 64 (.int .u8 0)).toArray
theorem z64_lit : (#[.int .u8 0,.int .u8 0,.int .u8 0,.int .u8 0,.int .u8 0,.int .u8 0,.int .u8 0,.int .u8 0,.int .u8 0,.int .u8 0,.int .u8 0,.int .u8 0,.int .u8 0,.int .u8 0,.int .u8 0,.int .u8 0,.int .u8 0,.int .u8 0,.int .u8 0,.int .u8 0,.int .u8 0,.int .u8 0,.int .u8 0,.int .u8 0,.int .u8 0,.int .u8 0,.int .u8 0,.int .u8 0,.int .u8 0,.int .u8 0,.int .u8 0,.int .u8 0,.int .u8 0,.int .u8 0,.int .u8 0,.int .u8 0,.int .u8 0,.int .u8 0,.int .u8 0,.int .u8 0,.int .u8 0,.int .u8 0,.int .u8 0,.int .u8 0,.int .u8 0,.int .u8 0,.int .u8 0,.int .u8 0,.int .u8 0,.int .u8 0,.int .u8 0,.int .u8 0,.int .u8 0,.int .u8 0,.int .u8 0,.int .u8 0,.int .u8 0,.int .u8 0,.int .u8 0,.int .u8 0,.int .u8 0,.int .u8 0,.int .u8 0,.int .u8 0] : Array Value)=z64 := rfl
theorem zer_row (u:World) (t:TypeId) : Row (u.alloc (.cells z64 t)) u.heap.size 0 64 (fun _ => 0) := by
 intro i hi
 rw [Nat.zero_add]
 exact (World.cell?_alloc_at _ _ _ _ rfl).trans (by unfold z64; rw [List.getElem?_toArray,List.getElem?_replicate,if_pos hi])
theorem below_setCells (b B:Nat) (hB:B≤b) : ∀ (vs:List Value) (o:Nat) (w:World),Below B w (w.setCells b o vs)
 | [],_,_ => Below.refl _ _
 | v :: r,o,w => by
  rw [World.setCells]
  have e : Below B w (w.setCell ⟨b,o,none⟩ v) := ⟨rfl,rfl,rfl,by rw [World.size_setCell]; exact Nat.le_refl _,fun k hk => Below.heap_setCell _ _ _ _ (by show k≠b; omega)⟩
  exact e.trans (below_setCells b B hB r (o+1) _)
theorem Wro.below {w w':World} {b o n B:Nat} {H:Nat→Int} (k:Wro w w' b o n H) (hB:B≤b) : Below B w w' :=
 ⟨k.os,k.tp,k.op,k.sz,fun x hx => k.ot x (by omega) (Nat.lt_of_lt_of_le (Nat.lt_of_lt_of_le hx hB) (Nat.le_of_lt k.bl))⟩
theorem results_cell_any {P:Program} {fn:Func} {p:Tmp} {ty:TypeId} (h:fn.results = #[.cell p ty]) (tmps:Array Value) (w:World) (ad:Addr) (v:Value) (hp:tmps.getD p undef = .pointer (some ad)) (hl:(loadVar ty ad).run P w = .ok v w) : (results fn tmps).run P w = .ok v w := by
 have hp' : tmps[p]?.getD undef = .pointer (some ad) := by simpa using hp
 simp [results,h,hp',asAddr,hl]
def lst (H:Nat→Int) (n:Nat) : List Value := (List.range n).map fun i => .int .u8 (H i)
theorem lst_len (H:Nat→Int) (n:Nat) : (lst H n).length=n := by simp [lst]
theorem lst_one (H:Nat→Int) (n:Nat) : (lst H n).toArray.all (·.oneCell')=true := all_oneCell_toArray fun v hv => by
 obtain ⟨i,_,rfl⟩ := List.mem_map.1 hv
 rfl
theorem row_range {w:World} {b o n:Nat} {H:Nat→Int} (h:Row w b o n H) : w.rangeAt b o (lst H n) := by
 intro j v hv
 unfold lst at hv
 rw [List.getElem?_map] at hv
 obtain ⟨k,hk,rfl⟩ := Option.map_eq_some_iff.1 hv
 obtain ⟨h1,h2⟩ := List.getElem?_eq_some_iff.1 hk
 simp at h1 h2
 subst h2
 exact h j h1
set_option maxHeartbeats 1000000 in
theorem headW_any (en:Int) (q:Option Addr) (n c:Nat) (w:World) (hL:Laid w) (hn:n≤8) (he:0≤en∧en<18446744073709551616) (hc:n≤c∧c≤9223372036854775807) :
  Calls Tryz.prog 83 #[.agg #[.int .u64 en,.slice q n c]] w fun e w' => e = .returned (.agg (lst (headB en n) 64).toArray)∧Below w.heap.size w w' := by
 have ix : ∀ i : Nat,i<12 → ∀ w,(Instr.index 205 (.agg hList.toArray) (.int .i64 i)).run Tryz.prog w = .ok (.agg #[.int .i64 (hOf i),.int .i64 (hBy i),.int .u64 (hFx i)]) w := fun i hi w => idx_head i hi w
 have HX : Hid (∀ i : Nat,i<12 → ∀ w,(Instr.index 205 (.agg hList.toArray) (.int .i64 i)).run Tryz.prog w = .ok (.agg #[.int .i64 (hOf i),.int .i64 (hBy i),.int .u64 (hFx i)]) w) := ix
 clear ix
 go_enter Tryz.func83,Tryz.ntmps83
 go_upto_region 2 with fail
 rw [z64_lit]
 have hB3 : Below w.heap.size w (((w.alloc (.cells #[.int .u64 en,.slice q n c] 41)).alloc (.cells z64 152)).alloc (.cells z64 152)) := (((Below.refl _ _).alloc (Nat.le_refl _) _).alloc (by simp) _).alloc (by simp; omega) _
 have hL3 := hL.below hB3
 have hr3 : Row (((w.alloc (.cells #[.int .u64 en,.slice q n c] 41)).alloc (.cells z64 152)).alloc (.cells z64 152)) (w.heap.size+1+1) 0 64 (fun _ => 0) := by
  have := zer_row ((w.alloc (.cells #[.int .u64 en,.slice q n c] 41)).alloc (.cells z64 152)) 152
  simpa using this
 have hf3 : ∀ i,(((w.alloc (.cells #[.int .u64 en,.slice q n c] 41)).alloc (.cells z64 152)).alloc (.cells z64 152)).frozen? ⟨w.heap.size+1+1,i,.none⟩=false := fun i => by
  have := World.frozen?_alloc_new ((w.alloc (.cells #[.int .u64 en,.slice q n c] 41)).alloc (.cells z64 152)) z64 152 i
  simpa using this
 have hg3 : ∀ i,(((w.alloc (.cells #[.int .u64 en,.slice q n c] 41)).alloc (.cells z64 152)).alloc (.cells z64 152)).frozen? ⟨w.heap.size+1,i,.none⟩=false := fun i => by
  rw [frozen?_alloc_cells]
  simp
 have hq3 : Row (((w.alloc (.cells #[.int .u64 en,.slice q n c] 41)).alloc (.cells z64 152)).alloc (.cells z64 152)) (w.heap.size+1) 0 64 (fun _ => 0) := by
  have := zer_row (w.alloc (.cells #[.int .u64 en,.slice q n c] 41)) 152
  have k := this.keep ((Below.refl _ _).alloc (Nat.le_refl _) (.cells z64 152))
  simpa using k
 have he3 : (((w.alloc (.cells #[.int .u64 en,.slice q n c] 41)).alloc (.cells z64 152)).alloc (.cells z64 152)).cell? ⟨w.heap.size,0,.none⟩=some (.int .u64 en) := by go_simp
 have hs3 : (((w.alloc (.cells #[.int .u64 en,.slice q n c] 41)).alloc (.cells z64 152)).alloc (.cells z64 152)).cell? ⟨w.heap.size,1,.none⟩=some (.slice q n c) := by go_simp
 have hz3 : (((w.alloc (.cells #[.int .u64 en,.slice q n c] 41)).alloc (.cells z64 152)).alloc (.cells z64 152)).heap.size=w.heap.size+1+1+1 := by simp
 have h2w : 2≤w.heap.size := lt_of_cell (hL.s0 0 (by omega))
 have HB3 : Hid (Below w.heap.size w (((w.alloc (.cells #[.int .u64 en,.slice q n c] 41)).alloc (.cells z64 152)).alloc (.cells z64 152))) := hB3
 clear hB3
 generalize (((w.alloc (.cells #[.int .u64 en,.slice q n c] 41)).alloc (.cells z64 152)).alloc (.cells z64 152))=W3 at *
 refine wp_region_lit ?_
 refine wpList_load_mid rfl 205 (.global 0) rfl 0 0 rfl hList _ (head_range W3 hL3) Tryz.underlying205 rfl (by kernel_rfl) ?_
 generalize hList.toArray=hl at *
 simp only [X0,X1,X2,X3]
 have HL3 : Hid (Laid W3) := hL3
 have HR3 : Hid (Row W3 (w.heap.size+1) 0 64 (fun _ => 0)∧(∀ i,W3.frozen? ⟨w.heap.size+1,i,.none⟩=false)∧W3.cell? ⟨w.heap.size,0,.none⟩=some (.int .u64 en)∧W3.cell? ⟨w.heap.size,1,.none⟩=some (.slice q n c)) := ⟨hq3,hg3,he3,hs3⟩
 have H0 : Hid (Wro W3 W3 (w.heap.size+1+1) 0 64 (hdP 0)) := ⟨hr3,hf3,fun _ _ _ => rfl,Nat.le_refl _,by omega,rfl,rfl,rfl⟩
 clear hL3 hq3 hg3 he3 hs3 hr3 hf3 hL
 go_wp2_with fail
 go_loopw [7] (fun a wr => ∃ i : Nat,i≤12∧a = .int .i64 i∧Hid (Wro W3 wr (w.heap.size+1+1) 0 64 (hdP i))) (fun a _ => (12 - intOf a).toNat)
 case atStart => exact ⟨0,by omega,rfl,H0⟩
 case round =>
  obtain ⟨i,hi,rfl,HS⟩ := hrel
  by_cases hlt : i<12
  ·have g0 : (i:Int)<12 := by omega
   have ix := HX.out i hlt
   have hle := hOf_le i hlt
   go_upto_region 5 with fail
   clear ix
   have HWx : Hid (Wro wr (wr.alloc (.cells #[.int .i64 (hOf i),.int .i64 (hBy i),.int .u64 (hFx i)] 204)) (w.heap.size+1+1) 0 64 (hdP i)) := Wro.alloc HS.out.row HS.out.fz (Nat.lt_of_lt_of_le HS.out.bl HS.out.sz) _
   have hxs : wr.heap.size<(wr.alloc (.cells #[.int .i64 (hOf i),.int .i64 (hBy i),.int .u64 (hFx i)] 204)).heap.size := by simp
   have q0 : (wr.alloc (.cells #[.int .i64 (hOf i),.int .i64 (hBy i),.int .u64 (hFx i)] 204)).cell? ⟨wr.heap.size,0,.none⟩=some (.int .i64 (hOf i)) := World.cell?_alloc_at _ _ _ _ rfl
   have q1 : (wr.alloc (.cells #[.int .i64 (hOf i),.int .i64 (hBy i),.int .u64 (hFx i)] 204)).cell? ⟨wr.heap.size,1,.none⟩=some (.int .i64 (hBy i)) := World.cell?_alloc_at _ _ _ _ rfl
   have q2 : (wr.alloc (.cells #[.int .i64 (hOf i),.int .i64 (hBy i),.int .u64 (hFx i)] 204)).cell? ⟨wr.heap.size,2,.none⟩=some (.int .u64 (hFx i)) := World.cell?_alloc_at _ _ _ _ rfl
   have hxn : wr.heap.size≠w.heap.size+1+1 := Nat.ne_of_gt (Nat.lt_of_lt_of_le HS.out.bl HS.out.sz)
   generalize (wr.alloc (.cells #[.int .i64 (hOf i),.int .i64 (hBy i),.int .u64 (hFx i)] 204))=Wx at *
   generalize wr.heap.size=x at *
   have k0 : Wx.drew.cell? ⟨x,0,.none⟩=some (.int .i64 (hOf i))∧Wx.drew.cell? ⟨x,1,.none⟩=some (.int .i64 (hBy i))∧Wx.drew.cell? ⟨x,2,.none⟩=some (.int .u64 (hFx i)) := ⟨q0,q1,q2⟩
   have hfx := hFx_b i
   have c30 := put_any (w.heap.size+1+1) 0 64 64 (hOf i) (hBy i) (hFx i) (hFx i) (hdP i) Wx.drew (by omega) (by omega) (by omega) hle.2.1 hle.2.2 hfx HWx.out.row HWx.out.fz (Nat.lt_of_lt_of_le HWx.out.bl HWx.out.sz)
   refine wp_region_held_drew (S:=fun U2 => U2.cell? ⟨x,0,.none⟩=some (.int .i64 (hOf i))∧U2.cell? ⟨x,1,.none⟩=some (.int .i64 (hBy i))∧U2.cell? ⟨x,2,.none⟩=some (.int .u64 (hFx i))) (by kernel_rfl) k0 (fun hHeld => ?_)
   refine aT 0 (.agg #[.int .i64 (hOf i),.int .i64 (hBy i),.int .u64 (hFx i)]) rfl ?_
   simp only [X0,X1,X2,X3,X4,X5,X6]
   refine aT 1 (.slice (some ⟨w.heap.size+1+1,0,.none⟩) 64 64) rfl ?_
   simp only [X0,X1,X2,X3,X4,X5,X6]
   refine aT 2 (.pointer (some ⟨x,2,.none⟩)) rfl ?_
   simp only [X0,X1,X2,X3,X4,X5,X6]
   refine aT 3 (.int .u64 (hFx i)) rfl ?_
   simp only [X0,X1,X2,X3,X4,X5,X6]
   refine wpAnyH_ready (rs:=[4]) (by kernel_rfl) (by simp) ?_
   refine AllReadyH.cons rfl (fun K hK => ?_) AllReadyH.nil
   go_simp
   go_at_call 135
   refine c30.mono ?_
   rintro e W5 ⟨rfl,hw5⟩
   have k1 : W5.cell? ⟨x,0,.none⟩=some (.int .i64 (hOf i))∧W5.cell? ⟨x,1,.none⟩=some (.int .i64 (hBy i))∧W5.cell? ⟨x,2,.none⟩=some (.int .u64 (hFx i)) := ⟨hw5.cell hxn q0,hw5.cell hxn q1,hw5.cell hxn q2⟩
   have HN : Hid (Wro W3 W5 (w.heap.size+1+1) 0 64 (hdP (i+1))) := (HS.out.trans HWx.out).trans (Wro.trans (w1:=Wx.drew) ⟨HWx.out.row,HWx.out.fz,fun _ _ _ => rfl,Nat.le_refl _,Nat.lt_of_lt_of_le HWx.out.bl HWx.out.sz,rfl,rfl,rfl⟩ hw5)
   clear hw5
   refine hK.out _ _ k1 (fun hHeld => ?_)
   clear hK K
   try simp only [X0,X1,X2,X3,X4,X5,X6]
   refine wpAnyH_done (by kernel_rfl) ?_ _
   clear hHeld k0 k1 q0 q1 q2 c30
   go_wp2_with fail
   exact ⟨⟨i+1,by omega,by simp,HN⟩,by simp [intOf]; omega⟩
  ·have he : i=12 := by omega
   subst he
   go_upto_region 7 with fail
   have Hwr := HS
   have hwn : IntKind.u64.wrap (n:Int)=n := wraps_u64 _ (by omega) (by omega)
   have HwrL := HL3.out.wro Hwr.out (by omega) (by omega)
   have k0 : wr.drew.cell? ⟨0,21,.none⟩=some (.int .i64 24)∧wr.drew.cell? ⟨0,22,.none⟩=some (.int .i64 8)∧wr.drew.cell? ⟨0,23,.none⟩=some (.int .u64 0)∧wr.drew.cell? ⟨w.heap.size,0,.none⟩=some (.int .u64 en) := ⟨HwrL.h0 7 (by omega),HwrL.h1 7 (by omega),HwrL.h2 7 (by omega),Hwr.out.cell (by omega) HR3.out.2.2.1⟩
   clear HwrL
   have c30 : Calls Tryz.prog 135 #[.agg #[.int .i64 24,.int .i64 8,.int .u64 0],.slice (some ⟨w.heap.size+1+1,0,.none⟩) 64 64,.int .u64 en] wr.drew fun e w' => e = .returned (.tuple #[])∧Wro wr.drew w' (w.heap.size+1+1) 0 64 (putB (hdP 12) 24 8 en) := put_any (w.heap.size+1+1) 0 64 64 24 8 0 en (hdP 12) wr.drew (by omega) (by omega) (by omega) (by omega) (by omega) (by omega) Hwr.out.row Hwr.out.fz (Nat.lt_of_lt_of_le Hwr.out.bl Hwr.out.sz)
   refine wp_region_held_drew (S:=fun U2 => U2.cell? ⟨0,21,.none⟩=some (.int .i64 24)∧U2.cell? ⟨0,22,.none⟩=some (.int .i64 8)∧U2.cell? ⟨0,23,.none⟩=some (.int .u64 0)∧U2.cell? ⟨w.heap.size,0,.none⟩=some (.int .u64 en)) (by kernel_rfl) k0 (fun hHeld => ?_)
   refine aT 0 (.pointer (some ⟨0,21,.none⟩)) rfl ?_
   simp only [X0,X1,X2,X3,X4,X5,X6]
   refine aT 1 (.agg #[.int .i64 24,.int .i64 8,.int .u64 0]) rfl ?_
   simp only [X0,X1,X2,X3,X4,X5,X6]
   refine aT 2 (.slice (some ⟨w.heap.size+1+1,0,.none⟩) 64 64) rfl ?_
   simp only [X0,X1,X2,X3,X4,X5,X6]
   refine aT 3 (.pointer (some ⟨w.heap.size,0,.none⟩)) rfl ?_
   simp only [X0,X1,X2,X3,X4,X5,X6]
   refine aT 4 (.int .u64 en) rfl ?_
   simp only [X0,X1,X2,X3,X4,X5,X6]
   refine wpAnyH_ready (rs:=[5]) (by kernel_rfl) (by simp) ?_
   refine AllReadyH.cons rfl (fun K hK => ?_) AllReadyH.nil
   go_simp
   go_at_call 135
   refine c30.mono ?_
   rintro e V1 ⟨rfl,hw5⟩
   have k1 : V1.cell? ⟨0,21,.none⟩=some (.int .i64 24)∧V1.cell? ⟨0,22,.none⟩=some (.int .i64 8)∧V1.cell? ⟨0,23,.none⟩=some (.int .u64 0)∧V1.cell? ⟨w.heap.size,0,.none⟩=some (.int .u64 en) := ⟨hw5.cell (by omega) (k0.1),hw5.cell (by omega) (k0.2.1),hw5.cell (by omega) (k0.2.2.1),hw5.cell (by omega) (k0.2.2.2)⟩
   have HV1 : Hid (Wro W3 V1 (w.heap.size+1+1) 0 64 (putB (hdP 12) 24 8 en)) := Hwr.out.trans (Wro.trans (w1:=wr.drew) ⟨Hwr.out.row,Hwr.out.fz,fun _ _ _ => rfl,Nat.le_refl _,Nat.lt_of_lt_of_le Hwr.out.bl Hwr.out.sz,rfl,rfl,rfl⟩ hw5)
   clear hw5
   refine hK.out _ _ k1 (fun hHeld => ?_)
   clear hK K
   try simp only [X0,X1,X2,X3,X4,X5,X6]
   refine wpAnyH_done (by kernel_rfl) ?_ _
   clear hHeld k0 k1 c30 Hwr
   clear HS
   go_upto_region 8 with fail
   have HV1L := HL3.out.wro HV1.out (by omega) (by omega)
   have k0 : V1.drew.cell? ⟨0,24,.none⟩=some (.int .i64 32)∧V1.drew.cell? ⟨0,25,.none⟩=some (.int .i64 8)∧V1.drew.cell? ⟨0,26,.none⟩=some (.int .u64 0) := ⟨HV1L.h0 8 (by omega),HV1L.h1 8 (by omega),HV1L.h2 8 (by omega)⟩
   clear HV1L
   have c30 : Calls Tryz.prog 135 #[.agg #[.int .i64 32,.int .i64 8,.int .u64 0],.slice (some ⟨w.heap.size+1+1,0,.none⟩) 64 64,.int .u64 64] V1.drew fun e w' => e = .returned (.tuple #[])∧Wro V1.drew w' (w.heap.size+1+1) 0 64 (putB (putB (hdP 12) 24 8 en) 32 8 64) := put_any (w.heap.size+1+1) 0 64 64 32 8 0 64 (putB (hdP 12) 24 8 en) V1.drew (by omega) (by omega) (by omega) (by omega) (by omega) (by omega) HV1.out.row HV1.out.fz (Nat.lt_of_lt_of_le HV1.out.bl HV1.out.sz)
   refine wp_region_held_drew (S:=fun U2 => U2.cell? ⟨0,24,.none⟩=some (.int .i64 32)∧U2.cell? ⟨0,25,.none⟩=some (.int .i64 8)∧U2.cell? ⟨0,26,.none⟩=some (.int .u64 0)) (by kernel_rfl) k0 (fun hHeld => ?_)
   refine aT 0 (.pointer (some ⟨0,24,.none⟩)) rfl ?_
   simp only [X0,X1,X2,X3,X4,X5,X6]
   refine aT 1 (.agg #[.int .i64 32,.int .i64 8,.int .u64 0]) rfl ?_
   simp only [X0,X1,X2,X3,X4,X5,X6]
   refine aT 2 (.slice (some ⟨w.heap.size+1+1,0,.none⟩) 64 64) rfl ?_
   simp only [X0,X1,X2,X3,X4,X5,X6]
   refine wpAnyH_ready (rs:=[3]) (by kernel_rfl) (by simp) ?_
   refine AllReadyH.cons rfl (fun K hK => ?_) AllReadyH.nil
   go_simp
   go_at_call 135
   refine c30.mono ?_
   rintro e V2 ⟨rfl,hw5⟩
   have k1 : V2.cell? ⟨0,24,.none⟩=some (.int .i64 32)∧V2.cell? ⟨0,25,.none⟩=some (.int .i64 8)∧V2.cell? ⟨0,26,.none⟩=some (.int .u64 0) := ⟨hw5.cell (by omega) (k0.1),hw5.cell (by omega) (k0.2.1),hw5.cell (by omega) (k0.2.2)⟩
   have HV2 : Hid (Wro W3 V2 (w.heap.size+1+1) 0 64 (putB (putB (hdP 12) 24 8 en) 32 8 64)) := HV1.out.trans (Wro.trans (w1:=V1.drew) ⟨HV1.out.row,HV1.out.fz,fun _ _ _ => rfl,Nat.le_refl _,Nat.lt_of_lt_of_le HV1.out.bl HV1.out.sz,rfl,rfl,rfl⟩ hw5)
   clear hw5
   refine hK.out _ _ k1 (fun hHeld => ?_)
   clear hK K
   try simp only [X0,X1,X2,X3,X4,X5,X6]
   refine wpAnyH_done (by kernel_rfl) ?_ _
   clear hHeld k0 k1 c30 HV1
   go_upto_region 9 with fail
   have HV2L := HL3.out.wro HV2.out (by omega) (by omega)
   have k0 : V2.drew.cell? ⟨0,33,.none⟩=some (.int .i64 56)∧V2.drew.cell? ⟨0,34,.none⟩=some (.int .i64 2)∧V2.drew.cell? ⟨0,35,.none⟩=some (.int .u64 0)∧V2.drew.cell? ⟨w.heap.size,1,.none⟩=some (.slice q n c) := ⟨HV2L.h0 11 (by omega),HV2L.h1 11 (by omega),HV2L.h2 11 (by omega),HV2.out.cell (by omega) HR3.out.2.2.2⟩
   clear HV2L
   have c30 : Calls Tryz.prog 135 #[.agg #[.int .i64 56,.int .i64 2,.int .u64 0],.slice (some ⟨w.heap.size+1+1,0,.none⟩) 64 64,.int .u64 n] V2.drew fun e w' => e = .returned (.tuple #[])∧Wro V2.drew w' (w.heap.size+1+1) 0 64 (putB (putB (putB (hdP 12) 24 8 en) 32 8 64) 56 2 n) := put_any (w.heap.size+1+1) 0 64 64 56 2 0 n (putB (putB (hdP 12) 24 8 en) 32 8 64) V2.drew (by omega) (by omega) (by omega) (by omega) (by omega) (by omega) HV2.out.row HV2.out.fz (Nat.lt_of_lt_of_le HV2.out.bl HV2.out.sz)
   refine wp_region_held_drew (S:=fun U2 => U2.cell? ⟨0,33,.none⟩=some (.int .i64 56)∧U2.cell? ⟨0,34,.none⟩=some (.int .i64 2)∧U2.cell? ⟨0,35,.none⟩=some (.int .u64 0)∧U2.cell? ⟨w.heap.size,1,.none⟩=some (.slice q n c)) (by kernel_rfl) k0 (fun hHeld => ?_)
   refine aT 0 (.pointer (some ⟨0,33,.none⟩)) rfl ?_
   simp only [X0,X1,X2,X3,X4,X5,X6]
   refine aT 1 (.agg #[.int .i64 56,.int .i64 2,.int .u64 0]) rfl ?_
   simp only [X0,X1,X2,X3,X4,X5,X6]
   refine aT 2 (.slice (some ⟨w.heap.size+1+1,0,.none⟩) 64 64) rfl ?_
   simp only [X0,X1,X2,X3,X4,X5,X6]
   refine aT 3 (.pointer (some ⟨w.heap.size,1,.none⟩)) rfl ?_
   simp only [X0,X1,X2,X3,X4,X5,X6]
   refine aT 4 (.slice q n c) rfl ?_
   simp only [X0,X1,X2,X3,X4,X5,X6]
   refine aT 5 (.int .i64 n) rfl ?_
   simp only [X0,X1,X2,X3,X4,X5,X6]
   refine aT 6 (.int .u64 n) rfl ?_
   simp only [X0,X1,X2,X3,X4,X5,X6]
   refine wpAnyH_ready (rs:=[7]) (by kernel_rfl) (by simp) ?_
   refine AllReadyH.cons rfl (fun K hK => ?_) AllReadyH.nil
   go_simp
   go_at_call 135
   refine c30.mono ?_
   rintro e V3 ⟨rfl,hw5⟩
   have k1 : V3.cell? ⟨0,33,.none⟩=some (.int .i64 56)∧V3.cell? ⟨0,34,.none⟩=some (.int .i64 2)∧V3.cell? ⟨0,35,.none⟩=some (.int .u64 0)∧V3.cell? ⟨w.heap.size,1,.none⟩=some (.slice q n c) := ⟨hw5.cell (by omega) (k0.1),hw5.cell (by omega) (k0.2.1),hw5.cell (by omega) (k0.2.2.1),hw5.cell (by omega) (k0.2.2.2)⟩
   have HV3 : Hid (Wro W3 V3 (w.heap.size+1+1) 0 64 (headB en n)) := HV2.out.trans (Wro.trans (w1:=V2.drew) ⟨HV2.out.row,HV2.out.fz,fun _ _ _ => rfl,Nat.le_refl _,Nat.lt_of_lt_of_le HV2.out.bl HV2.out.sz,rfl,rfl,rfl⟩ hw5)
   clear hw5
   refine hK.out _ _ k1 (fun hHeld => ?_)
   clear hK K
   try simp only [X0,X1,X2,X3,X4,X5,X6]
   refine wpAnyH_done (by kernel_rfl) ?_ _
   clear hHeld k0 k1 c30 HV2
   go_upto_region 10 with fail
   clear hHeld
   have hrw : V3.rangeAt (w.heap.size+1+1) 0 (lst (headB en n) 64) := row_range HV3.out.row
   have htw : V3.there (w.heap.size+1) 0 64 := fun j hj => ⟨by rw [HV3.out.cell (by omega) (HR3.out.1 j hj)]; rfl,by rw [HV3.out.frozen (by omega) (by omega)]; exact HR3.out.2.1 _⟩
   refine wp_region_lit ?_
   refine wpList_load_mid rfl 152 (.tmp 3) rfl (w.heap.size+1+1) 0 rfl (lst (headB en n) 64) _ hrw Tryz.underlying152 rfl (by rw [lst_len]; kernel_rfl) ?_
   simp only [X0,X1,X2,X3]
   refine wpList_store_mid rfl 152 (.tmp 2) (.tmp 34) rfl (w.heap.size+1) 0 (lst (headB en n) 64).toArray rfl rfl (by simpa [lst_len] using htw) (by rw [show (lst (headB en n) 64).toArray.size=64 by simp [lst_len]]; kernel_rfl) (lst_one _ _) ?_
   have hr4 : (V3.setCells (w.heap.size+1) 0 (lst (headB en n) 64).toArray.toList).rangeAt (w.heap.size+1) 0 (lst (headB en n) 64) := World.rangeAt_setCells_same _ _ _ _ (by rw [lst_len]; exact htw)
   have HB4 : Hid (Below w.heap.size w (V3.setCells (w.heap.size+1) 0 (lst (headB en n) 64).toArray.toList)) := (HB3.out.trans (HV3.out.below (by omega))).trans (below_setCells _ _ (by omega) _ _ _)
   generalize V3.setCells (w.heap.size+1) 0 (lst (headB en n) 64).toArray.toList=V4 at *
   have hld := run_loadVar_mid (P:=Tryz.prog) V4 _ _ 152 _ _ hr4 Tryz.underlying152 rfl (by rw [lst_len]; kernel_rfl)
   clear hrw htw hr4
   generalize hgL : lst (headB en n) 64=L at *
   go_wp2_with fail
   exact bodyPost_ret (v:=.agg L.toArray) (results_cell_any (p:=2) (ty:=152) rfl _ _ ⟨w.heap.size+1,0,none⟩ _ rfl hld) rfl ⟨by rw [hgL],HB4.out⟩
end
end Go.Proofs.YtabnipbdbnmmpaaGreatDoor
