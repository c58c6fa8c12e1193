import Derived.Test.YtabnipbdbnmmpaaGreatDoorSh01
import Derived.Test.YtabnipbdbnmmpaaGreatDoorSh12
import Derived.Laws.Cover3
import Derived.Deep.QuietTactic
import Derived.BigQuiet
import Derived.Deep.RegionLaw
import Derived.Deep.Cut
import Derived.Laws.MakeOwn
set_option linter.unusedVariables false
set_option linter.unusedSimpArgs false
namespace Go.Proofs.YtabnipbdbnmmpaaGreatDoor
namespace Rm
open Go.RowKit
theorem addr_any (i:Int) (h0:0≤i) (h1:i≤4096) (w:World) : Calls Tryz.prog 77 #[.int .i64 i] w fun e w' => e = .returned (.int .u64 (2147483648+i*4096))∧w'=w := by
 go_enter Tryz.func77,Tryz.ntmps77
 go_wp2
 go_ret
 exact ⟨rfl,rfl⟩
def isFr (pa:Int) (n:Int) : Bool := decide (pa % 4096=0∧2147483648≤pa∧pa<2147483648+n*4096)
set_option maxHeartbeats 1000000 in
theorem isFrame_any (pa n:Int) (hp:0≤pa∧pa<18446744073709551616) (h0:0≤n) (h1:n≤4096) (w:World) :
  Calls Tryz.prog 189 #[.int .u64 pa,.int .i64 n] w fun e w' => e = .returned (.bool (isFr pa n))∧w'=w := by
 have c0 := addr_any 0 (by omega) (by omega)
 have c1 := addr_any n h0 h1
 by_cases k0 : pa % 4096=0
 ·by_cases k1 : 2147483648≤pa
  ·by_cases k2 : pa<2147483648+n*4096
   ·have e : isFr pa n=true := by simp [isFr,k0,k1,k2]
    rw [e]
    go_enter Tryz.func189,Tryz.ntmps189
    go_wp2
    go_ret
    exact ⟨rfl,rfl⟩
   ·have e : isFr pa n=false := by simp [isFr,k0,k1,k2]
    rw [e]
    go_enter Tryz.func189,Tryz.ntmps189
    go_wp2
    go_ret
    exact ⟨rfl,rfl⟩
  ·have e : isFr pa n=false := by simp [isFr,k0,k1]
   rw [e]
   go_enter Tryz.func189,Tryz.ntmps189
   go_wp2
   go_ret
   exact ⟨rfl,rfl⟩
 ·have e : isFr pa n=false := by simp [isFr,k0]
  rw [e]
  go_enter Tryz.func189,Tryz.ntmps189
  go_wp2
  go_ret
  exact ⟨rfl,rfl⟩
theorem made_some (p b n c:Nat) (w:World) (h:w.cell? ⟨p,0,.none⟩=some (.slice (some ⟨b,0,.none⟩) n c)) : Calls Tryz.prog 33 #[.pointer (some ⟨p,0,.none⟩)] w fun e w' => e = .returned (.bool true)∧w'=w := by
 have hq : (binOp .neq 24 (.slice (some ⟨b,0,.none⟩) n c) (.slice .none 0 0)).run Tryz.prog w = .ok (.bool true) w := run_neq_slice_nil w 24 5 (some ⟨b,0,.none⟩) n c Tryz.underlying24
 go_enter Tryz.func33,Tryz.ntmps33
 go_wp2
 go_ret
 exact ⟨rfl,rfl⟩
theorem mayHave_any (n:Int) (w:World) : Calls Tryz.prog 72 #[.int .i64 n] w fun e w' => e = .returned (.bool (decide (1≤n∧n≤4096)))∧w'=w := by
 by_cases k0 : 1≤n
 ·by_cases k1 : n≤4096
  ·have e : decide (1≤n∧n≤4096)=true := by simp [k0,k1]
   rw [e]
   go_enter Tryz.func72,Tryz.ntmps72
   go_wp2
   go_ret
   exact ⟨rfl,rfl⟩
  ·have e : decide (1≤n∧n≤4096)=false := by simp [k0,k1]
   rw [e]
   go_enter Tryz.func72,Tryz.ntmps72
   go_wp2
   go_ret
   exact ⟨rfl,rfl⟩
 ·have e : decide (1≤n∧n≤4096)=false := by simp [k0]
  rw [e]
  go_enter Tryz.func72,Tryz.ntmps72
  go_wp2
  go_ret
  exact ⟨rfl,rfl⟩
section
variable {w:World} {p b m N cnt:Nat} {B:Nat→Int} {nx:Int} {hd:Int→Bool}
theorem frames_any (h:Mem w p b m N B nx hd cnt) : Calls Tryz.prog 41 #[.pointer (some ⟨p,0,.none⟩)] w fun e w' => e = .returned (.int .i64 N)∧w'=w := by
 have c := made_some p b _ _ w h.c0
 have k0 := h.c0
 have n2 := h.n2
 go_enter Tryz.func41,Tryz.ntmps41
 go_wp2_with (go_at_call 33; refine c.mono ?_; rintro e w0 ⟨rfl,rfl⟩)
 go_ret
 exact ⟨by simp,rfl⟩
theorem frame_any (h:Mem w p b m N B nx hd cnt) (i:Nat) (hi:i<N) : Calls Tryz.prog 35 #[.pointer (some ⟨p,0,.none⟩),.int .u64 (2147483648+i*4096)] w fun e w' => e = .returned (.slice (some ⟨b,i*4096,.none⟩) 4096 (4096*N - i*4096))∧w'=w := by
 have k0 := h.c0
 have n2 := h.n2
 go_enter Tryz.func35,Tryz.ntmps35
 go_wp2
 go_ret
 exact ⟨by simp,rfl⟩
theorem law22 : Maps.Keyed Tryz.prog 23 := Maps.int_keyed Tryz.underlying23
theorem zero91 (w:World) : (zeroValue 83).run Tryz.prog w = .ok (.agg #[]) w := by kernel_rfl
theorem isHeld_any (h:Mem w p b m N B nx hd cnt) (pa:Int) (hp:0≤pa∧pa<18446744073709551616) : Calls Tryz.prog 111 #[.pointer (some ⟨p,0,.none⟩),.int .u64 pa] w fun e w' => e = .returned (.bool (hd pa))∧Below w.heap.size w w' := by
 have k2 := h.c2
 obtain ⟨D,hown,hhas,_⟩ := h.hm
 have hh := hhas pa hp.1 hp.2
 go_enter Tryz.func111,Tryz.ntmps111
 go_wp2_with (at_lookup; refine wpList_lookup_own_unit _ rfl _ _ 78 rfl 23 83 law22 Tryz.underlying78 (zero91 _) m _ D rfl hown _ _ rfl (Maps.keyOf_int_mk Tryz.underlying23 (WalkArith.wf_u64 (by omega))) ?_)
 go_ret
 rw [← hh]
 exact ⟨rfl,(Below.refl _ _).alloc (Nat.le_refl _) _⟩
theorem count_any (h:Mem w p b m N B nx hd cnt) (hc:cnt≤N) : Calls Tryz.prog 15 #[.pointer (some ⟨p,0,.none⟩)] w fun e w' => e = .returned (.int .i64 ((N:Int) - cnt)) ∧ ∃ k,w'=w.drewN k := by
 have c := made_some p b _ _ w h.c0
 have k2 := h.c2
 have n2 := h.n2
 have n3 : (N:Int) - cnt≤4096 := by omega
 have n4 : 0≤(N:Int) - cnt := by omega
 obtain ⟨D,hown,_,hsz⟩ := h.hm
 have hl : ∀ k ty,(Builtin.len_ #[78] ty #[.map (some m)]).run Tryz.prog (w.drewN k) = .ok (.int .i64 cnt) (w.drewN k) := fun k ty => by
  have hk : (w.drewN k).ownsMap Tryz.prog 23 unitElem m (Maps.size D) D := hown
  rw [hk.len Tryz.underlying78 ty,hsz]
 go_enter Tryz.func15,Tryz.ntmps15
 go_wp2_with (go_at_call 33; refine c.mono ?_; rintro e w0 ⟨rfl,rfl⟩)
 go_quiet (first | (go_at_call 41; exact Calls.quiet_of_same (frames_any (h.drewN _))))
 go_wp2
 go_ret
 exact ⟨by simp,_,rfl⟩
theorem behind_any (h:Mem w p b m N B nx hd cnt) (i:Nat) (hi:i<N) : Calls Tryz.prog 34 #[.pointer (some ⟨p,0,.none⟩),.int .u64 (2147483648+i*4096)] w fun e w' => e = .returned (.int .u64 (num B (i*4096) 8))∧w'=w := by
 have c := frame_any h i hi
 have c1 := number64_read b (i*4096) 4096 (4096*N - i*4096) B 0 w (by omega) h.bb (fun k hk => h.cb _ (by omega))
 go_enter Tryz.func34,Tryz.ntmps34
 go_wp2_with (first | (go_at_call 35; refine c.mono ?_; rintro e w0 ⟨rfl,rfl⟩) | (go_at_call 78; refine c1.mono ?_; rintro e w0 ⟨rfl,rfl⟩))
 go_ret
 exact ⟨rfl,rfl⟩
end
end Rm
namespace Rm
open Go.RowKit
theorem setCells_drewN (b:Nat) : ∀ (vs:List Value) (o n:Nat) (w:World),(w.drewN n).setCells b o vs=(w.setCells b o vs).drewN n
 | [],_,_,_ => rfl
 | v :: vs,o,n,w => setCells_drewN b vs (o+1) n (w.setCell ⟨b,o,.none⟩ v)
theorem setCells_append (b:Nat) : ∀ (vs us:List Value) (o:Nat) (w:World),(w.setCells b o vs).setCells b (o+vs.length) us=w.setCells b o (vs ++ us)
 | [],us,o,w => rfl
 | v :: vs,us,o,w => by
  have ih := setCells_append b vs us (o+1) (w.setCell ⟨b,o,.none⟩ v)
  simp only [World.setCells,List.cons_append,List.length_cons]
  rw [← ih]
  congr 1
  omega
theorem step_copy_cells {P:Program} {ops:Array Oper} {o:Oper} {a:Act} {w:World} {K:Act→World→Prop} {Q:Exit→Act→World→Prop} {E:Prop} (hgd:o.guard=none) (d s:Operand) (dT sT:TypeId)
  (ho:o.op = .call { callee := .builtin .copy,args := #[d,s],argTypes := #[dT,sT] }) (elem:TypeId) (hu:P.underlying dT=some (.slice elem)) (hsz:(P.info? elem).map (·.size)=some 1)
  (b off dLen dCap:Nat) (ad:Addr) (sLen sCap:Nat) (hd:a.eval d = .slice (some ⟨b,off,.none⟩) dLen dCap) (hs:a.eval s = .slice (some ad) sLen sCap) (cs:List Value) (hn:cs.length=Nat.min sLen dLen)
  (hsrc:∀ j v,cs[j]? = some v→w.cell? (ad.add j)=some v) (hc:∀ j,j<cs.length→(w.cell? ⟨b,off+j,.none⟩).isSome=true) (hf:∀ j,j<cs.length→w.frozen? ⟨b,off+j,.none⟩=false) (h1:∀ v ∈ cs,v.oneCell'=true)
  (h:K (a.put o.dst (goInt cs.length)) (w.setCells b off cs)) : if Region.wanted o (yielded ops a.tmps)=true then Oper.wp P o a w K Q else E := by
 have hw : Region.wanted o (yielded ops a.tmps)=true := by simp [Region.wanted,hgd]
 rw [if_pos hw]
 have hrun := run_copy_cells (P:=P) w dT sT o.type elem b off dLen dCap ad sLen sCap cs hu hsz hn hsrc hc hf h1
 unfold Oper.wp
 simp [execOp,ho,resolve,invoke,builtin,hd,hs,hrun,Result.andThen]
 exact h
theorem info5 : (Tryz.prog.info? 5).map (·.size)=some 1 := by kernel_rfl
theorem addr_add (b o j:Nat) : (⟨b,o,.none⟩ : Addr).add j=⟨b,o+j,.none⟩ := by unfold Addr.add; split <;> simp_all
set_option maxHeartbeats 1000000 in
theorem fill_any (b o n cap:Nat) (x:Int) (w:World) (hn:1≤n) (hn2:n≤16777216) (hcap:n≤cap) (hcap2:cap≤16777216)
  (hc:∀ i,i<n→(w.cell? ⟨b,o+i,.none⟩).isSome=true) (hf:∀ i,i<n→w.frozen? ⟨b,o+i,.none⟩=false) :
  Calls Tryz.prog 133 #[.slice (some ⟨b,o,.none⟩) n cap,.int .u8 x] w fun e w' => (∃ v,e = .returned v) ∧ ∃ k,w'=(w.setCells b o (List.replicate n (.int .u8 x))).drewN k := by
 obtain ⟨u0,h0⟩ := Option.isSome_iff_exists.1 (hc 0 (by omega))
 have g0 := hf 0 (by omega)
 simp only [Nat.add_zero] at h0 g0
 go_enter Tryz.func133,Tryz.ntmps133
 go_wp2
 clear h0 g0
 go_loopw [4] (fun k wr => ∃ d q : Nat,1≤d∧d≤2*n∧k = .int .i64 d∧wr=(w.setCells b o (List.replicate (min d n) (.int .u8 x))).drewN q) (fun k _ => n - (intOf k).toNat)
 case atStart => exact ⟨1,0,by omega,by omega,rfl,by rw [show min 1 n=1 by omega]; rfl⟩
 case round =>
  obtain ⟨d,q,hd1,hd2,rfl,hw⟩ := hrel
  have HW : Hid (wr=(w.setCells b o (List.replicate (min d n) (.int .u8 x))).drewN q) := hw
  clear hw
  by_cases hdn : d<n
  ·have i1 : (d:Int)<n := by omega
   have i2 : (d:Int)≤n := by omega
   have i3 : (n:Int)≤cap := by omega
   have i4 : (d:Int)≤cap := by omega
   have i5 : (0:Int)≤d := by omega
   have hk : ∀ i,i<n→(wr.cell? ⟨b,o+i,.none⟩).isSome=true := fun i hi => by
    rw [HW.out,World.cell?_drewN]
    by_cases hid : i<d
    ·rw [World.cell?_setCells_in b _ o w (fun j hj => hc j (by simp at hj; omega)) i (by simp; omega)]
     rfl
    ·rw [World.cell?_setCells_out b _ o w _ (fun _ _ => .inr (by simp; omega))]
     exact hc i hi
   have s1 : Hid (∀ j v,(List.replicate (min d (n - d)) (Value.int .u8 x))[j]? = some v→wr.drew.cell? ((⟨b,o,.none⟩ : Addr).add j)=some v) := fun j v hj => by
    rw [List.getElem?_replicate] at hj
    split at hj
    ·rename_i hjd
     rw [addr_add,World.cell?_drew,HW.out,World.cell?_drewN,World.cell?_setCells_in b _ o w (fun i hi => hc i (by simp at hi; omega)) j (by simp; omega)]
     simpa using hj
    ·cases hj
   have s2 : Hid (∀ j,j<(List.replicate (min d (n - d)) (Value.int .u8 x)).length→(wr.drew.cell? ⟨b,o+d+j,.none⟩).isSome=true) := fun j hj => by
    rw [World.cell?_drew,Nat.add_assoc]
    exact hk (d+j) (by simp at hj; omega)
   have s3 : Hid (∀ j,j<(List.replicate (min d (n - d)) (Value.int .u8 x)).length→wr.drew.frozen? ⟨b,o+d+j,.none⟩=false) := fun j hj => by
    rw [World.frozen?_drew,HW.out,World.frozen?_drewN,World.frozen?_setCells,Nat.add_assoc]
    exact hf (d+j) (by simp at hj; omega)
   have s4 : Hid (∀ v ∈ List.replicate (min d (n - d)) (Value.int .u8 x),v.oneCell'=true) := fun v hv => by rw [List.eq_of_mem_replicate hv]; rfl
   have s5 : Hid ((List.replicate (min d (n - d)) (Value.int .u8 x)).length=Nat.min d (n - d)) := by
    show (List.replicate (min d (n - d)) (Value.int .u8 x)).length=Nat.min d (n - d)
    rw [List.length_replicate]
   generalize hcs : List.replicate (min d (n - d)) (Value.int .u8 x)=cs at *
   clear hk
   have HC : Hid (List.replicate (min d (n - d)) (Value.int .u8 x)=cs) := hcs
   clear hcs
   go_upto_region 4 with fail
   go_region_law (refine step_copy_cells rfl (.tmp 16) (.tmp 19) 24 24 rfl 5 Tryz.underlying24 info5 b (o+d) (n - d) (cap - d) ⟨b,o,.none⟩ d cap (by simp [Act.eval,Act.put]; omega) (by simp [Act.eval,Act.put]) cs s5.out s1.out s2.out s3.out s4.out ?_)
   go_wp2
   refine ⟨⟨2*d,q+1,by omega,by omega,congrArg _ (by omega),?_⟩,by simp [intOf]; omega⟩
   show (wr.drewN 1).setCells b (o+d) cs = _
   rw [setCells_drewN,HW.out,← HC.out,setCells_drewN,World.drewN_drewN]
   have e := setCells_append b (List.replicate d (.int .u8 x)) (List.replicate (min d (n - d)) (.int .u8 x)) o w
   rw [List.length_replicate,List.replicate_append_replicate] at e
   rw [show min d n=d by omega,e,show d+min d (n - d)=min (2*d) n by omega]
  ·go_wp2
   go_end0
   exact ⟨⟨_,rfl⟩,q,by rw [HW.out,show min d n=n by omega]⟩
end Rm
namespace Rm
open Go.RowKit
def junk : List Int := List.replicate 4088 5
theorem junk_len : junk.length=4088 := List.length_replicate
theorem junk_map : junk.map (Value.int .u8)=List.replicate 4088 (.int .u8 5) := List.map_replicate
theorem junk_bd : ∀ x ∈ junk,0≤x∧x<256 := fun x hx => by rw [List.eq_of_mem_replicate hx]; omega
def thr (B:Nat→Int) (i:Nat) (v:Int) : Nat→Int := over (over B (i*4096) (le v 8)) (i*4096+8) junk
section
variable {w:World} {p b m N cnt:Nat} {B:Nat→Int} {nx:Int} {hd:Int→Bool}
set_option maxHeartbeats 1000000 in
theorem thread_any (h:Mem w p b m N B nx hd cnt) (i:Nat) (hi:i<N) : Calls Tryz.prog 76 #[.pointer (some ⟨p,0,.none⟩),.int .u64 (2147483648+i*4096)] w fun e w' => (∃ v,e = .returned v)∧Mem w' p b m N (thr B i nx) (2147483648+i*4096) hd cnt∧Fra p b m w w' := by
 have c := frame_any h i hi
 have n2 := h.n2
 have c1 := number64_write b (i*4096) 4096 (4096*N - i*4096) nx w (by omega) (fun k hk => by rw [h.cb _ (by omega)]; rfl) (fun k hk => h.fb _ (by omega)) h.nb
 have h1 := h.setCells (i*4096) (le nx 8) (by rw [le_len]; omega) (le_bd nx 8)
 have F1 := (Fra.refl p b m w).setCells (i*4096) ((le nx 8).map (.int .u8))
 generalize hw1 : w.setCells b (i*4096) ((le nx 8).map (.int .u8))=w1 at *
 clear hw1
 have c2 := fill_any b (i*4096+8) 4088 (4096*N - i*4096 - 8) 5 w1 (by omega) (by omega) (by omega) (by omega) (fun k hk => by rw [h1.cb _ (by omega)]; rfl) (fun k hk => h1.fb _ (by omega))
 have k1 := h.c1
 go_enter Tryz.func76,Tryz.ntmps76
 go_wp2_with (first | (go_at_call 35; refine c.mono ?_; rintro e w0 ⟨rfl,rfl⟩) | (go_at_call 78; refine c1.mono ?_; rintro e w2 ⟨rfl,rfl⟩) | fail)
 refine c2.mono ?_
 rintro e w3 ⟨⟨v,rfl⟩,k,hw3⟩
 have h3 : Mem w3 p b m N (thr B i nx) nx hd cnt := by
  rw [hw3]
  have := h1.setCells (i*4096+8) junk (by rw [junk_len]; omega) junk_bd
  rw [junk_map] at this
  exact this.drewN k
 have F3 : Fra p b m w0 w3 := by
  rw [hw3]
  exact (F1.setCells _ _).drewN k
 clear c c1 c2 hw3 h1 F1
 have g1 := h3.c1
 have g2 := h3.f1
 have HM : Hid (Mem (w3.setCell ⟨p,1,.none⟩ (.int .u64 (2147483648+i*4096))) p b m N (thr B i nx) (2147483648+i*4096) hd cnt) := h3.setNext _ (by omega)
 have HF : Hid (Fra p b m w0 (w3.setCell ⟨p,1,.none⟩ (.int .u64 (2147483648+i*4096)))) := F3.setCell _ _ (.inl rfl)
 go_wp2
 go_end0
 exact ⟨⟨_,rfl⟩,HM.out,HF.out⟩
end
theorem info5' : ∃ i,Tryz.prog.info? 5=some i∧i.zero=some (.int .u8 0)∧i.size=1∧i.bytes=1 := by
 have h : (Tryz.prog.info? 5).map (fun i => (i.zero,i.size,i.bytes))=some (some (.int .u8 0),1,1) := by kernel_rfl
 cases hq : Tryz.prog.info? 5 with
 | none => rw [hq] at h; cases h
 | some i =>
  rw [hq] at h
  simp only [Option.map_some,Option.some.injEq,Prod.mk.injEq] at h
  exact ⟨i,rfl,h⟩
def Zs (n:Nat) : Array Value := madeCells #[.int .u8 0] n
theorem Zs_at (n i:Nat) (h:i<n) : (Zs n)[i]? = some (.int .u8 0) := by
 have : i<(Zs n).size := by unfold Zs; rw [size_madeCells]; exact h
 rw [Array.getElem?_eq_getElem this]
 simp [Zs,madeCells,Nat.mod_one]
theorem make_bytes (n:Nat) (h:n≤16777216) (w:World) : (Instr.makeSlice 24 (.int .i64 n) (.int .i64 n)).run Tryz.prog w = .ok (.slice (some ⟨w.heap.size,0,.none⟩) n n) (w.alloc (.cells (Zs n) 5)) := by
 obtain ⟨i,h1,h2,h3,h4⟩ := info5'
 have := run_make w 24 5 i (.int .u8 0) Tryz.underlying24 h1 h2 .i64 .i64 n n (by omega) (by omega) (by rw [h4]; omega) (by omega)
 rw [h3] at this
 simpa [Zs,Value.cells] using this
section
set_option maxHeartbeats 1000000 in
theorem blank_any (n:Nat) (h1:1≤n) (h2:n≤4096) (w:World) : Calls Tryz.prog 74 #[.int .i64 n] w fun e w' => ∃ p b m,w.heap.size≤p∧w.heap.size≤b∧w.heap.size≤m∧e = .returned (.pointer (some ⟨p,0,.none⟩))∧Mem w' p b m n (fun _ => 0) 0 (fun _ => false) 0∧Below w.heap.size w w' := by
 have hmm := @run_makeMap Tryz.prog
 have hmk := make_bytes (4096*n) (by omega) w
 rw [show ((4096*n : Nat) : Int)=(n:Int)*4096 by omega] at hmk
 have HZ : Hid (∀ i,i<4096*n→(Zs (4096*n))[i]? = some (.int .u8 0)) := fun i hi => Zs_at _ i hi
 generalize Zs (4096*n)=Z at *
 go_enter Tryz.func74,Tryz.ntmps74
 go_wp2
 go_ret
 refine ⟨w.heap.size+1+1,w.heap.size,w.heap.size+1,by omega,by omega,by omega,rfl,?_,?_⟩
 ·have hb : ∀ i,(((w.alloc (.cells Z 5)).alloc (.map #[] 0)).alloc (.cells #[.slice (some ⟨w.heap.size,0,.none⟩) (4096*n) (4096*n),.int .u64 0,.map (some (w.heap.size+1))] 80)).cell? ⟨w.heap.size,i,.none⟩=Z[i]? := fun i => by
   rw [World.cell?_alloc_past _ _ _ (by simp only [World.size_alloc]; omega),World.cell?_alloc_past _ _ _ (by simp),World.cell?_alloc_at _ _ _ _ rfl]
  refine ⟨?_,?_,?_,?_,fun i hi => by rw [hb]; exact HZ.out i hi,?_,?_,h1,h2,fun _ => by omega,by omega⟩
  ·rw [World.cell?_alloc_at _ _ _ _ (by simp only [World.size_alloc])]; rfl
  ·rw [World.cell?_alloc_at _ _ _ _ (by simp only [World.size_alloc])]; rfl
  ·rw [World.cell?_alloc_at _ _ _ _ (by simp only [World.size_alloc])]; rfl
  ·have := World.frozen?_alloc_new ((w.alloc (.cells Z 5)).alloc (.map #[] 0)) #[.slice (some ⟨w.heap.size,0,.none⟩) (4096*n) (4096*n),.int .u64 0,.map (some (w.heap.size+1))] 80 1
   rwa [World.size_alloc,World.size_alloc] at this
  ·intro i hi
   rw [World.frozen?_alloc_old _ _ _ (by simp only [World.size_alloc]; omega),World.frozen?_alloc_old _ _ _ (by simp)]
   exact World.frozen?_alloc_new _ _ _ _
  ·refine ⟨.map [],?_,fun _ _ _ => rfl,rfl⟩
   have := (World.ownsMap_made (H:=Unit) (w.alloc (.cells Z 5)) Tryz.prog 23 unitElem).alloc (.cells #[.slice (some ⟨w.heap.size,0,.none⟩) (4096*n) (4096*n),.int .u64 0,.map (some (w.heap.size+1))] 80)
   rw [World.size_alloc] at this
   exact this
 ·exact (((Below.refl _ _).alloc (Nat.le_refl _) _).alloc (by simp) _).alloc (by simp only [World.size_alloc]; omega) _
end
end Rm
namespace Rm
open Go.RowKit
theorem own_size {w:World} {m n:Nat} {D:DataW Unit} (h:w.ownsMap Tryz.prog 23 unitElem m n D) : w.ownsMap Tryz.prog 23 unitElem m (Maps.size D) D := by
 obtain ⟨es,cl,h1,h2,h3,rfl⟩ := h
 exact ⟨es,cl,h1,h2,by simp [Maps.size,length_sorted],rfl⟩
theorem isKey (a:Int) : WideAt.IsKeyLit (.int .u64 a) := by trivial
theorem ne_lit {a x:Int} (h:x≠a) : (Lit.int .u64 x) ≠ .int .u64 a := fun e => h (by injection e)
section
variable {w w':World} {p b m N cnt:Nat} {B:Nat→Int} {nx:Int} {hd hd':Int→Bool} {D:DataW Unit}
theorem Mem.congr (h:Mem w p b m N B nx hd cnt) (e:∀ a : Int,0≤a→a<18446744073709551616→hd a=hd' a) : Mem w p b m N B nx hd' cnt := by
 obtain ⟨D,h1,h2,h3⟩ := h.hm
 exact ⟨h.c0,h.c1,h.c2,h.f1,h.cb,h.fb,⟨D,h1,fun a h4 h5 => (h2 a h4 h5).trans (e a h4 h5),h3⟩,h.n1,h.n2,h.bb,h.nb⟩
theorem Mem.turn (h:Mem w p b m N B nx hd cnt) (t:w.mapTurned w' m) {D':DataW Unit} {n:Nat} (hown:w'.ownsMap Tryz.prog 23 unitElem m n D') (hh:∀ a : Int,0≤a→a<18446744073709551616→Maps.has D' (.int .u64 a)=hd' a) {cnt':Nat} (hc:Maps.size D'=cnt') : Mem w' p b m N B nx hd' cnt' := by
 have g := t.grown
 have hp : w'.heap[p]? = w.heap[p]? := g.block p h.plt (by simpa using fun e => h.mp e.symm)
 have hb : w'.heap[b]? = w.heap[b]? := g.block b h.blt (by simpa using fun e => h.mb e.symm)
 have cp : ∀ i,w'.cell? ⟨p,i,.none⟩=w.cell? ⟨p,i,.none⟩ := fun i => by simp only [World.cell?,hp]
 have cb : ∀ i,w'.cell? ⟨b,i,.none⟩=w.cell? ⟨b,i,.none⟩ := fun i => by simp only [World.cell?,hb]
 exact ⟨(cp 0).trans h.c0,(cp 1).trans h.c1,(cp 2).trans h.c2,(t.frozen _).trans h.f1,fun i hi => (cb i).trans (h.cb i hi),fun i hi => (t.frozen _).trans (h.fb i hi),⟨D',own_size hown,hh,hc⟩,h.n1,h.n2,h.bb,h.nb⟩
theorem Mem.put (h:Mem w p b m N B nx hd cnt) (hown:w.ownsMap Tryz.prog 23 unitElem m (Maps.size D) D) (hhas:∀ a : Int,0≤a→a<18446744073709551616→Maps.has D (.int .u64 a)=hd a) (hsz:Maps.size D=cnt)
  (a:Int) (ha:0≤a∧a<18446744073709551616) (hf:hd a=false) {n:Nat} (h1:w'.ownsMap Tryz.prog 23 unitElem m n (D.put (.int .u64 a) (.agg []))) (t:w.mapTurned w' m) :
  Mem w' p b m N B nx (fun x => decide (x=a) || hd x) (cnt+1) := by
 refine h.turn t h1 (fun x hx0 hx1 => ?_) ?_
 ·by_cases e : x=a
  ·subst e
   rw [Maps.has_put_same hown.isMap (isKey _)]
   simp
  ·rw [Maps.has_put_other (ne_lit e),hhas x hx0 hx1]
   simp [e]
 ·rw [Maps.size_put (hown.tidy law22),hhas a ha.1 ha.2,hf]
  simp [hsz]
theorem Mem.del (h:Mem w p b m N B nx hd cnt) (hown:w.ownsMap Tryz.prog 23 unitElem m (Maps.size D) D) (hhas:∀ a : Int,0≤a→a<18446744073709551616→Maps.has D (.int .u64 a)=hd a) (hsz:Maps.size D=cnt)
  (a:Int) (ha:0≤a∧a<18446744073709551616) (hf:hd a=true) {n:Nat} (h1:w'.ownsMap Tryz.prog 23 unitElem m n (D.del (.int .u64 a))) (t:w.mapTurned w' m) :
  Mem w' p b m N B nx (fun x => !decide (x=a) && hd x) (cnt - 1) := by
 refine h.turn t h1 (fun x hx0 hx1 => ?_) ?_
 ·by_cases e : x=a
  ·subst e
   rw [Maps.has_del_same]
   simp
  ·rw [Maps.has_del_other (ne_lit e),hhas x hx0 hx1]
   simp [e]
 ·have := Maps.size_del (k:=.int .u64 a) (hown.tidy law22)
  rw [hhas a ha.1 ha.2,hf,hsz] at this
  simp at this
  omega
end
def adr : List Nat→Int
 | [] => 0
 | i :: _ => 2147483648+i*4096
theorem adr_bd {N:Nat} (hN:N≤4096) {L:List Nat} (h:∀ i ∈ L,1≤i∧i<N) : 0≤adr L∧adr L<18446744073709551616 := by
 cases L with
 | nil => simp [adr]
 | cons i l =>
  have := h i (List.mem_cons_self ..)
  simp only [adr]
  omega
def jb (v:Int) (k:Nat) : Int := if k<8 then v / 256 ^ k % 256 else 5
def Thr (B:Nat→Int) : List Nat→Prop
 | [] => True
 | i :: l => (∀ k,k<4096→B (i*4096+k)=jb (adr l) k)∧Thr B l
def hdL (N:Nat) (L:List Nat) (a:Int) : Bool := isFr a N && !decide (((a - 2147483648) / 4096).toNat ∈ L)
theorem le_get (v:Int) (n k:Nat) (h:k<n) : (le v n).getD k 0=v / 256 ^ k % 256 := by
 simp [le,List.getD_eq_getElem?_getD,List.getElem?_range h]
theorem junk_get (k:Nat) (h:k<4088) : junk.getD k 0=5 := by
 simp only [junk,List.getD_eq_getElem?_getD,List.getElem?_replicate,if_pos h]
 rfl
theorem thr_in (B:Nat→Int) (i:Nat) (v:Int) (k:Nat) (hk:k<4096) : thr B i v (i*4096+k)=jb v k := by
 unfold thr over jb
 rw [le_len,junk_len]
 by_cases h8 : k<8
 ·rw [if_neg (by omega),if_pos (by omega),if_pos h8,show i*4096+k - i*4096=k by omega,le_get v 8 k h8]
 ·rw [if_pos (by omega),if_neg h8,junk_get _ (by omega)]
theorem thr_out (B:Nat→Int) (i:Nat) (v:Int) (j:Nat) (hj:j<i*4096∨i*4096+4096≤j) : thr B i v j=B j := by
 unfold thr over
 rw [le_len,junk_len,if_neg (by omega),if_neg (by omega)]
theorem Thr.congr {B B':Nat→Int} : ∀ {L:List Nat},Thr B L→(∀ i ∈ L,∀ k,k<4096→B' (i*4096+k)=B (i*4096+k))→Thr B' L
 | [],_,_ => trivial
 | i :: l,h,e => ⟨fun k hk => (e i (List.mem_cons_self ..) k hk).trans (h.1 k hk),Thr.congr h.2 (fun j hj => e j (List.mem_cons_of_mem _ hj))⟩
theorem Thr.cons {B:Nat→Int} {L:List Nat} (h:Thr B L) (i:Nat) (hi:i ∉ L) : Thr (thr B i (adr L)) (i :: L) :=
 ⟨fun k hk => thr_in B i _ k hk,h.congr (fun j hj k hk => thr_out B i _ _ (by have:j≠i := fun e => hi (e ▸ hj); omega))⟩
theorem nodup_le : ∀ (n:Nat) (L:List Nat),L.Nodup→(∀ i ∈ L,i<n)→L.length≤n
 | 0,L,_,h => by
  cases L with
  | nil => exact Nat.le_refl _
  | cons i l => exact absurd (h i (List.mem_cons_self ..)) (Nat.not_lt_zero _)
 | n+1,L,hn,h => by
  have h1 := nodup_le n (L.erase n) (hn.erase n) (fun i hi => by
   rw [hn.mem_erase_iff] at hi
   have := h i hi.2
   omega)
  have h2 := List.length_erase (a:=n) (l:=L)
  split at h2 <;> omega
theorem length_le (N:Nat) (L:List Nat) (hN:1≤N) (hn:L.Nodup) (hl:∀ i ∈ L,1≤i∧i<N) : L.length+1≤N := by
 refine nodup_le N (0 :: L) (List.nodup_cons.2 ⟨fun h => by have := hl 0 h; omega,hn⟩) (fun i hi => ?_)
 rcases List.mem_cons.1 hi with rfl | h
 ·omega
 ·exact (hl i h).2
structure Ram (w:World) (p b m N:Nat) (B:Nat→Int) (L:List Nat) : Prop where
 mem : Mem w p b m N B (adr L) (hdL N L) (N - L.length)
 nd : L.Nodup
 lt : ∀ i ∈ L,1≤i∧i<N
 thr : Thr B L
theorem num_jb (B:Nat→Int) (o:Nat) (v:Int) (hv:0≤v∧v<18446744073709551616) (h:∀ k,k<8→B (o+k)=v / 256 ^ k % 256) : num B o 8=v := by
 have key : ∀ n,n≤8→num B o n=md v n := by
  intro n
  induction n with
  | zero => intro _; rw [md_zero]; rfl
  | succ n ih => intro hn; rw [md_step]; simp only [num]; rw [ih (by omega),h n (by omega),Int.mul_comm]
 rw [key 8 (by omega)]
 unfold md
 omega
end Rm
end Go.Proofs.YtabnipbdbnmmpaaGreatDoor
