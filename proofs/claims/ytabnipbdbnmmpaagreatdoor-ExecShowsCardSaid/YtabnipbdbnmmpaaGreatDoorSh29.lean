import Derived.Test.YtabnipbdbnmmpaaGreatDoorSh01
import Derived.Test.YtabnipbdbnmmpaaGreatDoorSh23
import Derived.Test.YtabnipbdbnmmpaaGreatDoorSh28
import Derived.Test.YtabnipbdbnmmpaaGreatDoorSh11
import Derived.Test.YtabnipbdbnmmpaaGreatDoorSh20
import Derived.Deep.RegionHeld3
import Derived.Laws.AppendOwn
import Derived.Laws.OwnMore
import Derived.WalkKit
import Derived.Below
import Derived.WalkSpells
import Derived.RowKit3
import Derived.Deep.Cut
import Derived.LoopTactic
import Derived.Laws.NewBlocks
import Derived.OwnWalk
import Derived.Test.YtabnipbdbnmmpaaGreatDoorSh22
import Derived.Test.YtabnipbdbnmmpaaGreatDoorSh19
import Derived.Deep.DeepCutAuto
set_option linter.unusedVariables false
set_option linter.unusedSimpArgs false
namespace Go.Proofs.YtabnipbdbnmmpaaGreatDoor
namespace Rm
open Go.RowKit
structure Tch (p b m x:Nat) (w w':World) : Prop where
 os : w'.os=w.os
 tape : w'.tape=w.tape
 output : w'.output=w.output
 size : w.heap.size≤w'.heap.size
 block : ∀ k,k<w.heap.size→k≠p→k≠b→k≠m→k≠x→w'.heap[k]? = w.heap[k]?
theorem Tch.trans {p b m x:Nat} {u v w:World} (h:Tch p b m x u v) (k:Tch p b m x v w) : Tch p b m x u w :=
 ⟨k.os.trans h.os,k.tape.trans h.tape,k.output.trans h.output,Nat.le_trans h.size k.size,fun i hi a c d e => (k.block i (Nat.lt_of_lt_of_le hi h.size) a c d e).trans (h.block i hi a c d e)⟩
theorem Tch.of {p b m x:Nat} {w w':World} (h:Fra p b m w w') : Tch p b m x w w' := ⟨h.os,h.tape,h.output,h.size,fun k hk a c d _ => h.block k hk a c d⟩
theorem Tch.fra {p b m x:Nat} {w v w':World} (hv:Fra p b m w v) (h:Tch p b m x v w') (hx:w.heap.size≤x) : Fra p b m w w' :=
 ⟨h.os.trans hv.os,h.tape.trans hv.tape,h.output.trans hv.output,Nat.le_trans hv.size h.size,fun k hk a c d => (h.block k (Nat.lt_of_lt_of_le hk hv.size) a c d (by omega)).trans (hv.block k hk a c d)⟩
theorem Tch.set {p b m x:Nat} {w:World} (k:Nat) (v:Value) : Tch p b m x w (w.setCell ⟨x,k,.none⟩ v) := ⟨rfl,rfl,rfl,by simp [World.setCell],fun i hi _ _ _ e => Below.heap_setCell _ _ _ _ (fun h => e h)⟩
theorem elemU8 (W:World) : (sizeOf (Tryz.prog.elem 24)).run Tryz.prog W = .ok 1 W := by
 have e : Tryz.prog.elem 24=5 := by kernel_rfl
 obtain ⟨i,z,hi,_,hs,_⟩ := info_of 5 1 1 (by kernel_rfl) (by kernel_rfl)
 rw [e]
 simp [sizeOf,typeInfo,hi,hs]
section
variable {w:World} {s p b m N:Nat} {B:Nat→Int} {L:List Nat} {F:Nat→Option Nat} {lf:Nat→Nat→Int}
end
end Rm
namespace Rm
open Go Go.RowKit
def pce (va:Int) (n k:Nat) : Nat := min (n - k) (4096 - ((va+k) % 4096).toNat)
theorem pce_b (va:Int) (n k:Nat) (h:k<n) : 1≤pce va n k∧k+pce va n k≤n∧((va+k) % 4096).toNat+pce va n k≤4096 := by
 unfold pce
 omega
def EaP (n:Nat) (J:Nat→World→Prop) (Jf:World→Prop) (e:Ending) (w':World) : Prop := (e = .returned (.bool true)∧J n w')∨(e = .returned (.bool false)∧Jf w')
set_option maxHeartbeats 2000000 in
theorem each_rd {w:World} {s:Nat} {u1 u2 d1 d2:Nat} (va:Int) (n:Nat) (hv:0≤va∧va+n≤274877906944) (J:Nat→World→Prop) (Jf:World→Prop) (pa:Nat→Int) (ok dok:Nat→Bool)
  (hat:∀ k W,k<n→J k W→Calls Tryz.prog 100 #[.int .u64 (va+k),.pointer (some ⟨u1,0,.none⟩),.pointer (some ⟨u2,0,.none⟩)] W fun e W' => e = .returned (.tuple #[.int .u64 (pa k),.bool (ok k)])∧J k W')
  (hno:∀ k W,k<n→ok k=false→J k W→Jf W)
  (hdo:∀ k W,k<n→ok k=true→J k W→Calls Tryz.prog 51 #[.int .u64 (pa k),.int .i64 (pce va n k),.pointer (some ⟨d1,0,.none⟩),.pointer (some ⟨d2,0,.none⟩)] W fun e W' => e = .returned (.bool (dok k))∧(dok k=true→J (k+pce va n k) W')∧(dok k=false→Jf W')) (h0:J 0 w) :
  Calls Tryz.prog 49 #[.pointer (some ⟨s,0,.none⟩),.int .u64 va,.int .i64 n,.func (.func 100) #[] #[.pointer (some ⟨u1,0,.none⟩),.pointer (some ⟨u2,0,.none⟩)],.func (.func 51) #[] #[.pointer (some ⟨d1,0,.none⟩),.pointer (some ⟨d2,0,.none⟩)]] w (EaP n J Jf) := by
 have HA : Hid (∀ k W,k<n→J k W→Calls Tryz.prog 100 #[.int .u64 (va+k),.pointer (some ⟨u1,0,.none⟩),.pointer (some ⟨u2,0,.none⟩)] W fun e W' => e = .returned (.tuple #[.int .u64 (pa k),.bool (ok k)])∧J k W') := hat
 have HN : Hid (∀ k W,k<n→ok k=false→J k W→Jf W) := hno
 have HD : Hid (∀ k W,k<n→ok k=true→J k W→Calls Tryz.prog 51 #[.int .u64 (pa k),.int .i64 (pce va n k),.pointer (some ⟨d1,0,.none⟩),.pointer (some ⟨d2,0,.none⟩)] W fun e W' => e = .returned (.bool (dok k))∧(dok k=true→J (k+pce va n k) W')∧(dok k=false→Jf W')) := hdo
 have H0 : Hid (J 0 w) := h0
 clear hat hno hdo h0
 go_enter Tryz.func49,Tryz.ntmps49
 go_wp2_with fail
 go_loopw [1,2] (fun v j wr => ∃ k : Nat,k≤n∧v = .int .u64 (va+k)∧j = .int .i64 (n - k)∧Hid (J k wr)) (fun _ j _ => (intOf j).toNat)
 case atStart => exact ⟨0,by omega,by simp,by simp,H0⟩
 case round =>
  clear H0
  obtain ⟨k,hk,rfl,rfl,HJ⟩ := hrel
  by_cases hkn : k<n
  ·have hpos : (0:Int)<n - k := by omega
   have ca := HA.out k wr hkn HJ.out
   have hb := pce_b va n k hkn
   have hrem : IntKind.u64.wrap ((va+k).tmod 4096)=(va+k) % 4096 := by rw [Int.tmod_eq_emod_of_nonneg (by omega),IntKind.wrap_u64]; omega
   have hsub : IntKind.u64.wrap (4096 - (va+k) % 4096)=4096 - (va+k) % 4096 := by rw [IntKind.wrap_u64]; omega
   have hcv : IntKind.i64.wrap (4096 - (va+k) % 4096)=4096 - (va+k) % 4096 := by rw [IntKind.wrap_i64]; omega
   have hpu : IntKind.u64.wrap (pce va n k:Int)=pce va n k := by rw [IntKind.wrap_u64]; omega
   have hva2 : IntKind.u64.wrap (va+k+pce va n k)=va+k+pce va n k := by rw [IntKind.wrap_u64]; omega
   by_cases hm : (n:Int) - k≤4096 - (va+k) % 4096
   ·have hm2 : ¬ 4096 - (va+k) % 4096<(n:Int) - k := by omega
    obtain ⟨pc,hpc⟩ : ∃ pc,pc=pce va n k := ⟨_,rfl⟩
    have e9 : (n:Int) - k=(pc:Int) := by rw [hpc]; unfold pce; omega
    rw [← hpc] at hb hpu hva2
    have HPC : Hid (pc=pce va n k) := hpc
    clear hpc
    have hnx : IntKind.i64.wrap ((n:Int) - k - pc)=n - k - pc := by rw [IntKind.wrap_i64]; omega
    go_wp2_with fail
    refine ca.mono ?_
    rintro _ w1 ⟨rfl,j1⟩
    have HJ1 : Hid (J k w1) := j1
    clear j1 ca HJ
    cases hok : ok k
    ·have HF : Hid (Jf w1) := HN.out k w1 hkn hok HJ1.out
     go_wp2_with fail
     go_ret
     exact .inr ⟨rfl,HF.out⟩
    ·have cd := HD.out k w1 hkn hok HJ1.out
     rw [← HPC.out] at cd
     cases hdk : dok k
     ·rw [hdk] at cd
      go_wp2_with fail
      refine cd.mono ?_
      rintro _ w2 ⟨rfl,_,hf⟩
      have HF : Hid (Jf w2) := hf (by first | rfl | trivial)
      clear hf cd
      go_wp2_with fail
      go_ret
      exact .inr ⟨rfl,HF.out⟩
     ·rw [hdk] at cd
      go_wp2_with fail
      refine cd.mono ?_
      rintro _ w2 ⟨rfl,ht,_⟩
      have HT : Hid (J (k+pc) w2) := ht (by first | rfl | trivial)
      clear ht cd
      go_wp2_with fail
      exact ⟨⟨k+pc,by omega,by congr 1; omega,by congr 1; omega,HT⟩,by simp only [intOf]; omega⟩
   ·have hm2 : 4096 - (va+k) % 4096<(n:Int) - k := by omega
    obtain ⟨pc,hpc⟩ : ∃ pc,pc=pce va n k := ⟨_,rfl⟩
    have e9 : 4096 - (va+k) % 4096=(pc:Int) := by rw [hpc]; unfold pce; omega
    rw [← hpc] at hb hpu hva2
    have HPC : Hid (pc=pce va n k) := hpc
    clear hpc
    have hnx : IntKind.i64.wrap ((n:Int) - k - pc)=n - k - pc := by rw [IntKind.wrap_i64]; omega
    go_wp2_with fail
    refine ca.mono ?_
    rintro _ w1 ⟨rfl,j1⟩
    have HJ1 : Hid (J k w1) := j1
    clear j1 ca HJ
    cases hok : ok k
    ·have HF : Hid (Jf w1) := HN.out k w1 hkn hok HJ1.out
     go_wp2_with fail
     go_ret
     exact .inr ⟨rfl,HF.out⟩
    ·have cd := HD.out k w1 hkn hok HJ1.out
     rw [← HPC.out] at cd
     cases hdk : dok k
     ·rw [hdk] at cd
      go_wp2_with fail
      refine cd.mono ?_
      rintro _ w2 ⟨rfl,_,hf⟩
      have HF : Hid (Jf w2) := hf (by first | rfl | trivial)
      clear hf cd
      go_wp2_with fail
      go_ret
      exact .inr ⟨rfl,HF.out⟩
     ·rw [hdk] at cd
      go_wp2_with fail
      refine cd.mono ?_
      rintro _ w2 ⟨rfl,ht,_⟩
      have HT : Hid (J (k+pc) w2) := ht (by first | rfl | trivial)
      clear ht cd
      go_wp2_with fail
      exact ⟨⟨k+pc,by omega,by congr 1; omega,by congr 1; omega,HT⟩,by simp only [intOf]; omega⟩
  ·obtain rfl : k=n := by omega
   go_wp2_with fail
   go_ret
   exact .inl ⟨rfl,HJ.out⟩
end Rm
namespace Rm
open Go Go.RowKit
theorem forUser_any (s:Nat) (a:Int) (w:World) : Calls Tryz.prog 50 #[.pointer (some ⟨s,0,.none⟩),.int .i64 a] w fun e w' => e = .returned (.func (.func 100) #[] #[.pointer (some ⟨w.heap.size,0,.none⟩),.pointer (some ⟨w.heap.size+1,0,.none⟩)])∧w'=(w.alloc (.cells #[.pointer (some ⟨s,0,.none⟩)] 42)).alloc (.cells #[.int .i64 a] 59) := by
 go_enter Tryz.func50,Tryz.ntmps50
 go_wp2
 go_ret
 exact ⟨rfl,rfl⟩
set_option maxHeartbeats 1000000 in
theorem user_any {w:World} {s p u1 u2:Nat} {root size:Int} (hS:Sp w s p root size) (va a x:Int) (y:Bool) (h1:w.cell? ⟨u1,0,.none⟩=some (.pointer (some ⟨s,0,.none⟩))) (h2:w.cell? ⟨u2,0,.none⟩=some (.int .i64 a))
  (c66:∀ W,Below w.heap.size w W→Calls Tryz.prog 18 #[.pointer (some ⟨p,0,.none⟩),.int .u64 root,.int .u64 va,.int .i64 a] W fun e w' => e = .returned (.tuple #[.int .u64 x,.bool y])∧Below W.heap.size W w') :
  Calls Tryz.prog 100 #[.int .u64 va,.pointer (some ⟨u1,0,.none⟩),.pointer (some ⟨u2,0,.none⟩)] w fun e w' => e = .returned (.tuple #[.int .u64 x,.bool y])∧Below w.heap.size w w' := by
 have k0 := hS.c0
 have k1 := hS.c1
 have HC : Hid (∀ W,Below w.heap.size w W→Calls Tryz.prog 18 #[.pointer (some ⟨p,0,.none⟩),.int .u64 root,.int .u64 va,.int .i64 a] W fun e w' => e = .returned (.tuple #[.int .u64 x,.bool y])∧Below W.heap.size W w') := c66
 clear hS c66
 have kS : Below w.heap.size w w.drew := (Below.refl _ _).drew
 have b0 := lt_of_cell k0
 have b1 := lt_of_cell h1
 have b2 := lt_of_cell h2
 simp only at b0 b1 b2
 go_enter Tryz.func100,Tryz.ntmps100
 go_upto_region 1 with fail
 refine wp_region_held_drew (S:=fun U => Below w.heap.size w U) (by kernel_rfl) kS (fun hHeld => ?_)
 refine aT 0 (.pointer (some ⟨s,0,.none⟩)) rfl ?_ (fun ww hSw => by (try dsimp only at hSw); have q0 := (Below.cell hSw (p:=⟨u1,0,.none⟩) (by simp only; omega)).trans h1; go_simp)
 simp only [X0,X1,X2,X3,X4,X5,X6]
 refine aT 1 (.pointer (some ⟨s,0,.none⟩)) rfl ?_
 simp only [X0,X1,X2,X3,X4,X5,X6]
 refine aT 2 (.pointer (some ⟨s,0,.none⟩)) rfl ?_
 simp only [X0,X1,X2,X3,X4,X5,X6]
 refine aT 3 (.pointer (some ⟨s,0,.none⟩)) rfl ?_
 simp only [X0,X1,X2,X3,X4,X5,X6]
 refine aT 4 (.pointer (some ⟨p,0,.none⟩)) rfl ?_ (fun ww hSw => by (try dsimp only at hSw); have q0 := (Below.cell hSw (p:=⟨s,0,.none⟩) (by simp only; omega)).trans k0; go_simp)
 simp only [X0,X1,X2,X3,X4,X5,X6]
 refine aT 5 (.pointer (some ⟨s,0,.none⟩)) rfl ?_ (fun ww hSw => by (try dsimp only at hSw); have q0 := (Below.cell hSw (p:=⟨u1,0,.none⟩) (by simp only; omega)).trans h1; go_simp)
 simp only [X0,X1,X2,X3,X4,X5,X6]
 refine aT 6 (.pointer (some ⟨s,0,.none⟩)) rfl ?_
 simp only [X0,X1,X2,X3,X4,X5,X6]
 refine aT 7 (.pointer (some ⟨s,0,.none⟩)) rfl ?_
 simp only [X0,X1,X2,X3,X4,X5,X6]
 refine aT 8 (.pointer (some ⟨s,1,.none⟩)) rfl ?_
 simp only [X0,X1,X2,X3,X4,X5,X6]
 refine aT 9 (.int .u64 root) rfl ?_ (fun ww hSw => by (try dsimp only at hSw); have q0 := (Below.cell hSw (p:=⟨s,1,.none⟩) (by simp only; omega)).trans k1; go_simp)
 simp only [X0,X1,X2,X3,X4,X5,X6]
 refine aT 10 (.int .u64 va) rfl ?_
 simp only [X0,X1,X2,X3,X4,X5,X6]
 refine aT 11 (.int .i64 a) rfl ?_ (fun ww hSw => by (try dsimp only at hSw); have q0 := (Below.cell hSw (p:=⟨u2,0,.none⟩) (by simp only; omega)).trans h2; go_simp)
 simp only [X0,X1,X2,X3,X4,X5,X6]
 refine wpAnyH_ready (rs:=[12]) (by kernel_rfl) (by simp) ?_
 refine AllReadyH.cons rfl (fun K hK => ?_) AllReadyH.nil
 go_simp
 go_at_call 18
 refine (HC.out _ hHeld).mono ?_
 rintro _ w2 ⟨rfl,b9⟩
 have k9 : Below w.heap.size w w2 := hHeld.trans (b9.mono hHeld.size)
 clear hHeld b9
 refine hK.out _ _ k9 (fun hHeld => ?_)
 clear hK K
 try simp only [X0,X1,X2,X3,X4,X5,X6]
 refine aT 13 (.int .u64 x) rfl ?_
 simp only [X0,X1,X2,X3,X4,X5,X6]
 refine aT 14 (.bool y) rfl ?_
 simp only [X0,X1,X2,X3,X4,X5,X6]
 refine aT 15 (.int .u64 x) rfl ?_
 simp only [X0,X1,X2,X3,X4,X5,X6]
 refine aT 16 (.bool y) rfl ?_
 simp only [X0,X1,X2,X3,X4,X5,X6]
 refine wpAnyH_done (by kernel_rfl) ?_ _
 go_wp2_with fail
 refine bodyPost_ret (v:=.tuple #[.int .u64 x,.bool y]) (by simp [results,Tryz.results100,go_sem]) rfl ⟨rfl,hHeld⟩
end Rm
namespace Rm
open Go Go.RowKit
def pcB (B:Nat→Int) (o n:Nat) : List Value := (List.range n).map fun i => .int .u8 (B (o+i))
theorem pcB_len (B:Nat→Int) (o n:Nat) : (pcB B o n).length=n := by simp [pcB]
def I1P (W:World) (A d2 k n T:Nat) (bs:List Value) (e:Ending) (w':World) : Prop := e = .returned (.bool true) ∧ ∃ W2 q',Below W.heap.size W W2∧w'=(W2.setCells A k bs).setCell ⟨d2,0,.none⟩ (.slice q' (T - n : Nat) (T - n : Nat))∧(n<T→q'=some ⟨A,k+n,.none⟩)
set_option maxRecDepth 100000 in
set_option maxHeartbeats 2000000 in
theorem in1_any {W:World} {s p b m N:Nat} {B:Nat→Int} {L:List Nat} {root size:Int} (hS:Sp W s p root size) (hR:Ram W p b m N B L) (q o n:Nat) (hq:q<N∧q ∉ L) (hn:1≤n) (ho:o+n≤4096) (d1 d2 A k T:Nat)
  (h1:W.cell? ⟨d1,0,.none⟩=some (.pointer (some ⟨s,0,.none⟩))) (h2:W.cell? ⟨d2,0,.none⟩=some (.slice (some ⟨A,k,.none⟩) T T)) (f2:W.frozen? ⟨d2,0,.none⟩=false) (hnT:n≤T∧T≤9223372036854775807) (hA:∀ j,j<T→(W.cell? ⟨A,k+j,.none⟩).isSome=true) (fA:∀ j,j<T→W.frozen? ⟨A,k+j,.none⟩=false) (hne:d2≠A) :
  Calls Tryz.prog 51 #[.int .u64 (ad q+o),.int .i64 n,.pointer (some ⟨d1,0,.none⟩),.pointer (some ⟨d2,0,.none⟩)] W (I1P W A d2 k n T (pcB B (q*4096+o) n)) := by
 have k0 := hS.c0
 have hN := hR.mem.n2
 have c55 : Calls Tryz.prog 20 #[.pointer (some ⟨p,0,.none⟩),.int .u64 (ad q+o),.int .i64 n] W fun e w' => ReadP W n (fun i => B (q*4096+o+i)) e w' := by
  have := read_ok hR.mem (q*4096+o) n hn (by omega) (fun f e1 e2 => by
   obtain rfl : f=q := by omega
   rw [hdL_in hq.1]
   simpa using hq.2)
  have e : ad q+o=2147483648+((q*4096+o : Nat) : Int) := by unfold ad; omega
  rw [e]
  exact this
 clear hS hR
 have hAl : A<W.heap.size := by
  have := hA 0 (by omega)
  obtain ⟨v,hv⟩ := Option.isSome_iff_exists.1 this
  exact lt_of_cell hv
 have hdl := lt_of_cell h2
 simp only at hdl
 go_enter Tryz.func51,Tryz.ntmps51
 go_wp2_with fail
 refine c55.mono ?_
 rintro _ W2 ⟨g,g1,g2,rfl,g3,g4,b2⟩
 clear c55
 have z2 := (b2.cell (p:=⟨d2,0,.none⟩) hdl).trans h2
 have zf := (b2.frozen (p:=⟨d2,0,.none⟩) hdl).trans f2
 have hcp : ∀ (X:World) ty,Below W2.heap.size W2 X→(Builtin.copy_ #[24,24] ty #[.slice (some ⟨A,k,.none⟩) T T,.slice (some ⟨g,0,.none⟩) n n]).run Tryz.prog X = .ok (.int .i64 n) (X.setCells A k (pcB B (q*4096+o) n)) := fun X ty bX => by
  have := run_copy_cells (P:=Tryz.prog) X 24 24 ty 5 A k T T ⟨g,0,.none⟩ n n (pcB B (q*4096+o) n) (by kernel_rfl) (by kernel_rfl) (by rw [pcB_len]; exact (Nat.min_eq_left hnT.1).symm) (fun j v hj => ?_) (fun j hj => ?_) (fun j hj => ?_) (fun v hv => ?_)
  ·rw [pcB_len] at this
   exact this
  ·have hjn : j<n := by
    rcases Nat.lt_or_ge j n with h | h
    ·exact h
    ·rw [List.getElem?_eq_none (by rw [pcB_len]; exact h)] at hj
     cases hj
   have e : v = .int .u8 (B (q*4096+o+j)) := by
    unfold pcB at hj
    rw [List.getElem?_map,List.getElem?_range hjn] at hj
    simpa using hj.symm
   rw [e]
   have hadd : (⟨g,0,.none⟩ : Addr).add j=⟨g,j,.none⟩ := by unfold Addr.add; split <;> simp_all
   rw [hadd]
   exact (bX.cell (p:=⟨g,j,.none⟩) g2).trans (g3 j hjn)
  ·rw [pcB_len] at hj
   rw [bX.cell (p:=⟨A,k+j,.none⟩) (by simp only; have := b2.size; omega),b2.cell (p:=⟨A,k+j,.none⟩) hAl]
   exact hA j (by omega)
  ·rw [pcB_len] at hj
   rw [bX.frozen (p:=⟨A,k+j,.none⟩) (by simp only; have := b2.size; omega),b2.frozen (p:=⟨A,k+j,.none⟩) hAl]
   exact fA j (by omega)
  ·unfold pcB at hv
   obtain ⟨_,_,rfl⟩ := List.mem_map.1 hv
   rfl
 have HCP : Hid (∀ (X:World) ty,Below W2.heap.size W2 X→(Builtin.copy_ #[24,24] ty #[.slice (some ⟨A,k,.none⟩) T T,.slice (some ⟨g,0,.none⟩) n n]).run Tryz.prog X = .ok (.int .i64 n) (X.setCells A k (pcB B (q*4096+o) n))) := hcp
 have HB2 : Hid (Below W.heap.size W W2) := b2
 clear hcp g1 g2 g3 g4 b2 hA fA h2 f2 h1 k0
 obtain ⟨q',hq'⟩ : ∃ q',q'=if T=n then some (⟨A,k,.none⟩ : Addr) else some ⟨A,k+n,.none⟩ := ⟨_,rfl⟩
 have hsl : ∀ X : World,(Instr.slice 24 (.slice (some ⟨A,k,.none⟩) T T) (some (.int .i64 n)) none none).run Tryz.prog X = .ok (.slice q' (T - n : Nat) (T - n : Nat)) X := fun X => by
  rw [run_slice_l X 24 (some ⟨A,k,.none⟩) T T (by kernel_rfl) .i64 n (by omega) (by omega),elemU8,hq']
  have hadd : (⟨A,k,.none⟩ : Addr).add n=⟨A,k+n,.none⟩ := by unfold Addr.add; split <;> simp_all
  by_cases e : T=n
  ·simp [Result.andThen,sliced,e]
  ·simp [Result.andThen,sliced,e,hadd]
 have HQ : Hid (n<T→q'=some ⟨A,k+n,.none⟩) := fun h => by rw [hq',if_neg (by omega)]
 clear hq'
 go_upto_region 2 with fail
 have y2 : W2.drew.cell? ⟨d2,0,.none⟩=some (.slice (some ⟨A,k,.none⟩) T T) := z2
 have yf : W2.drew.frozen? ⟨d2,0,.none⟩=false := zf
 have hc8 := fun ty => HCP.out W2.drew ty (Below.refl _ _).drew
 obtain ⟨X,hX⟩ : ∃ X,X=W2.drew.setCells A k (pcB B (q*4096+o) n) := ⟨_,rfl⟩
 rw [← hX] at hc8
 have k8 : X.cell? ⟨d2,0,.none⟩=some (.slice (some ⟨A,k,.none⟩) T T) := by rw [hX]; exact (World.cell?_setCells_out A _ k W2.drew ⟨d2,0,.none⟩ (fun e => absurd e hne)).trans z2
 have k7 : X.frozen? ⟨d2,0,.none⟩=false := by rw [hX]; exact (World.frozen?_setCells A _ k W2.drew ⟨d2,0,.none⟩).trans zf
 have HX : Hid (X=W2.drew.setCells A k (pcB B (q*4096+o) n)) := hX
 clear hX z2 zf
 go_region
 all_goals
  go_wp2_with fail
  go_ret
  refine ⟨rfl,W2.drew,q',HB2.out.drew,?_,HQ.out⟩
  rw [HX.out]
end Rm
namespace Rm.Fz
open Go.RowKit
structure Fs (E M:Nat) (n:Nat→Nat) (v:Nat→Value) (w wr:World) (xs:Nat→List Value) : Prop where
 row : ∀ i,i<M→wr.ownsRow 0 E 1 (v i) (n i) (xs i)
 os : wr.os=w.os
 tape : wr.tape=w.tape
 output : wr.output=w.output
 size : w.heap.size≤wr.heap.size
 block : ∀ k,k<w.heap.size→(∀ i,i<M→some k≠(v i).ownBlock)→wr.heap[k]? = w.heap[k]?
variable {E M:Nat} {n:Nat→Nat} {v:Nat→Value} {w wr:World} {xs:Nat→List Value}
end Rm.Fz
namespace Rm
open Go Go.RowKit Fz
attribute [local go_sem] Oper.semAt_some
attribute [local irreducible] eM evs
section
variable {N:Nat} {L:List Nat} {B:Nat→Int}
end
structure C3 (W:World) (P:Nat) (x0 x1 x2:Value) : Prop where
 c0 : W.cell? ⟨P,0,.none⟩=some x0
 c1 : W.cell? ⟨P,1,.none⟩=some x1
 c2 : W.cell? ⟨P,2,.none⟩=some x2
 f0 : W.frozen? ⟨P,0,.none⟩=false
 f1 : W.frozen? ⟨P,1,.none⟩=false
 f2 : W.frozen? ⟨P,2,.none⟩=false
end Rm
namespace Rm
open Go Go.RowKit
def setN (F:Nat→Option Nat) (x:Nat) : Nat→Option Nat := fun y => if y=x then none else F y
def clrE (lf:Nat→Nat→Int) (c:Nat) : Nat→Nat→Int := fun a b => if a=c then 0 else lf a b
section
variable {N:Nat} {L:List Nat} {B:Nat→Int} {F:Nat→Option Nat} {lf:Nat→Nat→Int}
theorem PT.drop {f x g e:Nat} {B1:Nat→Int} (h:PT N L B F lf) (hx:x≤512) (hg:F x=some g) (he:e<512) (hf:F (ch x e)=some f) (hc:ch x e≤512 → ∀ d,d<512→F (ch (ch x e) d)=none)
  (hB:∀ q,q≠f → ∀ k,k<4096→B1 (q*4096+k)=B (q*4096+k)) : PT N (f :: L) (over B1 (g*4096+e*8) (le 0 8)) (setN F (ch x e)) (clrE lf (ch x e)) := by
 have sF : ∀ z,z≠ch x e→setN F (ch x e) z=F z := fun z hz => by unfold setN; rw [if_neg hz]
 have sT : setN F (ch x e) (ch x e)=none := by unfold setN; rw [if_pos rfl]
 have nc : ∀ z q,setN F (ch x e) z=some q→z≠ch x e∧F z=some q := fun z q hz => by
  by_cases e2 : z=ch x e
  ·rw [e2,sT] at hz; cases hz
  ·exact ⟨e2,by rw [sF z e2] at hz; exact hz⟩
 have hqf : ∀ z q,z≠ch x e→F z=some q→q≠f := fun z q hz hq e2 => hz (h.inj z (ch x e) q hq (by rw [e2]; exact hf))
 have ev1 : ∀ q d,d<512→q≠f→evn B1 q d=evn B q d := fun q d hd hq => num_ext _ _ _ _ fun k hk => by rw [Nat.add_assoc]; exact hB q hq _ (by omega)
 refine ⟨?_,fun z q hz => ?_,fun z y q hz hy => ?_,fun z d hz hd hne => ?_,fun z hz => ?_,fun z q hz hq d hd => ?_,fun z q hz hq d hd => ?_,fun y k => ?_,fun y hy k => ?_⟩
 ·obtain ⟨r,hr⟩ := h.root
  exact ⟨r,by rw [sF 0 (by have := ch_pos x e; omega)]; exact hr⟩
 ·obtain ⟨h1,h2⟩ := nc z q hz
  have h3 := h.held z q h2
  refine ⟨h3.1,h3.2.1,fun hm => ?_⟩
  rcases List.mem_cons.1 hm with h4 | h4
  ·exact hqf z q h1 h2 h4
  ·exact h3.2.2 h4
 ·exact h.inj z y q (nc z q hz).2 (nc y q hy).2
 ·by_cases e2 : ch z d=ch x e
  ·rw [e2,sT] at hne
   exact absurd rfl hne
  ·rw [sF _ e2] at hne
   have e3 : z≠ch x e := fun e3 => by
    subst e3
    exact hne (hc hz d hd)
   rw [sF z e3]
   exact h.up z d hz hd hne
 ·by_cases e2 : z=ch x e
  ·rw [e2,sT] at hz
   exact absurd rfl hz
  ·rw [sF z e2] at hz
   exact h.dom z hz
 ·obtain ⟨h1,h2⟩ := nc z q hq
  have h3 := hqf z q h1 h2
  by_cases e3 : q=g∧d=e
  ·obtain ⟨rfl,rfl⟩ := e3
   obtain rfl : z=x := h.inj z x q h2 hg
   rw [sT,evn_over_same _ _ _ _ (by omega)]
   rfl
  ·rw [evn_over_other _ _ _ _ _ _ he hd (by
     by_cases e4 : q=g
     ·exact .inr (fun e5 => e3 ⟨e4,e5⟩)
     ·exact .inl e4),ev1 q d hd h3,h.ep z q hz h2 d hd,sF]
   intro e4
   obtain ⟨rfl,rfl⟩ := ch_inj hz hx hd he e4
   rw [hg] at h2
   injection h2 with h2
   exact e3 ⟨h2.symm,rfl⟩
 ·obtain ⟨h1,h2⟩ := nc z q hq
  have h3 := hqf z q h1 h2
  rw [evn_over_other _ _ _ _ _ _ he hd (.inl (fun e3 => by subst e3; have := h.inj z x q h2 hg; omega)),ev1 q d hd h3,h.el z q hz h2 d hd]
  unfold clrE
  rw [if_neg h1]
 ·unfold clrE
  split
  ·exact .inl rfl
  ·exact h.lv y k
 ·unfold clrE
  split
  ·rfl
  ·next e2 =>
   rw [sF y e2] at hy
   exact h.ln y hy k
end
end Rm
namespace Rm
open Go Go.RowKit
attribute [local go_sem] Oper.semAt_some
theorem nodeL_any {w:World} (a0 a1 a2 l e k lv a:Int) (h:(lv=0∧a=a0)∨(lv=1∧a=a1)∨(lv=2∧a=a2)) (ha:0≤a∧a<18446744073709551616) : Calls Tryz.prog 190 #[.agg #[.int .u64 a0,.int .u64 a1,.int .u64 a2,.int .i64 l,.int .u64 e,.int .i64 k],.int .i64 lv] w fun e w' => e = .returned (.int .u64 (a - a % 4096))∧Below w.heap.size w w' := by
 rcases h with ⟨rfl,rfl⟩ | ⟨rfl,rfl⟩ | ⟨rfl,rfl⟩
 all_goals
  go_enter Tryz.func190,Tryz.ntmps190
  go_wp2
  go_quiet (fail)
  go_wp2
  go_ret
  exact ⟨rfl,(below1 _ _).trans (blw_drewN _ _ _)⟩
theorem ft_all (B:Nat→Int) (g:Nat) : ∀ k j : Nat,(∀ i,j≤i→i<j+k→hs (B (g*4096+i*8)) 1=false)→ft B g k j=512
 | 0,j,h => rfl
 | k+1,j,h => by
  simp only [ft]
  rw [h j (Nat.le_refl _) (by omega)]
  simp only [Bool.false_eq_true,if_false]
  exact ft_all B g k (j+1) (fun i h1 h2 => h i (by omega) (by omega))
section
variable {N:Nat} {L:List Nat} {B:Nat→Int} {F:Nat→Option Nat} {lf:Nat→Nat→Int}
theorem byte_even (hB:∀ i,0≤B i∧B i<256) (g i:Nat) (h:evn B g i=0) : hs (B (g*4096+i*8)) 1=false := by
 have h1 := num_odd B (g*4096+i*8)
 unfold evn at h
 rw [h] at h1
 have := hB (g*4096+i*8)
 rw [hs_odd _ (by omega)]
 exact decide_eq_false (by omega)
theorem PT.ftL (h:PT N L B F lf) (hB:∀ i,0≤B i∧B i<256) {y q:Nat} (hy:513≤y) (hq:F y=some q) : ft B q 512 0=512 ↔ ∀ k,k<512→lf y k=0 := by
 constructor
 ·intro e k hk
  exact h.noL hB hy hq hk (ft_none B q 512 0 k (by omega) (by omega) (by omega))
 ·intro e
  refine ft_all B q 512 0 fun i _ hi => byte_even hB q i ?_
  rw [h.el y q hy hq i (by omega),e i (by omega)]
theorem PT.ftP (h:PT N L B F lf) (hN:N≤4096) (hB:∀ i,0≤B i∧B i<256) {x g:Nat} (hx:x≤512) (hg:F x=some g) : ft B g 512 0=512 ↔ ∀ d,d<512→F (ch x d)=none := by
 constructor
 ·intro e k hk
  exact h.noP hN hB hx hg hk (ft_none B g 512 0 k (by omega) (by omega) (by omega))
 ·intro e
  refine ft_all B g 512 0 fun i _ hi => byte_even hB g i ?_
  rw [h.ep x g hx hg i (by omega),e i (by omega)]
  rfl
end
def PrR (L:List Nat) (F:Nat→Option Nat) (lf:Nat→Nat→Int) (va:Int) (q g:Nat) (L':List Nat) (F':Nat→Option Nat) (lf':Nat→Nat→Int) : Prop :=
 (L'=L∧F'=F∧lf'=lf∧¬ ∀ k,k<512→lf (y0 va) k=0) ∨
 (L'=q :: L∧F'=setN F (y0 va)∧lf'=clrE lf (y0 va)∧(∀ k,k<512→lf (y0 va) k=0)∧¬ ∀ d,d<512→setN F (y0 va) (ch (y1 va) d)=none) ∨
 (L'=g :: q :: L∧F'=setN (setN F (y0 va)) (y1 va)∧lf'=clrE (clrE lf (y0 va)) (y1 va)∧(∀ k,k<512→lf (y0 va) k=0) ∧ ∀ d,d<512→setN F (y0 va) (ch (y1 va) d)=none)
def PrS (N:Nat) (L:List Nat) (F:Nat→Option Nat) (lf:Nat→Nat→Int) (va:Int) (q g:Nat) (J:Nat) (L':List Nat) (B':Nat→Int) (F':Nat→Option Nat) (lf':Nat→Nat→Int) : Prop :=
 PT N L' B' F' lf'∧(J=0∧L'=L∧F'=F∧lf'=lf ∨
 J=1∧L'=q :: L∧F'=setN F (y0 va)∧lf'=clrE lf (y0 va)∧(∀ k,k<512→lf (y0 va) k=0) ∨
 J=2∧L'=g :: q :: L∧F'=setN (setN F (y0 va)) (y1 va)∧lf'=clrE (clrE lf (y0 va)) (y1 va)∧(∀ k,k<512→lf (y0 va) k=0) ∧ ∀ d,d<512→setN F (y0 va) (ch (y1 va) d)=none)
section
variable {w:World} {p b m N:Nat} {B:Nat→Int} {L:List Nat} {F:Nat→Option Nat} {lf:Nat→Nat→Int}
theorem store_r (h:Ram w p b m N B L) (f:Nat) (va:Int) (l:Int) (hf:ndB N L (ad f)=true) : Calls Tryz.prog 160 #[.pointer (some ⟨p,0,.none⟩),.int .u64 (st (ad f) va l),.int .i64 8,.int .u64 0] w fun e w' => e = .returned (.bool true)∧Ram w' p b m N (over B (f*4096+(ix va l).toNat*8) (le 0 8)) L∧Fra p b m w w' := by
 have := store_nd h (ad f) va l 0 hf (by omega)
 rw [show fi (ad f)=f from fi_adr f] at this
 exact this
theorem st_node (f:Nat) (va l:Int) (N:Nat) (hf:f<N) (hN:N≤4096) : st (ad f) va l - st (ad f) va l % 4096=ad f∧0≤st (ad f) va l∧st (ad f) va l<18446744073709551616 := by
 have := ix_b va l
 unfold st ad
 omega
theorem nd_of {f N:Nat} {L:List Nat} (h1:1≤f) (h2:f<N) (h3:f ∉ L) (hN:N≤4096) : ndB N L (ad f)=true := ndB_mk h1 h2 h3
end
end Rm
namespace Rm
open Go Go.RowKit
attribute [local go_sem] Oper.semAt_some
section
variable {w:World} {p b m N:Nat} {B:Nat→Int} {L:List Nat} {F:Nat→Option Nat} {lf:Nat→Nat→Int}
theorem PT.way (h:PT N L B F lf) (va:Int) (hl:lf (y0 va) (i0 va)≠0) : ∃ g q,F (y1 va)=some g∧F (y0 va)=some q := by
 have h0 : F (y0 va)≠none := fun e => hl (h.ln _ e _)
 have h1 : F (y1 va)≠none := h.up (y1 va) (i1 va) (y1_le va).1 (i1_lt va) h0
 cases e1 : F (y1 va) with
 | none => exact absurd e1 h1
 | some g =>
  cases e0 : F (y0 va) with
  | none => exact absurd e0 h0
  | some q => exact ⟨g,q,rfl,rfl⟩
end
end Rm
namespace Rm
open Go Go.RowKit Fz
attribute [local go_sem] Oper.semAt_some
def prt (V:Nat→Int) (s:Int) : Nat→Nat
 | 0 => 0
 | n+1 => prt V s n+if ∀ k,k<n→V k / s≠V n / s then 1 else 0
end Rm
namespace Rm
open Go Go.RowKit Fz
attribute [local go_sem] Oper.semAt_some
abbrev Pg := Int × Int × Int
def gV (l:List Pg) (i:Nat) : Int := (l.getD i (0,0,0)).1
end Rm
end Go.Proofs.YtabnipbdbnmmpaaGreatDoor
