import Derived.Test.YtabnipbdbnmmpaaGreatDoorSh01
import Derived.Test.YtabnipbdbnmmpaaGreatDoorSh29
import Derived.Test.YtabnipbdbnmmpaaGreatDoorSh33
import Derived.Test.YtabnipbdbnmmpaaGreatDoorSh23
set_option linter.unusedVariables false
set_option linter.unusedSimpArgs false
namespace Go.Proofs.YtabnipbdbnmmpaaGreatDoor
namespace Rm
open Go Go.RowKit
set_option maxHeartbeats 2000000 in
theorem each_poke {w:World} {s:Nat} {d1 d2:Nat} (va:Int) (n:Nat) (hv:0≤va∧va+n≤274877906944) (J:Nat→World→Prop) (Jf:World→Prop) (pa:Nat→Int) (ok dok:Nat→Bool)
  (hat:∀ k W,k<n→J k W→Calls Tryz.prog 149 #[.pointer (some ⟨s,0,.none⟩),.int .u64 (va+k)] W fun e W' => e = .returned (.tuple #[.int .u64 (pa k),.bool (ok k)])∧J k W')
  (hno:∀ k W,k<n→ok k=false→J k W→Jf W)
  (hdo:∀ k W,k<n→ok k=true→J k W→Calls Tryz.prog 102 #[.int .u64 (pa k),.int .i64 (pce va n k),.pointer (some ⟨d1,0,.none⟩),.pointer (some ⟨d2,0,.none⟩)] W fun e W' => e = .returned (.bool (dok k))∧(dok k=true→J (k+pce va n k) W')∧(dok k=false→Jf W')) (h0:J 0 w) :
  Calls Tryz.prog 49 #[.pointer (some ⟨s,0,.none⟩),.int .u64 va,.int .i64 n,.func (.func 149) #[.pointer (some ⟨s,0,.none⟩)] #[],.func (.func 102) #[] #[.pointer (some ⟨d1,0,.none⟩),.pointer (some ⟨d2,0,.none⟩)]] w (EaP n J Jf) := by
 have HA : Hid (∀ k W,k<n→J k W→Calls Tryz.prog 149 #[.pointer (some ⟨s,0,.none⟩),.int .u64 (va+k)] W fun e W' => e = .returned (.tuple #[.int .u64 (pa k),.bool (ok k)])∧J k W') := hat
 have HN : Hid (∀ k W,k<n→ok k=false→J k W→Jf W) := hno
 have HD : Hid (∀ k W,k<n→ok k=true→J k W→Calls Tryz.prog 102 #[.int .u64 (pa k),.int .i64 (pce va n k),.pointer (some ⟨d1,0,.none⟩),.pointer (some ⟨d2,0,.none⟩)] W fun e W' => e = .returned (.bool (dok k))∧(dok k=true→J (k+pce va n k) W')∧(dok k=false→Jf W')) := hdo
 have H0 : Hid (J 0 w) := h0
 clear hat hno hdo h0
 go_enter Tryz.func49,Tryz.ntmps49
 go_wp2_with fail
 go_loopw [1,2] (fun v j wr => ∃ k : Nat,k≤n∧v = .int .u64 (va+k)∧j = .int .i64 (n - k)∧Hid (J k wr)) (fun _ j _ => (intOf j).toNat)
 case atStart => exact ⟨0,by omega,by simp,by simp,H0⟩
 case round =>
  clear H0
  obtain ⟨k,hk,rfl,rfl,HJ⟩ := hrel
  by_cases hkn : k<n
  ·have hpos : (0:Int)<n - k := by omega
   have ca := HA.out k wr hkn HJ.out
   have hb := pce_b va n k hkn
   have hrem : IntKind.u64.wrap ((va+k).tmod 4096)=(va+k) % 4096 := by rw [Int.tmod_eq_emod_of_nonneg (by omega),IntKind.wrap_u64]; omega
   have hsub : IntKind.u64.wrap (4096 - (va+k) % 4096)=4096 - (va+k) % 4096 := by rw [IntKind.wrap_u64]; omega
   have hcv : IntKind.i64.wrap (4096 - (va+k) % 4096)=4096 - (va+k) % 4096 := by rw [IntKind.wrap_i64]; omega
   have hpu : IntKind.u64.wrap (pce va n k:Int)=pce va n k := by rw [IntKind.wrap_u64]; omega
   have hva2 : IntKind.u64.wrap (va+k+pce va n k)=va+k+pce va n k := by rw [IntKind.wrap_u64]; omega
   by_cases hm : (n:Int) - k≤4096 - (va+k) % 4096
   ·have hm2 : ¬ 4096 - (va+k) % 4096<(n:Int) - k := by omega
    obtain ⟨pc,hpc⟩ : ∃ pc,pc=pce va n k := ⟨_,rfl⟩
    have e9 : (n:Int) - k=(pc:Int) := by rw [hpc]; unfold pce; omega
    rw [← hpc] at hb hpu hva2
    have HPC : Hid (pc=pce va n k) := hpc
    clear hpc
    have hnx : IntKind.i64.wrap ((n:Int) - k - pc)=n - k - pc := by rw [IntKind.wrap_i64]; omega
    go_wp2_with fail
    refine ca.mono ?_
    rintro _ w1 ⟨rfl,j1⟩
    have HJ1 : Hid (J k w1) := j1
    clear j1 ca HJ
    cases hok : ok k
    ·have HF : Hid (Jf w1) := HN.out k w1 hkn hok HJ1.out
     go_wp2_with fail
     go_ret
     exact .inr ⟨rfl,HF.out⟩
    ·have cd := HD.out k w1 hkn hok HJ1.out
     rw [← HPC.out] at cd
     cases hdk : dok k
     ·rw [hdk] at cd
      go_wp2_with fail
      refine cd.mono ?_
      rintro _ w2 ⟨rfl,_,hf⟩
      have HF : Hid (Jf w2) := hf (by first | rfl | trivial)
      clear hf cd
      go_wp2_with fail
      go_ret
      exact .inr ⟨rfl,HF.out⟩
     ·rw [hdk] at cd
      go_wp2_with fail
      refine cd.mono ?_
      rintro _ w2 ⟨rfl,ht,_⟩
      have HT : Hid (J (k+pc) w2) := ht (by first | rfl | trivial)
      clear ht cd
      go_wp2_with fail
      exact ⟨⟨k+pc,by omega,by congr 1; omega,by congr 1; omega,HT⟩,by simp only [intOf]; omega⟩
   ·have hm2 : 4096 - (va+k) % 4096<(n:Int) - k := by omega
    obtain ⟨pc,hpc⟩ : ∃ pc,pc=pce va n k := ⟨_,rfl⟩
    have e9 : 4096 - (va+k) % 4096=(pc:Int) := by rw [hpc]; unfold pce; omega
    rw [← hpc] at hb hpu hva2
    have HPC : Hid (pc=pce va n k) := hpc
    clear hpc
    have hnx : IntKind.i64.wrap ((n:Int) - k - pc)=n - k - pc := by rw [IntKind.wrap_i64]; omega
    go_wp2_with fail
    refine ca.mono ?_
    rintro _ w1 ⟨rfl,j1⟩
    have HJ1 : Hid (J k w1) := j1
    clear j1 ca HJ
    cases hok : ok k
    ·have HF : Hid (Jf w1) := HN.out k w1 hkn hok HJ1.out
     go_wp2_with fail
     go_ret
     exact .inr ⟨rfl,HF.out⟩
    ·have cd := HD.out k w1 hkn hok HJ1.out
     rw [← HPC.out] at cd
     cases hdk : dok k
     ·rw [hdk] at cd
      go_wp2_with fail
      refine cd.mono ?_
      rintro _ w2 ⟨rfl,_,hf⟩
      have HF : Hid (Jf w2) := hf (by first | rfl | trivial)
      clear hf cd
      go_wp2_with fail
      go_ret
      exact .inr ⟨rfl,HF.out⟩
     ·rw [hdk] at cd
      go_wp2_with fail
      refine cd.mono ?_
      rintro _ w2 ⟨rfl,ht,_⟩
      have HT : Hid (J (k+pc) w2) := ht (by first | rfl | trivial)
      clear ht cd
      go_wp2_with fail
      exact ⟨⟨k+pc,by omega,by congr 1; omega,by congr 1; omega,HT⟩,by simp only [intOf]; omega⟩
  ·obtain rfl : k=n := by omega
   go_wp2_with fail
   go_ret
   exact .inl ⟨rfl,HJ.out⟩
end Rm
namespace Rm
open Go Go.RowKit
theorem wrU_else (B:Nat→Int) (fr:Nat→Nat) (va:Nat) (R:Nat→Int) (f i:Nat) (hi:i<4096) : ∀ k : Nat,(∀ j,j<k→fr ((va+j) / 4096)≠f)→wrU B fr va R k (f*4096+i)=B (f*4096+i)
 | 0,_ => rfl
 | k+1,h => by
  simp only [wrU]
  rw [if_neg (fun e => h k (by omega) (by omega))]
  exact wrU_else B fr va R f i hi k (fun j hj => h j (by omega))
section
variable {w w0 W W':World} {s p b m N r P:Nat} {size:Int} {B:Nat→Int} {L:List Nat} {F:Nat→Option Nat} {lf:Nat→Nat→Int} {fr:Nat→Nat} {c:Nat→Int}
theorem SpU.wr {va k:Nat} {R:Nat→Int} (h:SpU W s p b m N r P size B L F lf fr c) (hv:va+k≤P*4096) (hs:Sp W' s p (ad r) size) (hr:Ram W' p b m N (wrU B fr va R k) L) : SpU W' s p b m N r P size (wrU B fr va R k) L F lf fr c :=
 ⟨hs,h.sz,h.pm,hr,h.pt.keep (fun x f hf i hi => wrU_else B fr va R f i hi k (fun j hj e => (h.pag ((va+j) / 4096) (by omega)).nn x (by rw [e]; exact hf))) (fun x f hf => (h.pt.held x f hf).2.2),h.rt,h.ne,h.pag⟩
structure PuJ (w0:World) (s p b m N r P:Nat) (size:Int) (B:Nat→Int) (L:List Nat) (F:Nat→Option Nat) (lf:Nat→Nat→Int) (fr:Nat→Nat) (c:Nat→Int) (g k0 cc bv sv va n:Nat) (R:Nat→Int) (k:Nat) (W:World) : Prop where
 fra : Fra p b m w0 W
 sp : Sp W s p (ad r) size
 ram : Ram W p b m N (wrU B fr va R k) L
 cv : W.cell? ⟨sv,0,.none⟩=some (.pointer (some ⟨s,0,.none⟩))
 cb : ∃ q,W.cell? ⟨bv,0,.none⟩=some (.slice q (n - k : Nat) (cc - k : Nat))∧(k<n→q=some ⟨g,k0+k,.none⟩)
 fb : W.frozen? ⟨bv,0,.none⟩=false
theorem PuJ.below {g k0 cc bv sv va n k:Nat} {R:Nat→Int} (h:PuJ w0 s p b m N r P size B L F lf fr c g k0 cc bv sv va n R k W) (hb:Below W.heap.size W W') : PuJ w0 s p b m N r P size B L F lf fr c g k0 cc bv sv va n R k W' := by
 obtain ⟨q,hq,hq2⟩ := h.cb
 exact ⟨h.fra.trans (Fra.below hb),h.sp.below hb,h.ram.below hb,(hb.cell (p:=⟨sv,0,.none⟩) (lt_of_cell h.cv)).trans h.cv,⟨q,(hb.cell (p:=⟨bv,0,.none⟩) (lt_of_cell hq)).trans hq,hq2⟩,(hb.frozen (p:=⟨bv,0,.none⟩) (lt_of_cell hq)).trans h.fb⟩
theorem PuJ.piece {g k0 cc bv sv va n k:Nat} {R:Nat→Int} (h0:SpU w0 s p b m N r P size B L F lf fr c) (hJ:PuJ w0 s p b m N r P size B L F lf fr c g k0 cc bv sv va n R k W) (hk:k<n) (hf:va+n≤P*4096) (hcc:n≤cc∧cc≤9223372036854775807) (hR:∀ i,0≤R i∧R i<256)
  (hg:∀ i,i<n→w0.cell? ⟨g,k0+i,.none⟩=some (.int .u8 (R i))) (hgp:g≠p∧g≠b∧g≠m) (hbv:w0.heap.size≤bv) (hne:bv≠sv) (hsv:w0.heap.size≤sv) : Calls Tryz.prog 102 #[.int .u64 (ad (fr ((va+k) / 4096))+((va+k) % 4096 : Nat)),.int .i64 (pce va n k),.pointer (some ⟨bv,0,.none⟩),.pointer (some ⟨sv,0,.none⟩)] W fun e W' => e = .returned (.bool true)∧PuJ w0 s p b m N r P size B L F lf fr c g k0 cc bv sv va n R (k+pce va n k) W' := by
 have hm := h0.pm
 have hp := h0.pag ((va+k) / 4096) (by omega)
 have hb := pce_b (va:Int) n k hk
 have hom : (((va:Int)+k) % 4096).toNat=(va+k) % 4096 := by omega
 rw [hom] at hb
 have hgl : g<w0.heap.size := lt_of_cell (hg 0 (by omega))
 have hpl := h0.ram.mem.plt
 have hbl := h0.ram.mem.blt
 have hml := h0.ram.mem.mlt
 have hsl := h0.sp.lt
 obtain ⟨q,hq,hq2⟩ := hJ.cb
 have hq3 := hq2 hk
 subst hq3
 refine (put1_gen hJ.sp hJ.ram (fr ((va+k) / 4096)) ((va+k) % 4096) (pce va n k) hp.qb hb.1 hb.2.2 g (k0+k) (n - k) (cc - k) (by omega) (fun i => R (k+i)) (fun i => hR _) (fun i hi => ?_) bv sv hq hJ.fb hJ.cv ⟨by omega,by omega,by omega,by omega,by omega,hne⟩).mono fun e W2 h2 => ?_
 ·rw [hJ.fra.cell (x:=⟨g,k0+k+i,.none⟩) hgl hgp.1 hgp.2.1 hgp.2.2,Nat.add_assoc]
  exact hg (k+i) (by omega)
 ·obtain ⟨he,r2,t2,⟨q2,hq2c,hq2v⟩,f2⟩ := h2
  rw [wrU_over B fr va k R (pce va n k) hb.2.2] at r2
  have hsz := hJ.fra.size
  refine ⟨he,⟨Tch.fra hJ.fra t2 hbv,?_,r2,?_,⟨q2,?_,fun hlt => ?_⟩,f2⟩⟩
  ·have es : W2.heap[s]? = W.heap[s]? := t2.block s hJ.sp.lt h0.ne.1 h0.ne.2.1 h0.ne.2.2 (by omega)
   have ec : ∀ o,W2.cell? ⟨s,o,.none⟩=W.cell? ⟨s,o,.none⟩ := fun o => by simp only [World.cell?,es]
   have ef : ∀ o,W2.frozen? ⟨s,o,.none⟩=W.frozen? ⟨s,o,.none⟩ := fun o => by simp only [World.frozen?,es]
   exact ⟨(ec 0).trans hJ.sp.c0,(ec 1).trans hJ.sp.c1,(ec 2).trans hJ.sp.c2,fun o => (ef o).trans (hJ.sp.fr o)⟩
  ·have es : W2.heap[sv]? = W.heap[sv]? := t2.block sv (lt_of_cell hJ.cv) (by omega) (by omega) (by omega) (Ne.symm hne)
   exact (World.cell?_of_block (a:=⟨sv,0,.none⟩) es).trans hJ.cv
  ·rw [hq2c,show n - (k+pce va n k)=n - k - pce va n k by omega,show cc - (k+pce va n k)=cc - k - pce va n k by omega]
  ·rw [hq2v (by omega),Nat.add_assoc]
end
end Rm
namespace Rm
open Go Go.RowKit
section
variable {w:World} {s p b m N r P:Nat} {size:Int} {B:Nat→Int} {L:List Nat} {F:Nat→Option Nat} {lf:Nat→Nat→Int} {fr:Nat→Nat} {c:Nat→Int}
def InP (w:World) (va n:Nat) (B:Nat→Int) (fr:Nat→Nat) (c:Nat→Int) (e:Ending) (w':World) : Prop :=
 Below w.heap.size w w'∧(((∀ j,j<n→accU c 1 (va+j)=true) ∧ ∃ g,w.heap.size≤g∧g<w'.heap.size∧e = .returned (.tuple #[.slice (some ⟨g,0,.none⟩) n n,.bool true])∧(∀ j,j<n→w'.cell? ⟨g,j,.none⟩=some (.int .u8 (btU B fr (va+j))))) ∨
  ((∃ j,j<n∧accU c 1 (va+j)=false)∧e = .returned (.tuple #[.slice none 0 0,.bool false])))
theorem each_user {w0 w:World} {A d1 d2 u1 u2 va n:Nat} (h:SpU w0 s p b m N r P size B L F lf fr c) (hn:1≤n) (hf:va+n≤P*4096) (hne:d2≠A∧d1≠A∧u1≠A∧u2≠A∧d1≠d2∧u1≠d2∧u2≠d2) (hwA:w0.heap.size≤A∧w0.heap.size≤d2) (h0:InJ w0 s A d1 d2 u1 u2 va n B fr c 0 w) :
  Calls Tryz.prog 49 #[.pointer (some ⟨s,0,.none⟩),.int .u64 va,.int .i64 n,.func (.func 100) #[] #[.pointer (some ⟨u1,0,.none⟩),.pointer (some ⟨u2,0,.none⟩)],.func (.func 51) #[] #[.pointer (some ⟨d1,0,.none⟩),.pointer (some ⟨d2,0,.none⟩)]] w
   (EaP n (InJ w0 s A d1 d2 u1 u2 va n B fr c) (fun W => Below w0.heap.size w0 W ∧ ∃ j,j<n∧accU c 1 (va+j)=false)) := by
 have hm := h.pm
 have hAW : ∀ k W,InJ w0 s A d1 d2 u1 u2 va n B fr c k W→A<W.heap.size := fun k W hJ => by
  obtain ⟨v,hv⟩ := Option.isSome_iff_exists.1 (hJ.tl 0 hn).1
  exact lt_of_cell hv
 refine each_rd (va:Int) n (by omega) _ _ (fun k => if accU c 1 (va+k) then ad (fr ((va+k) / 4096))+((va+k) % 4096 : Nat) else 0) (fun k => accU c 1 (va+k)) (fun _ => true) (fun k W hk hJ => ?_) (fun k W hk hok hJ => ⟨hJ.bel,k,hk,hok⟩) (fun k W hk hok hJ => ?_) h0
 ·have hS := h.below hJ.bel
  have := user_any hS.sp ((va+k : Nat) : Int) 2 _ _ hJ.e1 hJ.e2 (fun W2 b2 => (hS.below b2).tra (va+k) 1 (by omega) (by omega))
  rw [show ((va+k : Nat) : Int)=(va:Int)+k by omega] at this
  exact this.mono (fun e W2 h2 => ⟨h2.1,hJ.below h2.2 (hAW k W hJ)⟩)
 ·have hS := h.below hJ.bel
  have hb := pce_b (va:Int) n k hk
  have hom : (((va:Int)+k) % 4096).toNat=(va+k) % 4096 := by omega
  rw [hom] at hb
  obtain ⟨q,hq1,hq2⟩ := hJ.c2
  have hq3 := hq2 hk
  subst hq3
  have hp := hS.pag ((va+k) / 4096) (by omega)
  simp only [hok,if_true]
  refine (in1_any hS.sp hS.ram (fr ((va+k) / 4096)) ((va+k) % 4096) (pce va n k) hp.qb hb.1 hb.2.2 d1 d2 A k (n - k) hJ.c1 hq1 hJ.f2 (by omega) (fun j hj => (hJ.tl (k+j) (by omega)).1) (fun j hj => (hJ.tl (k+j) (by omega)).2) hne.1).mono fun e W3 h3 => ?_
  obtain ⟨he,W2,q',b2,hw3,hq'⟩ := h3
  refine ⟨he,fun _ => ?_,fun e9 => by cases e9⟩
  rw [hw3]
  have hJ2 := hJ.below b2 (hAW k W hJ)
  have hpage : ∀ j,j<pce va n k→(va+(k+j)) / 4096=(va+k) / 4096∧(va+(k+j)) % 4096=(va+k) % 4096+j := fun j hj => by omega
  exact hJ2.step hne hwA (by omega) (fun j hj => by
   have := hok
   unfold accU at this ⊢
   rw [(hpage j hj).1]
   exact this) (fun j hj => by
   unfold pcB btU
   rw [List.getElem?_map,List.getElem?_range hj,(hpage j hj).1,(hpage j hj).2]
   simp only [Option.map_some]
   rw [show fr ((va+k) / 4096)*4096+(va+k) % 4096+j=fr ((va+k) / 4096)*4096+((va+k) % 4096+j) by omega]) (fun hlt => hq' (by omega))
end
end Rm
namespace Rm
open Go Go.RowKit
section
variable {w:World} {s p b m N r P:Nat} {size:Int} {B:Nat→Int} {L:List Nat} {F:Nat→Option Nat} {lf:Nat→Nat→Int} {fr:Nat→Nat} {c:Nat→Int}
set_option maxRecDepth 100000 in
set_option maxHeartbeats 2000000 in
theorem in_any (h:SpU w s p b m N r P size B L F lf fr c) (va n:Nat) (hn:1≤n) (hf:va+n≤P*4096) : Calls Tryz.prog 12 #[.pointer (some ⟨s,0,.none⟩),.int .u64 va,.int .i64 n] w (InP w va n B fr c) := by
 have hm := h.pm
 have hsz := h.sz
 obtain ⟨w1,hw1⟩ : ∃ w1,w1=w.alloc (.cells #[.pointer (some ⟨s,0,.none⟩)] 42) := ⟨_,rfl⟩
 obtain ⟨w2,hw2⟩ : ∃ w2,w2=w1.alloc (.cells (Zs n) 5) := ⟨_,rfl⟩
 obtain ⟨w3,hw3⟩ : ∃ w3,w3=w2.alloc (.cells #[.slice (some ⟨w1.heap.size,0,.none⟩) n n] 24) := ⟨_,rfl⟩
 obtain ⟨w4,hw4⟩ : ∃ w4,w4=(w3.drew.alloc (.cells #[.pointer (some ⟨s,0,.none⟩)] 42)).alloc (.cells #[.int .i64 2] 59) := ⟨_,rfl⟩
 have b1 : Below w.heap.size w w1 := by rw [hw1]; exact below1 _ _
 have b2 : Below w1.heap.size w1 w2 := by rw [hw2]; exact below1 _ _
 have b3 : Below w2.heap.size w2 w3 := by rw [hw3]; exact below1 _ _
 have b4 : Below w3.heap.size w3 w4 := by rw [hw4]; exact ((Below.refl _ w3).drew.alloc (Nat.le_refl _) _).alloc (by simp) _
 have s1 : w1.heap.size=w.heap.size+1 := by rw [hw1]; simp
 have s2 : w2.heap.size=w.heap.size+2 := by rw [hw2]; simp [s1]
 have s3 : w3.heap.size=w.heap.size+3 := by rw [hw3]; simp [s2]
 have s3d : w3.drew.heap.size=w.heap.size+3 := s3
 have s4 : w4.heap.size=w.heap.size+5 := by rw [hw4]; simp [s3d]
 have c51 := end_any (h.sp.below b1) (by omega)
 rw [hsz.2] at c51
 have c50 := fits_any (va:Int) n ((P:Int)*4096) (by omega) (by omega) (by omega) (by omega) w1
 have hmk := make_bytes n (by omega) w1
 rw [← hw2] at hmk
 have q1 : w1.cell? ⟨w.heap.size,0,.none⟩=some (.pointer (some ⟨s,0,.none⟩)) := by rw [hw1]; simp
 have q3 : w3.cell? ⟨w.heap.size,0,.none⟩=some (.pointer (some ⟨s,0,.none⟩)) := (b3.cell (p:=⟨w.heap.size,0,.none⟩) (by simp only; omega)).trans ((b2.cell (p:=⟨w.heap.size,0,.none⟩) (by simp only; omega)).trans q1)
 have zA : ∀ j,j<n→w2.cell? ⟨w1.heap.size,j,.none⟩=some (.int .u8 0)∧w2.frozen? ⟨w1.heap.size,j,.none⟩=false := fun j hj => by
  rw [hw2]
  refine ⟨?_,World.frozen?_alloc_new _ _ _ _⟩
  rw [World.cell?_alloc_at _ _ _ _ rfl]
  exact Zs_at n j hj
 have h0 : InJ w s w1.heap.size w.heap.size w2.heap.size w3.heap.size (w3.heap.size+1) va n B fr c 0 w4 := by
  have B4 : Below w.heap.size w w4 := ((b1.trans (b2.mono (by omega))).trans (b3.mono (by omega))).trans (b4.mono (by omega))
  refine ⟨B4,(b4.cell (p:=⟨w.heap.size,0,.none⟩) (by simp only; omega)).trans q3,?_,?_,⟨some ⟨w1.heap.size,0,.none⟩,?_,fun _ => rfl⟩,?_,fun j hj => by omega,fun j hj => ?_,fun j hj => by omega⟩
  ·rw [hw4]
   exact (fun wd:World => (by simp:((wd.alloc (.cells #[.pointer (some ⟨s,0,.none⟩)] 42)).alloc (.cells #[.int .i64 2] 59)).cell? ⟨wd.heap.size,0,.none⟩=some (.pointer (some ⟨s,0,.none⟩)))) w3.drew
  ·rw [hw4]
   exact (fun wd:World => (by simp:((wd.alloc (.cells #[.pointer (some ⟨s,0,.none⟩)] 42)).alloc (.cells #[.int .i64 2] 59)).cell? ⟨wd.heap.size+1,0,.none⟩=some (.int .i64 2))) w3.drew
  ·rw [b4.cell (p:=⟨w2.heap.size,0,.none⟩) (by simp only; omega),hw3]; simp
  ·rw [b4.frozen (p:=⟨w2.heap.size,0,.none⟩) (by simp only; omega),hw3]; exact World.frozen?_alloc_new _ _ _ _
  ·rw [b4.cell (p:=⟨w1.heap.size,j,.none⟩) (by simp only; omega),b3.cell (p:=⟨w1.heap.size,j,.none⟩) (by simp only; omega),b4.frozen (p:=⟨w1.heap.size,j,.none⟩) (by simp only; omega),b3.frozen (p:=⟨w1.heap.size,j,.none⟩) (by simp only; omega),(zA j hj).1]
   exact ⟨rfl,(zA j hj).2⟩
 have c52 := each_user h hn hf ⟨by omega,by omega,by omega,by omega,by omega,by omega,by omega⟩ ⟨by omega,by omega⟩ h0
 have c52' := c52.mono (R' := fun e w' => ∃ v : Bool,e = .returned (.bool v)∧((v=true∧InJ w s w1.heap.size w.heap.size w2.heap.size w3.heap.size (w3.heap.size+1) va n B fr c n w')∨(v=false∧Below w.heap.size w w' ∧ ∃ j,j<n∧accU c 1 (va+j)=false))) (fun e w' h => by
  rcases h with ⟨h1,h2⟩ | ⟨h1,h2⟩
  ·exact ⟨true,h1,.inl ⟨rfl,h2⟩⟩
  ·exact ⟨false,h1,.inr ⟨rfl,h2⟩⟩)
 clear c52
 have c53 := forUser_any s 2 w3.drew
 rw [← hw4] at c53
 have hn0 : ¬ (n:Int)=0 := by omega
 have HS : Hid (w1.heap.size=w.heap.size+1∧w2.heap.size=w.heap.size+2∧w3.heap.size=w.heap.size+3) := ⟨s1,s2,s3⟩
 have HW : Hid (w3=w2.alloc (.cells #[.slice (some ⟨w1.heap.size,0,.none⟩) n n] 24)) := hw3
 have q3' : w3.drew.cell? ⟨w.heap.size,0,.none⟩=some (.pointer (some ⟨s,0,.none⟩)) := q3
 have q4 : w4.cell? ⟨w.heap.size,0,.none⟩=some (.pointer (some ⟨s,0,.none⟩)) := h0.c1
 have hg := h0.bel
 clear h h0 zA b1 b2 b3 b4 s1 s2 s3 s3d s4 hw2 hw3 hw4
 go_enter Tryz.func12,Tryz.ntmps12
 go_wp2_with fail
 rw [← hw1]
 clear hw1
 refine c51.mono ?_
 rintro _ x1 ⟨rfl,e1⟩
 obtain rfl : w1=x1 := e1.symm
 clear e1 c51
 go_wp2_with fail
 refine c50.mono ?_
 rintro _ x1 ⟨rfl,e1⟩
 obtain rfl : w1=x1 := e1.symm
 clear e1 c50
 have hb1 : ((n:Int) == 0)=false := by simpa using hn0
 go_wp2_with fail
 rw [← HW.out]
 go_region_with (first | (go_at_call 50; refine c53.mono ?_; rintro _ x4 ⟨rfl,e4⟩; obtain rfl : w4=x4 := e4.symm; clear e4) | (go_at_call 49; refine c52'.mono ?_; rintro _ w9 ⟨v9,rfl,h9⟩; have H9 : Hid ((v9=true∧InJ w s w1.heap.size w.heap.size w2.heap.size w3.heap.size (w3.heap.size+1) va n B fr c n w9)∨(v9=false∧Below w.heap.size w w9 ∧ ∃ j,j<n∧accU c 1 (va+j)=false)) := h9; clear h9))
 all_goals
  rcases H9.out with ⟨rfl,hJ⟩ | ⟨rfl,hb,hx⟩
  ·have hA : w1.heap.size<w9.heap.size := lt_of_cell (hJ.dn 0 (by omega))
   have HP : Hid (InP w va n B fr c (.returned (.tuple #[.slice (some ⟨w1.heap.size,0,.none⟩) n n,.bool true])) w9) := ⟨hJ.bel,.inl ⟨hJ.ok,w1.heap.size,by have := HS.out.1; omega,hA,rfl,hJ.dn⟩⟩
   clear hJ H9
   go_wp2_with fail
   refine bodyPost_ret (v:=.tuple #[.slice (some ⟨w1.heap.size,0,.none⟩) n n,.bool true]) (by simp [results,Tryz.results12,go_sem]) rfl HP.out
  ·have HP : Hid (InP w va n B fr c (.returned (.tuple #[.slice none 0 0,.bool false])) w9) := ⟨hb,.inr ⟨hx,rfl⟩⟩
   clear hb hx H9
   go_wp2_with fail
   refine bodyPost_ret (v:=.tuple #[.slice none 0 0,.bool false]) (by simp [results,Tryz.results12,go_sem]) rfl HP.out
end
end Rm
namespace Rm
open Go Go.RowKit
section
variable {w:World} {s p b m N r P:Nat} {size:Int} {B:Nat→Int} {L:List Nat} {F:Nat→Option Nat} {lf:Nat→Nat→Int} {fr:Nat→Nat} {c:Nat→Int}
theorem y1_off (va o:Int) (hv:0≤va∧va<274877906944∧va % 4096=0) (ho:0≤o∧o<4096) : y1 (va+o)=y1 va := by
 unfold y1 i2
 rw [show ix (va+o) 2=ix va 2 by unfold ix; rw [show spn 2=1073741824 from rfl]; omega]
theorem Pag.off {va o:Int} {q:Nat} {x:Int} (h:Pag N L F lf va q x) (hv:0≤va∧va<274877906944∧va % 4096=0) (ho:0≤o∧o<4096) : Pag N L F lf (va+o) q x := by
 have e1 := y1_off va o hv ho
 have e2 := y_off va o hv ho
 exact ⟨by rw [e1]; exact h.w1,by rw [e2.1]; exact h.w0,by rw [e2.1,e2.2]; exact h.l,h.k,h.cb,h.qb,h.nn⟩
def WrP (w:World) (s p b m N r P:Nat) (size:Int) (B:Nat→Int) (L:List Nat) (F:Nat→Option Nat) (lf:Nat→Nat→Int) (fr:Nat→Nat) (c:Nat→Int) (va n:Nat) (R:Nat→Int) (e:Ending) (w':World) : Prop := e = .returned (.bool true)∧SpU w' s p b m N r P size (wrU B fr va R n) L F lf fr c∧Fra p b m w w'
set_option maxHeartbeats 1000000 in
theorem put_kern (h:SpU w s p b m N r P size B L F lf fr c) (va n:Nat) (hn:1≤n) (hf:va+n≤P*4096) (g k0 cc:Nat) (hcc:n≤cc∧cc≤9223372036854775807) (R:Nat→Int) (hR:∀ i,0≤R i∧R i<256) (hg:∀ i,i<n→w.cell? ⟨g,k0+i,.none⟩=some (.int .u8 (R i))) (hgp:g≠p∧g≠b∧g≠m) :
  Calls Tryz.prog 53 #[.pointer (some ⟨s,0,.none⟩),.int .u64 va,.slice (some ⟨g,k0,.none⟩) n cc,.func (.func 149) #[.pointer (some ⟨s,0,.none⟩)] #[]] w (WrP w s p b m N r P size B L F lf fr c va n R) := by
 have hm := h.pm
 have hpl := h.ram.mem.plt
 have hbl := h.ram.mem.blt
 have hml := h.ram.mem.mlt
 obtain ⟨w1,hw1⟩ : ∃ w1,w1=w.alloc (.cells #[.pointer (some ⟨s,0,.none⟩)] 42) := ⟨_,rfl⟩
 obtain ⟨w2,hw2⟩ : ∃ w2,w2=w1.alloc (.cells #[.slice (some ⟨g,k0,.none⟩) n cc] 24) := ⟨_,rfl⟩
 have z1 : w1.heap.size=w.heap.size+1 := by rw [hw1]; simp
 have b1 : Below w.heap.size w w1 := by rw [hw1]; exact below1 _ _
 have b12 : Below w1.heap.size w1 w2 := by rw [hw2]; exact below1 _ _
 have b2 := b1.trans (b12.mono b1.size)
 have ks : w2.cell? ⟨w.heap.size,0,.none⟩=some (.pointer (some ⟨s,0,.none⟩)) := (b12.cell (p:=⟨w.heap.size,0,.none⟩) (by show w.heap.size<w1.heap.size; omega)).trans (by rw [hw1]; simp)
 have kb : w2.cell? ⟨w.heap.size+1,0,.none⟩=some (.slice (some ⟨g,k0,.none⟩) n cc) := by rw [← z1,hw2]; simp
 have kf : w2.frozen? ⟨w.heap.size+1,0,.none⟩=false := by rw [← z1,hw2]; exact World.frozen?_alloc_new _ _ _ _
 have c52 := each_poke (d1:=w.heap.size+1) (d2:=w.heap.size) (w:=w2) (s:=s) (va:Int) n (by omega) (PuJ w s p b m N r P size B L F lf fr c g k0 cc (w.heap.size+1) w.heap.size va n R) (fun _ => False) (fun k => ad (fr ((va+k) / 4096))+((va+k) % 4096 : Nat)) (fun _ => true) (fun _ => true)
  (fun k W hk hJ => by
   have hS := h.wr (W' := W) (va:=va) (k:=k) (R:=R) (by omega) hJ.sp hJ.ram
   have hq := hS.pag ((va+k) / 4096) (by omega)
   have hq2 : Pag N L F lf ((va:Int)+k) (fr ((va+k) / 4096)) (c ((va+k) / 4096)) := by
    have h9 := hq.off (o:=((va+k) % 4096 : Nat)) (by omega) (by omega)
    rw [show (((va+k) / 4096 : Nat) : Int)*4096+(((va+k) % 4096 : Nat) : Int)=(va:Int)+k by omega] at h9
    exact h9
   have := kern_pt hS.sp hS.ram hS.pt hS.rt ((va:Int)+k) (by omega) hq2
   rw [show ((va:Int)+k) % 4096=((va+k) % 4096 : Nat) by omega] at this
   exact this.mono (fun e W' h9 => ⟨h9.1,hJ.below h9.2⟩)) (fun k W hk e => by cases e) (fun k W hk _ hJ => (hJ.piece h hk hf hcc hR hg hgp (by omega) (by omega) (Nat.le_refl _)).mono (fun e W' h9 => ⟨h9.1,fun _ => h9.2,fun e => by cases e⟩))
  ⟨Fra.below b2,h.sp.below b2,h.ram.below b2,ks,⟨some ⟨g,k0,.none⟩,kb,fun _ => rfl⟩,kf⟩
 have HH : Hid (SpU w s p b m N r P size B L F lf fr c) := h
 clear h ks kf b1 b12 b2 z1 hg hR
 go_enter Tryz.func53,Tryz.ntmps53
 go_upto_region 1 with fail
 rw [← hw1,← hw2]
 have ks : w2.cell? ⟨w.heap.size,0,.none⟩=some (.pointer (some ⟨s,0,.none⟩)) := by rw [hw2,hw1]; simp
 clear hw1 hw2
 go_wp2_with fail
 refine c52.mono ?_
 rintro e9 w9 (⟨rfl,hJ⟩ | ⟨_,hJ⟩)
 ·have HJ : Hid (WrP w s p b m N r P size B L F lf fr c va n R (.returned (.bool true)) w9) := ⟨rfl,HH.out.wr hf hJ.sp hJ.ram,hJ.fra⟩
  clear hJ
  go_wp2_with fail
  go_ret
  exact HJ.out
 ·exact hJ.elim
end
end Rm
namespace Rm
open Go Go.RowKit
theorem fits_gen (va n en:Int) (hv:0≤va∧va<18446744073709551616) (hn:0≤n∧n<9223372036854775808) (he:0≤en∧en<18446744073709551616) (w:World) : Calls Tryz.prog 47 #[.int .u64 va,.int .i64 n,.int .u64 en] w fun r w' => r = .returned (.bool (decide (va+n≤en)))∧w'=w := by
 by_cases h1 : va≤en
 ·have h2 : IntKind.u64.wrap (en - va)=en - va := by rw [IntKind.wrap_u64]; omega
  have h3 : IntKind.u64.wrap n=n := by rw [IntKind.wrap_u64]; omega
  have h0 : (0:Int)≤n := hn.1
  by_cases h4 : n≤en - va
  ·have HD : Hid (decide (va+n≤en)=true) := decide_eq_true (by omega)
   go_enter Tryz.func47,Tryz.ntmps47
   go_wp2
   go_ret
   exact ⟨by rw [HD.out]; rfl,rfl⟩
  ·have HD : Hid (decide (va+n≤en)=false) := decide_eq_false (by omega)
   go_enter Tryz.func47,Tryz.ntmps47
   go_wp2
   go_ret
   exact ⟨by rw [HD.out]; rfl,rfl⟩
 ·have h0 : (0:Int)≤n := hn.1
  have HD : Hid (decide (va+n≤en)=false) := decide_eq_false (by omega)
  go_enter Tryz.func47,Tryz.ntmps47
  go_wp2
  go_ret
  exact ⟨by rw [HD.out]; rfl,rfl⟩
section
variable {w:World} {s p b m N r P:Nat} {size:Int} {B:Nat→Int} {L:List Nat} {F:Nat→Option Nat} {lf:Nat→Nat→Int} {fr:Nat→Nat} {c:Nat→Int}
end
end Rm
end Go.Proofs.YtabnipbdbnmmpaaGreatDoor
