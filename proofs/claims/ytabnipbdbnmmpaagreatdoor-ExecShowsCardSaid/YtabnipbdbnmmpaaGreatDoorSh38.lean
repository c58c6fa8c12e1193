import Derived.Test.YtabnipbdbnmmpaaGreatDoorSh01
import Derived.Test.YtabnipbdbnmmpaaGreatDoorSh37
import Derived.Test.YtabnipbdbnmmpaaGreatDoorSh36
set_option linter.unusedVariables false
set_option linter.unusedSimpArgs false
namespace Go.Proofs.YtabnipbdbnmmpaaGreatDoor
namespace Rm
open Go Go.RowKit
def TkZ (w:World) (p b m N:Nat) (B:Nat→Int) (L:List Nat) (F:Nat→Option Nat) (lf:Nat→Nat→Int) (va:Int) (w':World) : Prop := ∃ g q B' L' F' lf',F (y1 va)=some g∧F (y0 va)=some q∧PT N L' B' F' lf'∧PrR L F (setE lf (y0 va) (i0 va) 0) va q g L' F' lf'∧Ram w' p b m N B' L'∧Fra p b m w w'∧Byo F B B'
def TkP (w:World) (p b m N r ft:Nat) (B:Nat→Int) (L:List Nat) (F:Nat→Option Nat) (fr:Nat→Nat) (c:Nat→Int) (I I':List Nat) (e:Ending) (w':World) : Prop := e = .returned (.tuple #[])∧Fra p b m w w' ∧ ∃ B' L' F' lf',Ram w' p b m N B' L'∧SpL N r ft B' L' F' lf' fr c I'∧L'.length+nodesF F'=L.length+nodesF F+1∧Oth L F fr I B L' F' fr I' B'
section
variable {w:World} {s p b m N r ft:Nat} {B:Nat→Int} {L:List Nat} {F:Nat→Option Nat} {lf:Nat→Nat→Int} {fr:Nat→Nat} {c:Nat→Int} {I I':List Nat}
set_option maxHeartbeats 1000000 in
theorem take_any (h:Ram w p b m N B L) (hs:SpL N r ft B L F lf fr c I) {i:Nat} (hi:i ∈ I) (hI:∀ j,j ∈ I' ↔ j ∈ I∧j≠i) (hd:I'.Nodup) :
  Calls Tryz.prog 113 #[.agg #[.pointer (some ⟨p,0,.none⟩),.int .u64 (ad r)],.int .i64 i] w (TkP w p b m N r ft B L F fr c I I') := by
 have hN := h.mem.n2
 have hq := hs.pag hi
 have hib := hs.bd i hi
 obtain ⟨X,hX⟩ : ∃ X,X=w.heap.size := ⟨_,rfl⟩
 obtain ⟨w1,hw1⟩ : ∃ w1,w1=w.alloc (.cells #[.pointer (some ⟨p,0,.none⟩),.int .u64 (ad r)] 105) := ⟨_,rfl⟩
 have b1 : Below w.heap.size w w1 := by rw [hw1]; exact (Below.refl _ _).alloc (Nat.le_refl _) _
 have k1 : C2w w1 X (.pointer (some ⟨p,0,.none⟩)) (.int .u64 (ad r)) := by
  rw [hw1,hX]
  exact ⟨by simp,by simp,fun k => World.frozen?_alloc_new _ _ _ _⟩
 have hp : p<X := by rw [hX]; exact lt_of_cell h.mem.c0
 have hb : b<X := by rw [hX]; exact lt_of_cell (h.mem.cb 0 (by have := h.mem.n1; omega))
 have hm : m<X := by rw [hX]; exact h.mem.mlt
 have hlf := hs.leaf hi
 have hok := hs.ok hi
 have c88 : Calls Tryz.prog 114 #[.pointer (some ⟨p,0,.none⟩),.int .u64 (ad r),.int .u64 ((i:Int)*4096)] w1.drew (fun e w' => e = .returned (.tuple #[.int .u64 (toP (ad (fr i)) (c i)),.int .i64 0])∧TkZ w1.drew p b m N B L F lf ((i:Int)*4096) w') := by
  rw [← hlf]
  exact unmap_byt (w:=w1.drew) (h.below b1).drew hs.pt hs.rt ((i:Int)*4096) ⟨by omega,by omega,by omega⟩ (by rw [hlf]; exact hok.ne)
 have hval := hq.val hN
 have hqb := ad_b (fr i) N hq.qb.1 hN
 have hbd : 0≤toP (ad (fr i)) (c i)∧toP (ad (fr i)) (c i)<18014398509481984 := by rw [hval]; have := hq.cb; have := hq.qb.1; unfold ad; omega
 have hfr : toP (ad (fr i)) (c i) / 1024*4096=ad (fr i) := by rw [hval]; have := hq.cb; have := hq.qb.1; unfold ad; omega
 have c62 := fun W => frameOf_any (toP (ad (fr i)) (c i)) hbd W
 rw [hfr] at c62
 have kS : w1.drew.cell? ⟨X,0,.none⟩=some (.pointer (some ⟨p,0,.none⟩))∧w1.drew.cell? ⟨X,1,.none⟩=some (.int .u64 (ad r)) := ⟨k1.a,k1.b⟩
 have HW : Hid (Below w.heap.size w w1∧C2w w1 X (.pointer (some ⟨p,0,.none⟩)) (.int .u64 (ad r))∧SpL N r ft B L F lf fr c I) := ⟨b1,k1,hs⟩
 have HI : Hid (i ∈ I∧(∀ j,j ∈ I' ↔ j ∈ I∧j≠i)∧I'.Nodup) := ⟨hi,hI,hd⟩
 clear h hs hi hI hd b1 k1 hval hbd hfr hlf hok hq hqb
 generalize toP (ad (fr i)) (c i)=tp at *
 go_enter Tryz.func113,Tryz.ntmps113
 go_upto_region 1 with fail
 rw [← hw1,← hX]
 have HXX : Hid (X=w.heap.size) := hX
 clear hw1 hX
 refine wp_region_held_drew (S:=(fun U => U.cell? ⟨X,0,.none⟩=some (.pointer (some ⟨p,0,.none⟩))∧U.cell? ⟨X,1,.none⟩=some (.int .u64 (ad r)))) (by kernel_rfl) kS (fun hHeld => ?_)
 refine aT 0 (.pointer (some ⟨X,0,.none⟩)) rfl ?_
 simp only [X0,X1,X2,X3,X4,X5,X6]
 refine aT 1 (.pointer (some ⟨p,0,.none⟩)) rfl ?_
 simp only [X0,X1,X2,X3,X4,X5,X6]
 refine aT 2 (.pointer (some ⟨X,1,.none⟩)) rfl ?_
 simp only [X0,X1,X2,X3,X4,X5,X6]
 refine aT 3 (.int .u64 (ad r)) rfl ?_
 simp only [X0,X1,X2,X3,X4,X5,X6]
 refine aT 4 (.int .i64 i) rfl ?_
 simp only [X0,X1,X2,X3,X4,X5,X6]
 refine wpAnyH_ready (rs:=[5]) (by kernel_rfl) (by simp) ?_
 refine AllReadyH.cons rfl (fun K hK => ?_) AllReadyH.nil
 go_simp
 go_at_call 98
 refine (addrOf_any i (by omega) _).mono ?_
 rintro _ w3 ⟨rfl,e3⟩
 obtain rfl : w1.drew=w3 := e3.symm
 refine hK.out _ _ kS (fun hHeld => ?_)
 clear hK K
 try simp only [X0,X1,X2,X3,X4,X5,X6]
 refine wpAnyH_ready (rs:=[6]) (by kernel_rfl) (by simp) ?_
 refine AllReadyH.cons rfl (fun K hK => ?_) AllReadyH.nil
 go_simp
 go_at_call 114
 refine (c88).mono ?_
 rintro _ w3 ⟨rfl,Z⟩
 obtain ⟨g,q,B1,L1,F1,lf1,hg,hq,P1,R1,r1,f1,y1⟩ := Z
 have D := HW.out.2.2.del HI.out.1 HI.out.2.1 HI.out.2.2 hg hq P1 R1 y1 (adr L1)
 have f13 : Fra p b m w w3 := (Fra.below HW.out.1).trans ((Fra.below (Below.refl _ _).drew).trans f1)
 have k3 := HW.out.2.1.fra ((Fra.below (Below.refl _ _).drew).trans f1) (by omega) (by omega) (by omega)
 have kS3 : w3.cell? ⟨X,0,.none⟩=some (.pointer (some ⟨p,0,.none⟩))∧w3.cell? ⟨X,1,.none⟩=some (.int .u64 (ad r)) := ⟨k3.a,k3.b⟩
 have hfi := HW.out.2.2.pg i HI.out.1
 have c35 : Calls Tryz.prog 156 #[.pointer (some ⟨p,0,.none⟩),.int .u64 (ad (fr i))] w3.drew _ := free_held (fr i) (r1.below ((Below.refl _ _).drew)) hfi.1 hfi.2.1 D.1
 have H3 : Hid (Fra p b m w w3∧SpL N r ft (thr B1 (fr i) (adr L1)) (fr i :: L1) F1 lf1 fr c I'∧(fr i :: L1).length+nodesF F1=L.length+nodesF F+1∧Oth L F fr I B (fr i :: L1) F1 fr I' (thr B1 (fr i) (adr L1))) := ⟨f13,D.2⟩
 have kS4 : w3.drew.cell? ⟨X,0,.none⟩=some (.pointer (some ⟨p,0,.none⟩))∧w3.drew.cell? ⟨X,1,.none⟩=some (.int .u64 (ad r)) := kS3
 clear D f13 hfi f1 r1 P1 R1 y1 hg hq c88
 refine hK.out _ _ kS3 (fun hHeld => ?_)
 clear hK K
 try simp only [X0,X1,X2,X3,X4,X5,X6]
 refine aT 7 (.tuple #[.int .u64 tp,.int .i64 0]) rfl ?_
 simp only [X0,X1,X2,X3,X4,X5,X6]
 refine aT 8 (.int .u64 tp) rfl ?_
 simp only [X0,X1,X2,X3,X4,X5,X6]
 refine aT 9 (.int .i64 0) rfl ?_
 simp only [X0,X1,X2,X3,X4,X5,X6]
 refine aT 10 (.int .u64 tp) rfl ?_
 simp only [X0,X1,X2,X3,X4,X5,X6]
 refine aT 11 (.int .i64 0) rfl ?_
 simp only [X0,X1,X2,X3,X4,X5,X6]
 refine wpAnyH_done (by kernel_rfl) ?_ _
 go_upto_region 3 with fail
 refine wp_region_held_drew (S:=(fun U => U.cell? ⟨X,0,.none⟩=some (.pointer (some ⟨p,0,.none⟩))∧U.cell? ⟨X,1,.none⟩=some (.int .u64 (ad r)))) (by kernel_rfl) kS4 (fun hHeld => ?_)
 refine aT 0 (.pointer (some ⟨X,0,.none⟩)) rfl ?_
 simp only [X0,X1,X2,X3,X4,X5,X6]
 refine aT 1 (.pointer (some ⟨p,0,.none⟩)) rfl ?_
 simp only [X0,X1,X2,X3,X4,X5,X6]
 refine aT 2 (.int .u64 tp) rfl ?_
 simp only [X0,X1,X2,X3,X4,X5,X6]
 refine wpAnyH_ready (rs:=[3]) (by kernel_rfl) (by simp) ?_
 refine AllReadyH.cons rfl (fun K hK => ?_) AllReadyH.nil
 go_simp
 go_at_call 128
 refine (c62 _).mono ?_
 rintro _ w4 ⟨rfl,e4⟩
 obtain rfl : w3.drew=w4 := e4.symm
 refine hK.out _ _ kS4 (fun hHeld => ?_)
 clear hK K
 try simp only [X0,X1,X2,X3,X4,X5,X6]
 refine wpAnyH_ready (rs:=[4]) (by kernel_rfl) (by simp) ?_
 refine AllReadyH.cons rfl (fun K hK => ?_) AllReadyH.nil
 go_simp
 go_at_call 156
 refine (c35).mono ?_
 rintro _ w4 ⟨rfl,r4,f4⟩
 have k4 := k3.fra ((Fra.below (Below.refl _ _).drew).trans f4) (by omega) (by omega) (by omega)
 have H4 : Hid (Fra p b m w w4∧Ram w4 p b m N (thr B1 (fr i) (adr L1)) (fr i :: L1)) := ⟨H3.out.1.trans ((Fra.below (Below.refl _ _).drew).trans f4),r4⟩
 clear r4 f4
 refine hK.out _ _ ⟨k4.a,k4.b⟩ (fun hHeld => ?_)
 clear hK K
 try simp only [X0,X1,X2,X3,X4,X5,X6]
 refine wpAnyH_done (by kernel_rfl) ?_ _
 go_wp2_with fail
 exact bodyPost_end (v:=.tuple #[]) (by simp [results,Tryz.results113,go_sem]) rfl ⟨rfl,H4.out.1,_,_,F1,lf1,H4.out.2,H3.out.2⟩
end
structure SpT (W:World) (s p b m N r P ft:Nat) (size:Int) (B:Nat→Int) (L:List Nat) (F:Nat→Option Nat) (lf:Nat→Nat→Int) (fr:Nat→Nat) (c:Nat→Int) : Prop where
 sp : Sp W s p (ad r) size
 sz : 0≤size∧(size+4095) / 4096=P
 pm : P≤4096
 ram : Ram W p b m N B L
 ne : s≠p∧s≠b∧s≠m
 tab : SpL N r ft B L F lf fr c (List.range P)
section
variable {w w':World} {s p b m N r P ft:Nat} {size:Int} {B:Nat→Int} {L:List Nat} {F:Nat→Option Nat} {lf:Nat→Nat→Int} {fr:Nat→Nat} {c:Nat→Int}
theorem SpT.below (h:SpT w s p b m N r P ft size B L F lf fr c) (k:Below w.heap.size w w') : SpT w' s p b m N r P ft size B L F lf fr c := ⟨h.sp.below k,h.sz,h.pm,h.ram.below k,h.ne,h.tab⟩
theorem SpT.su (h:SpT w s p b m N r P ft size B L F lf fr c) : SpU w s p b m N r P size B L F lf fr c := ⟨h.sp,h.sz,h.pm,h.ram,h.tab.pt,h.tab.rt,h.ne,fun i hi => h.tab.pag (List.mem_range.2 hi)⟩
def gapL (Q j P:Nat) : List Nat := (List.range P).filter fun i => decide (i<Q∨j≤i)
theorem gapL_mem (Q j P i:Nat) : i ∈ gapL Q j P ↔ i<P∧(i<Q∨j≤i) := by unfold gapL; rw [List.mem_filter,List.mem_range,decide_eq_true_iff]
theorem gapL_nd (Q j P:Nat) : (gapL Q j P).Nodup := List.Pairwise.filter _ List.nodup_range
def ShI (w:World) (s p b m N r P ft Q:Nat) (B:Nat→Int) (L:List Nat) (F:Nat→Option Nat) (fr:Nat→Nat) (c:Nat→Int) (j:Nat) (W:World) : Prop := Fra p b m w W ∧ ∃ B' L' F' lf',Ram W p b m N B' L'∧SpL N r ft B' L' F' lf' fr c (gapL Q j P)∧L'.length+nodesF F'+Q=L.length+nodesF F+j∧Oth L F fr (List.range P) B L' F' fr (gapL Q j P) B'
def ShP (w:World) (s p b m N r P ft Q:Nat) (tz:Int) (B:Nat→Int) (L:List Nat) (F:Nat→Option Nat) (fr:Nat→Nat) (c:Nat→Int) (e:Ending) (w':World) : Prop := e = .returned (.int .i64 0)∧Tch p b m s w w' ∧ ∃ B' L' F' lf',SpT w' s p b m N r Q ft tz B' L' F' lf' fr c∧L'.length+nodesF F'+Q=L.length+nodesF F+P∧Oth L F fr (List.range P) B L' F' fr (List.range Q) B'
theorem Sp.resize {W:World} {s p:Nat} {root size tz:Int} (g1:Sp W s p root size) : Sp (W.setCell ⟨s,2,.none⟩ (.int .u64 tz)) s p root tz := ⟨(World.cell?_setCell_other _ _ _ _ (by simp)).trans g1.c0,(World.cell?_setCell_other _ _ _ _ (by simp)).trans g1.c1,World.cell?_setCell_same' _ _ _ (by rw [g1.c2]; rfl),fun k => by rw [World.frozen?_setCell]; exact g1.fr k⟩
set_option maxHeartbeats 1000000 in
theorem shrink_any (h:SpT w s p b m N r P ft size B L F lf fr c) (tz:Int) (hto:0≤tz∧tz≤size) (Q:Nat) (hQ:(tz+4095) / 4096=Q) :
  Calls Tryz.prog 60 #[.pointer (some ⟨s,0,.none⟩),.int .u64 tz] w (ShP w s p b m N r P ft Q tz B L F fr c) := by
 have hsz := h.sz
 have hpm := h.pm
 have hne := h.ne
 have c43 := made_sp h.sp
 have c46 := fun W => pagesOf_any tz (by omega) W
 rw [hQ] at c46
 have c19 := fun W (hW:Sp W s p (ad r) size) => pages_sp hW (by omega)
 rw [hsz.2] at c19
 have hQP : Q≤P := by omega
 have k2 := h.sp.c2
 have hle : ¬ size<tz := by omega
 have H0 : Hid (SpT w s p b m N r P ft size B L F lf fr c) := h
 have HZ : Hid ((tz+4095) / 4096=Q∧(size+4095) / 4096=P) := ⟨hQ,hsz.2⟩
 clear h hQ hsz
 go_enter Tryz.func60,Tryz.ntmps60
 go_upto_region 5 with (go_at_call 46; refine c43.mono ?_; rintro _ w1 ⟨rfl,e1⟩; obtain rfl : w=w1 := e1.symm)
 go_wp2_with (go_at_call 112; refine (c46 _).mono ?_; rintro _ w1 ⟨rfl,e1⟩; obtain rfl : w=w1 := e1.symm)
 go_loopw [5] (fun k wr => ∃ j : Nat,Q≤j∧j≤P∧k = .int .i64 j∧Hid (ShI w s p b m N r P ft Q B L F fr c j wr)) (fun k _ => (P - intOf k).toNat)
 case atStart =>
  refine ⟨Q,Nat.le_refl _,hQP,rfl,⟨Fra.refl ..,B,L,F,lf,H0.out.ram,H0.out.tab.perm (fun j => by rw [gapL_mem,List.mem_range]; omega) (gapL_nd ..),rfl,?_⟩⟩
  exact (Oth.refl L F fr (List.range P) B).perm (fun _ => Iff.rfl) (fun j => by rw [gapL_mem,List.mem_range]; omega)
 case round =>
  obtain ⟨j,hj1,hj2,rfl,HJ⟩ := hrel
  have Sr : Sp wr s p (ad r) size := H0.out.sp.fra HJ.out.1 hne.1 hne.2.1 hne.2.2
  have k0 := Sr.c0
  have k1 := Sr.c1
  have k2 := Sr.c2
  have kf := Sr.fr 2
  have d19 := c19 wr Sr
  have HS : Hid (Sp wr s p (ad r) size) := Sr
  clear Sr
  by_cases hjP : j<P
  ·have hlt : (j:Int)<P := by omega
   obtain ⟨fw,B1,L1,F1,lf1,r1,t1,n1,o1⟩ := HJ.out
   have c65 := take_any r1 t1 (i:=j) (I' := gapL Q (j+1) P) ((gapL_mem ..).2 ⟨hjP,.inr (Nat.le_refl _)⟩) (fun i => by rw [gapL_mem,gapL_mem]; omega) (gapL_nd ..)
   unfold TkP at c65
   have HN : Hid (Fra p b m w wr∧L1.length+nodesF F1+Q=L.length+nodesF F+j∧Oth L F fr (List.range P) B L1 F1 fr (gapL Q j P) B1) := ⟨fw,n1,o1⟩
   clear r1 t1 fw n1 o1 HJ
   go_wp2_with first | (go_at_call 99; refine d19.mono ?_; rintro _ w1 ⟨rfl,e1⟩; obtain rfl : wr=w1 := e1.symm) | (go_at_call 113; refine c65.mono ?_; rintro _ w2 ⟨rfl,f2,Z⟩; have HJ2 : Hid (ShI w s p b m N r P ft Q B L F fr c (j+1) w2) := (by obtain ⟨B2,L2,F2,lf2,r2,t2,n2,o2⟩ := Z; exact ⟨HN.out.1.trans f2,B2,L2,F2,lf2,r2,t2,(by have := HN.out.2.1; omega),HN.out.2.2.trans o2⟩); clear Z f2 c65)
   exact ⟨⟨j+1,by omega,by omega,by simp,HJ2⟩,by simp only [intOf]; omega⟩
  ·have hlt : ¬ (j:Int)<P := by omega
   go_wp2_with (go_at_call 99; refine d19.mono ?_; rintro _ w1 ⟨rfl,e1⟩; obtain rfl : wr=w1 := e1.symm)
   go_ret
   obtain ⟨fw,B1,L1,F1,lf1,r1,t1,n1,o1⟩ := HJ.out
   have ej : j=P := by omega
   subst ej
   refine ⟨rfl,(Tch.of fw).trans (Tch.set 2 _),B1,L1,F1,lf1,⟨HS.out.resize,⟨hto.1,HZ.out.1⟩,by omega,?_,hne,t1.perm (fun i => by rw [gapL_mem,List.mem_range]; omega) List.nodup_range⟩,n1,o1.perm (fun _ => Iff.rfl) (fun i => by rw [gapL_mem,List.mem_range]; omega)⟩
   exact r1.beside ⟨s,2,.none⟩ _ (fun e => hne.1 e.symm) (fun e => hne.2.1 e.symm) (fun e => hne.2.2 e.symm)
end
end Rm
namespace Rm
open Go Go.RowKit
theorem ndP_mono {a c:Int} (h0:0≤a) (h:a≤c) : ndP a≤ndP c := by
 unfold ndP
 split <;> split <;> omega
structure Oxt where
 ft : Nat
 T : Nat→Prop
 Z : Nat→Int
def oxt0 (ft:Nat) : Oxt := ⟨ft,fun _ => False,fun _ => 0⟩
def Ots (ox:Oxt) (L:List Nat) (F:Nat→Option Nat) (P:Nat) (fr:Nat→Nat) (B:Nat→Int) : Prop := ∀ f,ox.T f→f ∉ L∧(∀ x,F x≠some f)∧(∀ i,i<P→fr i≠f) ∧ ∀ j,j<4096→B (f*4096+j)=ox.Z (f*4096+j)
section
variable {N r ft P P':Nat} {B B':Nat→Int} {L L':List Nat} {F F':Nat→Option Nat} {lf lf':Nat→Nat→Int} {fr fr':Nat→Nat} {c:Nat→Int} {I I':List Nat} {ox:Oxt}
theorem Ots.oth (h:Ots ox L F P fr B) (k:Oth L F fr (List.range P) B L' F' fr' (List.range P') B') : Ots ox L' F' P' fr' B' := fun f hf => by
 obtain ⟨h1,h2,h3,h4⟩ := h f hf
 obtain ⟨k1,k2,k3,k4⟩ := k f h1 h2 (fun i hi => h3 i (List.mem_range.1 hi))
 exact ⟨k1,k2,fun i hi => k3 i (List.mem_range.2 hi),fun j hj => (k4 j hj).trans (h4 j hj)⟩
theorem Ots.bytes (h:Ots ox L F P fr B) (k:∀ f,ox.T f → ∀ j,j<4096→B' (f*4096+j)=B (f*4096+j)) : Ots ox L F P fr B' := fun f hf => by
 obtain ⟨h1,h2,h3,h4⟩ := h f hf
 exact ⟨h1,h2,h3,fun j hj => (k f hf j hj).trans (h4 j hj)⟩
theorem TL.turn {l l':List Pg} {x x':Pg} (h:TL F lf l) (hx:x ∈ l) (hk:okP x') (he:x'.1=x.1) (hm:∀ y,y ∈ l' ↔ y=x'∨(y ∈ l∧y.1≠x.1)) : TL F (setE lf (y0 x.1) (i0 x.1) (toP x'.2.1 x'.2.2)) l' := by
 have hne := hk.ne
 have hok := h.ok x hx
 refine ⟨fun y hy => ?_,fun y hy z hz e => ?_,fun y hy => ?_,fun y k h1 h2 h3 => ?_,fun y h1 h2 => ?_,h.n1⟩
 ·rcases (hm y).1 hy with rfl | h1
  ·exact hk
  ·exact h.ok y h1.1
 ·rcases (hm y).1 hy with rfl | h1 <;> rcases (hm z).1 hz with rfl | h2
  ·rfl
  ·exact absurd (e.symm.trans he) h2.2
  ·exact absurd (e.trans he) h1.2
  ·exact h.uniq y h1.1 z h2.1 e
 ·unfold setE
  rcases (hm y).1 hy with rfl | h1
  ·rw [he,if_pos ⟨rfl,rfl⟩]
  ·rw [if_neg (fun e => h1.2 (va_inj (h.ok y h1.1).1 hok.1 e.1 e.2))]
   exact h.leaf y h1.1
 ·by_cases e : y=y0 x.1∧k=i0 x.1
  ·exact ⟨x',(hm x').2 (.inl rfl),by rw [he]; exact e.1,by rw [he]; exact e.2⟩
  ·unfold setE at h3
   rw [if_neg e] at h3
   obtain ⟨z,hz,e1,e2⟩ := h.only y k h1 h2 h3
   refine ⟨z,(hm z).2 (.inr ⟨hz,fun e3 => e ⟨by rw [e1,e3],by rw [e2,e3]⟩⟩),e1,e2⟩
 ·obtain ⟨k,h3,h4⟩ := h.n0 y h1 h2
  refine ⟨k,h3,?_⟩
  unfold setE
  split
  ·exact hne
  ·exact h4
theorem SpL.turn {i:Nat} {d:Int} (h:SpL N r ft B L F lf fr c I) (hi:i ∈ I) (hd:0≤d∧d<256∧d % 2=0) (hb:0≤ad (fr i)∧ad (fr i)<72057594037927936∧ad (fr i) % 4096=0) (hk:kd (toP (ad (fr i)) d) 0=2)
  (hp:PT N L B' F (setE lf (y0 ((i:Int)*4096)) (i0 ((i:Int)*4096)) (toP (ad (fr i)) d))) : SpL N r ft B' L F (setE lf (y0 ((i:Int)*4096)) (i0 ((i:Int)*4096)) (toP (ad (fr i)) d)) fr (upd c i d) I := by
 have hbi := h.bd i hi
 have hok := h.ok hi
 refine ⟨hp,h.rt,?_,h.nd,h.bd,h.inj,h.pg,h.ftb⟩
 refine TL.turn (x:=upg fr c i) (x' := ((i:Int)*4096,ad (fr i),d)) h.tl (mem_pgL.2 (.inr (.inr ⟨i,hi,rfl⟩))) ⟨hok.1,hb,hd,hk⟩ rfl fun y => ?_
 rw [mem_pgL,mem_pgL]
 constructor
 ·rintro (rfl | rfl | ⟨j,hj,rfl⟩)
  ·exact .inr ⟨.inl rfl,by unfold upg; simp only [ne_eq]; omega⟩
  ·exact .inr ⟨.inr (.inl rfl),by unfold upg; simp only [ne_eq]; omega⟩
  ·by_cases e : j=i
   ·subst e
    left
    unfold upg upd
    rw [if_pos rfl]
   ·right
    refine ⟨.inr (.inr ⟨j,hj,?_⟩),?_⟩
    ·unfold upg upd
     rw [if_neg e]
    ·unfold upg
     simp only [ne_eq]
     omega
 ·rintro (rfl | ⟨rfl | rfl | ⟨j,hj,rfl⟩,hne⟩)
  ·refine .inr (.inr ⟨i,hi,?_⟩)
   unfold upg upd
   rw [if_pos rfl]
  ·exact .inl rfl
  ·exact .inr (.inl rfl)
  ·refine .inr (.inr ⟨j,hj,?_⟩)
   have e : j≠i := fun e => hne (by rw [e])
   unfold upg upd
   rw [if_neg e]
theorem SpL.extc {c':Nat→Int} (h:SpL N r ft B L F lf fr c I) (e:∀ i,i ∈ I→c' i=c i) : SpL N r ft B L F lf fr c' I := by
 have e1 : pgL ft fr c' I=pgL ft fr c I := by
  unfold pgL
  congr 1
  refine List.map_congr_left fun j hj => ?_
  unfold upg
  rw [e j hj]
 exact ⟨h.pt,h.rt,by rw [e1]; exact h.tl,h.nd,h.bd,h.inj,h.pg,h.ftb⟩
theorem SpL.need {j:Nat} (h:SpL N r ft B L F lf fr c (List.range j)) (hj:j<4096) : ((need F ((j:Int)*4096) : Nat) : Int)=ndP (j+1) - ndP j := by
 have e1 : y1 ((j:Int)*4096)=1+0 := by rw [y1_val _ (by omega)]; omega
 have e0 : y0 ((j:Int)*4096)=513+j / 512 := by rw [y0_val _ (by omega)]; omega
 have h1 := h.tl.has1 h.pt 0 (by omega)
 have h0 := h.tl.has0 h.pt (j / 512)
 unfold Go.Proofs.YtabnipbdbnmmpaaGreatDoor.Rm.need ndP
 rw [e1,e0]
 by_cases hj0 : j=0
 ·subst hj0
  have hn : F (1+0)=none := by
   cases hF : F (1+0) with
   | none => rfl
   | some f =>
    obtain ⟨x,hx,e⟩ := h1.1 (by rw [hF]; simp)
    rcases mem_pgL.1 hx with rfl | rfl | ⟨i,hi,rfl⟩
    ·simp only at e; omega
    ·simp only at e; omega
    ·simp at hi
  rw [if_pos hn]
  decide
 ·have hs : F (1+0)≠none := h1.2 ⟨upg fr c 0,mem_pgL.2 (.inr (.inr ⟨0,List.mem_range.2 (by omega),rfl⟩)),by unfold upg; simp only; omega⟩
  rw [if_neg hs,if_neg (show ¬ (j:Int)+1=0 by omega),if_neg (show ¬ (j:Int)=0 by omega)]
  by_cases hm : j % 512=0
  ·have hn : F (513+j / 512)=none := by
    cases hF : F (513+j / 512) with
    | none => rfl
    | some f =>
     obtain ⟨x,hx,e⟩ := h0.1 (by rw [hF]; simp)
     rcases mem_pgL.1 hx with rfl | rfl | ⟨i,hi,rfl⟩
     ·simp only at e; omega
     ·simp only at e; omega
     ·have := List.mem_range.1 hi
      unfold upg at e
      simp only at e
      omega
   rw [if_pos hn]
   omega
  ·have hn : F (513+j / 512)≠none := h0.2 ⟨upg fr c (j - 1),mem_pgL.2 (.inr (.inr ⟨j - 1,List.mem_range.2 (by omega),rfl⟩)),by unfold upg; simp only; omega⟩
   rw [if_neg hn]
   omega
theorem low_iq (i:Nat) : i0 ((i:Int)*4096)=i % 512 := by
 unfold i0 ix spn
 simp
 omega
theorem low_yq (i:Nat) (h:i<4096) : y0 ((i:Int)*4096)=513+i / 512 := by rw [y0_val _ (by omega)]; omega
end
end Rm
end Go.Proofs.YtabnipbdbnmmpaaGreatDoor
