import Derived.Test.YtabnipbdbnmmpaaGreatDoorSh01
import Derived.Test.YtabnipbdbnmmpaaGreatDoorSh44
import Derived.Test.YtabnipbdbnmmpaaGreatDoorSh38
import Derived.Test.YtabnipbdbnmmpaaGreatDoorSh22
import Derived.Test.YtabnipbdbnmmpaaGreatDoorSh14
set_option linter.unusedVariables false
set_option linter.unusedSimpArgs false
namespace Go.Proofs.YtabnipbdbnmmpaaGreatDoor
section
open Go.RowKit Go.Shelf Rg
def Z4M (w:World) (Z:Nat) (en:Int) (q:Option Addr) (n c gp:Nat) (sp:Int) : Prop := w.cell? ⟨Z,0,.none⟩=some (.int .u64 en)∧w.cell? ⟨Z,1,.none⟩=some (.slice q n c)∧w.cell? ⟨Z,2,.none⟩=some (.slice (some ⟨gp,0,.none⟩) 4096 4096)∧w.cell? ⟨Z,3,.none⟩=some (.int .u64 sp)
theorem Z4M.of {w w':World} {Z:Nat} {en:Int} {q:Option Addr} {n c gp:Nat} {sp:Int} (h:Z4M w Z en q n c gp sp) (k:w'.heap[Z]? = w.heap[Z]?) : Z4M w' Z en q n c gp sp :=
 ⟨(cell_heap k _ _).trans h.1,(cell_heap k _ _).trans h.2.1,(cell_heap k _ _).trans h.2.2.1,(cell_heap k _ _).trans h.2.2.2⟩
def sgM (Bq:Nat→Int) (S:List Sg) : Nat→Int := S.foldl (fun M x => Rm.wrM M x.va.toNat x.sz (fun j => Bq (x.wh+j))) (fun _ => 0)
theorem sgM_next (Bq:Nat→Int) {S:List Sg} {i:Nat} {x:Sg} (h:S[i]? = some x) : sgM Bq (S.take (i+1))=Rm.wrM (sgM Bq (S.take i)) x.va.toNat x.sz (fun j => Bq (x.wh+j)) := by
 unfold sgM
 rw [List.take_add_one,h]
 simp [List.foldl_append]
def pgM (Bq:Nat→Int) (S:List Sg) (e:Nat) (Rp:Nat→Int) : Nat→Int := Rm.wrM (sgM Bq S) ((e+1)*4096) 4096 Rp
def LiM (ox:Rm.Oxt) (w0:World) (s p b m N r e K:Nat) (Bq:Nat→Int) (S:List Sg) (Rp:Nat→Int) (en:Ending) (w':World) : Prop := en = .returned (.tuple #[])∧Rm.Fra p b m w0 w'∧Rm.SpM ox w' s p b m N r (e+2) K (pgM Bq S e Rp) (Rm.upd (cS S) e 198)
set_option maxRecDepth 4000 in
set_option maxHeartbeats 4000000 in
theorem layIntoM {ox:Rm.Oxt} {w0 w:World} {s p b m N r:Nat} {X c gp:Nat} {q:Option Addr} {E:List (Sg × Value)} {Bq Rp:Nat→Int} (hE:Segs w0 X (.slice q E.length c) E Bq) (hE0:E ≠ []) (hl:E.length≤8) (hL:Laid3 w0) (en sp:Int)
  (hX:p<X∧b<X∧m<X) (hgp:p<gp∧b<gp∧m<gp∧gp<w0.heap.size) (hRp:∀ i,0≤Rp i∧Rp i<256) (hpg:∀ i,i<4096→w0.cell? ⟨gp,i,.none⟩=some (.int .u8 (Rp i))) (h3:2<p∧2<b∧2<m) (hpw:p<w0.heap.size∧b<w0.heap.size∧m<w0.heap.size) (hs:w0.heap.size≤s)
  (hB:∀ i,0≤Bq i∧Bq i<256) (e:Nat) (he:ePg (E.map (·.1))=(e:Int)) (hr6:rgP (E.map (·.1)) (e:Int)=6) (hin:∀ x ∈ E,0≤x.1.va∧x.1.va+x.1.sz≤(e:Int)*4096) (he2:1≤e∧e+2≤4096) (K:Nat) (hn:((e+2 : Nat) : Int)+Rm.ndP ((e+2 : Nat) : Int)≤K) (h0:Rm.Fra p b m w0 w∧Rm.SpM ox w s p b m N r 0 K (fun _ => 0) (cS (E.map (·.1)))) (hsw:s<w.heap.size) :
  Calls Tryz.prog 44 #[(.agg #[.int .u64 en,.slice q E.length c,.slice (some ⟨gp,0,.none⟩) 4096 4096,.int .u64 sp]),.pointer (some ⟨s,0,.none⟩)] w (LiM ox w0 s p b m N r e K Bq (E.map (·.1)) Rp) := by
 obtain ⟨Z,hZ⟩ : ∃ Z,Z=w.heap.size := ⟨_,rfl⟩
 obtain ⟨w1,hw1⟩ : ∃ w1,w1=w.alloc (.cells #[.int .u64 en,.slice q E.length c,.slice (some ⟨gp,0,.none⟩) 4096 4096,.int .u64 sp] 92) := ⟨_,rfl⟩
 have b1 : Below w.heap.size w w1 := by rw [hw1]; exact (Below.refl _ _).alloc (Nat.le_refl _) _
 have z1 : w1.heap.size=Z+1 := by rw [hw1,hZ]; simp
 have kS : Z4M w1.drew Z en q E.length c gp sp := by
  have : Z4M w1 Z en q E.length c gp sp := by rw [hw1,hZ]; exact ⟨by simp,by simp,by simp,by simp⟩
  exact this
 obtain ⟨hf0,hN0⟩ := h0
 have hw0 : w0.heap.size≤w.heap.size := hf0.size
 have f1 : Rm.Fra p b m w0 w1.drew := hf0.trans ((Rm.Fra.below b1).trans (Rm.Fra.below (Below.refl _ _).drew))
 have hE1 := hE.fraM f1 hX
 have c58 := pages_any (w:=w1.drew) hE1 hE0 hl en sp (some ⟨gp,0,.none⟩) 4096 4096
 rw [he] at c58
 obtain ⟨_,_,ef,hcE1,hcE2,_⟩ := own_form hE.own
 cases ef
 have HN0 : Hid (Rm.SpM ox w1.drew s p b m N r 0 K (fun _ => 0) (cS (E.map (·.1)))) := (hN0.below b1).below (Below.refl _ _).drew
 have HE : Hid (Segs w0 X (.slice q E.length c) E Bq∧Laid3 w0∧Rm.Fra p b m w0 w1.drew) := ⟨hE,hL,f1⟩
 have HR : Hid ((∀ i,0≤Rp i∧Rp i<256)∧(∀ i,i<4096→w0.cell? ⟨gp,i,.none⟩=some (.int .u8 (Rp i)))∧(∀ i,0≤Bq i∧Bq i<256)) := ⟨hRp,hpg,hB⟩
 have HI : Hid (ePg (E.map (·.1))=(e:Int)∧rgP (E.map (·.1)) (e:Int)=6 ∧ ∀ x ∈ E,0≤x.1.va∧x.1.va+x.1.sz≤(e:Int)*4096) := ⟨he,hr6,hin⟩
 clear hE hL hRp hpg hB hN0 hf0 f1 hE1 he hr6 hin
 go_enter Tryz.func44,Tryz.ntmps44
 go_upto_region 1 with fail
 rw [← hw1,← hZ]
 have HZ : Hid (Z=w.heap.size∧Below w.heap.size w w1) := ⟨hZ,b1⟩
 have hZge : w.heap.size≤Z := by omega
 clear hw1 hZ b1
 refine wp_region_held_drew (S:=(fun U => Z4M U Z en q E.length c gp sp)) (by kernel_rfl) kS (fun hHeld => ?_)
 refine nT 0 (.pointer (some ⟨s,0,.none⟩)) rfl ?_ (fun ww hSw => by obtain ⟨q0,q1,q2,q3⟩ := hSw; go_simp)
 simp only [X0,X1,X2,X3,X4,X5,X6]
 refine nT 1 (.agg #[.int .u64 en,.slice q E.length c,.slice (some ⟨gp,0,.none⟩) 4096 4096,.int .u64 sp]) rfl ?_ (fun ww hSw => by obtain ⟨q0,q1,q2,q3⟩ := hSw; go_simp)
 simp only [X0,X1,X2,X3,X4,X5,X6]
 refine nT 3 (.agg #[.int .u64 en,.slice q E.length c,.slice (some ⟨gp,0,.none⟩) 4096 4096,.int .u64 sp]) rfl ?_ (fun ww hSw => by obtain ⟨q0,q1,q2,q3⟩ := hSw; go_simp)
 simp only [X0,X1,X2,X3,X4,X5,X6]
 refine nT 4 (.func (.func 94) #[(.agg #[.int .u64 en,.slice q E.length c,.slice (some ⟨gp,0,.none⟩) 4096 4096,.int .u64 sp])] #[]) rfl ?_ (fun ww hSw => by obtain ⟨q0,q1,q2,q3⟩ := hSw; go_simp)
 simp only [X0,X1,X2,X3,X4,X5,X6]
 refine wpAnyH_ready (rs:=[2]) (by kernel_rfl) (by simp) ?_
 refine AllReadyH.cons rfl (fun K9 hK => ?_) AllReadyH.nil
 go_simp
 go_at_call 90
 refine c58.mono ?_
 rintro _ w2 ⟨rfl,b2⟩
 have kS2 : Z4M w2 Z en q E.length c gp sp := kS.of (b2.block Z (by show Z<w1.heap.size; omega))
 have HB2 : Hid (Below w1.drew.heap.size w1.drew w2∧Rm.Fra p b m w0 w2) := ⟨b2,HE.out.2.2.trans (Rm.Fra.below b2)⟩
 have hz2 : Z+1≤w2.heap.size := by have := b2.size; show Z+1 ≤ _; have hh : w1.drew.heap.size=w1.heap.size := rfl; omega
 clear b2 c58
 refine hK.out _ _ kS2 (fun hHeld => ?_)
 clear hK K9
 try simp only [X0,X1,X2,X3,X4,X5,X6]
 have c61 := exGrowM (w0:=w0) (wi:=w2) (w:=w2) HE.out.1 HE.out.2.1 hl en sp (some ⟨gp,0,.none⟩) 4096 4096 hX h3 hs K (e+2) (by omega) hn ⟨HB2.out.2,Rm.Tch.of (Rm.Fra.refl _ _ _ _),HN0.out.below HB2.out.1⟩
 rw [show (((e+2 : Nat) : Int))=(e:Int)+2 by omega] at c61
 refine wpAnyH_ready (rs:=[5]) (by kernel_rfl) (by simp) ?_
 refine AllReadyH.cons rfl (fun K9 hK => ?_) AllReadyH.nil
 go_simp
 go_at_call 93
 refine c61.mono ?_
 rintro _ w3 ⟨rfl,hf3,ht3,hN3⟩
 have kS3 : Z4M w3 Z en q E.length c gp sp := kS2.of (ht3.block Z (by omega) (by omega) (by omega) (by omega) (by have := HZ.out.1; omega))
 have H3 : Hid (Rm.Fra p b m w0 w3∧Rm.SpM ox w3 s p b m N r (e+2) K (fun _ => 0) (cS (E.map (·.1)))) := ⟨hf3,hN3⟩
 have hz3 := ht3.size
 clear hf3 ht3 hN3 c61
 refine hK.out _ _ kS3 (fun hHeld => ?_)
 clear hK K9
 try simp only [X0,X1,X2,X3,X4,X5,X6]
 refine wpAnyH_done (by kernel_rfl) ?_ _
 obtain ⟨k0,k1,k2,k3⟩ := kS3
 have HK : Hid (Z4M w3 Z en q E.length c gp sp) := ⟨k0,k1,k2,k3⟩
 clear kS kS2 hHeld
 have hlE : (0:Int)≤E.length := by omega
 go_wp2_with fail
 go_loopw [16] (fun k wr => ∃ i : Nat,i≤E.length∧k = .int .i64 i∧Hid (Rm.Fra p b m w3 wr∧Rm.SpM ox wr s p b m N r (e+2) K (sgM Bq ((E.map (·.1)).take i)) (cS (E.map (·.1))))) (fun k _ => (E.length - intOf k).toNat)
 case atStart => exact ⟨0,by omega,rfl,Rm.Fra.refl _ _ _ _,H3.out.2⟩
 case round =>
  obtain ⟨i,hi,rfl,HG⟩ := hrel
  by_cases hlt : i<E.length
  ·have g0 : (i:Int)<E.length := by omega
   obtain ⟨x,hx⟩ : ∃ x,E[i]? = some x := ⟨E[i],List.getElem?_eq_getElem hlt⟩
   have hS1 := HE.out.1.fraM (H3.out.1.trans HG.out.1) hX
   have hxm := List.mem_of_getElem? hx
   obtain ⟨f0,f1,f2,f3⟩ := flatE_get E _ x hx
   obtain ⟨g,rfl,a0⟩ := own_cell hS1.own f0 (by omega) (by omega)
   obtain ⟨g1,e1,a1⟩ := own_cell hS1.own f1 (by omega) (by omega)
   obtain ⟨g2,e2,a2⟩ := own_cell hS1.own f2 (by omega) (by omega)
   obtain ⟨g3,e3,a3⟩ := own_cell hS1.own f3 (by omega) (by omega)
   simp only [Option.some.injEq,Addr.mk.injEq,and_true] at e1 e2 e3
   subst e1 e2 e3
   have hii := HI.out.2.2 x hxm
   have hdat := hS1.dat x hxm
   obtain ⟨dq,dc,hld,hdc1,hdc2,hdn⟩ := own_form hdat
   rw [hld] at a2 hdat
   obtain ⟨va,hva⟩ : ∃ va : Nat,x.1.va=va := ⟨x.1.va.toNat,by omega⟩
   rw [hva] at a0 hii
   have hA : Below wr.heap.size wr (wr.alloc (.cells #[.int .u64 (va:Int),.int .u32 x.1.fl,.slice dq x.1.sz dc,.int .u64 x.1.mem] 38)) := (Below.refl _ _).alloc (Nat.le_refl _) _
   have c63 : Calls Tryz.prog 95 #[.pointer (some ⟨s,0,.none⟩),.int .u64 va,.slice dq x.1.sz dc] (wr.alloc (.cells #[.int .u64 (va:Int),.int .u32 x.1.fl,.slice dq x.1.sz dc,.int .u64 x.1.mem] 38)) (Rm.PmP ox (wr.alloc (.cells #[.int .u64 (va:Int),.int .u32 x.1.fl,.slice dq x.1.sz dc,.int .u64 x.1.mem] 38)) s p b m N r (e+2) K (Rm.wrM (sgM Bq ((E.map (·.1)).take i)) va x.1.sz (fun j => Bq (x.1.wh+j))) (cS (E.map (·.1)))) := by
    by_cases hs0 : x.1.sz=0
    ·exact (HG.out.2.below hA).poke0 va x.1.sz hs0 (by omega) dq dc _
    ·have hii2 : 1≤x.1.sz := by omega
     obtain ⟨gd,rfl⟩ : ∃ gd,dq=some ⟨gd,0,.none⟩ := by
      obtain ⟨k,hk⟩ : ∃ k,x.1.sz=k+1 := ⟨x.1.sz - 1,by omega⟩
      rw [hk] at hdat
      exact own_some hdat
     have hxg : X≤gd := by
      have := own_block hdat gd rfl
      exact this
     have hdcell : ∀ i,i<x.1.sz→wr.cell? ⟨gd,0+i,.none⟩=some (.int .u8 (Bq (x.1.wh+i))) := fun i hi => by
      have h1 : (by8 (byt Bq x.1))[i]? = some (.int .u8 (Bq (x.1.wh+i))) := by8_get (byt_get Bq x.1 i hi)
      obtain ⟨g',eg,hc⟩ := own_cell hdat h1 (by omega) (by omega)
      cases eg
      rw [Nat.zero_add]
      exact hc
     have gdl : gd<wr.heap.size := lt_of_cell (hdcell 0 (by omega))
     exact (HG.out.2.below hA).poke va x.1.sz hii2 (by omega) gd 0 dc ⟨hdc1,hdc2⟩ (fun i => Bq (x.1.wh+i)) (fun i => HR.out.2.2 _) (fun i hi => (hA.cell (p:=⟨gd,0+i,.none⟩) gdl).trans (hdcell i hi)) ⟨by omega,by omega,by omega⟩
   have HXN : Hid (sgM Bq ((E.map (·.1)).take (i+1))=Rm.wrM (sgM Bq ((E.map (·.1)).take i)) va x.1.sz (fun j => Bq (x.1.wh+j))) := by
    have h9 := sgM_next Bq (S:=E.map (·.1)) (i:=i) (x:=x.1) (by rw [List.getElem?_map,hx]; rfl)
    rw [hva] at h9
    exact h9
   have HA : Hid (Below wr.heap.size wr (wr.alloc (.cells #[.int .u64 (va:Int),.int .u32 x.1.fl,.slice dq x.1.sz dc,.int .u64 x.1.mem] 38))) := hA
   have hva0 : (0:Int)≤va := by omega
   clear hS1 hxm f0 f1 f2 f3 hdat hld hdn hx hva hA hii
   go_wp2_with (go_at_call 95; refine c63.mono ?_; rintro _ w4 ⟨rfl,m4,f4⟩; have H4 : Hid (Rm.SpM ox w4 s p b m N r (e+2) K (Rm.wrM (sgM Bq ((E.map (·.1)).take i)) va x.1.sz (fun j => Bq (x.1.wh+j))) (cS (E.map (·.1)))∧Rm.Fra p b m w3 w4) := ⟨m4,HG.out.1.trans ((Rm.Fra.below HA.out).trans f4)⟩; clear m4 f4 c63)
   exact ⟨⟨i+1,by omega,rfl,H4.out.2,by rw [HXN.out]; exact H4.out.1⟩,by simp only [intOf]; omega⟩
  ·obtain rfl : i=E.length := by omega
   have hlm : (E.map (·.1)).take E.length=E.map (·.1) := List.take_of_length_le (by rw [List.length_map]; exact Nat.le_refl _)
   obtain ⟨hf4,hN4⟩ := HG.out
   rw [hlm] at hN4
   have hz4 := hf4.size
   have f04 : Rm.Fra p b m w0 wr := H3.out.1.trans hf4
   have kS4 : Z4M wr.drew Z en q E.length c gp sp := HK.out.of (hf4.block Z (by omega) (by omega) (by omega) (by omega))
   have c57 := stackAt_any (w:=wr.drew) (HE.out.1.fraM (f04.trans (Rm.Fra.below (Below.refl _ _).drew)) hX) hE0 hl en sp (some ⟨gp,0,.none⟩) 4096 4096
   rw [HI.out.1] at c57
   have H4 : Hid (Rm.Fra p b m w0 wr.drew∧Rm.SpM ox wr.drew s p b m N r (e+2) K (sgM Bq (E.map (·.1))) (cS (E.map (·.1)))) := ⟨f04.trans (Rm.Fra.below (Below.refl _ _).drew),hN4.below (Below.refl _ _).drew⟩
   clear hf4 hN4 f04 HG hlm hlt
   go_upto_region 7 with fail
   refine wp_region_held_drew (S:=(fun U => Z4M U Z en q E.length c gp sp)) (by kernel_rfl) kS4 (fun hHeld => ?_)
   refine nT 0 (.pointer (some ⟨s,0,.none⟩)) rfl ?_ (fun ww hSw => by obtain ⟨q0,q1,q2,q3⟩ := hSw; go_simp)
   simp only [X0,X1,X2,X3,X4,X5,X6]
   refine nT 1 (.agg #[.int .u64 en,.slice q E.length c,.slice (some ⟨gp,0,.none⟩) 4096 4096,.int .u64 sp]) rfl ?_ (fun ww hSw => by obtain ⟨q0,q1,q2,q3⟩ := hSw; go_simp)
   simp only [X0,X1,X2,X3,X4,X5,X6]
   refine nT 3 (.pointer (some ⟨Z,2,.none⟩)) rfl ?_ (fun ww hSw => by obtain ⟨q0,q1,q2,q3⟩ := hSw; go_simp)
   simp only [X0,X1,X2,X3,X4,X5,X6]
   refine nT 4 (.pointer (some ⟨Z,2,.none⟩)) rfl ?_ (fun ww hSw => by obtain ⟨q0,q1,q2,q3⟩ := hSw; go_simp)
   simp only [X0,X1,X2,X3,X4,X5,X6]
   refine nT 5 (.slice (some ⟨gp,0,.none⟩) 4096 4096) rfl ?_ (fun ww hSw => by obtain ⟨q0,q1,q2,q3⟩ := hSw; go_simp)
   simp only [X0,X1,X2,X3,X4,X5,X6]
   refine wpAnyH_ready (rs:=[2]) (by kernel_rfl) (by simp) ?_
   refine AllReadyH.cons rfl (fun K9 hK => ?_) AllReadyH.nil
   go_simp
   go_at_call 89
   refine c57.mono ?_
   rintro _ w5 ⟨rfl,b5⟩
   have kS5 : Z4M w5 Z en q E.length c gp sp := kS4.of (b5.block Z (by show Z<wr.heap.size; omega))
   have H5 : Hid (Rm.Fra p b m w0 w5∧Rm.SpM ox w5 s p b m N r (e+2) K (sgM Bq (E.map (·.1))) (cS (E.map (·.1)))) := ⟨H4.out.1.trans (Rm.Fra.below b5),H4.out.2.below b5⟩
   have hz5 : wr.heap.size≤w5.heap.size := b5.size
   clear b5 c57
   refine hK.out _ _ kS5 (fun hHeld => ?_)
   clear hK K9
   try simp only [X0,X1,X2,X3,X4,X5,X6]
   have c63 := H5.out.2.poke ((e+1)*4096) 4096 (by omega) (by omega) gp 0 4096 (by omega) Rp HR.out.1 (fun i hi => by
    rw [Nat.zero_add]
    exact (H5.out.1.cell (x:=⟨gp,i,.none⟩) hgp.2.2.2 (by show gp≠p; omega) (by show gp≠b; omega) (by show gp≠m; omega)).trans (HR.out.2.1 i hi)) (by omega)
   rw [show (((e+1)*4096 : Nat) : Int)=((e:Int)+1)*4096 by omega] at c63
   refine wpAnyH_ready (rs:=[6]) (by kernel_rfl) (by simp) ?_
   refine AllReadyH.cons rfl (fun K9 hK => ?_) AllReadyH.nil
   go_simp
   go_at_call 95
   refine c63.mono ?_
   rintro _ w6 ⟨rfl,r6,f6⟩
   have kS6 : Z4M w6 Z en q E.length c gp sp := kS5.of (f6.block Z (by omega) (by omega) (by omega) (by omega))
   have H6 : Hid (Rm.Fra p b m w0 w6∧Rm.SpM ox w6 s p b m N r (e+2) K (pgM Bq (E.map (·.1)) e Rp) (cS (E.map (·.1)))) := ⟨H5.out.1.trans f6,r6⟩
   have hz6 := f6.size
   clear r6 f6 c63
   refine hK.out _ _ kS6 (fun hHeld => ?_)
   clear hK K9
   try simp only [X0,X1,X2,X3,X4,X5,X6]
   refine wpAnyH_done (by kernel_rfl) ?_ _
   have c65 := guard_any (w:=w6) (HE.out.1.fraM H6.out.1 hX) hE0 hl en sp (some ⟨gp,0,.none⟩) 4096 4096
   rw [HI.out.1] at c65
   obtain ⟨k0,k1,k2,k3⟩ := kS6
   have HC : Hid (∀ W,Below w6.heap.size w6 W→Calls Tryz.prog 96 #[.pointer (some ⟨s,0,.none⟩),.int .i64 e] W fun e9 w' => e9 = .returned (.int .i64 0)∧Rm.SpM ox w' s p b m N r (e+2) K (pgM Bq (E.map (·.1)) e Rp) (Rm.upd (cS (E.map (·.1))) e 198)∧Rm.Fra p b m W w') := fun W bW =>
    (H6.out.2.below bW).guard e ⟨by omega,by omega⟩ (d:=198) (by
     unfold cS
     rw [HI.out.2.1]
     exact .inr (.inl ⟨rfl,rfl⟩))
   go_wp2_with first | (go_at_call 97; refine c65.mono ?_; rintro _ w7 ⟨rfl,b7⟩; have H7 : Hid (Below w6.heap.size w6 w7) := b7; clear b7) | (go_at_call 96; refine (HC.out _ H7.out).mono ?_; rintro _ w8 ⟨rfl,m8,f8⟩)
   refine bodyPost_end (v:=.tuple #[]) (by simp [results,Tryz.results44,go_sem]) rfl ⟨rfl,H6.out.1.trans ((Rm.Fra.below H7.out).trans f8),m8⟩
end
namespace Rm
open Go Go.RowKit
structure NS (w w':World) (p b m N:Nat) (B:Nat→Int) (i:Nat) (L1:List Nat) (ft:Nat) (fr:Nat→Nat) (c:Nat→Int) (B':Nat→Int) (L':List Nat) (F':Nat→Option Nat) (lf':Nat→Nat→Int) : Prop where
 ram : Ram w' p b m N B' L'
 sl : SpL N i ft B' L' F' lf' fr c []
 len : L'.length+2=L1.length
 oth : Oth (i :: L1) (fun _ => none) fr [] B L' F' fr [] B'
 fra : Fra p b m w w'
section
variable {w:World} {p b m N:Nat} {B:Nat→Int}
set_option maxHeartbeats 2000000 in
theorem newTable_sl {i:Nat} {L1:List Nat} (h:Ram w p b m N B (i :: L1)) (hl:2≤L1.length) (ft:Nat) (hft:1≤ft∧ft<N∧ft ∉ i :: L1) (fr:Nat→Nat) (c:Nat→Int) :
  Calls Tryz.prog 92 #[.pointer (some ⟨p,0,.none⟩),.int .u64 (ad ft),.int .u64 2147483648] w fun e w' => e = .returned (.agg #[.pointer (some ⟨p,0,.none⟩),.int .u64 (ad i)]) ∧ ∃ B' L' F' lf',NS w w' p b m N B i L1 ft fr c B' L' F' lf' := by
 have hN := h.mem.n2
 have hi := h.lt i (List.mem_cons_self ..)
 have hnd := List.nodup_cons.1 h.nd
 have hil : i ∉ L1 := hnd.1
 have hfb := ad_b ft N hft.2.1 hN
 obtain ⟨w1,hw1⟩ : ∃ w1,w1=w.alloc (.cells #[.pointer .none,.int .u64 0] 105) := ⟨_,rfl⟩
 have b1 : Below w.heap.size w w1 := by rw [hw1]; exact (Below.refl _ _).alloc (Nat.le_refl _) _
 have k0 : w1.cell? ⟨w.heap.size,0,.none⟩=some (.pointer .none) := by rw [hw1]; simp
 have k1 : w1.cell? ⟨w.heap.size,1,.none⟩=some (.int .u64 0) := by rw [hw1]; simp
 have kf : ∀ k,w1.frozen? ⟨w.heap.size,k,.none⟩=false := fun k => by rw [hw1]; exact World.frozen?_alloc_new _ _ _ _
 have hp : p<w.heap.size := lt_of_cell h.mem.c0
 have hb : b<w.heap.size := lt_of_cell (h.mem.cb 0 (by have := h.mem.n1; omega))
 have hm : m<w.heap.size := h.mem.mlt
 have c106 := new_some i (h.below b1)
 have P0 : PT N L1 (zer B i) (fun x => if x=0 then some i else none) (fun _ _ => 0) := PT.initY hi hil
 have HW : Hid (Below w.heap.size w w1∧C2w w1 w.heap.size (.pointer .none) (.int .u64 0)) := ⟨b1,k0,k1,kf⟩
 have HP0 : Hid (PT N L1 (zer B i) (fun x => if x=0 then some i else none) (fun _ _ => 0)) := P0
 have z1 : w1.heap.size=w.heap.size+1 := by rw [hw1]; simp
 have HL : Hid (i ∉ L1) := hil
 clear h P0 b1 k0 k1 kf hnd hil
 go_enter Tryz.func92,Tryz.ntmps92
 go_upto_region 1 with fail
 rw [← hw1]
 clear hw1
 go_upto_region 2 with (go_at_call 144; refine c106.mono ?_; rintro _ w2 ⟨rfl,r2,f2⟩; have H2 : Hid (Ram w2 p b m N (zer B i) L1∧Fra p b m w1 w2) := ⟨r2,f2⟩; clear r2 f2 c106)
 have c1 := map_pt H2.out.1 HP0.out (r:=i) rfl 274877898752 (ad ft) 198 (by omega) (by omega) ⟨hfb.1,hfb.2.2,hfb.2.1⟩ perm198 (leaf_b _ _ ⟨hfb.1,hfb.2.2,hfb.2.1⟩ (by omega) (by omega) (by decide) (by decide)) rfl (by
  have : needY (fun x => if x=0 then some i else none) 274877898752=2 := by
   unfold needY
   have : y1 274877898752≠0 := by have := y1_le 274877898752; omega
   simp [this]
  omega)
 go_wp2_with fail
 refine c1.mono ?_
 rintro _ w3 ⟨rfl,B1,L2,F1,R1,e1,r3,f3⟩
 have hn2 : needY (fun x => if x=0 then some i else none) 274877898752=2 := by
  unfold needY
  have : y1 274877898752≠0 := by have := y1_le 274877898752; omega
  simp [this]
 rw [hn2] at e1
 have H3 : Hid (LP N 274877898752 (toP (ad ft) 198) L1 (zer B i) (fun x => if x=0 then some i else none) (fun _ _ => 0) L2 B1 F1∧L1=L1.take 2 ++ L2∧Ram w3 p b m N B1 L2∧Fra p b m w1 w3) := ⟨R1,e1,r3,H2.out.2.trans f3⟩
 clear R1 e1 r3 f3 c1 H2 hn2
 have hF1 : F1 0=some i := H3.out.1.ext 0 i rfl
 have hz0 : ad 0=2147483648 := rfl
 have c2 := map_pt H3.out.2.2.1 H3.out.1.pt (r:=i) hF1 274877902848 (ad 0) 74 (by omega) (by omega) ⟨by decide,by decide,by decide⟩ perm74 (leaf_b _ _ ⟨by decide,by decide,by decide⟩ (by omega) (by omega) (by decide) (by decide)) (by
  unfold setE
  rw [if_neg (fun e => tt_i0 e.2)]) (by
  obtain ⟨g,q,h1,h2⟩ := H3.out.1.has
  unfold needY
  rw [tt_y1,tt_y0,h1,h2]
  simp)
 have HF1 : Hid (F1 0=some i) := hF1
 rw [hz0] at c2
 clear hz0 hF1
 go_wp2_with fail
 refine c2.mono ?_
 rintro _ w4 ⟨rfl,B2,L3,F2,R2,e2,r4,f4⟩
 have hn2 : needY F1 274877902848=0 := by
  obtain ⟨g,q,h1,h2⟩ := H3.out.1.has
  unfold needY
  rw [tt_y1,tt_y0,h1,h2]
  simp
 rw [hn2,List.take_zero,List.nil_append] at e2
 have HR2 : Hid (LP N 274877902848 (toP 2147483648 74) L2 B1 F1 (setE (fun _ _ => 0) (y0 274877898752) (i0 274877898752) (toP (ad ft) 198)) L3 B2 F2) := R2
 have H4 : Hid (L2=L3∧Ram w4 p b m N B2 L3∧Fra p b m w1 w4) := ⟨e2,r4,H3.out.2.2.2.trans f4⟩
 have k4 := HW.out.2.fra H4.out.2.2 (by omega) (by omega) (by omega)
 have k0 := k4.a
 have k1 := k4.b
 have kf0 := k4.f 0
 have kf1 := k4.f 1
 clear R2 e2 r4 f4 c2 hn2
 go_wp2_with fail
 have s0 : ((w4.setCell ⟨w.heap.size,0,.none⟩ (.pointer (some ⟨p,0,.none⟩))).setCell ⟨w.heap.size,1,.none⟩ (.int .u64 (2147483648+(i:Int)*4096))).cell? ⟨w.heap.size,0,.none⟩=some (.pointer (some ⟨p,0,.none⟩)) := by
  rw [World.cell?_setCell_other _ _ _ _ (by simp)]
  exact World.cell?_setCell_same' _ _ _ (by rw [k0]; rfl)
 have s1 : ((w4.setCell ⟨w.heap.size,0,.none⟩ (.pointer (some ⟨p,0,.none⟩))).setCell ⟨w.heap.size,1,.none⟩ (.int .u64 (2147483648+(i:Int)*4096))).cell? ⟨w.heap.size,1,.none⟩=some (.int .u64 (2147483648+(i:Int)*4096)) := World.cell?_setCell_same' _ _ _ (by rw [World.cell?_setCell_other _ _ _ _ (by simp),k1]; rfl)
 have own1 : ∀ x f,F1 x=some f→f ∈ i :: L1∧(x=0∨x=y1 274877898752∨x=y0 274877898752) := fun x f hf => by
  rcases H3.out.1.new x f hf with e | ⟨e1,_,e2⟩
  ·by_cases hx : x=0
   ·simp only [hx,if_true,Option.some.injEq] at e
    exact ⟨by rw [← e]; exact List.mem_cons_self ..,.inl hx⟩
   ·simp [hx] at e
  ·exact ⟨List.mem_cons_of_mem _ e1,.inr e2⟩
 have own2 : ∀ x f,F2 x=some f→f ∈ i :: L1∧(x=0∨x=y1 274877898752∨x=y0 274877898752) := fun x f hf => by
  rcases HR2.out.new x f hf with e | ⟨e1,_,e2⟩
  ·exact own1 x f e
  ·rw [tt_y1,tt_y0] at e2
   exact ⟨List.mem_cons_of_mem _ (H3.out.1.sub f e1),.inr e2⟩
 have o1 : okP (274877898752,ad ft,198) := ⟨⟨by simp only; omega,by simp only; omega,by simp only; omega⟩,hfb,⟨by simp only; omega,by simp only; omega,by simp only; omega⟩,(leaf_b (ad ft) 198 ⟨hfb.1,hfb.2.2,hfb.2.1⟩ (by omega) (by omega) (by decide) (by decide)).1⟩
 have o2 : okP (274877902848,ad 0,74) := ⟨⟨by simp only; omega,by simp only; omega,by simp only; omega⟩,⟨by decide,by decide,by decide⟩,⟨by simp only; omega,by simp only; omega,by simp only; omega⟩,(leaf_b (ad 0) 74 ⟨by decide,by decide,by decide⟩ (by omega) (by omega) (by decide) (by decide)).1⟩
 have t1 := TL.map (x:=(274877898752,ad ft,198)) (TL.init i) o1 (fun y hy => by cases hy) H3.out.1
 have t2 := TL.map (x:=(274877902848,ad 0,74)) t1 o2 (fun y hy => by rw [List.nil_append,List.mem_singleton] at hy; rw [hy]; simp) HR2.out
 have hS : SpL N i ft B2 L3 F2 _ fr c [] := ⟨HR2.out.pt,HR2.out.ext 0 i HF1.out,t2,List.nodup_nil,fun _ h => (by cases h),fun _ h => (by cases h),fun _ h => (by cases h),hft.1,hft.2.1,fun hm => hft.2.2 (List.mem_cons_of_mem _ (H3.out.1.sub _ (H4.out.1 ▸ hm))),fun x hx => hft.2.2 (own2 x _ hx).1⟩
 refine bodyPost_ret (v:=.agg #[.pointer (some ⟨p,0,.none⟩),.int .u64 (2147483648+(i:Int)*4096)]) (by simp [results,Tryz.results92,go_sem,s0,s1]) rfl ⟨rfl,B2,L3,F2,_,?_,hS,?_,fun f hf h2 h3 => ⟨fun hm => hf (List.mem_cons_of_mem _ (H3.out.1.sub _ (H4.out.1 ▸ hm))),fun x hx => hf (own2 x f hx).1,fun _ h => by (cases h),fun k hk => ?_⟩,?_⟩
 ·exact (H4.out.2.1.beside ⟨w.heap.size,0,.none⟩ _ (by show p≠w.heap.size; omega) (by show b≠w.heap.size; omega) (by show m≠w.heap.size; omega)).beside ⟨w.heap.size,1,.none⟩ _ (by show p≠w.heap.size; omega) (by show b≠w.heap.size; omega) (by show m≠w.heap.size; omega)
 ·have e := congrArg List.length H3.out.2.1
  rw [List.length_append,List.length_take,H4.out.1] at e
  omega
 ·rw [HR2.out.byt f (fun x hx => hf (own2 x f hx).1) k hk,H3.out.1.byt f (fun x hx => hf (own1 x f hx).1) k hk]
  have hfi : f≠i := fun e => hf (by rw [e]; exact List.mem_cons_self ..)
  exact zer_out _ _ _ (by rcases Nat.lt_or_gt_of_ne hfi with h | h <;> omega)
 ·exact (((Fra.below HW.out.1).trans H4.out.2.2).beside ⟨w.heap.size,0,.none⟩ _ (Nat.le_refl _)).beside ⟨w.heap.size,1,.none⟩ _ (Nat.le_refl _)
set_option maxHeartbeats 2000000 in
theorem spNew_sl {i:Nat} {L1:List Nat} (h:Ram w p b m N B (i :: L1)) (hl:2≤L1.length) (ft:Nat) (hft:1≤ft∧ft<N∧ft ∉ i :: L1) (fr:Nat→Nat) (c:Nat→Int) :
  Calls Tryz.prog 43 #[.pointer (some ⟨p,0,.none⟩),.int .u64 (ad ft),.int .u64 2147483648] w fun e w' => ∃ s,e = .returned (.tuple #[.pointer (some ⟨s,0,.none⟩),.int .i64 0])∧w.heap.size≤s∧Sp w' s p (ad i) 0 ∧ ∃ B' L' F' lf',NS w w' p b m N B i L1 ft fr c B' L' F' lf' := by
 have hN := h.mem.n2
 have hfb := ad_b ft N hft.2.1 hN
 obtain ⟨ok,h1,c59⟩ := two_any h (ad ft) 2147483648 (by omega) (by omega)
 obtain rfl : ok=true := h1.2 ⟨⟨ft,hft.2.1,hft.2.2,rfl⟩,⟨0,by have := h.mem.n1; omega,fun e => by have := (h.lt 0 e).1; omega,rfl⟩,by unfold ad; omega⟩
 have c25 := frames_any h.mem
 have n1 := h.mem.n1
 have hN0 : ((N:Int) == 0)=false := by simp; omega
 have HR : Hid (Ram w p b m N B (i :: L1)) := h
 have hp : p<w.heap.size := lt_of_cell h.mem.c0
 have hb : b<w.heap.size := lt_of_cell (h.mem.cb 0 (by omega))
 have hm : m<w.heap.size := h.mem.mlt
 have hlen : ¬ (((i :: L1).length : Int)<3) := by simp only [List.length_cons]; omega
 clear h h1
 go_enter Tryz.func43,Tryz.ntmps43
 go_upto_region 5 with first | (go_at_call 41; refine c25.mono ?_; rintro _ w1 ⟨rfl,e1⟩; obtain rfl : w=w1 := e1.symm) | (go_at_call 91; refine c59.mono ?_; rintro _ w1 ⟨rfl,b1⟩; have H1 : Hid (Below w.heap.size w w1) := b1; clear b1)
 have c10 := count_ram (HR.out.below H1.out)
 generalize hg : (i :: L1).length=g at c10 hlen
 clear hg
 go_upto_region 7 with (go_at_call 15; refine c10.mono ?_; rintro _ w2 ⟨rfl,k2,rfl⟩)
 have H2 : Hid (Below w.heap.size w (w1.drewN k2)) := H1.out.trans ((below_dr w1 k2).mono H1.out.size)
 have c60 := newTable_sl (HR.out.below H2.out) hl ft hft fr c
 go_wp2_with (go_at_call 92; refine c60.mono ?_; rintro _ w3 ⟨rfl,B',L',F',lf',T⟩)
 refine bodyPost_ret (v:=.tuple #[.pointer (some ⟨w3.heap.size,0,.none⟩),.int .i64 0]) (by simp [results,Tryz.results43,go_sem]) rfl ⟨w3.heap.size,rfl,?_,?_,B',L',F',lf',?_⟩
 ·exact Nat.le_trans H2.out.size T.fra.size
 ·exact ⟨by simp,by simp,by simp,fun k => World.frozen?_alloc_new _ _ _ _⟩
 ·exact ⟨T.ram.below ((Below.refl _ _).alloc (Nat.le_refl _) _),T.sl,T.len,T.oth,(((Fra.below H2.out).trans T.fra)).alloc _⟩
end
end Rm
end Go.Proofs.YtabnipbdbnmmpaaGreatDoor
