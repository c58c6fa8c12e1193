import Derived.Test.YtabnipbdbnmmpaaGreatDoorSh01
import Derived.Test.YtabnipbdbnmmpaaGreatDoorSh07
import Derived.Test.YtabnipbdbnmmpaaGreatDoorSh08
import Derived.Test.YtabnipbdbnmmpaaGreatDoorSh04
set_option linter.unusedVariables false
set_option linter.unusedSimpArgs false
namespace Go.Proofs.YtabnipbdbnmmpaaGreatDoor
section
open Go.RowKit
def srOf (x:Sg × Value) : Sr := match x.2 with | .slice q _ c => ⟨x.1.va,x.1.fl,q,x.1.sz,c,x.1.mem⟩ | _ => ⟨0,0,none,0,0,0⟩
def srs (E:List (Sg × Value)) (i:Nat) : Sr := match E[i]? with | some x => srOf x | none => ⟨0,0,none,0,0,0⟩
theorem srs_some {E:List (Sg × Value)} {i:Nat} {x:Sg × Value} (h:E[i]? = some x) : srs E i=srOf x := by unfold srs; rw [h]
theorem srs_n {E:List (Sg × Value)} (hd:∀ x ∈ E,∃ q n c,x.2 = .slice q n c) {i:Nat} {x:Sg × Value} (h:E[i]? = some x) : (srs E i).n=x.1.sz := by
 obtain ⟨q,n,c,e⟩ := hd x (List.mem_of_getElem? h)
 rw [srs_some h,srOf,e]
theorem sum_szs {E:List (Sg × Value)} (hd:∀ x ∈ E,∃ q n c,x.2 = .slice q n c) : ∀ i,i≤E.length→sumN (srs E) i=szs (E.map (·.1)) i
 | 0,_ => by cases E <;> rfl
 | i+1,h => by
  obtain ⟨x,hx⟩ : ∃ x,E[i]? = some x := ⟨E[i],List.getElem?_eq_getElem (by omega)⟩
  rw [szs_succ (E.map (·.1)) i x.1 (by rw [List.getElem?_map,hx]; rfl),sumN,sum_szs hd i (by omega),srs_n hd hx]
theorem szs_bd : ∀ (S:List Sg) (i:Nat) (hs:∀ s ∈ S,s.sz≤400000),szs S i≤i*400000
 | S,0,_ => by cases S <;> simp [szs]
 | [],i+1,_ => by simp [szs]
 | s :: S,i+1,h => by
  have h1 := szs_bd S i (fun t ht => h t (List.mem_cons_of_mem _ ht))
  have h2 := h s List.mem_cons_self
  simp only [szs]
  omega
def WrP (w:World) (E:List (Sg × Value)) (B:Nat→Int) (en:Int) (e:Ending) (w':World) : Prop :=
 Below w.heap.size w w'∧((Good en (E.map (·.1))∧64+56*E.length+szs (E.map (·.1)) E.length≤262144 ∧ ∃ v,e = .returned (.tuple #[v,.nilIface])∧w'.ownsRow w.heap.size 5 1 v (64+56*E.length+szs (E.map (·.1)) E.length) (lst (fil en (E.map (·.1)) B) (64+56*E.length+szs (E.map (·.1)) E.length)))∨(¬ (Good en (E.map (·.1))∧64+56*E.length+szs (E.map (·.1)) E.length≤262144) ∧ ∃ p,e = .returned (.tuple #[.slice .none 0 0,.iface 86 (.pointer p)])))
end
section
open Go.RowKit
set_option maxHeartbeats 2000000 in
theorem sizeV_any {w:World} {c:Nat} {q:Option Addr} {E:List (Sg × Value)} {B:Nat→Int} (h:Prv w (.slice q E.length c) E B) (h0:0<E.length) (h8:E.length≤8) (hc:E.length≤c∧c≤9223372036854775807) :
  Calls Tryz.prog 37 #[.slice q E.length c] w fun e w' => e = .returned (.int .u64 (64+56*E.length+szs (E.map (·.1)) E.length))∧Below w.heap.size w w' := by
 have hd : ∀ x ∈ E,∃ q n c,x.2 = .slice q n c := fun x hx => by
  obtain ⟨dq,dc,e,_⟩ := h.sv.ds x hx
  exact ⟨_,_,_,e⟩
 obtain ⟨x0,hx0⟩ : ∃ x,E[0]? = some x := ⟨E[0],List.getElem?_eq_getElem h0⟩
 obtain ⟨g,o,_,_,rfl,_⟩ := h.cells hx0
 have hg : Sgs w g o (srs E) E.length := by
  have key : ∀ i,i<E.length → ∃ x dq dc,E[i]? = some x∧x.2 = .slice dq x.1.sz dc∧srs E i=⟨x.1.va,x.1.fl,dq,x.1.sz,dc,x.1.mem⟩∧w.cell? ⟨g,o+i*4,.none⟩=some (.int .u64 x.1.va)∧w.cell? ⟨g,o+i*4+1,.none⟩=some (.int .u32 x.1.fl)∧w.cell? ⟨g,o+i*4+2,.none⟩=some (.slice dq x.1.sz dc)∧w.cell? ⟨g,o+i*4+3,.none⟩=some (.int .u64 x.1.mem) := by
   intro i hi
   obtain ⟨x,hx⟩ : ∃ x,E[i]? = some x := ⟨E[i],List.getElem?_eq_getElem hi⟩
   obtain ⟨g',o',dq,dc,eg,hd,hd1,hd2,a0,a1,a2,a3⟩ := h.cells hx
   injection eg with eg
   injection eg with eg eo
   subst eg eo
   exact ⟨x,dq,dc,hx,hd,by rw [srs_some hx,srOf,hd],a0,a1,a2,a3⟩
  refine ⟨fun i hi => ?_,fun i hi => ?_,fun i hi => ?_,fun i hi => ?_⟩ <;> obtain ⟨x,dq,dc,hx,hd,es,a0,a1,a2,a3⟩ := key i hi <;> rw [es] <;> assumption
 have hn : ∀ i,i<E.length→(srs E i).n≤1073741824∧(srs E i).n≤(srs E i).c∧(srs E i).c≤9223372036854775807 := by
  intro i hi
  obtain ⟨x,hx⟩ : ∃ x,E[i]? = some x := ⟨E[i],List.getElem?_eq_getElem hi⟩
  obtain ⟨g',o',dq,dc,eg,hd,hd1,hd2,_⟩ := h.cells hx
  rw [srs_some hx,srOf,hd]
  have := h.sz x (List.mem_of_getElem? hx)
  exact ⟨by show x.1.sz ≤ _; omega,hd1,hd2⟩
 have c11 := fileSize_any g o E.length c (srs E) w hg h8 hc hn
 rw [sum_szs hd E.length (Nat.le_refl _)] at c11
 exact c11
set_option maxHeartbeats 4000000 in
set_option maxRecDepth 100000 in
theorem writeV_any {w:World} {sv:Value} {E:List (Sg × Value)} {B:Nat→Int} (h:Prv w sv E B) (hl:E.length≤1000) (hP:Plc (E.map (·.1))) (hL:Laid w) (en:Int) (he:0≤en∧en<18446744073709551616) :
  Calls Tryz.prog 10 #[.agg #[.int .u64 en,sv]] w fun e w' => WrP w E B en e w' := by
 obtain ⟨q,c,rfl,hc1,hc2,hq⟩ := h.sv.fm
 have HB : Hid (Below w.heap.size w (w.alloc (.cells #[.int .u64 en,.slice q E.length c] 41))) := (Below.refl _ _).alloc (Nat.le_refl _) _
 have q0 : (w.alloc (.cells #[.int .u64 en,.slice q E.length c] 41)).cell? ⟨w.heap.size,0,.none⟩=some (.int .u64 en) := World.cell?_alloc_at _ _ _ _ rfl
 have q1 : (w.alloc (.cells #[.int .u64 en,.slice q E.length c] 41)).cell? ⟨w.heap.size,1,.none⟩=some (.slice q E.length c) := World.cell?_alloc_at _ _ _ _ rfl
 have HQ0 : Hid _ := q0
 have HQ1 : Hid _ := q1
 have c10 := checkV_any (h.below HB.out) hl en he
 have HPl : Hid (Plc (E.map (·.1))) := hP
 have HL : Hid (Laid w) := hL
 have HP : Hid (Prv w (.slice q E.length c) E B) := h
 clear h hP hL hq
 go_enter Tryz.func10,Tryz.ntmps10
 go_upto_region 1 with fail
 generalize (w.alloc (.cells #[.int .u64 en,.slice q E.length c] 41))=W1 at *
 go_upto_region 2 with (go_at_call 36; refine c10.mono ?_; rintro e1 W2 ⟨hb2,hc⟩; rcases hc with ⟨hg,rfl⟩ | ⟨hg,p,rfl⟩)
 ·have HB2 : Hid (Below W1.heap.size W1 W2) := hb2
  have HG : Hid (Good en (E.map (·.1))) := hg
  have hE : (E.map (·.1)).length=E.length := List.length_map ..
  have h0 : 0<E.length := by rw [← hE]; exact hg.1
  have h8 : E.length≤8 := by rw [← hE]; exact hg.2.1
  clear hb2 hg c10 q0 q1
  have HA2 : Hid (Below w.heap.size w W2) := HB.out.trans (HB2.out.mono HB.out.size)
  have HP2 : Hid (Prv W2 (.slice q E.length c) E B) := HP.out.below HA2.out
  have k0 : W2.cell? ⟨w.heap.size,0,.none⟩=some (.int .u64 en) := (HB2.out.cell (lt_of_cell HQ0.out)).trans HQ0.out
  have k1 : W2.cell? ⟨w.heap.size,1,.none⟩=some (.slice q E.length c) := (HB2.out.cell (lt_of_cell HQ1.out)).trans HQ1.out
  have c11 := sizeV_any HP2.out h0 h8 ⟨hc1,hc2⟩
  have hzb : szs (E.map (·.1)) E.length≤E.length*400000 := by
   refine szs_bd _ _ fun s hs => ?_
   obtain ⟨x,hx,rfl⟩ := List.mem_map.1 hs
   exact HP.out.sz x hx
  generalize hz : szs (E.map (·.1)) E.length=z at *
  have HZ : Hid (szs (E.map (·.1)) E.length=z) := hz
  clear hz
  go_upto_region 5 with (go_at_call 37; refine c11.mono ?_; rintro _ W3 ⟨rfl,hb3⟩)
  have HB3 : Hid (Below W2.heap.size W2 W3) := hb3
  have HA3 : Hid (Below w.heap.size w W3) := HA2.out.trans (HB3.out.mono HA2.out.size)
  have l0 : W3.cell? ⟨w.heap.size,0,.none⟩=some (.int .u64 en) := (hb3.cell (lt_of_cell k0)).trans k0
  have l1 : W3.cell? ⟨w.heap.size,1,.none⟩=some (.slice q E.length c) := (hb3.cell (lt_of_cell k1)).trans k1
  clear hb3 k0 k1 c11
  by_cases hbig : 64+56*E.length+z≤262144
  ·have hbi : ¬ (262144:Int)<64+56*E.length+z := by omega
   have c13 := layV_any (HP.out.below HA3.out) h0 h8 HPl.out (HL.out.below HA3.out) en he (by rw [HZ.out]; omega)
   rw [HZ.out,show ((64+56*E.length+z : Nat) : Int)=64+56*E.length+z by push_cast; rfl] at c13
   go_wp2_with (first | (go_at_call 39; refine c13.mono ?_; rintro _ W4 ⟨v,rfl,own4,hb4⟩) | fail)
   go_ret2
   refine ⟨HA3.out.trans (hb4.mono HA3.out.size),.inl ⟨HG.out,by rw [HZ.out]; exact hbig,v,rfl,?_⟩⟩
   rw [HZ.out]
   exact own_mono own4 HA3.out.size
  ·have hbi : (262144:Int)<64+56*E.length+z := by omega
   go_wp2_with (go_at_call 38; refine (refusal_any _ _ _).mono ?_; rintro _ _ ⟨rfl,rfl⟩)
   go_ret2
   exact ⟨HA3.out.alloc HA3.out.size _,.inr ⟨fun h => by rw [HZ.out] at h; exact hbig h.2,_,rfl⟩⟩
 ·have HB2 : Hid (Below W1.heap.size W1 W2) := hb2
  have HG : Hid (¬ Good en (E.map (·.1))) := hg
  clear hb2 hg c10
  go_wp2_with fail
  go_ret2
  exact ⟨HB.out.trans (HB2.out.mono HB.out.size),.inr ⟨fun h => HG.out h.1,_,rfl⟩⟩
end
section
open Go.RowKit
theorem C4.grown {w w':World} {x:Nat} {a b c d:Value} (h:C4 w x a b c d) {row:Option Nat} (g:w.grownBy w' row) (hr:some x≠row) : C4 w' x a b c d := by
 have hl : x<w.heap.size := lt_of_cell (x:=⟨x,0,.none⟩) h.a
 have e : w'.heap[x]? = w.heap[x]? := g.block x hl hr
 exact ⟨(World.cell?_of_block e).trans h.a,(World.cell?_of_block e).trans h.b,(World.cell?_of_block e).trans h.c,(World.cell?_of_block e).trans h.d,fun i => (World.frozen?_of_block e).trans (h.f i)⟩
theorem C4.setc {w:World} {x:Nat} {a b c d:Value} (h:C4 w x a b c d) (c':Value) : C4 (w.setCell ⟨x,2,.none⟩ c') x a b c' d :=
 ⟨(World.cell?_setCell_other _ _ _ _ (by simp)).trans h.a,(World.cell?_setCell_other _ _ _ _ (by simp)).trans h.b,World.cell?_setCell_same' _ _ _ (by rw [h.c]; rfl),(World.cell?_setCell_other _ _ _ _ (by simp)).trans h.d,fun i => (World.frozen?_setCell ..).trans (h.f i)⟩
def UpX (W0:World) (a r:Int) (e:Ending) (w':World) : Prop := ∃ v,e = .panicked [{ v := v,recovered := false }]∧FaultIn w' 0 v a r∧Below W0.heap.size W0 w'
theorem Up.x {W0 w w':World} {a r:Int} {e:Ending} (h:Up w a r e w') (b:Below W0.heap.size W0 w) : UpX W0 a r e w' := by
 obtain ⟨v,h1,⟨x,h2,h3⟩,h4⟩ := h
 exact ⟨v,h1,⟨x,Nat.zero_le _,h3⟩,b.trans (h4.mono b.size)⟩
def SegP (W0:World) (rb rs b o n c:Nat) (B:Nat→Int) (E:List (Sg × Value)) (a:Nat) (e:Ending) (w':World) : Prop :=
 ((stp n B (E.map (·.1)) a).1≠0∧UpX W0 a (stp n B (E.map (·.1)) a).1 e w')∨((stp n B (E.map (·.1)) a).1=0∧e = .returned (.tuple #[]) ∧ ∃ E' sv',E'.map (·.1)=(stp n B (E.map (·.1)) a).2∧Rdr W0 w' rb rs b o n c B E' sv')
set_option maxHeartbeats 4000000 in
set_option maxRecDepth 100000 in
theorem seg_any {W0 w:World} {rb rs b o n c:Nat} {B:Nat→Int} {E:List (Sg × Value)} {sv:Value} (hR:Rdr W0 w rb rs b o n c B E sv) (hL:Laid w) (hn:n≤262144) (a:Nat) (ha:a+56≤n) :
  Calls Tryz.prog 174 #[.pointer (some ⟨rb,0,.none⟩),.int .i64 a] w fun e w' => SegP W0 rb rs b o n c B E a e w' := by
 obtain ⟨q,cs,rfl,hcs1,hcs2,hq⟩ := own_form hR.sg.own
 have HRw : Hid (Rdr W0 w rb rs b o n c B E (.slice q E.length cs)) := hR
 have HLw : Hid (Laid w) := hL
 have r0 := hR.fil.f0
 have c35 : Calls Tryz.prog 170 #[.slice (some ⟨b,o,.none⟩) n c,.int .i64 a,.int .i64 56] w fun e w' => e = .returned (.slice (some ⟨b,o+a,.none⟩) 56 56)∧w=w' := (cut_any b o n c a 56 w (by omega) (by have := hR.fil.nc.1; omega) hR.fil.nc.2).mono fun e w' h => ⟨h.1,h.2.symm⟩
 have hln := hR.ln
 clear hR hL hq
 go_enter Tryz.func174,Tryz.ntmps174
 go_upto_region 1 with (first | (go_at_call 170; refine c35.mono ?_; rintro e w1 ⟨rfl,rfl⟩) | fail)
 clear c35
 have bw0 : Below w.heap.size w w.drew := (Below.refl _ _).drew
 have kS : (w.drew.cell? ⟨1,0,.none⟩=some (.int .i64 0)∧w.drew.cell? ⟨1,1,.none⟩=some (.int .i64 4)∧w.drew.cell? ⟨1,2,.none⟩=some (.int .u64 1)) := ⟨(HLw.out.below bw0).s0 0 (by omega),(HLw.out.below bw0).s1 0 (by omega),(HLw.out.below bw0).s2 0 (by omega)⟩
 go_upto_region 1 with fail
 refine wp_region_held_drew (S:=fun U2 => (U2.cell? ⟨1,0,.none⟩=some (.int .i64 0)∧U2.cell? ⟨1,1,.none⟩=some (.int .i64 4)∧U2.cell? ⟨1,2,.none⟩=some (.int .u64 1))) (by kernel_rfl) kS (fun hHeld => ?_)
 refine aT 0 (.pointer (some ⟨1,0,.none⟩)) rfl ?_
 simp only [X0,X1,X2,X3,X4,X5,X6]
 refine aT 1 (.agg #[.int .i64 0,.int .i64 4,.int .u64 1]) rfl ?_
 simp only [X0,X1,X2,X3,X4,X5,X6]
 refine aT 2 (.slice (some ⟨b,o+a,.none⟩) 56 56) rfl ?_
 simp only [X0,X1,X2,X3,X4,X5,X6]
 refine aT 4 (.pointer (some ⟨1,0,.none⟩)) rfl ?_
 simp only [X0,X1,X2,X3,X4,X5,X6]
 refine aT 5 (.pointer (some ⟨1,2,.none⟩)) rfl ?_
 simp only [X0,X1,X2,X3,X4,X5,X6]
 refine aT 6 (.int .u64 1) rfl ?_
 simp only [X0,X1,X2,X3,X4,X5,X6]
 refine wpAnyH_ready (rs:=[3]) (by kernel_rfl) (by simp) ?_
 refine AllReadyH.cons rfl (fun K hK => ?_) AllReadyH.nil
 go_simp
 go_at_call 176
 refine (inS_any (HRw.out.fil.row.keep bw0) HRw.out.fil.bd a ha 0 4 1 (by omega) (by omega) (by omega)).mono ?_
 rintro e V1 ⟨rfl,hb_V1⟩
 have b_V1 : Below w.heap.size w V1 := (bw0).trans (hb_V1.mono (bw0).size)
 have k1 : (V1.cell? ⟨1,0,.none⟩=some (.int .i64 0)∧V1.cell? ⟨1,1,.none⟩=some (.int .i64 4)∧V1.cell? ⟨1,2,.none⟩=some (.int .u64 1)) := ⟨(HLw.out.below b_V1).s0 0 (by omega),(HLw.out.below b_V1).s1 0 (by omega),(HLw.out.below b_V1).s2 0 (by omega)⟩
 refine hK.out _ _ k1 (fun hHeld => ?_)
 clear hK K
 try simp only [X0,X1,X2,X3,X4,X5,X6]
 rw [show a+0=a from rfl]
 by_cases ht : num B a 4=1
 ·have htb : (num B a 4 != 1)=false := by simpa using ht
  refine aT 7 (.bool false) rfl ?_
  simp only [X0,X1,X2,X3,X4,X5,X6]
  refine wpAnyH_done (by kernel_rfl) ?_ _
  have hst : stp n B (E.map (·.1)) a=if E.length=8 then (143,E.map (·.1)) else if ok1 (sgOf B a).va (sgOf B a).fl (sgOf B a).sz (sgOf B a).mem=false then (144,E.map (·.1)) else if 0<(sgOf B a).sz∧n<(sgOf B a).wh+(sgOf B a).sz then (140,E.map (·.1)) else if ris (E.map (·.1)) (sgOf B a).va=false then (145,E.map (·.1)) else (0,E.map (·.1) ++ [sgOf B a]) := by
   unfold stp
   rw [if_neg (by simpa using ht),List.length_map]
  have HST : Hid (stp n B (E.map (·.1)) a = _) := hst
  clear hst hHeld kS k1 r0
  have HR1 : Hid (Rdr W0 V1 rb rs b o n c B E (.slice q E.length cs)) := HRw.out.below b_V1
  have r1 := HR1.out.c1
  by_cases h8 : E.length=8
  ·have h8b : ((E.length:Int) == 8)=true := by simp; omega
   go_wp2_with (first | (go_at_call 175; refine (giveUp_any _ _ _).mono ?_; intro e w0 hu; obtain ⟨v,rfl,hu2⟩ := id hu) | fail)
   have e1 := HST.out
   rw [if_pos h8] at e1
   refine ⟨rfl,.inl ?_⟩
   rw [e1]
   exact ⟨by simp,hu.x HR1.out.be⟩
  ·have h8b : ((E.length:Int) == 8)=false := by simp; omega
   have hsb := sgOf_b B HRw.out.fil.bd a
   have hwr : IntKind.u32.wrap (num B (a+4) 4)=num B (a+4) 4 := by rw [IntKind.wrap_u32]; omega
   go_upto_region 4 with fail
   clear r1
   go_cut [5] (fun p wx => ∃ x,p = .pointer (some ⟨x,0,.none⟩)∧Hid (C4 wx x (.int .u64 (num B (a+16) 8)) (.int .u32 (num B (a+4) 4)) (.slice .none 0 0) (.int .u64 (num B (a+40) 8))∧Below w.heap.size w wx∧w.heap.size≤x))
   case first =>
    have bw1 : Below w.heap.size w V1.drew := (b_V1).drew
    have kS : (V1.drew.cell? ⟨1,9,.none⟩=some (.int .i64 16)∧V1.drew.cell? ⟨1,10,.none⟩=some (.int .i64 8)∧V1.drew.cell? ⟨1,11,.none⟩=some (.int .u64 0))∧(V1.drew.cell? ⟨1,3,.none⟩=some (.int .i64 4)∧V1.drew.cell? ⟨1,4,.none⟩=some (.int .i64 4)∧V1.drew.cell? ⟨1,5,.none⟩=some (.int .u64 0))∧(V1.drew.cell? ⟨1,18,.none⟩=some (.int .i64 40)∧V1.drew.cell? ⟨1,19,.none⟩=some (.int .i64 8)∧V1.drew.cell? ⟨1,20,.none⟩=some (.int .u64 0)) := ⟨⟨(HLw.out.below bw1).s0 3 (by omega),(HLw.out.below bw1).s1 3 (by omega),(HLw.out.below bw1).s2 3 (by omega)⟩,⟨(HLw.out.below bw1).s0 1 (by omega),(HLw.out.below bw1).s1 1 (by omega),(HLw.out.below bw1).s2 1 (by omega)⟩,⟨(HLw.out.below bw1).s0 6 (by omega),(HLw.out.below bw1).s1 6 (by omega),(HLw.out.below bw1).s2 6 (by omega)⟩⟩
    go_upto_region 4 with fail
    refine wp_region_held_drew (S:=fun U2 => (U2.cell? ⟨1,9,.none⟩=some (.int .i64 16)∧U2.cell? ⟨1,10,.none⟩=some (.int .i64 8)∧U2.cell? ⟨1,11,.none⟩=some (.int .u64 0))∧(U2.cell? ⟨1,3,.none⟩=some (.int .i64 4)∧U2.cell? ⟨1,4,.none⟩=some (.int .i64 4)∧U2.cell? ⟨1,5,.none⟩=some (.int .u64 0))∧(U2.cell? ⟨1,18,.none⟩=some (.int .i64 40)∧U2.cell? ⟨1,19,.none⟩=some (.int .i64 8)∧U2.cell? ⟨1,20,.none⟩=some (.int .u64 0))) (by kernel_rfl) kS (fun hHeld => ?_)
    refine aT 0 (.pointer (some ⟨1,9,.none⟩)) rfl ?_
    simp only [X0,X1,X2,X3,X4,X5,X6]
    refine aT 1 (.agg #[.int .i64 16,.int .i64 8,.int .u64 0]) rfl ?_
    simp only [X0,X1,X2,X3,X4,X5,X6]
    refine aT 2 (.slice (some ⟨b,o+a,.none⟩) 56 56) rfl ?_
    simp only [X0,X1,X2,X3,X4,X5,X6]
    refine aT 4 (.pointer (some ⟨1,3,.none⟩)) rfl ?_
    simp only [X0,X1,X2,X3,X4,X5,X6]
    refine aT 5 (.agg #[.int .i64 4,.int .i64 4,.int .u64 0]) rfl ?_
    simp only [X0,X1,X2,X3,X4,X5,X6]
    refine aT 6 (.slice (some ⟨b,o+a,.none⟩) 56 56) rfl ?_
    simp only [X0,X1,X2,X3,X4,X5,X6]
    refine aT 9 (.pointer (some ⟨1,18,.none⟩)) rfl ?_
    simp only [X0,X1,X2,X3,X4,X5,X6]
    refine aT 10 (.agg #[.int .i64 40,.int .i64 8,.int .u64 0]) rfl ?_
    simp only [X0,X1,X2,X3,X4,X5,X6]
    refine aT 11 (.slice (some ⟨b,o+a,.none⟩) 56 56) rfl ?_
    simp only [X0,X1,X2,X3,X4,X5,X6]
    refine wpAnyH_ready (rs:=[3,14]) (by kernel_rfl) (by simp) ?_
    refine AllReadyH.cons rfl (fun K hK => ?_) (AllReadyH.cons rfl (fun K hK => ?_) AllReadyH.nil)
    ·
     go_simp
     go_at_call 176
     refine (inS_any (HRw.out.fil.row.keep bw1) HRw.out.fil.bd a ha 16 8 0 (by omega) (by omega) (by omega)).mono ?_
     rintro e U0 ⟨rfl,hb_U0⟩
     have b_U0 : Below w.heap.size w U0 := (bw1).trans (hb_U0.mono (bw1).size)
     have kU0 : (U0.cell? ⟨1,9,.none⟩=some (.int .i64 16)∧U0.cell? ⟨1,10,.none⟩=some (.int .i64 8)∧U0.cell? ⟨1,11,.none⟩=some (.int .u64 0))∧(U0.cell? ⟨1,3,.none⟩=some (.int .i64 4)∧U0.cell? ⟨1,4,.none⟩=some (.int .i64 4)∧U0.cell? ⟨1,5,.none⟩=some (.int .u64 0))∧(U0.cell? ⟨1,18,.none⟩=some (.int .i64 40)∧U0.cell? ⟨1,19,.none⟩=some (.int .i64 8)∧U0.cell? ⟨1,20,.none⟩=some (.int .u64 0)) := ⟨⟨(HLw.out.below b_U0).s0 3 (by omega),(HLw.out.below b_U0).s1 3 (by omega),(HLw.out.below b_U0).s2 3 (by omega)⟩,⟨(HLw.out.below b_U0).s0 1 (by omega),(HLw.out.below b_U0).s1 1 (by omega),(HLw.out.below b_U0).s2 1 (by omega)⟩,⟨(HLw.out.below b_U0).s0 6 (by omega),(HLw.out.below b_U0).s1 6 (by omega),(HLw.out.below b_U0).s2 6 (by omega)⟩⟩
     refine hK.out _ _ kU0 (fun hHeld => ?_)
     clear hK K
     try simp only [X0,X1,X2,X3,X4,X5,X6]
     refine wpAnyH_ready (rs:=[7,14]) (by kernel_rfl) (by simp) ?_
     refine AllReadyH.cons rfl (fun K hK => ?_) (AllReadyH.cons rfl (fun K hK => ?_) AllReadyH.nil)
     ·
      go_simp
      go_at_call 176
      refine (inS_any (HRw.out.fil.row.keep b_U0) HRw.out.fil.bd a ha 4 4 0 (by omega) (by omega) (by omega)).mono ?_
      rintro e U1 ⟨rfl,hb_U1⟩
      have b_U1 : Below w.heap.size w U1 := (b_U0).trans (hb_U1.mono (b_U0).size)
      have kU1 : (U1.cell? ⟨1,9,.none⟩=some (.int .i64 16)∧U1.cell? ⟨1,10,.none⟩=some (.int .i64 8)∧U1.cell? ⟨1,11,.none⟩=some (.int .u64 0))∧(U1.cell? ⟨1,3,.none⟩=some (.int .i64 4)∧U1.cell? ⟨1,4,.none⟩=some (.int .i64 4)∧U1.cell? ⟨1,5,.none⟩=some (.int .u64 0))∧(U1.cell? ⟨1,18,.none⟩=some (.int .i64 40)∧U1.cell? ⟨1,19,.none⟩=some (.int .i64 8)∧U1.cell? ⟨1,20,.none⟩=some (.int .u64 0)) := ⟨⟨(HLw.out.below b_U1).s0 3 (by omega),(HLw.out.below b_U1).s1 3 (by omega),(HLw.out.below b_U1).s2 3 (by omega)⟩,⟨(HLw.out.below b_U1).s0 1 (by omega),(HLw.out.below b_U1).s1 1 (by omega),(HLw.out.below b_U1).s2 1 (by omega)⟩,⟨(HLw.out.below b_U1).s0 6 (by omega),(HLw.out.below b_U1).s1 6 (by omega),(HLw.out.below b_U1).s2 6 (by omega)⟩⟩
      refine hK.out _ _ kU1 (fun hHeld => ?_)
      clear hK K
      try simp only [X0,X1,X2,X3,X4,X5,X6]
      refine aT 8 (.int .u32 (num B (a+4) 4)) rfl ?_
      simp only [X0,X1,X2,X3,X4,X5,X6]
      refine wpAnyH_ready (rs:=[12,14]) (by kernel_rfl) (by simp) ?_
      refine AllReadyH.cons rfl (fun K hK => ?_) (AllReadyH.cons rfl (fun K hK => ?_) AllReadyH.nil)
      ·
       go_simp
       go_at_call 176
       refine (inS_any (HRw.out.fil.row.keep b_U1) HRw.out.fil.bd a ha 40 8 0 (by omega) (by omega) (by omega)).mono ?_
       rintro e U2 ⟨rfl,hb_U2⟩
       have b_U2 : Below w.heap.size w U2 := (b_U1).trans (hb_U2.mono (b_U1).size)
       have kU2 : (U2.cell? ⟨1,9,.none⟩=some (.int .i64 16)∧U2.cell? ⟨1,10,.none⟩=some (.int .i64 8)∧U2.cell? ⟨1,11,.none⟩=some (.int .u64 0))∧(U2.cell? ⟨1,3,.none⟩=some (.int .i64 4)∧U2.cell? ⟨1,4,.none⟩=some (.int .i64 4)∧U2.cell? ⟨1,5,.none⟩=some (.int .u64 0))∧(U2.cell? ⟨1,18,.none⟩=some (.int .i64 40)∧U2.cell? ⟨1,19,.none⟩=some (.int .i64 8)∧U2.cell? ⟨1,20,.none⟩=some (.int .u64 0)) := ⟨⟨(HLw.out.below b_U2).s0 3 (by omega),(HLw.out.below b_U2).s1 3 (by omega),(HLw.out.below b_U2).s2 3 (by omega)⟩,⟨(HLw.out.below b_U2).s0 1 (by omega),(HLw.out.below b_U2).s1 1 (by omega),(HLw.out.below b_U2).s2 1 (by omega)⟩,⟨(HLw.out.below b_U2).s0 6 (by omega),(HLw.out.below b_U2).s1 6 (by omega),(HLw.out.below b_U2).s2 6 (by omega)⟩⟩
       refine hK.out _ _ kU2 (fun hHeld => ?_)
       clear hK K
       try simp only [X0,X1,X2,X3,X4,X5,X6]
       refine aT 13 (.agg #[.int .u64 (num B (a+16) 8),.int .u32 (num B (a+4) 4),.slice .none 0 0,.int .u64 (num B (a+40) 8)]) rfl ?_
       simp only [X0,X1,X2,X3,X4,X5,X6]
       refine wpAnyH_ready (rs:=[14]) (by kernel_rfl) (by simp) ?_
       refine AllReadyH.cons rfl (fun K hK => ?_) AllReadyH.nil
       go_simp
       have bA : Below w.heap.size w (U2.alloc (.cells #[.int .u64 0,.int .u32 0,.slice .none 0 0,.int .u64 0] 38)) := (b_U2).alloc (b_U2).size _
       have cA : C4 (U2.alloc (.cells #[.int .u64 0,.int .u32 0,.slice .none 0 0,.int .u64 0] 38)) U2.heap.size _ _ _ _ := C4.new U2 (.int .u64 0) (.int .u32 0) (.slice .none 0 0) (.int .u64 0) 38
       have kA : ((U2.alloc (.cells #[.int .u64 0,.int .u32 0,.slice .none 0 0,.int .u64 0] 38)).cell? ⟨1,9,.none⟩=some (.int .i64 16)∧(U2.alloc (.cells #[.int .u64 0,.int .u32 0,.slice .none 0 0,.int .u64 0] 38)).cell? ⟨1,10,.none⟩=some (.int .i64 8)∧(U2.alloc (.cells #[.int .u64 0,.int .u32 0,.slice .none 0 0,.int .u64 0] 38)).cell? ⟨1,11,.none⟩=some (.int .u64 0))∧((U2.alloc (.cells #[.int .u64 0,.int .u32 0,.slice .none 0 0,.int .u64 0] 38)).cell? ⟨1,3,.none⟩=some (.int .i64 4)∧(U2.alloc (.cells #[.int .u64 0,.int .u32 0,.slice .none 0 0,.int .u64 0] 38)).cell? ⟨1,4,.none⟩=some (.int .i64 4)∧(U2.alloc (.cells #[.int .u64 0,.int .u32 0,.slice .none 0 0,.int .u64 0] 38)).cell? ⟨1,5,.none⟩=some (.int .u64 0))∧((U2.alloc (.cells #[.int .u64 0,.int .u32 0,.slice .none 0 0,.int .u64 0] 38)).cell? ⟨1,18,.none⟩=some (.int .i64 40)∧(U2.alloc (.cells #[.int .u64 0,.int .u32 0,.slice .none 0 0,.int .u64 0] 38)).cell? ⟨1,19,.none⟩=some (.int .i64 8)∧(U2.alloc (.cells #[.int .u64 0,.int .u32 0,.slice .none 0 0,.int .u64 0] 38)).cell? ⟨1,20,.none⟩=some (.int .u64 0)) := ⟨⟨(HLw.out.below bA).s0 3 (by omega),(HLw.out.below bA).s1 3 (by omega),(HLw.out.below bA).s2 3 (by omega)⟩,⟨(HLw.out.below bA).s0 1 (by omega),(HLw.out.below bA).s1 1 (by omega),(HLw.out.below bA).s2 1 (by omega)⟩,⟨(HLw.out.below bA).s0 6 (by omega),(HLw.out.below bA).s1 6 (by omega),(HLw.out.below bA).s2 6 (by omega)⟩⟩
       have hxA : w.heap.size≤U2.heap.size := (b_U2).size
       refine hK.out _ _ kA (fun hHeld => ?_)
       clear hK K
       try simp only [X0,X1,X2,X3,X4,X5,X6]
       refine wpAnyH_ready (rs:=[15]) (by kernel_rfl) (by simp) ?_
       refine AllReadyH.cons rfl (fun K hK => ?_) AllReadyH.nil
       have bF : Below w.heap.size w (U2.alloc (.cells #[.int .u64 (num B (a+16) 8),.int .u32 (num B (a+4) 4),.slice .none 0 0,.int .u64 (num B (a+40) 8)] 38)) := (b_U2).alloc (b_U2).size _
       have kF : ((U2.alloc (.cells #[.int .u64 (num B (a+16) 8),.int .u32 (num B (a+4) 4),.slice .none 0 0,.int .u64 (num B (a+40) 8)] 38)).cell? ⟨1,9,.none⟩=some (.int .i64 16)∧(U2.alloc (.cells #[.int .u64 (num B (a+16) 8),.int .u32 (num B (a+4) 4),.slice .none 0 0,.int .u64 (num B (a+40) 8)] 38)).cell? ⟨1,10,.none⟩=some (.int .i64 8)∧(U2.alloc (.cells #[.int .u64 (num B (a+16) 8),.int .u32 (num B (a+4) 4),.slice .none 0 0,.int .u64 (num B (a+40) 8)] 38)).cell? ⟨1,11,.none⟩=some (.int .u64 0))∧((U2.alloc (.cells #[.int .u64 (num B (a+16) 8),.int .u32 (num B (a+4) 4),.slice .none 0 0,.int .u64 (num B (a+40) 8)] 38)).cell? ⟨1,3,.none⟩=some (.int .i64 4)∧(U2.alloc (.cells #[.int .u64 (num B (a+16) 8),.int .u32 (num B (a+4) 4),.slice .none 0 0,.int .u64 (num B (a+40) 8)] 38)).cell? ⟨1,4,.none⟩=some (.int .i64 4)∧(U2.alloc (.cells #[.int .u64 (num B (a+16) 8),.int .u32 (num B (a+4) 4),.slice .none 0 0,.int .u64 (num B (a+40) 8)] 38)).cell? ⟨1,5,.none⟩=some (.int .u64 0))∧((U2.alloc (.cells #[.int .u64 (num B (a+16) 8),.int .u32 (num B (a+4) 4),.slice .none 0 0,.int .u64 (num B (a+40) 8)] 38)).cell? ⟨1,18,.none⟩=some (.int .i64 40)∧(U2.alloc (.cells #[.int .u64 (num B (a+16) 8),.int .u32 (num B (a+4) 4),.slice .none 0 0,.int .u64 (num B (a+40) 8)] 38)).cell? ⟨1,19,.none⟩=some (.int .i64 8)∧(U2.alloc (.cells #[.int .u64 (num B (a+16) 8),.int .u32 (num B (a+4) 4),.slice .none 0 0,.int .u64 (num B (a+40) 8)] 38)).cell? ⟨1,20,.none⟩=some (.int .u64 0)) := ⟨⟨(HLw.out.below bF).s0 3 (by omega),(HLw.out.below bF).s1 3 (by omega),(HLw.out.below bF).s2 3 (by omega)⟩,⟨(HLw.out.below bF).s0 1 (by omega),(HLw.out.below bF).s1 1 (by omega),(HLw.out.below bF).s2 1 (by omega)⟩,⟨(HLw.out.below bF).s0 6 (by omega),(HLw.out.below bF).s1 6 (by omega),(HLw.out.below bF).s2 6 (by omega)⟩⟩
       go_simp
       refine hK.out _ _ kF (fun hHeld => ?_)
       clear hK K
       try simp only [X0,X1,X2,X3,X4,X5,X6]
       refine wpAnyH_done (by kernel_rfl) ?_ _
       clear hHeld
       go_wp2_with fail
       go_meet
       case rel => exact ⟨_,rfl,C4.new _ _ _ _ _ _,bF,hxA⟩
      ·
       go_simp
       have bA : Below w.heap.size w (U1.alloc (.cells #[.int .u64 0,.int .u32 0,.slice .none 0 0,.int .u64 0] 38)) := (b_U1).alloc (b_U1).size _
       have cA : C4 (U1.alloc (.cells #[.int .u64 0,.int .u32 0,.slice .none 0 0,.int .u64 0] 38)) U1.heap.size _ _ _ _ := C4.new U1 (.int .u64 0) (.int .u32 0) (.slice .none 0 0) (.int .u64 0) 38
       have kA : ((U1.alloc (.cells #[.int .u64 0,.int .u32 0,.slice .none 0 0,.int .u64 0] 38)).cell? ⟨1,9,.none⟩=some (.int .i64 16)∧(U1.alloc (.cells #[.int .u64 0,.int .u32 0,.slice .none 0 0,.int .u64 0] 38)).cell? ⟨1,10,.none⟩=some (.int .i64 8)∧(U1.alloc (.cells #[.int .u64 0,.int .u32 0,.slice .none 0 0,.int .u64 0] 38)).cell? ⟨1,11,.none⟩=some (.int .u64 0))∧((U1.alloc (.cells #[.int .u64 0,.int .u32 0,.slice .none 0 0,.int .u64 0] 38)).cell? ⟨1,3,.none⟩=some (.int .i64 4)∧(U1.alloc (.cells #[.int .u64 0,.int .u32 0,.slice .none 0 0,.int .u64 0] 38)).cell? ⟨1,4,.none⟩=some (.int .i64 4)∧(U1.alloc (.cells #[.int .u64 0,.int .u32 0,.slice .none 0 0,.int .u64 0] 38)).cell? ⟨1,5,.none⟩=some (.int .u64 0))∧((U1.alloc (.cells #[.int .u64 0,.int .u32 0,.slice .none 0 0,.int .u64 0] 38)).cell? ⟨1,18,.none⟩=some (.int .i64 40)∧(U1.alloc (.cells #[.int .u64 0,.int .u32 0,.slice .none 0 0,.int .u64 0] 38)).cell? ⟨1,19,.none⟩=some (.int .i64 8)∧(U1.alloc (.cells #[.int .u64 0,.int .u32 0,.slice .none 0 0,.int .u64 0] 38)).cell? ⟨1,20,.none⟩=some (.int .u64 0)) := ⟨⟨(HLw.out.below bA).s0 3 (by omega),(HLw.out.below bA).s1 3 (by omega),(HLw.out.below bA).s2 3 (by omega)⟩,⟨(HLw.out.below bA).s0 1 (by omega),(HLw.out.below bA).s1 1 (by omega),(HLw.out.below bA).s2 1 (by omega)⟩,⟨(HLw.out.below bA).s0 6 (by omega),(HLw.out.below bA).s1 6 (by omega),(HLw.out.below bA).s2 6 (by omega)⟩⟩
       have hxA : w.heap.size≤U1.heap.size := (b_U1).size
       refine hK.out _ _ kA (fun hHeld => ?_)
       clear hK K
       try simp only [X0,X1,X2,X3,X4,X5,X6]
       refine wpAnyH_ready (rs:=[12]) (by kernel_rfl) (by simp) ?_
       refine AllReadyH.cons rfl (fun K hK => ?_) AllReadyH.nil
       go_simp
       go_at_call 176
       refine (inS_any (HRw.out.fil.row.keep bA) HRw.out.fil.bd a ha 40 8 0 (by omega) (by omega) (by omega)).mono ?_
       rintro e U2 ⟨rfl,hb_U2⟩
       have b_U2 : Below w.heap.size w U2 := (bA).trans (hb_U2.mono (bA).size)
       have kU2 : (U2.cell? ⟨1,9,.none⟩=some (.int .i64 16)∧U2.cell? ⟨1,10,.none⟩=some (.int .i64 8)∧U2.cell? ⟨1,11,.none⟩=some (.int .u64 0))∧(U2.cell? ⟨1,3,.none⟩=some (.int .i64 4)∧U2.cell? ⟨1,4,.none⟩=some (.int .i64 4)∧U2.cell? ⟨1,5,.none⟩=some (.int .u64 0))∧(U2.cell? ⟨1,18,.none⟩=some (.int .i64 40)∧U2.cell? ⟨1,19,.none⟩=some (.int .i64 8)∧U2.cell? ⟨1,20,.none⟩=some (.int .u64 0)) := ⟨⟨(HLw.out.below b_U2).s0 3 (by omega),(HLw.out.below b_U2).s1 3 (by omega),(HLw.out.below b_U2).s2 3 (by omega)⟩,⟨(HLw.out.below b_U2).s0 1 (by omega),(HLw.out.below b_U2).s1 1 (by omega),(HLw.out.below b_U2).s2 1 (by omega)⟩,⟨(HLw.out.below b_U2).s0 6 (by omega),(HLw.out.below b_U2).s1 6 (by omega),(HLw.out.below b_U2).s2 6 (by omega)⟩⟩
       have cU2 := cA.below hb_U2
       refine hK.out _ _ kU2 (fun hHeld => ?_)
       clear hK K
       try simp only [X0,X1,X2,X3,X4,X5,X6]
       refine aT 13 (.agg #[.int .u64 (num B (a+16) 8),.int .u32 (num B (a+4) 4),.slice .none 0 0,.int .u64 (num B (a+40) 8)]) rfl ?_
       simp only [X0,X1,X2,X3,X4,X5,X6]
       refine wpAnyH_ready (rs:=[15]) (by kernel_rfl) (by simp) ?_
       refine AllReadyH.cons rfl (fun K hK => ?_) AllReadyH.nil
       obtain ⟨y0,y1,y2,y3,y4⟩ := cU2
       have z0 := y4 0
       have z1 := y4 1
       have z2 := y4 2
       have z3 := y4 3
       have bF : Below w.heap.size w ((((U2.setCell ⟨U1.heap.size,0,.none⟩ (.int .u64 (num B (a+16) 8))).setCell ⟨U1.heap.size,1,.none⟩ (.int .u32 (num B (a+4) 4))).setCell ⟨U1.heap.size,2,.none⟩ (.slice .none 0 0)).setCell ⟨U1.heap.size,3,.none⟩ (.int .u64 (num B (a+40) 8))) := ((((b_U2).setCell (p:=⟨U1.heap.size,0,.none⟩) hxA _).setCell (p:=⟨U1.heap.size,1,.none⟩) hxA _).setCell (p:=⟨U1.heap.size,2,.none⟩) hxA _).setCell (p:=⟨U1.heap.size,3,.none⟩) hxA _
       have cF := C4.set (⟨y0,y1,y2,y3,y4⟩ : C4 U2 U1.heap.size _ _ _ _) (.int .u64 (num B (a+16) 8)) (.int .u32 (num B (a+4) 4)) (.slice .none 0 0) (.int .u64 (num B (a+40) 8))
       have kF : (((((U2.setCell ⟨U1.heap.size,0,.none⟩ (.int .u64 (num B (a+16) 8))).setCell ⟨U1.heap.size,1,.none⟩ (.int .u32 (num B (a+4) 4))).setCell ⟨U1.heap.size,2,.none⟩ (.slice .none 0 0)).setCell ⟨U1.heap.size,3,.none⟩ (.int .u64 (num B (a+40) 8))).cell? ⟨1,9,.none⟩=some (.int .i64 16)∧((((U2.setCell ⟨U1.heap.size,0,.none⟩ (.int .u64 (num B (a+16) 8))).setCell ⟨U1.heap.size,1,.none⟩ (.int .u32 (num B (a+4) 4))).setCell ⟨U1.heap.size,2,.none⟩ (.slice .none 0 0)).setCell ⟨U1.heap.size,3,.none⟩ (.int .u64 (num B (a+40) 8))).cell? ⟨1,10,.none⟩=some (.int .i64 8)∧((((U2.setCell ⟨U1.heap.size,0,.none⟩ (.int .u64 (num B (a+16) 8))).setCell ⟨U1.heap.size,1,.none⟩ (.int .u32 (num B (a+4) 4))).setCell ⟨U1.heap.size,2,.none⟩ (.slice .none 0 0)).setCell ⟨U1.heap.size,3,.none⟩ (.int .u64 (num B (a+40) 8))).cell? ⟨1,11,.none⟩=some (.int .u64 0))∧(((((U2.setCell ⟨U1.heap.size,0,.none⟩ (.int .u64 (num B (a+16) 8))).setCell ⟨U1.heap.size,1,.none⟩ (.int .u32 (num B (a+4) 4))).setCell ⟨U1.heap.size,2,.none⟩ (.slice .none 0 0)).setCell ⟨U1.heap.size,3,.none⟩ (.int .u64 (num B (a+40) 8))).cell? ⟨1,3,.none⟩=some (.int .i64 4)∧((((U2.setCell ⟨U1.heap.size,0,.none⟩ (.int .u64 (num B (a+16) 8))).setCell ⟨U1.heap.size,1,.none⟩ (.int .u32 (num B (a+4) 4))).setCell ⟨U1.heap.size,2,.none⟩ (.slice .none 0 0)).setCell ⟨U1.heap.size,3,.none⟩ (.int .u64 (num B (a+40) 8))).cell? ⟨1,4,.none⟩=some (.int .i64 4)∧((((U2.setCell ⟨U1.heap.size,0,.none⟩ (.int .u64 (num B (a+16) 8))).setCell ⟨U1.heap.size,1,.none⟩ (.int .u32 (num B (a+4) 4))).setCell ⟨U1.heap.size,2,.none⟩ (.slice .none 0 0)).setCell ⟨U1.heap.size,3,.none⟩ (.int .u64 (num B (a+40) 8))).cell? ⟨1,5,.none⟩=some (.int .u64 0))∧(((((U2.setCell ⟨U1.heap.size,0,.none⟩ (.int .u64 (num B (a+16) 8))).setCell ⟨U1.heap.size,1,.none⟩ (.int .u32 (num B (a+4) 4))).setCell ⟨U1.heap.size,2,.none⟩ (.slice .none 0 0)).setCell ⟨U1.heap.size,3,.none⟩ (.int .u64 (num B (a+40) 8))).cell? ⟨1,18,.none⟩=some (.int .i64 40)∧((((U2.setCell ⟨U1.heap.size,0,.none⟩ (.int .u64 (num B (a+16) 8))).setCell ⟨U1.heap.size,1,.none⟩ (.int .u32 (num B (a+4) 4))).setCell ⟨U1.heap.size,2,.none⟩ (.slice .none 0 0)).setCell ⟨U1.heap.size,3,.none⟩ (.int .u64 (num B (a+40) 8))).cell? ⟨1,19,.none⟩=some (.int .i64 8)∧((((U2.setCell ⟨U1.heap.size,0,.none⟩ (.int .u64 (num B (a+16) 8))).setCell ⟨U1.heap.size,1,.none⟩ (.int .u32 (num B (a+4) 4))).setCell ⟨U1.heap.size,2,.none⟩ (.slice .none 0 0)).setCell ⟨U1.heap.size,3,.none⟩ (.int .u64 (num B (a+40) 8))).cell? ⟨1,20,.none⟩=some (.int .u64 0)) := ⟨⟨(HLw.out.below bF).s0 3 (by omega),(HLw.out.below bF).s1 3 (by omega),(HLw.out.below bF).s2 3 (by omega)⟩,⟨(HLw.out.below bF).s0 1 (by omega),(HLw.out.below bF).s1 1 (by omega),(HLw.out.below bF).s2 1 (by omega)⟩,⟨(HLw.out.below bF).s0 6 (by omega),(HLw.out.below bF).s1 6 (by omega),(HLw.out.below bF).s2 6 (by omega)⟩⟩
       go_simp
       refine hK.out _ _ kF (fun hHeld => ?_)
       clear hK K
       try simp only [X0,X1,X2,X3,X4,X5,X6]
       refine wpAnyH_done (by kernel_rfl) ?_ _
       clear hHeld
       go_wp2_with fail
       go_meet
       case rel => exact ⟨_,rfl,cF,bF,hxA⟩
     ·
      go_simp
      have bA : Below w.heap.size w (U0.alloc (.cells #[.int .u64 0,.int .u32 0,.slice .none 0 0,.int .u64 0] 38)) := (b_U0).alloc (b_U0).size _
      have cA : C4 (U0.alloc (.cells #[.int .u64 0,.int .u32 0,.slice .none 0 0,.int .u64 0] 38)) U0.heap.size _ _ _ _ := C4.new U0 (.int .u64 0) (.int .u32 0) (.slice .none 0 0) (.int .u64 0) 38
      have kA : ((U0.alloc (.cells #[.int .u64 0,.int .u32 0,.slice .none 0 0,.int .u64 0] 38)).cell? ⟨1,9,.none⟩=some (.int .i64 16)∧(U0.alloc (.cells #[.int .u64 0,.int .u32 0,.slice .none 0 0,.int .u64 0] 38)).cell? ⟨1,10,.none⟩=some (.int .i64 8)∧(U0.alloc (.cells #[.int .u64 0,.int .u32 0,.slice .none 0 0,.int .u64 0] 38)).cell? ⟨1,11,.none⟩=some (.int .u64 0))∧((U0.alloc (.cells #[.int .u64 0,.int .u32 0,.slice .none 0 0,.int .u64 0] 38)).cell? ⟨1,3,.none⟩=some (.int .i64 4)∧(U0.alloc (.cells #[.int .u64 0,.int .u32 0,.slice .none 0 0,.int .u64 0] 38)).cell? ⟨1,4,.none⟩=some (.int .i64 4)∧(U0.alloc (.cells #[.int .u64 0,.int .u32 0,.slice .none 0 0,.int .u64 0] 38)).cell? ⟨1,5,.none⟩=some (.int .u64 0))∧((U0.alloc (.cells #[.int .u64 0,.int .u32 0,.slice .none 0 0,.int .u64 0] 38)).cell? ⟨1,18,.none⟩=some (.int .i64 40)∧(U0.alloc (.cells #[.int .u64 0,.int .u32 0,.slice .none 0 0,.int .u64 0] 38)).cell? ⟨1,19,.none⟩=some (.int .i64 8)∧(U0.alloc (.cells #[.int .u64 0,.int .u32 0,.slice .none 0 0,.int .u64 0] 38)).cell? ⟨1,20,.none⟩=some (.int .u64 0)) := ⟨⟨(HLw.out.below bA).s0 3 (by omega),(HLw.out.below bA).s1 3 (by omega),(HLw.out.below bA).s2 3 (by omega)⟩,⟨(HLw.out.below bA).s0 1 (by omega),(HLw.out.below bA).s1 1 (by omega),(HLw.out.below bA).s2 1 (by omega)⟩,⟨(HLw.out.below bA).s0 6 (by omega),(HLw.out.below bA).s1 6 (by omega),(HLw.out.below bA).s2 6 (by omega)⟩⟩
      have hxA : w.heap.size≤U0.heap.size := (b_U0).size
      refine hK.out _ _ kA (fun hHeld => ?_)
      clear hK K
      try simp only [X0,X1,X2,X3,X4,X5,X6]
      refine wpAnyH_ready (rs:=[7]) (by kernel_rfl) (by simp) ?_
      refine AllReadyH.cons rfl (fun K hK => ?_) AllReadyH.nil
      go_simp
      go_at_call 176
      refine (inS_any (HRw.out.fil.row.keep bA) HRw.out.fil.bd a ha 4 4 0 (by omega) (by omega) (by omega)).mono ?_
      rintro e U1 ⟨rfl,hb_U1⟩
      have b_U1 : Below w.heap.size w U1 := (bA).trans (hb_U1.mono (bA).size)
      have kU1 : (U1.cell? ⟨1,9,.none⟩=some (.int .i64 16)∧U1.cell? ⟨1,10,.none⟩=some (.int .i64 8)∧U1.cell? ⟨1,11,.none⟩=some (.int .u64 0))∧(U1.cell? ⟨1,3,.none⟩=some (.int .i64 4)∧U1.cell? ⟨1,4,.none⟩=some (.int .i64 4)∧U1.cell? ⟨1,5,.none⟩=some (.int .u64 0))∧(U1.cell? ⟨1,18,.none⟩=some (.int .i64 40)∧U1.cell? ⟨1,19,.none⟩=some (.int .i64 8)∧U1.cell? ⟨1,20,.none⟩=some (.int .u64 0)) := ⟨⟨(HLw.out.below b_U1).s0 3 (by omega),(HLw.out.below b_U1).s1 3 (by omega),(HLw.out.below b_U1).s2 3 (by omega)⟩,⟨(HLw.out.below b_U1).s0 1 (by omega),(HLw.out.below b_U1).s1 1 (by omega),(HLw.out.below b_U1).s2 1 (by omega)⟩,⟨(HLw.out.below b_U1).s0 6 (by omega),(HLw.out.below b_U1).s1 6 (by omega),(HLw.out.below b_U1).s2 6 (by omega)⟩⟩
      have cU1 := cA.below hb_U1
      refine hK.out _ _ kU1 (fun hHeld => ?_)
      clear hK K
      try simp only [X0,X1,X2,X3,X4,X5,X6]
      refine aT 8 (.int .u32 (num B (a+4) 4)) rfl ?_
      simp only [X0,X1,X2,X3,X4,X5,X6]
      refine wpAnyH_ready (rs:=[12]) (by kernel_rfl) (by simp) ?_
      refine AllReadyH.cons rfl (fun K hK => ?_) AllReadyH.nil
      go_simp
      go_at_call 176
      refine (inS_any (HRw.out.fil.row.keep b_U1) HRw.out.fil.bd a ha 40 8 0 (by omega) (by omega) (by omega)).mono ?_
      rintro e U2 ⟨rfl,hb_U2⟩
      have b_U2 : Below w.heap.size w U2 := (b_U1).trans (hb_U2.mono (b_U1).size)
      have kU2 : (U2.cell? ⟨1,9,.none⟩=some (.int .i64 16)∧U2.cell? ⟨1,10,.none⟩=some (.int .i64 8)∧U2.cell? ⟨1,11,.none⟩=some (.int .u64 0))∧(U2.cell? ⟨1,3,.none⟩=some (.int .i64 4)∧U2.cell? ⟨1,4,.none⟩=some (.int .i64 4)∧U2.cell? ⟨1,5,.none⟩=some (.int .u64 0))∧(U2.cell? ⟨1,18,.none⟩=some (.int .i64 40)∧U2.cell? ⟨1,19,.none⟩=some (.int .i64 8)∧U2.cell? ⟨1,20,.none⟩=some (.int .u64 0)) := ⟨⟨(HLw.out.below b_U2).s0 3 (by omega),(HLw.out.below b_U2).s1 3 (by omega),(HLw.out.below b_U2).s2 3 (by omega)⟩,⟨(HLw.out.below b_U2).s0 1 (by omega),(HLw.out.below b_U2).s1 1 (by omega),(HLw.out.below b_U2).s2 1 (by omega)⟩,⟨(HLw.out.below b_U2).s0 6 (by omega),(HLw.out.below b_U2).s1 6 (by omega),(HLw.out.below b_U2).s2 6 (by omega)⟩⟩
      have cU2 := cU1.below hb_U2
      refine hK.out _ _ kU2 (fun hHeld => ?_)
      clear hK K
      try simp only [X0,X1,X2,X3,X4,X5,X6]
      refine aT 13 (.agg #[.int .u64 (num B (a+16) 8),.int .u32 (num B (a+4) 4),.slice .none 0 0,.int .u64 (num B (a+40) 8)]) rfl ?_
      simp only [X0,X1,X2,X3,X4,X5,X6]
      refine wpAnyH_ready (rs:=[15]) (by kernel_rfl) (by simp) ?_
      refine AllReadyH.cons rfl (fun K hK => ?_) AllReadyH.nil
      obtain ⟨y0,y1,y2,y3,y4⟩ := cU2
      have z0 := y4 0
      have z1 := y4 1
      have z2 := y4 2
      have z3 := y4 3
      have bF : Below w.heap.size w ((((U2.setCell ⟨U0.heap.size,0,.none⟩ (.int .u64 (num B (a+16) 8))).setCell ⟨U0.heap.size,1,.none⟩ (.int .u32 (num B (a+4) 4))).setCell ⟨U0.heap.size,2,.none⟩ (.slice .none 0 0)).setCell ⟨U0.heap.size,3,.none⟩ (.int .u64 (num B (a+40) 8))) := ((((b_U2).setCell (p:=⟨U0.heap.size,0,.none⟩) hxA _).setCell (p:=⟨U0.heap.size,1,.none⟩) hxA _).setCell (p:=⟨U0.heap.size,2,.none⟩) hxA _).setCell (p:=⟨U0.heap.size,3,.none⟩) hxA _
      have cF := C4.set (⟨y0,y1,y2,y3,y4⟩ : C4 U2 U0.heap.size _ _ _ _) (.int .u64 (num B (a+16) 8)) (.int .u32 (num B (a+4) 4)) (.slice .none 0 0) (.int .u64 (num B (a+40) 8))
      have kF : (((((U2.setCell ⟨U0.heap.size,0,.none⟩ (.int .u64 (num B (a+16) 8))).setCell ⟨U0.heap.size,1,.none⟩ (.int .u32 (num B (a+4) 4))).setCell ⟨U0.heap.size,2,.none⟩ (.slice .none 0 0)).setCell ⟨U0.heap.size,3,.none⟩ (.int .u64 (num B (a+40) 8))).cell? ⟨1,9,.none⟩=some (.int .i64 16)∧((((U2.setCell ⟨U0.heap.size,0,.none⟩ (.int .u64 (num B (a+16) 8))).setCell ⟨U0.heap.size,1,.none⟩ (.int .u32 (num B (a+4) 4))).setCell ⟨U0.heap.size,2,.none⟩ (.slice .none 0 0)).setCell ⟨U0.heap.size,3,.none⟩ (.int .u64 (num B (a+40) 8))).cell? ⟨1,10,.none⟩=some (.int .i64 8)∧((((U2.setCell ⟨U0.heap.size,0,.none⟩ (.int .u64 (num B (a+16) 8))).setCell ⟨U0.heap.size,1,.none⟩ (.int .u32 (num B (a+4) 4))).setCell ⟨U0.heap.size,2,.none⟩ (.slice .none 0 0)).setCell ⟨U0.heap.size,3,.none⟩ (.int .u64 (num B (a+40) 8))).cell? ⟨1,11,.none⟩=some (.int .u64 0))∧(((((U2.setCell ⟨U0.heap.size,0,.none⟩ (.int .u64 (num B (a+16) 8))).setCell ⟨U0.heap.size,1,.none⟩ (.int .u32 (num B (a+4) 4))).setCell ⟨U0.heap.size,2,.none⟩ (.slice .none 0 0)).setCell ⟨U0.heap.size,3,.none⟩ (.int .u64 (num B (a+40) 8))).cell? ⟨1,3,.none⟩=some (.int .i64 4)∧((((U2.setCell ⟨U0.heap.size,0,.none⟩ (.int .u64 (num B (a+16) 8))).setCell ⟨U0.heap.size,1,.none⟩ (.int .u32 (num B (a+4) 4))).setCell ⟨U0.heap.size,2,.none⟩ (.slice .none 0 0)).setCell ⟨U0.heap.size,3,.none⟩ (.int .u64 (num B (a+40) 8))).cell? ⟨1,4,.none⟩=some (.int .i64 4)∧((((U2.setCell ⟨U0.heap.size,0,.none⟩ (.int .u64 (num B (a+16) 8))).setCell ⟨U0.heap.size,1,.none⟩ (.int .u32 (num B (a+4) 4))).setCell ⟨U0.heap.size,2,.none⟩ (.slice .none 0 0)).setCell ⟨U0.heap.size,3,.none⟩ (.int .u64 (num B (a+40) 8))).cell? ⟨1,5,.none⟩=some (.int .u64 0))∧(((((U2.setCell ⟨U0.heap.size,0,.none⟩ (.int .u64 (num B (a+16) 8))).setCell ⟨U0.heap.size,1,.none⟩ (.int .u32 (num B (a+4) 4))).setCell ⟨U0.heap.size,2,.none⟩ (.slice .none 0 0)).setCell ⟨U0.heap.size,3,.none⟩ (.int .u64 (num B (a+40) 8))).cell? ⟨1,18,.none⟩=some (.int .i64 40)∧((((U2.setCell ⟨U0.heap.size,0,.none⟩ (.int .u64 (num B (a+16) 8))).setCell ⟨U0.heap.size,1,.none⟩ (.int .u32 (num B (a+4) 4))).setCell ⟨U0.heap.size,2,.none⟩ (.slice .none 0 0)).setCell ⟨U0.heap.size,3,.none⟩ (.int .u64 (num B (a+40) 8))).cell? ⟨1,19,.none⟩=some (.int .i64 8)∧((((U2.setCell ⟨U0.heap.size,0,.none⟩ (.int .u64 (num B (a+16) 8))).setCell ⟨U0.heap.size,1,.none⟩ (.int .u32 (num B (a+4) 4))).setCell ⟨U0.heap.size,2,.none⟩ (.slice .none 0 0)).setCell ⟨U0.heap.size,3,.none⟩ (.int .u64 (num B (a+40) 8))).cell? ⟨1,20,.none⟩=some (.int .u64 0)) := ⟨⟨(HLw.out.below bF).s0 3 (by omega),(HLw.out.below bF).s1 3 (by omega),(HLw.out.below bF).s2 3 (by omega)⟩,⟨(HLw.out.below bF).s0 1 (by omega),(HLw.out.below bF).s1 1 (by omega),(HLw.out.below bF).s2 1 (by omega)⟩,⟨(HLw.out.below bF).s0 6 (by omega),(HLw.out.below bF).s1 6 (by omega),(HLw.out.below bF).s2 6 (by omega)⟩⟩
      go_simp
      refine hK.out _ _ kF (fun hHeld => ?_)
      clear hK K
      try simp only [X0,X1,X2,X3,X4,X5,X6]
      refine wpAnyH_done (by kernel_rfl) ?_ _
      clear hHeld
      go_wp2_with fail
      go_meet
      case rel => exact ⟨_,rfl,cF,bF,hxA⟩
    ·
     go_simp
     have bA : Below w.heap.size w (V1.drew.alloc (.cells #[.int .u64 0,.int .u32 0,.slice .none 0 0,.int .u64 0] 38)) := (bw1).alloc (bw1).size _
     have cA : C4 (V1.drew.alloc (.cells #[.int .u64 0,.int .u32 0,.slice .none 0 0,.int .u64 0] 38)) V1.heap.size _ _ _ _ := C4.new V1.drew (.int .u64 0) (.int .u32 0) (.slice .none 0 0) (.int .u64 0) 38
     have kA : ((V1.drew.alloc (.cells #[.int .u64 0,.int .u32 0,.slice .none 0 0,.int .u64 0] 38)).cell? ⟨1,9,.none⟩=some (.int .i64 16)∧(V1.drew.alloc (.cells #[.int .u64 0,.int .u32 0,.slice .none 0 0,.int .u64 0] 38)).cell? ⟨1,10,.none⟩=some (.int .i64 8)∧(V1.drew.alloc (.cells #[.int .u64 0,.int .u32 0,.slice .none 0 0,.int .u64 0] 38)).cell? ⟨1,11,.none⟩=some (.int .u64 0))∧((V1.drew.alloc (.cells #[.int .u64 0,.int .u32 0,.slice .none 0 0,.int .u64 0] 38)).cell? ⟨1,3,.none⟩=some (.int .i64 4)∧(V1.drew.alloc (.cells #[.int .u64 0,.int .u32 0,.slice .none 0 0,.int .u64 0] 38)).cell? ⟨1,4,.none⟩=some (.int .i64 4)∧(V1.drew.alloc (.cells #[.int .u64 0,.int .u32 0,.slice .none 0 0,.int .u64 0] 38)).cell? ⟨1,5,.none⟩=some (.int .u64 0))∧((V1.drew.alloc (.cells #[.int .u64 0,.int .u32 0,.slice .none 0 0,.int .u64 0] 38)).cell? ⟨1,18,.none⟩=some (.int .i64 40)∧(V1.drew.alloc (.cells #[.int .u64 0,.int .u32 0,.slice .none 0 0,.int .u64 0] 38)).cell? ⟨1,19,.none⟩=some (.int .i64 8)∧(V1.drew.alloc (.cells #[.int .u64 0,.int .u32 0,.slice .none 0 0,.int .u64 0] 38)).cell? ⟨1,20,.none⟩=some (.int .u64 0)) := ⟨⟨(HLw.out.below bA).s0 3 (by omega),(HLw.out.below bA).s1 3 (by omega),(HLw.out.below bA).s2 3 (by omega)⟩,⟨(HLw.out.below bA).s0 1 (by omega),(HLw.out.below bA).s1 1 (by omega),(HLw.out.below bA).s2 1 (by omega)⟩,⟨(HLw.out.below bA).s0 6 (by omega),(HLw.out.below bA).s1 6 (by omega),(HLw.out.below bA).s2 6 (by omega)⟩⟩
     have hxA : w.heap.size≤V1.heap.size := (bw1).size
     refine hK.out _ _ kA (fun hHeld => ?_)
     clear hK K
     try simp only [X0,X1,X2,X3,X4,X5,X6]
     refine wpAnyH_ready (rs:=[3]) (by kernel_rfl) (by simp) ?_
     refine AllReadyH.cons rfl (fun K hK => ?_) AllReadyH.nil
     go_simp
     go_at_call 176
     refine (inS_any (HRw.out.fil.row.keep bA) HRw.out.fil.bd a ha 16 8 0 (by omega) (by omega) (by omega)).mono ?_
     rintro e U0 ⟨rfl,hb_U0⟩
     have b_U0 : Below w.heap.size w U0 := (bA).trans (hb_U0.mono (bA).size)
     have kU0 : (U0.cell? ⟨1,9,.none⟩=some (.int .i64 16)∧U0.cell? ⟨1,10,.none⟩=some (.int .i64 8)∧U0.cell? ⟨1,11,.none⟩=some (.int .u64 0))∧(U0.cell? ⟨1,3,.none⟩=some (.int .i64 4)∧U0.cell? ⟨1,4,.none⟩=some (.int .i64 4)∧U0.cell? ⟨1,5,.none⟩=some (.int .u64 0))∧(U0.cell? ⟨1,18,.none⟩=some (.int .i64 40)∧U0.cell? ⟨1,19,.none⟩=some (.int .i64 8)∧U0.cell? ⟨1,20,.none⟩=some (.int .u64 0)) := ⟨⟨(HLw.out.below b_U0).s0 3 (by omega),(HLw.out.below b_U0).s1 3 (by omega),(HLw.out.below b_U0).s2 3 (by omega)⟩,⟨(HLw.out.below b_U0).s0 1 (by omega),(HLw.out.below b_U0).s1 1 (by omega),(HLw.out.below b_U0).s2 1 (by omega)⟩,⟨(HLw.out.below b_U0).s0 6 (by omega),(HLw.out.below b_U0).s1 6 (by omega),(HLw.out.below b_U0).s2 6 (by omega)⟩⟩
     have cU0 := cA.below hb_U0
     refine hK.out _ _ kU0 (fun hHeld => ?_)
     clear hK K
     try simp only [X0,X1,X2,X3,X4,X5,X6]
     refine wpAnyH_ready (rs:=[7]) (by kernel_rfl) (by simp) ?_
     refine AllReadyH.cons rfl (fun K hK => ?_) AllReadyH.nil
     go_simp
     go_at_call 176
     refine (inS_any (HRw.out.fil.row.keep b_U0) HRw.out.fil.bd a ha 4 4 0 (by omega) (by omega) (by omega)).mono ?_
     rintro e U1 ⟨rfl,hb_U1⟩
     have b_U1 : Below w.heap.size w U1 := (b_U0).trans (hb_U1.mono (b_U0).size)
     have kU1 : (U1.cell? ⟨1,9,.none⟩=some (.int .i64 16)∧U1.cell? ⟨1,10,.none⟩=some (.int .i64 8)∧U1.cell? ⟨1,11,.none⟩=some (.int .u64 0))∧(U1.cell? ⟨1,3,.none⟩=some (.int .i64 4)∧U1.cell? ⟨1,4,.none⟩=some (.int .i64 4)∧U1.cell? ⟨1,5,.none⟩=some (.int .u64 0))∧(U1.cell? ⟨1,18,.none⟩=some (.int .i64 40)∧U1.cell? ⟨1,19,.none⟩=some (.int .i64 8)∧U1.cell? ⟨1,20,.none⟩=some (.int .u64 0)) := ⟨⟨(HLw.out.below b_U1).s0 3 (by omega),(HLw.out.below b_U1).s1 3 (by omega),(HLw.out.below b_U1).s2 3 (by omega)⟩,⟨(HLw.out.below b_U1).s0 1 (by omega),(HLw.out.below b_U1).s1 1 (by omega),(HLw.out.below b_U1).s2 1 (by omega)⟩,⟨(HLw.out.below b_U1).s0 6 (by omega),(HLw.out.below b_U1).s1 6 (by omega),(HLw.out.below b_U1).s2 6 (by omega)⟩⟩
     have cU1 := cU0.below hb_U1
     refine hK.out _ _ kU1 (fun hHeld => ?_)
     clear hK K
     try simp only [X0,X1,X2,X3,X4,X5,X6]
     refine aT 8 (.int .u32 (num B (a+4) 4)) rfl ?_
     simp only [X0,X1,X2,X3,X4,X5,X6]
     refine wpAnyH_ready (rs:=[12]) (by kernel_rfl) (by simp) ?_
     refine AllReadyH.cons rfl (fun K hK => ?_) AllReadyH.nil
     go_simp
     go_at_call 176
     refine (inS_any (HRw.out.fil.row.keep b_U1) HRw.out.fil.bd a ha 40 8 0 (by omega) (by omega) (by omega)).mono ?_
     rintro e U2 ⟨rfl,hb_U2⟩
     have b_U2 : Below w.heap.size w U2 := (b_U1).trans (hb_U2.mono (b_U1).size)
     have kU2 : (U2.cell? ⟨1,9,.none⟩=some (.int .i64 16)∧U2.cell? ⟨1,10,.none⟩=some (.int .i64 8)∧U2.cell? ⟨1,11,.none⟩=some (.int .u64 0))∧(U2.cell? ⟨1,3,.none⟩=some (.int .i64 4)∧U2.cell? ⟨1,4,.none⟩=some (.int .i64 4)∧U2.cell? ⟨1,5,.none⟩=some (.int .u64 0))∧(U2.cell? ⟨1,18,.none⟩=some (.int .i64 40)∧U2.cell? ⟨1,19,.none⟩=some (.int .i64 8)∧U2.cell? ⟨1,20,.none⟩=some (.int .u64 0)) := ⟨⟨(HLw.out.below b_U2).s0 3 (by omega),(HLw.out.below b_U2).s1 3 (by omega),(HLw.out.below b_U2).s2 3 (by omega)⟩,⟨(HLw.out.below b_U2).s0 1 (by omega),(HLw.out.below b_U2).s1 1 (by omega),(HLw.out.below b_U2).s2 1 (by omega)⟩,⟨(HLw.out.below b_U2).s0 6 (by omega),(HLw.out.below b_U2).s1 6 (by omega),(HLw.out.below b_U2).s2 6 (by omega)⟩⟩
     have cU2 := cU1.below hb_U2
     refine hK.out _ _ kU2 (fun hHeld => ?_)
     clear hK K
     try simp only [X0,X1,X2,X3,X4,X5,X6]
     refine aT 13 (.agg #[.int .u64 (num B (a+16) 8),.int .u32 (num B (a+4) 4),.slice .none 0 0,.int .u64 (num B (a+40) 8)]) rfl ?_
     simp only [X0,X1,X2,X3,X4,X5,X6]
     refine wpAnyH_ready (rs:=[15]) (by kernel_rfl) (by simp) ?_
     refine AllReadyH.cons rfl (fun K hK => ?_) AllReadyH.nil
     obtain ⟨y0,y1,y2,y3,y4⟩ := cU2
     have z0 := y4 0
     have z1 := y4 1
     have z2 := y4 2
     have z3 := y4 3
     have bF : Below w.heap.size w ((((U2.setCell ⟨V1.heap.size,0,.none⟩ (.int .u64 (num B (a+16) 8))).setCell ⟨V1.heap.size,1,.none⟩ (.int .u32 (num B (a+4) 4))).setCell ⟨V1.heap.size,2,.none⟩ (.slice .none 0 0)).setCell ⟨V1.heap.size,3,.none⟩ (.int .u64 (num B (a+40) 8))) := ((((b_U2).setCell (p:=⟨V1.heap.size,0,.none⟩) hxA _).setCell (p:=⟨V1.heap.size,1,.none⟩) hxA _).setCell (p:=⟨V1.heap.size,2,.none⟩) hxA _).setCell (p:=⟨V1.heap.size,3,.none⟩) hxA _
     have cF := C4.set (⟨y0,y1,y2,y3,y4⟩ : C4 U2 V1.heap.size _ _ _ _) (.int .u64 (num B (a+16) 8)) (.int .u32 (num B (a+4) 4)) (.slice .none 0 0) (.int .u64 (num B (a+40) 8))
     have kF : (((((U2.setCell ⟨V1.heap.size,0,.none⟩ (.int .u64 (num B (a+16) 8))).setCell ⟨V1.heap.size,1,.none⟩ (.int .u32 (num B (a+4) 4))).setCell ⟨V1.heap.size,2,.none⟩ (.slice .none 0 0)).setCell ⟨V1.heap.size,3,.none⟩ (.int .u64 (num B (a+40) 8))).cell? ⟨1,9,.none⟩=some (.int .i64 16)∧((((U2.setCell ⟨V1.heap.size,0,.none⟩ (.int .u64 (num B (a+16) 8))).setCell ⟨V1.heap.size,1,.none⟩ (.int .u32 (num B (a+4) 4))).setCell ⟨V1.heap.size,2,.none⟩ (.slice .none 0 0)).setCell ⟨V1.heap.size,3,.none⟩ (.int .u64 (num B (a+40) 8))).cell? ⟨1,10,.none⟩=some (.int .i64 8)∧((((U2.setCell ⟨V1.heap.size,0,.none⟩ (.int .u64 (num B (a+16) 8))).setCell ⟨V1.heap.size,1,.none⟩ (.int .u32 (num B (a+4) 4))).setCell ⟨V1.heap.size,2,.none⟩ (.slice .none 0 0)).setCell ⟨V1.heap.size,3,.none⟩ (.int .u64 (num B (a+40) 8))).cell? ⟨1,11,.none⟩=some (.int .u64 0))∧(((((U2.setCell ⟨V1.heap.size,0,.none⟩ (.int .u64 (num B (a+16) 8))).setCell ⟨V1.heap.size,1,.none⟩ (.int .u32 (num B (a+4) 4))).setCell ⟨V1.heap.size,2,.none⟩ (.slice .none 0 0)).setCell ⟨V1.heap.size,3,.none⟩ (.int .u64 (num B (a+40) 8))).cell? ⟨1,3,.none⟩=some (.int .i64 4)∧((((U2.setCell ⟨V1.heap.size,0,.none⟩ (.int .u64 (num B (a+16) 8))).setCell ⟨V1.heap.size,1,.none⟩ (.int .u32 (num B (a+4) 4))).setCell ⟨V1.heap.size,2,.none⟩ (.slice .none 0 0)).setCell ⟨V1.heap.size,3,.none⟩ (.int .u64 (num B (a+40) 8))).cell? ⟨1,4,.none⟩=some (.int .i64 4)∧((((U2.setCell ⟨V1.heap.size,0,.none⟩ (.int .u64 (num B (a+16) 8))).setCell ⟨V1.heap.size,1,.none⟩ (.int .u32 (num B (a+4) 4))).setCell ⟨V1.heap.size,2,.none⟩ (.slice .none 0 0)).setCell ⟨V1.heap.size,3,.none⟩ (.int .u64 (num B (a+40) 8))).cell? ⟨1,5,.none⟩=some (.int .u64 0))∧(((((U2.setCell ⟨V1.heap.size,0,.none⟩ (.int .u64 (num B (a+16) 8))).setCell ⟨V1.heap.size,1,.none⟩ (.int .u32 (num B (a+4) 4))).setCell ⟨V1.heap.size,2,.none⟩ (.slice .none 0 0)).setCell ⟨V1.heap.size,3,.none⟩ (.int .u64 (num B (a+40) 8))).cell? ⟨1,18,.none⟩=some (.int .i64 40)∧((((U2.setCell ⟨V1.heap.size,0,.none⟩ (.int .u64 (num B (a+16) 8))).setCell ⟨V1.heap.size,1,.none⟩ (.int .u32 (num B (a+4) 4))).setCell ⟨V1.heap.size,2,.none⟩ (.slice .none 0 0)).setCell ⟨V1.heap.size,3,.none⟩ (.int .u64 (num B (a+40) 8))).cell? ⟨1,19,.none⟩=some (.int .i64 8)∧((((U2.setCell ⟨V1.heap.size,0,.none⟩ (.int .u64 (num B (a+16) 8))).setCell ⟨V1.heap.size,1,.none⟩ (.int .u32 (num B (a+4) 4))).setCell ⟨V1.heap.size,2,.none⟩ (.slice .none 0 0)).setCell ⟨V1.heap.size,3,.none⟩ (.int .u64 (num B (a+40) 8))).cell? ⟨1,20,.none⟩=some (.int .u64 0)) := ⟨⟨(HLw.out.below bF).s0 3 (by omega),(HLw.out.below bF).s1 3 (by omega),(HLw.out.below bF).s2 3 (by omega)⟩,⟨(HLw.out.below bF).s0 1 (by omega),(HLw.out.below bF).s1 1 (by omega),(HLw.out.below bF).s2 1 (by omega)⟩,⟨(HLw.out.below bF).s0 6 (by omega),(HLw.out.below bF).s1 6 (by omega),(HLw.out.below bF).s2 6 (by omega)⟩⟩
     go_simp
     refine hK.out _ _ kF (fun hHeld => ?_)
     clear hK K
     try simp only [X0,X1,X2,X3,X4,X5,X6]
     refine wpAnyH_done (by kernel_rfl) ?_ _
     clear hHeld
     go_wp2_with fail
     go_meet
     case rel => exact ⟨_,rfl,cF,bF,hxA⟩
   case rest =>
    obtain ⟨x,rfl,HX⟩ := hcut
    have bw5 : Below w.heap.size w wc.drew := (HX.out.2.1).drew
    have kS : (wc.drew.cell? ⟨1,6,.none⟩=some (.int .i64 8)∧wc.drew.cell? ⟨1,7,.none⟩=some (.int .i64 8)∧wc.drew.cell? ⟨1,8,.none⟩=some (.int .u64 0))∧(wc.drew.cell? ⟨1,15,.none⟩=some (.int .i64 32)∧wc.drew.cell? ⟨1,16,.none⟩=some (.int .i64 8)∧wc.drew.cell? ⟨1,17,.none⟩=some (.int .u64 0)) := ⟨⟨(HLw.out.below bw5).s0 2 (by omega),(HLw.out.below bw5).s1 2 (by omega),(HLw.out.below bw5).s2 2 (by omega)⟩,⟨(HLw.out.below bw5).s0 5 (by omega),(HLw.out.below bw5).s1 5 (by omega),(HLw.out.below bw5).s2 5 (by omega)⟩⟩
    go_upto_region 5 with fail
    refine wp_region_held_drew (S:=fun U2 => (U2.cell? ⟨1,6,.none⟩=some (.int .i64 8)∧U2.cell? ⟨1,7,.none⟩=some (.int .i64 8)∧U2.cell? ⟨1,8,.none⟩=some (.int .u64 0))∧(U2.cell? ⟨1,15,.none⟩=some (.int .i64 32)∧U2.cell? ⟨1,16,.none⟩=some (.int .i64 8)∧U2.cell? ⟨1,17,.none⟩=some (.int .u64 0))) (by kernel_rfl) kS (fun hHeld => ?_)
    refine aT 0 (.pointer (some ⟨1,6,.none⟩)) rfl ?_
    simp only [X0,X1,X2,X3,X4,X5,X6]
    refine aT 1 (.agg #[.int .i64 8,.int .i64 8,.int .u64 0]) rfl ?_
    simp only [X0,X1,X2,X3,X4,X5,X6]
    refine aT 2 (.slice (some ⟨b,o+a,.none⟩) 56 56) rfl ?_
    simp only [X0,X1,X2,X3,X4,X5,X6]
    refine aT 4 (.pointer (some ⟨1,15,.none⟩)) rfl ?_
    simp only [X0,X1,X2,X3,X4,X5,X6]
    refine aT 5 (.agg #[.int .i64 32,.int .i64 8,.int .u64 0]) rfl ?_
    simp only [X0,X1,X2,X3,X4,X5,X6]
    refine aT 6 (.slice (some ⟨b,o+a,.none⟩) 56 56) rfl ?_
    simp only [X0,X1,X2,X3,X4,X5,X6]
    refine wpAnyH_ready (rs:=[3]) (by kernel_rfl) (by simp) ?_
    refine AllReadyH.cons rfl (fun K hK => ?_) AllReadyH.nil
    go_simp
    go_at_call 176
    refine (inS_any (HRw.out.fil.row.keep bw5) HRw.out.fil.bd a ha 8 8 0 (by omega) (by omega) (by omega)).mono ?_
    rintro e V2 ⟨rfl,hb_V2⟩
    have b_V2 : Below w.heap.size w V2 := (bw5).trans (hb_V2.mono (bw5).size)
    have k2 : (V2.cell? ⟨1,6,.none⟩=some (.int .i64 8)∧V2.cell? ⟨1,7,.none⟩=some (.int .i64 8)∧V2.cell? ⟨1,8,.none⟩=some (.int .u64 0))∧(V2.cell? ⟨1,15,.none⟩=some (.int .i64 32)∧V2.cell? ⟨1,16,.none⟩=some (.int .i64 8)∧V2.cell? ⟨1,17,.none⟩=some (.int .u64 0)) := ⟨⟨(HLw.out.below b_V2).s0 2 (by omega),(HLw.out.below b_V2).s1 2 (by omega),(HLw.out.below b_V2).s2 2 (by omega)⟩,⟨(HLw.out.below b_V2).s0 5 (by omega),(HLw.out.below b_V2).s1 5 (by omega),(HLw.out.below b_V2).s2 5 (by omega)⟩⟩
    refine hK.out _ _ k2 (fun hHeld => ?_)
    clear hK K
    try simp only [X0,X1,X2,X3,X4,X5,X6]
    refine wpAnyH_ready (rs:=[7]) (by kernel_rfl) (by simp) ?_
    refine AllReadyH.cons rfl (fun K hK => ?_) AllReadyH.nil
    go_simp
    go_at_call 176
    refine (inS_any (HRw.out.fil.row.keep b_V2) HRw.out.fil.bd a ha 32 8 0 (by omega) (by omega) (by omega)).mono ?_
    rintro e V3 ⟨rfl,hb_V3⟩
    have b_V3 : Below w.heap.size w V3 := (b_V2).trans (hb_V3.mono (b_V2).size)
    have k3 : (V3.cell? ⟨1,6,.none⟩=some (.int .i64 8)∧V3.cell? ⟨1,7,.none⟩=some (.int .i64 8)∧V3.cell? ⟨1,8,.none⟩=some (.int .u64 0))∧(V3.cell? ⟨1,15,.none⟩=some (.int .i64 32)∧V3.cell? ⟨1,16,.none⟩=some (.int .i64 8)∧V3.cell? ⟨1,17,.none⟩=some (.int .u64 0)) := ⟨⟨(HLw.out.below b_V3).s0 2 (by omega),(HLw.out.below b_V3).s1 2 (by omega),(HLw.out.below b_V3).s2 2 (by omega)⟩,⟨(HLw.out.below b_V3).s0 5 (by omega),(HLw.out.below b_V3).s1 5 (by omega),(HLw.out.below b_V3).s2 5 (by omega)⟩⟩
    refine hK.out _ _ k3 (fun hHeld => ?_)
    clear hK K
    try simp only [X0,X1,X2,X3,X4,X5,X6]
    refine aT 8 (.int .u64 (num B (a+8) 8)) rfl ?_
    simp only [X0,X1,X2,X3,X4,X5,X6]
    refine aT 9 (.int .u64 (num B (a+32) 8)) rfl ?_
    simp only [X0,X1,X2,X3,X4,X5,X6]
    refine wpAnyH_done (by kernel_rfl) ?_ _
    have HC1 : Hid (C4 V3 x (.int .u64 (num B (a+16) 8)) (.int .u32 (num B (a+4) 4)) (.slice .none 0 0) (.int .u64 (num B (a+40) 8))) := (HX.out.1.below ((Below.refl _ _).drew)).below (hb_V2.trans (hb_V3.mono hb_V2.size))
    have HB3 : Hid (Below w.heap.size w V3) := b_V3
    clear hHeld kS k2 k3 b_V2 hb_V2 hb_V3 bw5 b_V3
    have y0 := HC1.out.a
    have y1 := HC1.out.b
    have y2 := HC1.out.c
    have y3 := HC1.out.d
    have c36 := mayBe_any (num B (a+16) 8) (num B (a+4) 4) (num B (a+32) 8) (num B (a+40) 8) (.slice .none 0 0) V3 hsb.1 hsb.2.1 hsb.2.2.2.2 hsb.2.2.1 ⟨_,_,_,rfl⟩
    have ez : ((sgOf B a).sz : Int)=num B (a+32) 8 := Int.toNat_of_nonneg hsb.2.2.2.2.1
    have ew : ((sgOf B a).wh : Int)=num B (a+8) 8 := Int.toNat_of_nonneg hsb.2.2.2.1.1
    cases hok : ok1 (num B (a+16) 8) (num B (a+4) 4) (num B (a+32) 8) (num B (a+40) 8) with
    | false =>
     rw [hok] at c36
     go_wp2_with (first | (go_at_call 79; refine c36.mono ?_; rintro e V4 ⟨rfl,hb4⟩) | (go_at_call 175; refine (giveUp_any _ _ _).mono ?_; intro e w0 hu; obtain ⟨v,rfl,hu2⟩ := id hu) | fail)
     have e1 := HST.out
     rw [if_neg h8,if_pos (by rw [ez]; exact hok)] at e1
     refine ⟨rfl,.inl ?_⟩
     rw [e1]
     exact ⟨by simp,hu.x ((HRw.out.be.trans (HB3.out.mono HRw.out.be.size)).trans (hb4.mono (HRw.out.be.trans (HB3.out.mono HRw.out.be.size)).size))⟩
    | true =>
     rw [hok] at c36
     have hoks : ok1 (sgOf B a).va (sgOf B a).fl (sgOf B a).sz (sgOf B a).mem=true := by rw [ez]; exact hok
     by_cases hz : num B (a+32) 8=0
     ·have hzb : ¬ (num B (a+32) 8 > 0) := by omega
      have hzs0 : (sgOf B a).sz=0 := by omega
      have hzz : ¬ (0<(sgOf B a).sz∧n<(sgOf B a).wh+(sgOf B a).sz) := by omega
      have hgd : Gd (sgOf B a) := ok1_gd hoks hsb.1.1 (by omega)
      have HZS : Hid ((sgOf B a).sz=0) := hzs0
      clear hzs0 hz
      go_upto_region 10 with (first | (go_at_call 79; refine c36.mono ?_; rintro e V4 ⟨rfl,hb4⟩) | fail)
      have HBt : Hid (Below w.heap.size w V4) := HB3.out.trans (hb4.mono HB3.out.size)
      have HC : Hid (C4 V4 x (.int .u64 (num B (a+16) 8)) (.int .u32 (num B (a+4) 4)) (.slice .none 0 0) (.int .u64 (num B (a+40) 8))) := HC1.out.below hb4
      have HDat : Hid (V4.ownsRow (rb+1) 5 1 (.slice .none 0 0) (sgOf B a).sz (by8 (byt B (sgOf B a)))) := by
       have e9 : byt B (sgOf B a) = [] := by unfold byt; rw [HZS.out]; rfl
       rw [HZS.out,e9]
       exact World.ownsRow_nil _ _ _ _
      clear c36 y0 y1 y2 y3 hb4
      have HR3 : Hid (Rdr W0 V4.drew rb rs b o n c B E (.slice q E.length cs)) := (HRw.out.below HBt.out).below ((Below.refl _ _).drew)
      have HC3 : Hid (C4 V4.drew x (.int .u64 (num B (a+16) 8)) (.int .u32 (num B (a+4) 4)) (.slice .none 0 0) (.int .u64 (num B (a+40) 8))) := HC.out.below ((Below.refl _ _).drew)
      have kT : V4.drew.cell? ⟨rb,1,.none⟩=some (.slice q E.length cs)∧(V4.drew.cell? ⟨x,0,.none⟩=some (.int .u64 (num B (a+16) 8))∧V4.drew.cell? ⟨x,1,.none⟩=some (.int .u32 (num B (a+4) 4)))∧V4.drew.cell? ⟨x,2,.none⟩=some (.slice .none 0 0)∧V4.drew.cell? ⟨x,3,.none⟩=some (.int .u64 (num B (a+40) 8)) := ⟨HR3.out.c1,⟨⟨HC3.out.a,HC3.out.b⟩,HC3.out.c,HC3.out.d⟩⟩
      go_upto_region 10 with fail
      refine wp_region_held_drew (S:=fun U2 => U2.cell? ⟨rb,1,.none⟩=some (.slice q E.length cs)∧(U2.cell? ⟨x,0,.none⟩=some (.int .u64 (num B (a+16) 8))∧U2.cell? ⟨x,1,.none⟩=some (.int .u32 (num B (a+4) 4)))∧U2.cell? ⟨x,2,.none⟩=some (.slice .none 0 0)∧U2.cell? ⟨x,3,.none⟩=some (.int .u64 (num B (a+40) 8))) (by kernel_rfl) kT (fun hHeld => ?_)
      refine aT 0 (.pointer (some ⟨rb,0,.none⟩)) rfl ?_
      simp only [X0,X1,X2,X3,X4,X5,X6]
      refine aT 1 (.pointer (some ⟨rb,0,.none⟩)) rfl ?_
      simp only [X0,X1,X2,X3,X4,X5,X6]
      refine aT 2 (.pointer (some ⟨rb,1,.none⟩)) rfl ?_
      simp only [X0,X1,X2,X3,X4,X5,X6]
      refine aT 3 (.slice q E.length cs) rfl ?_
      simp only [X0,X1,X2,X3,X4,X5,X6]
      refine aT 4 (.agg #[(.int .u64 (num B (a+16) 8)),(.int .u32 (num B (a+4) 4)),(.slice .none 0 0),(.int .u64 (num B (a+40) 8))]) rfl ?_
      simp only [X0,X1,X2,X3,X4,X5,X6]
      refine wpAnyH_ready (rs:=[5]) (by kernel_rfl) (by simp) ?_
      refine AllReadyH.cons rfl (fun K hK => ?_) AllReadyH.nil
      go_simp
      go_at_call 80
      refine (rises_any HR3.out.sg HR3.out.ln _ _ _ _ _ _).mono ?_
      rintro e Z1 ⟨rfl,hbZ⟩
      have HR4 : Hid (Rdr W0 Z1 rb rs b o n c B E (.slice q E.length cs)) := HR3.out.below hbZ
      have HC4 : Hid (C4 Z1 x (.int .u64 (num B (a+16) 8)) (.int .u32 (num B (a+4) 4)) (.slice .none 0 0) (.int .u64 (num B (a+40) 8))) := HC3.out.below hbZ
      have HD4 : Hid (Z1.ownsRow (rb+1) 5 1 (.slice .none 0 0) (sgOf B a).sz (by8 (byt B (sgOf B a)))) := owns_below (owns_below HDat.out ((Below.refl _ _).drew)) hbZ
      have kU : Z1.cell? ⟨rb,1,.none⟩=some (.slice q E.length cs)∧(Z1.cell? ⟨x,0,.none⟩=some (.int .u64 (num B (a+16) 8))∧Z1.cell? ⟨x,1,.none⟩=some (.int .u32 (num B (a+4) 4)))∧Z1.cell? ⟨x,2,.none⟩=some (.slice .none 0 0)∧Z1.cell? ⟨x,3,.none⟩=some (.int .u64 (num B (a+40) 8)) := ⟨HR4.out.c1,⟨⟨HC4.out.a,HC4.out.b⟩,HC4.out.c,HC4.out.d⟩⟩
      clear hbZ
      refine hK.out _ _ kU (fun hHeld => ?_)
      clear hK K
      try simp only [X0,X1,X2,X3,X4,X5,X6]
      have ev : (sgOf B a).va=num B (a+16) 8 := rfl
      cases hri : ris (E.map (·.1)) (num B (a+16) 8) with
      | false =>
       refine aT 6 (.bool true) rfl ?_
       simp only [X0,X1,X2,X3,X4,X5,X6]
       refine wpAnyH_done (by kernel_rfl) ?_ _
       clear hHeld kT kU
       go_wp2_with (first | (go_at_call 175; refine (giveUp_any _ _ _).mono ?_; intro e w0 hu; obtain ⟨v,rfl,hu2⟩ := id hu) | fail)
       have e1 := HST.out
       rw [if_neg h8,if_neg (by rw [hoks]; decide),if_neg hzz,if_pos (by rw [ev,hri])] at e1
       refine ⟨rfl,.inl ?_⟩
       rw [e1]
       exact ⟨by simp,hu.x HR4.out.be⟩
      | true =>
       refine aT 6 (.bool false) rfl ?_
       simp only [X0,X1,X2,X3,X4,X5,X6]
       refine wpAnyH_done (by kernel_rfl) ?_ _
       clear hHeld kT kU HR3 HC3
       obtain ⟨j1,hk0,hkz,hk1,hk2⟩ := info59
       have HR5 : Hid (Rdr W0 Z1.drew rb rs b o n c B E (.slice q E.length cs)) := HR4.out.below ((Below.refl _ _).drew)
       have HC5 : Hid (C4 Z1.drew x (.int .u64 (num B (a+16) 8)) (.int .u32 (num B (a+4) 4)) (.slice .none 0 0) (.int .u64 (num B (a+40) 8))) := HC4.out.below ((Below.refl _ _).drew)
       have HD5 : Hid (Z1.drew.ownsRow (rb+1) 5 1 (.slice .none 0 0) (sgOf B a).sz (by8 (byt B (sgOf B a)))) := owns_below HD4.out ((Below.refl _ _).drew)
       have k0 : (Z1.drew.cell? ⟨x,0,.none⟩=some (.int .u64 (num B (a+16) 8))∧Z1.drew.cell? ⟨x,1,.none⟩=some (.int .u32 (num B (a+4) 4)))∧Z1.drew.cell? ⟨x,2,.none⟩=some (.slice .none 0 0)∧Z1.drew.cell? ⟨x,3,.none⟩=some (.int .u64 (num B (a+40) 8)) := ⟨⟨HC5.out.a,HC5.out.b⟩,HC5.out.c,HC5.out.d⟩
       have kA : ((Z1.drew.alloc (.cells #[(.int .u64 (num B (a+16) 8)),(.int .u32 (num B (a+4) 4)),(.slice .none 0 0),(.int .u64 (num B (a+40) 8))] 38)).cell? ⟨x,0,.none⟩=some (.int .u64 (num B (a+16) 8))∧(Z1.drew.alloc (.cells #[(.int .u64 (num B (a+16) 8)),(.int .u32 (num B (a+4) 4)),(.slice .none 0 0),(.int .u64 (num B (a+40) 8))] 38)).cell? ⟨x,1,.none⟩=some (.int .u32 (num B (a+4) 4)))∧(Z1.drew.alloc (.cells #[(.int .u64 (num B (a+16) 8)),(.int .u32 (num B (a+4) 4)),(.slice .none 0 0),(.int .u64 (num B (a+40) 8))] 38)).cell? ⟨x,2,.none⟩=some (.slice .none 0 0)∧(Z1.drew.alloc (.cells #[(.int .u64 (num B (a+16) 8)),(.int .u32 (num B (a+4) 4)),(.slice .none 0 0),(.int .u64 (num B (a+40) 8))] 38)).cell? ⟨x,3,.none⟩=some (.int .u64 (num B (a+40) 8)) := ⟨⟨(HC5.out.below ((Below.refl _ _).alloc (Nat.le_refl _) (.cells #[(.int .u64 (num B (a+16) 8)),(.int .u32 (num B (a+4) 4)),(.slice .none 0 0),(.int .u64 (num B (a+40) 8))] 38))).a,(HC5.out.below ((Below.refl _ _).alloc (Nat.le_refl _) (.cells #[(.int .u64 (num B (a+16) 8)),(.int .u32 (num B (a+4) 4)),(.slice .none 0 0),(.int .u64 (num B (a+40) 8))] 38))).b⟩,(HC5.out.below ((Below.refl _ _).alloc (Nat.le_refl _) (.cells #[(.int .u64 (num B (a+16) 8)),(.int .u32 (num B (a+4) 4)),(.slice .none 0 0),(.int .u64 (num B (a+40) 8))] 38))).c,(HC5.out.below ((Below.refl _ _).alloc (Nat.le_refl _) (.cells #[(.int .u64 (num B (a+16) 8)),(.int .u32 (num B (a+4) 4)),(.slice .none 0 0),(.int .u64 (num B (a+40) 8))] 38))).d⟩
       have c1a := HR5.out.c1
       have c1c : (Z1.alloc (.cells #[(.int .u64 (num B (a+16) 8)),(.int .u32 (num B (a+4) 4)),(.slice .none 0 0),(.int .u64 (num B (a+40) 8))] 38)).cell? ⟨rb,1,.none⟩=some (.slice q E.length cs) := (HR4.out.below ((Below.refl _ _).alloc (Nat.le_refl _) (.cells #[(.int .u64 (num B (a+16) 8)),(.int .u32 (num B (a+4) 4)),(.slice .none 0 0),(.int .u64 (num B (a+40) 8))] 38))).c1
       have hsz9 : rb+1≤(Z1.drew.alloc (.cells #[(.int .u64 (num B (a+16) 8)),(.int .u32 (num B (a+4) 4)),(.slice .none 0 0),(.int .u64 (num B (a+40) 8))] 38)).heap.size := Nat.le_trans HR5.out.hx ((Below.refl Z1.drew.heap.size Z1.drew).alloc (Nat.le_refl _) _).size
       have c1b := (HR5.out.below ((Below.refl _ _).alloc (Nat.le_refl _) (.cells #[(.int .u64 (num B (a+16) 8)),(.int .u32 (num B (a+4) 4)),(.slice .none 0 0),(.int .u64 (num B (a+40) 8))] 38))).c1
       have hbx : some x≠Value.ownBlock (.slice q E.length cs) := fun e => by
        have h1 := (HRw.out.sg.own.lt _ e.symm).2
        have h2 := HX.out.2.2
        omega
       go_upto_region 12 with fail
       refine wp_region_held_drew (S:=fun U2 => (U2.cell? ⟨x,0,.none⟩=some (.int .u64 (num B (a+16) 8))∧U2.cell? ⟨x,1,.none⟩=some (.int .u32 (num B (a+4) 4)))∧U2.cell? ⟨x,2,.none⟩=some (.slice .none 0 0)∧U2.cell? ⟨x,3,.none⟩=some (.int .u64 (num B (a+40) 8))) (by kernel_rfl) k0 (fun hHeld => ?_)
       refine aT 0 (.pointer (some ⟨rb,0,.none⟩)) rfl ?_
       simp only [X0,X1,X2,X3,X4,X5,X6]
       refine aT 1 (.pointer (some ⟨rb,0,.none⟩)) rfl ?_
       simp only [X0,X1,X2,X3,X4,X5,X6]
       refine aT 2 (.pointer (some ⟨rb,0,.none⟩)) rfl ?_
       simp only [X0,X1,X2,X3,X4,X5,X6]
       refine aT 3 (.pointer (some ⟨rb,1,.none⟩)) rfl ?_
       simp only [X0,X1,X2,X3,X4,X5,X6]
       refine aT 5 (.agg #[(.int .u64 (num B (a+16) 8)),(.int .u32 (num B (a+4) 4)),(.slice .none 0 0),(.int .u64 (num B (a+40) 8))]) rfl ?_
       simp only [X0,X1,X2,X3,X4,X5,X6]
       refine wpAnyH_ready (rs:=[4,6]) (by kernel_rfl) (by simp) ?_
       refine AllReadyH.cons rfl (fun K hK => ?_) (AllReadyH.cons rfl (fun K hK => ?_) AllReadyH.nil)
       ·
        go_simp
        refine hK.out _ _ k0 (fun hHeld => ?_)
        clear hK K
        try simp only [X0,X1,X2,X3,X4,X5,X6]
        refine wpAnyH_ready (rs:=[6]) (by kernel_rfl) (by simp) ?_
        refine AllReadyH.cons rfl (fun K hK => ?_) AllReadyH.nil
        go_simp
        refine hK.out _ _ kA (fun hHeld => ?_)
        clear hK K
        try simp only [X0,X1,X2,X3,X4,X5,X6]
        clear c1a c1b c1c
        refine wpAnyH_ready (rs:=[7]) (by kernel_rfl) (by simp) ?_
        refine AllReadyH.cons rfl (fun K hK => ?_) AllReadyH.nil
        refine step_append_at rfl (.tmp 79) (.tmp 81) 39 rfl (rb+1) 38 j1 (.agg #[.int .u64 0,.int .u32 0,.slice .none 0 0,.int .u64 0]) 4 48 Tryz.underlying39 hk0 hkz hk1 hk2 rfl (by decide) (.slice q E.length cs) E.length (flatE E) (by simp [Act.eval,Act.put]) (HR5.out.sg.own.alloc _) ⟨Z1.heap.size,0,.none⟩ 1 1 [(.int .u64 (num B (a+16) 8)),(.int .u32 (num B (a+4) 4)),(.slice .none 0 0),(.int .u64 (num B (a+40) 8))] (by simp [Act.eval,Act.put]) rfl (cell4_new Z1.drew _ _ _ _ _) (by simp [Value.oneCell']) (by unfold maxLen; omega) (by omega) hsz9 ?_
        intro v' w5 hown5 hgr5 hat5
        obtain ⟨gr,cap1,rfl⟩ := ownsRow_succ hown5
        obtain ⟨m2,n5,hn5⟩ := HR5.out.push (g:=sgOf B a) (by omega) HD5.out hgd hown5 hgr5
        have hxw : x≠rb := by
         have h1 := HX.out.2.2
         have h2 := HRw.out.hx
         omega
        have HN : Hid (Rdr W0 (w5.setCell ⟨rb,1,.none⟩ (.slice (some ⟨gr,0,.none⟩) (E.length+1) cap1)) rb rs b o n c B (E ++ [(sgOf B a,(.slice .none 0 0))]) (.slice (some ⟨gr,0,.none⟩) (E.length+1) cap1)) := hn5
        have C7 : C4 w5 x (.int .u64 (num B (a+16) 8)) (.int .u32 (num B (a+4) 4)) (.slice .none 0 0) (.int .u64 (num B (a+40) 8)) := (HC5.out.below ((Below.refl _ _).alloc (Nat.le_refl _) _)).grown hgr5 hbx
        have k7 : (w5.cell? ⟨x,0,.none⟩=some (.int .u64 (num B (a+16) 8))∧w5.cell? ⟨x,1,.none⟩=some (.int .u32 (num B (a+4) 4)))∧w5.cell? ⟨x,2,.none⟩=some (.slice .none 0 0)∧w5.cell? ⟨x,3,.none⟩=some (.int .u64 (num B (a+40) 8)) := ⟨⟨C7.a,C7.b⟩,C7.c,C7.d⟩
        have k8 : ((w5.setCell ⟨rb,1,.none⟩ (.slice (some ⟨gr,0,.none⟩) (E.length+1) cap1)).cell? ⟨x,0,.none⟩=some (.int .u64 (num B (a+16) 8))∧(w5.setCell ⟨rb,1,.none⟩ (.slice (some ⟨gr,0,.none⟩) (E.length+1) cap1)).cell? ⟨x,1,.none⟩=some (.int .u32 (num B (a+4) 4)))∧(w5.setCell ⟨rb,1,.none⟩ (.slice (some ⟨gr,0,.none⟩) (E.length+1) cap1)).cell? ⟨x,2,.none⟩=some (.slice .none 0 0)∧(w5.setCell ⟨rb,1,.none⟩ (.slice (some ⟨gr,0,.none⟩) (E.length+1) cap1)).cell? ⟨x,3,.none⟩=some (.int .u64 (num B (a+40) 8)) := by
         refine ⟨⟨?_,?_⟩,?_,?_⟩
         ·rw [World.cell?_setCell_other _ _ _ _ (by simp only [ne_eq,Addr.mk.injEq,not_and]; intro e; omega)]; exact C7.a
         ·rw [World.cell?_setCell_other _ _ _ _ (by simp only [ne_eq,Addr.mk.injEq,not_and]; intro e; omega)]; exact C7.b
         ·rw [World.cell?_setCell_other _ _ _ _ (by simp only [ne_eq,Addr.mk.injEq,not_and]; intro e; omega)]; exact C7.c
         ·rw [World.cell?_setCell_other _ _ _ _ (by simp only [ne_eq,Addr.mk.injEq,not_and]; intro e; omega)]; exact C7.d
        clear hown5 hgr5 hat5 hn5 kA k0
        refine hK.out _ _ k7 (fun hHeld => ?_)
        clear hK K
        try simp only [X0,X1,X2,X3,X4,X5,X6]
        refine aT 8 (.pointer (some ⟨rb,0,.none⟩)) rfl ?_
        simp only [X0,X1,X2,X3,X4,X5,X6]
        refine aT 9 (.pointer (some ⟨rb,1,.none⟩)) rfl ?_
        simp only [X0,X1,X2,X3,X4,X5,X6]
        refine wpAnyH_ready (rs:=[10]) (by kernel_rfl) (by simp) ?_
        refine AllReadyH.cons rfl (fun K hK => ?_) AllReadyH.nil
        go_simp
        refine hK.out _ _ k8 (fun hHeld => ?_)
        clear hK K
        try simp only [X0,X1,X2,X3,X4,X5,X6]
        refine wpAnyH_done (by kernel_rfl) ?_ _
        clear hHeld k7 k8 m2 n5 C7
        go_wp2_with fail
        have e1 := HST.out
        rw [if_neg h8,if_neg (by rw [hoks]; decide),if_neg hzz,if_neg (by rw [ev,hri]; decide)] at e1
        refine ⟨rfl,_,results_none rfl _ _ _,.inr ?_⟩
        rw [e1]
        exact ⟨rfl,rfl,_,_,by simp,HN.out⟩
       ·
        go_simp
        refine hK.out _ _ kA (fun hHeld => ?_)
        clear hK K
        try simp only [X0,X1,X2,X3,X4,X5,X6]
        refine wpAnyH_ready (rs:=[4]) (by kernel_rfl) (by simp) ?_
        refine AllReadyH.cons rfl (fun K hK => ?_) AllReadyH.nil
        go_simp
        refine hK.out _ _ kA (fun hHeld => ?_)
        clear hK K
        try simp only [X0,X1,X2,X3,X4,X5,X6]
        clear c1a c1b c1c
        refine wpAnyH_ready (rs:=[7]) (by kernel_rfl) (by simp) ?_
        refine AllReadyH.cons rfl (fun K hK => ?_) AllReadyH.nil
        refine step_append_at rfl (.tmp 79) (.tmp 81) 39 rfl (rb+1) 38 j1 (.agg #[.int .u64 0,.int .u32 0,.slice .none 0 0,.int .u64 0]) 4 48 Tryz.underlying39 hk0 hkz hk1 hk2 rfl (by decide) (.slice q E.length cs) E.length (flatE E) (by simp [Act.eval,Act.put]) (HR5.out.sg.own.alloc _) ⟨Z1.heap.size,0,.none⟩ 1 1 [(.int .u64 (num B (a+16) 8)),(.int .u32 (num B (a+4) 4)),(.slice .none 0 0),(.int .u64 (num B (a+40) 8))] (by simp [Act.eval,Act.put]) rfl (cell4_new Z1.drew _ _ _ _ _) (by simp [Value.oneCell']) (by unfold maxLen; omega) (by omega) hsz9 ?_
        intro v' w5 hown5 hgr5 hat5
        obtain ⟨gr,cap1,rfl⟩ := ownsRow_succ hown5
        obtain ⟨m2,n5,hn5⟩ := HR5.out.push (g:=sgOf B a) (by omega) HD5.out hgd hown5 hgr5
        have hxw : x≠rb := by
         have h1 := HX.out.2.2
         have h2 := HRw.out.hx
         omega
        have HN : Hid (Rdr W0 (w5.setCell ⟨rb,1,.none⟩ (.slice (some ⟨gr,0,.none⟩) (E.length+1) cap1)) rb rs b o n c B (E ++ [(sgOf B a,(.slice .none 0 0))]) (.slice (some ⟨gr,0,.none⟩) (E.length+1) cap1)) := hn5
        have C7 : C4 w5 x (.int .u64 (num B (a+16) 8)) (.int .u32 (num B (a+4) 4)) (.slice .none 0 0) (.int .u64 (num B (a+40) 8)) := (HC5.out.below ((Below.refl _ _).alloc (Nat.le_refl _) _)).grown hgr5 hbx
        have k7 : (w5.cell? ⟨x,0,.none⟩=some (.int .u64 (num B (a+16) 8))∧w5.cell? ⟨x,1,.none⟩=some (.int .u32 (num B (a+4) 4)))∧w5.cell? ⟨x,2,.none⟩=some (.slice .none 0 0)∧w5.cell? ⟨x,3,.none⟩=some (.int .u64 (num B (a+40) 8)) := ⟨⟨C7.a,C7.b⟩,C7.c,C7.d⟩
        have k8 : ((w5.setCell ⟨rb,1,.none⟩ (.slice (some ⟨gr,0,.none⟩) (E.length+1) cap1)).cell? ⟨x,0,.none⟩=some (.int .u64 (num B (a+16) 8))∧(w5.setCell ⟨rb,1,.none⟩ (.slice (some ⟨gr,0,.none⟩) (E.length+1) cap1)).cell? ⟨x,1,.none⟩=some (.int .u32 (num B (a+4) 4)))∧(w5.setCell ⟨rb,1,.none⟩ (.slice (some ⟨gr,0,.none⟩) (E.length+1) cap1)).cell? ⟨x,2,.none⟩=some (.slice .none 0 0)∧(w5.setCell ⟨rb,1,.none⟩ (.slice (some ⟨gr,0,.none⟩) (E.length+1) cap1)).cell? ⟨x,3,.none⟩=some (.int .u64 (num B (a+40) 8)) := by
         refine ⟨⟨?_,?_⟩,?_,?_⟩
         ·rw [World.cell?_setCell_other _ _ _ _ (by simp only [ne_eq,Addr.mk.injEq,not_and]; intro e; omega)]; exact C7.a
         ·rw [World.cell?_setCell_other _ _ _ _ (by simp only [ne_eq,Addr.mk.injEq,not_and]; intro e; omega)]; exact C7.b
         ·rw [World.cell?_setCell_other _ _ _ _ (by simp only [ne_eq,Addr.mk.injEq,not_and]; intro e; omega)]; exact C7.c
         ·rw [World.cell?_setCell_other _ _ _ _ (by simp only [ne_eq,Addr.mk.injEq,not_and]; intro e; omega)]; exact C7.d
        clear hown5 hgr5 hat5 hn5 kA k0
        refine hK.out _ _ k7 (fun hHeld => ?_)
        clear hK K
        try simp only [X0,X1,X2,X3,X4,X5,X6]
        refine aT 8 (.pointer (some ⟨rb,0,.none⟩)) rfl ?_
        simp only [X0,X1,X2,X3,X4,X5,X6]
        refine aT 9 (.pointer (some ⟨rb,1,.none⟩)) rfl ?_
        simp only [X0,X1,X2,X3,X4,X5,X6]
        refine wpAnyH_ready (rs:=[10]) (by kernel_rfl) (by simp) ?_
        refine AllReadyH.cons rfl (fun K hK => ?_) AllReadyH.nil
        go_simp
        refine hK.out _ _ k8 (fun hHeld => ?_)
        clear hK K
        try simp only [X0,X1,X2,X3,X4,X5,X6]
        refine wpAnyH_done (by kernel_rfl) ?_ _
        clear hHeld k7 k8 m2 n5 C7
        go_wp2_with fail
        have e1 := HST.out
        rw [if_neg h8,if_neg (by rw [hoks]; decide),if_neg hzz,if_neg (by rw [ev,hri]; decide)] at e1
        refine ⟨rfl,_,results_none rfl _ _ _,.inr ?_⟩
        rw [e1]
        exact ⟨rfl,rfl,_,_,by simp,HN.out⟩
     ·have hzb : num B (a+32) 8 > 0 := by have := hsb.2.2.2.2.1; omega
      clear hz
      have hzp : 0<(sgOf B a).sz := by omega
      go_upto_region 9 with (first | (go_at_call 79; refine c36.mono ?_; rintro e V4 ⟨rfl,hb4⟩) | fail)
      have HB4 : Hid (Below w.heap.size w V4) := HB3.out.trans (hb4.mono HB3.out.size)
      have HC4a : Hid (C4 V4 x (.int .u64 (num B (a+16) 8)) (.int .u32 (num B (a+4) 4)) (.slice .none 0 0) (.int .u64 (num B (a+40) 8))) := HC1.out.below hb4
      have c37 := newBytes_any (HRw.out.below HB4.out).fil hn a (sgOf B a).wh (sgOf B a).sz hzp (by have := hsb.2.2.2.1.2; omega) (by have := hsb.2.2.2.2.2; omega)
      rw [ez,ew] at c37
      clear c36 y0 y1 y2 y3 hb4
      go_wp2_with fail
      go_at_call 205
      refine c37.mono ?_
      intro e V5 h37
      rcases h37 with ⟨hlie,hu⟩ | ⟨hlie,v,rfl,hvo,hb5⟩
      ·obtain ⟨v,rfl,hu2⟩ := id hu
       have e1 := HST.out
       rw [if_neg h8,if_neg (by rw [hoks]; decide),if_pos ⟨hzp,by omega⟩] at e1
       refine ⟨rfl,.inl ?_⟩
       rw [e1]
       exact ⟨by simp,hu.x (HRw.out.be.trans (HB4.out.mono HRw.out.be.size))⟩
      ·have hzz : ¬ (0<(sgOf B a).sz∧n<(sgOf B a).wh+(sgOf B a).sz) := by omega
       have hgd : Gd (sgOf B a) := ok1_gd hoks hsb.1.1 (by omega)
       obtain ⟨dq,dc,rfl,_⟩ := own_form hvo
       have HC5a : Hid (C4 V5 x (.int .u64 (num B (a+16) 8)) (.int .u32 (num B (a+4) 4)) (.slice .none 0 0) (.int .u64 (num B (a+40) 8))) := HC4a.out.below hb5
       have y2 := HC5a.out.c
       have z2 := HC5a.out.f 2
       have hx4 : x<V4.heap.size := lt_of_cell (x:=⟨x,0,.none⟩) HC4a.out.a
       have HC : Hid (C4 (V5.setCell ⟨x,2,.none⟩ (.slice dq (sgOf B a).sz dc)) x (.int .u64 (num B (a+16) 8)) (.int .u32 (num B (a+4) 4)) (.slice dq (sgOf B a).sz dc) (.int .u64 (num B (a+40) 8))) := HC5a.out.setc _
       have HBt : Hid (Below w.heap.size w (V5.setCell ⟨x,2,.none⟩ (.slice dq (sgOf B a).sz dc))) := (HB4.out.trans (hb5.mono HB4.out.size)).setCell (p:=⟨x,2,.none⟩) HX.out.2.2 _
       have HDat : Hid ((V5.setCell ⟨x,2,.none⟩ (.slice dq (sgOf B a).sz dc)).ownsRow (rb+1) 5 1 (.slice dq (sgOf B a).sz dc) (sgOf B a).sz (by8 (byt B (sgOf B a)))) := own_base (ownsRow_setCell_below hvo (a:=⟨x,2,.none⟩) hx4 _) (Nat.le_trans HRw.out.hx HB4.out.size)
       clear hvo hb5
       go_upto_region 10 with fail
       clear y2 z2
       generalize V5.setCell ⟨x,2,.none⟩ (.slice dq (sgOf B a).sz dc)=V6 at *
       have HR3 : Hid (Rdr W0 V6.drew rb rs b o n c B E (.slice q E.length cs)) := (HRw.out.below HBt.out).below ((Below.refl _ _).drew)
       have HC3 : Hid (C4 V6.drew x (.int .u64 (num B (a+16) 8)) (.int .u32 (num B (a+4) 4)) (.slice dq (sgOf B a).sz dc) (.int .u64 (num B (a+40) 8))) := HC.out.below ((Below.refl _ _).drew)
       have kT : V6.drew.cell? ⟨rb,1,.none⟩=some (.slice q E.length cs)∧(V6.drew.cell? ⟨x,0,.none⟩=some (.int .u64 (num B (a+16) 8))∧V6.drew.cell? ⟨x,1,.none⟩=some (.int .u32 (num B (a+4) 4)))∧V6.drew.cell? ⟨x,2,.none⟩=some (.slice dq (sgOf B a).sz dc)∧V6.drew.cell? ⟨x,3,.none⟩=some (.int .u64 (num B (a+40) 8)) := ⟨HR3.out.c1,⟨⟨HC3.out.a,HC3.out.b⟩,HC3.out.c,HC3.out.d⟩⟩
       go_upto_region 10 with fail
       refine wp_region_held_drew (S:=fun U2 => U2.cell? ⟨rb,1,.none⟩=some (.slice q E.length cs)∧(U2.cell? ⟨x,0,.none⟩=some (.int .u64 (num B (a+16) 8))∧U2.cell? ⟨x,1,.none⟩=some (.int .u32 (num B (a+4) 4)))∧U2.cell? ⟨x,2,.none⟩=some (.slice dq (sgOf B a).sz dc)∧U2.cell? ⟨x,3,.none⟩=some (.int .u64 (num B (a+40) 8))) (by kernel_rfl) kT (fun hHeld => ?_)
       refine aT 0 (.pointer (some ⟨rb,0,.none⟩)) rfl ?_
       simp only [X0,X1,X2,X3,X4,X5,X6]
       refine aT 1 (.pointer (some ⟨rb,0,.none⟩)) rfl ?_
       simp only [X0,X1,X2,X3,X4,X5,X6]
       refine aT 2 (.pointer (some ⟨rb,1,.none⟩)) rfl ?_
       simp only [X0,X1,X2,X3,X4,X5,X6]
       refine aT 3 (.slice q E.length cs) rfl ?_
       simp only [X0,X1,X2,X3,X4,X5,X6]
       refine aT 4 (.agg #[(.int .u64 (num B (a+16) 8)),(.int .u32 (num B (a+4) 4)),(.slice dq (sgOf B a).sz dc),(.int .u64 (num B (a+40) 8))]) rfl ?_
       simp only [X0,X1,X2,X3,X4,X5,X6]
       refine wpAnyH_ready (rs:=[5]) (by kernel_rfl) (by simp) ?_
       refine AllReadyH.cons rfl (fun K hK => ?_) AllReadyH.nil
       go_simp
       go_at_call 80
       refine (rises_any HR3.out.sg HR3.out.ln _ _ _ _ _ _).mono ?_
       rintro e Z1 ⟨rfl,hbZ⟩
       have HR4 : Hid (Rdr W0 Z1 rb rs b o n c B E (.slice q E.length cs)) := HR3.out.below hbZ
       have HC4 : Hid (C4 Z1 x (.int .u64 (num B (a+16) 8)) (.int .u32 (num B (a+4) 4)) (.slice dq (sgOf B a).sz dc) (.int .u64 (num B (a+40) 8))) := HC3.out.below hbZ
       have HD4 : Hid (Z1.ownsRow (rb+1) 5 1 (.slice dq (sgOf B a).sz dc) (sgOf B a).sz (by8 (byt B (sgOf B a)))) := owns_below (owns_below HDat.out ((Below.refl _ _).drew)) hbZ
       have kU : Z1.cell? ⟨rb,1,.none⟩=some (.slice q E.length cs)∧(Z1.cell? ⟨x,0,.none⟩=some (.int .u64 (num B (a+16) 8))∧Z1.cell? ⟨x,1,.none⟩=some (.int .u32 (num B (a+4) 4)))∧Z1.cell? ⟨x,2,.none⟩=some (.slice dq (sgOf B a).sz dc)∧Z1.cell? ⟨x,3,.none⟩=some (.int .u64 (num B (a+40) 8)) := ⟨HR4.out.c1,⟨⟨HC4.out.a,HC4.out.b⟩,HC4.out.c,HC4.out.d⟩⟩
       clear hbZ
       refine hK.out _ _ kU (fun hHeld => ?_)
       clear hK K
       try simp only [X0,X1,X2,X3,X4,X5,X6]
       have ev : (sgOf B a).va=num B (a+16) 8 := rfl
       cases hri : ris (E.map (·.1)) (num B (a+16) 8) with
       | false =>
        refine aT 6 (.bool true) rfl ?_
        simp only [X0,X1,X2,X3,X4,X5,X6]
        refine wpAnyH_done (by kernel_rfl) ?_ _
        clear hHeld kT kU
        go_wp2_with (first | (go_at_call 175; refine (giveUp_any _ _ _).mono ?_; intro e w0 hu; obtain ⟨v,rfl,hu2⟩ := id hu) | fail)
        have e1 := HST.out
        rw [if_neg h8,if_neg (by rw [hoks]; decide),if_neg hzz,if_pos (by rw [ev,hri])] at e1
        refine ⟨rfl,.inl ?_⟩
        rw [e1]
        exact ⟨by simp,hu.x HR4.out.be⟩
       | true =>
        refine aT 6 (.bool false) rfl ?_
        simp only [X0,X1,X2,X3,X4,X5,X6]
        refine wpAnyH_done (by kernel_rfl) ?_ _
        clear hHeld kT kU HR3 HC3
        obtain ⟨j1,hk0,hkz,hk1,hk2⟩ := info59
        have HR5 : Hid (Rdr W0 Z1.drew rb rs b o n c B E (.slice q E.length cs)) := HR4.out.below ((Below.refl _ _).drew)
        have HC5 : Hid (C4 Z1.drew x (.int .u64 (num B (a+16) 8)) (.int .u32 (num B (a+4) 4)) (.slice dq (sgOf B a).sz dc) (.int .u64 (num B (a+40) 8))) := HC4.out.below ((Below.refl _ _).drew)
        have HD5 : Hid (Z1.drew.ownsRow (rb+1) 5 1 (.slice dq (sgOf B a).sz dc) (sgOf B a).sz (by8 (byt B (sgOf B a)))) := owns_below HD4.out ((Below.refl _ _).drew)
        have k0 : (Z1.drew.cell? ⟨x,0,.none⟩=some (.int .u64 (num B (a+16) 8))∧Z1.drew.cell? ⟨x,1,.none⟩=some (.int .u32 (num B (a+4) 4)))∧Z1.drew.cell? ⟨x,2,.none⟩=some (.slice dq (sgOf B a).sz dc)∧Z1.drew.cell? ⟨x,3,.none⟩=some (.int .u64 (num B (a+40) 8)) := ⟨⟨HC5.out.a,HC5.out.b⟩,HC5.out.c,HC5.out.d⟩
        have kA : ((Z1.drew.alloc (.cells #[(.int .u64 (num B (a+16) 8)),(.int .u32 (num B (a+4) 4)),(.slice dq (sgOf B a).sz dc),(.int .u64 (num B (a+40) 8))] 38)).cell? ⟨x,0,.none⟩=some (.int .u64 (num B (a+16) 8))∧(Z1.drew.alloc (.cells #[(.int .u64 (num B (a+16) 8)),(.int .u32 (num B (a+4) 4)),(.slice dq (sgOf B a).sz dc),(.int .u64 (num B (a+40) 8))] 38)).cell? ⟨x,1,.none⟩=some (.int .u32 (num B (a+4) 4)))∧(Z1.drew.alloc (.cells #[(.int .u64 (num B (a+16) 8)),(.int .u32 (num B (a+4) 4)),(.slice dq (sgOf B a).sz dc),(.int .u64 (num B (a+40) 8))] 38)).cell? ⟨x,2,.none⟩=some (.slice dq (sgOf B a).sz dc)∧(Z1.drew.alloc (.cells #[(.int .u64 (num B (a+16) 8)),(.int .u32 (num B (a+4) 4)),(.slice dq (sgOf B a).sz dc),(.int .u64 (num B (a+40) 8))] 38)).cell? ⟨x,3,.none⟩=some (.int .u64 (num B (a+40) 8)) := ⟨⟨(HC5.out.below ((Below.refl _ _).alloc (Nat.le_refl _) (.cells #[(.int .u64 (num B (a+16) 8)),(.int .u32 (num B (a+4) 4)),(.slice dq (sgOf B a).sz dc),(.int .u64 (num B (a+40) 8))] 38))).a,(HC5.out.below ((Below.refl _ _).alloc (Nat.le_refl _) (.cells #[(.int .u64 (num B (a+16) 8)),(.int .u32 (num B (a+4) 4)),(.slice dq (sgOf B a).sz dc),(.int .u64 (num B (a+40) 8))] 38))).b⟩,(HC5.out.below ((Below.refl _ _).alloc (Nat.le_refl _) (.cells #[(.int .u64 (num B (a+16) 8)),(.int .u32 (num B (a+4) 4)),(.slice dq (sgOf B a).sz dc),(.int .u64 (num B (a+40) 8))] 38))).c,(HC5.out.below ((Below.refl _ _).alloc (Nat.le_refl _) (.cells #[(.int .u64 (num B (a+16) 8)),(.int .u32 (num B (a+4) 4)),(.slice dq (sgOf B a).sz dc),(.int .u64 (num B (a+40) 8))] 38))).d⟩
        have c1a := HR5.out.c1
        have c1c : (Z1.alloc (.cells #[(.int .u64 (num B (a+16) 8)),(.int .u32 (num B (a+4) 4)),(.slice dq (sgOf B a).sz dc),(.int .u64 (num B (a+40) 8))] 38)).cell? ⟨rb,1,.none⟩=some (.slice q E.length cs) := (HR4.out.below ((Below.refl _ _).alloc (Nat.le_refl _) (.cells #[(.int .u64 (num B (a+16) 8)),(.int .u32 (num B (a+4) 4)),(.slice dq (sgOf B a).sz dc),(.int .u64 (num B (a+40) 8))] 38))).c1
        have hsz9 : rb+1≤(Z1.drew.alloc (.cells #[(.int .u64 (num B (a+16) 8)),(.int .u32 (num B (a+4) 4)),(.slice dq (sgOf B a).sz dc),(.int .u64 (num B (a+40) 8))] 38)).heap.size := Nat.le_trans HR5.out.hx ((Below.refl Z1.drew.heap.size Z1.drew).alloc (Nat.le_refl _) _).size
        have c1b := (HR5.out.below ((Below.refl _ _).alloc (Nat.le_refl _) (.cells #[(.int .u64 (num B (a+16) 8)),(.int .u32 (num B (a+4) 4)),(.slice dq (sgOf B a).sz dc),(.int .u64 (num B (a+40) 8))] 38))).c1
        have hbx : some x≠Value.ownBlock (.slice q E.length cs) := fun e => by
         have h1 := (HRw.out.sg.own.lt _ e.symm).2
         have h2 := HX.out.2.2
         omega
        go_upto_region 12 with fail
        refine wp_region_held_drew (S:=fun U2 => (U2.cell? ⟨x,0,.none⟩=some (.int .u64 (num B (a+16) 8))∧U2.cell? ⟨x,1,.none⟩=some (.int .u32 (num B (a+4) 4)))∧U2.cell? ⟨x,2,.none⟩=some (.slice dq (sgOf B a).sz dc)∧U2.cell? ⟨x,3,.none⟩=some (.int .u64 (num B (a+40) 8))) (by kernel_rfl) k0 (fun hHeld => ?_)
        refine aT 0 (.pointer (some ⟨rb,0,.none⟩)) rfl ?_
        simp only [X0,X1,X2,X3,X4,X5,X6]
        refine aT 1 (.pointer (some ⟨rb,0,.none⟩)) rfl ?_
        simp only [X0,X1,X2,X3,X4,X5,X6]
        refine aT 2 (.pointer (some ⟨rb,0,.none⟩)) rfl ?_
        simp only [X0,X1,X2,X3,X4,X5,X6]
        refine aT 3 (.pointer (some ⟨rb,1,.none⟩)) rfl ?_
        simp only [X0,X1,X2,X3,X4,X5,X6]
        refine aT 5 (.agg #[(.int .u64 (num B (a+16) 8)),(.int .u32 (num B (a+4) 4)),(.slice dq (sgOf B a).sz dc),(.int .u64 (num B (a+40) 8))]) rfl ?_
        simp only [X0,X1,X2,X3,X4,X5,X6]
        refine wpAnyH_ready (rs:=[4,6]) (by kernel_rfl) (by simp) ?_
        refine AllReadyH.cons rfl (fun K hK => ?_) (AllReadyH.cons rfl (fun K hK => ?_) AllReadyH.nil)
        ·
         go_simp
         refine hK.out _ _ k0 (fun hHeld => ?_)
         clear hK K
         try simp only [X0,X1,X2,X3,X4,X5,X6]
         refine wpAnyH_ready (rs:=[6]) (by kernel_rfl) (by simp) ?_
         refine AllReadyH.cons rfl (fun K hK => ?_) AllReadyH.nil
         go_simp
         refine hK.out _ _ kA (fun hHeld => ?_)
         clear hK K
         try simp only [X0,X1,X2,X3,X4,X5,X6]
         clear c1a c1b c1c
         refine wpAnyH_ready (rs:=[7]) (by kernel_rfl) (by simp) ?_
         refine AllReadyH.cons rfl (fun K hK => ?_) AllReadyH.nil
         refine step_append_at rfl (.tmp 79) (.tmp 81) 39 rfl (rb+1) 38 j1 (.agg #[.int .u64 0,.int .u32 0,.slice .none 0 0,.int .u64 0]) 4 48 Tryz.underlying39 hk0 hkz hk1 hk2 rfl (by decide) (.slice q E.length cs) E.length (flatE E) (by simp [Act.eval,Act.put]) (HR5.out.sg.own.alloc _) ⟨Z1.heap.size,0,.none⟩ 1 1 [(.int .u64 (num B (a+16) 8)),(.int .u32 (num B (a+4) 4)),(.slice dq (sgOf B a).sz dc),(.int .u64 (num B (a+40) 8))] (by simp [Act.eval,Act.put]) rfl (cell4_new Z1.drew _ _ _ _ _) (by simp [Value.oneCell']) (by unfold maxLen; omega) (by omega) hsz9 ?_
         intro v' w5 hown5 hgr5 hat5
         obtain ⟨gr,cap1,rfl⟩ := ownsRow_succ hown5
         obtain ⟨m2,n5,hn5⟩ := HR5.out.push (g:=sgOf B a) (by omega) HD5.out hgd hown5 hgr5
         have hxw : x≠rb := by
          have h1 := HX.out.2.2
          have h2 := HRw.out.hx
          omega
         have HN : Hid (Rdr W0 (w5.setCell ⟨rb,1,.none⟩ (.slice (some ⟨gr,0,.none⟩) (E.length+1) cap1)) rb rs b o n c B (E ++ [(sgOf B a,(.slice dq (sgOf B a).sz dc))]) (.slice (some ⟨gr,0,.none⟩) (E.length+1) cap1)) := hn5
         have C7 : C4 w5 x (.int .u64 (num B (a+16) 8)) (.int .u32 (num B (a+4) 4)) (.slice dq (sgOf B a).sz dc) (.int .u64 (num B (a+40) 8)) := (HC5.out.below ((Below.refl _ _).alloc (Nat.le_refl _) _)).grown hgr5 hbx
         have k7 : (w5.cell? ⟨x,0,.none⟩=some (.int .u64 (num B (a+16) 8))∧w5.cell? ⟨x,1,.none⟩=some (.int .u32 (num B (a+4) 4)))∧w5.cell? ⟨x,2,.none⟩=some (.slice dq (sgOf B a).sz dc)∧w5.cell? ⟨x,3,.none⟩=some (.int .u64 (num B (a+40) 8)) := ⟨⟨C7.a,C7.b⟩,C7.c,C7.d⟩
         have k8 : ((w5.setCell ⟨rb,1,.none⟩ (.slice (some ⟨gr,0,.none⟩) (E.length+1) cap1)).cell? ⟨x,0,.none⟩=some (.int .u64 (num B (a+16) 8))∧(w5.setCell ⟨rb,1,.none⟩ (.slice (some ⟨gr,0,.none⟩) (E.length+1) cap1)).cell? ⟨x,1,.none⟩=some (.int .u32 (num B (a+4) 4)))∧(w5.setCell ⟨rb,1,.none⟩ (.slice (some ⟨gr,0,.none⟩) (E.length+1) cap1)).cell? ⟨x,2,.none⟩=some (.slice dq (sgOf B a).sz dc)∧(w5.setCell ⟨rb,1,.none⟩ (.slice (some ⟨gr,0,.none⟩) (E.length+1) cap1)).cell? ⟨x,3,.none⟩=some (.int .u64 (num B (a+40) 8)) := by
          refine ⟨⟨?_,?_⟩,?_,?_⟩
          ·rw [World.cell?_setCell_other _ _ _ _ (by simp only [ne_eq,Addr.mk.injEq,not_and]; intro e; omega)]; exact C7.a
          ·rw [World.cell?_setCell_other _ _ _ _ (by simp only [ne_eq,Addr.mk.injEq,not_and]; intro e; omega)]; exact C7.b
          ·rw [World.cell?_setCell_other _ _ _ _ (by simp only [ne_eq,Addr.mk.injEq,not_and]; intro e; omega)]; exact C7.c
          ·rw [World.cell?_setCell_other _ _ _ _ (by simp only [ne_eq,Addr.mk.injEq,not_and]; intro e; omega)]; exact C7.d
         clear hown5 hgr5 hat5 hn5 kA k0
         refine hK.out _ _ k7 (fun hHeld => ?_)
         clear hK K
         try simp only [X0,X1,X2,X3,X4,X5,X6]
         refine aT 8 (.pointer (some ⟨rb,0,.none⟩)) rfl ?_
         simp only [X0,X1,X2,X3,X4,X5,X6]
         refine aT 9 (.pointer (some ⟨rb,1,.none⟩)) rfl ?_
         simp only [X0,X1,X2,X3,X4,X5,X6]
         refine wpAnyH_ready (rs:=[10]) (by kernel_rfl) (by simp) ?_
         refine AllReadyH.cons rfl (fun K hK => ?_) AllReadyH.nil
         go_simp
         refine hK.out _ _ k8 (fun hHeld => ?_)
         clear hK K
         try simp only [X0,X1,X2,X3,X4,X5,X6]
         refine wpAnyH_done (by kernel_rfl) ?_ _
         clear hHeld k7 k8 m2 n5 C7
         go_wp2_with fail
         have e1 := HST.out
         rw [if_neg h8,if_neg (by rw [hoks]; decide),if_neg hzz,if_neg (by rw [ev,hri]; decide)] at e1
         refine ⟨rfl,_,results_none rfl _ _ _,.inr ?_⟩
         rw [e1]
         exact ⟨rfl,rfl,_,_,by simp,HN.out⟩
        ·
         go_simp
         refine hK.out _ _ kA (fun hHeld => ?_)
         clear hK K
         try simp only [X0,X1,X2,X3,X4,X5,X6]
         refine wpAnyH_ready (rs:=[4]) (by kernel_rfl) (by simp) ?_
         refine AllReadyH.cons rfl (fun K hK => ?_) AllReadyH.nil
         go_simp
         refine hK.out _ _ kA (fun hHeld => ?_)
         clear hK K
         try simp only [X0,X1,X2,X3,X4,X5,X6]
         clear c1a c1b c1c
         refine wpAnyH_ready (rs:=[7]) (by kernel_rfl) (by simp) ?_
         refine AllReadyH.cons rfl (fun K hK => ?_) AllReadyH.nil
         refine step_append_at rfl (.tmp 79) (.tmp 81) 39 rfl (rb+1) 38 j1 (.agg #[.int .u64 0,.int .u32 0,.slice .none 0 0,.int .u64 0]) 4 48 Tryz.underlying39 hk0 hkz hk1 hk2 rfl (by decide) (.slice q E.length cs) E.length (flatE E) (by simp [Act.eval,Act.put]) (HR5.out.sg.own.alloc _) ⟨Z1.heap.size,0,.none⟩ 1 1 [(.int .u64 (num B (a+16) 8)),(.int .u32 (num B (a+4) 4)),(.slice dq (sgOf B a).sz dc),(.int .u64 (num B (a+40) 8))] (by simp [Act.eval,Act.put]) rfl (cell4_new Z1.drew _ _ _ _ _) (by simp [Value.oneCell']) (by unfold maxLen; omega) (by omega) hsz9 ?_
         intro v' w5 hown5 hgr5 hat5
         obtain ⟨gr,cap1,rfl⟩ := ownsRow_succ hown5
         obtain ⟨m2,n5,hn5⟩ := HR5.out.push (g:=sgOf B a) (by omega) HD5.out hgd hown5 hgr5
         have hxw : x≠rb := by
          have h1 := HX.out.2.2
          have h2 := HRw.out.hx
          omega
         have HN : Hid (Rdr W0 (w5.setCell ⟨rb,1,.none⟩ (.slice (some ⟨gr,0,.none⟩) (E.length+1) cap1)) rb rs b o n c B (E ++ [(sgOf B a,(.slice dq (sgOf B a).sz dc))]) (.slice (some ⟨gr,0,.none⟩) (E.length+1) cap1)) := hn5
         have C7 : C4 w5 x (.int .u64 (num B (a+16) 8)) (.int .u32 (num B (a+4) 4)) (.slice dq (sgOf B a).sz dc) (.int .u64 (num B (a+40) 8)) := (HC5.out.below ((Below.refl _ _).alloc (Nat.le_refl _) _)).grown hgr5 hbx
         have k7 : (w5.cell? ⟨x,0,.none⟩=some (.int .u64 (num B (a+16) 8))∧w5.cell? ⟨x,1,.none⟩=some (.int .u32 (num B (a+4) 4)))∧w5.cell? ⟨x,2,.none⟩=some (.slice dq (sgOf B a).sz dc)∧w5.cell? ⟨x,3,.none⟩=some (.int .u64 (num B (a+40) 8)) := ⟨⟨C7.a,C7.b⟩,C7.c,C7.d⟩
         have k8 : ((w5.setCell ⟨rb,1,.none⟩ (.slice (some ⟨gr,0,.none⟩) (E.length+1) cap1)).cell? ⟨x,0,.none⟩=some (.int .u64 (num B (a+16) 8))∧(w5.setCell ⟨rb,1,.none⟩ (.slice (some ⟨gr,0,.none⟩) (E.length+1) cap1)).cell? ⟨x,1,.none⟩=some (.int .u32 (num B (a+4) 4)))∧(w5.setCell ⟨rb,1,.none⟩ (.slice (some ⟨gr,0,.none⟩) (E.length+1) cap1)).cell? ⟨x,2,.none⟩=some (.slice dq (sgOf B a).sz dc)∧(w5.setCell ⟨rb,1,.none⟩ (.slice (some ⟨gr,0,.none⟩) (E.length+1) cap1)).cell? ⟨x,3,.none⟩=some (.int .u64 (num B (a+40) 8)) := by
          refine ⟨⟨?_,?_⟩,?_,?_⟩
          ·rw [World.cell?_setCell_other _ _ _ _ (by simp only [ne_eq,Addr.mk.injEq,not_and]; intro e; omega)]; exact C7.a
          ·rw [World.cell?_setCell_other _ _ _ _ (by simp only [ne_eq,Addr.mk.injEq,not_and]; intro e; omega)]; exact C7.b
          ·rw [World.cell?_setCell_other _ _ _ _ (by simp only [ne_eq,Addr.mk.injEq,not_and]; intro e; omega)]; exact C7.c
          ·rw [World.cell?_setCell_other _ _ _ _ (by simp only [ne_eq,Addr.mk.injEq,not_and]; intro e; omega)]; exact C7.d
         clear hown5 hgr5 hat5 hn5 kA k0
         refine hK.out _ _ k7 (fun hHeld => ?_)
         clear hK K
         try simp only [X0,X1,X2,X3,X4,X5,X6]
         refine aT 8 (.pointer (some ⟨rb,0,.none⟩)) rfl ?_
         simp only [X0,X1,X2,X3,X4,X5,X6]
         refine aT 9 (.pointer (some ⟨rb,1,.none⟩)) rfl ?_
         simp only [X0,X1,X2,X3,X4,X5,X6]
         refine wpAnyH_ready (rs:=[10]) (by kernel_rfl) (by simp) ?_
         refine AllReadyH.cons rfl (fun K hK => ?_) AllReadyH.nil
         go_simp
         refine hK.out _ _ k8 (fun hHeld => ?_)
         clear hK K
         try simp only [X0,X1,X2,X3,X4,X5,X6]
         refine wpAnyH_done (by kernel_rfl) ?_ _
         clear hHeld k7 k8 m2 n5 C7
         go_wp2_with fail
         have e1 := HST.out
         rw [if_neg h8,if_neg (by rw [hoks]; decide),if_neg hzz,if_neg (by rw [ev,hri]; decide)] at e1
         refine ⟨rfl,_,results_none rfl _ _ _,.inr ?_⟩
         rw [e1]
         exact ⟨rfl,rfl,_,_,by simp,HN.out⟩
 ·have htb : (num B a 4 != 1)=true := by simpa using ht
  refine aT 7 (.bool true) rfl ?_
  simp only [X0,X1,X2,X3,X4,X5,X6]
  refine wpAnyH_done (by kernel_rfl) ?_ _
  have hst : stp n B (E.map (·.1)) a=(0,E.map (·.1)) := by
   unfold stp
   rw [if_pos (by simpa using ht)]
  have HR1 : Hid (Rdr W0 V1 rb rs b o n c B E (.slice q E.length cs)) := HRw.out.below b_V1
  clear hHeld kS k1
  go_wp2_with fail
  refine bodyPost_ret (results_none rfl _ _ _) rfl ?_
  refine .inr ?_
  rw [hst]
  exact ⟨rfl,rfl,E,_,rfl,HR1.out⟩
end
end Go.Proofs.YtabnipbdbnmmpaaGreatDoor
