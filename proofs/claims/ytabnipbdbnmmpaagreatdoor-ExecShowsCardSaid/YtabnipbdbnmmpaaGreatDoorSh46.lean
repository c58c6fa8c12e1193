import Derived.Test.YtabnipbdbnmmpaaGreatDoorSh01
import Derived.Test.YtabnipbdbnmmpaaGreatDoorSh43
import Derived.Test.YtabnipbdbnmmpaaGreatDoorSh45
set_option linter.unusedVariables false
set_option linter.unusedSimpArgs false
namespace Go.Proofs.YtabnipbdbnmmpaaGreatDoor
section
open Go.RowKit
set_option maxHeartbeats 1000000 in
theorem prog_nil {w:World} {rb c:Nat} {fp:Option Addr} (h:w.cell? ⟨rb,0,.none⟩=some (.slice fp 0 c)) : Calls Tryz.prog 137 #[.pointer (some ⟨rb,0,.none⟩)] w fun e w' => Up w 0 140 e w' := by
 have b1 : Below w.heap.size w (w.alloc (.cells #[.int .u64 0,.slice .none 0 0] 41)) := (Below.refl _ _).alloc (Nat.le_refl _) _
 have h1 : (w.alloc (.cells #[.int .u64 0,.slice .none 0 0] 41)).cell? ⟨rb,0,.none⟩=some (.slice fp 0 c) := (b1.cell (lt_of_cell h)).trans h
 have HB : Hid (Below w.heap.size w (w.alloc (.cells #[.int .u64 0,.slice .none 0 0] 41))∧(w.alloc (.cells #[.int .u64 0,.slice .none 0 0] 41)).cell? ⟨rb,0,.none⟩=some (.slice fp 0 c)) := ⟨b1,h1⟩
 clear b1 h1
 go_enter Tryz.func137,Tryz.ntmps137
 go_wp2_with fail
 generalize hRB : w.heap.size=rs at *
 generalize w.alloc (.cells #[.int .u64 0,.slice .none 0 0] 41)=W1 at *
 refine (length_lo rb 0 c _ W1 HB.out.2 (by omega)).mono ?_
 intro e w0 hu
 obtain ⟨v,rfl,hu2⟩ := id hu
 refine ⟨rfl,?_⟩
 exact hu.back (by rw [hRB]; exact HB.out.1)
set_option maxHeartbeats 1000000 in
theorem read_nil {W:World} {c:Nat} {fp:Option Addr} :
  Calls Tryz.prog 85 #[.slice fp 0 c] W fun e w' => ∃ v,e = .returned (.tuple #[.agg #[.int .u64 0,.slice .none 0 0],v])∧FaultIn w' 0 v 0 140∧Below W.heap.size W w' := by
 have hz0 : ((W.alloc (.cells #[.int .u64 0,.slice .none 0 0] 41)).alloc (.cells #[.nilIface] 33)).heap.size=W.heap.size+1+1 := by simp only [World.size_alloc]
 have HB0 : Hid (Below W.heap.size W ((W.alloc (.cells #[.int .u64 0,.slice .none 0 0] 41)).alloc (.cells #[.nilIface] 33))) := ((Below.refl _ _).alloc (Nat.le_refl _) _).alloc (by simp only [World.size_alloc]; omega) _
 have HE : Hid (((W.alloc (.cells #[.int .u64 0,.slice .none 0 0] 41)).alloc (.cells #[.nilIface] 33)).heap[W.heap.size]? = some (.cells #[.int .u64 0,.slice .none 0 0] 41 (0,0))∧((W.alloc (.cells #[.int .u64 0,.slice .none 0 0] 41)).alloc (.cells #[.nilIface] 33)).heap[W.heap.size+1]? = some (.cells #[.nilIface] 33 (0,0))) := by
  constructor
  ·rw [Below.heap_alloc _ _ _ (by simp only [World.size_alloc]; omega)]
   exact heap_new _ _
  ·have := heap_new (W.alloc (.cells #[.int .u64 0,.slice .none 0 0] 41)) (.cells #[.nilIface] 33)
   rwa [World.size_alloc] at this
 go_enter_defers Tryz.func85,Tryz.ntmps85
 go_wp2_with fail
 generalize hW0 : ((W.alloc (.cells #[.int .u64 0,.slice .none 0 0] 41)).alloc (.cells #[.nilIface] 33))=W0 at *
 clear hW0
 have hk : Below W0.heap.size W0 (W0.alloc (.cells #[.slice fp 0 c,.slice .none 0 0] 210)) := (Below.refl _ _).alloc (Nat.le_refl _) _
 have hp := (prog_nil (w:=W0.alloc (.cells #[.slice fp 0 c,.slice .none 0 0] 210)) (rb:=W0.heap.size) (c:=c) (fp:=fp) (World.cell?_alloc_at _ _ _ _ rfl)).mono fun e w' h => h.back hk
 rw [hz0] at hp
 refine hp.mono ?_
 clear hk hp
 intro e V hP
 obtain ⟨v,rfl,hf,hbV⟩ := hP
 ·obtain ⟨fb,_,hfl,rfl,f0,f1,f2⟩ := hf
  have q0 := (hbV.block W.heap.size (by omega)).trans HE.out.1
  have q1 := (hbV.block (W.heap.size+1) (by omega)).trans HE.out.2
  have r0 : V.cell? ⟨W.heap.size,0,.none⟩=some (.int .u64 0) := by simp [World.cell?,q0]
  have r1 : V.cell? ⟨W.heap.size,1,.none⟩=some (.slice .none 0 0) := by simp [World.cell?,q0]
  have r2 : V.cell? ⟨W.heap.size+1,0,.none⟩=some .nilIface := by simp [World.cell?,q1]
  have z0 : V.frozen? ⟨W.heap.size,0,.none⟩=false := by simp [World.frozen?,q0]
  have z1 : V.frozen? ⟨W.heap.size,1,.none⟩=false := by simp [World.frozen?,q0]
  have z2 : V.frozen? ⟨W.heap.size+1,0,.none⟩=false := by simp [World.frozen?,q1]
  refine leaves_cons (f:=136) (args:=#[.pointer (some ⟨W.heap.size,0,.none⟩),.pointer (some ⟨W.heap.size+1,0,.none⟩)]) (by simp) (by simp [go_sem]) ?_
  refine (catch_up W.heap.size (W.heap.size+1) (some ⟨fb,0,.none⟩) [] V _ _ _ r0 r1 r2 z0 z1 z2 (by omega)).mono ?_
  rintro e u' w'' ⟨rfl,rfl,rfl⟩
  have s0 : (((V.setCell ⟨W.heap.size,0,.none⟩ (.int .u64 0)).setCell ⟨W.heap.size,1,.none⟩ (.slice .none 0 0)).setCell ⟨W.heap.size+1,0,.none⟩ (.iface 86 (.pointer (some ⟨fb,0,.none⟩)))).cell? ⟨W.heap.size,0,.none⟩=some (.int .u64 0) := by
   rw [World.cell?_setCell_other _ _ _ _ (by simp),World.cell?_setCell_other _ _ _ _ (by simp)]
   exact World.cell?_setCell_same' _ _ _ (by rw [r0]; rfl)
  have s1 : (((V.setCell ⟨W.heap.size,0,.none⟩ (.int .u64 0)).setCell ⟨W.heap.size,1,.none⟩ (.slice .none 0 0)).setCell ⟨W.heap.size+1,0,.none⟩ (.iface 86 (.pointer (some ⟨fb,0,.none⟩)))).cell? ⟨W.heap.size,1,.none⟩=some (.slice .none 0 0) := by
   rw [World.cell?_setCell_other _ _ _ _ (by simp)]
   exact World.cell?_setCell_same' _ _ _ (by rw [World.cell?_setCell_other _ _ _ _ (by simp),r1]; rfl)
  have s2 : (((V.setCell ⟨W.heap.size,0,.none⟩ (.int .u64 0)).setCell ⟨W.heap.size,1,.none⟩ (.slice .none 0 0)).setCell ⟨W.heap.size+1,0,.none⟩ (.iface 86 (.pointer (some ⟨fb,0,.none⟩)))).cell? ⟨W.heap.size+1,0,.none⟩=some (.iface 86 (.pointer (some ⟨fb,0,.none⟩))) := World.cell?_setCell_same' _ _ _ (by rw [World.cell?_setCell_other _ _ _ _ (by simp),World.cell?_setCell_other _ _ _ _ (by simp),r2]; rfl)
  have bq : Below W.heap.size W (((V.setCell ⟨W.heap.size,0,.none⟩ (.int .u64 0)).setCell ⟨W.heap.size,1,.none⟩ (.slice .none 0 0)).setCell ⟨W.heap.size+1,0,.none⟩ (.iface 86 (.pointer (some ⟨fb,0,.none⟩)))) := (((HB0.out.trans (hbV.mono HB0.out.size)).setCell (p:=⟨W.heap.size,0,.none⟩) (Nat.le_refl _) _).setCell (p:=⟨W.heap.size,1,.none⟩) (Nat.le_refl _) _).setCell (p:=⟨W.heap.size+1,0,.none⟩) (Nat.le_succ _) _
  have hne : ∀ k : Nat,fb≠W.heap.size∧fb≠W.heap.size+1 := fun _ => by
   constructor
   ·intro e
    rw [e] at f0
    rw [r0] at f0
    cases f0
   ·intro e
    rw [e] at f0
    rw [r2] at f0
    cases f0
  have so : ∀ k : Nat,(((V.setCell ⟨W.heap.size,0,.none⟩ (.int .u64 0)).setCell ⟨W.heap.size,1,.none⟩ (.slice .none 0 0)).setCell ⟨W.heap.size+1,0,.none⟩ (.iface 86 (.pointer (some ⟨fb,0,.none⟩)))).cell? ⟨fb,k,.none⟩=V.cell? ⟨fb,k,.none⟩ := fun k => by
   have h9 := hne 0
   rw [World.cell?_setCell_other _ _ _ _ (by simp only [ne_eq,Addr.mk.injEq,not_and]; intro e; omega),World.cell?_setCell_other _ _ _ _ (by simp only [ne_eq,Addr.mk.injEq,not_and]; intro e; omega),World.cell?_setCell_other _ _ _ _ (by simp only [ne_eq,Addr.mk.injEq,not_and]; intro e; omega)]
  have hfl' : fb<(((V.setCell ⟨W.heap.size,0,.none⟩ (.int .u64 0)).setCell ⟨W.heap.size,1,.none⟩ (.slice .none 0 0)).setCell ⟨W.heap.size+1,0,.none⟩ (.iface 86 (.pointer (some ⟨fb,0,.none⟩)))).heap.size := lt_of_cell (x:=⟨fb,0,.none⟩) ((so 0).trans f0)
  have g0 := (so 0).trans f0
  have g1 := (so 1).trans f1
  have g2 := (so 2).trans f2
  generalize (((V.setCell ⟨W.heap.size,0,.none⟩ (.int .u64 0)).setCell ⟨W.heap.size,1,.none⟩ (.slice .none 0 0)).setCell ⟨W.heap.size+1,0,.none⟩ (.iface 86 (.pointer (some ⟨fb,0,.none⟩))))=W9 at *
  have l0 : W.heap.size<W9.heap.size := lt_of_cell (x:=⟨W.heap.size,0,.none⟩) s0
  have l1 : W.heap.size+1<W9.heap.size := lt_of_cell (x:=⟨W.heap.size+1,0,.none⟩) s2
  exact ⟨.tuple #[.agg #[.int .u64 0,.slice .none 0 0],.iface 86 (.pointer (some ⟨fb,0,.none⟩))],by simp [results,Tryz.results85,go_sem,s0,s1,s2,l0,l1],⟨_,rfl,⟨fb,Nat.zero_le _,hfl',rfl,g0,g1,g2⟩,bq⟩⟩
set_option maxRecDepth 10000 in
set_option maxHeartbeats 4000000 in
theorem planOf_nil {W:World} {fc:Nat} {fp:Option Addr} {p:Option Addr} {n c:Nat} {xs:List Bs} (hA:Arg W p n c xs) (S:List Sg) (en0:Int) (B0:Nat→Int) :
  Calls Tryz.prog 40 #[.slice fp 0 fc,.slice p n c] W (PlP W 140 S xs en0 B0) := by
 obtain ⟨W1,hW1⟩ : ∃ W1,W1=W.alloc (.cells #[.int .u64 0,.slice .none 0 0,.slice .none 0 0,.int .u64 0] 92) := ⟨_,rfl⟩
 have b1 : Below W.heap.size W W1 := by rw [hW1]; exact (Below.refl _ _).alloc (Nat.le_refl _) _
 have z1 : W1.heap.size=W.heap.size+1 := by rw [hW1]; simp
 have k1 : C4 W1 W.heap.size (.int .u64 0) (.slice .none 0 0) (.slice .none 0 0) (.int .u64 0) := by
  rw [hW1]
  exact C4.new _ _ _ _ _ _
 have cR := read_nil (W:=W1) (c:=fc) (fp:=fp)
 have HW : Hid (Below W.heap.size W W1∧C4 W1 W.heap.size (.int .u64 0) (.slice .none 0 0) (.slice .none 0 0) (.int .u64 0)∧Arg W p n c xs) := ⟨b1,k1,hA⟩
 have hlen : xs.length=n := hA.tex.1
 have hn1 : n≤c∧c≤9223372036854775807 := ⟨hA.tex.2.1,hA.tex.2.2.1⟩
 have hfew := hA.few
 have HLn : Hid (xs.length=n) := hlen
 clear hA b1 k1 hlen
 have h0 : (140:Int)≠0 := by decide
 go_enter Tryz.func40,Tryz.ntmps40
 go_upto_region 1 with fail
 rw [← hW1]
 clear hW1
 go_upto_region 2 with (go_at_call 85; refine cR.mono ?_; rintro _ w2 ⟨v,rfl,hv,b2⟩; obtain ⟨fb,rfl⟩ : ∃ fb,v = .iface 86 (.pointer (some ⟨fb,0,.none⟩)) := (by obtain ⟨fb,_,_,e,_⟩ := hv; exact ⟨fb,e⟩); have H2 : Hid (Below W.heap.size W w2∧C4 w2 W.heap.size (.int .u64 0) (.slice .none 0 0) (.slice .none 0 0) (.int .u64 0)) := ⟨HW.out.1.trans (b2.mono (by omega)),HW.out.2.1.below b2⟩; clear hv b2 cR)
 obtain ⟨w3,hw3⟩ : ∃ w3,w3=w2.alloc (.cells #[.int .u64 0,.slice .none 0 0] 41) := ⟨_,rfl⟩
 have b3 : Below w2.heap.size w2 w3 := by rw [hw3]; exact (Below.refl _ _).alloc (Nat.le_refl _) _
 have H3 : Hid (Below W.heap.size W w3∧C4 w3 W.heap.size (.int .u64 0) (.slice .none 0 0) (.slice .none 0 0) (.int .u64 0)) := ⟨H2.out.1.trans (b3.mono H2.out.1.size),H2.out.2.below b3⟩
 rw [← hw3]
 clear hw3 b3 H2
 have k0 := H3.out.2.a
 have k1 := H3.out.2.b
 have k2 := H3.out.2.c
 have k3 := H3.out.2.d
 have kf0 := H3.out.2.f 0
 have kf1 := H3.out.2.f 1
 have kf2 := H3.out.2.f 2
 have kf3 := H3.out.2.f 3
 go_wp2_with fail
 obtain ⟨s0,s1,s2,s3,_⟩ := H3.out.2.set (.int .u64 0) (.slice .none 0 0) (.slice .none 0 0) (.int .u64 0)
 refine bodyPost_ret (v:=.tuple #[.agg #[.int .u64 0,.slice .none 0 0,.slice .none 0 0,.int .u64 0],.int .i64 280]) (by simp [results,Tryz.results40,go_sem,s0,s1,s2,s3]) rfl ⟨?_,.inl ⟨?_,?_⟩⟩
 ·exact (((H3.out.1.setCell (Nat.le_refl _) _).setCell (Nat.le_refl _) _).setCell (Nat.le_refl _) _).setCell (Nat.le_refl _) _
 ·rw [dm_file h0]; decide
 ·rw [dm_file h0]
def Fp (W:World) (fp:Option Addr) (fn:Nat) (B:Nat→Int) : Prop := (∃ b o,fp=some ⟨b,o,.none⟩∧Row W b o fn B∧b<W.heap.size)∨fn=0
theorem planF_any {W:World} {fp:Option Addr} {fn fc:Nat} {B:Nat→Int} (hL:Laid W) (hF:Fp W fp fn B) (hB:∀ i,0≤B i∧B i<256) (hc:fn≤fc∧fc≤9223372036854775807) (ha hr:Int) (hH:Hd B ha hr)
  {p:Option Addr} {n c:Nat} {xs:List Bs} (hA:Arg W p n c xs) :
  Calls Tryz.prog 40 #[.slice fp fn fc,.slice p n c] W (PlP W (rdF fn B ha hr).1.2 (sgO fn B ha hr) xs (enO fn B ha hr) B) := by
 rcases hF with ⟨b,o,rfl,h1,h2⟩ | rfl
 ·exact planOf_any hL h1 h2 hB hc ha hr hH hA
 ·have : (rdF 0 B ha hr).1.2=140 := rfl
  rw [this]
  exact planOf_nil hA _ _ _
end
section
open Go.RowKit Go.Shelf Rg
theorem SpM_beside {ox:Rm.Oxt} {w:World} {s p b m N r P K:Nat} {M c:Nat→Int} (h:Rm.SpM ox w s p b m N r P K M c) (a:Addr) (v:Value) (ha:a.block≠p∧a.block≠b∧a.block≠m∧a.block≠s) : Rm.SpM ox (w.setCell a v) s p b m N r P K M c := by
 obtain ⟨B,L,F,lf,fr,h1,h2,h4,h5⟩ := h
 have hc : ∀ i,(w.setCell a v).cell? ⟨s,i,.none⟩=w.cell? ⟨s,i,.none⟩ := fun i => World.cell?_setCell_far _ _ _ _ ha.2.2.2
 exact ⟨B,L,F,lf,fr,⟨⟨(hc 0).trans h1.sp.c0,(hc 1).trans h1.sp.c1,(hc 2).trans h1.sp.c2,fun k => by rw [World.frozen?_setCell]; exact h1.sp.fr k⟩,h1.sz,h1.pm,h1.ram.beside a v (Ne.symm ha.1) (Ne.symm ha.2.1) (Ne.symm ha.2.2.1),h1.ne,h1.tab⟩,h2,h4,h5⟩
theorem startM (en sp:Int) (q dp:Option Addr) (n c dn dc:Nat) (w:World) : Calls Tryz.prog 45 #[.agg #[.int .u64 en,.slice q n c,.slice dp dn dc,.int .u64 sp]] w fun e w' => e = .returned (.agg #[.int .u64 en,.int .u64 sp,.int .u64 sp])∧Below w.heap.size w w' := by
 go_enter Tryz.func45,Tryz.ntmps45
 go_wp2_with fail
 refine bodyPost_ret (v:=.agg #[.int .u64 en,.int .u64 sp,.int .u64 sp]) (by simp [results,Tryz.results45,go_sem]) rfl ⟨rfl,?_⟩
 exact ((Below.refl _ _).alloc (Nat.le_refl _) _).alloc (by simp) _
def LdM (ox:Rm.Oxt) (W:World) (p b m N e n:Nat) (S:List Sg) (Bq:Nat→Int) (xs:List Bs) (en:Int) (E:Ending) (w':World) : Prop := ∃ s r Rp spn K,E = .returned (.tuple #[.pointer (some ⟨s,0,.none⟩),.agg #[.int .u64 en,.int .u64 (((e:Int)+1)*4096+(spn:Nat)),.int .u64 (((e:Int)+1)*4096+(spn:Nat))],.int .i64 0])∧Rm.Fra p b m W w'∧W.heap.size≤s ∧
 Rm.SpM ox w' s p b m N r (e+2) K (pgM Bq S e Rp) (Rm.upd (cS S) e 198)∧K=n∧(stx 4096 xs - 8*(xs.length+1)) / 16*16=(spn:Int)∧StkR (((e:Int)+1)*4096) xs Rp spn
set_option maxRecDepth 10000 in
set_option maxHeartbeats 4000000 in
theorem loadM {ox:Rm.Oxt} {W:World} {p b m N fb fo fn fc i ft:Nat} {Bm Bq:Nat→Int} {L1:List Nat} (hR:Rm.Ram W p b m N Bm (i :: L1)) (hox:ox.ft=ft ∧ ∀ f,ox.T f→f ∉ i :: L1 ∧ ∀ j,j<4096→Bm (f*4096+j)=ox.Z (f*4096+j)) (hft:1≤ft∧ft<N∧ft ∉ i :: L1) (hL:Laid W) (hL3:Laid3 W) (h3:2<p∧2<b∧2<m) (hF:Row W fb fo fn Bq) (hfb:fb<W.heap.size) (hB:∀ i,0≤Bq i∧Bq i<256) (hc:fn≤fc∧fc≤9223372036854775807)
  {ap:Option Addr} {an ac:Nat} {xs:List Bs} (hA:Arg W ap an ac xs) (ha hr:Int) (hH:Hd Bq ha hr) (hrd:(rdF fn Bq ha hr).1.2=0) (hdm:dmE 0 xs=0) {S:List Sg} (hS:sgO fn Bq ha hr=S) (en:Int) (hen:enO fn Bq ha hr=en) (e:Nat) (he:ePg S=(e:Int)) (he2:1≤e∧e+2≤4096) (hr6:rgP S (e:Int)=6) (hin:∀ x ∈ S,0≤x.va∧x.va+x.sz≤(e:Int)*4096) (hl:(e:Int)+6+((e:Int)+513) / 512≤(L1.length:Int)+1) :
  Calls Tryz.prog 11 #[.pointer (some ⟨p,0,.none⟩),.slice (some ⟨fb,fo,.none⟩) fn fc,.slice ap an ac,.int .u64 (Rm.ad ft),.int .u64 2147483648] W (LdM ox W p b m N e (L1.length+1) S Bq xs en) := by
 obtain ⟨W1,hW1⟩ : ∃ W1,W1=W.alloc (.cells #[.int .u64 0,.int .u64 0,.int .u64 0] 44) := ⟨_,rfl⟩
 have b1 : Below W.heap.size W W1 := by rw [hW1]; exact (Below.refl _ _).alloc (Nat.le_refl _) _
 have k0 : W1.cell? ⟨W.heap.size,0,.none⟩=some (.int .u64 0) := by rw [hW1]; simp
 have k1 : W1.cell? ⟨W.heap.size,1,.none⟩=some (.int .u64 0) := by rw [hW1]; simp
 have k2 : W1.cell? ⟨W.heap.size,2,.none⟩=some (.int .u64 0) := by rw [hW1]; simp
 have k4 : ∀ i,W1.frozen? ⟨W.heap.size,i,.none⟩=false := fun i => by rw [hW1]; exact World.frozen?_alloc_new _ _ _ i
 have hpw : p<W.heap.size∧b<W.heap.size∧m<W.heap.size := ⟨lt_of_cell hR.mem.c0,lt_of_cell (hR.mem.cb 0 (by have := hR.mem.n1; omega)),hR.mem.mlt⟩
 have cP := planOf_any (hL.below b1) (hF.keep b1) (Nat.lt_of_lt_of_le hfb b1.size) hB hc ha hr hH (hA.below b1)
 rw [hS,hrd,hen] at cP
 unfold PlP at cP
 rw [hdm] at cP
 have HOX : Hid (ox.ft=ft ∧ ∀ f,ox.T f→f ∉ i :: L1 ∧ ∀ j,j<4096→Bm (f*4096+j)=ox.Z (f*4096+j)) := hox
 have HIN : Hid (rgP S (e:Int)=6 ∧ ∀ x ∈ S,0≤x.va∧x.va+x.sz≤(e:Int)*4096) := ⟨hr6,hin⟩
 have HU : Hid (Rm.Ram W1 p b m N Bm (i :: L1)∧Below W.heap.size W W1∧(∀ i,W1.frozen? ⟨W.heap.size,i,.none⟩=false)∧Laid3 W1) := ⟨hR.below b1,b1,k4,hL3.below b1⟩
 have hfnc : fn≤fc∧fc≤9223372036854775807 := hc
 have hapc : an≤ac∧ac≤9223372036854775807 := ⟨hA.tex.2.1,hA.tex.2.2.1⟩
 clear hox hR hL hL3 hF hfb b1 k4 hS hrd hdm hen hB hH hA hr6 hin hc
 obtain ⟨x,hx⟩ : ∃ x,x=W.heap.size := ⟨_,rfl⟩
 have HX : Hid (x=W.heap.size) := hx
 go_enter Tryz.func11,Tryz.ntmps11
 go_upto_region 1 with fail
 rw [← hW1,← hx]
 rw [← hx] at k0 k1 k2
 clear hW1 hx
 go_upto_region 2 with (go_at_call 40; refine cP.mono ?_; rintro _ w2 ⟨b2,h2⟩; rcases h2 with ⟨h,_⟩ | ⟨_,X,q,cs,E,Bq,et,pq,pn,pc,sp,rfl,sg,hE,hl8,hS,hX,hPg,hBq,he0,rfl⟩; exact absurd rfl h; clear cP)
 subst he0
 obtain ⟨gp,Rp,rfl,rfl,rfl,hgp,hRp,hpg,spn,hsp,hspn,hstk⟩ := hPg
 have HSK : Hid (sp=((e:Int)+1)*4096+spn∧(stx 4096 xs - 8*(xs.length+1)) / 16*16=(spn:Int)∧StkR (((e:Int)+1)*4096) xs Rp spn) := by rw [he] at hsp hstk; exact ⟨hsp,hspn,hstk⟩
 clear hsp hspn hstk
 have hlE : E.length≤8 := hl8
 have hE0 : E ≠ [] := hE
 have HMS : Hid (E.map (·.1)=S) := hS
 have heE : ePg (E.map (·.1))=(e:Int) := by rw [hS]; exact he
 have HPl : Hid (Below W1.heap.size W1 w2∧Segs w2 X (.slice q E.length cs) E Bq∧True∧W1.heap.size≤X∧W1.heap.size≤gp∧(∀ i,0≤Rp i∧Rp i<256)∧(∀ i,i<4096→w2.cell? ⟨gp,i,.none⟩=some (.int .u8 (Rp i))) ∧ ∀ i,0≤Bq i∧Bq i<256) := ⟨b2,sg,trivial,hX,hgp,hRp,hpg,hBq⟩
 clear b2 sg hE hl8 hS hX hgp hRp hpg hBq
 obtain ⟨w3,hw3⟩ : ∃ w3,w3=w2.alloc (.cells #[.int .u64 et,.slice q E.length cs,.slice (some ⟨gp,0,.none⟩) 4096 4096,.int .u64 sp] 92) := ⟨_,rfl⟩
 have b3 : Below w2.heap.size w2 w3 := by rw [hw3]; exact (Below.refl _ _).alloc (Nat.le_refl _) _
 obtain ⟨Z,hZ⟩ : ∃ Z,Z=w2.heap.size := ⟨_,rfl⟩
 have kZ : Z4M w3 Z et q E.length cs gp sp := by rw [hw3,hZ]; exact ⟨by simp,by simp,by simp,by simp⟩
 have HZ : Hid (W1.heap.size≤Z) := by rw [hZ]; exact HPl.out.1.size
 rw [← hw3,← hZ]
 have B3 : Hid (Below w2.heap.size w2 w3∧Below W1.heap.size W1 w3) := ⟨b3,HPl.out.1.trans (b3.mono HPl.out.1.size)⟩
 clear hw3 hZ b3
 have hR3 := HU.out.1.below B3.out.2
 have n1 := hR3.mem.n1
 have c25 := Rm.frames_any hR3.mem
 have hN0 : ((N:Int) == 0)=false := by simp; omega
 have HR3 : Hid (Rm.Ram w3 p b m N Bm (i :: L1)) := hR3
 clear hR3
 go_upto_region 6 with (go_at_call 41; refine c25.mono ?_; rintro _ w4 ⟨rfl,e4⟩; obtain rfl : w3=w4 := e4.symm)
 have kS : Z4M w3.drew Z et q E.length cs gp sp := kZ
 obtain ⟨kd,hkd⟩ : ∃ kd : Int,(e:Int)+6+((e:Int)+513) / 512=kd := ⟨_,rfl⟩
 have hlt8 : ¬ ((L1.length:Int)+1<kd) := by omega
 refine wp_region_held_drew (S:=fun U => Z4M U Z et q E.length cs gp sp) (by kernel_rfl) kS (fun hHeld => ?_)
 refine nT 0 (.pointer (some ⟨p,0,.none⟩)) rfl ?_ (fun ww hSw => by (try dsimp only at hSw); go_simp)
 simp only [X0,X1,X2,X3,X4,X5,X6]
 refine nT 2 (.agg #[.int .u64 et,.slice q E.length cs,.slice (some ⟨gp,0,.none⟩) 4096 4096,.int .u64 sp]) rfl ?_ (fun ww hSw => by (try dsimp only at hSw); obtain ⟨q0,q1,q2,q3⟩ := hSw; go_simp)
 simp only [X0,X1,X2,X3,X4,X5,X6]
 have c10 := Rm.count_ram (HR3.out.below (Below.refl _ _).drew)
 rw [show (i :: L1).length=L1.length+1 from rfl] at c10
 refine wpAnyH_ready (rs:=[1]) (by kernel_rfl) (by simp) ?_
 refine AllReadyH.cons rfl (fun K hK => ?_) AllReadyH.nil
 go_simp
 go_at_call 15
 refine c10.mono ?_
 rintro _ w5 ⟨rfl,k5,rfl⟩
 refine hK.out _ _ kS (fun hHeld => ?_)
 clear hK K
 try simp only [X0,X1,X2,X3,X4,X5,X6]
 have B5 : Hid (Below w3.heap.size w3 (w3.drew.drewN k5)) := ⟨rfl,rfl,rfl,Nat.le_refl _,fun _ _ => rfl⟩
 generalize w3.drew.drewN k5=w5 at *
 have sg5 := (HPl.out.2.1.below B3.out.1).below B5.out
 have c26 := demandP_any sg5 hE0 hlE et sp (some ⟨gp,0,.none⟩) 4096 4096
 rw [heE,hkd] at c26
 clear sg5
 refine wpAnyH_ready (rs:=[3]) (by kernel_rfl) (by simp) ?_
 refine AllReadyH.cons rfl (fun K hK => ?_) AllReadyH.nil
 go_simp
 go_at_call 42
 refine c26.mono ?_
 rintro _ w6 ⟨rfl,b6⟩
 have B6 : Hid (Below w3.heap.size w3 w6) := B5.out.trans (b6.mono B5.out.size)
 have kS6 : Z4M w6 Z et q E.length cs gp sp := kZ.of (B6.out.block Z (lt_of_cell (x:=⟨Z,0,.none⟩) kZ.1))
 clear b6 c26
 refine hK.out _ _ kS6 (fun hHeld => ?_)
 clear hK K
 try simp only [X0,X1,X2,X3,X4,X5,X6]
 refine nT 4 (.bool false) rfl ?_ (fun ww hSw => by (try dsimp only at hSw); go_simp)
 simp only [X0,X1,X2,X3,X4,X5,X6]
 refine nT 5 (.bool false) rfl ?_ (fun ww hSw => by (try dsimp only at hSw); go_simp)
 simp only [X0,X1,X2,X3,X4,X5,X6]
 refine wpAnyH_done (by kernel_rfl) ?_ _
 have cN := Rm.spNew_sl (HR3.out.below B6.out) (by omega) ft hft (fun _ => 0) (cS (E.map (·.1)))
 go_upto_region 9 with (go_at_call 43; refine cN.mono ?_; rintro _ w7 ⟨s,rfl,hs7,hsp7,B7,L7,F7,lf7,hNT⟩; clear cN)
 have hsz6 : W1.heap.size≤w6.heap.size := Nat.le_trans B3.out.2.size B6.out.size
 have hxW1 : W.heap.size≤W1.heap.size := HU.out.2.1.size
 have hxlt : x<W1.heap.size := lt_of_cell k0
 have hXx := HX.out
 have hZ1 := HZ.out
 have hFr7 : Rm.Fra p b m w6 w7 := hNT.fra
 have kZ7 : Z4M w7 Z et q E.length cs gp sp := kS6.of (hFr7.block Z (lt_of_cell (x:=⟨Z,0,.none⟩) kS6.1) (by omega) (by omega) (by omega))
 have hB16 : Below W1.heap.size W1 w6 := B3.out.2.trans (B6.out.mono B3.out.2.size)
 have hB26 : Below w2.heap.size w2 w6 := B3.out.1.trans (B6.out.mono B3.out.1.size)
 have sg6 : Segs w6 X (.slice q E.length cs) E Bq := HPl.out.2.1.below hB26
 have hlen7 : L7.length+2=L1.length := hNT.len
 have hnd7 := Rm.SpL.nodes (P:=0) hNT.sl (by omega)
 rw [show Rm.ndP ((0:Nat) : Int)=3 from rfl] at hnd7
 have hSM : Rm.SpM ox w7 s p b m N i 0 (L1.length+1) (fun _ => 0) (cS (E.map (·.1))) := ⟨B7,L7,F7,lf7,fun _ => 0,⟨hsp7,by decide,by omega,hNT.ram,⟨by omega,by omega,by omega⟩,by rw [HOX.out.1]; exact hNT.sl⟩,fun a ha => by omega,fun f hf => by obtain ⟨g1,g2⟩ := HOX.out.2 f hf; obtain ⟨q1,q2,_,q4⟩ := hNT.oth f g1 (fun x e => by cases e) (fun _ h => by cases h); exact ⟨q1,q2,fun i hi => by omega,fun j hj => (q4 j hj).trans (g2 j hj)⟩,by omega⟩
 have hs77 : s<w7.heap.size := hsp7.lt
 have cI := layIntoM (ox:=ox) (w0:=w6) (w:=w7) (s:=s) (p:=p) (b:=b) (m:=m) (N:=N) (r:=i) (X:=X) (c:=cs) (q:=q) (gp:=gp) (E:=E) (Bq:=Bq) (Rp:=Rp) sg6 hE0 hlE (HU.out.2.2.2.below hB16) et sp (by have := HPl.out.2.2.2.1; omega) (by have := HPl.out.2.2.2.2.1; have h2 : gp<w2.heap.size := lt_of_cell (HPl.out.2.2.2.2.2.2.1 0 (by omega)); have := hB26.size; omega) HPl.out.2.2.2.2.2.1 (fun j hj => (hB26.cell (lt_of_cell (HPl.out.2.2.2.2.2.2.1 j hj))).trans (HPl.out.2.2.2.2.2.2.1 j hj)) h3 (by omega) hs7 HPl.out.2.2.2.2.2.2.2 e heE (by rw [HMS.out]; exact HIN.out.1) (fun x hx => HIN.out.2 x.1 (by rw [← HMS.out]; exact List.mem_map_of_mem hx)) he2 (L1.length+1) (by unfold Rm.ndP; rw [if_neg (by omega)]; omega) ⟨hFr7,hSM⟩ hs77
 have l0 := (hB16.cell (lt_of_cell k0)).trans k0
 have l1 := (hB16.cell (lt_of_cell k1)).trans k1
 have l2 := (hB16.cell (lt_of_cell k2)).trans k2
 have f0 : ∀ j v,W1.cell? ⟨x,j,.none⟩=some v→w6.frozen? ⟨x,j,.none⟩=false := fun j v h => (hB16.frozen (p:=⟨x,j,.none⟩) (lt_of_cell h)).trans (by rw [hXx]; exact HU.out.2.2.1 j)
 have HF : Hid (w6.frozen? ⟨x,0,.none⟩=false∧w6.frozen? ⟨x,1,.none⟩=false∧w6.frozen? ⟨x,2,.none⟩=false) := ⟨f0 0 _ k0,f0 1 _ k1,f0 2 _ k2⟩
 have H7 : Hid (L7.length+2=L1.length∧Rm.Fra p b m W w6) := ⟨hlen7,(Rm.Fra.below HU.out.2.1).trans (Rm.Fra.below hB16)⟩
 have hx6 : x<w6.heap.size := lt_of_cell l0
 have hxn : x≠p∧x≠b∧x≠m := by omega
 have hZ6 : Z<w6.heap.size := lt_of_cell (x:=⟨Z,0,.none⟩) kS6.1
 have hZn : Z≠p∧Z≠b∧Z≠m := by omega
 have HKZ : Hid (Z4M w6 Z et q E.length cs gp sp) := kS6
 have HKx : Hid (x=W.heap.size) := hXx
 have HLx : Hid (w6.cell? ⟨x,0,.none⟩=some (.int .u64 0)∧w6.cell? ⟨x,1,.none⟩=some (.int .u64 0)∧w6.cell? ⟨x,2,.none⟩=some (.int .u64 0)) := ⟨l0,l1,l2⟩
 clear hnd7 hSM sg6 hNT hFr7 hsp7 hB16 hB26 hlen7 f0 kZ kS kS6 l0 l1 l2 k0 k1 k2 hXx hZ1 hsz6 hxW1 hlt8 c10 c25
 obtain ⟨p0,p1,p2,p3⟩ := kZ7
 go_upto_region 12 with (go_at_call 44; refine cI.mono ?_; rintro _ w8 ⟨rfl,hf8,hm8⟩; clear cI)
 have kZ8 : Z4M w8 Z et q E.length cs gp sp := HKZ.out.of (hf8.block Z hZ6 hZn.1 hZn.2.1 hZn.2.2)
 have hbx := hf8.block x hx6 hxn.1 hxn.2.1 hxn.2.2
 have m0 := (cell_heap hbx 0 .none).trans HLx.out.1
 have m1 := (cell_heap hbx 1 .none).trans HLx.out.2.1
 have m2 := (cell_heap hbx 2 .none).trans HLx.out.2.2
 have g0 := (frozen_heap hbx 0 .none).trans HF.out.1
 have g1 := (frozen_heap hbx 1 .none).trans HF.out.2.1
 have g2 := (frozen_heap hbx 2 .none).trans HF.out.2.2
 have H8 : Hid (Rm.Fra p b m W w8∧Rm.SpM ox w8 s p b m N i (e+2) (L1.length+1) (pgM Bq (E.map (·.1)) e Rp) (Rm.upd (cS (E.map (·.1))) e 198)) := ⟨H7.out.2.trans hf8,hm8⟩
 clear hf8 hm8 hbx p0 p1 p2 p3
 obtain ⟨p0,p1,p2,p3⟩ := kZ8
 have cS := startM et sp q (some ⟨gp,0,.none⟩) E.length cs 4096 4096 w8
 have hxl8 : x<w8.heap.size := lt_of_cell m0
 go_wp2_with (go_at_call 45; refine cS.mono ?_; rintro _ w9 ⟨rfl,b9⟩; have H9 : Hid (Below w8.heap.size w8 w9) := b9; replace m0 := (b9.cell (lt_of_cell m0)).trans m0; replace m1 := (b9.cell (lt_of_cell m1)).trans m1; replace m2 := (b9.cell (lt_of_cell m2)).trans m2; replace g0 : w9.frozen? ⟨x,0,.none⟩=false := (b9.frozen (p:=⟨x,0,.none⟩) hxl8).trans g0; replace g1 : w9.frozen? ⟨x,1,.none⟩=false := (b9.frozen (p:=⟨x,1,.none⟩) hxl8).trans g1; replace g2 : w9.frozen? ⟨x,2,.none⟩=false := (b9.frozen (p:=⟨x,2,.none⟩) hxl8).trans g2; clear b9 cS)
 refine bodyPost_ret (v:=.tuple #[.pointer (some ⟨s,0,.none⟩),.agg #[.int .u64 et,.int .u64 sp,.int .u64 sp],.int .i64 0]) (by simp [results,Tryz.results11,go_sem,m0,m1,m2]) rfl ⟨s,i,Rp,spn,L1.length+1,by rw [HSK.out.1],?_,by have := HKx.out; have := hs7; omega,?_,rfl,HSK.out.2⟩
 ·have hxw := HKx.out
  exact (((H8.out.1.trans (Rm.Fra.below H9.out)).beside ⟨x,0,.none⟩ _ (by show _ ≤ x; omega)).beside ⟨x,1,.none⟩ _ (by show _ ≤ x; omega)).beside ⟨x,2,.none⟩ _ (by show _ ≤ x; omega)
 ·obtain ⟨x1,x2,x3⟩ := hxn
  have hxs : x≠s := by have := hs7; omega
  have h9 := H8.out.2.below H9.out
  rw [HMS.out] at h9
  exact SpM_beside (SpM_beside (SpM_beside h9 ⟨x,0,.none⟩ _ ⟨x1,x2,x3,hxs⟩) ⟨x,1,.none⟩ _ ⟨x1,x2,x3,hxs⟩) ⟨x,2,.none⟩ _ ⟨x1,x2,x3,hxs⟩
end
end Go.Proofs.YtabnipbdbnmmpaaGreatDoor
