import Derived.Test.YtabnipbdbnmmpaaGreatDoorSh01
import Derived.Test.YtabnipbdbnmmpaaGreatDoorSh35
import Derived.Test.YtabnipbdbnmmpaaGreatDoorSh14
set_option linter.unusedVariables false
set_option linter.unusedSimpArgs false
namespace Go.Proofs.YtabnipbdbnmmpaaGreatDoor
namespace Rm
open Go Go.RowKit
section
variable {w:World} {s p b m N:Nat} {B:Nat→Int} {L:List Nat} {F:Nat→Option Nat} {lf:Nat→Nat→Int}
def rdb (c d:Int) : Prop := c=210∧d=194∨c=214∧d=198∨c=218∧d=202∨c=222∧d=206
theorem and254 (q:Nat) (hq:q<4096) {c d:Int} (hc:rdb c d) : bits .and .u64 (toP (ad q) c) 254=c := by
 have hb := ad_b q 4096 hq (by omega)
 have hv := toP_val (ad q) c ⟨hb.1,hb.2.1⟩ (by unfold rdb at hc; omega) (by unfold rdb at hc; omega)
 have h1 : bits .and .u64 (toP (ad q) c) ((254:Nat) : Int)=(((toP (ad q) c % 1024).toNat &&& 254 : Nat) : Int) := and_low _ (by rw [hv]; unfold rdb at hc; omega) 254 (by omega)
 have h2 : (toP (ad q) c % 1024).toNat=(c+1).toNat := by rw [hv]; unfold rdb at hc; omega
 rw [h2] at h1
 refine (show bits .and .u64 (toP (ad q) c) 254 = _ from h1).trans ?_
 rcases hc with ⟨rfl,_⟩ | ⟨rfl,_⟩ | ⟨rfl,_⟩ | ⟨rfl,_⟩ <;> decide
theorem not16 {c d:Int} (hc:rdb c d) : bits .andNot .u64 c 16=d := by
 rcases hc with ⟨rfl,rfl⟩ | ⟨rfl,rfl⟩ | ⟨rfl,rfl⟩ | ⟨rfl,rfl⟩ <;> decide
theorem rdb_ok {c d:Int} (hc:rdb c d) : (!ho d 18446744073709551361 && ho d 10 && (!hs d 4 || hs d 2))=true := by
 rcases hc with ⟨rfl,rfl⟩ | ⟨rfl,rfl⟩ | ⟨rfl,rfl⟩ | ⟨rfl,rfl⟩ <;> decide
theorem rdb_leaf {c d:Int} (hc:rdb c d) {f N:Nat} (hf:f<N) (hN:N≤4096) : kd (toP (ad f) d) 0=2∧0≤toP (ad f) d∧toP (ad f) d<18446744073709551616 := by
 have hb := ad_b f N hf hN
 rcases hc with ⟨rfl,rfl⟩ | ⟨rfl,rfl⟩ | ⟨rfl,rfl⟩ | ⟨rfl,rfl⟩ <;> exact leaf_b _ _ ⟨hb.1,hb.2.2,hb.2.1⟩ (by decide) (by decide) (by decide) (by decide)
def UnK (w:World) (p b m N:Nat) (B:Nat→Int) (L:List Nat) (F:Nat→Option Nat) (lf:Nat→Nat→Int) (va tp:Int) (e:Ending) (w':World) : Prop := e = .returned (.tuple #[.int .u64 tp,.int .i64 0])∧Fra p b m w w' ∧ ∃ B',Ram w' p b m N B' L∧PT N L B' F (setE lf (y0 va) (i0 va) 0)∧Byo F B B'
theorem unmap_keep {r q:Nat} {c:Int} (h:Ram w p b m N B L) (hP:PT N L B F lf) (hr:F 0=some r) (va:Int) (hv:0≤va∧va<274877906944∧va % 4096=0) (hq:Pag N L F lf va q c) (k':Nat) (hk':k'<512∧k'≠i0 va∧kd (lf (y0 va) k') 0=2) :
  Calls Tryz.prog 114 #[.pointer (some ⟨p,0,.none⟩),.int .u64 (ad r),.int .u64 va] w (UnK w p b m N B L F lf va (toP (ad q) c)) := by
 have hz : ∀ x,kd x 0=2→x≠0 := fun x h1 e => by rw [e] at h1; revert h1; decide
 refine (unmap_byt h hP hr va hv (by rw [hq.l]; exact hz _ hq.k)).mono fun e w' h9 => ?_
 obtain ⟨he,g,q1,B',L',F',lf',e1,e0,hpt,hpr,hram,hfra,hby⟩ := h9
 rw [hq.l] at he
 have hno : ¬ ∀ k,k<512→setE lf (y0 va) (i0 va) 0 (y0 va) k=0 := fun hall => by
  have := hall k' hk'.1
  unfold setE at this
  rw [if_neg (fun e => hk'.2.1 e.2)] at this
  exact hz _ hk'.2.2 this
 rcases hpr with ⟨rfl,rfl,rfl,_⟩ | ⟨_,_,_,h4,_⟩ | ⟨_,_,_,h4,_⟩
 ·exact ⟨he,hfra,B',hram,hpt,hby⟩
 ·exact absurd h4 hno
 ·exact absurd h4 hno
def GuQ (w:World) (p b m N:Nat) (B:Nat→Int) (L:List Nat) (F:Nat→Option Nat) (lf:Nat→Nat→Int) (va leaf:Int) (e:Ending) (w':World) : Prop := e = .returned (.tuple #[])∧Fra p b m w w' ∧ ∃ B',Ram w' p b m N B' L∧PT N L B' F (setE lf (y0 va) (i0 va) leaf)∧Byo F B B'
theorem setE_set (lf:Nat→Nat→Int) (y i:Nat) (a x:Int) : setE (setE lf y i a) y i x=setE lf y i x := by
 funext u v
 unfold setE
 split <;> rfl
set_option maxHeartbeats 2000000 in
theorem guardT_pt {r q:Nat} (h:Ram w p b m N B L) (hP:PT N L B F lf) (hr:F 0=some r) (pg:Int) (hpg:0≤pg∧pg<67108864) {c d:Int} (hcd:rdb c d) (hq:Pag N L F lf (pg*4096) q c) (k':Nat) (hk':k'<512∧k'≠i0 (pg*4096)∧kd (lf (y0 (pg*4096)) k') 0=2) :
  Calls Tryz.prog 150 #[.agg #[.pointer (some ⟨p,0,.none⟩),.int .u64 (ad r)],.int .i64 pg] w (GuQ w p b m N B L F lf (pg*4096) (toP (ad q) d)) := by
 have hN := h.mem.n2
 have hqb := ad_b q N hq.qb.1 hN
 obtain ⟨X,hX⟩ : ∃ X,X=w.heap.size := ⟨_,rfl⟩
 obtain ⟨w1,hw1⟩ : ∃ w1,w1=w.alloc (.cells #[.pointer (some ⟨p,0,.none⟩),.int .u64 (ad r)] 105) := ⟨_,rfl⟩
 have b1 : Below w.heap.size w w1 := by rw [hw1]; exact (Below.refl _ _).alloc (Nat.le_refl _) _
 have k1 : C2w w1 X (.pointer (some ⟨p,0,.none⟩)) (.int .u64 (ad r)) := by
  rw [hw1,hX]
  exact ⟨by simp,by simp,fun k => World.frozen?_alloc_new _ _ _ _⟩
 have hp : p<X := by rw [hX]; exact lt_of_cell h.mem.c0
 have hb : b<X := by rw [hX]; exact lt_of_cell (h.mem.cb 0 (by have := h.mem.n1; omega))
 have hm : m<X := by rw [hX]; exact h.mem.mlt
 have c153 := unmap_keep (w:=w1.drew) (h.below b1).drew hP hr (pg*4096) ⟨by omega,by omega,by omega⟩ hq k' hk'
 have hval := hq.val hN
 have hbd : 0≤toP (ad q) c∧toP (ad q) c<18014398509481984 := by rw [hval]; unfold rdb at hcd; omega
 have hfr : toP (ad q) c / 1024*4096=ad q := by rw [hval]; unfold rdb at hcd; omega
 have c152 := fun W => frameOf_any (toP (ad q) c) hbd W
 rw [hfr] at c152
 have h254 := and254 q (by have := hq.qb.1; omega) hcd
 have h16 := not16 hcd
 have hlf := rdb_leaf hcd hq.qb.1 hN
 have kS : w1.drew.cell? ⟨X,0,.none⟩=some (.pointer (some ⟨p,0,.none⟩))∧w1.drew.cell? ⟨X,1,.none⟩=some (.int .u64 (ad r)) := ⟨k1.a,k1.b⟩
 have HW : Hid (Below w.heap.size w w1∧C2w w1 X (.pointer (some ⟨p,0,.none⟩)) (.int .u64 (ad r))∧F 0=some r∧(∃ g,F (y1 (pg*4096))=some g)∧(∃ g,F (y0 (pg*4096))=some g)∧rdb c d∧kd (toP (ad q) d) 0=2∧0≤toP (ad q) d∧toP (ad q) d<18446744073709551616) := ⟨b1,k1,hr,hq.w1,hq.w0,hcd,hlf⟩
 clear h hP hq hk' hr hcd hlf b1 k1 hval hbd hfr
 unfold UnK at c153
 generalize toP (ad q) c=tp at *
 go_enter Tryz.func150,Tryz.ntmps150
 go_upto_region 1 with fail
 rw [← hw1,← hX]
 have HXX : Hid (X=w.heap.size) := hX
 clear hw1 hX
 refine wp_region_held_drew (S:=(fun U => U.cell? ⟨X,0,.none⟩=some (.pointer (some ⟨p,0,.none⟩))∧U.cell? ⟨X,1,.none⟩=some (.int .u64 (ad r)))) (by kernel_rfl) kS (fun hHeld => ?_)
 refine aT 0 (.pointer (some ⟨X,0,.none⟩)) rfl ?_
 simp only [X0,X1,X2,X3,X4,X5,X6]
 refine aT 1 (.pointer (some ⟨p,0,.none⟩)) rfl ?_
 simp only [X0,X1,X2,X3,X4,X5,X6]
 refine aT 2 (.pointer (some ⟨X,1,.none⟩)) rfl ?_
 simp only [X0,X1,X2,X3,X4,X5,X6]
 refine aT 3 (.int .u64 (ad r)) rfl ?_
 simp only [X0,X1,X2,X3,X4,X5,X6]
 refine aT 4 (.int .i64 pg) rfl ?_
 simp only [X0,X1,X2,X3,X4,X5,X6]
 refine wpAnyH_ready (rs:=[5]) (by kernel_rfl) (by simp) ?_
 refine AllReadyH.cons rfl (fun K hK => ?_) AllReadyH.nil
 go_simp
 go_at_call 98
 refine (addrOf_any pg (by omega) _).mono ?_
 rintro _ w3 ⟨rfl,e3⟩
 obtain rfl : w1.drew=w3 := e3.symm
 refine hK.out _ _ kS (fun hHeld => ?_)
 clear hK K
 try simp only [X0,X1,X2,X3,X4,X5,X6]
 refine wpAnyH_ready (rs:=[6]) (by kernel_rfl) (by simp) ?_
 refine AllReadyH.cons rfl (fun K hK => ?_) AllReadyH.nil
 go_simp
 go_at_call 114
 refine c153.mono ?_
 rintro _ w3 ⟨rfl,f3,B',r3,P3,y3⟩
 have H3 : Hid (Fra p b m w w3∧Ram w3 p b m N B' L∧PT N L B' F (setE lf (y0 (pg*4096)) (i0 (pg*4096)) 0)∧Byo F B B') := ⟨(Fra.below HW.out.1).trans ((Fra.below (Below.refl _ _).drew).trans f3),r3,P3,y3⟩
 have k3 := HW.out.2.1.fra ((Fra.below (Below.refl _ _).drew).trans f3) (by omega) (by omega) (by omega)
 have kS3 : w3.cell? ⟨X,0,.none⟩=some (.pointer (some ⟨p,0,.none⟩))∧w3.cell? ⟨X,1,.none⟩=some (.int .u64 (ad r)) := ⟨k3.a,k3.b⟩
 clear f3 r3 P3 y3 c153
 refine hK.out _ _ kS3 (fun hHeld => ?_)
 clear hK K
 try simp only [X0,X1,X2,X3,X4,X5,X6]
 refine aT 7 (.tuple #[.int .u64 tp,.int .i64 0]) rfl ?_
 simp only [X0,X1,X2,X3,X4,X5,X6]
 refine aT 8 (.int .u64 tp) rfl ?_
 simp only [X0,X1,X2,X3,X4,X5,X6]
 refine aT 9 (.int .i64 0) rfl ?_
 simp only [X0,X1,X2,X3,X4,X5,X6]
 refine aT 10 (.int .u64 tp) rfl ?_
 simp only [X0,X1,X2,X3,X4,X5,X6]
 refine aT 11 (.int .i64 0) rfl ?_
 simp only [X0,X1,X2,X3,X4,X5,X6]
 refine wpAnyH_done (by kernel_rfl) ?_ _
 have kS4 : w3.drew.cell? ⟨X,0,.none⟩=some (.pointer (some ⟨p,0,.none⟩))∧w3.drew.cell? ⟨X,1,.none⟩=some (.int .u64 (ad r)) := kS3
 have c107 := map_pt (w:=w3.drew) H3.out.2.1.drew H3.out.2.2.1 HW.out.2.2.1 (pg*4096) (ad q) d (by omega) (by omega) ⟨hqb.1,hqb.2.2,hqb.2.1⟩ (rdb_ok HW.out.2.2.2.2.2.1) HW.out.2.2.2.2.2.2 (by unfold setE; rw [if_pos ⟨rfl,rfl⟩]) (by
  obtain ⟨g1,e1⟩ := HW.out.2.2.2.1
  obtain ⟨g0,e0⟩ := HW.out.2.2.2.2.1
  unfold needY
  rw [e1,e0]
  simp)
 have hnd : needY F (pg*4096)=0 := by
  obtain ⟨g1,e1⟩ := HW.out.2.2.2.1
  obtain ⟨g0,e0⟩ := HW.out.2.2.2.2.1
  unfold needY
  rw [e1,e0]
  simp
 rw [hnd] at c107
 clear hnd
 go_upto_region 3 with fail
 refine wp_region_held_drew (S:=(fun U => U.cell? ⟨X,0,.none⟩=some (.pointer (some ⟨p,0,.none⟩))∧U.cell? ⟨X,1,.none⟩=some (.int .u64 (ad r)))) (by kernel_rfl) kS4 (fun hHeld => ?_)
 refine aT 0 (.pointer (some ⟨X,0,.none⟩)) rfl ?_
 simp only [X0,X1,X2,X3,X4,X5,X6]
 refine aT 1 (.pointer (some ⟨p,0,.none⟩)) rfl ?_
 simp only [X0,X1,X2,X3,X4,X5,X6]
 refine aT 2 (.pointer (some ⟨X,1,.none⟩)) rfl ?_
 simp only [X0,X1,X2,X3,X4,X5,X6]
 refine aT 3 (.int .u64 (ad r)) rfl ?_
 simp only [X0,X1,X2,X3,X4,X5,X6]
 refine aT 4 (.int .i64 pg) rfl ?_
 simp only [X0,X1,X2,X3,X4,X5,X6]
 refine aT 6 (.int .u64 tp) rfl ?_
 simp only [X0,X1,X2,X3,X4,X5,X6]
 refine aT 8 (.int .u64 tp) rfl ?_
 simp only [X0,X1,X2,X3,X4,X5,X6]
 refine aT 9 (.int .u64 c) rfl ?_
 simp only [X0,X1,X2,X3,X4,X5,X6]
 refine aT 10 (.int .u64 d) rfl ?_
 simp only [X0,X1,X2,X3,X4,X5,X6]
 refine wpAnyH_ready (rs:=[5]) (by kernel_rfl) (by simp) ?_
 refine AllReadyH.cons rfl (fun K hK => ?_) AllReadyH.nil
 go_simp
 go_at_call 98
 refine (addrOf_any pg (by omega) _).mono ?_
 rintro _ w4 ⟨rfl,e4⟩
 obtain rfl : w3.drew=w4 := e4.symm
 refine hK.out _ _ kS4 (fun hHeld => ?_)
 clear hK K
 try simp only [X0,X1,X2,X3,X4,X5,X6]
 refine wpAnyH_ready (rs:=[7]) (by kernel_rfl) (by simp) ?_
 refine AllReadyH.cons rfl (fun K hK => ?_) AllReadyH.nil
 go_simp
 go_at_call 128
 refine (c152 _).mono ?_
 rintro _ w4 ⟨rfl,e4⟩
 obtain rfl : w3.drew=w4 := e4.symm
 refine hK.out _ _ kS4 (fun hHeld => ?_)
 clear hK K
 try simp only [X0,X1,X2,X3,X4,X5,X6]
 refine wpAnyH_ready (rs:=[11]) (by kernel_rfl) (by simp) ?_
 refine AllReadyH.cons rfl (fun K hK => ?_) AllReadyH.nil
 go_simp
 go_at_call 145
 refine c107.mono ?_
 rintro _ w4 ⟨rfl,B2,L2,F2,R2,e2,r4,f4⟩
 rw [List.take_zero,List.nil_append] at e2
 subst e2
 have H4 : Hid (Fra p b m w w4∧Ram w4 p b m N B2 L∧PT N L B2 F (setE lf (y0 (pg*4096)) (i0 (pg*4096)) (toP (ad q) d))∧Byo F B B2) := by
  have eF : F2=F := funext fun x => by
   cases hF : F x with
   | some f => exact R2.ext x f hF
   | none =>
    cases hG : F2 x with
    | none => rfl
    | some f =>
     rcases R2.new x f hG with e | ⟨e,e',_⟩
     ·rw [hF] at e; cases e
     ·exact absurd e e'
  subst eF
  refine ⟨H3.out.1.trans ((Fra.below (Below.refl _ _).drew).trans f4),r4,by have := R2.pt; rw [setE_set] at this; exact this,fun f hf k hk => (R2.byt f hf k hk).trans (H3.out.2.2.2 f hf k hk)⟩
 have k4 := k3.fra ((Fra.below (Below.refl _ _).drew).trans f4) (by omega) (by omega) (by omega)
 clear R2 r4 f4 c107
 refine hK.out _ _ ⟨k4.a,k4.b⟩ (fun hHeld => ?_)
 clear hK K
 try simp only [X0,X1,X2,X3,X4,X5,X6]
 refine wpAnyH_done (by kernel_rfl) ?_ _
 go_wp2_with fail
 refine bodyPost_end (v:=.tuple #[]) (by simp [results,Tryz.results150,go_sem]) rfl ⟨rfl,H4.out.1,B2,H4.out.2⟩
set_option maxHeartbeats 1000000 in
theorem guard_pt {r q:Nat} {size:Int} (hS:Sp w s p (ad r) size) (h:Ram w p b m N B L) (hP:PT N L B F lf) (hr:F 0=some r) (hne:s≠p∧s≠b∧s≠m) (pg:Int) (hpg:0≤pg∧pg<67108864) (hsz:pg*4096<size∧size≤1099511627776) {c d:Int} (hcd:rdb c d) (hq:Pag N L F lf (pg*4096) q c) (k':Nat) (hk':k'<512∧k'≠i0 (pg*4096)∧kd (lf (y0 (pg*4096)) k') 0=2) :
  Calls Tryz.prog 96 #[.pointer (some ⟨s,0,.none⟩),.int .i64 pg] w fun e w' => e = .returned (.int .i64 0)∧Fra p b m w w' ∧ ∃ B',Ram w' p b m N B' L∧PT N L B' F (setE lf (y0 (pg*4096)) (i0 (pg*4096)) (toP (ad q) d))∧Byo F B B' := by
 have c33 := made_sp hS
 have c77 := pages_sp hS (by omega)
 have c112 := guardT_pt h hP hr pg hpg hcd hq k' hk'
 unfold GuQ at c112
 have hlt : ¬ ((size+4095) / 4096≤pg) := by omega
 have k0 := hS.c0
 have k1 := hS.c1
 clear hS h hP hq hk' hr hcd
 generalize (size+4095) / 4096=P at *
 go_enter Tryz.func96,Tryz.ntmps96
 go_wp2_with first | (go_at_call 46; refine c33.mono ?_; rintro _ w1 ⟨rfl,e1⟩; obtain rfl : w=w1 := e1.symm) | (go_at_call 99; refine c77.mono ?_; rintro _ w1 ⟨rfl,e1⟩; obtain rfl : w=w1 := e1.symm) | (go_at_call 150; refine c112.mono ?_; rintro _ w3 ⟨rfl,f3,B',r3⟩; have H3 : Hid (Fra p b m w w3∧Ram w3 p b m N B' L∧PT N L B' F (setE lf (y0 (pg*4096)) (i0 (pg*4096)) (toP (ad q) d))∧Byo F B B') := ⟨f3,r3⟩; clear f3 r3)
 go_ret
 exact ⟨rfl,H3.out.1,B',H3.out.2⟩
end
end Rm
namespace Rm
open Go Go.RowKit Go.Shelf
attribute [local go_sem] Oper.semAt_some
attribute [local irreducible] eM evs
set_option maxRecDepth 100000 in
set_option maxHeartbeats 2000000 in
theorem free_all2 {w:World} {p b mm N r:Nat} {B:Nat→Int} {L:List Nat} {F:Nat→Option Nat} {lf:Nat→Nat→Int} {l:List Pg} (hR:Ram w p b mm N B L) (hP:PT N L B F lf) (hr:F 0=some r) (hT:TL F lf l) (hnd:l.Pairwise (fun a b => a.1≠b.1)) (hl:l = []) :
  Calls Tryz.prog 115 #[.pointer (some ⟨p,0,.none⟩),.int .u64 (ad r)] w fun e w' => e = .returned (.int .i64 0)∧Ram w' p b mm N (thr B r (adr L)) (r :: L)∧Fra p b mm w w' := by
 obtain ⟨W1,hW1⟩ : ∃ W1,W1=w.alloc (.cells #[.int .i64 0] 45) := ⟨_,rfl⟩
 have b1 : Below w.heap.size w W1 := by rw [hW1]; exact below1 _ _
 have hs1 : W1.heap.size=w.heap.size+1 := by rw [hW1]; simp
 have q1 : W1.cell? ⟨w.heap.size,0,.none⟩=some (.int .i64 0) := by rw [hW1]; simp
 have q2 : W1.frozen? ⟨w.heap.size,0,.none⟩=false := by rw [hW1]; simp
 have hrb : 0≤ad r∧ad r<18446744073709551616 := by have h1 := hP.held 0 r hr; have h2 := hR.mem.n2; unfold ad; omega
 have c38 := isMade_any (hR.below b1)
 have c42 := isNode_any (hR.below b1) (ad r) hrb
 rw [hP.ndB hr] at c42
 have HR : Hid (Ram w p b mm N B L∧PT N L B F lf∧F 0=some r∧TL F lf l) := ⟨hR,hP,hr,hT⟩
 have HL : Hid (LvS l (lvl (evs F lf 0))) := hT.leaves hP hnd
 have H1 : Hid (Below w.heap.size w W1∧W1.heap.size=w.heap.size+1∧W1.cell? ⟨w.heap.size,0,.none⟩=some (.int .i64 0)∧W1.frozen? ⟨w.heap.size,0,.none⟩=false) := ⟨b1,hs1,q1,q2⟩
 clear hR hP hr hT hnd b1 hs1 q1 q2 hrb
 refine (callsIn_wide (n:=3)).1 ?_
 refine callsIn_of_wp_marks Tryz.func115 rfl trivial ?_ rfl
 refine wpIn_wide.2 ?_
 simp only [Tryz.ntmps115,List.size_toArray,List.length_cons,List.length_nil,Nat.reduceAdd,Nat.reduceSub,Array.replicate_succ,Array.replicate_zero,List.push_toArray,List.append_toArray,List.nil_append,List.cons_append]
 go_wp2_with fail
 rw [← hW1]
 clear hW1
 go_wp2_with (first | (go_at_call 157; refine c38.mono ?_; rintro _ w2 ⟨rfl,e2⟩; obtain rfl : W1=w2 := e2.symm; clear e2) | (go_at_call 159; refine c42.mono ?_; rintro _ w3 ⟨rfl,b3⟩; have H3 : Hid (Below W1.heap.size W1 w3) := b3; clear b3 c38 c42))
 obtain ⟨V,hV⟩ : ∃ V,V=(w3.alloc (.cells #[.pointer (some ⟨p,0,.none⟩)] 27)).alloc (.cells #[.int .u64 (ad r)] 23) := ⟨_,rfl⟩
 have bV : Below w3.heap.size w3 V := by rw [hV]; exact ((Below.refl _ _).alloc (Nat.le_refl _) _).alloc (by simp) _
 have sV : V.heap.size=w3.heap.size+2 := by rw [hV]; simp
 have v1 : V.cell? ⟨w3.heap.size,0,.none⟩=some (.pointer (some ⟨p,0,.none⟩)) := by rw [hV]; simp
 have v2 : V.cell? ⟨w3.heap.size+1,0,.none⟩=some (.int .u64 (ad r)) := by rw [hV]; simp
 have s3 : w.heap.size+1≤w3.heap.size := by have := H3.out.size; have := H1.out.2.1; omega
 have B3 : Below w.heap.size w V := (H1.out.1.trans (H3.out.mono H1.out.1.size)).trans (bV.mono (by omega))
 have r1 : V.cell? ⟨w.heap.size,0,.none⟩=some (.int .i64 0) := (bV.cell (p:=⟨w.heap.size,0,.none⟩) (by simp only; omega)).trans ((H3.out.cell (p:=⟨w.heap.size,0,.none⟩) (by have := H1.out.2.1; simp only; omega)).trans H1.out.2.2.1)
 have r2 : V.frozen? ⟨w.heap.size,0,.none⟩=false := (bV.frozen (p:=⟨w.heap.size,0,.none⟩) (by simp only; omega)).trans ((H3.out.frozen (p:=⟨w.heap.size,0,.none⟩) (by have := H1.out.2.1; simp only; omega)).trans H1.out.2.2.2)
 have hseq := fun n => leaves_seq (HR.out.1.below B3) HR.out.2.1 HR.out.2.2.1 n _ _ v1 v2
 have c21 := leaves_any p (ad r) w3
 rw [← hV] at c21
 have hc : w.heap.size<V.heap.size := by omega
 have HV : Hid ((∀ n,SeqK n 169 #[.pointer (some ⟨w3.heap.size,0,.none⟩),.pointer (some ⟨w3.heap.size+1,0,.none⟩)] lvE (lvl (evs F lf 0)) p b mm V)∧Below w.heap.size w V∧V.cell? ⟨w.heap.size,0,.none⟩=some (.int .i64 0)∧V.frozen? ⟨w.heap.size,0,.none⟩=false∧p<w.heap.size∧b<w.heap.size∧mm<w.heap.size) := ⟨hseq,B3,r1,r2,HR.out.1.mem.plt,HR.out.1.mem.blt,HR.out.1.mem.mlt⟩
 clear hseq B3 r1 r2 sV s3 hV bV v1 v2 H1 H3
 go_wp2_with (go_at_call 127; refine c21.mono ?_; rintro _ w5 ⟨rfl,e5⟩; obtain rfl : V=w5 := e5.symm; clear e5 c21)
 refine (wpIn_wide (n:=3)).1 (range_K (α:=Int × Int) (by omega) (gf:=169) (lb:=#[.pointer (some ⟨w3.heap.size,0,.none⟩),.pointer (some ⟨w3.heap.size+1,0,.none⟩)]) rfl (enters_of Tryz.func169 (by kernel_rfl) rfl) (Below.refl _ _) (HV.out.1 2) (by have := HV.out; omega) (fun _ => rfl)
  (FrI V w.heap.size) (fun k _ => V.heap.size≤k) (FrI.own hc) (FrI.gd hc) (fun s k W l o o' h hk _ _ _ _ => hk) ⟨rfl,⟨Nat.le_refl _,rfl,rfl,rfl,fun _ _ _ => rfl⟩,rfl⟩ (FrX V w.heap.size) (fun pre W l o o' h hl _ _ => h.put hc o' hl) (fun _ _ _ h hm => h.mv hc hm) (fun s k W l o o' h hk _ _ _ _ => hk)
  (fun x a' W => a' = { tmps := #[.pointer (some ⟨p,0,.none⟩),.int .u64 (ad r),undef,undef,.pointer (some ⟨w.heap.size,0,.none⟩),undef,undef,.bool false,.pointer (some ⟨p,0,.none⟩),.bool true,.bool false,.bool false,.pointer (some ⟨p,0,.none⟩),.int .u64 (ad r),.bool true,.bool false,.pointer (some ⟨p,0,.none⟩),.int .u64 (ad r),.func (.func 169) #[] #[.pointer (some ⟨w3.heap.size,0,.none⟩),.pointer (some ⟨w3.heap.size+1,0,.none⟩)],.int .u64 x.1,.int .u64 x.2,undef,undef,undef,undef,undef,undef,undef,undef,undef,undef,undef,undef],defers := [] }) (fun x a' W l o o' h _ _ _ => h) ?assign ?body ?done ?left)
 case assign =>
  intro l' x U K hU hK
  simp only [lvE]
  gi_wp2
  exact hK _ _ (Below.refl _ _) rfl
 case left =>
  rintro D U pre hD hpre hX hDd
  refine absurd ?_ hX.1
  have h1 := HL.out.len
  have h2 := hpre.length_le
  rw [hl] at h1
  simp at h1
  rw [h1] at h2
  exact List.length_eq_zero_iff.1 (by simpa using h2)
 case body =>
  rintro l' pre x a' U hI rfl hlen
  obtain ⟨rfl,hS,hc4⟩ := hI
  have q1 := (World.cell?_of_block (a:=⟨w.heap.size,0,.none⟩) hc4).trans HV.out.2.2.1
  have q2 := (World.frozen?_of_block (a:=⟨w.heap.size,0,.none⟩) hc4).trans HV.out.2.2.2.1
  have kb : ∀ k,k≠w.heap.size→(U.setCell ⟨w.heap.size,0,.none⟩ (.int .i64 87)).heap[k]? = U.heap[k]? := fun k hk => Below.heap_setCell _ _ _ k hk
  have sz : (U.setCell ⟨w.heap.size,0,.none⟩ (.int .i64 87)).heap.size=U.heap.size := by simp
  have HE : Hid (KeepsFrom V.heap.size U (U.setCell ⟨w.heap.size,0,.none⟩ (.int .i64 87))∧KpG (fun k _ => V.heap.size≤k) p b mm U (U.setCell ⟨w.heap.size,0,.none⟩ (.int .i64 87))∧FrX V w.heap.size ([] ++ [x]) (U.setCell ⟨w.heap.size,0,.none⟩ (.int .i64 87))) := by
   have hp := HV.out.2.2.2.2
   refine ⟨⟨by omega,fun k o hk ho _ => (kb k (by omega)).trans ho⟩,⟨fun k o hk ho => ⟨(kb k (by omega)).trans ho,hk⟩,kb p (by omega),kb b (by omega),kb mm (by omega),by omega⟩,by simp,⟨by rw [sz]; exact hS.size,hS.os,hS.tape,hS.output,fun k hk hn => (kb k hn).trans (hS.block k hk hn)⟩,World.cell?_setCell_same' _ _ _ (by rw [q1]; rfl)⟩
  clear hS hc4 kb sz hlen
  gi_wp2
  exact HE.out
 case done =>
  rintro D U hD hI hDd
  obtain ⟨_,hS,hc4⟩ := hI
  have hBU := hS.below HV.out.2.1 (Nat.le_refl _)
  have q1 := (World.cell?_of_block (a:=⟨w.heap.size,0,.none⟩) hc4).trans HV.out.2.2.1
  have q2 := (World.frozen?_of_block (a:=⟨w.heap.size,0,.none⟩) hc4).trans HV.out.2.2.2.1
  have hnl : ndl r (evs F lf 0) = [ad r] := by
   have := HR.out.2.2.2.nodes HR.out.2.1 r
   rw [hl] at this
   have h1 : (ndl r (evs F lf 0)).length=1 := this
   unfold ndl at h1 ⊢
   rw [List.length_cons] at h1
   rw [List.length_eq_zero_iff.1 (Nat.succ.inj h1)]
  have c12 := nodes_any (HR.out.1.below hBU) HR.out.2.1 HR.out.2.2.1
  rw [hnl] at c12
  have hDU : D<U.heap.size := (Array.getElem?_eq_some_iff.1 hDd).1
  have HD : Hid (Below w.heap.size w U∧D<U.heap.size∧w.heap.size<D∧U.heap[D]? = some (.deferred (some []))∧U.cell? ⟨w.heap.size,0,.none⟩=some (.int .i64 0)∧U.frozen? ⟨w.heap.size,0,.none⟩=false) := ⟨hBU,hDU,by omega,hDd,q1,q2⟩
  clear hS hc4 hBU q1 q2 hnl hDU hDd hD HL hl
  dsimp only
  go_wp2_with (first | (go_at_call 125; refine c12.mono ?_; rintro _ w7 ⟨g7,c7,rfl,own7,b7⟩; clear c12))
  obtain ⟨hr1,hrN,hrL⟩ := HR.out.2.1.held 0 r HR.out.2.2.1
  have BU := HD.out.1
  have c52 : Calls Tryz.prog 156 #[.pointer (some ⟨p,0,.none⟩),.int .u64 (ad r)] w7 fun e w' => e = .returned (.int .i64 0)∧Ram w' p b mm N (thr B r (adr L)) (r :: L)∧Fra p b mm w7 w' := free_held r ((HR.out.1.below BU).below b7) hr1 hrN hrL
  have e0 : w7.cell? ⟨g7,0,.none⟩=some (.int .u64 (ad r)) := by
   exact own7.cellAt 0 (by simp)
  have h7 : Below w.heap.size w w7 := BU.trans (b7.mono BU.size)
  have q7 := (b7.cell (p:=⟨w.heap.size,0,.none⟩) (by have := HD.out; simp only; omega)).trans HD.out.2.2.2.2.1
  have q8 := (b7.frozen (p:=⟨w.heap.size,0,.none⟩) (by have := HD.out; simp only; omega)).trans HD.out.2.2.2.2.2
  have d7 := (b7.block D HD.out.2.1).trans HD.out.2.2.2.1
  have HW : Hid (Below w.heap.size w w7∧w7.cell? ⟨w.heap.size,0,.none⟩=some (.int .i64 0)∧w7.frozen? ⟨w.heap.size,0,.none⟩=false∧w7.heap[D]? = some (.deferred (some []))∧w.heap.size<D∧D<w7.heap.size) := ⟨h7,q7,q8,d7,HD.out.2.2.1,Nat.lt_of_lt_of_le HD.out.2.1 b7.size⟩
  clear own7 b7 BU h7 q7 q8 d7 HD hr1 hrN hrL
  go_loopw [25] (fun v wr => (v = .int .i64 0∧wr=w7)∨(v = .int .i64 1∧Hid (Ram wr p b mm N (thr B r (adr L)) (r :: L)∧Fra p b mm w7 wr))) (fun v _ => (1 - intOf v).toNat)
  case atStart => exact .inl ⟨rfl,rfl⟩
  case round =>
   rcases hrel with ⟨rfl,rfl⟩ | ⟨rfl,HF⟩
   ·go_wp2_with (first | (go_at_call 156; refine c52.mono ?_; rintro _ w8 ⟨rfl,k8,f8⟩; have HF : Hid (Ram w8 p b mm N (thr B r (adr L)) (r :: L)∧Fra p b mm wr w8) := ⟨k8,f8⟩; clear k8 f8 c52))
    exact ⟨.inr ⟨rfl,HF⟩,by simp [intOf]⟩
   ·obtain ⟨h7,q7,q8,d7,hwD,hD7⟩ := HW.out
    have hp := HV.out.2.2.2.2
    have f8 := HF.out.2
    have x1 := (f8.cell (x:=⟨w.heap.size,0,.none⟩) (by simp only; omega) (by simp only; omega) (by simp only; omega) (by simp only; omega)).trans q7
    have x2 := (f8.frozen (x:=⟨w.heap.size,0,.none⟩) (by simp only; omega) (by simp only; omega) (by simp only; omega) (by simp only; omega)).trans q8
    have x3 := (f8.block D hD7 (by omega) (by omega) (by omega)).trans d7
    have x4 : (wr.setCell ⟨w.heap.size,0,.none⟩ (.int .i64 0)).heap[D]? = some (.deferred (some [])) := (Below.heap_setCell _ _ _ D (by simp only; omega)).trans x3
    obtain ⟨X,hX⟩ : ∃ X,X=(wr.setCell ⟨w.heap.size,0,.none⟩ (.int .i64 0)).putObj D (.deferred none) := ⟨_,rfl⟩
    have y1 : X.cell? ⟨w.heap.size,0,.none⟩=some (.int .i64 0) := by
     rw [hX]
     exact (World.cell?_of_block (a:=⟨w.heap.size,0,.none⟩) (World.putObj_heap_other (by simp only; omega))).trans (World.cell?_setCell_same' _ _ _ (by rw [x1]; rfl))
    have kb : ∀ k,k≠D→k≠w.heap.size→X.heap[k]? = wr.heap[k]? := fun k h1 h2 => by rw [hX]; exact (World.putObj_heap_other h1).trans (Below.heap_setCell _ _ _ k h2)
    have HE : Hid (Ram X p b mm N (thr B r (adr L)) (r :: L)∧Fra p b mm w X) := by
     have hR8 := HF.out.1
     have hs7 := h7.size
     refine ⟨⟨hR8.mem.keep (kb p (by omega) (by omega)) (kb b (by omega) (by omega)) (kb mm (by omega) (by omega)),hR8.nd,hR8.lt,hR8.thr⟩,⟨?_,?_,?_,?_,fun k hk h1 h2 h3 => (kb k (by omega) (by omega)).trans ((f8.block k (by omega) h1 h2 h3).trans (h7.block k hk))⟩⟩
     ·rw [hX]; exact f8.os.trans h7.os
     ·rw [hX]; exact f8.tape.trans h7.tape
     ·rw [hX]; exact f8.output.trans h7.output
     ·rw [hX]; simp [World.putObj]; exact Nat.le_trans h7.size f8.size
    clear kb f8 HF d7 q7 q8 h7
    go_wp2
    refine ⟨by simp,.inl ⟨_,_,rfl,run_takeDeferred x4,?_⟩⟩
    rw [← hX]
    exact ⟨.int .i64 0,by simp [results,Tryz.results115,go_sem,y1],rfl,HE.out⟩
section
variable {p b m ra rb fm:Nat} {la lb:List Pg} {W:World}
end
end Rm
end Go.Proofs.YtabnipbdbnmmpaaGreatDoor
