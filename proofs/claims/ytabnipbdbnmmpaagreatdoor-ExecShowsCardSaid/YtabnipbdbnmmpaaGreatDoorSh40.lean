import Derived.Test.YtabnipbdbnmmpaaGreatDoorSh01
import Derived.Test.YtabnipbdbnmmpaaGreatDoorSh10
import Derived.WalkLawsBesides
import Derived.Defers
import Derived.Recover
set_option linter.unusedVariables false
set_option linter.unusedSimpArgs false
namespace Go.Proofs.YtabnipbdbnmmpaaGreatDoor
section
open Go.RowKit
theorem ta_yes (p:Option Addr) (w:World) : (Instr.typeAssert (.iface 86 (.pointer p)) 20 86 true).run Tryz.prog w = .ok (.tuple #[.pointer p,.bool true]) w := by kernel_rfl
theorem ta_no (w:World) : (Instr.typeAssert .nilIface 20 86 true).run Tryz.prog w = .ok (.tuple #[.pointer none,.bool false]) w := by kernel_rfl
set_option maxHeartbeats 1000000 in
set_option maxRecDepth 10000 in
theorem catch_up (T U:Nat) (p:Option Addr) (older:List PanicEntry) (w:World) (x0 x1 x2:Value) (h0:w.cell? ⟨T,0,.none⟩=some x0) (h1:w.cell? ⟨T,1,.none⟩=some x1) (h2:w.cell? ⟨U,0,.none⟩=some x2) (f0:w.frozen? ⟨T,0,.none⟩=false) (f1:w.frozen? ⟨T,1,.none⟩=false) (f2:w.frozen? ⟨U,0,.none⟩=false) (hne:T≠U) :
  CallsD Tryz.prog 136 #[.pointer (some ⟨T,0,.none⟩),.pointer (some ⟨U,0,.none⟩)] (.panicking ({ v := .iface 86 (.pointer p),recovered := false } :: older)) w fun e u' w' =>
   e = .returned (.tuple #[])∧u' = .panicking ({ v := .iface 86 (.pointer p),recovered := true } :: older)∧w'=((w.setCell ⟨T,0,.none⟩ (.int .u64 0)).setCell ⟨T,1,.none⟩ (.slice .none 0 0)).setCell ⟨U,0,.none⟩ (.iface 86 (.pointer p)) := by
 refine callsD_of_wpS Tryz.func136 rfl fun c₀ cs hu => ?_
 apply wpS_seq
 apply wpS_region
 simp [wpOpsS,go_sem,recoverD,hu,Tryz.ntmps136,Exit.thenS,ta_yes,Array.replicate]
 apply wpS_seq
 apply wpS_region
 simp [wpOpsS,go_sem,Exit.thenS]
 refine wpS_cond (t:=true) (by simp [Act.eval]) ?_
 simp only [if_true]
 apply wpS_region
 have hT : T<w.heap.size := lt_of_cell h0
 have e2 : ((w.setCell ⟨T,0,.none⟩ (.int .u64 0)).setCell ⟨T,1,.none⟩ (.slice .none 0 0)).cell? ⟨U,0,.none⟩=some x2 := by
  rw [World.cell?_setCell_other _ _ _ _ (by simp [hne]),World.cell?_setCell_other _ _ _ _ (by simp [hne])]
  exact h2
 simp [wpOpsS,go_sem,h0,h1,h2,f0,f1,f2,e2,bodyPostS,results,Tryz.results136]
theorem catch_idle (T U:Nat) (w:World) : CallsD Tryz.prog 136 #[.pointer (some ⟨T,0,.none⟩),.pointer (some ⟨U,0,.none⟩)] .returning w fun e u' w' => e = .returned (.tuple #[])∧u' = .returning∧w'=w := by
 refine callsD_of_wpS Tryz.func136 rfl fun c₀ cs hu => ?_
 apply wpS_seq
 apply wpS_region
 simp [wpOpsS,go_sem,recoverD,hu,Tryz.ntmps136,Exit.thenS,ta_no,Array.replicate]
 apply wpS_seq
 apply wpS_region
 simp [wpOpsS,go_sem,Exit.thenS]
 refine wpS_cond (t:=false) (by simp [Act.eval]) ?_
 simp only [Bool.false_eq_true,if_false]
 refine wpS_of_wp (wp_skip ?_)
 cases c₀
 simp_all [bodyPostS,results,Tryz.results136]
set_option maxHeartbeats 1000000 in
theorem read_any {W:World} {b o n c:Nat} {B:Nat→Int} (hL:Laid W) (hrow:Row W b o n B) (hbW:b<W.heap.size) (hB:∀ i,0≤B i∧B i<256) (hc:n≤c∧c≤9223372036854775807) (ha hr:Int) (hH:Hd B ha hr) :
  Calls Tryz.prog 85 #[.slice (some ⟨b,o,.none⟩) n c] W fun e w' => ((rdF n B ha hr).1.2≠0 ∧ ∃ v,e = .returned (.tuple #[.agg #[.int .u64 0,.slice .none 0 0],v])∧FaultIn w' 0 v (rdF n B ha hr).1.1 (rdF n B ha hr).1.2∧Below W.heap.size W w')∨((rdF n B ha hr).1.2=0 ∧ ∃ sv E,e = .returned (.tuple #[.agg #[.int .u64 (num B 24 8),sv],.nilIface])∧E.map (·.1)=(rdF n B ha hr).2∧Segs w' W.heap.size sv E B∧E.length≤8∧Below W.heap.size W w') := by
 have hz0 : ((W.alloc (.cells #[.int .u64 0,.slice .none 0 0] 41)).alloc (.cells #[.nilIface] 33)).heap.size=W.heap.size+1+1 := by simp only [World.size_alloc]
 have HB0 : Hid (Below W.heap.size W ((W.alloc (.cells #[.int .u64 0,.slice .none 0 0] 41)).alloc (.cells #[.nilIface] 33))) := ((Below.refl _ _).alloc (Nat.le_refl _) _).alloc (by simp only [World.size_alloc]; omega) _
 have HE : Hid (((W.alloc (.cells #[.int .u64 0,.slice .none 0 0] 41)).alloc (.cells #[.nilIface] 33)).heap[W.heap.size]? = some (.cells #[.int .u64 0,.slice .none 0 0] 41 (0,0))∧((W.alloc (.cells #[.int .u64 0,.slice .none 0 0] 41)).alloc (.cells #[.nilIface] 33)).heap[W.heap.size+1]? = some (.cells #[.nilIface] 33 (0,0))) := by
  constructor
  ·rw [Below.heap_alloc _ _ _ (by simp only [World.size_alloc]; omega)]
   exact heap_new _ _
  ·have := heap_new (W.alloc (.cells #[.int .u64 0,.slice .none 0 0] 41)) (.cells #[.nilIface] 33)
   rwa [World.size_alloc] at this
 go_enter_defers Tryz.func85,Tryz.ntmps85
 go_wp2_with fail
 generalize hW0 : ((W.alloc (.cells #[.int .u64 0,.slice .none 0 0] 41)).alloc (.cells #[.nilIface] 33))=W0 at *
 clear hW0
 have hk : Below W0.heap.size W0 (W0.alloc (.cells #[.slice (some ⟨b,o,.none⟩) n c,.slice .none 0 0] 210)) := (Below.refl _ _).alloc (Nat.le_refl _) _
 have hp := prog_any (W0:=W0) (w:=W0.alloc (.cells #[.slice (some ⟨b,o,.none⟩) n c,.slice .none 0 0] 210)) (rb:=W0.heap.size) (b:=b) (o:=o) (n:=n) (c:=c) (B:=B)
  ⟨⟨World.cell?_alloc_at _ _ _ _ rfl,(hrow.keep HB0.out).keep hk,hB,hc⟩,World.cell?_alloc_at _ _ _ _ rfl,World.frozen?_alloc_new _ _ _ _,⟨World.ownsRow_nil _ _ _ _,fun x hx => by simp at hx,fun x hx => by simp at hx⟩,hk,Nat.le_refl _,by rw [World.size_alloc]; exact Nat.le_refl _,by omega,by simp⟩ (hL.below HB0.out) ha hr hH
 rw [hz0] at hp
 refine hp.mono ?_
 clear hk hp
 intro e V hP
 rcases hP with ⟨h1,v,rfl,hf,hbV⟩ | ⟨h1,sv,E,rfl,hE,hS,hln,hbV⟩
 ·obtain ⟨fb,_,hfl,rfl,f0,f1,f2⟩ := hf
  have q0 := (hbV.block W.heap.size (by omega)).trans HE.out.1
  have q1 := (hbV.block (W.heap.size+1) (by omega)).trans HE.out.2
  have r0 : V.cell? ⟨W.heap.size,0,.none⟩=some (.int .u64 0) := by simp [World.cell?,q0]
  have r1 : V.cell? ⟨W.heap.size,1,.none⟩=some (.slice .none 0 0) := by simp [World.cell?,q0]
  have r2 : V.cell? ⟨W.heap.size+1,0,.none⟩=some .nilIface := by simp [World.cell?,q1]
  have z0 : V.frozen? ⟨W.heap.size,0,.none⟩=false := by simp [World.frozen?,q0]
  have z1 : V.frozen? ⟨W.heap.size,1,.none⟩=false := by simp [World.frozen?,q0]
  have z2 : V.frozen? ⟨W.heap.size+1,0,.none⟩=false := by simp [World.frozen?,q1]
  refine leaves_cons (f:=136) (args:=#[.pointer (some ⟨W.heap.size,0,.none⟩),.pointer (some ⟨W.heap.size+1,0,.none⟩)]) (by simp) (by simp [go_sem]) ?_
  refine (catch_up W.heap.size (W.heap.size+1) (some ⟨fb,0,.none⟩) [] V _ _ _ r0 r1 r2 z0 z1 z2 (by omega)).mono ?_
  rintro e u' w'' ⟨rfl,rfl,rfl⟩
  have s0 : (((V.setCell ⟨W.heap.size,0,.none⟩ (.int .u64 0)).setCell ⟨W.heap.size,1,.none⟩ (.slice .none 0 0)).setCell ⟨W.heap.size+1,0,.none⟩ (.iface 86 (.pointer (some ⟨fb,0,.none⟩)))).cell? ⟨W.heap.size,0,.none⟩=some (.int .u64 0) := by
   rw [World.cell?_setCell_other _ _ _ _ (by simp),World.cell?_setCell_other _ _ _ _ (by simp)]
   exact World.cell?_setCell_same' _ _ _ (by rw [r0]; rfl)
  have s1 : (((V.setCell ⟨W.heap.size,0,.none⟩ (.int .u64 0)).setCell ⟨W.heap.size,1,.none⟩ (.slice .none 0 0)).setCell ⟨W.heap.size+1,0,.none⟩ (.iface 86 (.pointer (some ⟨fb,0,.none⟩)))).cell? ⟨W.heap.size,1,.none⟩=some (.slice .none 0 0) := by
   rw [World.cell?_setCell_other _ _ _ _ (by simp)]
   exact World.cell?_setCell_same' _ _ _ (by rw [World.cell?_setCell_other _ _ _ _ (by simp),r1]; rfl)
  have s2 : (((V.setCell ⟨W.heap.size,0,.none⟩ (.int .u64 0)).setCell ⟨W.heap.size,1,.none⟩ (.slice .none 0 0)).setCell ⟨W.heap.size+1,0,.none⟩ (.iface 86 (.pointer (some ⟨fb,0,.none⟩)))).cell? ⟨W.heap.size+1,0,.none⟩=some (.iface 86 (.pointer (some ⟨fb,0,.none⟩))) := World.cell?_setCell_same' _ _ _ (by rw [World.cell?_setCell_other _ _ _ _ (by simp),World.cell?_setCell_other _ _ _ _ (by simp),r2]; rfl)
  have bq : Below W.heap.size W (((V.setCell ⟨W.heap.size,0,.none⟩ (.int .u64 0)).setCell ⟨W.heap.size,1,.none⟩ (.slice .none 0 0)).setCell ⟨W.heap.size+1,0,.none⟩ (.iface 86 (.pointer (some ⟨fb,0,.none⟩)))) := (((HB0.out.trans (hbV.mono HB0.out.size)).setCell (p:=⟨W.heap.size,0,.none⟩) (Nat.le_refl _) _).setCell (p:=⟨W.heap.size,1,.none⟩) (Nat.le_refl _) _).setCell (p:=⟨W.heap.size+1,0,.none⟩) (Nat.le_succ _) _
  have hne : ∀ k : Nat,fb≠W.heap.size∧fb≠W.heap.size+1 := fun _ => by
   constructor
   ·intro e
    rw [e] at f0
    rw [r0] at f0
    cases f0
   ·intro e
    rw [e] at f0
    rw [r2] at f0
    cases f0
  have so : ∀ k : Nat,(((V.setCell ⟨W.heap.size,0,.none⟩ (.int .u64 0)).setCell ⟨W.heap.size,1,.none⟩ (.slice .none 0 0)).setCell ⟨W.heap.size+1,0,.none⟩ (.iface 86 (.pointer (some ⟨fb,0,.none⟩)))).cell? ⟨fb,k,.none⟩=V.cell? ⟨fb,k,.none⟩ := fun k => by
   have h9 := hne 0
   rw [World.cell?_setCell_other _ _ _ _ (by simp only [ne_eq,Addr.mk.injEq,not_and]; intro e; omega),World.cell?_setCell_other _ _ _ _ (by simp only [ne_eq,Addr.mk.injEq,not_and]; intro e; omega),World.cell?_setCell_other _ _ _ _ (by simp only [ne_eq,Addr.mk.injEq,not_and]; intro e; omega)]
  have hfl' : fb<(((V.setCell ⟨W.heap.size,0,.none⟩ (.int .u64 0)).setCell ⟨W.heap.size,1,.none⟩ (.slice .none 0 0)).setCell ⟨W.heap.size+1,0,.none⟩ (.iface 86 (.pointer (some ⟨fb,0,.none⟩)))).heap.size := lt_of_cell (x:=⟨fb,0,.none⟩) ((so 0).trans f0)
  have g0 := (so 0).trans f0
  have g1 := (so 1).trans f1
  have g2 := (so 2).trans f2
  generalize (((V.setCell ⟨W.heap.size,0,.none⟩ (.int .u64 0)).setCell ⟨W.heap.size,1,.none⟩ (.slice .none 0 0)).setCell ⟨W.heap.size+1,0,.none⟩ (.iface 86 (.pointer (some ⟨fb,0,.none⟩))))=W9 at *
  have l0 : W.heap.size<W9.heap.size := lt_of_cell (x:=⟨W.heap.size,0,.none⟩) s0
  have l1 : W.heap.size+1<W9.heap.size := lt_of_cell (x:=⟨W.heap.size+1,0,.none⟩) s2
  exact ⟨.tuple #[.agg #[.int .u64 0,.slice .none 0 0],.iface 86 (.pointer (some ⟨fb,0,.none⟩))],by simp [results,Tryz.results85,go_sem,s0,s1,s2,l0,l1],.inl ⟨h1,_,rfl,⟨fb,Nat.zero_le _,hfl',rfl,g0,g1,g2⟩,bq⟩⟩
 ·obtain ⟨q,cs,rfl,_⟩ := own_form hS.own
  have q0 := (hbV.block W.heap.size (by omega)).trans HE.out.1
  have q1 := (hbV.block (W.heap.size+1) (by omega)).trans HE.out.2
  have r0 : V.cell? ⟨W.heap.size,0,.none⟩=some (.int .u64 0) := by simp [World.cell?,q0]
  have r1 : V.cell? ⟨W.heap.size,1,.none⟩=some (.slice .none 0 0) := by simp [World.cell?,q0]
  have r2 : V.cell? ⟨W.heap.size+1,0,.none⟩=some .nilIface := by simp [World.cell?,q1]
  have z0 : V.frozen? ⟨W.heap.size,0,.none⟩=false := by simp [World.frozen?,q0]
  have z1 : V.frozen? ⟨W.heap.size,1,.none⟩=false := by simp [World.frozen?,q0]
  have z2 : V.frozen? ⟨W.heap.size+1,0,.none⟩=false := by simp [World.frozen?,q1]
  go_wp2_with fail
  refine leaves_cons (f:=136) (args:=#[.pointer (some ⟨W.heap.size,0,.none⟩),.pointer (some ⟨W.heap.size+1,0,.none⟩)]) (by simp) (by simp [go_sem]) ?_
  refine (catch_idle W.heap.size (W.heap.size+1) _).mono ?_
  rintro e u' w'' ⟨rfl,rfl,rfl⟩
  have s0 : (((V.setCell ⟨W.heap.size,0,.none⟩ (.int .u64 (num B 24 8))).setCell ⟨W.heap.size,1,.none⟩ (.slice q E.length cs)).setCell ⟨W.heap.size+1,0,.none⟩ .nilIface).cell? ⟨W.heap.size,0,.none⟩=some (.int .u64 (num B 24 8)) := by
   rw [World.cell?_setCell_other _ _ _ _ (by simp),World.cell?_setCell_other _ _ _ _ (by simp)]
   exact World.cell?_setCell_same' _ _ _ (by rw [r0]; rfl)
  have s1 : (((V.setCell ⟨W.heap.size,0,.none⟩ (.int .u64 (num B 24 8))).setCell ⟨W.heap.size,1,.none⟩ (.slice q E.length cs)).setCell ⟨W.heap.size+1,0,.none⟩ .nilIface).cell? ⟨W.heap.size,1,.none⟩=some (.slice q E.length cs) := by
   rw [World.cell?_setCell_other _ _ _ _ (by simp)]
   exact World.cell?_setCell_same' _ _ _ (by rw [World.cell?_setCell_other _ _ _ _ (by simp),r1]; rfl)
  have s2 : (((V.setCell ⟨W.heap.size,0,.none⟩ (.int .u64 (num B 24 8))).setCell ⟨W.heap.size,1,.none⟩ (.slice q E.length cs)).setCell ⟨W.heap.size+1,0,.none⟩ .nilIface).cell? ⟨W.heap.size+1,0,.none⟩=some .nilIface := World.cell?_setCell_same' _ _ _ (by rw [World.cell?_setCell_other _ _ _ _ (by simp),World.cell?_setCell_other _ _ _ _ (by simp),r2]; rfl)
  have bq : Below W.heap.size W (((V.setCell ⟨W.heap.size,0,.none⟩ (.int .u64 (num B 24 8))).setCell ⟨W.heap.size,1,.none⟩ (.slice q E.length cs)).setCell ⟨W.heap.size+1,0,.none⟩ .nilIface) := (((HB0.out.trans (hbV.mono HB0.out.size)).setCell (p:=⟨W.heap.size,0,.none⟩) (Nat.le_refl _) _).setCell (p:=⟨W.heap.size,1,.none⟩) (Nat.le_refl _) _).setCell (p:=⟨W.heap.size+1,0,.none⟩) (Nat.le_succ _) _
  have low : ∀ {ee s k:Nat} {vv:Value} {xs:List Value},V.ownsRow (W.heap.size+1+1+1) ee s vv k xs→(((V.setCell ⟨W.heap.size,0,.none⟩ (.int .u64 (num B 24 8))).setCell ⟨W.heap.size,1,.none⟩ (.slice q E.length cs)).setCell ⟨W.heap.size+1,0,.none⟩ .nilIface).ownsRow W.heap.size ee s vv k xs := fun {ee s k vv xs} hv =>
   own_base (ownsRow_setCell_below (ownsRow_setCell_below (ownsRow_setCell_below hv (a:=⟨W.heap.size,0,.none⟩) (by show W.heap.size<W.heap.size+1+1+1; omega) _) (a:=⟨W.heap.size,1,.none⟩) (by show W.heap.size<W.heap.size+1+1+1; omega) _) (a:=⟨W.heap.size+1,0,.none⟩) (by show W.heap.size+1<W.heap.size+1+1+1; omega) _) (by omega)
  have hS9 : Segs (((V.setCell ⟨W.heap.size,0,.none⟩ (.int .u64 (num B 24 8))).setCell ⟨W.heap.size,1,.none⟩ (.slice q E.length cs)).setCell ⟨W.heap.size+1,0,.none⟩ .nilIface) W.heap.size (.slice q E.length cs) E B := ⟨low hS.own,fun x hx => low (hS.dat x hx),hS.gd⟩
  clear low
  generalize (((V.setCell ⟨W.heap.size,0,.none⟩ (.int .u64 (num B 24 8))).setCell ⟨W.heap.size,1,.none⟩ (.slice q E.length cs)).setCell ⟨W.heap.size+1,0,.none⟩ .nilIface)=W9 at *
  have l0 : W.heap.size<W9.heap.size := lt_of_cell (x:=⟨W.heap.size,0,.none⟩) s0
  have l1 : W.heap.size+1<W9.heap.size := lt_of_cell (x:=⟨W.heap.size+1,0,.none⟩) s2
  exact ⟨.tuple #[.agg #[.int .u64 (num B 24 8),.slice q E.length cs],.nilIface],by simp [results,Tryz.results85,go_sem,s0,s1,s2,l0,l1],.inr ⟨h1,_,E,rfl,hE,hS9,hln,bq⟩⟩
end
section
open Go.RowKit
def ePg (S:List Sg) : Int := match S.getLast? with | none => 0 | some l => (l.va+l.mem+4095) / 4096
theorem ePg_bound (E:List (Sg × Value)) (h:∀ x ∈ E,Gd x.1) : 0≤ePg (E.map (·.1))∧ePg (E.map (·.1))≤262144 := by
 unfold ePg
 rw [List.getLast?_map]
 cases hl : E.getLast? with
 | none => simp
 | some l =>
  have hg := h l (List.mem_of_getLast? hl)
  have h1 := hg.v
  have h2 := hg.m
  have h3 := hg.e
  simp only [Option.map_some]
  omega
theorem below_any (va fl mem:Int) (dp:Option Addr) (dn dc:Nat) (w:World) (hv:0≤va) (hm:0≤mem) (he:va+mem≤1073741824) :
  Calls Tryz.prog 147 #[.agg #[.int .u64 va,.int .u32 fl,.slice dp dn dc,.int .u64 mem]] w fun e w' => e = .returned (.int .i64 ((va+mem+4095) / 4096))∧Below w.heap.size w w' := by
 have h1 : IntKind.u64.wrap (va+mem)=va+mem := by rw [IntKind.wrap_u64]; omega
 have h2 : IntKind.u64.wrap (va+mem+4096)=va+mem+4096 := by rw [IntKind.wrap_u64]; omega
 have h3 : IntKind.u64.wrap (va+mem+4096 - 1)=va+mem+4095 := by rw [IntKind.wrap_u64]; omega
 go_enter Tryz.func147,Tryz.ntmps147
 go_wp2
 go_ret
 exact ⟨rfl,(Below.refl _ _).alloc (Nat.le_refl _) _⟩
theorem addr_any (k:Int) (w:World) (h:0≤k∧k≤1000000) : Calls Tryz.prog 142 #[.int .i64 k] w fun e w' => e = .returned (.int .u64 (k*4096))∧w'=w := by
 have h1 : IntKind.u64.wrap k=k := by rw [IntKind.wrap_u64]; omega
 have h2 : IntKind.u64.wrap (k*4096)=k*4096 := by rw [IntKind.wrap_u64]; omega
 go_enter Tryz.func142,Tryz.ntmps142
 go_wp2
 go_ret
 exact ⟨rfl,rfl⟩
set_option maxHeartbeats 1000000 in
theorem guard_any {w:World} {X c:Nat} {q:Option Addr} {E:List (Sg × Value)} {B:Nat→Int} (h:Segs w X (.slice q E.length c) E B) (h0:E ≠ []) (hl:E.length≤8) (en sp:Int) (dp:Option Addr) (dn dc:Nat) :
  Calls Tryz.prog 97 #[.agg #[.int .u64 en,.slice q E.length c,.slice dp dn dc,.int .u64 sp]] w fun e w' => e = .returned (.int .i64 (ePg (E.map (·.1))))∧Below w.heap.size w w' := by
 obtain ⟨q',c',e',hc1,hc2,hq⟩ := own_form h.own
 cases e'
 obtain ⟨l,hlast⟩ : ∃ l,E.getLast? = some l := ⟨E.getLast h0,List.getLast?_eq_some_getLast h0⟩
 have hn : 0<E.length := List.length_pos_iff.2 h0
 obtain ⟨m,hm⟩ : ∃ m,E.length=m+1 := ⟨E.length - 1,by omega⟩
 have hg : E[m]? = some l := by
  have : E.length - 1=m := by omega
  rw [← this,← List.getLast?_eq_getElem?]
  exact hlast
 have hP : ePg (E.map (·.1))=(l.1.va+l.1.mem+4095) / 4096 := by simp [ePg,List.getLast?_map,hlast]
 obtain ⟨f0,f1,f2,f3⟩ := flatE_get E _ l hg
 obtain ⟨g,rfl,a0⟩ := own_cell h.own f0 hn (by omega)
 obtain ⟨g1,e1,a1⟩ := own_cell h.own f1 hn (by omega)
 obtain ⟨g2,e2,a2⟩ := own_cell h.own f2 hn (by omega)
 obtain ⟨g3,e3,a3⟩ := own_cell h.own f3 hn (by omega)
 simp only [Option.some.injEq,Addr.mk.injEq,and_true] at e1 e2 e3
 subst e1 e2 e3
 have hgd := h.gd l (List.mem_of_getElem? hg)
 obtain ⟨ldq,ldc,hld,_⟩ := own_form (h.dat l (List.mem_of_getElem? hg))
 rw [hld] at a2
 have HB : Hid (Below w.heap.size w (w.alloc (.cells #[.int .u64 en,.slice (some ⟨g,0,.none⟩) E.length c,.slice dp dn dc,.int .u64 sp] 92))) := (Below.refl _ _).alloc (Nat.le_refl _) _
 have b0 := (HB.out.cell (lt_of_cell a0)).trans a0
 have b1 := (HB.out.cell (lt_of_cell a1)).trans a1
 have b2 := (HB.out.cell (lt_of_cell a2)).trans a2
 have b3 := (HB.out.cell (lt_of_cell a3)).trans a3
 have hv := hgd.v
 have hmm := hgd.m
 have he := hgd.e
 have c1 := fun wx => below_any l.1.va l.1.fl l.1.mem ldq l.1.sz ldc wx hv hmm he
 rw [hP,hm]
 rw [hm] at HB b0 b1 b2 b3
 have hm8 : m<8 := by omega
 have gi : (m:Int)<m+1 := by omega
 clear h hlast hg f0 f1 f2 f3 a0 a1 a2 a3 hld hgd hP hl hc1 hn hm h0 hq
 go_enter Tryz.func97,Tryz.ntmps97
 go_wp2_with (go_at_call 147; refine (c1 _).mono ?_; rintro _ w1 ⟨rfl,hb1⟩)
 go_ret
 exact ⟨rfl,HB.out.trans (hb1.mono HB.out.size)⟩
theorem pages_any {w:World} {X c:Nat} {q:Option Addr} {E:List (Sg × Value)} {B:Nat→Int} (h:Segs w X (.slice q E.length c) E B) (h0:E ≠ []) (hl:E.length≤8) (en sp:Int) (dp:Option Addr) (dn dc:Nat) :
  Calls Tryz.prog 90 #[.agg #[.int .u64 en,.slice q E.length c,.slice dp dn dc,.int .u64 sp]] w fun e w' => e = .returned (.int .i64 (ePg (E.map (·.1))+2))∧Below w.heap.size w w' := by
 have HB : Hid (Below w.heap.size w (w.alloc (.cells #[.int .u64 en,.slice q E.length c,.slice dp dn dc,.int .u64 sp] 92))) := (Below.refl _ _).alloc (Nat.le_refl _) _
 have c1 := guard_any (h.below HB.out) h0 hl en sp dp dn dc
 have hb := ePg_bound E h.gd
 clear h
 go_enter Tryz.func90,Tryz.ntmps90
 go_wp2_with (go_at_call 97; refine c1.mono ?_; rintro _ w1 ⟨rfl,hb1⟩)
 go_ret
 exact ⟨rfl,HB.out.trans (hb1.mono HB.out.size)⟩
theorem stackAt_any {w:World} {X c:Nat} {q:Option Addr} {E:List (Sg × Value)} {B:Nat→Int} (h:Segs w X (.slice q E.length c) E B) (h0:E ≠ []) (hl:E.length≤8) (en sp:Int) (dp:Option Addr) (dn dc:Nat) :
  Calls Tryz.prog 89 #[.agg #[.int .u64 en,.slice q E.length c,.slice dp dn dc,.int .u64 sp]] w fun e w' => e = .returned (.int .u64 ((ePg (E.map (·.1))+1)*4096))∧Below w.heap.size w w' := by
 have HB : Hid (Below w.heap.size w (w.alloc (.cells #[.int .u64 en,.slice q E.length c,.slice dp dn dc,.int .u64 sp] 92))) := (Below.refl _ _).alloc (Nat.le_refl _) _
 have c1 := pages_any (h.below HB.out) h0 hl en sp dp dn dc
 have hb := ePg_bound E h.gd
 clear h
 go_enter Tryz.func89,Tryz.ntmps89
 go_wp2_with first | (go_at_call 90; refine c1.mono ?_; rintro _ w1 ⟨rfl,hb1⟩) | (go_at_call 142; refine (addr_any _ _ (by omega)).mono ?_; rintro _ _ ⟨rfl,rfl⟩)
 go_ret
 refine ⟨congrArg Ending.returned (congrArg (Value.int .u64) ?_),HB.out.trans (hb1.mono HB.out.size)⟩
 omega
theorem demandP_any {w:World} {X c:Nat} {q:Option Addr} {E:List (Sg × Value)} {B:Nat→Int} (h:Segs w X (.slice q E.length c) E B) (h0:E ≠ []) (hl:E.length≤8) (en sp:Int) (dp:Option Addr) (dn dc:Nat) :
  Calls Tryz.prog 42 #[.agg #[.int .u64 en,.slice q E.length c,.slice dp dn dc,.int .u64 sp]] w fun e w' => e = .returned (.int .i64 (ePg (E.map (·.1))+6+(ePg (E.map (·.1))+513) / 512))∧Below w.heap.size w w' := by
 have HB : Hid (Below w.heap.size w (w.alloc (.cells #[.int .u64 en,.slice q E.length c,.slice dp dn dc,.int .u64 sp] 92))) := (Below.refl _ _).alloc (Nat.le_refl _) _
 have c1 := pages_any (h.below HB.out) h0 hl en sp dp dn dc
 have hb := ePg_bound E h.gd
 clear h
 go_enter Tryz.func42,Tryz.ntmps42
 go_wp2_with (go_at_call 90; refine c1.mono ?_; rintro _ w1 ⟨rfl,hb1⟩)
 go_ret
 refine ⟨congrArg Ending.returned (congrArg (Value.int .i64) ?_),HB.out.trans (hb1.mono HB.out.size)⟩
 omega
end
end Go.Proofs.YtabnipbdbnmmpaaGreatDoor
