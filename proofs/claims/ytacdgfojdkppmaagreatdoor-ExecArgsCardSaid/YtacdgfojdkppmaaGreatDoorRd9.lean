import Derived.Test.YtacdgfojdkppmaaGreatDoorRd8
import Derived.WalkLawsBesides
import Derived.Defers
import Derived.Recover
namespace Go.Proofs.YtacdgfojdkppmaaGreatDoor
open Go.RowKit
set_option linter.unusedVariables false
set_option linter.unusedSimpArgs false
theorem ta_yes (p : Option Addr) (w : World) : (Instr.typeAssert (.iface 107 (.pointer p)) 20 107 true).run Tryz.prog w = .ok (.tuple #[.pointer p, .bool true]) w := by kernel_rfl
theorem ta_no (w : World) : (Instr.typeAssert .nilIface 20 107 true).run Tryz.prog w = .ok (.tuple #[.pointer none, .bool false]) w := by kernel_rfl
set_option maxHeartbeats 1000000 in
set_option maxRecDepth 10000 in
theorem catch_up (T U : Nat) (p : Option Addr) (older : List PanicEntry) (w : World) (x0 x1 x2 : Value) (h0 : w.cell? ⟨T, 0, .none⟩ = some x0) (h1 : w.cell? ⟨T, 1, .none⟩ = some x1) (h2 : w.cell? ⟨U, 0, .none⟩ = some x2) (f0 : w.frozen? ⟨T, 0, .none⟩ = false) (f1 : w.frozen? ⟨T, 1, .none⟩ = false) (f2 : w.frozen? ⟨U, 0, .none⟩ = false) (hne : T ≠ U) :
  CallsD Tryz.prog 98 #[.pointer (some ⟨T, 0, .none⟩), .pointer (some ⟨U, 0, .none⟩)] (.panicking ({ v := .iface 107 (.pointer p), recovered := false } :: older)) w fun e u' w' =>
   e = .returned (.tuple #[]) ∧ u' = .panicking ({ v := .iface 107 (.pointer p), recovered := true } :: older) ∧ w' = ((w.setCell ⟨T, 0, .none⟩ (.int .u64 0)).setCell ⟨T, 1, .none⟩ (.slice .none 0 0)).setCell ⟨U, 0, .none⟩ (.iface 107 (.pointer p)) := by
 refine callsD_of_wpS Tryz.func98 rfl fun c₀ cs hu => ?_
 apply wpS_seq
 apply wpS_region
 simp [wpOpsS, go_sem, recoverD, hu, Tryz.ntmps98, Exit.thenS, ta_yes, Array.replicate]
 apply wpS_seq
 apply wpS_region
 simp [wpOpsS, go_sem, Exit.thenS]
 refine wpS_cond (t := true) (by simp [Act.eval]) ?_
 simp only [if_true]
 apply wpS_region
 have hT : T < w.heap.size := lt_of_cell h0
 have e2 : ((w.setCell ⟨T, 0, .none⟩ (.int .u64 0)).setCell ⟨T, 1, .none⟩ (.slice .none 0 0)).cell? ⟨U, 0, .none⟩ = some x2 := by
  rw [World.cell?_setCell_other _ _ _ _ (by simp [hne]), World.cell?_setCell_other _ _ _ _ (by simp [hne])]
  exact h2
 simp [wpOpsS, go_sem, h0, h1, h2, f0, f1, f2, e2, bodyPostS, results, Tryz.results98]
theorem catch_idle (T U : Nat) (w : World) : CallsD Tryz.prog 98 #[.pointer (some ⟨T, 0, .none⟩), .pointer (some ⟨U, 0, .none⟩)] .returning w fun e u' w' => e = .returned (.tuple #[]) ∧ u' = .returning ∧ w' = w := by
 refine callsD_of_wpS Tryz.func98 rfl fun c₀ cs hu => ?_
 apply wpS_seq
 apply wpS_region
 simp [wpOpsS, go_sem, recoverD, hu, Tryz.ntmps98, Exit.thenS, ta_no, Array.replicate]
 apply wpS_seq
 apply wpS_region
 simp [wpOpsS, go_sem, Exit.thenS]
 refine wpS_cond (t := false) (by simp [Act.eval]) ?_
 simp only [Bool.false_eq_true, if_false]
 refine wpS_of_wp (wp_skip ?_)
 cases c₀
 simp_all [bodyPostS, results, Tryz.results98]
set_option maxHeartbeats 1000000 in
theorem read_any {W : World} {b o n c : Nat} {B : Nat → Int} (hL : Laid W) (hrow : Row W b o n B) (hbW : b < W.heap.size) (hB : ∀ i, 0 ≤ B i ∧ B i < 256) (hc : n ≤ c ∧ c ≤ 9223372036854775807) (ha hr : Int) (hH : Hd B ha hr) :
  Calls Tryz.prog 53 #[.slice (some ⟨b, o, .none⟩) n c] W fun e w' => ((rdF n B ha hr).1.2 ≠ 0 ∧ ∃ v, e = .returned (.tuple #[.agg #[.int .u64 0, .slice .none 0 0], v]) ∧ FaultIn w' 0 v (rdF n B ha hr).1.1 (rdF n B ha hr).1.2 ∧ Below W.heap.size W w') ∨ ((rdF n B ha hr).1.2 = 0 ∧ ∃ sv E, e = .returned (.tuple #[.agg #[.int .u64 (num B 24 8), sv], .nilIface]) ∧ E.map (·.1) = (rdF n B ha hr).2 ∧ Segs w' W.heap.size sv E B ∧ E.length ≤ 8 ∧ Below W.heap.size W w') := by
 have hz0 : ((W.alloc (.cells #[.int .u64 0, .slice .none 0 0] 64)).alloc (.cells #[.nilIface] 56)).heap.size = W.heap.size + 1 + 1 := by simp only [World.size_alloc]
 have HB0 : Hid (Below W.heap.size W ((W.alloc (.cells #[.int .u64 0, .slice .none 0 0] 64)).alloc (.cells #[.nilIface] 56))) := ((Below.refl _ _).alloc (Nat.le_refl _) _).alloc (by simp only [World.size_alloc]; omega) _
 have HE : Hid (((W.alloc (.cells #[.int .u64 0, .slice .none 0 0] 64)).alloc (.cells #[.nilIface] 56)).heap[W.heap.size]? = some (.cells #[.int .u64 0, .slice .none 0 0] 64 (0, 0)) ∧ ((W.alloc (.cells #[.int .u64 0, .slice .none 0 0] 64)).alloc (.cells #[.nilIface] 56)).heap[W.heap.size + 1]? = some (.cells #[.nilIface] 56 (0, 0))) := by
  constructor
  ·rw [Below.heap_alloc _ _ _ (by simp only [World.size_alloc]; omega)]
   exact heap_new _ _
  ·have := heap_new (W.alloc (.cells #[.int .u64 0, .slice .none 0 0] 64)) (.cells #[.nilIface] 56)
   rwa [World.size_alloc] at this
 go_enter_defers Tryz.func53, Tryz.ntmps53
 go_wp2_with fail
 generalize hW0 : ((W.alloc (.cells #[.int .u64 0, .slice .none 0 0] 64)).alloc (.cells #[.nilIface] 56)) = W0 at *
 clear hW0
 have hk : Below W0.heap.size W0 (W0.alloc (.cells #[.slice (some ⟨b, o, .none⟩) n c, .slice .none 0 0] 157)) := (Below.refl _ _).alloc (Nat.le_refl _) _
 have hp := prog_any (W0 := W0) (w := W0.alloc (.cells #[.slice (some ⟨b, o, .none⟩) n c, .slice .none 0 0] 157)) (rb := W0.heap.size) (b := b) (o := o) (n := n) (c := c) (B := B)
  ⟨⟨World.cell?_alloc_at _ _ _ _ rfl, (hrow.keep HB0.out).keep hk, hB, hc⟩, World.cell?_alloc_at _ _ _ _ rfl, World.frozen?_alloc_new _ _ _ _, ⟨World.ownsRow_nil _ _ _ _, fun x hx => by simp at hx, fun x hx => by simp at hx⟩, hk, Nat.le_refl _, by rw [World.size_alloc]; exact Nat.le_refl _, by omega, by simp⟩ (hL.below HB0.out) ha hr hH
 rw [hz0] at hp
 refine hp.mono ?_
 clear hk hp
 intro e V hP
 rcases hP with ⟨h1, v, rfl, hf, hbV⟩ | ⟨h1, sv, E, rfl, hE, hS, hln, hbV⟩
 ·obtain ⟨fb, _, hfl, rfl, f0, f1, f2⟩ := hf
  have q0 := (hbV.block W.heap.size (by omega)).trans HE.out.1
  have q1 := (hbV.block (W.heap.size + 1) (by omega)).trans HE.out.2
  have r0 : V.cell? ⟨W.heap.size, 0, .none⟩ = some (.int .u64 0) := by simp [World.cell?, q0]
  have r1 : V.cell? ⟨W.heap.size, 1, .none⟩ = some (.slice .none 0 0) := by simp [World.cell?, q0]
  have r2 : V.cell? ⟨W.heap.size + 1, 0, .none⟩ = some .nilIface := by simp [World.cell?, q1]
  have z0 : V.frozen? ⟨W.heap.size, 0, .none⟩ = false := by simp [World.frozen?, q0]
  have z1 : V.frozen? ⟨W.heap.size, 1, .none⟩ = false := by simp [World.frozen?, q0]
  have z2 : V.frozen? ⟨W.heap.size + 1, 0, .none⟩ = false := by simp [World.frozen?, q1]
  refine leaves_cons (f := 98) (args := #[.pointer (some ⟨W.heap.size, 0, .none⟩), .pointer (some ⟨W.heap.size + 1, 0, .none⟩)]) (by simp) (by simp [go_sem]) ?_
  refine (catch_up W.heap.size (W.heap.size + 1) (some ⟨fb, 0, .none⟩) [] V _ _ _ r0 r1 r2 z0 z1 z2 (by omega)).mono ?_
  rintro e u' w'' ⟨rfl, rfl, rfl⟩
  have s0 : (((V.setCell ⟨W.heap.size, 0, .none⟩ (.int .u64 0)).setCell ⟨W.heap.size, 1, .none⟩ (.slice .none 0 0)).setCell ⟨W.heap.size + 1, 0, .none⟩ (.iface 107 (.pointer (some ⟨fb, 0, .none⟩)))).cell? ⟨W.heap.size, 0, .none⟩ = some (.int .u64 0) := by
   rw [World.cell?_setCell_other _ _ _ _ (by simp), World.cell?_setCell_other _ _ _ _ (by simp)]
   exact World.cell?_setCell_same' _ _ _ (by rw [r0]; rfl)
  have s1 : (((V.setCell ⟨W.heap.size, 0, .none⟩ (.int .u64 0)).setCell ⟨W.heap.size, 1, .none⟩ (.slice .none 0 0)).setCell ⟨W.heap.size + 1, 0, .none⟩ (.iface 107 (.pointer (some ⟨fb, 0, .none⟩)))).cell? ⟨W.heap.size, 1, .none⟩ = some (.slice .none 0 0) := by
   rw [World.cell?_setCell_other _ _ _ _ (by simp)]
   exact World.cell?_setCell_same' _ _ _ (by rw [World.cell?_setCell_other _ _ _ _ (by simp), r1]; rfl)
  have s2 : (((V.setCell ⟨W.heap.size, 0, .none⟩ (.int .u64 0)).setCell ⟨W.heap.size, 1, .none⟩ (.slice .none 0 0)).setCell ⟨W.heap.size + 1, 0, .none⟩ (.iface 107 (.pointer (some ⟨fb, 0, .none⟩)))).cell? ⟨W.heap.size + 1, 0, .none⟩ = some (.iface 107 (.pointer (some ⟨fb, 0, .none⟩))) := World.cell?_setCell_same' _ _ _ (by rw [World.cell?_setCell_other _ _ _ _ (by simp), World.cell?_setCell_other _ _ _ _ (by simp), r2]; rfl)
  have bq : Below W.heap.size W (((V.setCell ⟨W.heap.size, 0, .none⟩ (.int .u64 0)).setCell ⟨W.heap.size, 1, .none⟩ (.slice .none 0 0)).setCell ⟨W.heap.size + 1, 0, .none⟩ (.iface 107 (.pointer (some ⟨fb, 0, .none⟩)))) := (((HB0.out.trans (hbV.mono HB0.out.size)).setCell (p := ⟨W.heap.size, 0, .none⟩) (Nat.le_refl _) _).setCell (p := ⟨W.heap.size, 1, .none⟩) (Nat.le_refl _) _).setCell (p := ⟨W.heap.size + 1, 0, .none⟩) (Nat.le_succ _) _
  have hne : ∀ k : Nat, fb ≠ W.heap.size ∧ fb ≠ W.heap.size + 1 := fun _ => by
   constructor
   ·intro e
    rw [e] at f0
    rw [r0] at f0
    cases f0
   ·intro e
    rw [e] at f0
    rw [r2] at f0
    cases f0
  have so : ∀ k : Nat, (((V.setCell ⟨W.heap.size, 0, .none⟩ (.int .u64 0)).setCell ⟨W.heap.size, 1, .none⟩ (.slice .none 0 0)).setCell ⟨W.heap.size + 1, 0, .none⟩ (.iface 107 (.pointer (some ⟨fb, 0, .none⟩)))).cell? ⟨fb, k, .none⟩ = V.cell? ⟨fb, k, .none⟩ := fun k => by
   have h9 := hne 0
   rw [World.cell?_setCell_other _ _ _ _ (by simp only [ne_eq, Addr.mk.injEq, not_and]; intro e; omega), World.cell?_setCell_other _ _ _ _ (by simp only [ne_eq, Addr.mk.injEq, not_and]; intro e; omega), World.cell?_setCell_other _ _ _ _ (by simp only [ne_eq, Addr.mk.injEq, not_and]; intro e; omega)]
  have hfl' : fb < (((V.setCell ⟨W.heap.size, 0, .none⟩ (.int .u64 0)).setCell ⟨W.heap.size, 1, .none⟩ (.slice .none 0 0)).setCell ⟨W.heap.size + 1, 0, .none⟩ (.iface 107 (.pointer (some ⟨fb, 0, .none⟩)))).heap.size := lt_of_cell (x := ⟨fb, 0, .none⟩) ((so 0).trans f0)
  have g0 := (so 0).trans f0
  have g1 := (so 1).trans f1
  have g2 := (so 2).trans f2
  generalize (((V.setCell ⟨W.heap.size, 0, .none⟩ (.int .u64 0)).setCell ⟨W.heap.size, 1, .none⟩ (.slice .none 0 0)).setCell ⟨W.heap.size + 1, 0, .none⟩ (.iface 107 (.pointer (some ⟨fb, 0, .none⟩)))) = W9 at *
  have l0 : W.heap.size < W9.heap.size := lt_of_cell (x := ⟨W.heap.size, 0, .none⟩) s0
  have l1 : W.heap.size + 1 < W9.heap.size := lt_of_cell (x := ⟨W.heap.size + 1, 0, .none⟩) s2
  exact ⟨.tuple #[.agg #[.int .u64 0, .slice .none 0 0], .iface 107 (.pointer (some ⟨fb, 0, .none⟩))], by simp [results, Tryz.results53, go_sem, s0, s1, s2, l0, l1], .inl ⟨h1, _, rfl, ⟨fb, Nat.zero_le _, hfl', rfl, g0, g1, g2⟩, bq⟩⟩
 ·obtain ⟨q, cs, rfl, _⟩ := own_form hS.own
  have q0 := (hbV.block W.heap.size (by omega)).trans HE.out.1
  have q1 := (hbV.block (W.heap.size + 1) (by omega)).trans HE.out.2
  have r0 : V.cell? ⟨W.heap.size, 0, .none⟩ = some (.int .u64 0) := by simp [World.cell?, q0]
  have r1 : V.cell? ⟨W.heap.size, 1, .none⟩ = some (.slice .none 0 0) := by simp [World.cell?, q0]
  have r2 : V.cell? ⟨W.heap.size + 1, 0, .none⟩ = some .nilIface := by simp [World.cell?, q1]
  have z0 : V.frozen? ⟨W.heap.size, 0, .none⟩ = false := by simp [World.frozen?, q0]
  have z1 : V.frozen? ⟨W.heap.size, 1, .none⟩ = false := by simp [World.frozen?, q0]
  have z2 : V.frozen? ⟨W.heap.size + 1, 0, .none⟩ = false := by simp [World.frozen?, q1]
  go_wp2_with fail
  refine leaves_cons (f := 98) (args := #[.pointer (some ⟨W.heap.size, 0, .none⟩), .pointer (some ⟨W.heap.size + 1, 0, .none⟩)]) (by simp) (by simp [go_sem]) ?_
  refine (catch_idle W.heap.size (W.heap.size + 1) _).mono ?_
  rintro e u' w'' ⟨rfl, rfl, rfl⟩
  have s0 : (((V.setCell ⟨W.heap.size, 0, .none⟩ (.int .u64 (num B 24 8))).setCell ⟨W.heap.size, 1, .none⟩ (.slice q E.length cs)).setCell ⟨W.heap.size + 1, 0, .none⟩ .nilIface).cell? ⟨W.heap.size, 0, .none⟩ = some (.int .u64 (num B 24 8)) := by
   rw [World.cell?_setCell_other _ _ _ _ (by simp), World.cell?_setCell_other _ _ _ _ (by simp)]
   exact World.cell?_setCell_same' _ _ _ (by rw [r0]; rfl)
  have s1 : (((V.setCell ⟨W.heap.size, 0, .none⟩ (.int .u64 (num B 24 8))).setCell ⟨W.heap.size, 1, .none⟩ (.slice q E.length cs)).setCell ⟨W.heap.size + 1, 0, .none⟩ .nilIface).cell? ⟨W.heap.size, 1, .none⟩ = some (.slice q E.length cs) := by
   rw [World.cell?_setCell_other _ _ _ _ (by simp)]
   exact World.cell?_setCell_same' _ _ _ (by rw [World.cell?_setCell_other _ _ _ _ (by simp), r1]; rfl)
  have s2 : (((V.setCell ⟨W.heap.size, 0, .none⟩ (.int .u64 (num B 24 8))).setCell ⟨W.heap.size, 1, .none⟩ (.slice q E.length cs)).setCell ⟨W.heap.size + 1, 0, .none⟩ .nilIface).cell? ⟨W.heap.size + 1, 0, .none⟩ = some .nilIface := World.cell?_setCell_same' _ _ _ (by rw [World.cell?_setCell_other _ _ _ _ (by simp), World.cell?_setCell_other _ _ _ _ (by simp), r2]; rfl)
  have bq : Below W.heap.size W (((V.setCell ⟨W.heap.size, 0, .none⟩ (.int .u64 (num B 24 8))).setCell ⟨W.heap.size, 1, .none⟩ (.slice q E.length cs)).setCell ⟨W.heap.size + 1, 0, .none⟩ .nilIface) := (((HB0.out.trans (hbV.mono HB0.out.size)).setCell (p := ⟨W.heap.size, 0, .none⟩) (Nat.le_refl _) _).setCell (p := ⟨W.heap.size, 1, .none⟩) (Nat.le_refl _) _).setCell (p := ⟨W.heap.size + 1, 0, .none⟩) (Nat.le_succ _) _
  have low : ∀ {ee s k : Nat} {vv : Value} {xs : List Value}, V.ownsRow (W.heap.size + 1 + 1 + 1) ee s vv k xs → (((V.setCell ⟨W.heap.size, 0, .none⟩ (.int .u64 (num B 24 8))).setCell ⟨W.heap.size, 1, .none⟩ (.slice q E.length cs)).setCell ⟨W.heap.size + 1, 0, .none⟩ .nilIface).ownsRow W.heap.size ee s vv k xs := fun {ee s k vv xs} hv =>
   own_base (ownsRow_setCell_below (ownsRow_setCell_below (ownsRow_setCell_below hv (a := ⟨W.heap.size, 0, .none⟩) (by show W.heap.size < W.heap.size + 1 + 1 + 1; omega) _) (a := ⟨W.heap.size, 1, .none⟩) (by show W.heap.size < W.heap.size + 1 + 1 + 1; omega) _) (a := ⟨W.heap.size + 1, 0, .none⟩) (by show W.heap.size + 1 < W.heap.size + 1 + 1 + 1; omega) _) (by omega)
  have hS9 : Segs (((V.setCell ⟨W.heap.size, 0, .none⟩ (.int .u64 (num B 24 8))).setCell ⟨W.heap.size, 1, .none⟩ (.slice q E.length cs)).setCell ⟨W.heap.size + 1, 0, .none⟩ .nilIface) W.heap.size (.slice q E.length cs) E B := ⟨low hS.own, fun x hx => low (hS.dat x hx), hS.gd⟩
  clear low
  generalize (((V.setCell ⟨W.heap.size, 0, .none⟩ (.int .u64 (num B 24 8))).setCell ⟨W.heap.size, 1, .none⟩ (.slice q E.length cs)).setCell ⟨W.heap.size + 1, 0, .none⟩ .nilIface) = W9 at *
  have l0 : W.heap.size < W9.heap.size := lt_of_cell (x := ⟨W.heap.size, 0, .none⟩) s0
  have l1 : W.heap.size + 1 < W9.heap.size := lt_of_cell (x := ⟨W.heap.size + 1, 0, .none⟩) s2
  exact ⟨.tuple #[.agg #[.int .u64 (num B 24 8), .slice q E.length cs], .nilIface], by simp [results, Tryz.results53, go_sem, s0, s1, s2, l0, l1], .inr ⟨h1, _, E, rfl, hE, hS9, hln, bq⟩⟩
end Go.Proofs.YtacdgfojdkppmaaGreatDoor
