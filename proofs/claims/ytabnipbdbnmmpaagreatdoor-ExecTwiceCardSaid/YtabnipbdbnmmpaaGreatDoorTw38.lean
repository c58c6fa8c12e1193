import Derived.Test.YtabnipbdbnmmpaaGreatDoorTw26
import Derived.Test.YtabnipbdbnmmpaaGreatDoorTw01
import Derived.OrdersHeld
import Derived.Deep.MidRow
import Derived.Test.YtabnipbdbnmmpaaGreatDoorTw37
set_option linter.unusedVariables false
set_option linter.unusedSimpArgs false
namespace Go.Proofs.YtabnipbdbnmmpaaGreatDoor.Rm
open Go Go.RowKit
set_option maxHeartbeats 1000000 in
theorem put_zero (s va : Nat) (q : Option Addr) (cc : Nat) (f : Value) (w : World) : Calls Tryz.prog 53 #[.pointer (some ⟨s, 0, .none⟩), .int .u64 va, .slice q 0 cc, f] w fun e w' => e = .returned (.bool true) ∧ Below w.heap.size w w' := by
 obtain ⟨w1, hw1⟩ : ∃ w1, w1 = w.alloc (.cells #[.pointer (some ⟨s, 0, .none⟩)] 42) := ⟨_, rfl⟩
 obtain ⟨w2, hw2⟩ : ∃ w2, w2 = w1.alloc (.cells #[.slice q 0 cc] 24) := ⟨_, rfl⟩
 have z1 : w1.heap.size = w.heap.size + 1 := by rw [hw1]; simp
 have b1 : Below w.heap.size w w1 := by rw [hw1]; exact below1 _ _
 have b12 : Below w1.heap.size w1 w2 := by rw [hw2]; exact below1 _ _
 have b2 := b1.trans (b12.mono b1.size)
 have ks : w2.cell? ⟨w.heap.size, 0, .none⟩ = some (.pointer (some ⟨s, 0, .none⟩)) := (b12.cell (p := ⟨w.heap.size, 0, .none⟩) (by show w.heap.size < w1.heap.size; omega)).trans (by rw [hw1]; simp)
 have kb : w2.cell? ⟨w.heap.size + 1, 0, .none⟩ = some (.slice q 0 cc) := by rw [← z1, hw2]; simp
 have c52 := fun g : Value => each_zero (va : Int) f g w2 s
 have HB : Hid (Below w.heap.size w w2) := b2
 clear b1 b12 b2 z1
 go_enter Tryz.func53, Tryz.ntmps53
 go_upto_region 1 with fail
 rw [← hw1, ← hw2]
 clear hw1 hw2
 go_wp2_with (go_at_call 49; refine (c52 _).mono ?_; rintro _ x1 ⟨rfl, e1⟩; obtain rfl : w2 = x1 := e1.symm)
 go_ret
 exact ⟨rfl, HB.out⟩
section
variable {w : World} {s p b m N r P : Nat} {size : Int} {B : Nat → Int} {L : List Nat} {F : Nat → Option Nat} {lf : Nat → Nat → Int} {fr : Nat → Nat} {c : Nat → Int}
set_option maxHeartbeats 1000000 in
theorem poke_zero (h : SpU w s p b m N r P size B L F lf fr c) (va : Nat) (hv : (va : Int) < 18446744073709551616) (q : Option Addr) (cc : Nat) : Calls Tryz.prog 95 #[.pointer (some ⟨s, 0, .none⟩), .int .u64 va, .slice q 0 cc] w fun e w' => e = .returned (.bool (decide ((va : Int) ≤ size))) ∧ Below w.heap.size w w' := by
 have hm := h.pm
 have hsz := h.sz
 have c43 := made_sp h.sp
 have c50 := fits_gen (va : Int) 0 size (by omega) (by omega) (by omega) w
 rw [Int.add_zero] at c50
 have k2 := h.sp.c2
 have c57 := fun f : Value => put_zero s va q cc f w
 clear h hm hsz
 generalize decide ((va : Int) ≤ size) = v at *
 cases v
 all_goals
  go_enter Tryz.func95, Tryz.ntmps95
  go_wp2_with first | (go_at_call 46; refine c43.mono ?_; rintro _ x1 ⟨rfl, e1⟩; obtain rfl : w = x1 := e1.symm) | (go_at_call 47; refine c50.mono ?_; rintro _ x3 ⟨rfl, e9⟩; obtain rfl : w = x3 := e9.symm) | (go_at_call 53; refine (c57 _).mono ?_; rintro _ x4 ⟨rfl, b4⟩; have H4 : Hid (Below w.heap.size w x4) := b4; clear b4)
  go_ret
  first | exact ⟨rfl, Below.refl _ _⟩ | exact ⟨rfl, H4.out⟩
end
theorem SpM.poke0 {ox : Oxt} {w : World} {s p b m N r P K : Nat} {M c : Nat → Int} (h : SpM ox w s p b m N r P K M c) (va n : Nat) (hn : n = 0) (hv : va ≤ P * 4096) (q : Option Addr) (cc : Nat) (R : Nat → Int) :
  Calls Tryz.prog 95 #[.pointer (some ⟨s, 0, .none⟩), .int .u64 va, .slice q n cc] w (PmP ox w s p b m N r P K (wrM M va n R) c) := by
 subst hn
 obtain ⟨B, L, F, lf, fr, hG, hM, hO, hK⟩ := h
 have hm := hG.pm
 refine (poke_zero hG.su va (by omega) q cc).mono fun e w' h9 => ?_
 refine ⟨?_, (show SpM ox w s p b m N r P K (wrM M va 0 R) c from ⟨B, L, F, lf, fr, hG, fun a ha => ?_, hO, hK⟩).below h9.2, Fra.below h9.2⟩
 ·rw [h9.1, decide_eq_true (by omega)]
 ·unfold wrM
  rw [if_neg (by omega)]
  exact hM a ha
end Go.Proofs.YtabnipbdbnmmpaaGreatDoor.Rm
namespace Go.Proofs.YtabnipbdbnmmpaaGreatDoor.Rg
open Go
theorem x0 {a : Act} {d : Nat} {v : Value} : a.put (some d) v = { a with tmps := a.tmps.setIfInBounds d v } := rfl
theorem x1 {α : Type} {l : List α} {i : Nat} {a : α} : l.toArray.setIfInBounds i a = (l.set i a).toArray := List.setIfInBounds_toArray ..
theorem x2 {α : Type} {l : List α} {a b : α} : (a :: l).set 0 b = b :: l := List.set_cons_zero ..
theorem x3 {α : Type} {l : List α} {a b : α} {n : Nat} : (a :: l).set (n + 1) b = a :: l.set n b := List.set_cons_succ ..
theorem x4 {α : Type} {l : List α} {i : Nat} (h : i < l.toArray.size) : l.toArray[i] = l[i]'(by simpa using h) := List.getElem_toArray ..
theorem x5 {α : Type} {a : α} {l : List α} {i : Nat} (h : i + 1 < (a :: l).length) : (a :: l)[i + 1] = l[i]'(Nat.lt_of_succ_lt_succ h) := List.getElem_cons_succ ..
theorem x6 {α : Type} {a : α} {l : List α} (h : 0 < (a :: l).length) : (a :: l)[0] = a := List.getElem_cons_zero ..
section
variable {P : Program} {ops : Array Oper} {Q : Exit → Act → World → Prop} {S : World → Prop} {md : Region.Mode}
theorem nT {fuel : Nat} {listed : Array Bool} {a : Act} {w : World} {oi : Oper} (i : Nat) (v : Value) (hi : ops[i]? = some oi) (h : wpAnyH P md ops Q S fuel (listed.setIfInBounds i true) (a.put oi.dst v) w) (hy : ∀ ww, S ww → (execOp a.eval oi).run P ww = .ok (.value v) ww := by exact fun ww hSw => by (try dsimp only at hSw); go_simp) (hw : Region.wanted oi (yielded ops a.tmps) = true := by rfl) (hs : Region.noSelect ops = true := by kernel_rfl) (hf : Region.free md ops listed i = true := by kernel_rfl) (hr : (Region.ready md ops listed).contains i = true := by kernel_rfl) (hS : S w := by assumption) (hQ : ∀ c a w, Q (.panic c) (a.put oi.dst v) w → Q (.panic c) a w := by exact fun _ _ _ h => h) : wpAnyH P md ops Q S (fuel + 1) listed a w :=
 wpAnyH_take hi hs hf hr hQ (.inl ⟨hw, hy⟩) hS h
end
end Go.Proofs.YtabnipbdbnmmpaaGreatDoor.Rg
namespace Go.Proofs.YtabnipbdbnmmpaaGreatDoor
open Go.RowKit Go.Shelf Rg
def Z4M (w : World) (Z : Nat) (en : Int) (q : Option Addr) (n c gp : Nat) (sp : Int) : Prop := w.cell? ⟨Z, 0, .none⟩ = some (.int .u64 en) ∧ w.cell? ⟨Z, 1, .none⟩ = some (.slice q n c) ∧ w.cell? ⟨Z, 2, .none⟩ = some (.slice (some ⟨gp, 0, .none⟩) 4096 4096) ∧ w.cell? ⟨Z, 3, .none⟩ = some (.int .u64 sp)
theorem Z4M.of {w w' : World} {Z : Nat} {en : Int} {q : Option Addr} {n c gp : Nat} {sp : Int} (h : Z4M w Z en q n c gp sp) (k : w'.heap[Z]? = w.heap[Z]?) : Z4M w' Z en q n c gp sp :=
 ⟨(cell_heap k _ _).trans h.1, (cell_heap k _ _).trans h.2.1, (cell_heap k _ _).trans h.2.2.1, (cell_heap k _ _).trans h.2.2.2⟩
def sgM (Bq : Nat → Int) (S : List Sg) : Nat → Int := S.foldl (fun M x => Rm.wrM M x.va.toNat x.sz (fun j => Bq (x.wh + j))) (fun _ => 0)
theorem sgM_next (Bq : Nat → Int) {S : List Sg} {i : Nat} {x : Sg} (h : S[i]? = some x) : sgM Bq (S.take (i + 1)) = Rm.wrM (sgM Bq (S.take i)) x.va.toNat x.sz (fun j => Bq (x.wh + j)) := by
 unfold sgM
 rw [List.take_add_one, h]
 simp [List.foldl_append]
def pgM (Bq : Nat → Int) (S : List Sg) (e : Nat) (Rp : Nat → Int) : Nat → Int := Rm.wrM (sgM Bq S) ((e + 1) * 4096) 4096 Rp
def LiM (ox : Rm.Oxt) (w0 : World) (s p b m N r e K : Nat) (Bq : Nat → Int) (S : List Sg) (Rp : Nat → Int) (en : Ending) (w' : World) : Prop := en = .returned (.tuple #[]) ∧ Rm.Fra p b m w0 w' ∧ Rm.SpM ox w' s p b m N r (e + 2) K (pgM Bq S e Rp) (Rm.upd (cS S) e 198)
set_option maxRecDepth 4000 in
set_option maxHeartbeats 4000000 in
theorem layIntoM {ox : Rm.Oxt} {w0 w : World} {s p b m N r : Nat} {X c gp : Nat} {q : Option Addr} {E : List (Sg × Value)} {Bq Rp : Nat → Int} (hE : Segs w0 X (.slice q E.length c) E Bq) (hE0 : E ≠ []) (hl : E.length ≤ 8) (hL : Laid3 w0) (en sp : Int)
  (hX : p < X ∧ b < X ∧ m < X) (hgp : p < gp ∧ b < gp ∧ m < gp ∧ gp < w0.heap.size) (hRp : ∀ i, 0 ≤ Rp i ∧ Rp i < 256) (hpg : ∀ i, i < 4096 → w0.cell? ⟨gp, i, .none⟩ = some (.int .u8 (Rp i))) (h3 : 2 < p ∧ 2 < b ∧ 2 < m) (hpw : p < w0.heap.size ∧ b < w0.heap.size ∧ m < w0.heap.size) (hs : w0.heap.size ≤ s)
  (hB : ∀ i, 0 ≤ Bq i ∧ Bq i < 256) (e : Nat) (he : ePg (E.map (·.1)) = (e : Int)) (hr6 : rgP (E.map (·.1)) (e : Int) = 6) (hin : ∀ x ∈ E, 0 ≤ x.1.va ∧ x.1.va + x.1.sz ≤ (e : Int) * 4096) (he2 : 1 ≤ e ∧ e + 2 ≤ 4096) (K : Nat) (hn : ((e + 2 : Nat) : Int) + Rm.ndP ((e + 2 : Nat) : Int) ≤ K) (h0 : Rm.Fra p b m w0 w ∧ Rm.SpM ox w s p b m N r 0 K (fun _ => 0) (cS (E.map (·.1)))) (hsw : s < w.heap.size) :
  Calls Tryz.prog 44 #[(.agg #[.int .u64 en, .slice q E.length c, .slice (some ⟨gp, 0, .none⟩) 4096 4096, .int .u64 sp]), .pointer (some ⟨s, 0, .none⟩)] w (LiM ox w0 s p b m N r e K Bq (E.map (·.1)) Rp) := by
 obtain ⟨Z, hZ⟩ : ∃ Z, Z = w.heap.size := ⟨_, rfl⟩
 obtain ⟨w1, hw1⟩ : ∃ w1, w1 = w.alloc (.cells #[.int .u64 en, .slice q E.length c, .slice (some ⟨gp, 0, .none⟩) 4096 4096, .int .u64 sp] 92) := ⟨_, rfl⟩
 have b1 : Below w.heap.size w w1 := by rw [hw1]; exact (Below.refl _ _).alloc (Nat.le_refl _) _
 have z1 : w1.heap.size = Z + 1 := by rw [hw1, hZ]; simp
 have kS : Z4M w1.drew Z en q E.length c gp sp := by
  have : Z4M w1 Z en q E.length c gp sp := by rw [hw1, hZ]; exact ⟨by simp, by simp, by simp, by simp⟩
  exact this
 obtain ⟨hf0, hN0⟩ := h0
 have hw0 : w0.heap.size ≤ w.heap.size := hf0.size
 have f1 : Rm.Fra p b m w0 w1.drew := hf0.trans ((Rm.Fra.below b1).trans (Rm.Fra.below (Below.refl _ _).drew))
 have hE1 := hE.fraM f1 hX
 have c58 := pages_any (w := w1.drew) hE1 hE0 hl en sp (some ⟨gp, 0, .none⟩) 4096 4096
 rw [he] at c58
 obtain ⟨_, _, ef, hcE1, hcE2, _⟩ := own_form hE.own
 cases ef
 have HN0 : Hid (Rm.SpM ox w1.drew s p b m N r 0 K (fun _ => 0) (cS (E.map (·.1)))) := (hN0.below b1).below (Below.refl _ _).drew
 have HE : Hid (Segs w0 X (.slice q E.length c) E Bq ∧ Laid3 w0 ∧ Rm.Fra p b m w0 w1.drew) := ⟨hE, hL, f1⟩
 have HR : Hid ((∀ i, 0 ≤ Rp i ∧ Rp i < 256) ∧ (∀ i, i < 4096 → w0.cell? ⟨gp, i, .none⟩ = some (.int .u8 (Rp i))) ∧ (∀ i, 0 ≤ Bq i ∧ Bq i < 256)) := ⟨hRp, hpg, hB⟩
 have HI : Hid (ePg (E.map (·.1)) = (e : Int) ∧ rgP (E.map (·.1)) (e : Int) = 6 ∧ ∀ x ∈ E, 0 ≤ x.1.va ∧ x.1.va + x.1.sz ≤ (e : Int) * 4096) := ⟨he, hr6, hin⟩
 clear hE hL hRp hpg hB hN0 hf0 f1 hE1 he hr6 hin
 go_enter Tryz.func44, Tryz.ntmps44
 go_upto_region 1 with fail
 rw [← hw1, ← hZ]
 have HZ : Hid (Z = w.heap.size ∧ Below w.heap.size w w1) := ⟨hZ, b1⟩
 have hZge : w.heap.size ≤ Z := by omega
 clear hw1 hZ b1
 refine wp_region_held_drew (S := (fun U => Z4M U Z en q E.length c gp sp)) (by kernel_rfl) kS (fun hHeld => ?_)
 refine nT 0 (.pointer (some ⟨s, 0, .none⟩)) rfl ?_ (fun ww hSw => by obtain ⟨q0, q1, q2, q3⟩ := hSw; go_simp)
 simp only [x0,x1,x2,x3,x4,x5,x6]
 refine nT 1 (.agg #[.int .u64 en, .slice q E.length c, .slice (some ⟨gp, 0, .none⟩) 4096 4096, .int .u64 sp]) rfl ?_ (fun ww hSw => by obtain ⟨q0, q1, q2, q3⟩ := hSw; go_simp)
 simp only [x0,x1,x2,x3,x4,x5,x6]
 refine nT 3 (.agg #[.int .u64 en, .slice q E.length c, .slice (some ⟨gp, 0, .none⟩) 4096 4096, .int .u64 sp]) rfl ?_ (fun ww hSw => by obtain ⟨q0, q1, q2, q3⟩ := hSw; go_simp)
 simp only [x0,x1,x2,x3,x4,x5,x6]
 refine nT 4 (.func (.func 94) #[(.agg #[.int .u64 en, .slice q E.length c, .slice (some ⟨gp, 0, .none⟩) 4096 4096, .int .u64 sp])] #[]) rfl ?_ (fun ww hSw => by obtain ⟨q0, q1, q2, q3⟩ := hSw; go_simp)
 simp only [x0,x1,x2,x3,x4,x5,x6]
 refine wpAnyH_ready (rs := [2]) (by kernel_rfl) (by simp) ?_
 refine AllReadyH.cons rfl (fun K9 hK => ?_) AllReadyH.nil
 go_simp
 go_at_call 90
 refine c58.mono ?_
 rintro _ w2 ⟨rfl, b2⟩
 have kS2 : Z4M w2 Z en q E.length c gp sp := kS.of (b2.block Z (by show Z < w1.heap.size; omega))
 have HB2 : Hid (Below w1.drew.heap.size w1.drew w2 ∧ Rm.Fra p b m w0 w2) := ⟨b2, HE.out.2.2.trans (Rm.Fra.below b2)⟩
 have hz2 : Z + 1 ≤ w2.heap.size := by have := b2.size; show Z + 1 ≤ _; have hh : w1.drew.heap.size = w1.heap.size := rfl; omega
 clear b2 c58
 refine hK.out _ _ kS2 (fun hHeld => ?_)
 clear hK K9
 try simp only [x0,x1,x2,x3,x4,x5,x6]
 have c61 := exGrowM (w0 := w0) (wi := w2) (w := w2) HE.out.1 HE.out.2.1 hl en sp (some ⟨gp, 0, .none⟩) 4096 4096 hX h3 hs K (e + 2) (by omega) hn ⟨HB2.out.2, Rm.Tch.of (Rm.Fra.refl _ _ _ _), HN0.out.below HB2.out.1⟩
 rw [show (((e + 2 : Nat) : Int)) = (e : Int) + 2 by omega] at c61
 refine wpAnyH_ready (rs := [5]) (by kernel_rfl) (by simp) ?_
 refine AllReadyH.cons rfl (fun K9 hK => ?_) AllReadyH.nil
 go_simp
 go_at_call 93
 refine c61.mono ?_
 rintro _ w3 ⟨rfl, hf3, ht3, hN3⟩
 have kS3 : Z4M w3 Z en q E.length c gp sp := kS2.of (ht3.block Z (by omega) (by omega) (by omega) (by omega) (by have := HZ.out.1; omega))
 have H3 : Hid (Rm.Fra p b m w0 w3 ∧ Rm.SpM ox w3 s p b m N r (e + 2) K (fun _ => 0) (cS (E.map (·.1)))) := ⟨hf3, hN3⟩
 have hz3 := ht3.size
 clear hf3 ht3 hN3 c61
 refine hK.out _ _ kS3 (fun hHeld => ?_)
 clear hK K9
 try simp only [x0,x1,x2,x3,x4,x5,x6]
 refine wpAnyH_done (by kernel_rfl) ?_ _
 obtain ⟨k0, k1, k2, k3⟩ := kS3
 have HK : Hid (Z4M w3 Z en q E.length c gp sp) := ⟨k0, k1, k2, k3⟩
 clear kS kS2 hHeld
 have hlE : (0 : Int) ≤ E.length := by omega
 go_wp2_with fail
 go_loopw [16] (fun k wr => ∃ i : Nat, i ≤ E.length ∧ k = .int .i64 i ∧ Hid (Rm.Fra p b m w3 wr ∧ Rm.SpM ox wr s p b m N r (e + 2) K (sgM Bq ((E.map (·.1)).take i)) (cS (E.map (·.1))))) (fun k _ => (E.length - intOf k).toNat)
 case atStart => exact ⟨0, by omega, rfl, Rm.Fra.refl _ _ _ _, H3.out.2⟩
 case round =>
  obtain ⟨i, hi, rfl, HG⟩ := hrel
  by_cases hlt : i < E.length
  ·have g0 : (i : Int) < E.length := by omega
   obtain ⟨x, hx⟩ : ∃ x, E[i]? = some x := ⟨E[i], List.getElem?_eq_getElem hlt⟩
   have hS1 := HE.out.1.fraM (H3.out.1.trans HG.out.1) hX
   have hxm := List.mem_of_getElem? hx
   obtain ⟨f0, f1, f2, f3⟩ := flatE_get E _ x hx
   obtain ⟨g, rfl, a0⟩ := own_cell hS1.own f0 (by omega) (by omega)
   obtain ⟨g1, e1, a1⟩ := own_cell hS1.own f1 (by omega) (by omega)
   obtain ⟨g2, e2, a2⟩ := own_cell hS1.own f2 (by omega) (by omega)
   obtain ⟨g3, e3, a3⟩ := own_cell hS1.own f3 (by omega) (by omega)
   simp only [Option.some.injEq, Addr.mk.injEq, and_true] at e1 e2 e3
   subst e1 e2 e3
   have hii := HI.out.2.2 x hxm
   have hdat := hS1.dat x hxm
   obtain ⟨dq, dc, hld, hdc1, hdc2, hdn⟩ := own_form hdat
   rw [hld] at a2 hdat
   obtain ⟨va, hva⟩ : ∃ va : Nat, x.1.va = va := ⟨x.1.va.toNat, by omega⟩
   rw [hva] at a0 hii
   have hA : Below wr.heap.size wr (wr.alloc (.cells #[.int .u64 (va : Int), .int .u32 x.1.fl, .slice dq x.1.sz dc, .int .u64 x.1.mem] 38)) := (Below.refl _ _).alloc (Nat.le_refl _) _
   have c63 : Calls Tryz.prog 95 #[.pointer (some ⟨s, 0, .none⟩), .int .u64 va, .slice dq x.1.sz dc] (wr.alloc (.cells #[.int .u64 (va : Int), .int .u32 x.1.fl, .slice dq x.1.sz dc, .int .u64 x.1.mem] 38)) (Rm.PmP ox (wr.alloc (.cells #[.int .u64 (va : Int), .int .u32 x.1.fl, .slice dq x.1.sz dc, .int .u64 x.1.mem] 38)) s p b m N r (e + 2) K (Rm.wrM (sgM Bq ((E.map (·.1)).take i)) va x.1.sz (fun j => Bq (x.1.wh + j))) (cS (E.map (·.1)))) := by
    by_cases hs0 : x.1.sz = 0
    ·exact (HG.out.2.below hA).poke0 va x.1.sz hs0 (by omega) dq dc _
    ·have hii2 : 1 ≤ x.1.sz := by omega
     obtain ⟨gd, rfl⟩ : ∃ gd, dq = some ⟨gd, 0, .none⟩ := by
      obtain ⟨k, hk⟩ : ∃ k, x.1.sz = k + 1 := ⟨x.1.sz - 1, by omega⟩
      rw [hk] at hdat
      exact own_some hdat
     have hxg : X ≤ gd := by
      have := own_block hdat gd rfl
      exact this
     have hdcell : ∀ i, i < x.1.sz → wr.cell? ⟨gd, 0 + i, .none⟩ = some (.int .u8 (Bq (x.1.wh + i))) := fun i hi => by
      have h1 : (by8 (byt Bq x.1))[i]? = some (.int .u8 (Bq (x.1.wh + i))) := by8_get (byt_get Bq x.1 i hi)
      obtain ⟨g', eg, hc⟩ := own_cell hdat h1 (by omega) (by omega)
      cases eg
      rw [Nat.zero_add]
      exact hc
     have gdl : gd < wr.heap.size := lt_of_cell (hdcell 0 (by omega))
     exact (HG.out.2.below hA).poke va x.1.sz hii2 (by omega) gd 0 dc ⟨hdc1, hdc2⟩ (fun i => Bq (x.1.wh + i)) (fun i => HR.out.2.2 _) (fun i hi => (hA.cell (p := ⟨gd, 0 + i, .none⟩) gdl).trans (hdcell i hi)) ⟨by omega, by omega, by omega⟩
   have HXN : Hid (sgM Bq ((E.map (·.1)).take (i + 1)) = Rm.wrM (sgM Bq ((E.map (·.1)).take i)) va x.1.sz (fun j => Bq (x.1.wh + j))) := by
    have h9 := sgM_next Bq (S := E.map (·.1)) (i := i) (x := x.1) (by rw [List.getElem?_map, hx]; rfl)
    rw [hva] at h9
    exact h9
   have HA : Hid (Below wr.heap.size wr (wr.alloc (.cells #[.int .u64 (va : Int), .int .u32 x.1.fl, .slice dq x.1.sz dc, .int .u64 x.1.mem] 38))) := hA
   have hva0 : (0 : Int) ≤ va := by omega
   clear hS1 hxm f0 f1 f2 f3 hdat hld hdn hx hva hA hii
   go_wp2_with (go_at_call 95; refine c63.mono ?_; rintro _ w4 ⟨rfl, m4, f4⟩; have H4 : Hid (Rm.SpM ox w4 s p b m N r (e + 2) K (Rm.wrM (sgM Bq ((E.map (·.1)).take i)) va x.1.sz (fun j => Bq (x.1.wh + j))) (cS (E.map (·.1))) ∧ Rm.Fra p b m w3 w4) := ⟨m4, HG.out.1.trans ((Rm.Fra.below HA.out).trans f4)⟩; clear m4 f4 c63)
   exact ⟨⟨i + 1, by omega, rfl, H4.out.2, by rw [HXN.out]; exact H4.out.1⟩, by simp only [intOf]; omega⟩
  ·obtain rfl : i = E.length := by omega
   have hlm : (E.map (·.1)).take E.length = E.map (·.1) := List.take_of_length_le (by rw [List.length_map]; exact Nat.le_refl _)
   obtain ⟨hf4, hN4⟩ := HG.out
   rw [hlm] at hN4
   have hz4 := hf4.size
   have f04 : Rm.Fra p b m w0 wr := H3.out.1.trans hf4
   have kS4 : Z4M wr.drew Z en q E.length c gp sp := HK.out.of (hf4.block Z (by omega) (by omega) (by omega) (by omega))
   have c57 := stackAt_any (w := wr.drew) (HE.out.1.fraM (f04.trans (Rm.Fra.below (Below.refl _ _).drew)) hX) hE0 hl en sp (some ⟨gp, 0, .none⟩) 4096 4096
   rw [HI.out.1] at c57
   have H4 : Hid (Rm.Fra p b m w0 wr.drew ∧ Rm.SpM ox wr.drew s p b m N r (e + 2) K (sgM Bq (E.map (·.1))) (cS (E.map (·.1)))) := ⟨f04.trans (Rm.Fra.below (Below.refl _ _).drew), hN4.below (Below.refl _ _).drew⟩
   clear hf4 hN4 f04 HG hlm hlt
   go_upto_region 7 with fail
   refine wp_region_held_drew (S := (fun U => Z4M U Z en q E.length c gp sp)) (by kernel_rfl) kS4 (fun hHeld => ?_)
   refine nT 0 (.pointer (some ⟨s, 0, .none⟩)) rfl ?_ (fun ww hSw => by obtain ⟨q0, q1, q2, q3⟩ := hSw; go_simp)
   simp only [x0,x1,x2,x3,x4,x5,x6]
   refine nT 1 (.agg #[.int .u64 en, .slice q E.length c, .slice (some ⟨gp, 0, .none⟩) 4096 4096, .int .u64 sp]) rfl ?_ (fun ww hSw => by obtain ⟨q0, q1, q2, q3⟩ := hSw; go_simp)
   simp only [x0,x1,x2,x3,x4,x5,x6]
   refine nT 3 (.pointer (some ⟨Z, 2, .none⟩)) rfl ?_ (fun ww hSw => by obtain ⟨q0, q1, q2, q3⟩ := hSw; go_simp)
   simp only [x0,x1,x2,x3,x4,x5,x6]
   refine nT 4 (.pointer (some ⟨Z, 2, .none⟩)) rfl ?_ (fun ww hSw => by obtain ⟨q0, q1, q2, q3⟩ := hSw; go_simp)
   simp only [x0,x1,x2,x3,x4,x5,x6]
   refine nT 5 (.slice (some ⟨gp, 0, .none⟩) 4096 4096) rfl ?_ (fun ww hSw => by obtain ⟨q0, q1, q2, q3⟩ := hSw; go_simp)
   simp only [x0,x1,x2,x3,x4,x5,x6]
   refine wpAnyH_ready (rs := [2]) (by kernel_rfl) (by simp) ?_
   refine AllReadyH.cons rfl (fun K9 hK => ?_) AllReadyH.nil
   go_simp
   go_at_call 89
   refine c57.mono ?_
   rintro _ w5 ⟨rfl, b5⟩
   have kS5 : Z4M w5 Z en q E.length c gp sp := kS4.of (b5.block Z (by show Z < wr.heap.size; omega))
   have H5 : Hid (Rm.Fra p b m w0 w5 ∧ Rm.SpM ox w5 s p b m N r (e + 2) K (sgM Bq (E.map (·.1))) (cS (E.map (·.1)))) := ⟨H4.out.1.trans (Rm.Fra.below b5), H4.out.2.below b5⟩
   have hz5 : wr.heap.size ≤ w5.heap.size := b5.size
   clear b5 c57
   refine hK.out _ _ kS5 (fun hHeld => ?_)
   clear hK K9
   try simp only [x0,x1,x2,x3,x4,x5,x6]
   have c63 := H5.out.2.poke ((e + 1) * 4096) 4096 (by omega) (by omega) gp 0 4096 (by omega) Rp HR.out.1 (fun i hi => by
    rw [Nat.zero_add]
    exact (H5.out.1.cell (x := ⟨gp, i, .none⟩) hgp.2.2.2 (by show gp ≠ p; omega) (by show gp ≠ b; omega) (by show gp ≠ m; omega)).trans (HR.out.2.1 i hi)) (by omega)
   rw [show (((e + 1) * 4096 : Nat) : Int) = ((e : Int) + 1) * 4096 by omega] at c63
   refine wpAnyH_ready (rs := [6]) (by kernel_rfl) (by simp) ?_
   refine AllReadyH.cons rfl (fun K9 hK => ?_) AllReadyH.nil
   go_simp
   go_at_call 95
   refine c63.mono ?_
   rintro _ w6 ⟨rfl, r6, f6⟩
   have kS6 : Z4M w6 Z en q E.length c gp sp := kS5.of (f6.block Z (by omega) (by omega) (by omega) (by omega))
   have H6 : Hid (Rm.Fra p b m w0 w6 ∧ Rm.SpM ox w6 s p b m N r (e + 2) K (pgM Bq (E.map (·.1)) e Rp) (cS (E.map (·.1)))) := ⟨H5.out.1.trans f6, r6⟩
   have hz6 := f6.size
   clear r6 f6 c63
   refine hK.out _ _ kS6 (fun hHeld => ?_)
   clear hK K9
   try simp only [x0,x1,x2,x3,x4,x5,x6]
   refine wpAnyH_done (by kernel_rfl) ?_ _
   have c65 := guard_any (w := w6) (HE.out.1.fraM H6.out.1 hX) hE0 hl en sp (some ⟨gp, 0, .none⟩) 4096 4096
   rw [HI.out.1] at c65
   obtain ⟨k0, k1, k2, k3⟩ := kS6
   have HC : Hid (∀ W, Below w6.heap.size w6 W → Calls Tryz.prog 96 #[.pointer (some ⟨s, 0, .none⟩), .int .i64 e] W fun e9 w' => e9 = .returned (.int .i64 0) ∧ Rm.SpM ox w' s p b m N r (e + 2) K (pgM Bq (E.map (·.1)) e Rp) (Rm.upd (cS (E.map (·.1))) e 198) ∧ Rm.Fra p b m W w') := fun W bW =>
    (H6.out.2.below bW).guard e ⟨by omega, by omega⟩ (d := 198) (by
     unfold cS
     rw [HI.out.2.1]
     exact .inr (.inl ⟨rfl, rfl⟩))
   go_wp2_with first | (go_at_call 97; refine c65.mono ?_; rintro _ w7 ⟨rfl, b7⟩; have H7 : Hid (Below w6.heap.size w6 w7) := b7; clear b7) | (go_at_call 96; refine (HC.out _ H7.out).mono ?_; rintro _ w8 ⟨rfl, m8, f8⟩)
   refine bodyPost_end (v := .tuple #[]) (by simp [results, Tryz.results44, go_sem]) rfl ⟨rfl, H6.out.1.trans ((Rm.Fra.below H7.out).trans f8), m8⟩
end Go.Proofs.YtabnipbdbnmmpaaGreatDoor
