import Derived.Test.YtabnipbdbnmmpaaGreatDoorTw17
import Derived.Test.YtabnipbdbnmmpaaGreatDoorTw09
set_option linter.unusedVariables false
set_option linter.unusedSimpArgs false
namespace Go.Proofs.YtabnipbdbnmmpaaGreatDoor.Rm
open Go Go.RowKit
section
variable {w : World} {p b m N : Nat} {B : Nat → Int} {L : List Nat} {F : Nat → Option Nat} {lf : Nat → Nat → Int}
theorem look_need (h : PT N L B F lf) (hN : N ≤ 4096) {r : Nat} (hr : F 0 = some r) (va : Int) (hz : lf (y0 va) (i0 va) = 0) : (look N L B (ad r) va).k = 0 ∧ (look N L B (ad r) va).l = (need F va : Nat) := by
 unfold need
 cases h1 : F (y1 va) with
 | none =>
  rw [look_2 h hr va h1]
  simp
 | some g =>
  cases h0 : F (y0 va) with
  | none =>
   rw [look_1 h hN hr va h1 h0]
   simp
  | some q =>
   rw [look_0 h hN hr va h1 h0, hz]
   simp [kd_zero]
theorem look_full (h : PT N L B F lf) (hN : N ≤ 4096) {r : Nat} (hr : F 0 = some r) (va : Int) (hz : lf (y0 va) (i0 va) ≠ 0) : (look N L B (ad r) va).k = 2 ∧ (look N L B (ad r) va).l = 0 ∧ (look N L B (ad r) va).e = lf (y0 va) (i0 va) := by
 obtain ⟨g, q, h1, h0⟩ := h.way va hz
 rw [look_0 h hN hr va h1 h0]
 refine ⟨?_, rfl, rfl⟩
 rcases h.lv (y0 va) (i0 va) with h2 | h2
 ·exact absurd h2 hz
 ·exact h2.1
theorem map_full (h : Ram w p b m N B L) (hP : PT N L B F lf) {r : Nat} (hr : F 0 = some r) (x : Pg) (hx : okP x) (hmp : (!ho x.2.2 18446744073709551361 && ho x.2.2 10 && (!hs x.2.2 4 || hs x.2.2 2)) = true) :
  Calls Tryz.prog 145 #[.pointer (some ⟨p, 0, .none⟩), .int .u64 (ad r), .int .u64 x.1, .int .u64 x.2.1, .int .u64 x.2.2] w fun e w' =>
   (lf (y0 x.1) (i0 x.1) ≠ 0 ∧ e = .returned (.int .i64 84) ∧ Below w.heap.size w w') ∨ (lf (y0 x.1) (i0 x.1) = 0 ∧ L.length < need F x.1 ∧ e = .returned (.int .i64 85) ∧ Below w.heap.size w w') ∨
   (lf (y0 x.1) (i0 x.1) = 0 ∧ need F x.1 ≤ L.length ∧ e = .returned (.int .i64 0) ∧ ∃ B' L' F', LP N x.1 (toP x.2.1 x.2.2) L B F lf L' B' F' ∧ L.length = need F x.1 + L'.length ∧ Ram w' p b m N B' L' ∧ Fra p b m w w') := by
 have hN := h.mem.n2
 have hrN := hP.held 0 r hr
 have hrb : 0 ≤ ad r ∧ ad r < 18446744073709551616 := by unfold ad; omega
 obtain ⟨hv, hpa, hpm, hkd⟩ := hx
 have htp := toP_val x.2.1 x.2.2 ⟨hpa.1, hpa.2.1⟩ ⟨hpm.1, by omega⟩ hpm.2.2
 have hk : kd (toP x.2.1 x.2.2) 0 = 2 ∧ 0 ≤ toP x.2.1 x.2.2 ∧ toP x.2.1 x.2.2 < 18446744073709551616 := ⟨hkd, by omega, by omega⟩
 refine (map_late h (ad r) x.1 x.2.1 x.2.2 hrb ⟨hv.1, by omega⟩ ⟨hpa.1, by omega⟩ ⟨hv.2.2, hv.2.1⟩ ⟨hpa.2.2, hpa.2.1⟩ hmp).mono fun e w' hM => ?_
 unfold MapP at hM
 have hnd := hP.ndB hr
 by_cases hz : lf (y0 x.1) (i0 x.1) = 0
 ·obtain ⟨l1, l2⟩ := look_need hP hN hr x.1 hz
  rw [l1, l2] at hM
  rcases hM with ⟨h1, _⟩ | ⟨_, h1, _⟩ | ⟨_, _, h1, h2, h3⟩ | ⟨_, _, h0, h2, B', L', h3, h4, h5, h6⟩
  ·rw [hnd] at h1; cases h1
  ·exact absurd rfl h1
  ·exact .inr (.inl ⟨hz, by omega, h2, h3⟩)
  ·obtain ⟨F', R⟩ := lays_pt hP hN h.nd h.lt hr hk h3
   refine .inr (.inr ⟨hz, by omega, h2, B', L', F', R, ?_, h5, h6⟩)
   have h7 := congrArg List.length h4
   rw [List.length_append, List.length_take] at h7
   simp only [Int.toNat_natCast] at h7
   omega
 ·obtain ⟨l1, _⟩ := look_full hP hN hr x.1 hz
  rw [l1] at hM
  rcases hM with ⟨h1, _⟩ | ⟨_, _, h1, h2⟩ | ⟨_, h1, _⟩ | ⟨_, h1, _⟩
  ·rw [hnd] at h1; cases h1
  ·exact .inl ⟨hz, h1, h2⟩
  ·omega
  ·omega
end
end Go.Proofs.YtabnipbdbnmmpaaGreatDoor.Rm
namespace Go.Proofs.YtabnipbdbnmmpaaGreatDoor.Rm
open Go Go.RowKit Go.Shelf
attribute [local go_sem] Oper.semAt_some
attribute [local irreducible] eM evs
def lvO (x : Ev) : Option (Int × Int) := if x.p.k = 2 then some (ext x.va, x.p.e) else none
def lvl (l : List Ev) : List (Int × Int) := l.filterMap lvO
theorem Mv.drew {Good : Nat → World → Prop} (U : World) : Mv Good U U.drew := Mv.below ((Below.refl _ U).drew)
section
variable {w : World} {p b mm N r : Nat} {B : Nat → Int} {L : List Nat} {F : Nat → Option Nat} {lf : Nat → Nat → Int}
end
end Go.Proofs.YtabnipbdbnmmpaaGreatDoor.Rm
namespace Go.Proofs.YtabnipbdbnmmpaaGreatDoor.Rm
open Go Go.RowKit Go.Shelf
attribute [local irreducible] eM
theorem ev_leaf {F : Nat → Option Nat} {lf : Nat → Nat → Int} {c : Nat} {x : Ev} (h : ev F lf c = some x) (hk : x.p.k = 2) : c % 3 = 2 ∧ x.va = vaP (c / 3) ∧ x.p.e = lf (x0 (c / 3)) (c / 3 % 512) ∧ x.p.e ≠ 0 := by
 unfold ev at h
 split at h
 ·split at h
  ·rw [Option.map_eq_some_iff] at h
   obtain ⟨g, hg, rfl⟩ := h
   exact absurd (show (3 : Int) = 2 from hk) (by decide)
  ·cases h
 ·split at h
  ·split at h
   ·rw [Option.bind_eq_some_iff] at h
    obtain ⟨g, hg, h⟩ := h
    rw [Option.map_eq_some_iff] at h
    obtain ⟨q, hq, rfl⟩ := h
    exact absurd (show (3 : Int) = 2 from hk) (by decide)
   ·cases h
  ·rw [Option.bind_eq_some_iff] at h
   obtain ⟨g, hg, h⟩ := h
   rw [Option.bind_eq_some_iff] at h
   obtain ⟨q, hq, h⟩ := h
   split at h
   ·cases h
   ·rename_i h0 h1 hne
    injection h with h
    subst h
    exact ⟨by omega, rfl, rfl, hne⟩
section
variable {N : Nat} {L : List Nat} {B : Nat → Int} {F : Nat → Option Nat} {lf : Nat → Nat → Int} {l : List Pg}
theorem ev_leaf_at (h : PT N L B F lf) (P : Nat) (hP : P < 134217728) (hl : lf (x0 P) (P % 512) ≠ 0) : ∃ x, ev F lf (3 * P + 2) = some x ∧ x.p.k = 2 ∧ x.va = vaP P ∧ x.p.e = lf (x0 P) (P % 512) := by
 obtain ⟨g, q, h1, h0⟩ := h.way (vaP P) (by rw [vaP_y0 P hP, vaP_i0 P hP]; exact hl)
 rw [vaP_y1 P hP] at h1
 rw [vaP_y0 P hP] at h0
 have e : ev F lf (3 * P + 2) = some ⟨vaP P, 0, ⟨st (ad q) (vaP P) 0, st (ad g) (vaP P) 1, st (ad (rtF F)) (vaP P) 2, 0, lf (x0 P) (P % 512), 2⟩⟩ := by
  unfold ev
  rw [if_neg (by omega), if_neg (by omega), show (3 * P + 2) / 3 = P by omega, h1, h0]
  simp only [Option.bind_some]
  rw [if_neg hl]
 exact ⟨_, e, rfl, rfl, rfl⟩
theorem TL.met (h : TL F lf l) (P : Nat) (hl : lf (x0 P) (P % 512) ≠ 0) : ∃ x ∈ l, x.1 = vaP P ∧ lf (x0 P) (P % 512) = toP x.2.1 x.2.2 := by
 obtain ⟨x, hx, h1, h2⟩ := h.only (x0 P) (P % 512) (by unfold x0; omega) (by omega) hl
 refine ⟨x, hx, ?_, by rw [h1, h2]; exact h.leaf x hx⟩
 have hb := (h.ok x hx).1
 rw [y0_val x.1 ⟨hb.1, hb.2.1⟩] at h1
 have e0 : i0 x.1 = (x.1 / 4096 % 512).toNat := by
  unfold i0 ix
  rw [spn0]
 rw [e0] at h2
 unfold x0 at h1
 unfold vaP
 omega
theorem ext_low (va : Int) (h : 0 ≤ va ∧ va < 274877906944) : ext va = va := by
 unfold ext
 rw [if_pos (by omega)]
 omega
structure LvS (l : List Pg) (ll : List (Int × Int)) : Prop where
 len : ll.length = l.length
 mem : ∀ y ∈ ll, ∃ x ∈ l, y = (x.1, toP x.2.1 x.2.2)
 up : ll.Pairwise (fun a b => a.1 < b.1)
theorem cnt_pages (l : List Pg) (hok : ∀ x ∈ l, 0 ≤ x.1 ∧ x.1 < 274877906944 ∧ x.1 % 4096 = 0) (hnd : l.Pairwise (fun a b => a.1 ≠ b.1)) : cnt 402653184 (fun c => decide (∃ x ∈ l, c = 3 * (x.1 / 4096).toNat + 2)) = l.length := by
 induction l with
 | nil =>
  rw [cnt_ext (q := fun _ => false) (fun v _ => by simp), cnt_zero]
  rfl
 | cons x l ih =>
  have hx := hok x (by simp)
  rw [List.pairwise_cons] at hnd
  have := ih (fun y hy => hok y (by simp [hy])) hnd.2
  rw [cnt_add (v0 := 3 * (x.1 / 4096).toNat + 2) (p := fun c => decide (∃ x ∈ l, c = 3 * (x.1 / 4096).toNat + 2)) (by omega) ?_ ?_ ?_, this]
  ·rfl
  ·refine decide_eq_false ?_
   rintro ⟨y, hy, e⟩
   have hy2 := hok y (by simp [hy])
   exact hnd.1 y hy (by omega)
  ·exact decide_eq_true ⟨x, by simp, rfl⟩
  ·intro v _ hv
   refine decide_eq_decide.2 ⟨?_, ?_⟩
   ·rintro ⟨y, hy, e⟩
    rcases List.mem_cons.1 hy with rfl | hy
    ·exact absurd e hv
    ·exact ⟨y, hy, e⟩
   ·rintro ⟨y, hy, e⟩
    exact ⟨y, by simp [hy], e⟩
def lfo (F : Nat → Option Nat) (lf : Nat → Nat → Int) (c : Nat) : Option (Int × Int) := (ev F lf c).bind lvO
theorem lvl_eq : lvl (evs F lf 0) = (List.range' 0 402653184).filterMap (lfo F lf) := by
 unfold lvl evs
 rw [List.filterMap_filterMap, eM_val]
 rfl
theorem lfo_some {c : Nat} {y : Int × Int} (h : lfo F lf c = some y) : c % 3 = 2 ∧ y = (ext (vaP (c / 3)), lf (x0 (c / 3)) (c / 3 % 512)) ∧ lf (x0 (c / 3)) (c / 3 % 512) ≠ 0 := by
 unfold lfo at h
 rw [Option.bind_eq_some_iff] at h
 obtain ⟨x, hx, h⟩ := h
 unfold lvO at h
 split at h
 ·rename_i hk
  injection h with h
  obtain ⟨h1, h2, h3, h4⟩ := ev_leaf hx hk
  rw [h2, h3] at h
  rw [h3] at h4
  exact ⟨h1, h.symm, h4⟩
 ·cases h
theorem TL.lfo_iff (h : TL F lf l) (hP : PT N L B F lf) (c : Nat) (hc : c < 402653184) : (lfo F lf c).isSome = true ↔ ∃ x ∈ l, c = 3 * (x.1 / 4096).toNat + 2 := by
 constructor
 ·intro hs
  obtain ⟨y, hy⟩ := Option.isSome_iff_exists.1 hs
  obtain ⟨h1, _, h3⟩ := lfo_some hy
  obtain ⟨x, hx, h4, _⟩ := h.met _ h3
  refine ⟨x, hx, ?_⟩
  rw [h4]
  unfold vaP
  omega
 ·rintro ⟨x, hx, rfl⟩
  have hb := (h.ok x hx).1
  obtain ⟨P, hPe⟩ : ∃ P, P = (x.1 / 4096).toNat := ⟨_, rfl⟩
  rw [← hPe]
  have hv : vaP P = x.1 := by unfold vaP; omega
  have hPl : P < 134217728 := by omega
  have hl := h.leaf x hx
  rw [← hv, vaP_y0 P hPl, vaP_i0 P hPl] at hl
  obtain ⟨y, hy, hk, _⟩ := ev_leaf_at hP P hPl (by rw [hl]; exact (h.ok x hx).ne)
  unfold lfo
  rw [hy]
  simp [lvO, hk]
theorem TL.leaves (h : TL F lf l) (hP : PT N L B F lf) (hnd : l.Pairwise (fun a b => a.1 ≠ b.1)) : LvS l (lvl (evs F lf 0)) := by
 have key : ∀ c y, lfo F lf c = some y → c % 3 = 2 ∧ y.1 = vaP (c / 3) ∧ ∃ x ∈ l, y = (x.1, toP x.2.1 x.2.2) := fun c y hy => by
  obtain ⟨h1, h2, h3⟩ := lfo_some hy
  obtain ⟨x, hx, h4, h5⟩ := h.met _ h3
  have hb := (h.ok x hx).1
  have e : ext (vaP (c / 3)) = x.1 := by rw [← h4]; exact ext_low _ ⟨hb.1, hb.2.1⟩
  rw [e, h5] at h2
  exact ⟨h1, by rw [h2]; exact h4, x, hx, h2⟩
 refine ⟨?_, fun y hy => ?_, ?_⟩
 ·rw [lvl_eq, List.length_filterMap_eq_countP]
  have : List.countP (fun c => (lfo F lf c).isSome) (List.range' 0 402653184) = cnt 402653184 (fun c => decide (∃ x ∈ l, c = 3 * (x.1 / 4096).toNat + 2)) := by
   rw [← cnt_ext (p := fun c => (lfo F lf c).isSome) (fun c hc => ?_)]
   ·unfold cnt
    rw [List.range_eq_range']
   ·have := h.lfo_iff hP c hc
    by_cases hs : (lfo F lf c).isSome = true
    ·rw [hs]; exact (decide_eq_true (this.1 hs)).symm
    ·rw [Bool.not_eq_true] at hs
     rw [hs]; exact (decide_eq_false (fun e => by rw [this.2 e] at hs; cases hs)).symm
  rw [this]
  exact cnt_pages l (fun x hx => (h.ok x hx).1) hnd
 ·rw [lvl_eq] at hy
  obtain ⟨c, _, hc⟩ := List.mem_filterMap.1 hy
  exact (key c y hc).2.2
 ·rw [lvl_eq]
  refine List.Pairwise.filterMap (R := (· < ·)) _ (fun a a' hlt b hb b' hb' => ?_) List.pairwise_lt_range'
  obtain ⟨a1, a2, _⟩ := key a b hb
  obtain ⟨b1, b2, _⟩ := key a' b' hb'
  rw [a2, b2]
  unfold vaP
  omega
end
end Go.Proofs.YtabnipbdbnmmpaaGreatDoor.Rm
namespace Go.Proofs.YtabnipbdbnmmpaaGreatDoor.Rm
open Go Go.RowKit Go.Shelf
attribute [local go_sem] Oper.semAt_some
attribute [local irreducible] eM evs
theorem func_not_nil (X : Array Value) (V : World) : Sem.run Tryz.prog (Go.binOp .eql 196 (.func (.func 169) #[] X) .nilFunc) V = .ok (.bool false) V := by
 kernel_rfl
attribute [local go_sem] func_not_nil
def lst (pre : List (Int × Int)) : Int := (pre.getLast?.map (·.1)).getD 0
structure HoI (V : World) (cn cl : Nat) (pre : List (Int × Int)) (W : World) : Prop where
 size : V.heap.size ≤ W.heap.size
 os : W.os = V.os
 tape : W.tape = V.tape
 output : W.output = V.output
 block : ∀ k, k < V.heap.size → k ≠ cn → k ≠ cl → W.heap[k]? = V.heap[k]?
 n : W.cell? ⟨cn, 0, .none⟩ = some (.int .i64 pre.length)
 l : W.cell? ⟨cl, 0, .none⟩ = some (.int .u64 (lst pre))
 fn : W.frozen? ⟨cn, 0, .none⟩ = false
 fl : W.frozen? ⟨cl, 0, .none⟩ = false
theorem HoI.keep {V W W' : World} {cn cl : Nat} {pre : List (Int × Int)} (h : HoI V cn cl pre W) (h1 : W'.os = W.os) (h2 : W'.tape = W.tape) (h3 : W'.output = W.output) (hs : W.heap.size ≤ W'.heap.size) (hc : cn < V.heap.size ∧ cl < V.heap.size) (hb : ∀ k, k < V.heap.size → W'.heap[k]? = W.heap[k]?) : HoI V cn cl pre W' :=
 ⟨Nat.le_trans h.size hs, h1.trans h.os, h2.trans h.tape, h3.trans h.output, fun k hk a c => (hb k hk).trans (h.block k hk a c), (World.cell?_of_block (a := ⟨cn, 0, .none⟩) (hb _ hc.1)).trans h.n, (World.cell?_of_block (a := ⟨cl, 0, .none⟩) (hb _ hc.2)).trans h.l, (World.frozen?_of_block (a := ⟨cn, 0, .none⟩) (hb _ hc.1)).trans h.fn, (World.frozen?_of_block (a := ⟨cl, 0, .none⟩) (hb _ hc.2)).trans h.fl⟩
theorem HoI.gd {V : World} {cn cl : Nat} (hc : cn < V.heap.size ∧ cl < V.heap.size) : GdJ (fun k _ => V.heap.size ≤ k) (HoI V cn cl) :=
 ⟨fun s W W' hs hm => hs.keep hm.os hm.tape hm.output hm.size hc (fun k hk => hm.block k (Nat.lt_of_lt_of_le hk hs.size) (by omega)), fun s W W' k hs hm hk => hk, fun s W W' k hs hm hk => Nat.le_trans hs.size hk⟩
theorem HoI.own {V : World} {cn cl : Nat} (hc : cn < V.heap.size ∧ cl < V.heap.size) : OwnFrom V.heap.size (HoI V cn cl) := fun s W W' row hs hg hr =>
 hs.keep hg.os hg.tape hg.output hg.size hc (fun k hk => hg.block k (Nat.lt_of_lt_of_le hk hs.size) (fun e => by have := (hr k e.symm).1; omega))
theorem HoI.below {w V W : World} {cn cl : Nat} {pre : List (Int × Int)} (h : HoI V cn cl pre W) (b : Below w.heap.size w V) (hc : w.heap.size ≤ cn ∧ w.heap.size ≤ cl) : Below w.heap.size w W :=
 ⟨h.os.trans b.os, h.tape.trans b.tape, h.output.trans b.output, Nat.le_trans b.size h.size, fun k hk => (h.block k (Nat.lt_of_lt_of_le hk b.size) (by omega) (by omega)).trans (b.block k hk)⟩
theorem lst_app (pre : List (Int × Int)) (x : Int × Int) : lst (pre ++ [x]) = x.1 := by simp [lst]
theorem HoI.step {V U : World} {cn cl p b mm : Nat} {pre : List (Int × Int)} {x : Int × Int} (h : HoI V cn cl pre U) (hc : cn < V.heap.size ∧ cl < V.heap.size) (hne : cn ≠ cl) (hp : p < V.heap.size ∧ b < V.heap.size ∧ mm < V.heap.size) (hq : p ≠ cn ∧ p ≠ cl ∧ b ≠ cn ∧ b ≠ cl ∧ mm ≠ cn ∧ mm ≠ cl) :
  KeepsFrom V.heap.size U ((U.drew.setCell ⟨cl, 0, .none⟩ (.int .u64 x.1)).setCell ⟨cn, 0, .none⟩ (.int .i64 (pre.length + 1))) ∧ KpG (fun k _ => V.heap.size ≤ k) p b mm U ((U.drew.setCell ⟨cl, 0, .none⟩ (.int .u64 x.1)).setCell ⟨cn, 0, .none⟩ (.int .i64 (pre.length + 1))) ∧ HoI V cn cl (pre ++ [x]) ((U.drew.setCell ⟨cl, 0, .none⟩ (.int .u64 x.1)).setCell ⟨cn, 0, .none⟩ (.int .i64 (pre.length + 1))) := by
 obtain ⟨X, hX⟩ : ∃ X, X = (U.drew.setCell ⟨cl, 0, .none⟩ (.int .u64 x.1)).setCell ⟨cn, 0, .none⟩ (.int .i64 (pre.length + 1)) := ⟨_, rfl⟩
 have kb : ∀ k, k ≠ cn → k ≠ cl → X.heap[k]? = U.heap[k]? := fun k h1 h2 => by rw [hX]; exact (Below.heap_setCell _ _ _ k h1).trans (Below.heap_setCell U.drew _ _ k h2)
 have sz : X.heap.size = U.heap.size := by rw [hX]; simp
 have i1 : (U.drew.setCell ⟨cl, 0, .none⟩ (.int .u64 x.1)).cell? ⟨cl, 0, .none⟩ = some (.int .u64 x.1) := World.cell?_setCell_same' _ _ _ (by show (U.cell? _).isSome = true; rw [h.l]; rfl)
 have i2 : (U.drew.setCell ⟨cl, 0, .none⟩ (.int .u64 x.1)).cell? ⟨cn, 0, .none⟩ = some (.int .i64 pre.length) := (World.cell?_setCell_far _ _ _ _ (Ne.symm hne)).trans h.n
 have j1 : X.cell? ⟨cn, 0, .none⟩ = some (.int .i64 (pre.length + 1)) := by rw [hX]; exact World.cell?_setCell_same' _ _ _ (by rw [i2]; rfl)
 have j2 : X.cell? ⟨cl, 0, .none⟩ = some (.int .u64 x.1) := by rw [hX]; exact (World.cell?_setCell_far _ _ _ _ hne).trans i1
 have j3 : X.frozen? ⟨cn, 0, .none⟩ = false := by rw [hX, World.frozen?_setCell, World.frozen?_setCell]; exact h.fn
 have j4 : X.frozen? ⟨cl, 0, .none⟩ = false := by rw [hX, World.frozen?_setCell, World.frozen?_setCell]; exact h.fl
 have o1 : X.os = U.os := by rw [hX]; rfl
 have o2 : X.tape = U.tape := by rw [hX]; rfl
 have o3 : X.output = U.output := by rw [hX]; rfl
 rw [← hX]
 refine ⟨⟨by omega, fun k o hk ho _ => (kb k (by omega) (by omega)).trans ho⟩, ⟨fun k o hk ho => ⟨(kb k (by omega) (by omega)).trans ho, hk⟩, kb p hq.1 hq.2.1, kb b hq.2.2.1 hq.2.2.2.1, kb mm hq.2.2.2.2.1 hq.2.2.2.2.2, by omega⟩, ?_⟩
 exact ⟨by rw [sz]; exact h.size, o1.trans h.os, o2.trans h.tape, o3.trans h.output, fun k hk a c => (kb k a c).trans (h.block k hk a c), by rw [j1]; simp, by rw [lst_app]; exact j2, j3, j4⟩
end Go.Proofs.YtabnipbdbnmmpaaGreatDoor.Rm
namespace Go.Proofs.YtabnipbdbnmmpaaGreatDoor.Rm
open Go Go.RowKit Go.Shelf
attribute [local irreducible] eM evs
def wnt (t : Nat) : Nat := if t = 0 then 88 else if t = 1 then 82 else 212
set_option maxRecDepth 100000 in
theorem lts_bits : ∀ c : Fin 256, c.val % 2 = 0 → ∀ t : Fin 3, (((c.val + 1) &&& 80 == 80) && ((c.val + 1) &&& (if t.val = 0 then 8 else if t.val = 1 then 2 else 132) == (if t.val = 0 then 8 else if t.val = 1 then 2 else 132))) = (c.val &&& wnt t.val == wnt t.val) := by decide
theorem hs_low (c : Int) (hc : 0 ≤ c ∧ c < 256) (d : Nat) (hd : d < 1024) : hs c d = (c.toNat &&& d == d) := by
 unfold hs
 rw [and_low c (by omega) d hd, show c % 1024 = c by omega]
 cases h : (c.toNat &&& d == d)
 ·rw [beq_eq_false_iff_ne] at h ⊢
  omega
 ·rw [beq_iff_eq] at h ⊢
  omega
theorem congrArg2 {a b c d : Bool} (h1 : a = c) (h2 : b = d) : (a && b) = (c && d) := by rw [h1, h2]
theorem lts_toP (pa c : Int) (hp : 0 ≤ pa ∧ pa < 72057594037927936) (hc : 0 ≤ c ∧ c < 256) (he : c % 2 = 0) (t : Nat) (ht : t < 3) : lts (toP pa c) (1 + t) = hs c (wnt t) := by
 have key := lts_bits ⟨c.toNat, by omega⟩ (by simp only; omega) ⟨t, ht⟩
 simp only at key
 have cv : ∀ d : Nat, d < 1024 → hs (toP pa c) d = ((c.toNat + 1) &&& d == d) := fun d hd => by
  rw [hs_toP pa c hp (by omega) he d hd, show (c + 1).toNat = c.toNat + 1 by omega]
  cases h : ((c.toNat + 1) &&& d == d)
  ·rw [beq_eq_false_iff_ne] at h ⊢
   omega
  ·rw [beq_iff_eq] at h ⊢
   omega
 have h80 := cv 80 (by omega)
 have h8 := cv 8 (by omega)
 have h2 := cv 2 (by omega)
 have h132 := cv 132 (by omega)
 rw [hs_low c hc (wnt t) (by unfold wnt; split <;> (try split) <;> omega), ← key]
 unfold lts
 obtain rfl | rfl | rfl : t = 0 ∨ t = 1 ∨ t = 2 := by omega
 ·rw [if_pos (by omega)]; simp only [if_true]; exact congrArg2 h80 h8
 ·rw [if_neg (by omega), if_pos (by omega)]; simp only [if_true, if_false, Nat.one_ne_zero]; exact congrArg2 h80 h2
 ·rw [if_neg (by omega), if_neg (by omega), if_pos (by omega)]; exact congrArg2 h80 h132
theorem y_off (va o : Int) (hv : 0 ≤ va ∧ va < 274877906944 ∧ va % 4096 = 0) (ho : 0 ≤ o ∧ o < 4096) : y0 (va + o) = y0 va ∧ i0 (va + o) = i0 va := by
 have h1 : ix (va + o) 0 = ix va 0 := by unfold ix; rw [spn0]; omega
 have h2 : ix (va + o) 1 = ix va 1 := by unfold ix; rw [spn1]; omega
 have h3 : ix (va + o) 2 = ix va 2 := by unfold ix; rw [show spn 2 = 1073741824 from rfl]; omega
 constructor
 ·unfold y0 y1 i1 i2
  rw [h2, h3]
 ·unfold i0
  rw [h1]
section
variable {w : World} {p b m N r : Nat} {B : Nat → Int} {L : List Nat} {F : Nat → Option Nat} {lf : Nat → Nat → Int} {l : List Pg}
theorem TL.none_at (h : TL F lf l) (va : Int) (hv : 0 ≤ va ∧ va < 274877906944 ∧ va % 4096 = 0) (hn : ∀ x ∈ l, x.1 ≠ va) : lf (y0 va) (i0 va) = 0 := by
 by_cases hz : lf (y0 va) (i0 va) = 0
 ·exact hz
 ·obtain ⟨x, hx, h1, h2⟩ := h.only _ _ (y0_ge va) (i0_lt va) hz
  exact absurd (va_inj (h.ok x hx).1 hv h1.symm h2.symm) (hn x hx)
theorem tra_some (hR : Ram w p b m N B L) (hP : PT N L B F lf) (hr : F 0 = some r) (va o pa c : Int) (t : Nat) (ht : t < 3) (hv : 0 ≤ va ∧ va < 274877906944 ∧ va % 4096 = 0) (ho : 0 ≤ o ∧ o < 4096) (hp : 0 ≤ pa ∧ pa < 72057594037927936 ∧ pa % 4096 = 0) (hc : 0 ≤ c ∧ c < 256 ∧ c % 2 = 0) (hz : lf (y0 va) (i0 va) = toP pa c) (hne : toP pa c ≠ 0) :
  Calls Tryz.prog 18 #[.pointer (some ⟨p, 0, .none⟩), .int .u64 (ad r), .int .u64 (va + o), .int .i64 (1 + t)] w fun e w' => e = .returned (.tuple #[.int .u64 (if hs c (wnt t) then pa + o else 0), .bool (hs c (wnt t))]) ∧ Below w.heap.size w w' := by
 have hN := hR.mem.n2
 have hrb : 0 ≤ ad r ∧ ad r < 18446744073709551616 := by have h1 := hP.held 0 r hr; unfold ad; omega
 obtain ⟨e1, e2⟩ := y_off va o hv ho
 obtain ⟨hk, hl, he⟩ := look_full hP hN hr (va + o) (by rw [e1, e2, hz]; exact hne)
 rw [e1, e2, hz] at he
 have hA : trA (look N L B (ad r) (va + o)) (va + o) (1 + t) = hs c (wnt t) := by
  unfold trA finds
  rw [hk, he, ext_low _ (by omega), lts_toP pa c ⟨hp.1, hp.2.1⟩ ⟨hc.1, hc.2.1⟩ hc.2.2 t ht]
  simp
 have hB : trP (look N L B (ad r) (va + o)) (va + o) = pa + o := by
  unfold trP
  rw [he, hl, adE_toP pa c ⟨hp.1, hp.2.1⟩ hp.2.2 (by omega) hc.2.2, spn0]
  omega
 have := translate_any hR (ad r) (va + o) (1 + t) hrb (by omega)
 rw [hA, hB] at this
 exact this
end
end Go.Proofs.YtabnipbdbnmmpaaGreatDoor.Rm
