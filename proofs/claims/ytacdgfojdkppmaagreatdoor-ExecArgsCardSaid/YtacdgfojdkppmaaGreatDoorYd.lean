import Derived.Test.YtacdgfojdkppmaaGreatDoorYa
import Derived.Test.YtacdgfojdkppmaaGreatDoorSMapL
namespace Go.Proofs.YtacdgfojdkppmaaGreatDoor.Rm
open Go.RowKit
set_option linter.unusedVariables false
set_option linter.unusedSimpArgs false
/-- How many nodes a page wants. -/
def need (F : Nat → Option Nat) (va : Int) : Nat := if F (y1 va) = none then 2 else if F (y0 va) = none then 1 else 0
section
variable {w : World} {p b m N : Nat} {B : Nat → Int} {L : List Nat} {F : Nat → Option Nat} {lf : Nat → Nat → Int}
theorem look_need (h : PT N L B F lf) (hN : N ≤ 4096) {r : Nat} (hr : F 0 = some r) (va : Int) (hz : lf (y0 va) (i0 va) = 0) : (look N L B (ad r) va).k = 0 ∧ (look N L B (ad r) va).l = (need F va : Nat) := by
 unfold need
 cases h1 : F (y1 va) with
 | none =>
  rw [look_2 h hr va h1]
  simp
 | some g =>
  cases h0 : F (y0 va) with
  | none =>
   rw [look_1 h hN hr va h1 h0]
   simp
  | some q =>
   rw [look_0 h hN hr va h1 h0, hz]
   simp [kd_zero]
theorem ad_b (f N : Nat) (h : f < N) (hN : N ≤ 4096) : 0 ≤ ad f ∧ ad f < 72057594037927936 ∧ ad f % 4096 = 0 := by unfold ad; omega
/-- Map of a page that a table does not have. -/
theorem map_pt (h : Ram w p b m N B L) (hP : PT N L B F lf) {r : Nat} (hr : F 0 = some r) (va pa perm : Int) (hv : 0 ≤ va) (hu : va % 4096 = 0 ∧ va < 274877906944) (hpa : 0 ≤ pa ∧ pa % 4096 = 0 ∧ pa < 72057594037927936)
  (hmp : (!ho perm 18446744073709551361 && ho perm 10 && (!hs perm 4 || hs perm 2)) = true) (hk : kd (toP pa perm) 0 = 2 ∧ 0 ≤ toP pa perm ∧ toP pa perm < 18446744073709551616) (hz : lf (y0 va) (i0 va) = 0) (hn : need F va ≤ L.length) :
  Calls Tryz.prog 107 #[.pointer (some ⟨p, 0, .none⟩), .int .u64 (ad r), .int .u64 va, .int .u64 pa, .int .u64 perm] w fun e w' => e = .returned (.int .i64 0) ∧ ∃ B' L' F', LP N va (toP pa perm) L B F lf L' B' F' ∧ L = L.take (need F va) ++ L' ∧ Ram w' p b m N B' L' ∧ Fra p b m w w' := by
 have hN := h.mem.n2
 have hrb := ad_b r N (hP.held 0 r hr).2.1 hN
 obtain ⟨l1, l2⟩ := look_need hP hN hr va hz
 refine (map_late h (ad r) va pa perm ⟨hrb.1, by omega⟩ ⟨hv, by omega⟩ ⟨hpa.1, by omega⟩ hu ⟨hpa.2.1, hpa.2.2⟩ hmp).mono fun e w' hM => ?_
 unfold MapP at hM
 have hnd := hP.ndB hr
 rw [l1, l2] at hM
 rcases hM with ⟨h1, _⟩ | ⟨_, h1, _⟩ | ⟨_, _, h1, _⟩ | ⟨_, _, _, rfl, B', L', h1, h2, h3, h4⟩
 ·rw [hnd] at h1; cases h1
 ·exact absurd rfl h1
 ·omega
 ·obtain ⟨F', R⟩ := lays_pt hP hN h.nd h.lt hr hk h1
  exact ⟨rfl, B', L', F', R, by simpa using h2, h3, h4⟩
/-- A table that New gives. -/
theorem PT.init {i : Nat} (hi : 1 ≤ i ∧ i < N) (hL : i ∉ L) : PT N L (zer B i) (fun x => if x = 0 then some i else none) (fun _ _ => 0) := by
 refine ⟨⟨i, by simp⟩, fun x f hf => ?_, fun x y f hx hy => ?_, fun x e hx he hne => ?_, fun x hx => ?_, fun x g hx hg e he => ?_, fun y g hy hg k hk => ?_, fun _ _ => .inl rfl, fun _ _ _ => rfl⟩
 ·by_cases e : x = 0
  ·simp only [e, if_true, Option.some.injEq] at hf
   subst hf
   exact ⟨hi.1, hi.2, hL⟩
  ·simp [e] at hf
 ·by_cases e : x = 0 <;> by_cases e2 : y = 0 <;> simp_all
 ·have := ch_pos x e
  simp [show ch x e ≠ 0 by omega] at hne
 ·by_cases e : x = 0
  ·omega
  ·simp [e] at hx
 ·by_cases e2 : x = 0
  ·simp only [e2, if_true, Option.some.injEq] at hg
   subst hg
   have := ch_pos x e
   rw [evn_zer_same _ _ _ he]
   simp [show ch x e ≠ 0 by omega, ptr]
  ·simp [e2] at hg
 ·simp [show y ≠ 0 by omega] at hg
end
/-- Is it a held frame's address? -/
def isHd (N : Nat) (L : List Nat) (pa : Int) : Prop := ∃ f : Nat, f < N ∧ f ∉ L ∧ pa = ad f
end Go.Proofs.YtacdgfojdkppmaaGreatDoor.Rm
namespace Go.Proofs.YtacdgfojdkppmaaGreatDoor.Rm
open Go.RowKit
set_option linter.unusedVariables false
set_option linter.unusedSimpArgs false
section
variable {w : World} {p b m N : Nat} {B : Nat → Int} {L : List Nat} {F : Nat → Option Nat} {lf : Nat → Nat → Int}
/-- Load of one byte: whether there is one, and a number. -/
theorem load1_any (h : Ram w p b m N B L) (pa : Int) (hp : 0 ≤ pa ∧ pa < 18446744073709551616) : ∃ x ok, (ok = true ↔ isHd N L (pa / 4096 * 4096)) ∧
  Calls Tryz.prog 139 #[.pointer (some ⟨p, 0, .none⟩), .int .u64 pa, .int .i64 1] w fun e w' => e = .returned (.tuple #[.int .u64 x, .bool ok]) ∧ Below w.heap.size w w' := by
 have n2 := h.mem.n2
 by_cases ho : 2147483648 ≤ pa ∧ pa - 2147483648 + 1 ≤ 4096 * N
 ·obtain ⟨o, rfl⟩ : ∃ o : Nat, pa = 2147483648 + o := ⟨(pa - 2147483648).toNat, by omega⟩
  have hfN : o / 4096 < N := by omega
  have hpg : (2147483648 + (o : Int)) / 4096 * 4096 = ad (o / 4096) := by unfold ad; omega
  by_cases hL : o / 4096 ∈ L
  ·refine ⟨0, false, ?_, ?_⟩
   ·constructor
    ·intro h; cases h
    ·rintro ⟨f, h1, h2, h3⟩
     rw [hpg] at h3
     have : f = o / 4096 := by unfold ad at h3; omega
     exact absurd (this ▸ hL) h2
   ·have c := reach_hole h.mem o 1 (by omega) (by omega) (o / 4096) (by omega) (by omega) (by rw [hdL_in hfN]; simp [hL])
    exact load_no _ 1 (access_no _ 1 0 false c)
  ·refine ⟨num B o 1, true, ?_, ?_⟩
   ·simp only [true_iff]
    exact ⟨o / 4096, hfN, hL, hpg⟩
   ·exact load_ok h.mem o 1 (.inl rfl) (by omega) (fun f h1 h2 => by
     have : f = o / 4096 := by omega
     rw [this, hdL_in hfN]
     simp [hL])
 ·refine ⟨0, false, ?_, ?_⟩
  ·constructor
   ·intro h; cases h
   ·rintro ⟨f, h1, h2, h3⟩
    unfold ad at h3
    omega
  ·exact load_no _ 1 (access_no _ 1 0 false (reach_out h.mem pa 1 hp (by omega) (by omega) ho))
/-- isHeld of a space. -/
theorem held_any (h : Ram w p b m N B L) (pa : Int) (hp : 0 ≤ pa ∧ pa < 18446744073709551616) : ∃ ok, (ok = true ↔ isHd N L pa) ∧
  Calls Tryz.prog 105 #[.pointer (some ⟨p, 0, .none⟩), .int .u64 pa] w fun e w' => e = .returned (.bool ok) ∧ Below w.heap.size w w' := by
 obtain ⟨x, ok, h1, c⟩ := load1_any h pa hp
 refine ⟨ok && decide (pa % 4096 = 0), ?_, ?_⟩
 ·constructor
  ·intro e
   simp only [Bool.and_eq_true, decide_eq_true_eq] at e
   have := h1.1 e.1
   rwa [show pa / 4096 * 4096 = pa by omega] at this
  ·intro e
   obtain ⟨f, h2, h3, h4⟩ := e
   have h5 : pa % 4096 = 0 := by unfold ad at h4; omega
   rw [h1.2 (by rw [show pa / 4096 * 4096 = pa by omega]; exact ⟨f, h2, h3, h4⟩)]
   simp [h5]
 ·clear h h1
  cases ok
  ·go_enter Tryz.func105, Tryz.ntmps105
   go_wp2_with (go_at_call 139; refine c.mono ?_; rintro _ w1 ⟨rfl, b1⟩)
   go_ret
   exact ⟨by simp, b1⟩
  ·by_cases h5 : pa % 4096 = 0
   ·go_enter Tryz.func105, Tryz.ntmps105
    go_wp2_with (go_at_call 139; refine c.mono ?_; rintro _ w1 ⟨rfl, b1⟩)
    go_ret
    exact ⟨by simp [h5], b1⟩
   ·have h6 : (pa % 4096 == 0) = false := by simpa using h5
    go_enter Tryz.func105, Tryz.ntmps105
    go_wp2_with (go_at_call 139; refine c.mono ?_; rintro _ w1 ⟨rfl, b1⟩)
    go_ret
    exact ⟨by simp [h5], b1⟩
/-- Two held frames, unlike. -/
theorem two_any (h : Ram w p b m N B L) (a t : Int) (ha : 0 ≤ a ∧ a < 18446744073709551616) (ht : 0 ≤ t ∧ t < 18446744073709551616) : ∃ ok, (ok = true ↔ isHd N L a ∧ isHd N L t ∧ a ≠ t) ∧
  Calls Tryz.prog 59 #[.pointer (some ⟨p, 0, .none⟩), .int .u64 a, .int .u64 t] w fun e w' => e = .returned (.bool ok) ∧ Below w.heap.size w w' := by
 obtain ⟨o1, h1, c1⟩ := held_any h a ha
 cases o1
 ·refine ⟨false, ?_, ?_⟩
  ·constructor
   ·intro e; cases e
   ·intro e; exact absurd (h1.2 e.1) (by simp)
  ·clear h h1
   go_enter Tryz.func59, Tryz.ntmps59
   go_wp2_with (go_at_call 105; refine c1.mono ?_; rintro _ w1 ⟨rfl, b1⟩)
   go_ret
   exact ⟨rfl, b1⟩
 ·have hy : ∀ w', Below w.heap.size w w' → ∃ ok, (ok = true ↔ isHd N L t) ∧ Calls Tryz.prog 105 #[.pointer (some ⟨p, 0, .none⟩), .int .u64 t] w' fun e w'' => e = .returned (.bool ok) ∧ Below w'.heap.size w' w'' := fun w' b => held_any (h.below b) t ht
  by_cases h2 : isHd N L t
  ·have hy2 : ∀ w', Below w.heap.size w w' → Calls Tryz.prog 105 #[.pointer (some ⟨p, 0, .none⟩), .int .u64 t] w' fun e w'' => e = .returned (.bool true) ∧ Below w'.heap.size w' w'' := fun w' b => by
    obtain ⟨ok, e1, e2⟩ := hy w' b
    obtain rfl : ok = true := e1.2 h2
    exact e2
   have HY : Hid (∀ w', Below w.heap.size w w' → Calls Tryz.prog 105 #[.pointer (some ⟨p, 0, .none⟩), .int .u64 t] w' fun e w'' => e = .returned (.bool true) ∧ Below w'.heap.size w' w'') := hy2
   refine ⟨decide (a ≠ t), ?_, ?_⟩
   ·constructor
    ·intro e; exact ⟨h1.1 rfl, h2, of_decide_eq_true e⟩
    ·intro e; exact decide_eq_true e.2.2
   ·clear h h1 hy hy2
    by_cases hat : a = t
    ·subst hat
     go_enter Tryz.func59, Tryz.ntmps59
     go_wp2_with first | (go_at_call_of 105 (.int .u64 a); refine c1.mono ?_; rintro _ w1 ⟨rfl, b1⟩) | (go_at_call 105; first | (refine (HY.out _ b1).mono ?_; rintro _ w2 ⟨rfl, b2⟩) | (refine c1.mono ?_; rintro _ w1 ⟨rfl, b1⟩))
     go_ret
     exact ⟨by simp, b1.trans (b2.mono b1.size)⟩
    ·have hne : (a != t) = true := by simpa using hat
     go_enter Tryz.func59, Tryz.ntmps59
     go_wp2_with (go_at_call 105; first | (refine (HY.out _ b1).mono ?_; rintro _ w2 ⟨rfl, b2⟩) | (refine c1.mono ?_; rintro _ w1 ⟨rfl, b1⟩))
     go_ret
     exact ⟨by simp [hat], b1.trans (b2.mono b1.size)⟩
  ·have hy2 : ∀ w', Below w.heap.size w w' → Calls Tryz.prog 105 #[.pointer (some ⟨p, 0, .none⟩), .int .u64 t] w' fun e w'' => e = .returned (.bool false) ∧ Below w'.heap.size w' w'' := fun w' b => by
    obtain ⟨ok, e1, e2⟩ := hy w' b
    cases ok
    ·exact e2
    ·exact absurd (e1.1 rfl) h2
   have HY : Hid (∀ w', Below w.heap.size w w' → Calls Tryz.prog 105 #[.pointer (some ⟨p, 0, .none⟩), .int .u64 t] w' fun e w'' => e = .returned (.bool false) ∧ Below w'.heap.size w' w'') := hy2
   refine ⟨false, ?_, ?_⟩
   ·constructor
    ·intro e; cases e
    ·intro e; exact absurd e.2.1 h2
   ·clear h h1 hy hy2 h2
    go_enter Tryz.func59, Tryz.ntmps59
    go_wp2_with (go_at_call 105; first | (refine (HY.out _ b1).mono ?_; rintro _ w2 ⟨rfl, b2⟩) | (refine c1.mono ?_; rintro _ w1 ⟨rfl, b1⟩))
    go_ret
    exact ⟨rfl, b1.trans (b2.mono b1.size)⟩
end
end Go.Proofs.YtacdgfojdkppmaaGreatDoor.Rm
namespace Go.Proofs.YtacdgfojdkppmaaGreatDoor.Rm
open Go.RowKit
set_option linter.unusedVariables false
set_option linter.unusedSimpArgs false
/-- Of a new table: one of its own, and what it took. -/
structure NT (w w' : World) (p b m N : Nat) (B : Nat → Int) (i : Nat) (L1 : List Nat) (B' : Nat → Int) (L' : List Nat) (F' : Nat → Option Nat) (lf' : Nat → Nat → Int) : Prop where
 ram : Ram w' p b m N B' L'
 pt : PT N L' B' F' lf'
 rt : F' 0 = some i
 ids : ∀ x f, F' x = some f → x = 0 ∨ x = y1 274877898752 ∨ x = y0 274877898752
 own : ∀ x f, F' x = some f → f ∈ i :: L1
 lfs : ∀ y k, y ≠ y0 274877898752 → lf' y k = 0
 cut : L1 = L1.take 2 ++ L'
 byt : ∀ f, f ∉ i :: L1 → ∀ k, k < 4096 → B' (f * 4096 + k) = B (f * 4096 + k)
 fra : Fra p b m w w'
theorem tt_y1 : y1 274877902848 = y1 274877898752 := by decide
theorem tt_y0 : y0 274877902848 = y0 274877898752 := by decide
theorem tt_i0 : i0 274877902848 ≠ i0 274877898752 := by decide
theorem perm198 : (!ho 198 18446744073709551361 && ho 198 10 && (!hs 198 4 || hs 198 2)) = true := by decide
theorem perm74 : (!ho 74 18446744073709551361 && ho 74 10 && (!hs 74 4 || hs 74 2)) = true := by decide
theorem leaf_b (pa c : Int) (hp : 0 ≤ pa ∧ pa % 4096 = 0 ∧ pa < 72057594037927936) (hc : 0 ≤ c ∧ c < 256) (he : c % 2 = 0) (h4 : ((c + 1).toNat &&& 4 = 4) → ((c + 1).toNat &&& 2 = 2)) (h10 : (c + 1).toNat &&& 10 ≠ 0) : kd (toP pa c) 0 = 2 ∧ 0 ≤ toP pa c ∧ toP pa c < 18446744073709551616 := by
 refine ⟨kd_leaf pa c ⟨hp.1, hp.2.2⟩ hp.2.1 hc he ?_ ?_, ?_⟩
 ·have e4 : hs (toP pa c) 4 = ((((c + 1).toNat &&& 4 : Nat) : Int) == ((4 : Nat) : Int)) := hs_toP pa c ⟨hp.1, hp.2.2⟩ (by omega) he 4 (by omega)
  have e2 : hs (toP pa c) 2 = ((((c + 1).toNat &&& 2 : Nat) : Int) == ((2 : Nat) : Int)) := hs_toP pa c ⟨hp.1, hp.2.2⟩ (by omega) he 2 (by omega)
  rw [e4, e2]
  intro h
  have h1 : (c + 1).toNat &&& 4 = 4 := Int.ofNat.inj (beq_iff_eq.1 h)
  exact beq_iff_eq.2 (congrArg Int.ofNat (h4 h1))
 ·have e10 : ho (toP pa c) 10 = ((((c + 1).toNat &&& 10 : Nat) : Int) != 0) := ho_toP pa c ⟨hp.1, hp.2.2⟩ (by omega) he 10 (by omega)
  rw [e10]
  simp only [bne_iff_ne, ne_eq]
  intro h
  exact h10 (Int.ofNat.inj h)
 ·rw [toP_val pa c ⟨hp.1, hp.2.2⟩ (by omega) he]
  omega
/-- Two cells. -/
structure C2w (w : World) (x : Nat) (a b : Value) : Prop where
 a : w.cell? ⟨x, 0, .none⟩ = some a
 b : w.cell? ⟨x, 1, .none⟩ = some b
 f : ∀ k, w.frozen? ⟨x, k, .none⟩ = false
theorem C2w.fra {w w' : World} {x p b m : Nat} {u v : Value} (h : C2w w x u v) (f : Fra p b m w w') (h1 : x ≠ p) (h2 : x ≠ b) (h3 : x ≠ m) : C2w w' x u v :=
 have hl : x < w.heap.size := lt_of_cell h.a
 ⟨(f.cell (x := ⟨x, 0, .none⟩) hl h1 h2 h3).trans h.a, (f.cell (x := ⟨x, 1, .none⟩) hl h1 h2 h3).trans h.b, fun k => (f.frozen (x := ⟨x, k, .none⟩) hl h1 h2 h3).trans (h.f k)⟩
section
variable {w : World} {p b m N : Nat} {B : Nat → Int}
set_option maxHeartbeats 1000000 in
theorem newTable_any {i : Nat} {L1 : List Nat} (h : Ram w p b m N B (i :: L1)) (hl : 2 ≤ L1.length) (ft : Nat) (hft : ft < N) :
  Calls Tryz.prog 60 #[.pointer (some ⟨p, 0, .none⟩), .int .u64 (ad ft), .int .u64 2147483648] w fun e w' => e = .returned (.agg #[.pointer (some ⟨p, 0, .none⟩), .int .u64 (ad i)]) ∧ ∃ B' L' F' lf', NT w w' p b m N B i L1 B' L' F' lf' := by
 have hN := h.mem.n2
 have hi := h.lt i (List.mem_cons_self ..)
 have hnd := List.nodup_cons.1 h.nd
 have hil : i ∉ L1 := hnd.1
 have hfb := ad_b ft N hft hN
 obtain ⟨w1, hw1⟩ : ∃ w1, w1 = w.alloc (.cells #[.pointer .none, .int .u64 0] 90) := ⟨_, rfl⟩
 have b1 : Below w.heap.size w w1 := by rw [hw1]; exact (Below.refl _ _).alloc (Nat.le_refl _) _
 have k0 : w1.cell? ⟨w.heap.size, 0, .none⟩ = some (.pointer .none) := by rw [hw1]; simp
 have k1 : w1.cell? ⟨w.heap.size, 1, .none⟩ = some (.int .u64 0) := by rw [hw1]; simp
 have kf : ∀ k, w1.frozen? ⟨w.heap.size, k, .none⟩ = false := fun k => by rw [hw1]; exact World.frozen?_alloc_new _ _ _ _
 have hp : p < w.heap.size := lt_of_cell h.mem.c0
 have hb : b < w.heap.size := lt_of_cell (h.mem.cb 0 (by have := h.mem.n1; omega))
 have hm : m < w.heap.size := h.mem.mlt
 have c106 := new_some i (h.below b1)
 have P0 : PT N L1 (zer B i) (fun x => if x = 0 then some i else none) (fun _ _ => 0) := PT.init hi hil
 have HW : Hid (Below w.heap.size w w1 ∧ C2w w1 w.heap.size (.pointer .none) (.int .u64 0)) := ⟨b1, k0, k1, kf⟩
 have HP0 : Hid (PT N L1 (zer B i) (fun x => if x = 0 then some i else none) (fun _ _ => 0)) := P0
 have z1 : w1.heap.size = w.heap.size + 1 := by rw [hw1]; simp
 have HL : Hid (i ∉ L1) := hil
 clear h P0 b1 k0 k1 kf hnd hil
 go_enter Tryz.func60, Tryz.ntmps60
 go_upto_region 1 with fail
 rw [← hw1]
 clear hw1
 go_upto_region 2 with (go_at_call 106; refine c106.mono ?_; rintro _ w2 ⟨rfl, r2, f2⟩; have H2 : Hid (Ram w2 p b m N (zer B i) L1 ∧ Fra p b m w1 w2) := ⟨r2, f2⟩; clear r2 f2 c106)
 have c1 := map_pt H2.out.1 HP0.out (r := i) rfl 274877898752 (ad ft) 198 (by omega) (by omega) ⟨hfb.1, hfb.2.2, hfb.2.1⟩ perm198 (leaf_b _ _ ⟨hfb.1, hfb.2.2, hfb.2.1⟩ (by omega) (by omega) (by decide) (by decide)) rfl (by
  have : need (fun x => if x = 0 then some i else none) 274877898752 = 2 := by
   unfold need
   have : y1 274877898752 ≠ 0 := by have := y1_le 274877898752; omega
   simp [this]
  omega)
 go_wp2_with fail
 refine c1.mono ?_
 rintro _ w3 ⟨rfl, B1, L2, F1, R1, e1, r3, f3⟩
 have hn2 : need (fun x => if x = 0 then some i else none) 274877898752 = 2 := by
  unfold need
  have : y1 274877898752 ≠ 0 := by have := y1_le 274877898752; omega
  simp [this]
 rw [hn2] at e1
 have H3 : Hid (LP N 274877898752 (toP (ad ft) 198) L1 (zer B i) (fun x => if x = 0 then some i else none) (fun _ _ => 0) L2 B1 F1 ∧ L1 = L1.take 2 ++ L2 ∧ Ram w3 p b m N B1 L2 ∧ Fra p b m w1 w3) := ⟨R1, e1, r3, H2.out.2.trans f3⟩
 clear R1 e1 r3 f3 c1 H2 hn2
 have hF1 : F1 0 = some i := H3.out.1.ext 0 i rfl
 have hz0 : ad 0 = 2147483648 := rfl
 have c2 := map_pt H3.out.2.2.1 H3.out.1.pt (r := i) hF1 274877902848 (ad 0) 74 (by omega) (by omega) ⟨by decide, by decide, by decide⟩ perm74 (leaf_b _ _ ⟨by decide, by decide, by decide⟩ (by omega) (by omega) (by decide) (by decide)) (by
  unfold setE
  rw [if_neg (fun e => tt_i0 e.2)]) (by
  obtain ⟨g, q, h1, h2⟩ := H3.out.1.has
  unfold need
  rw [tt_y1, tt_y0, h1, h2]
  simp)
 have HF1 : Hid (F1 0 = some i) := hF1
 rw [hz0] at c2
 clear hz0 hF1
 go_wp2_with fail
 refine c2.mono ?_
 rintro _ w4 ⟨rfl, B2, L3, F2, R2, e2, r4, f4⟩
 have hn2 : need F1 274877902848 = 0 := by
  obtain ⟨g, q, h1, h2⟩ := H3.out.1.has
  unfold need
  rw [tt_y1, tt_y0, h1, h2]
  simp
 rw [hn2, List.take_zero, List.nil_append] at e2
 have HR2 : Hid (LP N 274877902848 (toP 2147483648 74) L2 B1 F1 (setE (fun _ _ => 0) (y0 274877898752) (i0 274877898752) (toP (ad ft) 198)) L3 B2 F2) := R2
 have H4 : Hid (L2 = L3 ∧ Ram w4 p b m N B2 L3 ∧ Fra p b m w1 w4) := ⟨e2, r4, H3.out.2.2.2.trans f4⟩
 have k4 := HW.out.2.fra H4.out.2.2 (by omega) (by omega) (by omega)
 have k0 := k4.a
 have k1 := k4.b
 have kf0 := k4.f 0
 have kf1 := k4.f 1
 clear R2 e2 r4 f4 c2 hn2
 go_wp2_with fail
 have s0 : ((w4.setCell ⟨w.heap.size, 0, .none⟩ (.pointer (some ⟨p, 0, .none⟩))).setCell ⟨w.heap.size, 1, .none⟩ (.int .u64 (2147483648 + (i : Int) * 4096))).cell? ⟨w.heap.size, 0, .none⟩ = some (.pointer (some ⟨p, 0, .none⟩)) := by
  rw [World.cell?_setCell_other _ _ _ _ (by simp)]
  exact World.cell?_setCell_same' _ _ _ (by rw [k0]; rfl)
 have s1 : ((w4.setCell ⟨w.heap.size, 0, .none⟩ (.pointer (some ⟨p, 0, .none⟩))).setCell ⟨w.heap.size, 1, .none⟩ (.int .u64 (2147483648 + (i : Int) * 4096))).cell? ⟨w.heap.size, 1, .none⟩ = some (.int .u64 (2147483648 + (i : Int) * 4096)) := World.cell?_setCell_same' _ _ _ (by rw [World.cell?_setCell_other _ _ _ _ (by simp), k1]; rfl)
 have own1 : ∀ x f, F1 x = some f → f ∈ i :: L1 ∧ (x = 0 ∨ x = y1 274877898752 ∨ x = y0 274877898752) := fun x f hf => by
  rcases H3.out.1.new x f hf with e | ⟨e1, _, e2⟩
  ·by_cases hx : x = 0
   ·simp only [hx, if_true, Option.some.injEq] at e
    exact ⟨by rw [← e]; exact List.mem_cons_self .., .inl hx⟩
   ·simp [hx] at e
  ·exact ⟨List.mem_cons_of_mem _ e1, .inr e2⟩
 have own2 : ∀ x f, F2 x = some f → f ∈ i :: L1 ∧ (x = 0 ∨ x = y1 274877898752 ∨ x = y0 274877898752) := fun x f hf => by
  rcases HR2.out.new x f hf with e | ⟨e1, _, e2⟩
  ·exact own1 x f e
  ·rw [tt_y1, tt_y0] at e2
   exact ⟨List.mem_cons_of_mem _ (H3.out.1.sub f e1), .inr e2⟩
 refine bodyPost_ret (v := .agg #[.pointer (some ⟨p, 0, .none⟩), .int .u64 (2147483648 + (i : Int) * 4096)]) (by simp [results, Tryz.results60, go_sem, s0, s1]) rfl ⟨rfl, B2, L3, F2, _, ?_, HR2.out.pt, HR2.out.ext 0 i HF1.out, fun x f hf => (own2 x f hf).2, fun x f hf => (own2 x f hf).1, fun y k hy => ?_, by rw [← H4.out.1]; exact H3.out.2.1, fun f hf k hk => ?_, ?_⟩
 ·exact (H4.out.2.1.beside ⟨w.heap.size, 0, .none⟩ _ (by show p ≠ w.heap.size; omega) (by show b ≠ w.heap.size; omega) (by show m ≠ w.heap.size; omega)).beside ⟨w.heap.size, 1, .none⟩ _ (by show p ≠ w.heap.size; omega) (by show b ≠ w.heap.size; omega) (by show m ≠ w.heap.size; omega)
 ·unfold setE
  rw [if_neg (fun e => hy (by rw [← tt_y0]; exact e.1)), if_neg (fun e => hy e.1)]
 ·rw [HR2.out.byt f (fun x hx => hf (own2 x f hx).1) k hk, H3.out.1.byt f (fun x hx => hf (own1 x f hx).1) k hk]
  have hfi : f ≠ i := fun e => hf (by rw [e]; exact List.mem_cons_self ..)
  exact zer_out _ _ _ (by rcases Nat.lt_or_gt_of_ne hfi with h | h <;> omega)
 ·exact (((Fra.below HW.out.1).trans H4.out.2.2).beside ⟨w.heap.size, 0, .none⟩ _ (Nat.le_refl _)).beside ⟨w.heap.size, 1, .none⟩ _ (Nat.le_refl _)
end
end Go.Proofs.YtacdgfojdkppmaaGreatDoor.Rm
