import Derived.Test.YtblmkkhiojbcjaaGreatSLayW
import Derived.Test.YtblmkkhiojbcjaaGreatSMapL
namespace Go.Proofs.YtblmkkhiojbcjaaGreat
open Go.RowKit
set_option linter.unusedVariables false
set_option linter.unusedSimpArgs false
/-- How many nodes a page wants. -/
def needY (F : Nat → Option Nat) (va : Int) : Nat := if F (y1 va) = none then 2 else if F (y0 va) = none then 1 else 0
section
variable {w : World} {p b m N : Nat} {B : Nat → Int} {L : List Nat} {F : Nat → Option Nat} {lf : Nat → Nat → Int}
theorem look_needY (h : PT N L B F lf) (hN : N ≤ 4096) {r : Nat} (hr : F 0 = some r) (va : Int) (hz : lf (y0 va) (i0 va) = 0) : (look N L B (ad r) va).k = 0 ∧ (look N L B (ad r) va).l = (needY F va : Nat) := by
  unfold needY
  cases h1 : F (y1 va) with
  | none =>
    rw [look_2 h hr va h1]
    simp
  | some g =>
    cases h0 : F (y0 va) with
    | none =>
      rw [look_1 h hN hr va h1 h0]
      simp
    | some q =>
      rw [look_0 h hN hr va h1 h0, hz]
      simp [kd_zero]
theorem ad_b (f N : Nat) (h : f < N) (hN : N ≤ 4096) : 0 ≤ ad f ∧ ad f < 72057594037927936 ∧ ad f % 4096 = 0 := by unfold ad; omega
/-- Map of a page that a table does not have. -/
theorem map_pt (h : Ram w p b m N B L) (hP : PT N L B F lf) {r : Nat} (hr : F 0 = some r) (va pa perm : Int) (hv : 0 ≤ va) (hu : va % 4096 = 0 ∧ va < 274877906944) (hpa : 0 ≤ pa ∧ pa % 4096 = 0 ∧ pa < 72057594037927936)
    (hmp : (!ho perm 18446744073709551361 && ho perm 10 && (!hs perm 4 || hs perm 2)) = true) (hk : kd (toP pa perm) 0 = 2 ∧ 0 ≤ toP pa perm ∧ toP pa perm < 18446744073709551616) (hz : lf (y0 va) (i0 va) = 0) (hn : needY F va ≤ L.length) :
    Calls Tryz.prog 86 #[.pointer (some ⟨p, 0, .none⟩), .int .u64 (ad r), .int .u64 va, .int .u64 pa, .int .u64 perm] w fun e w' => e = .returned (.int .i64 0) ∧ ∃ B' L' F', LP N va (toP pa perm) L B F lf L' B' F' ∧ L = L.take (needY F va) ++ L' ∧ Ram w' p b m N B' L' ∧ Fra p b m w w' := by
  have hN := h.mem.n2
  have hrb := ad_b r N (hP.held 0 r hr).2.1 hN
  obtain ⟨l1, l2⟩ := look_needY hP hN hr va hz
  refine (map_late h (ad r) va pa perm ⟨hrb.1, by omega⟩ ⟨hv, by omega⟩ ⟨hpa.1, by omega⟩ hu ⟨hpa.2.1, hpa.2.2⟩ hmp).mono fun e w' hM => ?_
  unfold MapP at hM
  have hnd := hP.ndB hr
  rw [l1, l2] at hM
  rcases hM with ⟨h1, _⟩ | ⟨_, h1, _⟩ | ⟨_, _, h1, _⟩ | ⟨_, _, _, rfl, B', L', h1, h2, h3, h4⟩
  · rw [hnd] at h1; cases h1
  · exact absurd rfl h1
  · omega
  · obtain ⟨F', R⟩ := lays_pt hP hN h.nd h.lt hr hk h1
    exact ⟨rfl, B', L', F', R, by simpa using h2, h3, h4⟩
/-- A table that New gives. -/
theorem PT.initY {i : Nat} (hi : 1 ≤ i ∧ i < N) (hL : i ∉ L) : PT N L (zer B i) (fun x => if x = 0 then some i else none) (fun _ _ => 0) := by
  refine ⟨⟨i, by simp⟩, fun x f hf => ?_, fun x y f hx hy => ?_, fun x e hx he hne => ?_, fun x hx => ?_, fun x g hx hg e he => ?_, fun y g hy hg k hk => ?_, fun _ _ => .inl rfl, fun _ _ _ => rfl⟩
  · by_cases e : x = 0
    · simp only [e, if_true, Option.some.injEq] at hf
      subst hf
      exact ⟨hi.1, hi.2, hL⟩
    · simp [e] at hf
  · by_cases e : x = 0 <;> by_cases e2 : y = 0 <;> simp_all
  · have := ch_pos x e
    simp [show ch x e ≠ 0 by omega] at hne
  · by_cases e : x = 0
    · omega
    · simp [e] at hx
  · by_cases e2 : x = 0
    · simp only [e2, if_true, Option.some.injEq] at hg
      subst hg
      have := ch_pos x e
      rw [evn_zer_same _ _ _ he]
      simp [show ch x e ≠ 0 by omega, ptr]
    · simp [e2] at hg
  · simp [show y ≠ 0 by omega] at hg
end
/-- Is it a held frame's address? -/
def isHd (N : Nat) (L : List Nat) (pa : Int) : Prop := ∃ f : Nat, f < N ∧ f ∉ L ∧ pa = ad f
end Go.Proofs.YtblmkkhiojbcjaaGreat
namespace Go.Proofs.YtblmkkhiojbcjaaGreat
open Go.RowKit
set_option linter.unusedVariables false
set_option linter.unusedSimpArgs false
section
variable {w : World} {p b m N : Nat} {B : Nat → Int} {L : List Nat} {F : Nat → Option Nat} {lf : Nat → Nat → Int}
/-- Load of one byte: whether there is one, and a number. -/
theorem load1_any (h : Ram w p b m N B L) (pa : Int) (hp : 0 ≤ pa ∧ pa < 18446744073709551616) : ∃ x ok, (ok = true ↔ isHd N L (pa / 4096 * 4096)) ∧
    Calls Tryz.prog 118 #[.pointer (some ⟨p, 0, .none⟩), .int .u64 pa, .int .i64 1] w fun e w' => e = .returned (.tuple #[.int .u64 x, .bool ok]) ∧ Below w.heap.size w w' := by
  have n2 := h.mem.n2
  by_cases ho : 2147483648 ≤ pa ∧ pa - 2147483648 + 1 ≤ 4096 * N
  · obtain ⟨o, rfl⟩ : ∃ o : Nat, pa = 2147483648 + o := ⟨(pa - 2147483648).toNat, by omega⟩
    have hfN : o / 4096 < N := by omega
    have hpg : (2147483648 + (o : Int)) / 4096 * 4096 = ad (o / 4096) := by unfold ad; omega
    by_cases hL : o / 4096 ∈ L
    · refine ⟨0, false, ?_, ?_⟩
      · constructor
        · intro h; cases h
        · rintro ⟨f, h1, h2, h3⟩
          rw [hpg] at h3
          have : f = o / 4096 := by unfold ad at h3; omega
          exact absurd (this ▸ hL) h2
      · have c := reach_hole h.mem o 1 (by omega) (by omega) (o / 4096) (by omega) (by omega) (by rw [hdL_in hfN]; simp [hL])
        exact load_no _ 1 (access_no _ 1 0 false c)
    · refine ⟨num B o 1, true, ?_, ?_⟩
      · simp only [true_iff]
        exact ⟨o / 4096, hfN, hL, hpg⟩
      · exact load_ok h.mem o 1 (.inl rfl) (by omega) (fun f h1 h2 => by
          have : f = o / 4096 := by omega
          rw [this, hdL_in hfN]
          simp [hL])
  · refine ⟨0, false, ?_, ?_⟩
    · constructor
      · intro h; cases h
      · rintro ⟨f, h1, h2, h3⟩
        unfold ad at h3
        omega
    · exact load_no _ 1 (access_no _ 1 0 false (reach_out h.mem pa 1 hp (by omega) (by omega) ho))
/-- isHeld of a space. -/
theorem held_any (h : Ram w p b m N B L) (pa : Int) (hp : 0 ≤ pa ∧ pa < 18446744073709551616) : ∃ ok, (ok = true ↔ isHd N L pa) ∧
    Calls Tryz.prog 107 #[.pointer (some ⟨p, 0, .none⟩), .int .u64 pa] w fun e w' => e = .returned (.bool ok) ∧ Below w.heap.size w w' := by
  obtain ⟨x, ok, h1, c⟩ := load1_any h pa hp
  refine ⟨ok && decide (pa % 4096 = 0), ?_, ?_⟩
  · constructor
    · intro e
      simp only [Bool.and_eq_true, decide_eq_true_eq] at e
      have := h1.1 e.1
      rwa [show pa / 4096 * 4096 = pa by omega] at this
    · intro e
      obtain ⟨f, h2, h3, h4⟩ := e
      have h5 : pa % 4096 = 0 := by unfold ad at h4; omega
      rw [h1.2 (by rw [show pa / 4096 * 4096 = pa by omega]; exact ⟨f, h2, h3, h4⟩)]
      simp [h5]
  · clear h h1
    cases ok
    · go_enter Tryz.func107, Tryz.ntmps107
      go_wp2_with (go_at_call 118; refine c.mono ?_; rintro _ w1 ⟨rfl, b1⟩)
      go_ret
      exact ⟨by simp, b1⟩
    · by_cases h5 : pa % 4096 = 0
      · go_enter Tryz.func107, Tryz.ntmps107
        go_wp2_with (go_at_call 118; refine c.mono ?_; rintro _ w1 ⟨rfl, b1⟩)
        go_ret
        exact ⟨by simp [h5], b1⟩
      · have h6 : (pa % 4096 == 0) = false := by simpa using h5
        go_enter Tryz.func107, Tryz.ntmps107
        go_wp2_with (go_at_call 118; refine c.mono ?_; rintro _ w1 ⟨rfl, b1⟩)
        go_ret
        exact ⟨by simp [h5], b1⟩
/-- Two held frames, unlike. -/
theorem two_any (h : Ram w p b m N B L) (a t : Int) (ha : 0 ≤ a ∧ a < 18446744073709551616) (ht : 0 ≤ t ∧ t < 18446744073709551616) : ∃ ok, (ok = true ↔ isHd N L a ∧ isHd N L t ∧ a ≠ t) ∧
    Calls Tryz.prog 76 #[.pointer (some ⟨p, 0, .none⟩), .int .u64 a, .int .u64 t] w fun e w' => e = .returned (.bool ok) ∧ Below w.heap.size w w' := by
  obtain ⟨o1, h1, c1⟩ := held_any h a ha
  cases o1
  · refine ⟨false, ?_, ?_⟩
    · constructor
      · intro e; cases e
      · intro e; exact absurd (h1.2 e.1) (by simp)
    · clear h h1
      go_enter Tryz.func76, Tryz.ntmps76
      go_wp2_with (go_at_call 107; refine c1.mono ?_; rintro _ w1 ⟨rfl, b1⟩)
      go_ret
      exact ⟨rfl, b1⟩
  · have hy : ∀ w', Below w.heap.size w w' → ∃ ok, (ok = true ↔ isHd N L t) ∧ Calls Tryz.prog 107 #[.pointer (some ⟨p, 0, .none⟩), .int .u64 t] w' fun e w'' => e = .returned (.bool ok) ∧ Below w'.heap.size w' w'' := fun w' b => held_any (h.below b) t ht
    by_cases h2 : isHd N L t
    · have hy2 : ∀ w', Below w.heap.size w w' → Calls Tryz.prog 107 #[.pointer (some ⟨p, 0, .none⟩), .int .u64 t] w' fun e w'' => e = .returned (.bool true) ∧ Below w'.heap.size w' w'' := fun w' b => by
        obtain ⟨ok, e1, e2⟩ := hy w' b
        obtain rfl : ok = true := e1.2 h2
        exact e2
      have HY : Hid (∀ w', Below w.heap.size w w' → Calls Tryz.prog 107 #[.pointer (some ⟨p, 0, .none⟩), .int .u64 t] w' fun e w'' => e = .returned (.bool true) ∧ Below w'.heap.size w' w'') := hy2
      refine ⟨decide (a ≠ t), ?_, ?_⟩
      · constructor
        · intro e; exact ⟨h1.1 rfl, h2, of_decide_eq_true e⟩
        · intro e; exact decide_eq_true e.2.2
      · clear h h1 hy hy2
        by_cases hat : a = t
        · subst hat
          go_enter Tryz.func76, Tryz.ntmps76
          go_wp2_with first | (go_at_call_of 107 (.int .u64 a); refine c1.mono ?_; rintro _ w1 ⟨rfl, b1⟩) | (go_at_call 107; first | (refine (HY.out _ b1).mono ?_; rintro _ w2 ⟨rfl, b2⟩) | (refine c1.mono ?_; rintro _ w1 ⟨rfl, b1⟩))
          go_ret
          exact ⟨by simp, b1.trans (b2.mono b1.size)⟩
        · have hne : (a != t) = true := by simpa using hat
          go_enter Tryz.func76, Tryz.ntmps76
          go_wp2_with (go_at_call 107; first | (refine (HY.out _ b1).mono ?_; rintro _ w2 ⟨rfl, b2⟩) | (refine c1.mono ?_; rintro _ w1 ⟨rfl, b1⟩))
          go_ret
          exact ⟨by simp [hat], b1.trans (b2.mono b1.size)⟩
    · have hy2 : ∀ w', Below w.heap.size w w' → Calls Tryz.prog 107 #[.pointer (some ⟨p, 0, .none⟩), .int .u64 t] w' fun e w'' => e = .returned (.bool false) ∧ Below w'.heap.size w' w'' := fun w' b => by
        obtain ⟨ok, e1, e2⟩ := hy w' b
        cases ok
        · exact e2
        · exact absurd (e1.1 rfl) h2
      have HY : Hid (∀ w', Below w.heap.size w w' → Calls Tryz.prog 107 #[.pointer (some ⟨p, 0, .none⟩), .int .u64 t] w' fun e w'' => e = .returned (.bool false) ∧ Below w'.heap.size w' w'') := hy2
      refine ⟨false, ?_, ?_⟩
      · constructor
        · intro e; cases e
        · intro e; exact absurd e.2.1 h2
      · clear h h1 hy hy2 h2
        go_enter Tryz.func76, Tryz.ntmps76
        go_wp2_with (go_at_call 107; first | (refine (HY.out _ b1).mono ?_; rintro _ w2 ⟨rfl, b2⟩) | (refine c1.mono ?_; rintro _ w1 ⟨rfl, b1⟩))
        go_ret
        exact ⟨rfl, b1.trans (b2.mono b1.size)⟩
end
end Go.Proofs.YtblmkkhiojbcjaaGreat
