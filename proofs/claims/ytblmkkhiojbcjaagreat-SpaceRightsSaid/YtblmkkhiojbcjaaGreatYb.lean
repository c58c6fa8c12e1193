import Derived.Test.YtblmkkhiojbcjaaGreatYa
import Derived.Test.YtblmkkhiojbcjaaGreatSMapL
namespace Go.Proofs.YtblmkkhiojbcjaaGreat
open Go.RowKit
set_option linter.unusedVariables false
set_option linter.unusedSimpArgs false
/-- How many nodes a page wants. -/
def needY (F : Nat → Option Nat) (va : Int) : Nat := if F (y1 va) = none then 2 else if F (y0 va) = none then 1 else 0
section
variable {w : World} {p b m N : Nat} {B : Nat → Int} {L : List Nat} {F : Nat → Option Nat} {lf : Nat → Nat → Int}
theorem look_needY (h : PT N L B F lf) (hN : N ≤ 4096) {r : Nat} (hr : F 0 = some r) (va : Int) (hz : lf (y0 va) (i0 va) = 0) : (look N L B (ad r) va).k = 0 ∧ (look N L B (ad r) va).l = (needY F va : Nat) := by
  unfold needY
  cases h1 : F (y1 va) with
  | none =>
    rw [look_2 h hr va h1]
    simp
  | some g =>
    cases h0 : F (y0 va) with
    | none =>
      rw [look_1 h hN hr va h1 h0]
      simp
    | some q =>
      rw [look_0 h hN hr va h1 h0, hz]
      simp [kd_zero]
theorem ad_b (f N : Nat) (h : f < N) (hN : N ≤ 4096) : 0 ≤ ad f ∧ ad f < 72057594037927936 ∧ ad f % 4096 = 0 := by unfold ad; omega
/-- Map of a page that a table does not have. -/
theorem map_pt (h : Ram w p b m N B L) (hP : PT N L B F lf) {r : Nat} (hr : F 0 = some r) (va pa perm : Int) (hv : 0 ≤ va) (hu : va % 4096 = 0 ∧ va < 274877906944) (hpa : 0 ≤ pa ∧ pa % 4096 = 0 ∧ pa < 72057594037927936)
    (hmp : (!ho perm 18446744073709551361 && ho perm 10 && (!hs perm 4 || hs perm 2)) = true) (hk : kd (toP pa perm) 0 = 2 ∧ 0 ≤ toP pa perm ∧ toP pa perm < 18446744073709551616) (hz : lf (y0 va) (i0 va) = 0) (hn : needY F va ≤ L.length) :
    Calls Tryz.prog 86 #[.pointer (some ⟨p, 0, .none⟩), .int .u64 (ad r), .int .u64 va, .int .u64 pa, .int .u64 perm] w fun e w' => e = .returned (.int .i64 0) ∧ ∃ B' L' F', LP N va (toP pa perm) L B F lf L' B' F' ∧ L = L.take (needY F va) ++ L' ∧ Ram w' p b m N B' L' ∧ Fra p b m w w' := by
  have hN := h.mem.n2
  have hrb := ad_b r N (hP.held 0 r hr).2.1 hN
  obtain ⟨l1, l2⟩ := look_needY hP hN hr va hz
  refine (map_late h (ad r) va pa perm ⟨hrb.1, by omega⟩ ⟨hv, by omega⟩ ⟨hpa.1, by omega⟩ hu ⟨hpa.2.1, hpa.2.2⟩ hmp).mono fun e w' hM => ?_
  unfold MapP at hM
  have hnd := hP.ndB hr
  rw [l1, l2] at hM
  rcases hM with ⟨h1, _⟩ | ⟨_, h1, _⟩ | ⟨_, _, h1, _⟩ | ⟨_, _, _, rfl, B', L', h1, h2, h3, h4⟩
  · rw [hnd] at h1; cases h1
  · exact absurd rfl h1
  · omega
  · obtain ⟨F', R⟩ := lays_pt hP hN h.nd h.lt hr hk h1
    exact ⟨rfl, B', L', F', R, by simpa using h2, h3, h4⟩
/-- A table that New gives. -/
theorem PT.initY {i : Nat} (hi : 1 ≤ i ∧ i < N) (hL : i ∉ L) : PT N L (zer B i) (fun x => if x = 0 then some i else none) (fun _ _ => 0) := by
  refine ⟨⟨i, by simp⟩, fun x f hf => ?_, fun x y f hx hy => ?_, fun x e hx he hne => ?_, fun x hx => ?_, fun x g hx hg e he => ?_, fun y g hy hg k hk => ?_, fun _ _ => .inl rfl, fun _ _ _ => rfl⟩
  · by_cases e : x = 0
    · simp only [e, if_true, Option.some.injEq] at hf
      subst hf
      exact ⟨hi.1, hi.2, hL⟩
    · simp [e] at hf
  · by_cases e : x = 0 <;> by_cases e2 : y = 0 <;> simp_all
  · have := ch_pos x e
    simp [show ch x e ≠ 0 by omega] at hne
  · by_cases e : x = 0
    · omega
    · simp [e] at hx
  · by_cases e2 : x = 0
    · simp only [e2, if_true, Option.some.injEq] at hg
      subst hg
      have := ch_pos x e
      rw [evn_zer_same _ _ _ he]
      simp [show ch x e ≠ 0 by omega, ptr]
    · simp [e2] at hg
  · simp [show y ≠ 0 by omega] at hg
end
/-- Is it a held frame's address? -/
def isHd (N : Nat) (L : List Nat) (pa : Int) : Prop := ∃ f : Nat, f < N ∧ f ∉ L ∧ pa = ad f
end Go.Proofs.YtblmkkhiojbcjaaGreat
