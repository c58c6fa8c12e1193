import Derived.Test.YtblmkkhiojbcjaaGreatUy
namespace Go.Proofs.YtblmkkhiojbcjaaGreat
open Go Go.RowKit
set_option linter.unusedVariables false
set_option linter.unusedSimpArgs false
section
variable {w : World} {p b m N : Nat} {B : Nat → Int} {L : List Nat} {F : Nat → Option Nat} {lf : Nat → Nat → Int}
theorem look_need (h : PT N L B F lf) (hN : N ≤ 4096) {r : Nat} (hr : F 0 = some r) (va : Int) (hz : lf (y0 va) (i0 va) = 0) : (look N L B (ad r) va).k = 0 ∧ (look N L B (ad r) va).l = (need F va : Nat) := by
  unfold need
  cases h1 : F (y1 va) with
  | none =>
    rw [look_2 h hr va h1]
    simp
  | some g =>
    cases h0 : F (y0 va) with
    | none =>
      rw [look_1 h hN hr va h1 h0]
      simp
    | some q =>
      rw [look_0 h hN hr va h1 h0, hz]
      simp [kd_zero]
theorem look_full (h : PT N L B F lf) (hN : N ≤ 4096) {r : Nat} (hr : F 0 = some r) (va : Int) (hz : lf (y0 va) (i0 va) ≠ 0) : (look N L B (ad r) va).k = 2 ∧ (look N L B (ad r) va).l = 0 ∧ (look N L B (ad r) va).e = lf (y0 va) (i0 va) := by
  obtain ⟨g, q, h1, h0⟩ := h.way va hz
  rw [look_0 h hN hr va h1 h0]
  refine ⟨?_, rfl, rfl⟩
  rcases h.lv (y0 va) (i0 va) with h2 | h2
  · exact absurd h2 hz
  · exact h2.1
/-- P4.6 on a table, whole. -/
theorem map_full (h : Ram w p b m N B L) (hP : PT N L B F lf) {r : Nat} (hr : F 0 = some r) (x : Pg) (hx : okP x) (hmp : (!ho x.2.2 18446744073709551361 && ho x.2.2 10 && (!hs x.2.2 4 || hs x.2.2 2)) = true) :
    Calls Tryz.prog 86 #[.pointer (some ⟨p, 0, .none⟩), .int .u64 (ad r), .int .u64 x.1, .int .u64 x.2.1, .int .u64 x.2.2] w fun e w' =>
      (lf (y0 x.1) (i0 x.1) ≠ 0 ∧ e = .returned (.int .i64 84) ∧ Below w.heap.size w w') ∨ (lf (y0 x.1) (i0 x.1) = 0 ∧ L.length < need F x.1 ∧ e = .returned (.int .i64 85) ∧ Below w.heap.size w w') ∨
      (lf (y0 x.1) (i0 x.1) = 0 ∧ need F x.1 ≤ L.length ∧ e = .returned (.int .i64 0) ∧ ∃ B' L' F', LP N x.1 (toP x.2.1 x.2.2) L B F lf L' B' F' ∧ L.length = need F x.1 + L'.length ∧ Ram w' p b m N B' L' ∧ Fra p b m w w') := by
  have hN := h.mem.n2
  have hrN := hP.held 0 r hr
  have hrb : 0 ≤ ad r ∧ ad r < 18446744073709551616 := by unfold ad; omega
  obtain ⟨hv, hpa, hpm, hkd⟩ := hx
  have htp := toP_val x.2.1 x.2.2 ⟨hpa.1, hpa.2.1⟩ ⟨hpm.1, by omega⟩ hpm.2.2
  have hk : kd (toP x.2.1 x.2.2) 0 = 2 ∧ 0 ≤ toP x.2.1 x.2.2 ∧ toP x.2.1 x.2.2 < 18446744073709551616 := ⟨hkd, by omega, by omega⟩
  refine (map_late h (ad r) x.1 x.2.1 x.2.2 hrb ⟨hv.1, by omega⟩ ⟨hpa.1, by omega⟩ ⟨hv.2.2, hv.2.1⟩ ⟨hpa.2.2, hpa.2.1⟩ hmp).mono fun e w' hM => ?_
  unfold MapP at hM
  have hnd := hP.ndB hr
  by_cases hz : lf (y0 x.1) (i0 x.1) = 0
  · obtain ⟨l1, l2⟩ := look_need hP hN hr x.1 hz
    rw [l1, l2] at hM
    rcases hM with ⟨h1, _⟩ | ⟨_, h1, _⟩ | ⟨_, _, h1, h2, h3⟩ | ⟨_, _, h0, h2, B', L', h3, h4, h5, h6⟩
    · rw [hnd] at h1; cases h1
    · exact absurd rfl h1
    · exact .inr (.inl ⟨hz, by omega, h2, h3⟩)
    · obtain ⟨F', R⟩ := lays_pt hP hN h.nd h.lt hr hk h3
      refine .inr (.inr ⟨hz, by omega, h2, B', L', F', R, ?_, h5, h6⟩)
      have h7 := congrArg List.length h4
      rw [List.length_append, List.length_take] at h7
      simp only [Int.toNat_natCast] at h7
      omega
  · obtain ⟨l1, _⟩ := look_full hP hN hr x.1 hz
    rw [l1] at hM
    rcases hM with ⟨h1, _⟩ | ⟨_, _, h1, h2⟩ | ⟨_, h1, _⟩ | ⟨_, h1, _⟩
    · rw [hnd] at h1; cases h1
    · exact .inl ⟨hz, h1, h2⟩
    · omega
    · omega
end
end Go.Proofs.YtblmkkhiojbcjaaGreat
