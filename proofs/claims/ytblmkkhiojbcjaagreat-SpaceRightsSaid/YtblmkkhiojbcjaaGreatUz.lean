import Derived.Test.YtblmkkhiojbcjaaGreatUx
namespace Go.Proofs.YtblmkkhiojbcjaaGreat
open Go Go.RowKit
set_option linter.unusedVariables false
set_option linter.unusedSimpArgs false
/-- How many nodes a page wants. -/
def need (F : Nat → Option Nat) (va : Int) : Nat := if F (y1 va) = none then 2 else if F (y0 va) = none then 1 else 0
def nodesF (F : Nat → Option Nat) : Nat := cnt 512 (fun v => decide (F (1 + v) ≠ none)) + cnt 262144 (fun v => decide (F (513 + v) ≠ none))
theorem y0_lt (va : Int) : y0 va < 513 + 262144 := by
  have h1 := y1_le va
  have h2 := i1_lt va
  unfold y0 ch
  rw [if_neg (by omega)]
  omega
theorem nodes_y0 {F F' : Nat → Option Nat} {y : Nat} (hy : 513 ≤ y ∧ y < 513 + 262144) (h0 : F y = none) (h1 : F' y ≠ none) (h : ∀ z, z ≠ y → (F' z = none ↔ F z = none)) : nodesF F' = nodesF F + 1 := by
  unfold nodesF
  rw [cnt_ext (M := 512) (p := fun v => decide (F' (1 + v) ≠ none)) (q := fun v => decide (F (1 + v) ≠ none)) (fun v hv => decide_eq_decide.2 (not_congr (h _ (by omega)))),
    cnt_add (M := 262144) (v0 := y - 513) (p := fun v => decide (F (513 + v) ≠ none)) (q := fun v => decide (F' (513 + v) ≠ none)) (by omega) (by rw [show 513 + (y - 513) = y by omega]; simp [h0]) (by rw [show 513 + (y - 513) = y by omega]; simpa using h1) (fun v hv hne => decide_eq_decide.2 (not_congr (h _ (by omega))))]
  omega
theorem nodes_y1 {F F' : Nat → Option Nat} {y : Nat} (hy : 1 ≤ y ∧ y ≤ 512) (h0 : F y = none) (h1 : F' y ≠ none) (h : ∀ z, z ≠ y → (F' z = none ↔ F z = none)) : nodesF F' = nodesF F + 1 := by
  unfold nodesF
  rw [cnt_ext (M := 262144) (p := fun v => decide (F' (513 + v) ≠ none)) (q := fun v => decide (F (513 + v) ≠ none)) (fun v hv => decide_eq_decide.2 (not_congr (h _ (by omega)))),
    cnt_add (M := 512) (v0 := y - 1) (p := fun v => decide (F (1 + v) ≠ none)) (q := fun v => decide (F' (1 + v) ≠ none)) (by omega) (by rw [show 1 + (y - 1) = y by omega]; simp [h0]) (by rw [show 1 + (y - 1) = y by omega]; simpa using h1) (fun v hv hne => decide_eq_decide.2 (not_congr (h _ (by omega))))]
  omega
section
variable {N : Nat} {L L' : List Nat} {B B' : Nat → Int} {F F' : Nat → Option Nat} {lf lf' : Nat → Nat → Int}
theorem TL.nodesF {l : List Pg} (h : TL F lf l) (hP : PT N L B F lf) : nodesF F = prt (gV l) 1073741824 l.length + prt (gV l) 2097152 l.length := by
  have h1 := h.nodes hP 0
  have h2 := ndl_nodes hP 0
  unfold Go.Proofs.YtblmkkhiojbcjaaGreat.nodesF
  omega
/-- The frames that a table takes: taking a page away. -/
theorem PrR.len {va : Int} {q g : Nat} (h : PrR L F lf va q g L' F' lf') (hg : F (y1 va) = some g) (hq : F (y0 va) = some q) : L'.length + nodesF F' = L.length + nodesF F := by
  have hy0 := y0_ge va
  have hy1 := y1_le va
  have hlt := y0_lt va
  have e1 : nodesF F = nodesF (setN F (y0 va)) + 1 := nodes_y0 (y := y0 va) ⟨hy0, hlt⟩ (by unfold setN; rw [if_pos rfl]) (by rw [hq]; simp) (fun z hz => by unfold setN; rw [if_neg hz])
  rcases h with ⟨rfl, rfl, _⟩ | ⟨rfl, rfl, _⟩ | ⟨rfl, rfl, _⟩
  · rfl
  · rw [List.length_cons]
    omega
  · have e2 : nodesF (setN F (y0 va)) = nodesF (setN (setN F (y0 va)) (y1 va)) + 1 := nodes_y1 (y := y1 va) ⟨hy1.2, hy1.1⟩ (by unfold setN; rw [if_pos rfl]) (by unfold setN; rw [if_neg (by omega), hg]; simp) (fun z hz => by
      show _ ↔ setN (setN F (y0 va)) (y1 va) z = none
      unfold setN
      rw [if_neg hz])
    rw [List.length_cons, List.length_cons]
    omega
/-- The frames that a table takes: laying a page down. -/
theorem LP.len {va leaf : Int} (h : LP N va leaf L B F lf L' B' F') (hP : PT N L B F lf) : nodesF F' = nodesF F + need F va := by
  have hy0 := y0_ge va
  have hy1 := y1_le va
  have hlt := y0_lt va
  obtain ⟨g, q, hg, hq⟩ := h.has
  have same : ∀ z, z ≠ y1 va → z ≠ y0 va → (F' z = none ↔ F z = none) := fun z h1 h2 => by
    constructor
    · intro e
      cases hf : F z with
      | none => rfl
      | some f => rw [h.ext z f hf] at e; cases e
    · intro e
      cases hf : F' z with
      | none => rfl
      | some f =>
        rcases h.new z f hf with h3 | ⟨_, _, h3⟩
        · rw [e] at h3; cases h3
        · omega
  unfold need
  cases e1 : F (y1 va) with
  | none =>
    have e0 : F (y0 va) = none := by
      cases hf : F (y0 va) with
      | none => rfl
      | some f => exact absurd e1 (hP.up (y1 va) (i1 va) hy1.1 (i1_lt va) (by rw [show ch (y1 va) (i1 va) = y0 va from rfl, hf]; simp))
    rw [if_pos rfl]
    have a1 : nodesF (setO F (y1 va) g) = nodesF F + 1 := nodes_y1 (y := y1 va) ⟨hy1.2, hy1.1⟩ e1 (by unfold setO; rw [if_pos rfl]; simp) (fun z hz => by unfold setO; rw [if_neg hz])
    have a2 : nodesF F' = nodesF (setO F (y1 va) g) + 1 := nodes_y0 (y := y0 va) ⟨hy0, hlt⟩ (by unfold setO; rw [if_neg (by omega)]; exact e0) (by rw [hq]; simp) (fun z hz => by
      unfold setO
      split
      · next e => rw [e, hg]
      · next e => exact same z e hz)
    omega
  | some g0 =>
    rw [if_neg (by simp)]
    have s1 : F' (y1 va) = some g0 := h.ext _ _ e1
    cases e0 : F (y0 va) with
    | none =>
      rw [if_pos rfl]
      exact nodes_y0 (y := y0 va) ⟨hy0, hlt⟩ e0 (by rw [hq]; simp) (fun z hz => by
        by_cases e : z = y1 va
        · rw [e, s1, e1]
        · exact same z e hz)
    | some q0 =>
      rw [if_neg (by simp)]
      have s0 : F' (y0 va) = some q0 := h.ext _ _ e0
      unfold nodesF
      have all : ∀ z, F' z = none ↔ F z = none := fun z => by
        by_cases e : z = y1 va
        · rw [e, s1, e1]
        · by_cases e2 : z = y0 va
          · rw [e2, s0, e0]
          · exact same z e e2
      rw [cnt_ext (M := 512) (p := fun v => decide (F' (1 + v) ≠ none)) (q := fun v => decide (F (1 + v) ≠ none)) (fun v hv => decide_eq_decide.2 (not_congr (all _))), cnt_ext (M := 262144) (p := fun v => decide (F' (513 + v) ≠ none)) (q := fun v => decide (F (513 + v) ≠ none)) (fun v hv => decide_eq_decide.2 (not_congr (all _)))]
      exact (Nat.add_zero _).symm
end
end Go.Proofs.YtblmkkhiojbcjaaGreat
namespace Go.Proofs.YtblmkkhiojbcjaaGreat
open Go Go.RowKit
set_option linter.unusedVariables false
set_option linter.unusedSimpArgs false
section
variable {w : World} {p b m N : Nat} {B : Nat → Int} {L : List Nat} {F : Nat → Option Nat} {lf : Nat → Nat → Int}
theorem look_need (h : PT N L B F lf) (hN : N ≤ 4096) {r : Nat} (hr : F 0 = some r) (va : Int) (hz : lf (y0 va) (i0 va) = 0) : (look N L B (ad r) va).k = 0 ∧ (look N L B (ad r) va).l = (need F va : Nat) := by
  unfold need
  cases h1 : F (y1 va) with
  | none =>
    rw [look_2 h hr va h1]
    simp
  | some g =>
    cases h0 : F (y0 va) with
    | none =>
      rw [look_1 h hN hr va h1 h0]
      simp
    | some q =>
      rw [look_0 h hN hr va h1 h0, hz]
      simp [kd_zero]
theorem look_full (h : PT N L B F lf) (hN : N ≤ 4096) {r : Nat} (hr : F 0 = some r) (va : Int) (hz : lf (y0 va) (i0 va) ≠ 0) : (look N L B (ad r) va).k = 2 ∧ (look N L B (ad r) va).l = 0 ∧ (look N L B (ad r) va).e = lf (y0 va) (i0 va) := by
  obtain ⟨g, q, h1, h0⟩ := h.way va hz
  rw [look_0 h hN hr va h1 h0]
  refine ⟨?_, rfl, rfl⟩
  rcases h.lv (y0 va) (i0 va) with h2 | h2
  · exact absurd h2 hz
  · exact h2.1
/-- P4.6 on a table, whole. -/
theorem map_full (h : Ram w p b m N B L) (hP : PT N L B F lf) {r : Nat} (hr : F 0 = some r) (x : Pg) (hx : okP x) (hmp : (!ho x.2.2 18446744073709551361 && ho x.2.2 10 && (!hs x.2.2 4 || hs x.2.2 2)) = true) :
    Calls Tryz.prog 86 #[.pointer (some ⟨p, 0, .none⟩), .int .u64 (ad r), .int .u64 x.1, .int .u64 x.2.1, .int .u64 x.2.2] w fun e w' =>
      (lf (y0 x.1) (i0 x.1) ≠ 0 ∧ e = .returned (.int .i64 84) ∧ Below w.heap.size w w') ∨ (lf (y0 x.1) (i0 x.1) = 0 ∧ L.length < need F x.1 ∧ e = .returned (.int .i64 85) ∧ Below w.heap.size w w') ∨
      (lf (y0 x.1) (i0 x.1) = 0 ∧ need F x.1 ≤ L.length ∧ e = .returned (.int .i64 0) ∧ ∃ B' L' F', LP N x.1 (toP x.2.1 x.2.2) L B F lf L' B' F' ∧ L.length = need F x.1 + L'.length ∧ Ram w' p b m N B' L' ∧ Fra p b m w w') := by
  have hN := h.mem.n2
  have hrN := hP.held 0 r hr
  have hrb : 0 ≤ ad r ∧ ad r < 18446744073709551616 := by unfold ad; omega
  obtain ⟨hv, hpa, hpm, hkd⟩ := hx
  have htp := toP_val x.2.1 x.2.2 ⟨hpa.1, hpa.2.1⟩ ⟨hpm.1, by omega⟩ hpm.2.2
  have hk : kd (toP x.2.1 x.2.2) 0 = 2 ∧ 0 ≤ toP x.2.1 x.2.2 ∧ toP x.2.1 x.2.2 < 18446744073709551616 := ⟨hkd, by omega, by omega⟩
  refine (map_late h (ad r) x.1 x.2.1 x.2.2 hrb ⟨hv.1, by omega⟩ ⟨hpa.1, by omega⟩ ⟨hv.2.2, hv.2.1⟩ ⟨hpa.2.2, hpa.2.1⟩ hmp).mono fun e w' hM => ?_
  unfold MapP at hM
  have hnd := hP.ndB hr
  by_cases hz : lf (y0 x.1) (i0 x.1) = 0
  · obtain ⟨l1, l2⟩ := look_need hP hN hr x.1 hz
    rw [l1, l2] at hM
    rcases hM with ⟨h1, _⟩ | ⟨_, h1, _⟩ | ⟨_, _, h1, h2, h3⟩ | ⟨_, _, h0, h2, B', L', h3, h4, h5, h6⟩
    · rw [hnd] at h1; cases h1
    · exact absurd rfl h1
    · exact .inr (.inl ⟨hz, by omega, h2, h3⟩)
    · obtain ⟨F', R⟩ := lays_pt hP hN h.nd h.lt hr hk h3
      refine .inr (.inr ⟨hz, by omega, h2, B', L', F', R, ?_, h5, h6⟩)
      have h7 := congrArg List.length h4
      rw [List.length_append, List.length_take] at h7
      simp only [Int.toNat_natCast] at h7
      omega
  · obtain ⟨l1, _⟩ := look_full hP hN hr x.1 hz
    rw [l1] at hM
    rcases hM with ⟨h1, _⟩ | ⟨_, _, h1, h2⟩ | ⟨_, h1, _⟩ | ⟨_, h1, _⟩
    · rw [hnd] at h1; cases h1
    · exact .inl ⟨hz, h1, h2⟩
    · omega
    · omega
end
end Go.Proofs.YtblmkkhiojbcjaaGreat
