import Derived.Test.YthopgmmodldljaaBd
namespace Go.Proofs.Ythopgmmodldljaa
open Go Go.RowKit
set_option linter.unusedVariables false
set_option linter.unusedSimpArgs false
/-! Of each frame whose it is. -/
def rowW (l : List Ow) (v : Value) : Row := ⟨59, 3, l.length, v, (l.map owL).flatten⟩
theorem flat_all {l : List Ow} {u : Value} (h : ∀ o ∈ l, ∀ v ∈ owL o, v = u) : (l.map owL).flatten = List.replicate (l.length * 3) u := by
  rw [List.eq_replicate_iff]
  refine ⟨?_, ?_⟩
  · rw [flat_len (sz := 3) (by intro c hc; obtain ⟨o, _, rfl⟩ := List.mem_map.1 hc; rfl)]
    simp
  · intro v hv
    obtain ⟨c, hc, hvc⟩ := List.mem_flatten.1 hv
    obtain ⟨o, ho, rfl⟩ := List.mem_map.1 hc
    exact h o ho v hvc
theorem made59 (n : Nat) : (madeCells (owL (0, 0, 0)).toArray (n * 3)).toList = ((List.replicate n ((0, 0, 0) : Ow)).map owL).flatten := by
  rw [flat_all (u := .int .i64 0) (by intro o ho v hv; rw [List.mem_replicate] at ho; rw [ho.2] at hv; simp [owL] at hv; exact hv), List.length_replicate, List.eq_replicate_iff]
  unfold madeCells
  refine ⟨by simp, ?_⟩
  intro v hv
  simp only [Array.toList_map, List.mem_map] at hv
  obtain ⟨i, _, rfl⟩ := hv
  have h3 : i % 3 = 0 ∨ i % 3 = 1 ∨ i % 3 = 2 := by omega
  show (owL (0, 0, 0)).toArray[i % 3]! = _
  rcases h3 with h | h | h <;> rw [h] <;> rfl
theorem flat_set (o : Ow) : ∀ (l : List Ow) (k : Nat), k < l.length → ((((l.map owL).flatten.set (k * 3) (.int .i64 o.1)).set (k * 3 + 1) (.int .i64 o.2.1)).set (k * 3 + 2) (.int .i64 o.2.2)) = ((l.set k o).map owL).flatten
  | [], k, h => by simp at h
  | x :: l, 0, h => by simp [owL]
  | x :: l, k + 1, h => by
    have ih := flat_set o l k (by simpa using h)
    simp only [List.map_cons, List.flatten_cons, List.set_cons_succ]
    rw [← ih]
    have e1 : (k + 1) * 3 = k * 3 + 3 := by omega
    rw [e1]
    simp only [owL, List.cons_append, List.nil_append, List.set_cons_succ]
/-- A frame's entry is written over. -/
theorem Owns.setO {w : World} {base g c : Nat} {l : List Ow} {R : List Row} (h : Owns w base (rowW l (.slice (some ⟨g, 0, .none⟩) l.length c) :: R)) (k : Nat) (hk : k < l.length) (o : Ow) : Owns (w.setCells g (k * 3) (owL o)) base (rowW (l.set k o) (.slice (some ⟨g, 0, .none⟩) l.length c) :: R) := by
  have hl : ((l.map owL).flatten).length = l.length * 3 := by
    rw [flat_len (sz := 3) (by intro c hc; obtain ⟨o, _, rfl⟩ := List.mem_map.1 hc; rfl)]; simp
  have h1 := Owns.setAt (A := []) (g := g) (j := k * 3) h (.int .i64 o.1) rfl rfl (by show _ < ((l.map owL).flatten).length; rw [hl]; omega)
  have h2 := Owns.setAt (A := []) (g := g) (j := k * 3 + 1) h1 (.int .i64 o.2.1) rfl rfl (by show _ < (((l.map owL).flatten).set _ _).length; rw [List.length_set, hl]; omega)
  have h3 := Owns.setAt (A := []) (g := g) (j := k * 3 + 2) h2 (.int .i64 o.2.2) rfl rfl (by show _ < ((((l.map owL).flatten).set _ _).set _ _).length; rw [List.length_set, List.length_set, hl]; omega)
  have e : rowW (l.set k o) (.slice (some ⟨g, 0, .none⟩) l.length c) = ⟨59, 3, l.length, .slice (some ⟨g, 0, .none⟩) l.length c, ((((l.map owL).flatten.set (k * 3) (.int .i64 o.1)).set (k * 3 + 1) (.int .i64 o.2.1)).set (k * 3 + 2) (.int .i64 o.2.2))⟩ := by
    rw [flat_set o l k hk]
    simp [rowW]
  rw [e]
  exact h3
def frA (k : Nat) : Int := 2147483648 + 4096 * (k : Int)
theorem frA_bd (k : Nat) (h : k < 4096) : Bd64 (frA k) := by unfold Bd64 frA; omega
/-- Of each frame whose it is. -/
def frL (N : Nat) (l : List Nm) : List Ow := (List.range N).map fun k => (owF l (frA k)).getD (0, 0, 0)
end Go.Proofs.Ythopgmmodldljaa
