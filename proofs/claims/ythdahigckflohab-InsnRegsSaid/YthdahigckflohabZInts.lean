import Derived.Test.YthdahigckflohabFree
namespace Go.Proofs.Ythdahigckflohab
open Go.RowKit
set_option linter.unusedVariables false
set_option linter.unusedSimpArgs false
/-- The numbers that a slice leads to. -/
def HasInts (w : World) (p : Option Addr) (L : List Int) : Prop := L = [] ∨ ∃ g, p = some ⟨g, 0, .none⟩ ∧ g < w.heap.size ∧ ∀ (k : Nat) (u : Int), L[k]? = some u → w.cell? ⟨g, k, .none⟩ = some (.int .i64 u)
theorem hasInts_of {w : World} {base c : Nat} {p : Option Addr} {L : List Int} (h : w.ownsRow base 3 1 (.slice p L.length c) L.length (L.map (.int .i64))) : HasInts w p L := by
  by_cases hn : 0 < L.length
  · obtain ⟨g, rfl, _, hg⟩ := row_shape h hn
    refine .inr ⟨g, rfl, hg, fun k u hk => ?_⟩
    have hl : k < L.length := by
      rcases Nat.lt_or_ge k L.length with h | h
      · exact h
      · rw [List.getElem?_eq_none h] at hk; cases hk
    rw [h.cellAt k (by omega), List.getElem?_map, hk]
    rfl
  · exact .inl (List.eq_nil_of_length_eq_zero (by omega))
set_option maxHeartbeats 1000000 in
theorem ints_any (L : List Int) (p1 p2 : Option Addr) (c1 c2 : Nat) (w : World) (hl : L.length ≤ 1000) (h1 : HasInts w p1 L) (h2 : HasInts w p2 L) :
    Calls Try.prog 30 #[.slice p1 L.length c1, .slice p2 L.length c2] w fun e w' => e = .returned (.bool true) ∧ ∃ m, w' = w.drewN m := by
  have H1 : Hid (HasInts w p1 L) := h1
  have H2 : Hid (HasInts w p2 L) := h2
  clear h1 h2
  generalize hn : L.length = n at *
  have HL : Hid (L.length = n) := hn
  clear hn
  go_enter Try.func30, Try.ntmps30
  go_wp2
  go_loopw [5] (fun k wr => ∃ K : Nat, K ≤ n ∧ k = .int .i64 K ∧ ∃ m, wr = w.drewN m) (fun k _ => n - (intOf k).toNat)
  case atStart => exact ⟨0, by omega, rfl, 0, rfl⟩
  case round =>
    obtain ⟨K, hK, rfl, m, rfl⟩ := hrel
    by_cases hlt : K < n
    · rcases H1.out with h | ⟨g1, rfl, hg1, k1⟩
      · exfalso; have := HL.out; rw [h] at this; simp at this; omega
      rcases H2.out with h | ⟨g2, rfl, hg2, k2⟩
      · exfalso; have := HL.out; rw [h] at this; simp at this; omega
      have hk : L[K]? = some (L[K]'(by have := HL.out; omega)) := List.getElem?_eq_getElem _
      have e1 := k1 K _ hk
      have e2 := k2 K _ hk
      generalize L[K]'(by have := HL.out; omega) = u at *
      have e3 : (K : Int) < (n : Int) := by omega
      clear k1 k2 hk
      go_wp2
      go_quiet (fail)
      go_wp2
      exact ⟨⟨K + 1, by omega, by go_num, _, rfl⟩, by simp [intOf]; omega⟩
    · have e1 : decide ((K : Int) < (n : Int)) = false := by simp; omega
      go_wp2
      go_ret
      exact ⟨rfl, _, rfl⟩
end Go.Proofs.Ythdahigckflohab
