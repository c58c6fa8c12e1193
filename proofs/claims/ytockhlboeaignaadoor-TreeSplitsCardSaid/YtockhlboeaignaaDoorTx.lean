import Derived.Test.YtockhlboeaignaaDoorRs
namespace Go.Proofs.YtockhlboeaignaaDoor
open Go.RowKit
set_option linter.unusedVariables false
set_option linter.unusedSimpArgs false
set_option maxRecDepth 10000
/-- A slice shows these texts. -/
def Tex (w : World) (p : Option Addr) (n c : Nat) (xs : List Bs) : Prop :=
  xs.length = n ∧ n ≤ c ∧ c ≤ maxLen ∧ (n = 0 ∨ ∃ b o, p = some ⟨b, o, .none⟩ ∧ b < w.heap.size ∧ ∀ i x, xs[i]? = some x → w.cell? ⟨b, o + i, .none⟩ = some (sv x))
theorem tex_own {w : World} {base : Nat} {p : Option Addr} {n c : Nat} {xs : List Bs} (h : w.ownsRow base 9 1 (.slice p n c) n (xs.map sv)) : Tex w p n c xs := by
  have hl : xs.length = n := by have := h.1; rw [List.length_map] at this; omega
  rcases h.2 with ⟨hv, h0⟩ | ⟨g, cap, cur, hv, hb, hg, hn, hm, _⟩
  · simp only [Value.slice.injEq] at hv
    obtain ⟨rfl, _, rfl⟩ := hv
    exact ⟨hl, by omega, by decide, .inl h0⟩
  · simp only [Value.slice.injEq, true_and] at hv
    obtain ⟨rfl, rfl⟩ := hv
    refine ⟨hl, hn, hm, .inr ⟨g, 0, rfl, (Array.getElem?_eq_some_iff.1 hg).1, fun i x hx => ?_⟩⟩
    have := h.cells (g := g) rfl i (sv x) (by rw [List.getElem?_map, hx]; rfl)
    rwa [le_addr_add] at this
set_option maxHeartbeats 4000000 in
set_option maxRecDepth 100000 in
theorem texts_any (p1 p2 : Option Addr) (n c1 c2 : Nat) (xs : List Bs) (w : World) (hn : n < 1000000) (h1 : Tex w p1 n c1 xs) (h2 : Tex w p2 n c2 xs) :
    Calls Tryd.prog 9 #[.slice p1 n c1, .slice p2 n c2] w fun e w' => e = .returned (.bool true) ∧ ∃ k, w' = w.drewN k := by
  obtain ⟨hl, k1, m1, h1⟩ := h1
  obtain ⟨_, k2, m2, h2⟩ := h2
  have m1 : c1 ≤ 9223372036854775807 := m1
  have m2 : c2 ≤ 9223372036854775807 := m2
  have HX : Hid (xs.length = n) := hl
  by_cases h0 : n = 0
  · subst h0
    clear h1 h2 hl
    go_enter Tryd.func9, Tryd.ntmps9
    go_wp2
    go_loopw [5] (fun k wr => k = .int .i64 0 ∧ wr = w) (fun _ _ => 0)
    case atStart => exact ⟨rfl, rfl⟩
    case round =>
      obtain ⟨rfl, rfl⟩ := hrel
      go_wp2
      go_ret
      exact ⟨rfl, 0, rfl⟩
  · rcases h1 with h1 | ⟨b1, o1, rfl, _, h1⟩
    · omega
    rcases h2 with h2 | ⟨b2, o2, rfl, _, h2⟩
    · omega
    have H1 : Hid (∀ i x, xs[i]? = some x → w.cell? ⟨b1, o1 + i, .none⟩ = some (sv x)) := h1
    have H2 : Hid (∀ i x, xs[i]? = some x → w.cell? ⟨b2, o2 + i, .none⟩ = some (sv x)) := h2
    clear h1 h2 hl h0
    go_enter Tryd.func9, Tryd.ntmps9
    go_wp2
    go_loopw [5] (fun k wr => ∃ i : Nat, i ≤ n ∧ k = .int .i64 i ∧ ∃ j, wr = w.drewN j) (fun k _ => (n - intOf k).toNat)
    case atStart => exact ⟨0, by omega, rfl, 0, rfl⟩
    case round =>
      obtain ⟨i, hi, rfl, j, rfl⟩ := hrel
      by_cases hlt : i < n
      · have g0 : (i : Int) < n := by omega
        have hx : ∃ x, xs[i]? = some x := ⟨xs[i]'(by rw [HX.out]; exact hlt), by simp⟩
        obtain ⟨x, hx⟩ := hx
        have a0 := H1.out i x hx
        have b0 := H2.out i x hx
        simp only [sv] at a0 b0
        clear hx
        go_wp2
        go_region
        go_wp2
        exact ⟨⟨i + 1, by omega, rfl, j + 1, rfl⟩, by simp only [intOf]; omega⟩
      · obtain rfl : i = n := by omega
        clear hi hlt
        go_wp2
        go_ret
        exact ⟨rfl, j, rfl⟩
end Go.Proofs.YtockhlboeaignaaDoor
