import Derived.Test.YtdfjjnkbnegecaaDoorRq7
namespace Go.Proofs.YtdfjjnkbnegecaaDoor
open Go.RowKit
set_option linter.unusedVariables false
set_option linter.unusedSimpArgs false
set_option maxHeartbeats 4000000 in
set_option maxRecDepth 100000 in
theorem bytes_any (p1 p2 : Option Addr) (n c1 c2 : Nat) (xs : List Int) (w : World) (hn : n < 140737488355000) (h1 : Byt w p1 n c1 xs) (h2 : Byt w p2 n c2 xs) :
    Calls Tryd.prog 16 #[.slice p1 n c1, .slice p2 n c2] w fun e w' => e = .returned (.bool true) ∧ ∃ k, w' = w.drewN k := by
  obtain ⟨hl, k1, m1, h1⟩ := h1
  obtain ⟨_, k2, m2, h2⟩ := h2
  have m1 : c1 ≤ 9223372036854775807 := m1
  have m2 : c2 ≤ 9223372036854775807 := m2
  have HX : Hid (xs.length = n) := hl
  by_cases h0 : n = 0
  · subst h0
    clear h1 h2 hl
    go_enter Tryd.func16, Tryd.ntmps16
    go_wp2
    go_loopw [5] (fun k wr => k = .int .i64 0 ∧ wr = w) (fun _ _ => 0)
    case atStart => exact ⟨rfl, rfl⟩
    case round =>
      obtain ⟨rfl, rfl⟩ := hrel
      go_wp2
      go_ret
      exact ⟨rfl, 0, rfl⟩
  · rcases h1 with h1 | ⟨b1, o1, rfl, _, h1⟩
    · omega
    rcases h2 with h2 | ⟨b2, o2, rfl, _, h2⟩
    · omega
    have H1 : Hid (∀ i x, xs[i]? = some x → w.cell? ⟨b1, o1 + i, .none⟩ = some (.int .u8 x)) := h1
    have H2 : Hid (∀ i x, xs[i]? = some x → w.cell? ⟨b2, o2 + i, .none⟩ = some (.int .u8 x)) := h2
    clear h1 h2 hl h0
    go_enter Tryd.func16, Tryd.ntmps16
    go_wp2
    go_loopw [5] (fun k wr => ∃ i : Nat, i ≤ n ∧ k = .int .i64 i ∧ ∃ j, wr = w.drewN j) (fun k _ => (n - intOf k).toNat)
    case atStart => exact ⟨0, by omega, rfl, 0, rfl⟩
    case round =>
      obtain ⟨i, hi, rfl, j, rfl⟩ := hrel
      by_cases hlt : i < n
      · have g0 : (i : Int) < n := by omega
        have hx : ∃ x, xs[i]? = some x := ⟨xs[i]'(by rw [HX.out]; exact hlt), by simp⟩
        obtain ⟨x, hx⟩ := hx
        have a0 := H1.out i x hx
        have b0 := H2.out i x hx
        clear hx
        go_wp2
        go_region
        go_wp2
        exact ⟨⟨i + 1, by omega, rfl, j + 1, rfl⟩, by simp only [intOf]; omega⟩
      · obtain rfl : i = n := by omega
        clear hi hlt
        go_wp2
        go_ret
        exact ⟨rfl, j, rfl⟩
set_option maxHeartbeats 4000000 in
set_option maxRecDepth 100000 in
theorem kept_any {p : Option Addr} {n c base g cg : Nat} {xs : List Int} {w : World} (h : Byt w p n c xs) (hn : n < 140737488355000) (hL : Lent w base g cg xs) :
    Calls Tryd.prog 9 #[.slice (some ⟨g, 0, .none⟩) n cg, .slice p n c] w fun e w' => e = .returned (.bool true) ∧ ∃ k, w' = w.drewN k := by
  have hl := h.1
  have hcap : xs.length + 64 ≤ cg ∧ cg ≤ maxLen := own_cap hL
  have hm : cg ≤ 9223372036854775807 := hcap.2
  have hcell : ∀ i x, (xs ++ marks)[i]? = some x → w.cell? ⟨g, i, .none⟩ = some (.int .u8 x) := by
    intro i x hx
    have := World.ownsRow.cells hL (g := g) rfl i _ (by8_get hx)
    rwa [le_addr_add, Nat.zero_add] at this
  have hB : Byt w (some ⟨g, 0, .none⟩) n cg xs := by
    refine ⟨hl, by omega, hcap.2, .inr ⟨g, 0, rfl, own_lt hL, fun i x hx => ?_⟩⟩
    rw [Nat.zero_add]
    exact hcell i x (by rw [List.getElem?_append_left (by have := (List.getElem?_eq_some_iff.1 hx).1; omega)]; exact hx)
  have c1 := bytes_any (some ⟨g, 0, .none⟩) p n cg c xs w hn hB h
  have HM : Hid (∀ j : Nat, j < 64 → w.cell? ⟨g, n + j, .none⟩ = some (.int .u8 (160 + (j : Int)))) := by
    intro j hj
    refine hcell (n + j) _ ?_
    rw [List.getElem?_append_right (by omega), hl, Nat.add_sub_cancel_left]
    exact marks_get j hj
  have k2 : n + 64 ≤ cg := by omega
  clear hcell hB hL h hl hcap
  go_enter Tryd.func9, Tryd.ntmps9
  go_wp2_with fail
  refine c1.mono ?_
  rintro e w1 ⟨rfl, k, rfl⟩
  clear c1
  go_wp2
  go_loopw [6] (fun v W => ∃ j : Nat, j ≤ 64 ∧ v = .int .i64 j ∧ ∃ k, W = w.drewN k) (fun v _ => (64 - intOf v).toNat)
  case atStart => exact ⟨0, by omega, rfl, k, rfl⟩
  case round =>
    obtain ⟨j, hj, rfl, k', rfl⟩ := hrel
    by_cases hlt : j < 64
    · have g0 : (j : Int) < 64 := by omega
      have gm : IntKind.u8.wrap (160 + (j : Int)) = 160 + (j : Int) := by simp only [IntKind.wrap, IntKind.bits, IntKind.signed]; simp; omega
      have a0 := HM.out j hlt
      go_wp2
      exact ⟨⟨j + 1, by omega, rfl, k', rfl⟩, by simp only [intOf]; omega⟩
    · obtain rfl : j = 64 := by omega
      clear hj hlt
      go_wp2
      go_ret
      exact ⟨rfl, k', rfl⟩
end Go.Proofs.YtdfjjnkbnegecaaDoor
