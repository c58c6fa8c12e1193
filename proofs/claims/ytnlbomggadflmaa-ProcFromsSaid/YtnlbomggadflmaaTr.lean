import Derived.Test.YtnlbomggadflmaaPt
namespace Go.Proofs.Ytnlbomggadflmaa
open Go.RowKit
set_option linter.unusedVariables false
set_option linter.unusedSimpArgs false
set_option maxRecDepth 100000
instance : Inhabited Opr := ⟨⟨0, 0, 0, 0, 0⟩⟩
/-- The steps as they are handed in. -/
structure ArgO (w : World) (q : Option Addr) (m c : Nat) (O : Nat → Opr) : Prop where
  at' : m = 0 ∨ ∃ b o, q = some ⟨b, o, .none⟩ ∧ b < w.heap.size ∧ ∀ i, i < m → w.rangeAt b (o + i * 5) (O i).l
  lc : m ≤ c ∧ c ≤ maxLen
theorem ArgO.cells {w W : World} {q : Option Addr} {m c : Nat} {O : Nat → Opr} (h : ArgO w q m c O) (hB : Below w.heap.size w W) (i : Nat) (hi : i < m) : ∃ b o, q = some ⟨b, o, .none⟩ ∧ W.cell? ⟨b, o + i * 5, .none⟩ = some (.int .i64 (O i).k) ∧ W.cell? ⟨b, o + i * 5 + 1, .none⟩ = some (.int .i64 (O i).s) ∧ W.cell? ⟨b, o + i * 5 + 2, .none⟩ = some (.int .i64 (O i).ck) ∧ W.cell? ⟨b, o + i * 5 + 3, .none⟩ = some (.int .i64 (O i).cn) ∧ W.cell? ⟨b, o + i * 5 + 4, .none⟩ = some (.int .i32 (O i).sta) := by
  rcases h.at' with e | ⟨b, o, e, hb, hc⟩
  · omega
  · have hr := hc i hi
    exact ⟨b, o, e, (hB.cell (p := ⟨b, o + i * 5, .none⟩) hb).trans (hr 0 _ rfl), (hB.cell (p := ⟨b, o + i * 5 + 1, .none⟩) hb).trans (hr 1 _ rfl), (hB.cell (p := ⟨b, o + i * 5 + 2, .none⟩) hb).trans (hr 2 _ rfl), (hB.cell (p := ⟨b, o + i * 5 + 3, .none⟩) hb).trans (hr 3 _ rfl), (hB.cell (p := ⟨b, o + i * 5 + 4, .none⟩) hb).trans (hr 4 _ rfl)⟩
/-- A table of the law's own, as every call leaves it. -/
structure Own (w : World) (b : Nat) (W : World) : Prop where
  ex : ∃ P nx, Tb W b P nx ∧ Inv P nx
  be : Below w.heap.size w W
theorem Own.step {w W W' : World} {b : Nat} (h : Own w b W) (hb : w.heap.size ≤ b) {e : Ending} (k : DoP W b e W') : Own w b W' := by
  obtain ⟨_, P, n, t, i, r⟩ := k
  exact ⟨⟨P, n, t, i⟩, h.be.trans (r.toBelow hb h.be.size)⟩
section
variable {w : World}
set_option maxHeartbeats 2000000 in
theorem tree_walk {q : Option Addr} {m c : Nat} {O : Nat → Opr} (h : ArgO w q m c O) : Calls Try.prog 8 #[.slice q m c] w fun e w' => e = .returned (.bool true) ∧ Below w.heap.size w w' := by
  have HA : Hid (ArgO w q m c O) := h
  have hml : m ≤ 9223372036854775807 := by have := h.lc; have h2 : c ≤ 9223372036854775807 := this.2; omega
  have k1 := new_any w
  clear h
  go_enter Try.func8, Try.ntmps8
  go_wp2_with fail
  refine k1.mono ?_
  rintro e w1 ⟨rfl, hT, hB, hlt⟩
  obtain ⟨b, hb⟩ : ∃ b, b = w.heap.size := ⟨_, rfl⟩
  rw [← hb]
  have k2 := sound_any hT inv_new
  rw [← hb] at k2
  have HO : Hid (Own w b w1) := ⟨⟨zS, 1, hb ▸ hT, inv_new⟩, hB⟩
  have hbb : w.heap.size ≤ b := by omega
  clear k1 hT hB hb hlt
  go_wp2_with fail
  refine k2.mono ?_
  rintro e w2 ⟨rfl, hB⟩
  have HO2 : Hid (Own w b w2) := by
    obtain ⟨⟨P, nx, t, i⟩, be⟩ := HO.out
    exact ⟨⟨P, nx, t.bel hB, i⟩, be.trans (hB.mono be.size)⟩
  clear k2 hB HO
  go_wp2
  go_loopw [4] (fun i wr => ∃ n : Nat, n ≤ m ∧ i = .int .i64 n ∧ Hid (Own w b wr)) (fun i _ => (m - intOf i).toNat)
  case atStart => exact ⟨0, by omega, rfl, HO2.out⟩
  case round =>
    clear HO2
    obtain ⟨n, hn, rfl, HR⟩ := hrel
    by_cases hlt : n < m
    · have g0 : (n : Int) < m := by omega
      by_cases h4 : n < 400
      · have g4 : (n : Int) < 400 := by omega
        obtain ⟨ab, ao, rfl, c0, c1, c2, c3, c4⟩ := HA.out.cells HR.out.be n hlt
        obtain ⟨⟨P, nx, hT, hI⟩, hB⟩ := HR.out
        have kd := do_any hT hI (O n)
        rw [Opr.l] at kd
        have HR2 : Hid (Own w b wr) := HR.out
        clear HR hT hI
        go_wp2_with fail
        refine kd.mono ?_
        rintro e w3 hD
        have HO3 : Hid (Own w b w3) := HR2.out.step hbb hD
        obtain ⟨rfl, _⟩ := hD
        clear kd c0 c1 c2 c3 c4 hB HR2
        obtain ⟨⟨P2, nx2, hT2, hI2⟩, hB2⟩ := HO3.out
        have ks := sound_any hT2 hI2
        clear hT2 hI2 hB2
        go_wp2_with fail
        refine ks.mono ?_
        rintro e w4 ⟨rfl, hB4⟩
        have HO4 : Hid (Own w b w4) := by
          obtain ⟨⟨P, nx, t, i⟩, be⟩ := HO3.out
          exact ⟨⟨P, nx, t.bel hB4, i⟩, be.trans (hB4.mono be.size)⟩
        clear ks hB4 HO3
        go_wp2
        exact ⟨⟨n + 1, by omega, rfl, HO4.out⟩, by simp only [intOf]; omega⟩
      · have g4 : ¬ ((n : Int) < 400) := by omega
        go_wp2
        go_ret
        exact ⟨rfl, HR.out.be⟩
    · obtain rfl : n = m := by omega
      go_wp2
      go_ret
      exact ⟨rfl, HR.out.be⟩
end
end Go.Proofs.Ytnlbomggadflmaa
