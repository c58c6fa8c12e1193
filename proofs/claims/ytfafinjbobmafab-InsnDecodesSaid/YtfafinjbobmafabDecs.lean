import Derived.Test.YtfafinjbobmafabRDec
import Derived.Test.YtfafinjbobmafabIsA
namespace Go.Proofs.Ytfafinjbobmafab
open Go.RowKit
set_option linter.unusedVariables false
theorem faultIn_keep {W w' : World} {B : Nat} {v : Value} {a r : Int} (h : Below W.heap.size W w') (hF : FaultIn W B v a r) : FaultIn w' 0 v a r := by
  obtain ⟨b, _, hb, hv, f0, f1, f2⟩ := hF
  exact ⟨b, Nat.zero_le _, Nat.lt_of_lt_of_le hb h.size, hv, (h.cell hb).trans f0, (h.cell hb).trans f1, (h.cell hb).trans f2⟩
theorem first_exists (x : Int) : ∃ op0, First x op0 := by
  have key : ∀ m : Nat, m ≤ 76 → (∃ op0, First x op0) ∨ (∀ k : Int, 1 ≤ k → k ≤ m → ms (sh k) x ≠ wd k) := by
    intro m
    induction m with
    | zero => intro _; exact .inr fun k h1 h2 => by omega
    | succ m ih =>
      intro hm
      rcases ih (by omega) with h | h
      · exact .inl h
      · by_cases hx : ms (sh ((m : Int) + 1)) x = wd ((m : Int) + 1)
        · exact .inl ⟨(m : Int) + 1, by omega, by omega, fun k h1 h2 => h k h1 (by omega), fun _ => hx⟩
        · refine .inr fun k h1 h2 => ?_
          by_cases hk : k = (m : Int) + 1
          · rw [hk]; exact hx
          · exact h k h1 (by omega)
  rcases key 76 (Nat.le_refl _) with h | h
  · exact h
  · exact ⟨77, by omega, by omega, fun k h1 h2 => h k h1 (by omega), fun h => by omega⟩
set_option maxHeartbeats 2000000 in
theorem decodes_any (x : Int) (w : World) (hx0 : 0 ≤ x) (hx1 : x < 4294967296) :
    Calls Try.prog 4 #[.int .u32 x] w fun e w' => e = .returned (.bool true) ∧ Below w.heap.size w w' := by
  obtain ⟨op, hF⟩ := first_exists x
  have hR := fun w => rdecode_any x op w hx0 hx1 hF
  by_cases hop : op ≤ 76
  · have hD := fun w => decode_some x op w hx0 hx1 hF hop
    have e : dRes x op = .tuple #[.agg #[.int .i64 op, .int .i64 (fRd (sh op) x), .int .i64 (fRs1 (sh op) x), .int .i64 (fRs2 (sh op) x), .int .i64 (tk (sh op) x), .int .i64 (fCsr (sh op) x)], .bool true] := if_neg (by omega)
    rw [e] at hR
    clear e hF hop
    generalize fRd (sh op) x = d1 at *
    generalize fRs1 (sh op) x = d2 at *
    generalize fRs2 (sh op) x = d3 at *
    generalize tk (sh op) x = d4 at *
    generalize fCsr (sh op) x = d5 at *
    go_enter Try.func4, Try.ntmps4
    go_wp2_with fail
    refine (hD _).mono ?_
    rintro e w1 ⟨rfl, hb1⟩
    clear hD
    have z1 := hb1.size
    go_wp2_with fail
    refine (hR _).mono ?_
    rintro e w2 ⟨hb2, rfl⟩
    clear hR
    have z2 := hb2.size
    simp only [World.size_alloc] at z2
    have y1 : w1.heap.size < w2.heap.size := by omega
    obtain ⟨k0, k1, k2, k3, k4, k5⟩ := row6_keep hb2 (by simp only [World.size_alloc]; omega) (row6_new w1 (.int .i64 op) (.int .i64 d1) (.int .i64 d2) (.int .i64 d3) (.int .i64 d4) (.int .i64 d5) 27)
    go_wp2
    go_ret
    exact ⟨rfl, ((hb1.alloc (by omega) _).trans (hb2.mono (by simp only [World.size_alloc]; omega))).alloc (by omega) _⟩
  · have e77 : op = 77 := by have := hF.2.1; omega
    subst e77
    have hD := fun w => decode_none x w hx0 hx1 hF
    have e : dRes x 77 = .tuple #[.agg #[.int .i64 0, .int .i64 0, .int .i64 0, .int .i64 0, .int .i64 0, .int .i64 0], .bool false] := if_pos rfl
    rw [e] at hR
    clear e hF hop
    go_enter Try.func4, Try.ntmps4
    go_wp2_with fail
    refine (hD _).mono ?_
    rintro e w1 ⟨⟨v, rfl, hFi⟩, hb1⟩
    clear hD
    have z1 := hb1.size
    go_wp2_with fail
    refine (hR _).mono ?_
    rintro e w2 ⟨hb2, rfl⟩
    clear hR
    have z2 := hb2.size
    simp only [World.size_alloc] at z2
    have y1 : w1.heap.size < w2.heap.size := by omega
    obtain ⟨k0, k1, k2, k3, k4, k5⟩ := row6_keep hb2 (by simp only [World.size_alloc]; omega) (row6_new w1 (.int .i64 0) (.int .i64 0) (.int .i64 0) (.int .i64 0) (.int .i64 0) (.int .i64 0) 27)
    go_wp2_with fail
    refine (lfault_new 0 20 _ (by decide)).mono ?_
    rintro e w3 ⟨⟨B, _, hB3, rfl, q0, q1⟩, hb3⟩
    have z3 := hb3.size
    simp only [World.size_alloc] at z3
    have hB12 : Below w1.heap.size w1 w3 := ((((below_past w1 _).trans (hb2.mono (by simp only [World.size_alloc]; omega))).alloc (by omega) _)).trans (hb3.mono (by simp only [World.size_alloc]; omega))
    have hF4 := faultIn_keep hB12 hFi
    have hI := is_fault v B 1 0 20 w3 hF4 (by decide) hB3 q0 q1
    clear hFi hF4 q0 q1 k0 k1 k2 k3 k4 k5
    go_wp2_with fail
    refine hI.mono ?_
    rintro e w4 ⟨rfl, hb4⟩
    clear hI
    go_wp2
    go_ret
    exact ⟨rfl, bseq (hb1.trans (hB12.mono (by omega))) hb4⟩
end Go.Proofs.Ytfafinjbobmafab
