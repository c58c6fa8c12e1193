import Derived.Test.YtnlbomggadflmabEIs
namespace Go.Proofs.Ytnlbomggadflmab
open Go.RowKit
set_option linter.unusedVariables false
def Row2 (w : World) (b : Nat) (c0 c1 : Value) : Prop := w.cell? ⟨b, 0, .none⟩ = some c0 ∧ w.cell? ⟨b, 1, .none⟩ = some c1
theorem row2_keep {B : Nat} {W w' : World} {b : Nat} {c0 c1 : Value} (h : Below B W w') (hb : b < B) (k : Row2 W b c0 c1) : Row2 w' b c0 c1 := ⟨(h.cell hb).trans k.1, (h.cell hb).trans k.2⟩
theorem row2_new (w : World) (c0 c1 : Value) (t : TypeId) : Row2 (w.alloc (.cells #[c0, c1] t)) w.heap.size c0 c1 := ⟨by simp, by simp⟩
set_option maxHeartbeats 1000000 in
theorem is_none (w : World) : Calls Try.prog 38 #[.nilIface, .agg #[.slice .none 0 0, .int .i64 0]] w fun e w' => e = .returned (.bool true) ∧ Below w.heap.size w w' := by
  go_enter Try.func38, Try.ntmps38
  go_wp2_with fail
  refine (told_nil _).mono ?_
  rintro e w1 ⟨rfl, hb⟩
  have hz := hb.size
  simp only [World.size_alloc] at hz
  have y0 : w.heap.size < w1.heap.size := by omega
  obtain ⟨k0, k1⟩ := row2_keep hb (by simp only [World.size_alloc]; omega) (row2_new w (.slice .none 0 0) (.int .i64 0) 80)
  go_wp2_with fail
  refine (same_none _).mono ?_
  rintro e w2 ⟨rfl, hb2⟩
  go_wp2
  go_ret
  exact ⟨rfl, ((((below_past _ _).trans (hb.mono (by simp only [World.size_alloc]; omega))).alloc (by omega) _)).trans (hb2.mono (by simp only [World.size_alloc]; omega))⟩
set_option maxHeartbeats 1000000 in
theorem is_fault (v : Value) (B cb : Nat) (a r : Int) (w : World) (hF : FaultIn w 0 v a r) (hr : r ≠ 0) (hB : B < w.heap.size) (b0 : w.cell? ⟨B, 0, .none⟩ = some (.string ramB)) (b1 : w.cell? ⟨B, 1, .none⟩ = some (.int .i64 a)) :
    Calls Try.prog 38 #[v, .agg #[.slice (some ⟨B, 0, .none⟩) 1 cb, .int .i64 r]] w fun e w' => e = .returned (.bool true) ∧ Below w.heap.size w w' := by
  obtain ⟨b, _, hbs, rfl, f0, f1, f2⟩ := hF
  have hT : Calls Try.prog 64 #[.iface 107 (.pointer (some ⟨b, 0, .none⟩))] (w.alloc (.cells #[.slice (some ⟨B, 0, .none⟩) 1 cb, .int .i64 r] 80)) _ := told_fault b a r (w.alloc (.cells #[.slice (some ⟨B, 0, .none⟩) 1 cb, .int .i64 r] 80)) (by simp only [World.size_alloc]; omega) hr
    (((below_past _ _).cell hbs).trans f0) (((below_past _ _).cell hbs).trans f1) (((below_past _ _).cell hbs).trans f2)
  clear f0 f1 f2
  go_enter Try.func38, Try.ntmps38
  go_wp2_with fail
  refine hT.mono ?_
  rintro e w1 ⟨⟨B', cap, rfl, hB', c0, c1⟩, hb⟩
  clear hT
  have hz := hb.size
  simp only [World.size_alloc] at hz
  have y0 : w.heap.size < w1.heap.size := by omega
  have hW : Below w.heap.size w w1 := (below_past _ _).trans (hb.mono (by simp only [World.size_alloc]; omega))
  obtain ⟨k0, k1⟩ := row2_keep hb (by simp only [World.size_alloc]; omega) (row2_new w (.slice (some ⟨B, 0, .none⟩) 1 cb) (.int .i64 r) 80)
  have d0 := row2_keep (below_past w1 (.cells #[.slice (some ⟨B', 0, .none⟩) 1 cap, .int .i64 r] 80)) (by omega) (row2_keep hW hB ⟨b0, b1⟩)
  have d1 := row2_keep (below_past w1 (.cells #[.slice (some ⟨B', 0, .none⟩) 1 cap, .int .i64 r] 80)) hB' ⟨c0, c1⟩
  have hS := same_one B B' cb cap ramB a r (w1.alloc (.cells #[.slice (some ⟨B', 0, .none⟩) 1 cap, .int .i64 r] 80)) (by simp only [World.size_alloc]; omega) (by simp only [World.size_alloc]; omega) d0.1 d0.2 d1.1 d1.2
  clear d0 d1 b0 b1 c0 c1
  go_wp2_with fail
  refine hS.mono ?_
  rintro e w2 ⟨rfl, hb2⟩
  clear hS
  go_wp2
  go_ret
  exact ⟨rfl, (hW.alloc (by omega) _).trans (hb2.mono (by simp only [World.size_alloc]; omega))⟩
/-- The document's fault, as its functions hand it on. -/
def NoIn (w : World) (v : Value) (r : Int) : Prop := ∃ B, B < w.heap.size ∧ v = .agg #[.slice (some ⟨B, 0, .none⟩) 1 1, .int .i64 r] ∧ w.cell? ⟨B, 0, .none⟩ = some (.string ramB) ∧ w.cell? ⟨B, 1, .none⟩ = some (.int .i64 0)
theorem noIn_keep {W w' : World} {v : Value} {r : Int} (h : Below W.heap.size W w') (k : NoIn W v r) : NoIn w' v r := by
  obtain ⟨B, hB, hv, c0, c1⟩ := k
  exact ⟨B, Nat.lt_of_lt_of_le hB h.size, hv, (h.cell hB).trans c0, (h.cell hB).trans c1⟩
end Go.Proofs.Ytnlbomggadflmab
