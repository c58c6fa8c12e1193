import Derived.Test.YtjbealefopajcaaDoorETold
namespace Go.Proofs.YtjbealefopajcaaDoor
open Go.RowKit
set_option linter.unusedVariables false
theorem none_any (w : World) : Calls Tryd.prog 20 #[] w fun e w' => e = .returned (.agg #[.slice .none 0 0, .int .i64 0]) ∧ w' = w.alloc (.cells #[.slice .none 0 0, .int .i64 0] 35) := by
  go_enter Tryd.func20, Tryd.ntmps20
  go_wp2
  exact bodyPost_ret (v := .agg #[.slice .none 0 0, .int .i64 0]) (by simp [results, Tryd.results20, go_sem]) rfl ⟨rfl, rfl⟩
theorem rnew_any (s : ByteArray) (a r : Int) (w : World) : Calls Tryd.prog 16 #[.string s, .int .i64 a, .int .i64 r] w fun e w' => e = .returned (.agg #[.slice (some ⟨w.heap.size + 1, 0, .none⟩) 1 1, .int .i64 r]) ∧
    w' = (w.alloc (.cells #[.slice (some ⟨w.heap.size + 1, 0, .none⟩) 1 1, .int .i64 r] 35)).alloc (.cells #[.string s, .int .i64 a] 77) := by
  go_enter Tryd.func16, Tryd.ntmps16
  go_wp2
  exact bodyPost_ret (v := .agg #[.slice (some ⟨w.heap.size + 1, 0, .none⟩) 1 1, .int .i64 r]) (by simp [results, Tryd.results16, go_sem]) rfl ⟨rfl, rfl⟩
theorem same_none (w : World) : Calls Tryd.prog 22 #[.agg #[.slice .none 0 0, .int .i64 0], .agg #[.slice .none 0 0, .int .i64 0]] w fun e w' => e = .returned (.bool true) ∧ Below w.heap.size w w' := by
  go_enter Tryd.func22, Tryd.ntmps22
  go_wp2
  refine wp_loop_once ?_
  go_wp2
  go_ret
  exact ⟨rfl, (below_past _ _).alloc (by simp only [World.size_alloc]; omega) _⟩
set_option maxHeartbeats 1000000 in
theorem same_one (A B ca cb : Nat) (s : ByteArray) (a r : Int) (w : World) (hA : A < w.heap.size) (hB : B < w.heap.size) (a0 : w.cell? ⟨A, 0, .none⟩ = some (.string s)) (a1 : w.cell? ⟨A, 1, .none⟩ = some (.int .i64 a)) (b0 : w.cell? ⟨B, 0, .none⟩ = some (.string s)) (b1 : w.cell? ⟨B, 1, .none⟩ = some (.int .i64 a)) :
    Calls Tryd.prog 22 #[.agg #[.slice (some ⟨A, 0, .none⟩) 1 ca, .int .i64 r], .agg #[.slice (some ⟨B, 0, .none⟩) 1 cb, .int .i64 r]] w fun e w' => e = .returned (.bool true) ∧ Below w.heap.size w w' := by
  have hA1 : A < w.heap.size + 1 := by omega
  have hB1 : B < w.heap.size + 1 := by omega
  go_enter Tryd.func22, Tryd.ntmps22
  go_wp2
  go_loopw [5] (fun i wr => (i = .int .i64 0 ∨ i = .int .i64 1) ∧ ∃ n, wr = ((w.alloc (.cells #[.slice (some ⟨A, 0, .none⟩) 1 ca, .int .i64 r] 35)).alloc (.cells #[.slice (some ⟨B, 0, .none⟩) 1 cb, .int .i64 r] 35)).drewN n) (fun i _ => (1 - intOf i).toNat)
  case atStart => exact ⟨.inl rfl, 0, rfl⟩
  case round =>
    obtain ⟨hi, n, rfl⟩ := hrel
    rcases hi with rfl | rfl
    · go_wp2
      go_quiet (fail)
      go_wp2
      exact ⟨⟨.inr rfl, _, rfl⟩, by simp [intOf]⟩
    · go_wp2
      go_ret
      exact ⟨rfl, below_drewN ((below_past _ _).alloc (by simp only [World.size_alloc]; omega) _) _⟩
end Go.Proofs.YtjbealefopajcaaDoor
namespace Go.Proofs.YtjbealefopajcaaDoor
open Go.RowKit
set_option linter.unusedVariables false
def Row2 (w : World) (b : Nat) (c0 c1 : Value) : Prop := w.cell? ⟨b, 0, .none⟩ = some c0 ∧ w.cell? ⟨b, 1, .none⟩ = some c1
theorem row2_keep {B : Nat} {W w' : World} {b : Nat} {c0 c1 : Value} (h : Below B W w') (hb : b < B) (k : Row2 W b c0 c1) : Row2 w' b c0 c1 := ⟨(h.cell hb).trans k.1, (h.cell hb).trans k.2⟩
theorem row2_new (w : World) (c0 c1 : Value) (t : TypeId) : Row2 (w.alloc (.cells #[c0, c1] t)) w.heap.size c0 c1 := ⟨by simp, by simp⟩
set_option maxHeartbeats 1000000 in
theorem is_none (w : World) : Calls Tryd.prog 8 #[.nilIface, .agg #[.slice .none 0 0, .int .i64 0]] w fun e w' => e = .returned (.bool true) ∧ Below w.heap.size w w' := by
  go_enter Tryd.func8, Tryd.ntmps8
  go_wp2_with fail
  refine (told_nil _).mono ?_
  rintro e w1 ⟨rfl, hb⟩
  have hz := hb.size
  simp only [World.size_alloc] at hz
  have y0 : w.heap.size < w1.heap.size := by omega
  obtain ⟨k0, k1⟩ := row2_keep hb (by simp only [World.size_alloc]; omega) (row2_new w (.slice .none 0 0) (.int .i64 0) 35)
  go_wp2_with fail
  refine (same_none _).mono ?_
  rintro e w2 ⟨rfl, hb2⟩
  go_wp2
  go_ret
  exact ⟨rfl, ((((below_past _ _).trans (hb.mono (by simp only [World.size_alloc]; omega))).alloc (by omega) _)).trans (hb2.mono (by simp only [World.size_alloc]; omega))⟩
set_option maxHeartbeats 1000000 in
theorem is_fault (v : Value) (B cb : Nat) (a r : Int) (w : World) (hF : FaultIn w 0 v a r) (hr : r ≠ 0) (hB : B < w.heap.size) (b0 : w.cell? ⟨B, 0, .none⟩ = some (.string ramB)) (b1 : w.cell? ⟨B, 1, .none⟩ = some (.int .i64 a)) :
    Calls Tryd.prog 8 #[v, .agg #[.slice (some ⟨B, 0, .none⟩) 1 cb, .int .i64 r]] w fun e w' => e = .returned (.bool true) ∧ Below w.heap.size w w' := by
  obtain ⟨b, _, hbs, rfl, f0, f1, f2⟩ := hF
  have hT : Calls Tryd.prog 21 #[.iface 49 (.pointer (some ⟨b, 0, .none⟩))] (w.alloc (.cells #[.slice (some ⟨B, 0, .none⟩) 1 cb, .int .i64 r] 35)) _ := told_fault b a r (w.alloc (.cells #[.slice (some ⟨B, 0, .none⟩) 1 cb, .int .i64 r] 35)) (by simp only [World.size_alloc]; omega) hr
    (((below_past _ _).cell hbs).trans f0) (((below_past _ _).cell hbs).trans f1) (((below_past _ _).cell hbs).trans f2)
  clear f0 f1 f2
  go_enter Tryd.func8, Tryd.ntmps8
  go_wp2_with fail
  refine hT.mono ?_
  rintro e w1 ⟨⟨B', cap, rfl, hB', c0, c1⟩, hb⟩
  clear hT
  have hz := hb.size
  simp only [World.size_alloc] at hz
  have y0 : w.heap.size < w1.heap.size := by omega
  have hW : Below w.heap.size w w1 := (below_past _ _).trans (hb.mono (by simp only [World.size_alloc]; omega))
  obtain ⟨k0, k1⟩ := row2_keep hb (by simp only [World.size_alloc]; omega) (row2_new w (.slice (some ⟨B, 0, .none⟩) 1 cb) (.int .i64 r) 35)
  have d0 := row2_keep (below_past w1 (.cells #[.slice (some ⟨B', 0, .none⟩) 1 cap, .int .i64 r] 35)) (by omega) (row2_keep hW hB ⟨b0, b1⟩)
  have d1 := row2_keep (below_past w1 (.cells #[.slice (some ⟨B', 0, .none⟩) 1 cap, .int .i64 r] 35)) hB' ⟨c0, c1⟩
  have hS := same_one B B' cb cap ramB a r (w1.alloc (.cells #[.slice (some ⟨B', 0, .none⟩) 1 cap, .int .i64 r] 35)) (by simp only [World.size_alloc]; omega) (by simp only [World.size_alloc]; omega) d0.1 d0.2 d1.1 d1.2
  clear d0 d1 b0 b1 c0 c1
  go_wp2_with fail
  refine hS.mono ?_
  rintro e w2 ⟨rfl, hb2⟩
  clear hS
  go_wp2
  go_ret
  exact ⟨rfl, (hW.alloc (by omega) _).trans (hb2.mono (by simp only [World.size_alloc]; omega))⟩
/-- The document's fault, as its functions hand it on. -/
def NoIn (w : World) (v : Value) (r : Int) : Prop := ∃ B, B < w.heap.size ∧ v = .agg #[.slice (some ⟨B, 0, .none⟩) 1 1, .int .i64 r] ∧ w.cell? ⟨B, 0, .none⟩ = some (.string ramB) ∧ w.cell? ⟨B, 1, .none⟩ = some (.int .i64 0)
theorem noIn_keep {W w' : World} {v : Value} {r : Int} (h : Below W.heap.size W w') (k : NoIn W v r) : NoIn w' v r := by
  obtain ⟨B, hB, hv, c0, c1⟩ := k
  exact ⟨B, Nat.lt_of_lt_of_le hB h.size, hv, (h.cell hB).trans c0, (h.cell hB).trans c1⟩
end Go.Proofs.YtjbealefopajcaaDoor
namespace Go.Proofs.YtjbealefopajcaaDoor
open Go.RowKit
set_option linter.unusedVariables false
set_option linter.unusedSimpArgs false
/-- The document's fault, with a place. -/
def LFault (w : World) (v : Value) (a r : Int) : Prop := ∃ B, B < w.heap.size ∧ v = .agg #[.slice (some ⟨B, 0, .none⟩) 1 1, .int .i64 r] ∧ w.cell? ⟨B, 0, .none⟩ = some (.string ramB) ∧ w.cell? ⟨B, 1, .none⟩ = some (.int .i64 a)
theorem LFault.below {W w' : World} {v : Value} {a r : Int} (k : LFault W v a r) (h : Below W.heap.size W w') : LFault w' v a r := by
  obtain ⟨B, hB, e, c0, c1⟩ := k
  exact ⟨B, Nat.lt_of_lt_of_le hB h.size, e, (h.cell hB).trans c0, (h.cell hB).trans c1⟩
theorem FaultIn.below {W w' : World} {k : Nat} {v : Value} {a r : Int} (f : FaultIn W k v a r) (h : Below W.heap.size W w') : FaultIn w' k v a r := by
  obtain ⟨b, h1, h2, rfl, c0, c1, c2⟩ := f
  exact ⟨b, h1, Nat.lt_of_lt_of_le h2 h.size, rfl, (h.cell h2).trans c0, (h.cell h2).trans c1, (h.cell h2).trans c2⟩
/-- What the document tells: a fault, or none. -/
def RefR (w : World) (g : Value) (a r : Int) : Prop := (r ≠ 0 ∧ LFault w g a r) ∨ (r = 0 ∧ g = .agg #[.slice .none 0 0, .int .i64 0])
theorem RefR.below {w w' : World} {v : Value} {a r : Int} (h : RefR w v a r) (b : Below w.heap.size w w') : RefR w' v a r := by
  rcases h with ⟨h1, h2⟩ | h
  · exact .inl ⟨h1, h2.below b⟩
  · exact .inr h
theorem RefR.form {w : World} {v : Value} {a r : Int} (h : RefR w v a r) : ∃ p n c, v = .agg #[.slice p n c, .int .i64 r] := by
  rcases h with ⟨h1, B, _, rfl, _⟩ | ⟨rfl, rfl⟩
  · exact ⟨_, _, _, rfl⟩
  · exact ⟨_, _, _, rfl⟩
/-- The errors of both sides, held against each other. -/
theorem isR_any (v g : Value) (a r : Int) (w : World) (h1 : (r ≠ 0 ∧ FaultIn w 0 v a r) ∨ (r = 0 ∧ v = .nilIface)) (h2 : RefR w g a r) : Calls Tryd.prog 8 #[v, g] w fun e w' => e = .returned (.bool true) ∧ Below w.heap.size w w' := by
  rcases h1 with ⟨a1, a2⟩ | ⟨a1, rfl⟩
  · rcases h2 with ⟨b1, B, hB, rfl, b0, b2⟩ | ⟨b1, _⟩
    · obtain ⟨b, h1, h2⟩ := a2
      exact is_fault v B 1 a r w ⟨b, Nat.zero_le _, h2⟩ a1 hB b0 b2
    · exact absurd b1 a1
  · rcases h2 with ⟨b1, _⟩ | ⟨_, rfl⟩
    · exact absurd a1 b1
    · exact is_none w
end Go.Proofs.YtjbealefopajcaaDoor
