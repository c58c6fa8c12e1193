import Derived.Test.YtfafinjbobmafaaDoorDecM
import Derived.Test.YtfafinjbobmafaaDoorRefR
import Derived.LoopTactic
namespace Go.Proofs.YtfafinjbobmafaaDoor
open Go.RowKit
set_option linter.unusedVariables false
attribute [local go_sem] run_store_func field61_0 field61_1 field61_2
/-- The first row that a word is one of (77: none). -/
def First (x op0 : Int) : Prop := 1 ≤ op0 ∧ op0 ≤ 77 ∧ (∀ k, 1 ≤ k → k < op0 → ms (sh k) x ≠ wd k) ∧ (op0 ≤ 76 → ms (sh op0) x = wd op0)
def opOf (op0 : Int) : Int := if op0 = 77 then 0 else op0
theorem sh_ne (k : Int) (h1 : 1 ≤ k) (h2 : k ≤ 76) : sh k ≠ 0 := (sh_iff k).2 ⟨h1, h2⟩
set_option maxHeartbeats 2000000 in
theorem oow_any (x op0 : Int) (w : World) (hx0 : 0 ≤ x) (hx1 : x < 4294967296) (hF : First x op0) :
    Calls Tryd.prog 25 #[.int .u32 x] w fun e w' => e = .returned (.int .i64 (opOf op0)) ∧ Below w.heap.size w w' := by
  have H : Hid (First x op0) := hF
  have b1 := hF.1
  have b2 := hF.2.1
  clear hF
  go_enter Tryd.func25, Tryd.ntmps25
  go_wp2
  go_loopw [3] (fun k wr => ∃ n : Int, 1 ≤ n ∧ n ≤ op0 ∧ k = .int .i64 n ∧ Below w.heap.size w wr) (fun k _ => (77 - intOf k).toNat)
  case atStart => exact ⟨1, by omega, by omega, rfl, Below.refl _ _⟩
  case round =>
    obtain ⟨n, h1, h2, rfl, hB⟩ := hrel
    have zB := hB.size
    by_cases h77 : n < 77
    · have hs := sh_ne n h1 (by omega)
      have bs := sh_bd n
      have t1 := test_127 n x hs ⟨hx0, hx1⟩
      have t2 := test_mask n x hs ⟨hx0, hx1⟩
      have tl := ms_low (sh n) x (by omega) bs.2 ⟨hx0, hx1⟩
      have hO := operationOf_any n
      have hL := fun w => layout_any (sh n) w (by omega) bs.2
      by_cases hlow : x % 128 = wd n % 128
      · have g1 : (bits .and .u32 (bits .xor .u32 (wd n) x) 127 == 0) = true := by simpa using t1.2 hlow
        by_cases hm : ms (sh n) x = wd n
        · have g2 : (bits .and .u32 (bits .xor .u32 (wd n) x) (fxb (sh n)) == 0) = true := by simpa using t2.2 hm
          have hEq : n = op0 := by
            by_cases h : n < op0
            · exact absurd hm (H.out.2.2.1 n h1 h)
            · omega
          have E : Hid (opOf op0 = n) := by
            have : opOf op0 = op0 := if_neg (by omega)
            exact this.trans hEq.symm
          clear hlow hm t1 t2 tl hs H hEq
          generalize takeId (sh n) = ti at *
          generalize putId (sh n) = pi at *
          go_wp2_with fail
          refine (hO _).mono ?_
          rintro e w1 ⟨rfl, hb1⟩
          clear hO
          have z1 := hb1.size
          go_wp2_with fail
          refine (hL _).mono ?_
          rintro e w2 ⟨rfl, hb2⟩
          clear hL
          go_wp2
          go_ret
          exact ⟨by rw [E.out]; rfl, ((bseq hB hb1).alloc (by omega) _).trans (hb2.mono (by simp only [World.size_alloc]; omega))⟩
        · have g2 : (bits .and .u32 (bits .xor .u32 (wd n) x) (fxb (sh n)) == 0) = false := by
            rw [beq_eq_false_iff_ne]
            exact fun h => hm (t2.1 h)
          have hlt : n < op0 := by
            by_cases h : n = op0
            · exact absurd (h ▸ H.out.2.2.2 (by omega)) hm
            · omega
          clear hlow hm t1 t2 tl hs H
          generalize takeId (sh n) = ti at *
          generalize putId (sh n) = pi at *
          go_wp2_with fail
          refine (hO _).mono ?_
          rintro e w1 ⟨rfl, hb1⟩
          clear hO
          have z1 := hb1.size
          go_wp2_with fail
          refine (hL _).mono ?_
          rintro e w2 ⟨rfl, hb2⟩
          clear hL
          go_wp2
          exact ⟨⟨n + 1, by omega, by omega, rfl, ((bseq hB hb1).alloc (by omega) _).trans (hb2.mono (by simp only [World.size_alloc]; omega))⟩, by simp [intOf]; omega⟩
      · have g1 : (bits .and .u32 (bits .xor .u32 (wd n) x) 127 == 0) = false := by
          rw [beq_eq_false_iff_ne]
          exact fun h => hlow (t1.1 h)
        have hlt : n < op0 := by
          by_cases h : n = op0
          · have hm : ms (sh n) x = wd n := h ▸ H.out.2.2.2 (by omega)
            rw [hm] at tl
            exact absurd tl.symm hlow
          · omega
        clear hlow t1 t2 tl hs H hL
        go_wp2_with fail
        refine (hO _).mono ?_
        rintro e w1 ⟨rfl, hb1⟩
        clear hO
        have z1 := hb1.size
        go_wp2
        exact ⟨⟨n + 1, by omega, by omega, rfl, (bseq hB hb1).alloc (by omega) _⟩, by simp [intOf]; omega⟩
    · have E : Hid (opOf op0 = 0) := if_pos (by omega)
      have e77 : 77 ≤ n := by omega
      clear H h77
      go_wp2
      go_ret
      exact ⟨by rw [E.out]; rfl, hB⟩
set_option maxHeartbeats 2000000 in
theorem decode_none (x : Int) (w : World) (hx0 : 0 ≤ x) (hx1 : x < 4294967296) (hF : First x 77) :
    Calls Tryd.prog 6 #[.int .u32 x] w fun e w' => (∃ v, e = .returned (.tuple #[.agg #[.int .i64 0, .int .i64 0, .int .i64 0, .int .i64 0, .int .i64 0, .int .i64 0], v]) ∧ FaultIn w' w.heap.size v 0 20) ∧ Below w.heap.size w w' := by
  have hO := fun w => oow_any x 77 w hx0 hx1 hF
  rw [show opOf 77 = 0 from if_pos rfl] at hO
  clear hF
  go_enter Tryd.func6, Tryd.ntmps6
  go_wp2_with fail
  refine (hO _).mono ?_
  rintro e w1 ⟨rfl, hb⟩
  clear hO
  have hz := hb.size
  simp only [World.size_alloc] at hz
  have y0 : w.heap.size < w1.heap.size := by omega
  obtain ⟨k0, k1, k2, k3, k4, k5⟩ := row6_keep hb (by simp only [World.size_alloc]; omega) (row6_new w (.int .i64 0) (.int .i64 0) (.int .i64 0) (.int .i64 0) (.int .i64 0) (.int .i64 0) 23)
  have hfz : ∀ j, w1.frozen? ⟨w.heap.size, j, .none⟩ = false := fun j => (hb.frozen (p := ⟨w.heap.size, j, .none⟩) (by simp only [World.size_alloc]; omega)).trans (by simp)
  go_wp2_with fail
  refine (fault_any _ _ _).mono ?_
  rintro e w2 ⟨rfl, rfl⟩
  go_wp2
  refine bodyPost_ret (v := .tuple #[.agg #[.int .i64 0, .int .i64 0, .int .i64 0, .int .i64 0, .int .i64 0, .int .i64 0], .iface 74 (.pointer (some ⟨w1.heap.size, 0, .none⟩))]) (by simp [results, Tryd.results6, go_sem, y0, k0, k1, k2, k3, k4, k5]) rfl ⟨⟨_, rfl, w1.heap.size, ?_, ?_, rfl, ?_, ?_, ?_⟩, ?_⟩
  · omega
  · simp
  · simp [World.cell?_alloc_at]
  · simp [World.cell?_alloc_at]
  · simp [World.cell?_alloc_at]
  · have h0 : Below w.heap.size w w1 := (below_past _ _).trans (hb.mono (by simp only [World.size_alloc]; omega))
    exact ((((((h0.setCell (Nat.le_refl _) _).setCell (Nat.le_refl _) _).setCell (Nat.le_refl _) _).setCell (Nat.le_refl _) _).setCell (Nat.le_refl _) _).setCell (Nat.le_refl _) _).alloc (by simp; omega) _
set_option maxHeartbeats 2000000 in
theorem decode_some (x op : Int) (w : World) (hx0 : 0 ≤ x) (hx1 : x < 4294967296) (hF : First x op) (hop : op ≤ 76) :
    Calls Tryd.prog 6 #[.int .u32 x] w fun e w' => e = .returned (.tuple #[.agg #[.int .i64 op, .int .i64 (fRd (sh op) x), .int .i64 (fRs1 (sh op) x), .int .i64 (fRs2 (sh op) x), .int .i64 (tk (sh op) x), .int .i64 (fCsr (sh op) x)], .nilIface]) ∧ Below w.heap.size w w' := by
  have hO := fun w => oow_any x op w hx0 hx1 hF
  rw [show opOf op = op from if_neg (by omega)] at hO
  have h1 := hF.1
  have hs := sh_ne op h1 hop
  have bs := sh_bd op
  have hS := shape_any op
  have hN := fun w => fields_any (sh op) x w (by omega) bs.2 hx0 hx1
  have hL := fun w => layout_any (sh op) w (by omega) bs.2
  have hT := fun w => take_any (sh op) x w (by omega) bs.2 hx0 hx1
  have eT := takeId_enters (sh op) (by omega) bs.2
  generalize takeId (sh op) = ti at *
  generalize putId (sh op) = pi at *
  generalize fRd (sh op) x = d1 at *
  generalize fRs1 (sh op) x = d2 at *
  generalize fRs2 (sh op) x = d3 at *
  generalize tk (sh op) x = d4 at *
  generalize fCsr (sh op) x = d5 at *
  generalize fxb (sh op) = fv at *
  generalize sh op = s at *
  have g0 : (op == 0) = false := by rw [beq_eq_false_iff_ne]; omega
  clear hF hs
  go_enter Tryd.func6, Tryd.ntmps6
  go_wp2_with fail
  refine (hO _).mono ?_
  rintro e w1 ⟨rfl, hb⟩
  clear hO
  have hz := hb.size
  simp only [World.size_alloc] at hz
  have r1 := row6_keep hb (by simp only [World.size_alloc]; omega) (row6_new w (.int .i64 0) (.int .i64 0) (.int .i64 0) (.int .i64 0) (.int .i64 0) (.int .i64 0) 23)
  have f1 : ∀ j, w1.frozen? ⟨w.heap.size, j, .none⟩ = false := fun j => (hb.frozen (p := ⟨w.heap.size, j, .none⟩) (by simp only [World.size_alloc]; omega)).trans (by simp)
  go_wp2_with fail
  refine (hS _).mono ?_
  rintro e w2 ⟨rfl, hb2⟩
  clear hS
  have z2 := hb2.size
  have r2 := row6_keep hb2 (by omega) r1
  have f2 : ∀ j, w2.frozen? ⟨w.heap.size, j, .none⟩ = false := fun j => (hb2.frozen (p := ⟨w.heap.size, j, .none⟩) (by show w.heap.size < w1.heap.size; omega)).trans (f1 j)
  go_wp2_with fail
  refine (hN _).mono ?_
  rintro e w3 ⟨rfl, hb3⟩
  clear hN
  have z3 := hb3.size
  have r3 := row6_keep hb3 (by omega) r2
  have f3 : ∀ j, w3.frozen? ⟨w.heap.size, j, .none⟩ = false := fun j => (hb3.frozen (p := ⟨w.heap.size, j, .none⟩) (by show w.heap.size < w2.heap.size; omega)).trans (f2 j)
  clear f1 f2 r1 r2
  go_wp2_with fail
  refine (hL _).mono ?_
  rintro e w4 ⟨rfl, hb4⟩
  clear hL
  have z4 := hb4.size
  simp only [World.size_alloc] at z4
  have y3 : w.heap.size < w4.heap.size := by omega
  have y4 : w3.heap.size < w4.heap.size := by omega
  have yn : w.heap.size ≠ w3.heap.size := by omega
  obtain ⟨k0, k1, k2, k3, k4, k5⟩ := row6_keep hb4 (by simp only [World.size_alloc]; omega) (row6_keep (below_past _ _) (by omega) r3)
  obtain ⟨l0, l1, l2, l3, l4, l5⟩ := row6_keep hb4 (by simp only [World.size_alloc]; omega) (row6_new w3 (.int .i64 op) (.int .i64 d1) (.int .i64 d2) (.int .i64 d3) (.int .i64 0) (.int .i64 d5) 23)
  have f4 : ∀ j, w4.frozen? ⟨w.heap.size, j, .none⟩ = false := fun j => ((hb4.frozen (p := ⟨w.heap.size, j, .none⟩) (by show w.heap.size < _; simp only [World.size_alloc]; omega)).trans ((below_past w3 _).frozen (p := ⟨w.heap.size, j, .none⟩) (by show w.heap.size < _; omega))).trans (f3 j)
  have f5 : ∀ j, w4.frozen? ⟨w3.heap.size, j, .none⟩ = false := fun j => (hb4.frozen (p := ⟨w3.heap.size, j, .none⟩) (by show w3.heap.size < _; simp only [World.size_alloc]; omega)).trans (by simp)
  have hB4 : Below w.heap.size w w4 := (((((below_past _ _).trans (hb.mono (by simp only [World.size_alloc]; omega))).trans (hb2.mono (by omega))).trans (hb3.mono (by omega))).alloc (by omega) _).trans (hb4.mono (by simp only [World.size_alloc]; omega))
  clear f3 r3 hb hb2 hb3 hb4
  go_wp2_with fail
  refine (hT _).mono ?_
  rintro e w5 ⟨rfl, n5, rfl⟩
  clear hT eT
  go_wp2
  refine bodyPost_ret (v := .tuple #[.agg #[.int .i64 op, .int .i64 d1, .int .i64 d2, .int .i64 d3, .int .i64 d4, .int .i64 d5], .nilIface]) (by simp [results, Tryd.results6, go_sem, k0, k1, k2, k3, k4, k5]) rfl ⟨rfl, ?_⟩
  exact (((((((below_drewN hB4 _).setCell (show w.heap.size ≤ w3.heap.size by omega) _).setCell (Nat.le_refl _) _).setCell (Nat.le_refl _) _).setCell (Nat.le_refl _) _).setCell (Nat.le_refl _) _).setCell (Nat.le_refl _) _).setCell (Nat.le_refl _) _
end Go.Proofs.YtfafinjbobmafaaDoor
