import Derived.Test.YtfafinjbobmafabGuess
namespace Go.Proofs.Ytfafinjbobmafab
open Go.RowKit
set_option linter.unusedVariables false
theorem size_dN (w : World) (n : Nat) : (w.drewN n).heap.size = w.heap.size := rfl
theorem rop_all : (List.range 77).all (fun n => let op : Int := n; decide (sh op = 0) || decide (rop op = wd op % 128)) = true := by decide +kernel
theorem rop_low (op : Int) (hs : sh op ≠ 0) : rop op = wd op % 128 := by
  have hop : ¬ (op < 1 ∨ 77 ≤ op) := fun h => hs (sh_out op h)
  have h := List.all_eq_true.1 rop_all op.toNat (by simp; omega)
  simp only [show (op.toNat : Int) = op by omega, Bool.or_eq_true, decide_eq_true_eq] at h
  exact h.resolve_left hs
/-- Six cells in a row, from a place of a block on. -/
def Row6At (w : World) (b off : Nat) (c0 c1 c2 c3 c4 c5 : Value) : Prop :=
  w.cell? ⟨b, off, .none⟩ = some c0 ∧ w.cell? ⟨b, off + 1, .none⟩ = some c1 ∧ w.cell? ⟨b, off + 2, .none⟩ = some c2 ∧ w.cell? ⟨b, off + 3, .none⟩ = some c3 ∧ w.cell? ⟨b, off + 4, .none⟩ = some c4 ∧ w.cell? ⟨b, off + 5, .none⟩ = some c5
def W0 (w : World) : World := (((w.alloc (.cells #[.int .i64 0, .int .i64 0, .int .i64 0, .int .i64 0, .int .i64 0, .int .i64 0] 27)).alloc (.cells T42 52)).alloc (.cells T43 52))
theorem w0_size (w : World) : (W0 w).heap.size = w.heap.size + 3 := by simp [W0]
theorem w0_low (w wr : World) (h : Below (w.heap.size + 3) (W0 w) wr) (n : Int) (h0 : 0 ≤ n) (h1 : n < 40) (op : Int) (ho : op = n + 1) : Row6At wr (w.heap.size + 1) (n.toNat * 6) (.string (rnm op)) (.int .i64 (sh op)) (.int .i64 (rop op)) (.int .i64 (rf3 op)) (.int .i64 (rf7 op)) (.int .u32 (rwd op)) := by
  have key : ∀ j, j < 6 → wr.cell? ⟨w.heap.size + 1, n.toNat * 6 + j, .none⟩ = (refCells (refRow op))[j]? := fun j hj => by
    rw [h.cell (p := ⟨w.heap.size + 1, n.toNat * 6 + j, .none⟩) (by show w.heap.size + 1 < _; omega)]
    have e : (W0 w).cell? ⟨w.heap.size + 1, n.toNat * 6 + j, .none⟩ = T42[n.toNat * 6 + j]? := ((below_past _ _).cell (p := ⟨w.heap.size + 1, n.toNat * 6 + j, .none⟩) (by show w.heap.size + 1 < _; simp only [World.size_alloc]; omega)).trans (World.cell?_alloc2_new ..)
    rw [e, t42_n n.toNat (by omega) j hj, show n.toNat + 1 = op.toNat by omega]
    rfl
  refine ⟨(key 0 (by omega)).trans rfl, (key 1 (by omega)).trans ?_, (key 2 (by omega)).trans rfl, (key 3 (by omega)).trans rfl, (key 4 (by omega)).trans rfl, (key 5 (by omega)).trans rfl⟩
  rw [← rsh_eq]; rfl
theorem w0_high (w wr : World) (h : Below (w.heap.size + 3) (W0 w) wr) (n : Int) (h0 : 40 ≤ n) (h1 : n < 76) (op : Int) (ho : op = n + 1) : Row6At wr (w.heap.size + 1 + 1) ((n - 40).toNat * 6) (.string (rnm op)) (.int .i64 (sh op)) (.int .i64 (rop op)) (.int .i64 (rf3 op)) (.int .i64 (rf7 op)) (.int .u32 (rwd op)) := by
  have key : ∀ j, j < 6 → wr.cell? ⟨w.heap.size + 1 + 1, (n - 40).toNat * 6 + j, .none⟩ = (refCells (refRow op))[j]? := fun j hj => by
    rw [h.cell (p := ⟨w.heap.size + 1 + 1, (n - 40).toNat * 6 + j, .none⟩) (by show w.heap.size + 1 + 1 < _; omega)]
    have e : (W0 w).cell? ⟨w.heap.size + 1 + 1, (n - 40).toNat * 6 + j, .none⟩ = T43[(n - 40).toNat * 6 + j]? := cell_new3 w _ _ T43 52 _
    rw [e, t43_n (n - 40).toNat (by omega) j hj, show (n - 40).toNat + 41 = op.toNat by omega]
    rfl
  refine ⟨(key 0 (by omega)).trans rfl, (key 1 (by omega)).trans ?_, (key 2 (by omega)).trans rfl, (key 3 (by omega)).trans rfl, (key 4 (by omega)).trans rfl, (key 5 (by omega)).trans rfl⟩
  rw [← rsh_eq]; rfl
theorem w0_res (w wr : World) (h : Below (w.heap.size + 3) (W0 w) wr) : Row6 wr w.heap.size (.int .i64 0) (.int .i64 0) (.int .i64 0) (.int .i64 0) (.int .i64 0) (.int .i64 0) ∧ ∀ j, wr.frozen? ⟨w.heap.size, j, .none⟩ = false := by
  have h1 : Row6 (W0 w) w.heap.size (.int .i64 0) (.int .i64 0) (.int .i64 0) (.int .i64 0) (.int .i64 0) (.int .i64 0) :=
    row6_keep (below_past _ _) (by simp only [World.size_alloc]; omega) (row6_keep (below_past _ _) (by simp only [World.size_alloc]; omega) (row6_new w _ _ _ _ _ _ 27))
  refine ⟨row6_keep h (by omega) h1, fun j => ?_⟩
  rw [h.frozen (p := ⟨w.heap.size, j, .none⟩) (by show w.heap.size < _; omega)]
  have e1 : (W0 w).frozen? ⟨w.heap.size, j, .none⟩ = ((w.alloc (.cells #[.int .i64 0, .int .i64 0, .int .i64 0, .int .i64 0, .int .i64 0, .int .i64 0] 27)).alloc (.cells T42 52)).frozen? ⟨w.heap.size, j, .none⟩ := (below_past _ _).frozen (p := ⟨w.heap.size, j, .none⟩) (by show w.heap.size < _; simp only [World.size_alloc]; omega)
  rw [e1, (below_past _ _).frozen (p := ⟨w.heap.size, j, .none⟩) (by show w.heap.size < _; simp only [World.size_alloc]; omega)]
  simp
theorem w0_below (w wr : World) (h : Below (w.heap.size + 3) (W0 w) wr) : Below w.heap.size w wr :=
  (((below_past _ _).alloc (by simp only [World.size_alloc]; omega) _).alloc (by simp only [World.size_alloc]; omega) _).trans (h.mono (by omega))
def dRes (x op0 : Int) : Value := if op0 = 77 then .tuple #[.agg #[.int .i64 0, .int .i64 0, .int .i64 0, .int .i64 0, .int .i64 0, .int .i64 0], .bool false] else
      .tuple #[.agg #[.int .i64 op0, .int .i64 (fRd (sh op0) x), .int .i64 (fRs1 (sh op0) x), .int .i64 (fRs2 (sh op0) x), .int .i64 (tk (sh op0) x), .int .i64 (fCsr (sh op0) x)], .bool true]
set_option maxHeartbeats 4000000 in
theorem rdecode_any (x op0 : Int) (w : World) (hx0 : 0 ≤ x) (hx1 : x < 4294967296) (hF : First x op0) :
    Calls Try.prog 6 #[.int .u32 x] w fun e w' => Below w.heap.size w w' ∧ e = .returned (dRes x op0) := by
  have H : Hid (First x op0) := hF
  have b1 := hF.1
  have b2 := hF.2.1
  clear hF
  go_enter Try.func6, Try.ntmps6
  go_wp2_with fail
  refine (rbase_any _).mono ?_
  rintro e w1 ⟨rfl, rfl⟩
  go_wp2_with fail
  refine (rmore_any _).mono ?_
  rintro e w2 ⟨rfl, rfl⟩
  have EW : Hid (W0 w = (((w.alloc (.cells #[.int .i64 0, .int .i64 0, .int .i64 0, .int .i64 0, .int .i64 0, .int .i64 0] 27)).alloc (.cells T42 52)).alloc (.cells T43 52))) := rfl
  generalize T42 = A42 at *
  generalize T43 = A43 at *
  go_wp2_with fail
  go_loopw [6] (fun k wr => ∃ n : Int, 0 ≤ n ∧ n + 1 ≤ op0 ∧ k = .int .i64 n ∧ Below (w.heap.size + 3) (W0 w) wr) (fun k _ => (77 - intOf k).toNat)
  case atStart => exact ⟨0, by omega, by omega, rfl, by rw [EW.out]; exact Below.refl _ _⟩
  case round =>
    obtain ⟨n, h1, h2, rfl, hB⟩ := hrel
    clear EW
    by_cases h76 : n < 76
    · have hs := sh_ne (n + 1) (by omega) (by omega)
      have bs := sh_bd (n + 1)
      have low := rop_low (n + 1) hs
      have hml := ms_low (sh (n + 1)) x (by omega) bs.2 ⟨hx0, hx1⟩
      have hG := fun w => guess_any (n + 1) (sh (n + 1)) x w (by omega) bs.2 hx0 hx1
      have hE := fun w => rencode_yes (n + 1) (fRd (sh (n + 1)) x) (fRs1 (sh (n + 1)) x) (fRs2 (sh (n + 1)) x) (tk (sh (n + 1)) x) (fCsr (sh (n + 1)) x) w (guess_valid (n + 1) x hs ⟨hx0, hx1⟩)
      have hgw := guess_word (n + 1) x hs ⟨hx0, hx1⟩
      obtain ⟨o1, _⟩ := ref_at (n + 1) hs
      have oa := o1.1
      have ob := o1.2
      have hres := w0_res w wr hB
      have hBw := w0_below w wr hB
      have zB : w.heap.size + 3 ≤ wr.heap.size := by have := hB.size; rw [w0_size] at this; exact this
      have y0 : w.heap.size < wr.heap.size := by omega
      have y1 : w.heap.size + 1 < wr.heap.size := by omega
      have y2 : w.heap.size + 1 + 1 < wr.heap.size := by omega
      have hlowM : ms (sh (n + 1)) x = wd (n + 1) → rop (n + 1) = x % 128 := fun h => by rw [low, ← h, hml]
      have R : (n < 40 ∧ Row6At wr (w.heap.size + 1) (n.toNat * 6) (.string (rnm (n + 1))) (.int .i64 (sh (n + 1))) (.int .i64 (rop (n + 1))) (.int .i64 (rf3 (n + 1))) (.int .i64 (rf7 (n + 1))) (.int .u32 (rwd (n + 1)))) ∨ (40 ≤ n ∧ Row6At wr (w.heap.size + 1 + 1) ((n - 40).toNat * 6) (.string (rnm (n + 1))) (.int .i64 (sh (n + 1))) (.int .i64 (rop (n + 1))) (.int .i64 (rf3 (n + 1))) (.int .i64 (rf7 (n + 1))) (.int .u32 (rwd (n + 1)))) := by
        by_cases h40 : n < 40
        · exact .inl ⟨h40, w0_low w wr hB n h1 h40 _ rfl⟩
        · exact .inr ⟨by omega, w0_high w wr hB n (by omega) h76 _ rfl⟩
      have epc : pc x 0 7 = x % 128 := by show x / 2 ^ 0 % 2 ^ 7 = _; omega
      clear low hml o1 bs
      generalize rnm (n + 1) = nv at *
      generalize rop (n + 1) = ov at *
      generalize rf3 (n + 1) = v3 at *
      generalize rf7 (n + 1) = v7 at *
      generalize rwd (n + 1) = vw at *
      by_cases hlow : ov = x % 128
      · have g1 : (ov != pc x 0 7) = false := by rw [epc, hlow]; simp
        clear hlow epc hlowM
        by_cases hm : ms (sh (n + 1)) x = wd (n + 1)
        · have hEq : n + 1 = op0 := by
            by_cases h : n + 1 < op0
            · exact absurd hm (H.out.2.2.1 (n + 1) (by omega) h)
            · omega
          have hw := hgw.2 hm
          rw [hw] at hE
          have E : Hid (dRes x op0 = .tuple #[.agg #[.int .i64 (n + 1), .int .i64 (fRd (sh (n + 1)) x), .int .i64 (fRs1 (sh (n + 1)) x), .int .i64 (fRs2 (sh (n + 1)) x), .int .i64 (tk (sh (n + 1)) x), .int .i64 (fCsr (sh (n + 1)) x)], .bool true]) := by
            rw [← hEq]; exact if_neg (by omega)
          clear hgw hm hs H hw hEq
          generalize fRd (sh (n + 1)) x = d1 at *
          generalize fRs1 (sh (n + 1)) x = d2 at *
          generalize fRs2 (sh (n + 1)) x = d3 at *
          generalize tk (sh (n + 1)) x = d4 at *
          generalize fCsr (sh (n + 1)) x = d5 at *
          generalize sh (n + 1) = s at *
          rcases R with ⟨h40, k0, k1, k2, k3, k4, k5⟩ | ⟨h40, k0, k1, k2, k3, k4, k5⟩
          · have g40 : decide (n < 40) = true := by simpa using h40
            go_wp2_with fail
            go_quiet ((go_at_call 16; exact Calls.quiet_of_same (cut_6_0 x _ hx0 hx1)))
            go_wp2_with fail
            refine (hG _).mono ?_
            rintro e w3 ⟨rfl, hb3⟩
            clear hG k0 k1 k2 k3 k4 k5
            have z3 := hb3.size
            simp only [size_dN, World.size_alloc] at z3
            go_wp2_with fail
            refine (hE _).mono ?_
            rintro e w4 ⟨rfl, hb4⟩
            clear hE
            have z4 := hb4.size
            simp only [World.size_alloc] at z4
            have hB3 : Below wr.heap.size wr w4 := (((below_drewN (below_past wr _) nq).trans (hb3.mono (by simp only [size_dN, World.size_alloc]; omega))).alloc (by omega) _).trans (hb4.mono (by simp only [World.size_alloc]; omega))
            obtain ⟨m0, m1, m2, m3, m4, m5⟩ := row6_keep hB3 y0 hres.1
            have mf : ∀ j, w4.frozen? ⟨w.heap.size, j, .none⟩ = false := fun j => (hB3.frozen (p := ⟨w.heap.size, j, .none⟩) y0).trans (hres.2 j)
            obtain ⟨l0, l1, l2, l3, l4, l5⟩ := row6_keep hb4 (by simp only [World.size_alloc]; omega) (row6_new w3 (.int .i64 (n + 1)) (.int .i64 d1) (.int .i64 d2) (.int .i64 d3) (.int .i64 d4) (.int .i64 d5) 27)
            have hB4 : Below w.heap.size w w4 := hBw.trans (hB3.mono (by omega))
            clear hres hb3 hb4 hB3 hBw hB
            go_wp2
            rw [E.out]
            refine bodyPost_ret (v := .tuple #[.agg #[.int .i64 (n + 1), .int .i64 d1, .int .i64 d2, .int .i64 d3, .int .i64 d4, .int .i64 d5], .bool true]) (by simp [results, Try.results6, go_sem, m0, m1, m2, m3, m4, m5]) rfl ⟨?_, rfl⟩
            exact (((((hB4.setCell (Nat.le_refl _) _).setCell (Nat.le_refl _) _).setCell (Nat.le_refl _) _).setCell (Nat.le_refl _) _).setCell (Nat.le_refl _) _).setCell (Nat.le_refl _) _
          · have g40 : decide (n < 40) = false := by simp; omega
            go_wp2_with fail
            go_quiet ((go_at_call 16; exact Calls.quiet_of_same (cut_6_0 x _ hx0 hx1)))
            go_wp2_with fail
            refine (hG _).mono ?_
            rintro e w3 ⟨rfl, hb3⟩
            clear hG k0 k1 k2 k3 k4 k5
            have z3 := hb3.size
            simp only [size_dN, World.size_alloc] at z3
            go_wp2_with fail
            refine (hE _).mono ?_
            rintro e w4 ⟨rfl, hb4⟩
            clear hE
            have z4 := hb4.size
            simp only [World.size_alloc] at z4
            have hB3 : Below wr.heap.size wr w4 := (((below_drewN (below_past wr _) nq).trans (hb3.mono (by simp only [size_dN, World.size_alloc]; omega))).alloc (by omega) _).trans (hb4.mono (by simp only [World.size_alloc]; omega))
            obtain ⟨m0, m1, m2, m3, m4, m5⟩ := row6_keep hB3 y0 hres.1
            have mf : ∀ j, w4.frozen? ⟨w.heap.size, j, .none⟩ = false := fun j => (hB3.frozen (p := ⟨w.heap.size, j, .none⟩) y0).trans (hres.2 j)
            obtain ⟨l0, l1, l2, l3, l4, l5⟩ := row6_keep hb4 (by simp only [World.size_alloc]; omega) (row6_new w3 (.int .i64 (n + 1)) (.int .i64 d1) (.int .i64 d2) (.int .i64 d3) (.int .i64 d4) (.int .i64 d5) 27)
            have hB4 : Below w.heap.size w w4 := hBw.trans (hB3.mono (by omega))
            clear hres hb3 hb4 hB3 hBw hB
            go_wp2
            rw [E.out]
            refine bodyPost_ret (v := .tuple #[.agg #[.int .i64 (n + 1), .int .i64 d1, .int .i64 d2, .int .i64 d3, .int .i64 d4, .int .i64 d5], .bool true]) (by simp [results, Try.results6, go_sem, m0, m1, m2, m3, m4, m5]) rfl ⟨?_, rfl⟩
            exact (((((hB4.setCell (Nat.le_refl _) _).setCell (Nat.le_refl _) _).setCell (Nat.le_refl _) _).setCell (Nat.le_refl _) _).setCell (Nat.le_refl _) _).setCell (Nat.le_refl _) _
        · have hlt : n + 1 < op0 := by
            by_cases h : n + 1 = op0
            · exact absurd (h ▸ H.out.2.2.2 (by omega)) hm
            · omega
          have g2 : (eS (n + 1) (fRd (sh (n + 1)) x) (fRs1 (sh (n + 1)) x) (fRs2 (sh (n + 1)) x) (tk (sh (n + 1)) x) (fCsr (sh (n + 1)) x) == x) = false := by
            rw [beq_eq_false_iff_ne]
            exact fun h => hm (hgw.1 h)
          clear hgw hm hs H
          generalize eS (n + 1) (fRd (sh (n + 1)) x) (fRs1 (sh (n + 1)) x) (fRs2 (sh (n + 1)) x) (tk (sh (n + 1)) x) (fCsr (sh (n + 1)) x) = ev at *
          generalize fRd (sh (n + 1)) x = d1 at *
          generalize fRs1 (sh (n + 1)) x = d2 at *
          generalize fRs2 (sh (n + 1)) x = d3 at *
          generalize tk (sh (n + 1)) x = d4 at *
          generalize fCsr (sh (n + 1)) x = d5 at *
          generalize sh (n + 1) = s at *
          rcases R with ⟨h40, k0, k1, k2, k3, k4, k5⟩ | ⟨h40, k0, k1, k2, k3, k4, k5⟩
          · have g40 : decide (n < 40) = true := by simpa using h40
            go_wp2_with fail
            go_quiet ((go_at_call 16; exact Calls.quiet_of_same (cut_6_0 x _ hx0 hx1)))
            go_wp2_with fail
            refine (hG _).mono ?_
            rintro e w3 ⟨rfl, hb3⟩
            clear hG k0 k1 k2 k3 k4 k5
            have z3 := hb3.size
            simp only [size_dN, World.size_alloc] at z3
            go_wp2_with fail
            refine (hE _).mono ?_
            rintro e w4 ⟨rfl, hb4⟩
            clear hE
            have z4 := hb4.size
            simp only [World.size_alloc] at z4
            have hB3 : Below wr.heap.size wr w4 := (((below_drewN (below_past wr _) nq).trans (hb3.mono (by simp only [size_dN, World.size_alloc]; omega))).alloc (by omega) _).trans (hb4.mono (by simp only [World.size_alloc]; omega))
            clear hres hb3 hb4 hBw
            go_wp2
            exact ⟨⟨n + 1, by omega, by omega, rfl, hB.trans (hB3.mono (by omega))⟩, by simp [intOf]; omega⟩
          · have g40 : decide (n < 40) = false := by simp; omega
            go_wp2_with fail
            go_quiet ((go_at_call 16; exact Calls.quiet_of_same (cut_6_0 x _ hx0 hx1)))
            go_wp2_with fail
            refine (hG _).mono ?_
            rintro e w3 ⟨rfl, hb3⟩
            clear hG k0 k1 k2 k3 k4 k5
            have z3 := hb3.size
            simp only [size_dN, World.size_alloc] at z3
            go_wp2_with fail
            refine (hE _).mono ?_
            rintro e w4 ⟨rfl, hb4⟩
            clear hE
            have z4 := hb4.size
            simp only [World.size_alloc] at z4
            have hB3 : Below wr.heap.size wr w4 := (((below_drewN (below_past wr _) nq).trans (hb3.mono (by simp only [size_dN, World.size_alloc]; omega))).alloc (by omega) _).trans (hb4.mono (by simp only [World.size_alloc]; omega))
            clear hres hb3 hb4 hBw
            go_wp2
            exact ⟨⟨n + 1, by omega, by omega, rfl, hB.trans (hB3.mono (by omega))⟩, by simp [intOf]; omega⟩
      · have g1 : (ov != pc x 0 7) = true := by rw [epc]; simpa using hlow
        have hlt : n + 1 < op0 := by
          by_cases h : n + 1 = op0
          · exact absurd (hlowM (h ▸ H.out.2.2.2 (by omega))) hlow
          · omega
        clear hlow epc hlowM hgw hs H hG hE hres hBw
        generalize sh (n + 1) = s at *
        rcases R with ⟨h40, k0, k1, k2, k3, k4, k5⟩ | ⟨h40, k0, k1, k2, k3, k4, k5⟩
        · have g40 : decide (n < 40) = true := by simpa using h40
          go_wp2_with fail
          go_quiet ((go_at_call 16; exact Calls.quiet_of_same (cut_6_0 x _ hx0 hx1)))
          go_wp2
          exact ⟨⟨n + 1, by omega, by omega, rfl, hB.trans ((below_drewN (below_past wr _) nq).mono (by omega))⟩, by simp [intOf]; omega⟩
        · have g40 : decide (n < 40) = false := by simp; omega
          go_wp2_with fail
          go_quiet ((go_at_call 16; exact Calls.quiet_of_same (cut_6_0 x _ hx0 hx1)))
          go_wp2
          exact ⟨⟨n + 1, by omega, by omega, rfl, hB.trans ((below_drewN (below_past wr _) nq).mono (by omega))⟩, by simp [intOf]; omega⟩
    · have e77 : op0 = 77 := by omega
      have E : Hid (dRes x op0 = .tuple #[.agg #[.int .i64 0, .int .i64 0, .int .i64 0, .int .i64 0, .int .i64 0, .int .i64 0], .bool false]) := if_pos e77
      have en : 76 ≤ n := by omega
      obtain ⟨⟨m0, m1, m2, m3, m4, m5⟩, mf⟩ := w0_res w wr hB
      have hBw := w0_below w wr hB
      clear H h76 e77 hB
      go_wp2
      rw [E.out]
      refine bodyPost_ret (v := .tuple #[.agg #[.int .i64 0, .int .i64 0, .int .i64 0, .int .i64 0, .int .i64 0, .int .i64 0], .bool false]) (by simp [results, Try.results6, go_sem, m0, m1, m2, m3, m4, m5]) rfl ⟨?_, rfl⟩
      exact (((((hBw.setCell (Nat.le_refl _) _).setCell (Nat.le_refl _) _).setCell (Nat.le_refl _) _).setCell (Nat.le_refl _) _).setCell (Nat.le_refl _) _).setCell (Nat.le_refl _) _
end Go.Proofs.Ytfafinjbobmafab
