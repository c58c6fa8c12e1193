import Derived.Test.YtnlbomggadflmaaLf
import Derived.Deep.DeepCutAuto
namespace Go.Proofs.Ytnlbomggadflmaa
open Go.RowKit
set_option linter.unusedVariables false
set_option linter.unusedSimpArgs false
set_option maxRecDepth 100000
theorem eqp {a c : Pr} (h : a = c) (w : World) : (binOp .neq 28 (.agg a.l.toArray) (.agg c.l.toArray)).run Try.prog w = .ok (.bool false) w := by
  subst h
  rw [neq_proc, pEq_refl]
  rfl
theorem DoP.cell {W W' : World} {b x o : Nat} {e : Ending} {v : Value} (h : DoP W b e W') (hx : x ≠ b) (c : W.cell? ⟨x, o, .none⟩ = some v) : W'.cell? ⟨x, o, .none⟩ = some v := by
  obtain ⟨_, P, n, t, i, r⟩ := h
  exact (r.cell (p := ⟨x, o, .none⟩) (lt_cell c) hx).trans c
section
variable {w : World}
set_option maxHeartbeats 4000000 in
theorem wakes_walk {q : Option Addr} {m c : Nat} {O : Nat → Opr} (h : ArgO w q m c O) (k n0 : Int) : Calls Try.prog 4 #[.slice q m c, .agg #[.int .i64 k, .int .i64 n0]] w fun e w' => e = .returned (.bool true) ∧ Below w.heap.size w w' := by
  have hml : m ≤ 9223372036854775807 := by have := h.lc; have h2 : c ≤ 9223372036854775807 := this.2; omega
  have HA : Hid (ArgO w q m c O) := h
  have HB0 : Hid (Below w.heap.size w (w.alloc (.cells #[.int .i64 k, .int .i64 n0] 26))) := below1 _ _
  have HC : Hid ((w.alloc (.cells #[.int .i64 k, .int .i64 n0] 26)).cell? ⟨w.heap.size, 0, .none⟩ = some (.int .i64 k) ∧ (w.alloc (.cells #[.int .i64 k, .int .i64 n0] 26)).cell? ⟨w.heap.size, 1, .none⟩ = some (.int .i64 n0)) := ⟨by rw [World.cell?_alloc_at _ _ _ _ rfl]; rfl, by rw [World.cell?_alloc_at _ _ _ _ rfl]; rfl⟩
  have hsz : w.heap.size < (w.alloc (.cells #[.int .i64 k, .int .i64 n0] 26)).heap.size := by simp
  have k1 := new_any (w.alloc (.cells #[.int .i64 k, .int .i64 n0] 26))
  clear h
  go_enter Try.func4, Try.ntmps4
  go_wp2_with fail
  refine k1.mono ?_
  rintro e w1 ⟨rfl, hT, hB, hlt⟩
  obtain ⟨x, hx⟩ : ∃ x, x = w.heap.size := ⟨_, rfl⟩
  rw [← hx] at HC ⊢
  generalize w.alloc (.cells #[.int .i64 k, .int .i64 n0] 26) = w0 at *
  obtain ⟨b, hb⟩ : ∃ b, b = w0.heap.size := ⟨_, rfl⟩
  rw [← hb]
  have hxb : x < b := by omega
  have HO2 : Hid (Own w b w1 ∧ w1.cell? ⟨x, 0, .none⟩ = some (.int .i64 k) ∧ w1.cell? ⟨x, 1, .none⟩ = some (.int .i64 n0)) := ⟨⟨⟨zS, 1, hb ▸ hT, inv_new⟩, HB0.out.trans (hB.mono (by omega))⟩, (hB.cell (p := ⟨x, 0, .none⟩) (by show x < w0.heap.size; omega)).trans HC.out.1, (hB.cell (p := ⟨x, 1, .none⟩) (by show x < w0.heap.size; omega)).trans HC.out.2⟩
  have hbb : w.heap.size ≤ b := by omega
  have hxw : w.heap.size ≤ x := by omega
  clear k1 hT hB hb hlt hx HB0 HC hsz
  go_wp2
  go_loopw [6] (fun i wr => ∃ n : Nat, n ≤ m ∧ i = .int .i64 n ∧ Hid (Own w b wr ∧ wr.cell? ⟨x, 0, .none⟩ = some (.int .i64 k) ∧ wr.cell? ⟨x, 1, .none⟩ = some (.int .i64 n0))) (fun i _ => (m - intOf i).toNat)
  case atStart => exact ⟨0, by omega, rfl, HO2.out⟩
  case round =>
    clear HO2
    obtain ⟨n, hn, rfl, HR⟩ := hrel
    go_upto_region 5 with fail
    go_cut [23] (fun s wc => s = .bool (decide (n < m ∧ n < 400)) ∧ wc = wr)
    case first =>
      by_cases h1 : n < m
      · have g1 : (n : Int) < m := by omega
        by_cases h2 : n < 400
        · have g2 : (n : Int) < 400 := by omega
          have HE : Hid (decide (n < m ∧ n < 400) = true) := decide_eq_true ⟨h1, h2⟩
          go_wp2
          go_meet
          case rel => exact ⟨by rw [HE.out], rfl⟩
        · have g2 : ¬ (n : Int) < 400 := by omega
          have HE : Hid (decide (n < m ∧ n < 400) = false) := decide_eq_false (fun h => h2 h.2)
          go_wp2
          go_meet
          case rel => exact ⟨by rw [HE.out], rfl⟩
      · have g1 : ¬ (n : Int) < m := by omega
        have HE : Hid (decide (n < m ∧ n < 400) = false) := decide_eq_false (fun h => h1 h.1)
        go_wp2
        go_meet
        case rel => exact ⟨by rw [HE.out], rfl⟩
    case rest =>
      obtain ⟨rfl, hwc⟩ := hcut
      obtain rfl : wr = wc := hwc.symm
      by_cases hlt : n < m ∧ n < 400
      · rw [decide_eq_true hlt]
        obtain ⟨hlt, _⟩ := hlt
        have g0 : (n : Int) < m := by omega
        obtain ⟨ab, ao, rfl, c0, c1, c2, c3, c4⟩ := HA.out.cells HR.out.1.be n hlt
        obtain ⟨⟨P, nx, hT, hI⟩, hB⟩ := HR.out.1
        have kd := do_any hT hI (O n)
        rw [Opr.l] at kd
        clear hT hI
        go_wp2_with fail
        refine kd.mono ?_
        rintro e w3 hD
        have HO3 : Hid (Own w b w3 ∧ w3.cell? ⟨x, 0, .none⟩ = some (.int .i64 k) ∧ w3.cell? ⟨x, 1, .none⟩ = some (.int .i64 n0)) := ⟨HR.out.1.step hbb hD, hD.cell (by omega) HR.out.2.1, hD.cell (by omega) HR.out.2.2⟩
        obtain ⟨rfl, _⟩ := hD
        clear kd c0 c1 c2 c3 c4 hB HR
        go_wp2
        exact ⟨⟨n + 1, by omega, rfl, HO3.out⟩, by simp only [intOf]; omega⟩
      · rw [decide_eq_false hlt]
        clear hlt hn HA
        obtain ⟨⟨⟨P, nx, hT, hI⟩, hB⟩, x0, x1⟩ := HR.out
        have k2 := state_any hT hI.n1
        have HI : Hid (Inv P nx) := hI
        have H1 : Hid (Tb wr b P nx ∧ Below w.heap.size w wr ∧ wr.cell? ⟨x, 0, .none⟩ = some (.int .i64 k) ∧ wr.cell? ⟨x, 1, .none⟩ = some (.int .i64 n0)) := ⟨hT, hB, x0, x1⟩
        obtain ⟨T, hTT⟩ : ∃ T, T = (tl P nx).toArray := ⟨_, rfl⟩
        rw [← hTT] at k2
        have HTT : Hid (T = (tl P nx).toArray) := hTT
        clear hTT hT hB x0 x1 HR hI
        go_wp2_with fail
        refine k2.mono ?_
        rintro e w2 ⟨rfl, hb⟩
        have H2 : Hid (Tb w2 b P nx ∧ Below w.heap.size w w2 ∧ w2.cell? ⟨x, 0, .none⟩ = some (.int .i64 k) ∧ w2.cell? ⟨x, 1, .none⟩ = some (.int .i64 n0)) := by
          obtain ⟨y1, y2, y3, y4⟩ := H1.out
          exact ⟨y1.bel hb, y2.trans (hb.mono y2.size), (hb.cell (p := ⟨x, 0, .none⟩) (lt_cell y3)).trans y3, (hb.cell (p := ⟨x, 1, .none⟩) (lt_cell y4)).trans y4⟩
        clear k2 hb H1
        rename_i K1 hK1
        refine hK1 _ _ ?_
        clear hK1 K1
        refine wpList_laid (P := P) (nx := nx) 7 33 _ _ rfl rfl rfl rfl rfl rfl rfl (congrArg Value.agg HTT.out) ?_
        intro w3 hT3 hb3
        obtain ⟨y, hy⟩ : ∃ y, y = w2.heap.size := ⟨_, rfl⟩
        rw [← hy] at hT3 ⊢
        have hyb : b < y := by rw [hy]; exact H2.out.1.lt
        have H3 : Hid (Tb w3 b P nx ∧ Below w.heap.size w w3 ∧ w3.cell? ⟨x, 0, .none⟩ = some (.int .i64 k) ∧ w3.cell? ⟨x, 1, .none⟩ = some (.int .i64 n0) ∧ Tb w3 y P nx) := by
          obtain ⟨y1, y2, y3, y4⟩ := H2.out
          exact ⟨y1.bel hb3, y2.trans (hb3.mono y2.size), (hb3.cell (p := ⟨x, 0, .none⟩) (lt_cell y3)).trans y3, (hb3.cell (p := ⟨x, 1, .none⟩) (lt_cell y4)).trans y4, hT3⟩
        clear hT3 hb3 H2 hy
        simp only [Act.put, List.setIfInBounds_toArray, List.set_cons_zero, List.set_cons_succ]
        have x0 := H3.out.2.2.1
        have x1 := H3.out.2.2.2.1
        have k3 := wakeC_any H3.out.1 HI.out.n1 k n0
        go_wp2_with fail
        refine k3.mono ?_
        rintro e w4 ⟨rfl, hT4, hR4⟩
        have H4 : Hid (Tb w4 b (wkP P k n0) nx ∧ Below w.heap.size w w4 ∧ w4.cell? ⟨x, 0, .none⟩ = some (.int .i64 k) ∧ w4.cell? ⟨x, 1, .none⟩ = some (.int .i64 n0) ∧ Tb w4 y P nx) := by
          obtain ⟨y1, y2, y3, y4, y5⟩ := H3.out
          exact ⟨hT4, y2.trans (hR4.toBelow hbb y2.size), (hR4.cell (p := ⟨x, 0, .none⟩) (lt_cell y3) (by show x ≠ b; omega)).trans y3, (hR4.cell (p := ⟨x, 1, .none⟩) (lt_cell y4) (by show x ≠ b; omega)).trans y4, hR4.tb y5 (by omega)⟩
        clear k3 hT4 hR4 H3 x0 x1
        have k4 := state_any H4.out.1 HI.out.n1
        obtain ⟨T2, hTT2⟩ : ∃ T, T = (tl (wkP P k n0) nx).toArray := ⟨_, rfl⟩
        rw [← hTT2] at k4
        have HTT2 : Hid (T2 = (tl (wkP P k n0) nx).toArray) := hTT2
        clear hTT2
        go_wp2_with fail
        refine k4.mono ?_
        rintro e w5 ⟨rfl, hb5⟩
        have H5 : Hid (Below w.heap.size w w5 ∧ w5.cell? ⟨x, 0, .none⟩ = some (.int .i64 k) ∧ w5.cell? ⟨x, 1, .none⟩ = some (.int .i64 n0) ∧ Tb w5 y P nx) := by
          obtain ⟨y1, y2, y3, y4, y5⟩ := H4.out
          exact ⟨y2.trans (hb5.mono y2.size), (hb5.cell (p := ⟨x, 0, .none⟩) (lt_cell y3)).trans y3, (hb5.cell (p := ⟨x, 1, .none⟩) (lt_cell y4)).trans y4, y5.bel hb5⟩
        clear k4 hb5 H4
        rename_i K1 hK1
        refine hK1 _ _ ?_
        clear hK1 K1
        refine wpList_laid (P := wkP P k n0) (nx := nx) 9 38 _ _ rfl rfl rfl rfl rfl rfl rfl (congrArg Value.agg HTT2.out) ?_
        intro w6 hT6 hb6
        obtain ⟨z, hz⟩ : ∃ z, z = w5.heap.size := ⟨_, rfl⟩
        rw [← hz] at hT6 ⊢
        have hyz : y < z := by rw [hz]; exact H5.out.2.2.2.lt
        have H6 : Hid (Below w.heap.size w w6 ∧ w6.cell? ⟨x, 0, .none⟩ = some (.int .i64 k) ∧ w6.cell? ⟨x, 1, .none⟩ = some (.int .i64 n0) ∧ Tb w6 y P nx ∧ Tb w6 z (wkP P k n0) nx) := by
          obtain ⟨y2, y3, y4, y5⟩ := H5.out
          exact ⟨y2.trans (hb6.mono y2.size), (hb6.cell (p := ⟨x, 0, .none⟩) (lt_cell y3)).trans y3, (hb6.cell (p := ⟨x, 1, .none⟩) (lt_cell y4)).trans y4, y5.bel hb6, hT6⟩
        clear hT6 hb6 H5 hz
        simp only [Act.put, List.setIfInBounds_toArray, List.set_cons_zero, List.set_cons_succ]
        go_wp2
        go_loopw [10, 11] (fun cc i wr => ∃ j : Nat, j ≤ 64 ∧ i = .int .i64 j ∧ cc = .int .i64 (wkC P k n0 j : Nat) ∧ Hid (Below w.heap.size w wr ∧ wr.cell? ⟨x, 0, .none⟩ = some (.int .i64 k) ∧ wr.cell? ⟨x, 1, .none⟩ = some (.int .i64 n0) ∧ Tb wr y P nx ∧ Tb wr z (wkP P k n0) nx)) (fun _ i _ => (64 - intOf i).toNat)
        case atStart => exact ⟨0, by omega, rfl, rfl, H6.out⟩
        case round =>
          clear H6
          obtain ⟨j, hj, rfl, rfl, HQ⟩ := hrel
          by_cases hl : j < 64
          · have g0 : (j : Int) < 64 := by omega
            obtain ⟨b1, x0, x1, t1, t2⟩ := HQ.out
            obtain ⟨c0, c1, c2, c3, c4, c5, c6⟩ := t1.cells j hl
            go_upto_region 16 with fail
            have hcs := cells_new wr (P j).l 28
            have HFR : Hid (∀ o, (wr.alloc (.cells (P j).l.toArray 28)).frozen? ⟨wr.heap.size, o, .none⟩ = false) := fun o => World.frozen?_alloc_new _ _ _ _
            have H7 : Hid (Below w.heap.size w (wr.alloc (.cells (P j).l.toArray 28)) ∧ (wr.alloc (.cells (P j).l.toArray 28)).cell? ⟨x, 0, .none⟩ = some (.int .i64 k) ∧ (wr.alloc (.cells (P j).l.toArray 28)).cell? ⟨x, 1, .none⟩ = some (.int .i64 n0) ∧ Tb (wr.alloc (.cells (P j).l.toArray 28)) y P nx ∧ Tb (wr.alloc (.cells (P j).l.toArray 28)) z (wkP P k n0) nx) := by
              have bb := below1 wr (.cells (P j).l.toArray 28)
              exact ⟨b1.trans (bb.mono b1.size), (bb.cell (p := ⟨x, 0, .none⟩) (lt_cell x0)).trans x0, (bb.cell (p := ⟨x, 1, .none⟩) (lt_cell x1)).trans x1, t1.bel bb, t2.bel bb⟩
            have hvz : z < wr.heap.size := t2.lt
            have hwv : w.heap.size ≤ wr.heap.size := b1.size
            have eW : wr.alloc (.cells #[.int .i64 (P j).pid, .int .i64 (P j).st, .int .i64 (P j).par, .int .i64 (P j).ck, .int .i64 (P j).cn, .bool (P j).kil, .int .i32 (P j).sta] 28) = wr.alloc (.cells (P j).l.toArray 28) := rfl
            rw [eW]
            generalize wr.alloc (.cells (P j).l.toArray 28) = w7 at *
            generalize wr.heap.size = v at *
            clear HQ b1 x0 x1 t1 t2 c0 c1 c2 c3 c4 c5 c6 eW
            obtain ⟨b1, x0, x1, t1, t2⟩ := H7.out
            have d0 := hcs 0 _ rfl
            have d1 := hcs 1 _ rfl
            have d2 := hcs 2 _ rfl
            have d3 := hcs 3 _ rfl
            have d4 := hcs 4 _ rfl
            have d5 := hcs 5 _ rfl
            have d6 := hcs 6 _ rfl
            have f1 := HFR.out 1
            have f3 := HFR.out 3
            have f4 := HFR.out 4
            obtain ⟨e0, e1, e2, e3, e4, e5, e6⟩ := t2.cells j hl
            have hvx : x ≠ v := by omega
            have hvz2 : z ≠ v := by omega
            have hvz3 : v ≠ z := by omega
            have hle := wkC_le P k n0 j
            have eqc := eqlc
            have HS := wkC_succ P k n0 j
            clear b1 t1 t2 hcs HFR
            cases hq : onC k n0 (P j) with
            | false =>
              have hw : wkP P k n0 j = P j := by rw [wkP, hq]; rfl
              rw [hw] at e0 e1 e2 e3 e4 e5 e6
              rw [hq] at HS
              have HS' : Hid (wkC P k n0 (j + 1) = wkC P k n0 j) := HS
              have hneq := eqp (rfl : P j = P j)
              rw [Pr.l] at hneq
              by_cases h2 : (P j).st = 2
              · have h3 : cEq (P j).ck (P j).cn k n0 = false := by simpa [onC, h2] using hq
                rw [h2] at d1 e1 hneq
                clear hq h2 HS hw
                generalize P j = pp at *
                go_wp2
                go_region
                all_goals go_wp2
                all_goals (
                  obtain ⟨b1, x0, x1, t1, t2⟩ := H7.out
                  exact ⟨⟨j + 1, by omega, rfl, by rw [HS'.out], below_drew b1, x0, x1, t1.keep rfl, t2.keep rfl⟩, by simp only [intOf]; omega⟩)
              · have h3 : ((P j).st == 2) = false := by simpa using h2
                clear hq h2 HS hw
                generalize P j = pp at *
                go_wp2
                go_region
                all_goals go_wp2
                all_goals (
                  obtain ⟨b1, x0, x1, t1, t2⟩ := H7.out
                  exact ⟨⟨j + 1, by omega, rfl, by rw [HS'.out], below_drew b1, x0, x1, t1.keep rfl, t2.keep rfl⟩, by simp only [intOf]; omega⟩)
            | true =>
              have hw : wkP P k n0 j = (P j).wk := by rw [wkP, hq]; rfl
              rw [hw] at e0 e1 e2 e3 e4 e5 e6
              simp only [Pr.wk] at e0 e1 e2 e3 e4 e5 e6
              rw [hq] at HS
              have HS' : Hid (wkC P k n0 (j + 1) = wkC P k n0 j + 1) := HS
              have h2 : (P j).st = 2 := by
                have := hq
                simp only [onC, Bool.and_eq_true, beq_iff_eq] at this
                exact this.1
              have h3 : cEq (P j).ck (P j).cn k n0 = true := by simpa [onC, h2] using hq
              rw [h2] at d1
              have hneq := eqp (rfl : (P j).wk = (P j).wk)
              rw [Pr.l] at hneq
              simp only [Pr.wk] at hneq
              have HF : Hid (∀ W, Trn v w7 W → Below w.heap.size w W ∧ W.cell? ⟨x, 0, .none⟩ = some (.int .i64 k) ∧ W.cell? ⟨x, 1, .none⟩ = some (.int .i64 n0) ∧ Tb W y P nx ∧ Tb W z (wkP P k n0) nx) := fun W t => by
                obtain ⟨b1, x0, x1, t1, t2⟩ := H7.out
                exact ⟨b1.trans (t.toBelow hwv b1.size), (t.cell (p := ⟨x, 0, .none⟩) (lt_cell x0) hvx).trans x0, (t.cell (p := ⟨x, 1, .none⟩) (lt_cell x1) hvx).trans x1, t.tb t1 (by omega), t.tb t2 (by omega)⟩
              clear hq h2 HS hw
              generalize P j = pp at *
              go_wp2
              go_region
              all_goals go_wp2
              all_goals exact ⟨⟨j + 1, by omega, rfl, by rw [HS'.out]; rfl, HF.out _ ((((Trn.setCell _ _ _ _).trans (Trn.setCell _ _ _ _)).trans (Trn.setCell _ _ _ _)).trans (Trn.drew _ _))⟩, by simp only [intOf]; omega⟩
          · obtain rfl : j = 64 := by omega
            have d1 := HQ.out.2.2.2.1.cn
            have d2 := HQ.out.2.2.2.2.cn
            go_wp2
            go_ret
            exact ⟨rfl, HQ.out.1⟩
end
end Go.Proofs.Ytnlbomggadflmaa
