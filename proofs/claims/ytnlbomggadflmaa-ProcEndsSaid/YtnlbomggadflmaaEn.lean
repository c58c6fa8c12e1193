import Derived.Test.YtnlbomggadflmaaMe
import Derived.Test.YtnlbomggadflmaaWk
import Derived.Deep.DeepCutAuto
namespace Go.Proofs.Ytnlbomggadflmaa
open Go.RowKit
set_option linter.unusedVariables false
set_option linter.unusedSimpArgs false
set_option maxRecDepth 100000
theorem yieldsIf_eqlT {ops : Array Oper} {S : World → Prop} {op : Oper} {a : Act} (hw : Region.wanted op (yielded ops a.tmps) = true) (t2 : TypeId) (x y : Operand) (ho : op.op = .binOp .eql 31 x y t2) (P : Nat → Pr) (nx : Int) (hx : a.eval x = .agg (tl P nx).toArray) (hy : a.eval y = .agg (tl P nx).toArray) : YieldsIf Try.prog ops S op (.bool true) a :=
  .inl ⟨hw, fun w _ => by
    unfold execOp
    simp only [ho, hx, hy, Sem.run_bind, guard_table, eql_table, Result.andThen_ok, Sem.run_pure, show tEq P P nx nx = true by simp [tEq, sEq_iff]]⟩
theorem field_stl (a0 a1 a2 a3 a4 : Int) (a5 : Bool) (a6 : Int) (w : World) : (Instr.field 28 (.agg #[.int .i64 a0, .int .i64 a1, .int .i64 a2, .int .i64 a3, .int .i64 a4, .bool a5, .int .i32 a6]) 1).run Try.prog w = .ok (.int .i64 a1) w := by kernel_rfl
theorem field_par (a0 a1 a2 a3 a4 : Int) (a5 : Bool) (a6 : Int) (w : World) : (Instr.field 28 (.agg #[.int .i64 a0, .int .i64 a1, .int .i64 a2, .int .i64 a3, .int .i64 a4, .bool a5, .int .i32 a6]) 2).run Try.prog w = .ok (.int .i64 a2) w := by kernel_rfl
/-- A process in a box of the law's. -/
structure Bx (W : World) (z : Nat) (p : Pr) : Prop where
  c : ∀ j v, p.l[j]? = some v → W.cell? ⟨z, j, .none⟩ = some v
  f : ∀ j, j < 7 → W.frozen? ⟨z, j, .none⟩ = false
theorem Bx.lt {W : World} {z : Nat} {p : Pr} (h : Bx W z p) : z < W.heap.size := lt_cell (h.c 0 _ rfl)
theorem Bx.bel {W W' : World} {z : Nat} {p : Pr} (h : Bx W z p) (k : Below W.heap.size W W') : Bx W' z p := ⟨fun j v hj => (k.cell (p := ⟨z, j, .none⟩) h.lt).trans (h.c j v hj), fun j hj => (k.frozen (p := ⟨z, j, .none⟩) h.lt).trans (h.f j hj)⟩
theorem Bx.trn {W W' : World} {z b : Nat} {p : Pr} (h : Bx W z p) (k : Trn b W W') (hne : z ≠ b) : Bx W' z p := ⟨fun j v hj => (k.cell (p := ⟨z, j, .none⟩) h.lt hne).trans (h.c j v hj), fun j hj => (k.frozen (p := ⟨z, j, .none⟩) h.lt hne).trans (h.f j hj)⟩
theorem bx_new (w : World) (p : Pr) (t : TypeId) : Bx (w.alloc (.cells p.l.toArray t)) w.heap.size p := ⟨cells_new w p.l t, fun j hj => World.frozen?_alloc_new _ _ _ _⟩
theorem Bx.cells {W : World} {z : Nat} {p : Pr} (h : Bx W z p) : W.cell? ⟨z, 0, .none⟩ = some (.int .i64 p.pid) ∧ W.cell? ⟨z, 1, .none⟩ = some (.int .i64 p.st) ∧ W.cell? ⟨z, 2, .none⟩ = some (.int .i64 p.par) ∧ W.cell? ⟨z, 3, .none⟩ = some (.int .i64 p.ck) ∧ W.cell? ⟨z, 4, .none⟩ = some (.int .i64 p.cn) ∧ W.cell? ⟨z, 5, .none⟩ = some (.bool p.kil) ∧ W.cell? ⟨z, 6, .none⟩ = some (.int .i32 p.sta) :=
  ⟨h.c 0 _ rfl, h.c 1 _ rfl, h.c 2 _ rfl, h.c 3 _ rfl, h.c 4 _ rfl, h.c 5 _ rfl, h.c 6 _ rfl⟩
section
variable {w : World}
attribute [local go_sem] field_stl field_par
set_option maxHeartbeats 8000000 in
theorem ends_walk {q : Option Addr} {m c : Nat} {O : Nat → Opr} (h : ArgO w q m c O) (s t : Int) : Calls Try.prog 7 #[.slice q m c, .int .i64 s, .int .i32 t] w fun e w' => e = .returned (.bool true) ∧ Below w.heap.size w w' := by
  have hml : m ≤ 9223372036854775807 := by have := h.lc; have h2 : c ≤ 9223372036854775807 := this.2; omega
  have HA : Hid (ArgO w q m c O) := h
  have k1 := new_any w
  clear h
  go_enter Try.func7, Try.ntmps7
  go_wp2_with fail
  refine k1.mono ?_
  rintro e w1 ⟨rfl, hT, hB, hlt⟩
  obtain ⟨b, hb⟩ : ∃ b, b = w.heap.size := ⟨_, rfl⟩
  rw [← hb]
  have HO2 : Hid (Own w b w1) := ⟨⟨zS, 1, hb ▸ hT, inv_new⟩, hB⟩
  have hbb : w.heap.size ≤ b := by omega
  clear k1 hT hB hb hlt
  go_wp2
  go_loopw [8] (fun i wr => ∃ n : Nat, n ≤ m ∧ i = .int .i64 n ∧ Hid (Own w b wr)) (fun i _ => (m - intOf i).toNat)
  case atStart => exact ⟨0, by omega, rfl, HO2.out⟩
  case round =>
    clear HO2
    obtain ⟨n, hn, rfl, HR⟩ := hrel
    go_upto_region 5 with fail
    go_cut [31] (fun s wc => s = .bool (decide (n < m ∧ n < 400)) ∧ wc = wr)
    case first =>
      by_cases h1 : n < m
      · have g1 : (n : Int) < m := by omega
        by_cases h2 : n < 400
        · have g2 : (n : Int) < 400 := by omega
          have HE : Hid (decide (n < m ∧ n < 400) = true) := decide_eq_true ⟨h1, h2⟩
          go_wp2
          go_meet
          case rel => exact ⟨by rw [HE.out], rfl⟩
        · have g2 : ¬ (n : Int) < 400 := by omega
          have HE : Hid (decide (n < m ∧ n < 400) = false) := decide_eq_false (fun h => h2 h.2)
          go_wp2
          go_meet
          case rel => exact ⟨by rw [HE.out], rfl⟩
      · have g1 : ¬ (n : Int) < m := by omega
        have HE : Hid (decide (n < m ∧ n < 400) = false) := decide_eq_false (fun h => h1 h.1)
        go_wp2
        go_meet
        case rel => exact ⟨by rw [HE.out], rfl⟩
    case rest =>
      obtain ⟨rfl, hwc⟩ := hcut
      obtain rfl : wr = wc := hwc.symm
      by_cases hlt : n < m ∧ n < 400
      · rw [decide_eq_true hlt]
        obtain ⟨hlt, _⟩ := hlt
        have g0 : (n : Int) < m := by omega
        obtain ⟨ab, ao, rfl, c0, c1, c2, c3, c4⟩ := HA.out.cells HR.out.be n hlt
        obtain ⟨⟨P, nx, hT, hI⟩, hB⟩ := HR.out
        have kd := do_any hT hI (O n)
        rw [Opr.l] at kd
        clear hT hI
        go_wp2_with fail
        refine kd.mono ?_
        rintro e w3 hD
        have HO3 : Hid (Own w b w3) := HR.out.step hbb hD
        obtain ⟨rfl, _⟩ := hD
        clear kd c0 c1 c2 c3 c4 hB HR
        go_wp2
        exact ⟨⟨n + 1, by omega, rfl, HO3.out⟩, by simp only [intOf]; omega⟩
      · rw [decide_eq_false hlt]
        clear hlt hn HA
        obtain ⟨⟨P, nx, hT, hI⟩, hB⟩ := HR.out
        have k2 := state_any hT hI.n1
        have HI : Hid (Inv P nx) := hI
        have H1 : Hid (Tb wr b P nx ∧ Below w.heap.size w wr) := ⟨hT, hB⟩
        obtain ⟨T, hTT⟩ : ∃ T, T = (tl P nx).toArray := ⟨_, rfl⟩
        rw [← hTT] at k2
        have HTT : Hid (T = (tl P nx).toArray) := hTT
        clear hTT hT hB HR hI
        go_wp2_with fail
        refine k2.mono ?_
        rintro e w2 ⟨rfl, hb⟩
        have H2 : Hid (Tb w2 b P nx ∧ Below w.heap.size w w2) := ⟨H1.out.1.bel hb, H1.out.2.trans (hb.mono H1.out.2.size)⟩
        clear k2 hb H1
        rename_i K1 hK1
        refine hK1 _ _ ?_
        clear hK1 K1
        refine wpList_laid (P := P) (nx := nx) 9 41 _ _ rfl rfl rfl rfl rfl rfl rfl (congrArg Value.agg HTT.out) ?_
        intro w3 hT3 hb3
        obtain ⟨y, hy⟩ : ∃ y, y = w2.heap.size := ⟨_, rfl⟩
        rw [← hy] at hT3 ⊢
        have hyb : b < y := by rw [hy]; exact H2.out.1.lt
        have H3 : Hid (Tb w3 b P nx ∧ Below w.heap.size w w3 ∧ Tb w3 y P nx) := ⟨H2.out.1.bel hb3, H2.out.2.trans (hb3.mono H2.out.2.size), hT3⟩
        clear hT3 hb3 H2 hy
        simp only [Act.put, List.setIfInBounds_toArray, List.set_cons_zero, List.set_cons_succ]
        have k3 := look_any H3.out.1 HI.out.n1 s
        obtain ⟨pp, hpp⟩ : ∃ pp, pp = lkP P s := ⟨_, rfl⟩
        rw [← hpp, Pr.l] at k3
        have HPP : Hid (pp = lkP P s) := hpp
        clear hpp
        go_wp2_with fail
        refine k3.mono ?_
        rintro e w4 ⟨rfl, hb4⟩
        have H4 : Hid (Tb (w4.alloc (.cells pp.l.toArray 28)) b P nx ∧ Below w.heap.size w (w4.alloc (.cells pp.l.toArray 28)) ∧ Tb (w4.alloc (.cells pp.l.toArray 28)) y P nx ∧ Bx (w4.alloc (.cells pp.l.toArray 28)) w4.heap.size pp) := by
          obtain ⟨x1, x2, x3⟩ := H3.out
          have b5 := below1 w4 (.cells pp.l.toArray 28)
          have x2' : Below w.heap.size w w4 := x2.trans (hb4.mono x2.size)
          exact ⟨(x1.bel hb4).bel b5, x2'.trans (b5.mono x2'.size), (x3.bel hb4).bel b5, bx_new _ _ _⟩
        have hyz : y < w4.heap.size := (H3.out.2.2.bel hb4).lt
        clear k3 hb4 H3
        go_upto_region 10 with fail
        have eW : w4.alloc (.cells #[.int .i64 pp.pid, .int .i64 pp.st, .int .i64 pp.par, .int .i64 pp.ck, .int .i64 pp.cn, .bool pp.kil, .int .i32 pp.sta] 28) = w4.alloc (.cells pp.l.toArray 28) := rfl
        rw [eW]
        clear eW
        generalize w4.alloc (.cells pp.l.toArray 28) = w5 at *
        generalize w4.heap.size = z at *
        have k4 := end_any H4.out.1 HI.out.n1 s t
        go_wp2_with fail
        refine k4.mono ?_
        rintro e w6 ⟨rfl, hT6, hR6⟩
        have H6 : Hid (Tb w6 b (enP P s t) nx ∧ Below w.heap.size w w6 ∧ Tb w6 y P nx ∧ Bx w6 z pp) := ⟨hT6, H4.out.2.1.trans (hR6.toBelow hbb H4.out.2.1.size), hR6.tb H4.out.2.2.1 (by omega), H4.out.2.2.2.trn hR6 (by omega)⟩
        clear k4 hT6 hR6 H4
        obtain ⟨c0, c1, c2, c3, c4, c5, c6⟩ := H6.out.2.2.2.cells
        by_cases hp : isP P s
        · obtain ⟨n1, rfl, hn64, hst⟩ := isP_nat hp
          have hpp : pp = P n1 := by rw [HPP.out]; exact lkP_in HI.out n1 hn64
          subst hpp
          by_cases h3 : (P n1).st = 3
          · have e1 : enE P n1 = 265 := by rw [enE, if_pos hp, Int.toNat_natCast, if_pos h3]
            have e2 : enP P n1 t = P := by rw [enP, e1]; rfl
            have e3 : enZ P n1 t = false := by rw [enZ, e1]; rfl
            rw [e1, e3]
            rw [e2] at H6
            rw [h3] at c1
            have HQ : Hid (Tb w6 b P nx ∧ Tb w6 y P nx ∧ Below w.heap.size w w6) := ⟨H6.out.1, H6.out.2.2.1, H6.out.2.1⟩
            clear e1 e2 e3 H6 h3 hp hst
            go_upto_region 15 with fail
            refine wp_region_held_drew (S := (fun W => Tb W b P nx ∧ Tb W y P nx ∧ Below w.heap.size w W)) (by kernel_rfl) ⟨HQ.out.1.keep rfl, HQ.out.2.1.keep rfl, below_drew HQ.out.2.2⟩ (fun hHeld => ?_)
            refine wpAnyH_take (i := 0) (v := (.int .i64 265)) rfl (by kernel_rfl) (by kernel_rfl) (by kernel_rfl) (fun _ _ _ h => h) (Or.inl ⟨by rfl, fun ww hSw => by (try dsimp only at hSw); go_simp⟩) (by assumption) ?_
            simp only [Act.put, List.setIfInBounds_toArray, List.set_cons_zero, List.set_cons_succ, List.getElem_toArray, List.getElem_cons_succ, List.getElem_cons_zero]
            refine wpAnyH_take (i := 1) (v := (.int .i64 265)) rfl (by kernel_rfl) (by kernel_rfl) (by kernel_rfl) (fun _ _ _ h => h) (Or.inl ⟨by rfl, fun ww hSw => by (try dsimp only at hSw); go_simp⟩) (by assumption) ?_
            simp only [Act.put, List.setIfInBounds_toArray, List.set_cons_zero, List.set_cons_succ, List.getElem_toArray, List.getElem_cons_succ, List.getElem_cons_zero]
            refine wpAnyH_take (i := 2) (v := (.bool true)) rfl (by kernel_rfl) (by kernel_rfl) (by kernel_rfl) (fun _ _ _ h => h) (Or.inl ⟨by rfl, fun ww hSw => by (try dsimp only at hSw); go_simp⟩) (by assumption) ?_
            simp only [Act.put, List.setIfInBounds_toArray, List.set_cons_zero, List.set_cons_succ, List.getElem_toArray, List.getElem_cons_succ, List.getElem_cons_zero]
            refine wpAnyH_take (i := 3) (v := (.bool true)) rfl (by kernel_rfl) (by kernel_rfl) (by kernel_rfl) (fun _ _ _ h => h) (Or.inl ⟨by rfl, fun ww hSw => by (try dsimp only at hSw); go_simp⟩) (by assumption) ?_
            simp only [Act.put, List.setIfInBounds_toArray, List.set_cons_zero, List.set_cons_succ, List.getElem_toArray, List.getElem_cons_succ, List.getElem_cons_zero]
            refine wpAnyH_take (i := 4) (v := (.bool false)) rfl (by kernel_rfl) (by kernel_rfl) (by kernel_rfl) (fun _ _ _ h => h) (Or.inl ⟨by rfl, fun ww hSw => by (try dsimp only at hSw); go_simp⟩) (by assumption) ?_
            simp only [Act.put, List.setIfInBounds_toArray, List.set_cons_zero, List.set_cons_succ, List.getElem_toArray, List.getElem_cons_succ, List.getElem_cons_zero]
            refine wpAnyH_take (i := 5) (v := (.bool true)) rfl (by kernel_rfl) (by kernel_rfl) (by kernel_rfl) (fun _ _ _ h => h) (Or.inl ⟨by rfl, fun ww hSw => by (try dsimp only at hSw); go_simp⟩) (by assumption) ?_
            simp only [Act.put, List.setIfInBounds_toArray, List.set_cons_zero, List.set_cons_succ, List.getElem_toArray, List.getElem_cons_succ, List.getElem_cons_zero]
            refine wpAnyH_take (i := 6) (v := (.bool true)) rfl (by kernel_rfl) (by kernel_rfl) (by kernel_rfl) (fun _ _ _ h => h) (Or.inl ⟨by rfl, fun ww hSw => by (try dsimp only at hSw); go_simp⟩) (by assumption) ?_
            simp only [Act.put, List.setIfInBounds_toArray, List.set_cons_zero, List.set_cons_succ, List.getElem_toArray, List.getElem_cons_succ, List.getElem_cons_zero]
            refine wpAnyH_take (i := 7) (v := (.bool true)) rfl (by kernel_rfl) (by kernel_rfl) (by kernel_rfl) (fun _ _ _ h => h) (Or.inl ⟨by rfl, fun ww hSw => by (try dsimp only at hSw); go_simp⟩) (by assumption) ?_
            simp only [Act.put, List.setIfInBounds_toArray, List.set_cons_zero, List.set_cons_succ, List.getElem_toArray, List.getElem_cons_succ, List.getElem_cons_zero]
            refine wpAnyH_take (i := 8) (v := (.pointer (some ⟨b, 0, .none⟩))) rfl (by kernel_rfl) (by kernel_rfl) (by kernel_rfl) (fun _ _ _ h => h) (Or.inl ⟨by rfl, fun ww hSw => by (try dsimp only at hSw); go_simp⟩) (by assumption) ?_
            simp only [Act.put, List.setIfInBounds_toArray, List.set_cons_zero, List.set_cons_succ, List.getElem_toArray, List.getElem_cons_succ, List.getElem_cons_zero]
            refine wpAnyH_take (i := 10) (v := (.agg (tl P nx).toArray)) rfl (by kernel_rfl) (by kernel_rfl) (by kernel_rfl) (fun _ _ _ h => h) (yieldsIf_load_mid (by rfl) 31 (.tmp 9) rfl y 0 rfl (tl P nx) _ (fun W hW => hW.2.1.rg) Try.underlying31 rfl (by rw [tl_len]; exact info_tab)) (by assumption) ?_
            simp only [Act.put, List.setIfInBounds_toArray, List.set_cons_zero, List.set_cons_succ, List.getElem_toArray, List.getElem_cons_succ, List.getElem_cons_zero]
            refine wpAnyH_ready (rs := [9]) (by kernel_rfl) (by simp) ?_
            refine AllReadyH.cons rfl (fun K hK => ?_) AllReadyH.nil
            have ks := state_any hHeld.1 HI.out.n1
            rw [← HTT.out] at ks
            go_simp
            refine ks.mono ?_
            rintro e w8 ⟨rfl, hb8⟩
            have kS : Tb w8 b P nx ∧ Tb w8 y P nx ∧ Below w.heap.size w w8 := ⟨hHeld.1.bel hb8, hHeld.2.1.bel hb8, hHeld.2.2.trans (hb8.mono hHeld.2.2.size)⟩
            clear ks hb8
            refine hK.out _ _ kS (fun hHeld => ?_)
            clear hK K
            try simp only [Act.put, List.setIfInBounds_toArray, List.set_cons_zero, List.set_cons_succ, List.getElem_toArray, List.getElem_cons_succ, List.getElem_cons_zero]
            refine wpAnyH_take (i := 11) (v := (.bool true)) rfl (by kernel_rfl) (by kernel_rfl) (by kernel_rfl) (fun _ _ _ h => h) (yieldsIf_eqlT (by rfl) _ (.tmp 72) (.tmp 73) rfl P nx (congrArg Value.agg HTT.out) rfl) (by assumption) ?_
            simp only [Act.put, List.setIfInBounds_toArray, List.set_cons_zero, List.set_cons_succ, List.getElem_toArray, List.getElem_cons_succ, List.getElem_cons_zero]
            refine wpAnyH_take (i := 12) (v := (.bool true)) rfl (by kernel_rfl) (by kernel_rfl) (by kernel_rfl) (fun _ _ _ h => h) (Or.inl ⟨by rfl, fun ww hSw => by (try dsimp only at hSw); go_simp⟩) (by assumption) ?_
            simp only [Act.put, List.setIfInBounds_toArray, List.set_cons_zero, List.set_cons_succ, List.getElem_toArray, List.getElem_cons_succ, List.getElem_cons_zero]
            refine wpAnyH_ready (rs := [13]) (by kernel_rfl) (by simp) ?_
            refine AllReadyH.cons rfl (fun K hK => ?_) AllReadyH.nil
            go_simp
            refine hK.out _ _ hHeld (fun hHeld => ?_)
            clear hK K
            try simp only [Act.put, List.setIfInBounds_toArray, List.set_cons_zero, List.set_cons_succ, List.getElem_toArray, List.getElem_cons_succ, List.getElem_cons_zero]
            refine wpAnyH_done (by kernel_rfl) ?_ _
            go_wp2
            go_ret
            exact ⟨rfl, hHeld.2.2⟩
          · have HE : Hid (enE P n1 = 0) := by rw [Hid, enE, if_pos hp, Int.toNat_natCast, if_neg h3]
            rw [HE.out]
            have g0 : ((P n1).st == 0) = false := by simpa using hst
            have g3 : ((P n1).st == 3) = false := by simpa using h3
            have HST : Hid ((P n1).st ≠ 0) := hst
            have HIE : Hid (Inv (enP P n1 t) nx) := HI.out.ends _ _
            have kq := look_any H6.out.1 HI.out.n1 (n1 : Int)
            rw [lkP_in HIE.out n1 hn64, enP_n HE.out, Pr.l] at kq
            dsimp only at kq
            clear hst h3 hp
            go_wp2_with fail
            refine kq.mono ?_
            rintro e w7 ⟨rfl, hb7⟩
            have H7 : Hid (Tb w7 b (enP P n1 t) nx ∧ Below w.heap.size w w7 ∧ Tb w7 y P nx ∧ Bx w7 z (P n1)) := ⟨H6.out.1.bel hb7, H6.out.2.1.trans (hb7.mono H6.out.2.1.size), H6.out.2.2.1.bel hb7, H6.out.2.2.2.bel hb7⟩
            clear kq hb7 H6 c0 c1 c2 c3 c4 c5 c6
            go_upto_region 17 with fail
            have H8 : Hid (Tb (w7.alloc (.cells #[.int .i64 (P n1).pid, .int .i64 3, .int .i64 (P n1).par, .int .i64 0, .int .i64 0, .bool (P n1).kil, .int .i32 t] 28)) b (enP P n1 t) nx ∧ Below w.heap.size w (w7.alloc (.cells #[.int .i64 (P n1).pid, .int .i64 3, .int .i64 (P n1).par, .int .i64 0, .int .i64 0, .bool (P n1).kil, .int .i32 t] 28)) ∧ Tb (w7.alloc (.cells #[.int .i64 (P n1).pid, .int .i64 3, .int .i64 (P n1).par, .int .i64 0, .int .i64 0, .bool (P n1).kil, .int .i32 t] 28)) y P nx ∧ Bx (w7.alloc (.cells #[.int .i64 (P n1).pid, .int .i64 3, .int .i64 (P n1).par, .int .i64 0, .int .i64 0, .bool (P n1).kil, .int .i32 t] 28)) z (P n1) ∧ Bx (w7.alloc (.cells #[.int .i64 (P n1).pid, .int .i64 3, .int .i64 (P n1).par, .int .i64 0, .int .i64 0, .bool (P n1).kil, .int .i32 t] 28)) w7.heap.size ⟨(P n1).pid, 3, (P n1).par, 0, 0, (P n1).kil, t⟩) := by
              obtain ⟨x1, x2, x3, x4⟩ := H7.out
              have b5 := below1 w7 (.cells (Pr.l ⟨(P n1).pid, 3, (P n1).par, 0, 0, (P n1).kil, t⟩).toArray 28)
              exact ⟨x1.bel b5, x2.trans (b5.mono x2.size), x3.bel b5, x4.bel b5, bx_new w7 ⟨(P n1).pid, 3, (P n1).par, 0, 0, (P n1).kil, t⟩ _⟩
            generalize (w7.alloc (.cells #[.int .i64 (P n1).pid, .int .i64 3, .int .i64 (P n1).par, .int .i64 0, .int .i64 0, .bool (P n1).kil, .int .i32 t] 28)) = w8 at *
            generalize w7.heap.size = v at *
            clear H7
            obtain ⟨c0, c1, c2, c3, c4, c5, c6⟩ := H8.out.2.2.2.1.cells
            obtain ⟨d0, d1, d2, d3, d4, d5, d6⟩ := H8.out.2.2.2.2.cells
            have HFZ : Hid (fz P n1 t 64 = enZ P n1 t) := fz_all HE.out
            rw [← HFZ.out]
            have HF1 : Hid (fz P n1 t 1 = false) := fz_one HI.out HST.out hn64
            have H9 : Hid (Tb w8 b (enP P n1 t) nx ∧ Below w.heap.size w w8 ∧ Tb w8 y P nx ∧ Bx w8 z (P n1)) := ⟨H8.out.1, H8.out.2.1, H8.out.2.2.1, H8.out.2.2.2.1⟩
            clear H8
            go_wp2
            clear c0 c1 c2 c3 c4 c5 c6 d0 d1 d2 d3 d4 d5 d6
            go_loopw [15, 16] (fun f i wr => ∃ j : Nat, 1 ≤ j ∧ j ≤ 64 ∧ i = .int .i64 j ∧ f = .bool (fz P n1 t j) ∧ Hid (Tb wr b (enP P n1 t) nx ∧ Below w.heap.size w wr ∧ Tb wr y P nx ∧ Bx wr z (P n1))) (fun _ i _ => (64 - intOf i).toNat)
            case atStart => exact ⟨1, by omega, by omega, rfl, by rw [HF1.out], H9.out⟩
            case round =>
              clear H9
              obtain ⟨j, hj1, hj, rfl, rfl, HV⟩ := hrel
              by_cases hl : j < 64
              · have gj : (j : Int) < 64 := by omega
                obtain ⟨c0, c1, c2, c3, c4, c5, c6⟩ := HV.out.2.2.1.cells j hl
                go_upto_region 24 with fail
                have HX : Hid (Tb (wr.alloc (.cells (P j).l.toArray 28)) b (enP P n1 t) nx ∧ Below w.heap.size w (wr.alloc (.cells (P j).l.toArray 28)) ∧ Tb (wr.alloc (.cells (P j).l.toArray 28)) y P nx ∧ Bx (wr.alloc (.cells (P j).l.toArray 28)) z (P n1) ∧ Bx (wr.alloc (.cells (P j).l.toArray 28)) wr.heap.size (P j)) := by
                  obtain ⟨x1, x2, x3, x4⟩ := HV.out
                  have b5 := below1 wr (.cells (P j).l.toArray 28)
                  exact ⟨x1.bel b5, x2.trans (b5.mono x2.size), x3.bel b5, x4.bel b5, bx_new _ _ _⟩
                have hwu : w.heap.size ≤ wr.heap.size := HV.out.2.1.size
                have hbu : b < wr.heap.size := HV.out.1.lt
                have hyu : y < wr.heap.size := HV.out.2.2.1.lt
                have hzu : z < wr.heap.size := HV.out.2.2.2.lt
                have eW : wr.alloc (.cells #[.int .i64 (P j).pid, .int .i64 (P j).st, .int .i64 (P j).par, .int .i64 (P j).ck, .int .i64 (P j).cn, .bool (P j).kil, .int .i32 (P j).sta] 28) = wr.alloc (.cells (P j).l.toArray 28) := rfl
                rw [eW]
                clear eW c0 c1 c2 c3 c4 c5 c6 HV
                generalize wr.alloc (.cells (P j).l.toArray 28) = w9 at *
                generalize wr.heap.size = u at *
                have kl := look_any HX.out.1 HI.out.n1 (j : Int)
                rw [lkP_in HIE.out j hl] at kl
                obtain ⟨qj, hqj⟩ : ∃ qj, qj = enP P n1 t j := ⟨_, rfl⟩
                rw [← hqj, Pr.l] at kl
                have HQJ : Hid (qj = enP P n1 t j) := hqj
                clear hqj
                go_wp2_with fail
                refine kl.mono ?_
                rintro e w10 ⟨rfl, hb⟩
                have HY : Hid (Tb (w10.alloc (.cells qj.l.toArray 28)) b (enP P n1 t) nx ∧ Below w.heap.size w (w10.alloc (.cells qj.l.toArray 28)) ∧ Tb (w10.alloc (.cells qj.l.toArray 28)) y P nx ∧ Bx (w10.alloc (.cells qj.l.toArray 28)) z (P n1) ∧ Bx (w10.alloc (.cells qj.l.toArray 28)) u (P j) ∧ Bx (w10.alloc (.cells qj.l.toArray 28)) w10.heap.size qj) := by
                  obtain ⟨⟨x1, x2, x3, x4⟩, x5⟩ : (Tb w9 b (enP P n1 t) nx ∧ Below w.heap.size w w9 ∧ Tb w9 y P nx ∧ Bx w9 z (P n1)) ∧ Bx w9 u (P j) := ⟨⟨HX.out.1, HX.out.2.1, HX.out.2.2.1, HX.out.2.2.2.1⟩, HX.out.2.2.2.2⟩
                  have b5 := below1 w10 (.cells qj.l.toArray 28)
                  have x2' : Below w.heap.size w w10 := x2.trans (hb.mono x2.size)
                  exact ⟨(x1.bel hb).bel b5, x2'.trans (b5.mono x2'.size), (x3.bel hb).bel b5, (x4.bel hb).bel b5, (x5.bel hb).bel b5, bx_new _ _ _⟩
                have hur : u < w10.heap.size := (HX.out.2.2.2.2.bel hb).lt
                clear kl hb HX
                go_upto_region 25 with fail
                have eW : w10.alloc (.cells #[.int .i64 qj.pid, .int .i64 qj.st, .int .i64 qj.par, .int .i64 qj.ck, .int .i64 qj.cn, .bool qj.kil, .int .i32 qj.sta] 28) = w10.alloc (.cells qj.l.toArray 28) := rfl
                rw [eW]
                clear eW
                generalize w10.alloc (.cells qj.l.toArray 28) = w11 at *
                generalize w10.heap.size = r at *
                obtain ⟨c0, c1, c2, c3, c4, c5, c6⟩ := HY.out.2.2.2.2.1.cells
                obtain ⟨d0, d1, d2, d3, d4, d5, d6⟩ := HY.out.2.2.2.2.2.cells
                have f2 := HY.out.2.2.2.2.1.f 2 (by omega)
                have HYY : Hid (Tb w11 b (enP P n1 t) nx ∧ Below w.heap.size w w11 ∧ Tb w11 y P nx ∧ Bx w11 z (P n1)) := ⟨HY.out.1, HY.out.2.1, HY.out.2.2.1, HY.out.2.2.2.1⟩
                have hru : r ≠ u := by omega
                have hru2 : u ≠ r := by omega
                clear HY
                by_cases hjn : j = n1
                · have HS : Hid (fz P n1 t (j + 1) = fz P n1 t j) := fz_skip j (.inl hjn)
                  have g1 : ((j : Int) == (n1 : Int)) = true := by simp [hjn]
                  clear hjn
                  go_wp2
                  exact ⟨⟨j + 1, by omega, by omega, rfl, by rw [HS.out], HYY.out⟩, by simp only [intOf]; omega⟩
                have g1 : ((j : Int) == (n1 : Int)) = false := by simp; omega
                have g2 : ¬ ((j : Int) = (n1 : Int)) := by omega
                by_cases hj0 : (P j).st = 0
                · have HS : Hid (fz P n1 t (j + 1) = fz P n1 t j) := fz_skip j (.inr (.inl hj0))
                  rw [hj0] at c1
                  clear hjn hj0
                  go_wp2
                  exact ⟨⟨j + 1, by omega, by omega, rfl, by rw [HS.out], HYY.out⟩, by simp only [intOf]; omega⟩
                have g3 : ((P j).st == 0) = false := by simpa using hj0
                have hq := HQJ.out
                rw [enP_o HE.out j hjn] at hq
                by_cases hpar : n1 ≠ 0 ∧ (P j).par = n1
                · rw [if_pos ⟨hpar.1, hj0, hpar.2⟩] at hq
                  have HS : Hid (fz P n1 t (j + 1) = (fz P n1 t j || (P j).st == 3)) := fz_step j hjn hj0 hpar.1 hpar.2
                  subst hq
                  dsimp only at d0 d1 d2 d3 d4 d5 d6
                  have g4 : ((n1 : Int) == 0) = false := by simp; omega
                  have g5 : ¬ ((n1 : Int) = 0) := by omega
                  rw [hpar.2] at c2
                  have hneq := eqp (rfl : ({ P j with par := 0 } : Pr) = { P j with par := 0 })
                  rw [Pr.l] at hneq
                  dsimp only at hneq
                  have HF : Hid (∀ W, Trn u w11 W → Tb W b (enP P n1 t) nx ∧ Below w.heap.size w W ∧ Tb W y P nx ∧ Bx W z (P n1)) := fun W tt => by
                    obtain ⟨x1, x2, x3, x4⟩ := HYY.out
                    exact ⟨tt.tb x1 (by omega), x2.trans (tt.toBelow hwu x2.size), tt.tb x3 (by omega), x4.trn tt (by omega)⟩
                  clear hjn hj0 hpar HQJ
                  generalize P j = pj at *
                  cases hfz : fz P n1 t j
                  · rw [hfz] at HS
                    go_wp2
                    exact ⟨⟨j + 1, by omega, by omega, rfl, by rw [HS.out]; simp, HF.out _ (Trn.setCell _ _ _ _)⟩, by simp only [intOf]; omega⟩
                  · rw [hfz] at HS
                    go_wp2
                    exact ⟨⟨j + 1, by omega, by omega, rfl, by rw [HS.out]; simp, HF.out _ (Trn.setCell _ _ _ _)⟩, by simp only [intOf]; omega⟩
                · rw [if_neg (fun x => hpar ⟨x.1, x.2.2⟩)] at hq
                  have HS : Hid (fz P n1 t (j + 1) = fz P n1 t j) := fz_skip j (by
                    by_cases x : n1 = 0
                    · exact .inr (.inr (.inl x))
                    · exact .inr (.inr (.inr (fun y => hpar ⟨x, y⟩))))
                  subst hq
                  have hneq := eqp (rfl : P j = P j)
                  rw [Pr.l] at hneq
                  by_cases x : n1 = 0
                  · have g4 : ((n1 : Int) == 0) = true := by simpa using x
                    have g5 : ((n1 : Int) != 0) = false := by simpa using x
                    clear hjn hj0 hpar HQJ x
                    generalize P j = pj at *
                    go_wp2
                    exact ⟨⟨j + 1, by omega, by omega, rfl, by rw [HS.out], HYY.out⟩, by simp only [intOf]; omega⟩
                  · have g4 : ((n1 : Int) == 0) = false := by simpa using x
                    have g5 : ¬ ((n1 : Int) = 0) := by omega
                    have g6 : ((P j).par == (n1 : Int)) = false := by
                      have : (P j).par ≠ n1 := fun y => hpar ⟨x, y⟩
                      simpa using this
                    clear hjn hj0 hpar HQJ x
                    generalize P j = pj at *
                    go_wp2
                    exact ⟨⟨j + 1, by omega, by omega, rfl, by rw [HS.out], HYY.out⟩, by simp only [intOf]; omega⟩
              · obtain rfl : j = 64 := by omega
                clear hl hj hj1
                by_cases x : n1 = 0
                · subst x
                  have kf := free_any HV.out.1 HI.out.n1 ((0 : Nat) : Int)
                  rw [show frR (enP P ((0 : Nat) : Int) t) ((0 : Nat) : Int) = 260 by rw [frR, if_neg (fun x => x.2 rfl)]] at kf
                  have HB : Hid (Below w.heap.size w wr) := HV.out.2.1
                  clear HV
                  go_wp2_with fail
                  refine kf.mono ?_
                  rintro e w9 ⟨rfl, _, hR⟩
                  have HB2 : Hid (Below w.heap.size w w9) := HB.out.trans (hR.toBelow hbb HB.out.size)
                  clear kf hR
                  go_wp2
                  go_ret
                  exact ⟨rfl, HB2.out⟩
                · have g4 : ((n1 : Int) == 0) = false := by simpa using x
                  have g5 : ¬ ((n1 : Int) = 0) := by omega
                  obtain ⟨j0, hj0, p1, p2, p3, p4⟩ := HI.out.pa n1 hn64 x HST.out
                  have hne : j0 ≠ n1 := fun q => by subst q; omega
                  have q3 : (enP P n1 t n1).st = 3 := by rw [enP_n HE.out]
                  have qp : (enP P n1 t n1).par = (P n1).par := by rw [enP_n HE.out]
                  obtain ⟨za, zz, zs, z1, z2, z3, z4⟩ := zo_found (Q := enP P n1 t) (par := (P n1).par) hn64 (chd_iff.2 ⟨by rw [q3]; decide, qp, by rw [p1]; omega⟩) q3 (by
                    cases q : chd (P n1).par 0 (enP P n1 t 0)
                    · rfl
                    · have q1 := chd_iff.1 q
                      have q2 := (HIE.out.r0 q1.1).1
                      have := q1.2.1
                      have := q1.2.2
                      omega)
                  have kz := zombie_any HV.out.1 HI.out.n1 (P n1).par
                  rw [zs, za] at kz
                  obtain ⟨c0, c1, c2, c3, c4, c5, c6⟩ := HV.out.2.2.2.cells
                  have HW : Hid (Tb wr b (enP P n1 t) nx ∧ Below w.heap.size w wr ∧ Bx wr z (P n1)) := ⟨HV.out.1, HV.out.2.1, HV.out.2.2.2⟩
                  have HZ : Hid (1 ≤ zz ∧ zz ≤ n1 ∧ (enP P n1 t zz).st = 3 ∧ (enP P n1 t zz).par = (P n1).par) := ⟨z1, z2, z3, z4⟩
                  have hz1 : 1 ≤ zz := z1
                  have hz2 : zz ≤ n1 := z2
                  have hN0 : Hid (n1 ≠ 0) := x
                  clear HV p1 p2 p3 p4 hne q3 qp za zs z1 z2 z3 z4 hj0 x
                  go_wp2_with fail
                  refine kz.mono ?_
                  rintro e w9 ⟨rfl, hb⟩
                  have H9 : Hid (Tb w9 b (enP P n1 t) nx ∧ Below w.heap.size w w9 ∧ Bx w9 z (P n1)) := ⟨HW.out.1.bel hb, HW.out.2.1.trans (hb.mono HW.out.2.1.size), HW.out.2.2.bel hb⟩
                  clear kz hb HW c0 c1 c2 c3 c4 c5 c6
                  go_upto_region 36 with fail
                  have gz : (zz : Int) < 64 := by omega
                  have hzb : ¬ ((zz : Int) < 1) := by omega
                  have hzn : ¬ ((n1 : Int) < (zz : Int)) := by omega
                  have eqq : Hid (enP P n1 t zz = lkP (enP P n1 t) (zz : Int)) := (lkP_in HIE.out zz (by omega)).symm
                  obtain ⟨qz, hqz⟩ : ∃ qz, qz = enP P n1 t zz := ⟨_, rfl⟩
                  have HQZ : Hid (qz = enP P n1 t zz ∧ qz.st = 3 ∧ qz.par = (P n1).par) := ⟨hqz, by rw [hqz]; exact HZ.out.2.2.1, by rw [hqz]; exact HZ.out.2.2.2⟩
                  have KL : Hid (∀ W, Tb W b (enP P n1 t) nx → Calls Try.prog 15 #[.pointer (some ⟨b, 0, .none⟩), .int .i64 (zz : Int)] W fun e w' => e = .returned (.agg #[.int .i64 qz.pid, .int .i64 3, .int .i64 (P n1).par, .int .i64 qz.ck, .int .i64 qz.cn, .bool qz.kil, .int .i32 qz.sta]) ∧ Below W.heap.size W w') := fun W hW => by
                    have := look_any hW HI.out.n1 (zz : Int)
                    rw [← eqq.out, ← HQZ.out.1, Pr.l, HQZ.out.2.1, HQZ.out.2.2] at this
                    exact this
                  clear hqz
                  refine wp_region_held_drew (S := (fun W => Tb W b (enP P n1 t) nx ∧ Bx W z (P n1) ∧ Below w.heap.size w W)) (by kernel_rfl) ⟨H9.out.1.keep rfl, ⟨H9.out.2.2.c, H9.out.2.2.f⟩, below_drew H9.out.2.1⟩ (fun hHeld => ?_)
                  refine wpAnyH_take (i := 0) (v := (.bool true)) rfl (by kernel_rfl) (by kernel_rfl) (by kernel_rfl) (fun _ _ _ h => h) (Or.inl ⟨by rfl, fun ww hSw => by (try dsimp only at hSw); go_simp⟩) (by assumption) ?_
                  simp only [Act.put, List.setIfInBounds_toArray, List.set_cons_zero, List.set_cons_succ, List.getElem_toArray, List.getElem_cons_succ, List.getElem_cons_zero]
                  refine wpAnyH_take (i := 1) (v := (.bool false)) rfl (by kernel_rfl) (by kernel_rfl) (by kernel_rfl) (fun _ _ _ h => h) (Or.inl ⟨by rfl, fun ww hSw => by (try dsimp only at hSw); go_simp⟩) (by assumption) ?_
                  simp only [Act.put, List.setIfInBounds_toArray, List.set_cons_zero, List.set_cons_succ, List.getElem_toArray, List.getElem_cons_succ, List.getElem_cons_zero]
                  refine wpAnyH_take (i := 2) (v := (.bool false)) rfl (by kernel_rfl) (by kernel_rfl) (by kernel_rfl) (fun _ _ _ h => h) (Or.inl ⟨by rfl, fun ww hSw => by (try dsimp only at hSw); go_simp⟩) (by assumption) ?_
                  simp only [Act.put, List.setIfInBounds_toArray, List.set_cons_zero, List.set_cons_succ, List.getElem_toArray, List.getElem_cons_succ, List.getElem_cons_zero]
                  refine wpAnyH_take (i := 3) (v := (.int .i64 (zz : Int))) rfl (by kernel_rfl) (by kernel_rfl) (by kernel_rfl) (fun _ _ _ h => h) (Or.inl ⟨by rfl, fun ww hSw => by (try dsimp only at hSw); go_simp⟩) (by assumption) ?_
                  simp only [Act.put, List.setIfInBounds_toArray, List.set_cons_zero, List.set_cons_succ, List.getElem_toArray, List.getElem_cons_succ, List.getElem_cons_zero]
                  refine wpAnyH_take (i := 4) (v := (.bool false)) rfl (by kernel_rfl) (by kernel_rfl) (by kernel_rfl) (fun _ _ _ h => h) (Or.inl ⟨by rfl, fun ww hSw => by (try dsimp only at hSw); go_simp⟩) (by assumption) ?_
                  simp only [Act.put, List.setIfInBounds_toArray, List.set_cons_zero, List.set_cons_succ, List.getElem_toArray, List.getElem_cons_succ, List.getElem_cons_zero]
                  refine wpAnyH_take (i := 5) (v := (.bool false)) rfl (by kernel_rfl) (by kernel_rfl) (by kernel_rfl) (fun _ _ _ h => h) (Or.inl ⟨by rfl, fun ww hSw => by (try dsimp only at hSw); go_simp⟩) (by assumption) ?_
                  simp only [Act.put, List.setIfInBounds_toArray, List.set_cons_zero, List.set_cons_succ, List.getElem_toArray, List.getElem_cons_succ, List.getElem_cons_zero]
                  refine wpAnyH_take (i := 6) (v := (.bool false)) rfl (by kernel_rfl) (by kernel_rfl) (by kernel_rfl) (fun _ _ _ h => h) (Or.inl ⟨by rfl, fun ww hSw => by (try dsimp only at hSw); go_simp⟩) (by assumption) ?_
                  simp only [Act.put, List.setIfInBounds_toArray, List.set_cons_zero, List.set_cons_succ, List.getElem_toArray, List.getElem_cons_succ, List.getElem_cons_zero]
                  refine wpAnyH_take (i := 7) (v := (.int .i64 (zz : Int))) rfl (by kernel_rfl) (by kernel_rfl) (by kernel_rfl) (fun _ _ _ h => h) (Or.inl ⟨by rfl, fun ww hSw => by (try dsimp only at hSw); go_simp⟩) (by assumption) ?_
                  simp only [Act.put, List.setIfInBounds_toArray, List.set_cons_zero, List.set_cons_succ, List.getElem_toArray, List.getElem_cons_succ, List.getElem_cons_zero]
                  refine wpAnyH_take (i := 8) (v := (.int .i64 (n1 : Int))) rfl (by kernel_rfl) (by kernel_rfl) (by kernel_rfl) (fun _ _ _ h => h) (Or.inl ⟨by rfl, fun ww hSw => by (try dsimp only at hSw); go_simp⟩) (by assumption) ?_
                  simp only [Act.put, List.setIfInBounds_toArray, List.set_cons_zero, List.set_cons_succ, List.getElem_toArray, List.getElem_cons_succ, List.getElem_cons_zero]
                  refine wpAnyH_take (i := 9) (v := (.bool false)) rfl (by kernel_rfl) (by kernel_rfl) (by kernel_rfl) (fun _ _ _ h => h) (Or.inl ⟨by rfl, fun ww hSw => by (try dsimp only at hSw); go_simp⟩) (by assumption) ?_
                  simp only [Act.put, List.setIfInBounds_toArray, List.set_cons_zero, List.set_cons_succ, List.getElem_toArray, List.getElem_cons_succ, List.getElem_cons_zero]
                  refine wpAnyH_take (i := 10) (v := (.bool false)) rfl (by kernel_rfl) (by kernel_rfl) (by kernel_rfl) (fun _ _ _ h => h) (Or.inl ⟨by rfl, fun ww hSw => by (try dsimp only at hSw); go_simp⟩) (by assumption) ?_
                  simp only [Act.put, List.setIfInBounds_toArray, List.set_cons_zero, List.set_cons_succ, List.getElem_toArray, List.getElem_cons_succ, List.getElem_cons_zero]
                  refine wpAnyH_take (i := 11) (v := (.bool false)) rfl (by kernel_rfl) (by kernel_rfl) (by kernel_rfl) (fun _ _ _ h => h) (Or.inl ⟨by rfl, fun ww hSw => by (try dsimp only at hSw); go_simp⟩) (by assumption) ?_
                  simp only [Act.put, List.setIfInBounds_toArray, List.set_cons_zero, List.set_cons_succ, List.getElem_toArray, List.getElem_cons_succ, List.getElem_cons_zero]
                  refine wpAnyH_take (i := 12) (v := (.pointer (some ⟨b, 0, .none⟩))) rfl (by kernel_rfl) (by kernel_rfl) (by kernel_rfl) (fun _ _ _ h => h) (Or.inl ⟨by rfl, fun ww hSw => by (try dsimp only at hSw); go_simp⟩) (by assumption) ?_
                  simp only [Act.put, List.setIfInBounds_toArray, List.set_cons_zero, List.set_cons_succ, List.getElem_toArray, List.getElem_cons_succ, List.getElem_cons_zero]
                  refine wpAnyH_take (i := 13) (v := (.int .i64 (zz : Int))) rfl (by kernel_rfl) (by kernel_rfl) (by kernel_rfl) (fun _ _ _ h => h) (Or.inl ⟨by rfl, fun ww hSw => by (try dsimp only at hSw); go_simp⟩) (by assumption) ?_
                  simp only [Act.put, List.setIfInBounds_toArray, List.set_cons_zero, List.set_cons_succ, List.getElem_toArray, List.getElem_cons_succ, List.getElem_cons_zero]
                  refine wpAnyH_ready (rs := [14]) (by kernel_rfl) (by simp) ?_
                  refine AllReadyH.cons rfl (fun K hK => ?_) AllReadyH.nil
                  have kk := KL.out _ hHeld.1
                  go_simp
                  refine kk.mono ?_
                  rintro e w20 ⟨rfl, hbk⟩
                  have kS : Tb w20 b (enP P n1 t) nx ∧ Bx w20 z (P n1) ∧ Below w.heap.size w w20 := ⟨hHeld.1.bel hbk, hHeld.2.1.bel hbk, hHeld.2.2.trans (hbk.mono hHeld.2.2.size)⟩
                  clear kk hbk
                  refine hK.out _ _ kS (fun hHeld => ?_)
                  clear hK K
                  try simp only [Act.put, List.setIfInBounds_toArray, List.set_cons_zero, List.set_cons_succ, List.getElem_toArray, List.getElem_cons_succ, List.getElem_cons_zero]
                  refine wpAnyH_take (i := 15) (v := (.int .i64 3)) rfl (by kernel_rfl) (by kernel_rfl) (by kernel_rfl) (fun _ _ _ h => h) (Or.inl ⟨by rfl, fun ww hSw => by (try dsimp only at hSw); go_simp⟩) (by assumption) ?_
                  simp only [Act.put, List.setIfInBounds_toArray, List.set_cons_zero, List.set_cons_succ, List.getElem_toArray, List.getElem_cons_succ, List.getElem_cons_zero]
                  refine wpAnyH_take (i := 16) (v := (.bool false)) rfl (by kernel_rfl) (by kernel_rfl) (by kernel_rfl) (fun _ _ _ h => h) (Or.inl ⟨by rfl, fun ww hSw => by (try dsimp only at hSw); go_simp⟩) (by assumption) ?_
                  simp only [Act.put, List.setIfInBounds_toArray, List.set_cons_zero, List.set_cons_succ, List.getElem_toArray, List.getElem_cons_succ, List.getElem_cons_zero]
                  refine wpAnyH_take (i := 17) (v := (.bool false)) rfl (by kernel_rfl) (by kernel_rfl) (by kernel_rfl) (fun _ _ _ h => h) (Or.inl ⟨by rfl, fun ww hSw => by (try dsimp only at hSw); go_simp⟩) (by assumption) ?_
                  simp only [Act.put, List.setIfInBounds_toArray, List.set_cons_zero, List.set_cons_succ, List.getElem_toArray, List.getElem_cons_succ, List.getElem_cons_zero]
                  refine wpAnyH_take (i := 18) (v := (.bool false)) rfl (by kernel_rfl) (by kernel_rfl) (by kernel_rfl) (fun _ _ _ h => h) (Or.inl ⟨by rfl, fun ww hSw => by (try dsimp only at hSw); go_simp⟩) (by assumption) ?_
                  simp only [Act.put, List.setIfInBounds_toArray, List.set_cons_zero, List.set_cons_succ, List.getElem_toArray, List.getElem_cons_succ, List.getElem_cons_zero]
                  refine wpAnyH_take (i := 19) (v := (.pointer (some ⟨b, 0, .none⟩))) rfl (by kernel_rfl) (by kernel_rfl) (by kernel_rfl) (fun _ _ _ h => h) (Or.inl ⟨by rfl, fun ww hSw => by (try dsimp only at hSw); go_simp⟩) (by assumption) ?_
                  simp only [Act.put, List.setIfInBounds_toArray, List.set_cons_zero, List.set_cons_succ, List.getElem_toArray, List.getElem_cons_succ, List.getElem_cons_zero]
                  refine wpAnyH_take (i := 20) (v := (.int .i64 (zz : Int))) rfl (by kernel_rfl) (by kernel_rfl) (by kernel_rfl) (fun _ _ _ h => h) (Or.inl ⟨by rfl, fun ww hSw => by (try dsimp only at hSw); go_simp⟩) (by assumption) ?_
                  simp only [Act.put, List.setIfInBounds_toArray, List.set_cons_zero, List.set_cons_succ, List.getElem_toArray, List.getElem_cons_succ, List.getElem_cons_zero]
                  refine wpAnyH_take (i := 23) (v := (.pointer (some ⟨z, 2, .none⟩))) rfl (by kernel_rfl) (by kernel_rfl) (by kernel_rfl) (fun _ _ _ h => h) (Or.inl ⟨by rfl, fun ww hSw => by (try dsimp only at hSw); go_simp⟩) (by assumption) ?_
                  simp only [Act.put, List.setIfInBounds_toArray, List.set_cons_zero, List.set_cons_succ, List.getElem_toArray, List.getElem_cons_succ, List.getElem_cons_zero]
                  refine wpAnyH_take (i := 24) (v := (.int .i64 (P n1).par)) rfl (by kernel_rfl) (by kernel_rfl) (by kernel_rfl) (fun _ _ _ h => h) (Or.inl ⟨by rfl, fun ww hSw => by (try dsimp only at hSw); have c7 := hSw.2.1.cells.2.2.1; go_simp⟩) (by assumption) ?_
                  simp only [Act.put, List.setIfInBounds_toArray, List.set_cons_zero, List.set_cons_succ, List.getElem_toArray, List.getElem_cons_succ, List.getElem_cons_zero]
                  refine wpAnyH_ready (rs := [21]) (by kernel_rfl) (by simp) ?_
                  refine AllReadyH.cons rfl (fun K hK => ?_) AllReadyH.nil
                  have kk := KL.out _ hHeld.1
                  go_simp
                  refine kk.mono ?_
                  rintro e w21 ⟨rfl, hbk⟩
                  have kS : Tb w21 b (enP P n1 t) nx ∧ Bx w21 z (P n1) ∧ Below w.heap.size w w21 := ⟨hHeld.1.bel hbk, hHeld.2.1.bel hbk, hHeld.2.2.trans (hbk.mono hHeld.2.2.size)⟩
                  clear kk hbk
                  refine hK.out _ _ kS (fun hHeld => ?_)
                  clear hK K
                  try simp only [Act.put, List.setIfInBounds_toArray, List.set_cons_zero, List.set_cons_succ, List.getElem_toArray, List.getElem_cons_succ, List.getElem_cons_zero]
                  refine wpAnyH_take (i := 22) (v := (.int .i64 (P n1).par)) rfl (by kernel_rfl) (by kernel_rfl) (by kernel_rfl) (fun _ _ _ h => h) (Or.inl ⟨by rfl, fun ww hSw => by (try dsimp only at hSw); go_simp⟩) (by assumption) ?_
                  simp only [Act.put, List.setIfInBounds_toArray, List.set_cons_zero, List.set_cons_succ, List.getElem_toArray, List.getElem_cons_succ, List.getElem_cons_zero]
                  refine wpAnyH_take (i := 25) (v := (.bool false)) rfl (by kernel_rfl) (by kernel_rfl) (by kernel_rfl) (fun _ _ _ h => h) (Or.inl ⟨by rfl, fun ww hSw => by (try dsimp only at hSw); go_simp⟩) (by assumption) ?_
                  simp only [Act.put, List.setIfInBounds_toArray, List.set_cons_zero, List.set_cons_succ, List.getElem_toArray, List.getElem_cons_succ, List.getElem_cons_zero]
                  refine wpAnyH_take (i := 26) (v := (.bool false)) rfl (by kernel_rfl) (by kernel_rfl) (by kernel_rfl) (fun _ _ _ h => h) (Or.inl ⟨by rfl, fun ww hSw => by (try dsimp only at hSw); go_simp⟩) (by assumption) ?_
                  simp only [Act.put, List.setIfInBounds_toArray, List.set_cons_zero, List.set_cons_succ, List.getElem_toArray, List.getElem_cons_succ, List.getElem_cons_zero]
                  refine wpAnyH_done (by kernel_rfl) ?_ _
                  have H10 : Hid (Tb w21 b (enP P n1 t) nx ∧ Bx w21 z (P n1) ∧ Below w.heap.size w w21) := hHeld
                  have hKN := kl_none (t := t) HI.out HE.out HST.out hn64 hN0.out
                  have kf := free_any H10.out.1 HI.out.n1 (n1 : Int)
                  rw [hKN.1] at kf
                  clear hHeld kS
                  go_wp2_with fail
                  refine kf.mono ?_
                  rintro e w22 ⟨rfl, hT, hR⟩
                  have H11 : Hid (Tb w22 b (frP (enP P n1 t) n1) nx ∧ Bx w22 z (P n1) ∧ Below w.heap.size w w22) := ⟨hT, H10.out.2.1.trn hR (by omega), H10.out.2.2.trans (hR.toBelow hbb H10.out.2.2.size)⟩
                  clear kf hT hR H10
                  have kl := look_any H11.out.1 HI.out.n1 (n1 : Int)
                  rw [hKN.2.1, Pr.l, zP] at kl
                  dsimp only at kl
                  go_wp2_with fail
                  refine kl.mono ?_
                  rintro e w23 ⟨rfl, hb⟩
                  have H12 : Hid (Tb w23 b (frP (enP P n1 t) n1) nx ∧ Bx w23 z (P n1) ∧ Below w.heap.size w w23) := ⟨H11.out.1.bel hb, H11.out.2.1.bel hb, H11.out.2.2.trans (hb.mono H11.out.2.2.size)⟩
                  clear kl hb H11
                  have kk := kill_any H12.out.1 HI.out.n1 (P n1).pid
                  rw [hKN.2.2] at kk
                  have c0 := H12.out.2.1.cells.1
                  go_wp2_with fail
                  refine kk.mono ?_
                  rintro e w24 ⟨rfl, hT, hR⟩
                  have H13 : Hid (Below w.heap.size w w24) := H12.out.2.2.trans (hR.toBelow hbb H12.out.2.2.size)
                  clear kk hT hR H12 c0
                  go_wp2
                  go_ret
                  exact ⟨rfl, H13.out⟩
        · have e1 : enE P s = 260 := by rw [enE, if_neg hp]
          have e2 : enP P s t = P := by rw [enP, e1]; rfl
          have e3 : enZ P s t = false := by rw [enZ, e1]; rfl
          rw [e1, e3]
          rw [e2] at H6
          have hz : pp = zP := by rw [HPP.out, lkP, if_neg hp]
          subst hz
          simp only [zP] at c1
          have HQ : Hid (Tb w6 b P nx ∧ Tb w6 y P nx ∧ Below w.heap.size w w6) := ⟨H6.out.1, H6.out.2.2.1, H6.out.2.1⟩
          clear e1 e2 e3 H6 hp
          go_upto_region 15 with fail
          refine wp_region_held_drew (S := (fun W => Tb W b P nx ∧ Tb W y P nx ∧ Below w.heap.size w W)) (by kernel_rfl) ⟨HQ.out.1.keep rfl, HQ.out.2.1.keep rfl, below_drew HQ.out.2.2⟩ (fun hHeld => ?_)
          refine wpAnyH_take (i := 0) (v := (.int .i64 260)) rfl (by kernel_rfl) (by kernel_rfl) (by kernel_rfl) (fun _ _ _ h => h) (Or.inl ⟨by rfl, fun ww hSw => by (try dsimp only at hSw); go_simp⟩) (by assumption) ?_
          simp only [Act.put, List.setIfInBounds_toArray, List.set_cons_zero, List.set_cons_succ, List.getElem_toArray, List.getElem_cons_succ, List.getElem_cons_zero]
          refine wpAnyH_take (i := 1) (v := (.int .i64 260)) rfl (by kernel_rfl) (by kernel_rfl) (by kernel_rfl) (fun _ _ _ h => h) (Or.inl ⟨by rfl, fun ww hSw => by (try dsimp only at hSw); go_simp⟩) (by assumption) ?_
          simp only [Act.put, List.setIfInBounds_toArray, List.set_cons_zero, List.set_cons_succ, List.getElem_toArray, List.getElem_cons_succ, List.getElem_cons_zero]
          refine wpAnyH_take (i := 2) (v := (.bool true)) rfl (by kernel_rfl) (by kernel_rfl) (by kernel_rfl) (fun _ _ _ h => h) (Or.inl ⟨by rfl, fun ww hSw => by (try dsimp only at hSw); go_simp⟩) (by assumption) ?_
          simp only [Act.put, List.setIfInBounds_toArray, List.set_cons_zero, List.set_cons_succ, List.getElem_toArray, List.getElem_cons_succ, List.getElem_cons_zero]
          refine wpAnyH_take (i := 3) (v := (.bool true)) rfl (by kernel_rfl) (by kernel_rfl) (by kernel_rfl) (fun _ _ _ h => h) (Or.inl ⟨by rfl, fun ww hSw => by (try dsimp only at hSw); go_simp⟩) (by assumption) ?_
          simp only [Act.put, List.setIfInBounds_toArray, List.set_cons_zero, List.set_cons_succ, List.getElem_toArray, List.getElem_cons_succ, List.getElem_cons_zero]
          refine wpAnyH_take (i := 4) (v := (.bool false)) rfl (by kernel_rfl) (by kernel_rfl) (by kernel_rfl) (fun _ _ _ h => h) (Or.inl ⟨by rfl, fun ww hSw => by (try dsimp only at hSw); go_simp⟩) (by assumption) ?_
          simp only [Act.put, List.setIfInBounds_toArray, List.set_cons_zero, List.set_cons_succ, List.getElem_toArray, List.getElem_cons_succ, List.getElem_cons_zero]
          refine wpAnyH_take (i := 5) (v := (.bool true)) rfl (by kernel_rfl) (by kernel_rfl) (by kernel_rfl) (fun _ _ _ h => h) (Or.inl ⟨by rfl, fun ww hSw => by (try dsimp only at hSw); go_simp⟩) (by assumption) ?_
          simp only [Act.put, List.setIfInBounds_toArray, List.set_cons_zero, List.set_cons_succ, List.getElem_toArray, List.getElem_cons_succ, List.getElem_cons_zero]
          refine wpAnyH_take (i := 6) (v := (.bool true)) rfl (by kernel_rfl) (by kernel_rfl) (by kernel_rfl) (fun _ _ _ h => h) (Or.inl ⟨by rfl, fun ww hSw => by (try dsimp only at hSw); go_simp⟩) (by assumption) ?_
          simp only [Act.put, List.setIfInBounds_toArray, List.set_cons_zero, List.set_cons_succ, List.getElem_toArray, List.getElem_cons_succ, List.getElem_cons_zero]
          refine wpAnyH_take (i := 7) (v := (.bool true)) rfl (by kernel_rfl) (by kernel_rfl) (by kernel_rfl) (fun _ _ _ h => h) (Or.inl ⟨by rfl, fun ww hSw => by (try dsimp only at hSw); go_simp⟩) (by assumption) ?_
          simp only [Act.put, List.setIfInBounds_toArray, List.set_cons_zero, List.set_cons_succ, List.getElem_toArray, List.getElem_cons_succ, List.getElem_cons_zero]
          refine wpAnyH_take (i := 8) (v := (.pointer (some ⟨b, 0, .none⟩))) rfl (by kernel_rfl) (by kernel_rfl) (by kernel_rfl) (fun _ _ _ h => h) (Or.inl ⟨by rfl, fun ww hSw => by (try dsimp only at hSw); go_simp⟩) (by assumption) ?_
          simp only [Act.put, List.setIfInBounds_toArray, List.set_cons_zero, List.set_cons_succ, List.getElem_toArray, List.getElem_cons_succ, List.getElem_cons_zero]
          refine wpAnyH_take (i := 10) (v := (.agg (tl P nx).toArray)) rfl (by kernel_rfl) (by kernel_rfl) (by kernel_rfl) (fun _ _ _ h => h) (yieldsIf_load_mid (by rfl) 31 (.tmp 9) rfl y 0 rfl (tl P nx) _ (fun W hW => hW.2.1.rg) Try.underlying31 rfl (by rw [tl_len]; exact info_tab)) (by assumption) ?_
          simp only [Act.put, List.setIfInBounds_toArray, List.set_cons_zero, List.set_cons_succ, List.getElem_toArray, List.getElem_cons_succ, List.getElem_cons_zero]
          refine wpAnyH_ready (rs := [9]) (by kernel_rfl) (by simp) ?_
          refine AllReadyH.cons rfl (fun K hK => ?_) AllReadyH.nil
          have ks := state_any hHeld.1 HI.out.n1
          rw [← HTT.out] at ks
          go_simp
          refine ks.mono ?_
          rintro e w8 ⟨rfl, hb8⟩
          have kS : Tb w8 b P nx ∧ Tb w8 y P nx ∧ Below w.heap.size w w8 := ⟨hHeld.1.bel hb8, hHeld.2.1.bel hb8, hHeld.2.2.trans (hb8.mono hHeld.2.2.size)⟩
          clear ks hb8
          refine hK.out _ _ kS (fun hHeld => ?_)
          clear hK K
          try simp only [Act.put, List.setIfInBounds_toArray, List.set_cons_zero, List.set_cons_succ, List.getElem_toArray, List.getElem_cons_succ, List.getElem_cons_zero]
          refine wpAnyH_take (i := 11) (v := (.bool true)) rfl (by kernel_rfl) (by kernel_rfl) (by kernel_rfl) (fun _ _ _ h => h) (yieldsIf_eqlT (by rfl) _ (.tmp 72) (.tmp 73) rfl P nx (congrArg Value.agg HTT.out) rfl) (by assumption) ?_
          simp only [Act.put, List.setIfInBounds_toArray, List.set_cons_zero, List.set_cons_succ, List.getElem_toArray, List.getElem_cons_succ, List.getElem_cons_zero]
          refine wpAnyH_take (i := 12) (v := (.bool true)) rfl (by kernel_rfl) (by kernel_rfl) (by kernel_rfl) (fun _ _ _ h => h) (Or.inl ⟨by rfl, fun ww hSw => by (try dsimp only at hSw); go_simp⟩) (by assumption) ?_
          simp only [Act.put, List.setIfInBounds_toArray, List.set_cons_zero, List.set_cons_succ, List.getElem_toArray, List.getElem_cons_succ, List.getElem_cons_zero]
          refine wpAnyH_ready (rs := [13]) (by kernel_rfl) (by simp) ?_
          refine AllReadyH.cons rfl (fun K hK => ?_) AllReadyH.nil
          go_simp
          refine hK.out _ _ hHeld (fun hHeld => ?_)
          clear hK K
          try simp only [Act.put, List.setIfInBounds_toArray, List.set_cons_zero, List.set_cons_succ, List.getElem_toArray, List.getElem_cons_succ, List.getElem_cons_zero]
          refine wpAnyH_done (by kernel_rfl) ?_ _
          go_wp2
          go_ret
          exact ⟨rfl, hHeld.2.2⟩
end
end Go.Proofs.Ytnlbomggadflmaa
