import Derived.Test.YtblmkkhiojbcjaaGreatEw
import Derived.Deep.DeepCutAuto
namespace Go.Proofs.YtblmkkhiojbcjaaGreat
open Go Go.RowKit Fz
set_option linter.unusedVariables false
set_option linter.unusedSimpArgs false
def R1 (w : World) (s p b m r np : Nat) (v12 v13 : Value) (wr : World) : Prop := ∃ (i : Nat) (q : Option Addr) (cap P : Nat) (l c : Nat → Int), i ≤ 12 ∧ i ≤ np ∧ P ≤ i ∧ v12 = .slice q P cap ∧ v13 = .int .i64 i ∧ SRS w wr s p b m r P (.slice q P cap) l c ∧ ∀ k, k < P → rgt (l k)
def R2 (w : World) (s p b m r P : Nat) (q : Option Addr) (cap : Nat) (v15 : Value) (wr : World) : Prop := ∃ (i : Nat) (l c : Nat → Int), i ≤ P ∧ v15 = .int .i64 i ∧ SRS w wr s p b m r P (.slice q P cap) l c ∧ ∀ k, i ≤ k → k < P → rgt (l k)
theorem own_see0 {W : World} {P : Nat} {l : Nat → Int} {q : Option Addr} {cap base : Nat} (h : W.ownsRow base 23 1 (.slice q P cap) P ((List.range P).map fun k => .int .u64 (l k))) (h0 : P ≠ 0) : ∃ g, q = some ⟨g, 0, none⟩ ∧ P ≤ cap ∧ ∀ i, i < P → W.cell? ⟨g, i, none⟩ = some (.int .u64 (l i)) := by
  rcases h.2 with h1 | ⟨g, cap', cur, h1, h2, h3, h4, _⟩
  · exact absurd h1.2 h0
  · have e : q = some ⟨g, 0, none⟩ ∧ cap = cap' := by simpa using h1
    obtain ⟨rfl, rfl⟩ := e
    refine ⟨g, rfl, h4, fun i hi => ?_⟩
    have := h.cellAt i (by omega)
    rw [this, List.getElem?_map, List.getElem?_range hi]
    rfl
def LwP (w : World) (e : Ending) (w' : World) : Prop := e = .returned (.bool true) ∧ Below w.heap.size w w'
section
variable {w : World}
set_option maxRecDepth 100000 in
set_option maxHeartbeats 600000 in
theorem rights_law (qp : Option Addr) (np cp : Nat) (R : Nat → Int) (hR : ∀ i, 0 ≤ R i ∧ R i < 18446744073709551616) (hS : See w .u64 qp np R) (hnp : np ≤ 9223372036854775807) (va n : Int) (hva : 0 ≤ va ∧ va < 18446744073709551616) (qb : Option Addr) (nb cb : Nat) (Rb : Nat → Int) (hRb : ∀ i, 0 ≤ Rb i ∧ Rb i < 256) (hSb : See w .u8 qb nb Rb) (hnb : nb ≤ 9223372036854775807 ∧ nb ≤ cb ∧ cb ≤ 9223372036854775807) :
    Calls Tryz.prog 3 #[.slice qp np cp, .int .u64 va, .int .i64 n, .slice qb nb cb] w (LwP w) := by
  obtain ⟨j0, hj0, hjz, hj1, hj2⟩ := info28'
  have c8 := made_60 w
  have HA : Hid (∀ i, 0 ≤ R i ∧ R i < 18446744073709551616) := hR
  have HV : Hid (0 ≤ va ∧ va < 18446744073709551616) := hva
  have HRb : Hid ((∀ i, 0 ≤ Rb i ∧ Rb i < 256) ∧ See w .u8 qb nb Rb) := ⟨hRb, hSb⟩
  clear hR hRb hSb hva
  go_enter Tryz.func3, Tryz.ntmps3
  go_upto_region 4 with (go_at_call 8; refine c8.mono ?_; rintro _ w1 ⟨s, p, b, m, r, B, L, F, lf, rfl, h1, h2, h3, h4, hG, hB⟩; have H1 : Hid (SpG w1 s p b m 60 r 0 55 B L F lf (fun _ => 0) (fun _ => 0) ∧ Below w.heap.size w w1 ∧ w.heap.size ≤ s ∧ w.heap.size ≤ p ∧ w.heap.size ≤ b ∧ w.heap.size ≤ m) := ⟨hG, hB, h1, h2, h3, h4⟩; clear hG hB h1 h2 h3 h4)
  go_wp2
  go_loopw [12, 13] (fun v12 v13 wr => R1 w s p b m r np v12 v13 wr) (fun _ v13 _ => np - (intOf v13).toNat)
  case atStart => exact ⟨0, .none, 0, 0, fun _ => 0, fun _ => 0, by omega, by omega, by omega, rfl, rfl, ⟨World.ownsRow_nil _ _ _ _, fun g e => (by cases e), ⟨B, L, F, lf, _, H1.out.1⟩, H1.out.2.1, H1.out.2.2, fun k hk => by omega⟩, fun k hk => by omega⟩
  case round =>
    clear H1
    obtain ⟨i, q, cap, P, l, c, hi, hin, hPi, rfl, rfl, hS1, hrg⟩ := hrel
    obtain ⟨B, L, F, lf, fr, hG⟩ := hS1.sp
    have HS1 : Hid (SRS w wr s p b m r P (.slice q P cap) l c ∧ (∀ k, k < P → rgt (l k)) ∧ SpG wr s p b m 60 r P 55 B L F lf fr c) := ⟨hS1, hrg, hG⟩
    go_upto_region 6 with fail
    go_cut [39] (fun s wc => s = .bool (decide (i < np ∧ i < 12)) ∧ wc = wr)
    case first =>
      clear hG hS1 hrg hS
      by_cases h1 : i < np
      · have g1 : (i : Int) < np := by omega
        by_cases h2 : i < 12
        · have g2 : (i : Int) < 12 := by omega
          have HE : Hid (decide (i < np ∧ i < 12) = true) := decide_eq_true ⟨h1, h2⟩
          go_wp2
          go_meet
          case rel => exact ⟨by rw [HE.out], rfl⟩
        · have g2 : ¬ (i : Int) < 12 := by omega
          have HE : Hid (decide (i < np ∧ i < 12) = false) := decide_eq_false (fun h => h2 h.2)
          go_wp2
          go_meet
          case rel => exact ⟨by rw [HE.out], rfl⟩
      · have g1 : ¬ (i : Int) < np := by omega
        have HE : Hid (decide (i < np ∧ i < 12) = false) := decide_eq_false (fun h => h1 h.1)
        go_wp2
        go_meet
        case rel => exact ⟨by rw [HE.out], rfl⟩
    case rest =>
      obtain ⟨rfl, hwc⟩ := hcut
      obtain rfl : wr = wc := hwc.symm
      by_cases hlt : i < np ∧ i < 12
      · rw [decide_eq_true hlt]
        obtain ⟨h1, h2⟩ := hlt
        rcases hS with h | ⟨g1, o1, rfl, hg1, r1⟩
        · omega
        have i1 : (i : Int) < np := by omega
        have i2 : (i : Int) < 12 := by omega
        have k0 := (hS1.bel.cell (p := ⟨g1, o1 + i, .none⟩) hg1).trans (r1 i h1)
        have c10 := size_sp hG.su.sp
        have hx := HA.out i
        generalize hRi : R i = x at k0 hx
        clear r1 hRi
        rcases and14 x hx with hr | hr
        · have c9 := hG.grow (by omega) (by omega) _ hr
          rw [show (((P : Int) + 1) * 4096) = (P : Int) * 4096 + 4096 by omega] at c9
          have HR : Hid (rgt (bits .and .u64 x 14)) := hr
          clear hG hS1 hrg hx hr
          go_upto_region 9 with fail
          generalize bits .and .u64 x 14 = y at *
          go_wp2_with fail
          refine c10.mono ?_
          rintro _ w2 ⟨rfl, e2⟩
          obtain rfl : wr = w2 := e2.symm
          clear e2
          go_wp2_with fail
          refine c9.mono ?_
          rintro _ w3 ⟨rfl, ⟨f, B3, L3, F3, lf3, hG3⟩, z3, o3, t3, u3, k3⟩
          have H3 : Hid (SpG w3 s p b m 60 r (P + 1) 55 B3 L3 F3 lf3 (upd fr P f) (upd c P (y + 208)) ∧ (w3.ownsRow w.heap.size 23 1 (.slice q P cap) P ((List.range P).map fun k => .int .u64 (l k)) ∧ Below w.heap.size w w3)) := ⟨hG3, HS1.out.1.grow (c' := c) (fun k a1 a2 a3 a4 a5 => k3 k a1 a2 a3 a4 a5) z3 ⟨o3, t3, u3⟩⟩
          have HOA : Hid (∀ o, (w3.alloc o).ownsRow w.heap.size 23 1 (.slice q P cap) P ((List.range P).map fun k => .int .u64 (l k))) := fun o => H3.out.2.1.alloc o
          clear hG3 z3 o3 t3 u3 k3 c9 c10
          go_wp2_with (first | (at_builtin; refine wpList_append_own_at _ rfl _ _ 22 rfl w.heap.size 23 j0 (.int .u64 0) 1 8 Tryz.underlying22 hj0 hjz hj1 hj2 rfl (by decide) _ _ ((List.range P).map fun k => .int .u64 (l k)) rfl (HOA.out _) ⟨w3.heap.size, 0, .none⟩ 1 1 [.int .u64 y] rfl rfl (cell_one_new _ _ _) (by simp [Value.oneCell']) (by unfold maxLen; omega) (by omega) (by simp only [World.size_alloc]; exact Nat.le_succ_of_le H3.out.2.2.size) ?_; intro v' w5 hown5 hgrow _ hwho) | fail)
          have hB5 : Below w.heap.size w w5 := (H3.out.2.2.alloc H3.out.2.2.size _).grown hgrow (by simp only [World.size_alloc]; exact Nat.le_succ_of_le H3.out.2.2.size) (fun k hk => ((H3.out.2.1.lt k hk)).1)
          obtain ⟨g2, cap2, rfl⟩ := ownsRow_some (k := P) hown5
          have hG3 := H3.out.1
          have hap := HS1.out.1.ap
          have hlt : s < w3.heap.size ∧ p < w3.heap.size ∧ b < w3.heap.size ∧ m < w3.heap.size := ⟨hG3.su.sp.lt, hG3.su.ram.mem.plt, hG3.su.ram.mem.blt, hG3.su.ram.mem.mlt⟩
          have hbk : ∀ k, k < w3.heap.size → (∀ g, (Value.slice q P cap).ownBlock = some g → g ≠ k) → w5.heap[k]? = w3.heap[k]? := fun k hk hne => by
            rw [hgrow.block k (by simp only [World.size_alloc]; omega) (fun e => hne k e.symm rfl)]
            exact ((Below.refl _ w3).alloc (Nat.le_refl _) _).block k hk
          have hG5 := hG3.keep (hbk s hlt.1 fun g hg => (hap g hg).1) (hbk p hlt.2.1 fun g hg => (hap g hg).2.1) (hbk b hlt.2.2.1 fun g hg => (hap g hg).2.2.1) (hbk m hlt.2.2.2 fun g hg => (hap g hg).2.2.2)
          have hmap : ((List.range P).map fun k => Value.int .u64 (l k)) ++ [.int .u64 y] = (List.range (P + 1)).map fun k => Value.int .u64 (upd l P y k) := by
            rw [List.range_succ, List.map_append, List.map_singleton]
            congr 1
            · exact List.map_congr_left fun k hk => by
                have := List.mem_range.1 hk
                unfold upd
                rw [if_neg (by omega)]
            · unfold upd; rw [if_pos rfl]
          rw [hmap] at hown5
          refine ⟨⟨i + 1, _, _, P + 1, upd l P y, upd c P (y + 208), by omega, by omega, by omega, rfl, by simp, ⟨hown5, fun g hg => ?_, ⟨_, _, _, _, _, hG5⟩, hB5, HS1.out.1.lb, fun k hk => ?_⟩, fun k hk => ?_⟩, by simp [intOf]; omega⟩
          · rcases hwho with e | e
            · exact hap g (e.symm.trans hg)
            · have : g = w3.heap.size + 1 := by
                have := hg.symm.trans e
                simpa using this
              omega
          · unfold upd
            by_cases e : k = P
            · rw [if_pos e, if_pos e]; exact .inl ⟨HR.out, rfl⟩
            · rw [if_neg e, if_neg e]; exact HS1.out.1.pg k (by omega)
          · unfold upd
            by_cases e : k = P
            · rw [if_pos e]; exact HR.out
            · rw [if_neg e]; exact HS1.out.2.1 k (by omega)
        · have c9 := grow_no hG.su.sp ((P : Int) * 4096 + 4096) (by omega) _ hr
          have hr2 : bits .and .u64 (bits .and .u64 x 14) 2 = 0 ∧ (bits .and .u64 x 14 == 8) = false := by
            rcases hr with e | e | e <;> rw [e] <;> decide
          obtain ⟨g3, g4⟩ := hr2
          clear hG hS1 hrg hx hr
          go_upto_region 9 with fail
          generalize bits .and .u64 x 14 = y at *
          go_wp2_with fail
          refine c10.mono ?_
          rintro _ w2 ⟨rfl, e2⟩
          obtain rfl : wr = w2 := e2.symm
          clear e2
          go_wp2_with fail
          refine c9.mono ?_
          rintro _ w3 ⟨rfl, e3⟩
          obtain rfl : wr = w3 := e3.symm
          clear e3
          go_wp2_with fail
          exact ⟨⟨i + 1, q, cap, P, l, c, by omega, by omega, by omega, rfl, by simp, HS1.out.1, HS1.out.2.1⟩, by simp [intOf]; omega⟩
      · rw [decide_eq_false hlt]
        have HP12 : Hid (P ≤ 12 ∧ P ≤ np) := ⟨by omega, by omega⟩
        clear hG hS1 hrg hlt
        have H2 : Hid (SRS w wr s p b m r P (.slice q P cap) l c ∧ ∀ k, k < P → rgt (l k)) := ⟨HS1.out.1, HS1.out.2.1⟩
        clear HS1 hin hi hPi hwc
        go_wp2
        go_loopw [15] (fun v15 wz => R2 w s p b m r P q cap v15 wz) (fun v15 _ => P - (intOf v15).toNat)
        case atStart => exact ⟨0, l, c, by omega, rfl, H2.out.1, fun k _ hk => H2.out.2 k hk⟩
        case round =>
          obtain ⟨j, l2, c2, hj, rfl, hS2, hrg2⟩ := hrel
          obtain ⟨B2, L2, F2, lf2, fr2, hG2⟩ := hS2.sp
          have HS2 : Hid (SRS w wr s p b m r P (.slice q P cap) l2 c2 ∧ (∀ k, j ≤ k → k < P → rgt (l2 k)) ∧ SpG wr s p b m 60 r P 55 B2 L2 F2 lf2 fr2 c2) := ⟨hS2, hrg2, hG2⟩
          clear H2
          by_cases hjP : j < P
          · have g0 : (j : Int) < P := by omega
            have hjn : j < np := by have := HP12.out; omega
            have hj12 : j < 12 := by have := HP12.out; omega
            have g0' : (j : Int) < np := by omega
            rcases hS with h | ⟨g1, o1, rfl, hg1, r1⟩
            · omega
            have k0 := (hS2.bel.cell (p := ⟨g1, o1 + j, .none⟩) hg1).trans (r1 j hjn)
            obtain ⟨g2, rfl, hPc, r2⟩ := own_see0 hS2.own (by omega)
            have k1 := r2 j hjP
            obtain ⟨x, hx⟩ : ∃ x, x = R j := ⟨_, rfl⟩
            obtain ⟨y, hy⟩ : ∃ y, y = l2 j := ⟨_, rfl⟩
            rw [← hx] at k0
            rw [← hy] at k1
            have HY : Hid (y = l2 j) := hy
            clear hx hy r1 r2 hS2 hG2 hrg2
            go_upto_region 16 with fail
            go_cut [89] (fun s wc => s = .bool (decide (bits .and .u64 x 1 = 1 ∧ bits .and .u64 y 2 ≠ 0 ∧ j % 3 = 2)) ∧ wc = wr)
            case first =>
              by_cases a1 : bits .and .u64 x 1 = 1
              · by_cases a2 : bits .and .u64 y 2 = 0
                · have HE : Hid (decide (bits .and .u64 x 1 = 1 ∧ bits .and .u64 y 2 ≠ 0 ∧ j % 3 = 2) = false) := decide_eq_false (fun h => h.2.1 a2)
                  go_wp2
                  go_meet
                  case rel => exact ⟨by rw [HE.out], rfl⟩
                · have a2' : (bits .and .u64 y 2 == 0) = false := by simpa using a2
                  have a2n : (bits .and .u64 y 2 != 0) = true := by simpa using a2
                  by_cases a3 : j % 3 = 2
                  · have HE : Hid (decide (bits .and .u64 x 1 = 1 ∧ bits .and .u64 y 2 ≠ 0 ∧ j % 3 = 2) = true) := decide_eq_true ⟨a1, a2, a3⟩
                    have a4 : (j : Int) % 3 = 2 := by omega
                    clear a3
                    go_wp2
                    go_meet
                    case rel => first | exact ⟨by rw [HE.out], rfl⟩ | exact ⟨by rw [HE.out, a2n], rfl⟩ | exact ⟨by rw [HE.out, a2n, a4]; rfl, rfl⟩
                  · have HE : Hid (decide (bits .and .u64 x 1 = 1 ∧ bits .and .u64 y 2 ≠ 0 ∧ j % 3 = 2) = false) := decide_eq_false (fun h => a3 h.2.2)
                    have a4 : ((j : Int) % 3 == 2) = false := by simp; omega
                    clear a3
                    go_wp2
                    go_meet
                    case rel => first | exact ⟨by rw [HE.out], rfl⟩ | exact ⟨by rw [HE.out, a2n], rfl⟩ | exact ⟨by rw [HE.out, a2n, a4]; rfl, rfl⟩
              · have HE : Hid (decide (bits .and .u64 x 1 = 1 ∧ bits .and .u64 y 2 ≠ 0 ∧ j % 3 = 2) = false) := decide_eq_false (fun h => a1 h.1)
                have a1' : (bits .and .u64 x 1 == 1) = false := by simpa using a1
                go_wp2
                go_meet
                case rel => exact ⟨by rw [HE.out], rfl⟩
            case rest =>
              obtain ⟨rfl, hwc⟩ := hcut
              obtain rfl : wr = wc := hwc.symm
              by_cases hlt : bits .and .u64 x 1 = 1 ∧ bits .and .u64 y 2 ≠ 0 ∧ j % 3 = 2
              · rw [decide_eq_true hlt]
                obtain ⟨d, hd⟩ : ∃ d, rdb (c2 j) d := by
                  have hr := HS2.out.2.1 j (Nat.le_refl _) hjP
                  have hpg := HS2.out.1.pg j hjP
                  have hy2 : bits .and .u64 (l2 j) 2 ≠ 0 := by rw [← HY.out]; exact hlt.2.1
                  rcases hpg with ⟨_, e⟩ | ⟨e, _⟩
                  · rcases hr with e1 | e1 | e1 | e1 | e1 <;> rw [e1] at e hy2
                    · exact absurd (by decide) hy2
                    · exact ⟨194, .inl ⟨e, rfl⟩⟩
                    · exact ⟨202, .inr (.inr (.inl ⟨e, rfl⟩))⟩
                    · exact ⟨198, .inr (.inl ⟨e, rfl⟩)⟩
                    · exact ⟨206, .inr (.inr (.inr ⟨e, rfl⟩))⟩
                  · rw [e] at hy2
                    exact absurd (by decide) hy2
                have HD : Hid (rdb (c2 j) d) := hd
                have c11 := HS2.out.2.2.guard (by have := HP12.out; omega) j ⟨by omega, hjP⟩ hd
                clear hlt hd
                go_wp2_with fail
                refine c11.mono ?_
                rintro _ w4 ⟨rfl, ⟨B4, L4, F4, lf4, hG4⟩, f4⟩
                have H4 : Hid (SpG w4 s p b m 60 r P 55 B4 L4 F4 lf4 fr2 (upd c2 j d) ∧ (w4.ownsRow w.heap.size 23 1 (.slice (some ⟨g2, 0, .none⟩) P cap) P ((List.range P).map fun k => .int .u64 (l2 k)) ∧ Below w.heap.size w w4)) := ⟨hG4, HS2.out.1.grow (c' := c2) (fun k a1 a2 a3 a4 _ => f4.block k a1 a2 a3 a4) f4.size ⟨f4.os, f4.tape, f4.output⟩⟩
                have kf : w4.frozen? ⟨g2, j, .none⟩ = false := H4.out.2.1.frozenAt j
                have kc : w4.cell? ⟨g2, j, .none⟩ = some (.int .u64 (l2 j)) := by
                  obtain ⟨g3, e3, _, r3⟩ := own_see0 H4.out.2.1 (by omega)
                  have e3' : g2 = g3 := by simpa using e3
                  subst e3'
                  exact r3 j hjP
                clear hG4 f4 c11 k0 k1
                go_wp2_with fail
                obtain ⟨hO5, hgr⟩ := H4.out.2.1.stored j (.int .u64 0)
                have hG4 := H4.out.1
                have hap := HS2.out.1.ap g2 rfl
                have hlt4 : s < w4.heap.size ∧ p < w4.heap.size ∧ b < w4.heap.size ∧ m < w4.heap.size := ⟨hG4.su.sp.lt, hG4.su.ram.mem.plt, hG4.su.ram.mem.blt, hG4.su.ram.mem.mlt⟩
                have hG5 := hG4.keep (hgr.block s hlt4.1 (fun e => hap.1 (Option.some.inj e).symm)) (hgr.block p hlt4.2.1 (fun e => hap.2.1 (Option.some.inj e).symm)) (hgr.block b hlt4.2.2.1 (fun e => hap.2.2.1 (Option.some.inj e).symm)) (hgr.block m hlt4.2.2.2 (fun e => hap.2.2.2 (Option.some.inj e).symm))
                have hB5 := H4.out.2.2.grown hgr H4.out.2.2.size (fun k hk => by have := (H4.out.2.1.lt k hk).1; exact this)
                have hmap : ((List.range P).map fun k => Value.int .u64 (l2 k)).set j (.int .u64 0) = (List.range P).map fun k => Value.int .u64 (upd l2 j 0 k) := by
                  apply List.ext_getElem?
                  intro k
                  rw [List.getElem?_set]
                  by_cases e : j = k
                  · subst e
                    rw [if_pos rfl, List.length_map, List.length_range, if_pos hjP, List.getElem?_map, List.getElem?_range hjP]
                    simp [upd]
                  · rw [if_neg e, List.getElem?_map, List.getElem?_map]
                    by_cases hk : k < P
                    · rw [List.getElem?_range hk]
                      simp only [Option.map_some, upd, if_neg (fun h : k = j => e h.symm)]
                    · rw [List.getElem?_eq_none (by rw [List.length_range]; omega)]
                      rfl
                rw [hmap] at hO5
                refine ⟨⟨j + 1, upd l2 j 0, upd c2 j d, by omega, by simp, ⟨hO5, HS2.out.1.ap, ⟨_, _, _, _, _, hG5⟩, hB5, HS2.out.1.lb, fun k hk => ?_⟩, fun k h1 h2 => ?_⟩, by simp [intOf]; omega⟩
                · unfold upd
                  by_cases e : k = j
                  · rw [if_pos e, if_pos e]; exact .inr ⟨rfl, _, HD.out⟩
                  · rw [if_neg e, if_neg e]; exact HS2.out.1.pg k hk
                · unfold upd
                  rw [if_neg (by omega)]
                  exact HS2.out.2.1 k (by omega) h2
              · rw [decide_eq_false hlt]
                clear hlt
                go_wp2
                exact ⟨⟨j + 1, l2, c2, by omega, by simp, HS2.out.1, fun k h1 h2 => HS2.out.2.1 k (by omega) h2⟩, by simp [intOf]; omega⟩
          · have g0 : ¬ (j : Int) < P := by omega
            have HH : Hid (SRS w wr s p b m r P (.slice q P cap) l2 c2) := hS2
            clear hS2 hrg2 hG2 HS2 hjP
            have hj' : j = P := by omega
            subst hj'
            have hPb := HP12.out.1
            have hvb := HV.out
            have m1 := Int.emod_nonneg va (show (4096 * (j : Int) + 4096) ≠ 0 by omega)
            have m2 := Int.emod_lt_of_pos va (show 0 < (4096 * (j : Int) + 4096) by omega)
            obtain ⟨a, ha⟩ : ∃ a : Nat, va % (4096 * (j : Int) + 4096) = (a : Int) := ⟨(va % (4096 * (j : Int) + 4096)).toNat, by omega⟩
            obtain ⟨k, hk⟩ : ∃ k : Nat, 1 + n % 4294967296 % 9000 = (k : Int) := ⟨(1 + n % 4294967296 % 9000).toNat, by omega⟩
            have hkb : 1 ≤ k ∧ k ≤ 9000 := by omega
            have hab : a < 4096 * j + 4096 := by omega
            clear m1 m2
            go_upto_region 23 with fail
            rw [ha]
            clear ha hk hvb
            obtain ⟨B5, L5, F5, lf5, fr5, hG5⟩ := HH.out.sp
            have H0 : Hid (SRS w wr s p b m r j (.slice q j cap) l2 c2 ∧ SpG wr s p b m 60 r j 55 B5 L5 F5 lf5 fr5 c2) := ⟨HH.out, hG5⟩
            clear hG5 HH
            have c12 := rights_all q cap (own_see H0.out.1.own) (by omega) a k ⟨by omega, by omega⟩ 2
            go_upto_region 24 with (go_at_call 12; refine c12.mono ?_; rintro _ w5 ⟨v5, rfl, hv5, b5⟩; have H5 : Hid ((v5 = true ↔ (k = 0 ∨ rgU j l2 2 a k)) ∧ SRS w w5 s p b m r j (.slice q j cap) l2 c2 ∧ SpG w5 s p b m 60 r j 55 B5 L5 F5 lf5 fr5 c2) := ⟨hv5, H0.out.1.below b5, H0.out.2.below b5⟩; clear hv5 b5)
            clear c12
            have c13 := in_law H5.out.2.2.su H5.out.2.1.pg a k ⟨by omega, by omega⟩
            go_upto_region 25 with (go_at_call 13; refine c13.mono ?_; rintro _ w6 ⟨ok6, q6, n6, cc6, rfl, h6a, h6b, b6⟩; have H6 : Hid (ok6 = v5 ∧ (ok6 = true → n6 = k) ∧ SRS w w6 s p b m r j (.slice q j cap) l2 c2 ∧ SpG w6 s p b m 60 r j 55 B5 L5 F5 lf5 fr5 c2) := ⟨Bool.eq_iff_iff.2 (h6a.trans H5.out.1.symm), fun e => (h6b e).1, H5.out.2.1.below b6, H5.out.2.2.below b6⟩; clear h6a h6b b6)
            clear c13 H5 H0
            go_cut [132] (fun s wc => s = .bool false ∧ wc = w6)
            case first =>
              obtain rfl := H6.out.1
              cases ok6
              · clear H6
                go_wp2
                go_meet
                case rel => exact ⟨rfl, rfl⟩
              · obtain rfl := H6.out.2.1 rfl
                clear H6
                go_wp2
                go_meet
                case rel => exact ⟨rfl, rfl⟩
            case rest =>
              obtain ⟨rfl, hwc⟩ := hcut
              obtain rfl : w6 = wc := hwc.symm
              clear hwc
              have c12 := rights_all q cap (own_see H6.out.2.2.1.own) (by omega) a nb ⟨by omega, by omega⟩ 4
              go_upto_region 28 with (go_at_call 12; refine c12.mono ?_; rintro _ w7 ⟨v7, rfl, hv7, b7⟩; have H7 : Hid ((v7 = true ↔ (nb = 0 ∨ rgU j l2 4 a nb)) ∧ SRS w w7 s p b m r j (.slice q j cap) l2 c2 ∧ SpG w7 s p b m 60 r j 55 B5 L5 F5 lf5 fr5 c2) := ⟨hv7, H6.out.2.2.1.below b7, H6.out.2.2.2.below b7⟩; clear hv7 b7)
              clear c12 H6
              have HAC : Hid (∀ i, i < j → bits .and .u64 (l2 i) 2 ≠ 0 → accU c2 1 (4096 * i) = true) := fun i hi h => by
                unfold accU
                rw [show 4096 * i / 4096 = i by omega, pgO_rd (H7.out.2.1.pg i hi)]
                exact decide_eq_true h
              have c14 := readable_any H7.out.2.2.su q j cap l2 (own_see H7.out.2.1.own) (Nat.le_refl _) HAC.out
              have HX : Hid ((rdX B5 fr5 l2 j).length ≤ 4096 * j) := rdX_len _ _ _ _
              obtain ⟨xs, hxs⟩ : ∃ xs, xs = rdX B5 fr5 l2 j := ⟨_, rfl⟩
              rw [← hxs] at c14 HX
              have HXS : Hid (xs = rdX B5 fr5 l2 j) := hxs
              clear hxs
              go_upto_region 29 with (go_at_call 14; refine c14.mono ?_; rintro _ w8 ⟨q8, cc8, rfl, h8, b8⟩; have H8 : Hid (See w8 .u8 q8 xs.length (fun i => xs.getD i 0) ∧ SRS w w8 s p b m r j (.slice q j cap) l2 c2 ∧ SpG w8 s p b m 60 r j 55 B5 L5 F5 lf5 fr5 c2) := ⟨own_seeB h8, H7.out.2.1.below b8, H7.out.2.2.below b8⟩; clear h8 b8)
              clear c14
              have HBB : Hid (nb ≠ 0 → ∀ g o, qb = some ⟨g, o, .none⟩ → g ≠ p ∧ g ≠ b ∧ g ≠ m) := fun h0 g o e => by
                have hlb := H8.out.2.1.lb
                rcases HRb.out.2 with h | ⟨g', o', e', hg', _⟩
                · exact absurd h h0
                · rw [e'] at e
                  have e3 : g' = g := by simp at e; exact e.1
                  subst e3
                  exact ⟨by omega, by omega, by omega⟩
              go_cut [167] (fun sv wc => sv = .bool false ∧ Hid (∃ B', SpU wc s p b m 60 r j ((j : Int) * 4096) B' L5 F5 lf5 fr5 c2 ∧ (v7 = true → ∀ i, i < nb → btU B' fr5 (a + i) = Rb i) ∧ Below w.heap.size w wc))
              case first =>
                have c15 := can_law H8.out.2.2.su H8.out.2.1.pg a nb ⟨by omega, by omega⟩
                go_wp2_with fail
                refine c15.mono ?_
                rintro _ w9 ⟨v9, rfl, hv9, b9⟩
                have e9 : v9 = v7 := Bool.eq_iff_iff.2 (hv9.trans H7.out.1.symm)
                have H9 : Hid (See w9 .u8 q8 xs.length (fun i => xs.getD i 0) ∧ SRS w w9 s p b m r j (.slice q j cap) l2 c2 ∧ SpG w9 s p b m 60 r j 55 B5 L5 F5 lf5 fr5 c2) := ⟨H8.out.1.below b9, H8.out.2.1.below b9, H8.out.2.2.below b9⟩
                clear hv9 b9 c15
                have c16 := out_law H9.out.2.2.su H9.out.2.2.inj H9.out.2.1.pg a nb ⟨by omega, by omega⟩ qb cb ⟨by omega, by omega⟩ Rb HRb.out.1 (HRb.out.2.below H9.out.2.1.bel) HBB.out
                have H16 : Hid (∀ v10 : Bool, (v10 = true ↔ (nb = 0 ∨ rgU j l2 4 a nb)) → v10 = v7) := fun v10 h => Bool.eq_iff_iff.2 (h.trans H7.out.1.symm)
                clear H7 H8
                subst e9
                cases v9
                · go_wp2_with fail
                  refine c16.mono ?_
                  rintro _ w10 ⟨v10, rfl, hv10, _, hF, f10⟩
                  have e10 := H16.out v10 hv10
                  subst e10
                  have b10 := hF rfl
                  have H10 : Hid (See w10 .u8 q8 xs.length (fun i => xs.getD i 0) ∧ SRS w w10 s p b m r j (.slice q j cap) l2 c2 ∧ SpG w10 s p b m 60 r j 55 B5 L5 F5 lf5 fr5 c2) := ⟨H9.out.1.below b10, H9.out.2.1.below b10, H9.out.2.2.below b10⟩
                  clear hv10 hF f10 b10 c16 H16
                  have c14 := readable_any H10.out.2.2.su q j cap l2 (own_see H10.out.2.1.own) (Nat.le_refl _) HAC.out
                  rw [← HXS.out] at c14
                  go_wp2_with fail
                  refine c14.mono ?_
                  rintro _ w11 ⟨q11, cc11, rfl, h11, b11⟩
                  have H11 : Hid (See w11 .u8 q8 xs.length (fun i => xs.getD i 0) ∧ See w11 .u8 q11 xs.length (fun i => xs.getD i 0) ∧ SRS w w11 s p b m r j (.slice q j cap) l2 c2 ∧ SpG w11 s p b m 60 r j 55 B5 L5 F5 lf5 fr5 c2) := ⟨H10.out.1.below b11, own_seeB h11, H10.out.2.1.below b11, H10.out.2.2.below b11⟩
                  clear h11 b11 c14
                  have c17 := bytes_same (ca := cc8) (cb := cc11) (by have := HX.out; omega) H11.out.1 H11.out.2.1
                  go_wp2_with fail
                  refine c17.mono ?_
                  rintro _ w12 ⟨rfl, b12⟩
                  have H12 : Hid (∃ B', SpU w12 s p b m 60 r j ((j : Int) * 4096) B' L5 F5 lf5 fr5 c2 ∧ (false = true → ∀ i, i < nb → btU B' fr5 (a + i) = Rb i) ∧ Below w.heap.size w w12) := ⟨B5, (H11.out.2.2.2.below b12).su, fun e => (by cases e), (H11.out.2.2.1.below b12).bel⟩
                  clear b12 c17
                  go_wp2_with fail
                  go_meet
                  case rel => exact ⟨rfl, H12⟩
                · go_wp2_with fail
                  refine c16.mono ?_
                  rintro _ w10 ⟨v10, rfl, hv10, hT, _, f10⟩
                  have e10 := H16.out v10 hv10
                  subst e10
                  obtain ⟨B', hS', hb'⟩ := hT rfl
                  have H12 : Hid (∃ B', SpU w10 s p b m 60 r j ((j : Int) * 4096) B' L5 F5 lf5 fr5 c2 ∧ (true = true → ∀ i, i < nb → btU B' fr5 (a + i) = Rb i) ∧ Below w.heap.size w w10) := ⟨B', hS', fun _ => hb', by
                    have hlb := H9.out.2.1.lb
                    exact H9.out.2.1.bel.trans (f10.toBelow H9.out.2.1.bel.size hlb.2.1 hlb.2.2.1 hlb.2.2.2)⟩
                  clear hv10 hT f10 hS' hb' c16 H16
                  go_wp2_with fail
                  go_meet
                  case rel => exact ⟨rfl, H12⟩
              case rest =>
                obtain ⟨rfl, hX⟩ := hcut
                obtain ⟨B6, hS6, hb6, hB6⟩ := hX.out
                have HPG : Hid (∀ k, k < j → pgO (l2 k) (c2 k)) := H8.out.2.1.pg
                have HLB : Hid (w.heap.size ≤ p ∧ w.heap.size ≤ b ∧ w.heap.size ≤ m) := H8.out.2.1.lb.2
                have H6 : Hid (SpU wc s p b m 60 r j ((j : Int) * 4096) B6 L5 F5 lf5 fr5 c2 ∧ (v7 = true → ∀ i, i < nb → btU B6 fr5 (a + i) = Rb i) ∧ Below w.heap.size w wc) := ⟨hS6, hb6, hB6⟩
                clear hX hS6 hb6 hB6 H7 H8
                have c13 := in_law H6.out.1 HPG.out a nb ⟨by omega, by omega⟩
                go_upto_region 32 with (go_at_call 13; refine c13.mono ?_; rintro _ w13 ⟨ok9, q9, n9, cc9, rfl, h9a, h9b, b9⟩; have H13 : Hid ((ok9 = true → n9 = nb ∧ See w13 .u8 q9 nb (fun i => btU B6 fr5 (a + i))) ∧ SpU w13 s p b m 60 r j ((j : Int) * 4096) B6 L5 F5 lf5 fr5 c2 ∧ Below w.heap.size w w13) := ⟨h9b, H6.out.1.below b9, H6.out.2.2.trans (b9.mono H6.out.2.2.size)⟩; clear h9a h9b b9)
                clear c13
                go_cut [185] (fun sv wd => sv = .bool false ∧ Hid (SpU wd s p b m 60 r j ((j : Int) * 4096) B6 L5 F5 lf5 fr5 c2 ∧ Below w.heap.size w wd))
                case first =>
                  cases v7
                  · go_wp2_with fail
                    go_meet
                    case rel => exact ⟨rfl, H13.out.2⟩
                  · cases ok9
                    · go_wp2_with fail
                      go_meet
                      case rel => exact ⟨rfl, H13.out.2⟩
                    · obtain ⟨hn9, hs9⟩ := H13.out.1 rfl
                      subst hn9
                      have hs2 : See w13 .u8 q9 n9 Rb := by
                        rcases hs9 with h | ⟨g, o, e, hg, hc⟩
                        · exact .inl h
                        · exact .inr ⟨g, o, e, hg, fun i hi => (hc i hi).trans (congrArg (fun z => some (Value.int .u8 z)) (H6.out.2.1 rfl i hi))⟩
                      have c17 := bytes_same (ca := cc9) (cb := cb) (by omega) hs2 (HRb.out.2.below H13.out.2.2)
                      clear hs9 hs2
                      go_wp2_with fail
                      refine c17.mono ?_
                      rintro _ w14 ⟨rfl, b14⟩
                      have H14 : Hid (SpU w14 s p b m 60 r j ((j : Int) * 4096) B6 L5 F5 lf5 fr5 c2 ∧ Below w.heap.size w w14) := ⟨H13.out.2.1.below b14, H13.out.2.2.trans (b14.mono H13.out.2.2.size)⟩
                      clear b14 c17
                      go_wp2_with fail
                      go_meet
                      case rel => exact ⟨rfl, H14⟩
                case rest =>
                  obtain ⟨rfl, hX⟩ := hcut
                  have H15 : Hid (SpU wc s p b m 60 r j ((j : Int) * 4096) B6 L5 F5 lf5 fr5 c2 ∧ Below w.heap.size w wc) := hX
                  clear hX H13 H6
                  have c18 := poke_law H15.out.1 a nb ⟨by omega, by omega⟩ qb cb ⟨by omega, by omega⟩ Rb HRb.out.1 (HRb.out.2.below H15.out.2) HBB.out
                  go_upto_region 34 with fail
                  go_wp2_with fail
                  refine c18.mono ?_
                  rintro _ w16 ⟨rfl, f16⟩
                  have H16 : Hid (Below w.heap.size w w16) := H15.out.2.trans (f16.toBelow H15.out.2.size HLB.out.1 HLB.out.2.1 HLB.out.2.2)
                  clear f16 c18
                  by_cases z1 : a ≤ 4096 * j
                  · have z1' : (a : Int) ≤ 4096 * j := by omega
                    by_cases z2 : nb ≤ 4096 * j - a
                    · have z2' : (nb : Int) ≤ 4096 * j - a := by omega
                      rw [decide_eq_true (show (a : Int) + nb ≤ j * 4096 by omega)]
                      go_wp2_with fail
                      go_ret
                      exact ⟨rfl, H16.out⟩
                    · have z2' : ¬ (nb : Int) ≤ 4096 * j - a := by omega
                      rw [decide_eq_false (show ¬ (a : Int) + nb ≤ j * 4096 by omega)]
                      go_wp2_with fail
                      go_ret
                      refine ⟨?_, H16.out⟩
                      show Ending.returned (.bool (!decide ((nb : Int) ≤ 4096 * (j : Int) - a))) = _
                      rw [decide_eq_false (show ¬ (nb : Int) ≤ 4096 * (j : Int) - a by omega)]
                      rfl
                  · have z1' : ¬ (a : Int) ≤ 4096 * j := by omega
                    rw [decide_eq_false (show ¬ (a : Int) + nb ≤ j * 4096 by omega)]
                    go_wp2_with fail
                    go_ret
                    exact ⟨rfl, H16.out⟩
end
end Go.Proofs.YtblmkkhiojbcjaaGreat
