import Derived.Test.YtnlbomggadflmaaMt
import Derived.Test.YtnlbomggadflmaaNob
import Derived.Deep.DeepCutAuto
namespace Go.Proofs.Ytnlbomggadflmaa
open Go.RowKit
set_option linter.unusedVariables false
set_option linter.unusedSimpArgs false
set_option maxRecDepth 100000
/-- The law's own marks. -/
def sn (S : Nat → Int) : List Value := (List.range 64).map fun i => .int .i64 (S i)
structure Sn (W : World) (y : Nat) (S : Nat → Int) : Prop where
  c : ∀ i, i < 64 → W.cell? ⟨y, i, .none⟩ = some (.int .i64 (S i))
  f : ∀ i, i < 64 → W.frozen? ⟨y, i, .none⟩ = false
theorem Sn.lt {W : World} {y : Nat} {S : Nat → Int} (h : Sn W y S) : y < W.heap.size := lt_cell (h.c 0 (by omega))
theorem Sn.bel {W W' : World} {y : Nat} {S : Nat → Int} (h : Sn W y S) (k : Below W.heap.size W W') : Sn W' y S :=
  ⟨fun i hi => (k.cell (p := ⟨y, i, .none⟩) h.lt).trans (h.c i hi), fun i hi => (k.frozen (p := ⟨y, i, .none⟩) h.lt).trans (h.f i hi)⟩
theorem Sn.set {W : World} {y : Nat} {S : Nat → Int} (h : Sn W y S) (a : Nat) (ha : a < 64) (z : Int) : Sn (W.setCell ⟨y, a, .none⟩ (.int .i64 z)) y (fun s => if s = a then z else S s) := by
  refine ⟨fun i hi => ?_, fun i hi => by rw [frozen_set]; exact h.f i hi⟩
  by_cases e : i = a
  · subst e
    rw [if_pos rfl]
    exact World.cell?_setCell_same' _ _ _ (by rw [h.c i hi]; rfl)
  · rw [if_neg e, World.cell?_setCell_other _ _ _ _ (by intro x; have y := congrArg Addr.off x; dsimp only at y; omega)]
    exact h.c i hi
theorem Sn.congr {W : World} {y : Nat} {S T : Nat → Int} (h : Sn W y S) (e : ∀ i, i < 64 → S i = T i) : Sn W y T := ⟨fun i hi => by rw [← e i hi]; exact h.c i hi, h.f⟩
theorem sn_new (w : World) (t : TypeId) : Sn (w.alloc (.cells (sn fun _ => 0).toArray t)) w.heap.size (fun _ => 0) := by
  refine ⟨fun i hi => ?_, fun i hi => World.frozen?_alloc_new _ _ _ _⟩
  rw [World.cell?_alloc_at _ _ _ _ (by rfl)]
  simp [sn, List.getElem?_range hi]
theorem alloc_seen (ρ : Operand → Value) (o : Oper) (ho : o.op = .alloc 50) (w : World) : (execOp ρ o).run Try.prog w = .ok (.value (.pointer (some ⟨w.heap.size, 0, .none⟩))) (w.alloc (.cells (sn fun _ => 0).toArray 50)) := by
  unfold execOp
  rw [ho]
  kernel_rfl
theorem field_stl (a0 a1 a2 a3 a4 : Int) (a5 : Bool) (a6 : Int) (w : World) : (Instr.field 28 (.agg #[.int .i64 a0, .int .i64 a1, .int .i64 a2, .int .i64 a3, .int .i64 a4, .bool a5, .int .i32 a6]) 1).run Try.prog w = .ok (.int .i64 a1) w := by kernel_rfl
theorem pkF_le (l : Int) : pkF l ≤ 64 := by rw [pkF]; split <;> omega
theorem pkF_nat (a : Nat) (h : a < 64) : pkF (a : Int) = a + 1 := by rw [pkF, if_pos (by omega), Int.toNat_natCast]
theorem cnt_pos {r : Nat → Bool} {p : Nat} (h : 0 < cnt r 0 64) : ∃ a, rnd r p = some a ∧ a < 64 ∧ r a = true := by
  cases hr : rnd r p with
  | none =>
    have : cnt r p 64 = cnt r p 0 := by
      have := cnt_none (r := r) (f0 := p) (D := 0) (n := 64) (fun k hk => by simpa using rnd_none.1 hr k hk)
      simpa using this
    rw [cnt_all] at this
    have z : cnt r p 0 = 0 := rfl
    omega
  | some a =>
    obtain ⟨_, _, _, hq, _⟩ := rnd_some hr
    exact ⟨a, rfl, rnd_lt hr, hq⟩
theorem cnt_zero {r : Nat → Bool} {p : Nat} (h : cnt r 0 64 = 0) : rnd r p = none := by
  rw [rnd_none]
  intro k hk
  cases q : r ((p + k) % 64)
  · rfl
  · exfalso
    have h1 := cnt_succ r p k
    rw [q, if_pos rfl] at h1
    have h2 := cnt_mono r p (show k + 1 ≤ 64 by omega)
    rw [cnt_all, h] at h2
    omega
section
variable {w : World}
attribute [local go_sem] field_stl
set_option maxHeartbeats 4000000 in
theorem turns_walk {q : Option Addr} {m c : Nat} {O : Nat → Opr} (h : ArgO w q m c O) (la : Int) : Calls Try.prog 5 #[.slice q m c, .int .i64 la] w fun e w' => e = .returned (.bool true) ∧ Below w.heap.size w w' := by
  have hml : m ≤ 9223372036854775807 := by have := h.lc; have h2 : c ≤ 9223372036854775807 := this.2; omega
  have HA : Hid (ArgO w q m c O) := h
  have k1 := new_any w
  clear h
  go_enter Try.func5, Try.ntmps5
  go_wp2_with fail
  refine k1.mono ?_
  rintro e w1 ⟨rfl, hT, hB, hlt⟩
  obtain ⟨b, hb⟩ : ∃ b, b = w.heap.size := ⟨_, rfl⟩
  rw [← hb]
  have HO2 : Hid (Own w b w1) := ⟨⟨zS, 1, hb ▸ hT, inv_new⟩, hB⟩
  have hbb : w.heap.size ≤ b := by omega
  clear k1 hT hB hb hlt
  go_wp2
  go_loopw [6] (fun i wr => ∃ n : Nat, n ≤ m ∧ i = .int .i64 n ∧ Hid (Own w b wr)) (fun i _ => (m - intOf i).toNat)
  case atStart => exact ⟨0, by omega, rfl, HO2.out⟩
  case round =>
    clear HO2
    obtain ⟨n, hn, rfl, HR⟩ := hrel
    go_upto_region 5 with fail
    go_cut [25] (fun s wc => s = .bool (decide (n < m ∧ n < 400)) ∧ wc = wr)
    case first =>
      by_cases h1 : n < m
      · have g1 : (n : Int) < m := by omega
        by_cases h2 : n < 400
        · have g2 : (n : Int) < 400 := by omega
          have HE : Hid (decide (n < m ∧ n < 400) = true) := decide_eq_true ⟨h1, h2⟩
          go_wp2
          go_meet
          case rel => exact ⟨by rw [HE.out], rfl⟩
        · have g2 : ¬ (n : Int) < 400 := by omega
          have HE : Hid (decide (n < m ∧ n < 400) = false) := decide_eq_false (fun h => h2 h.2)
          go_wp2
          go_meet
          case rel => exact ⟨by rw [HE.out], rfl⟩
      · have g1 : ¬ (n : Int) < m := by omega
        have HE : Hid (decide (n < m ∧ n < 400) = false) := decide_eq_false (fun h => h1 h.1)
        go_wp2
        go_meet
        case rel => exact ⟨by rw [HE.out], rfl⟩
    case rest =>
      obtain ⟨rfl, hwc⟩ := hcut
      obtain rfl : wr = wc := hwc.symm
      by_cases hlt : n < m ∧ n < 400
      · rw [decide_eq_true hlt]
        obtain ⟨hlt, _⟩ := hlt
        have g0 : (n : Int) < m := by omega
        obtain ⟨ab, ao, rfl, c0, c1, c2, c3, c4⟩ := HA.out.cells HR.out.be n hlt
        obtain ⟨⟨P, nx, hT, hI⟩, hB⟩ := HR.out
        have kd := do_any hT hI (O n)
        rw [Opr.l] at kd
        clear hT hI
        go_wp2_with fail
        refine kd.mono ?_
        rintro e w3 hD
        have HO3 : Hid (Own w b w3) := HR.out.step hbb hD
        obtain ⟨rfl, _⟩ := hD
        clear kd c0 c1 c2 c3 c4 hB HR
        go_wp2
        exact ⟨⟨n + 1, by omega, rfl, HO3.out⟩, by simp only [intOf]; omega⟩
      · rw [decide_eq_false hlt]
        clear hlt hn HA
        obtain ⟨⟨P, nx, hT, hI⟩, hB⟩ := HR.out
        have HI : Hid (Inv P nx) := hI
        have H1 : Hid (Tb wr b P nx ∧ Below w.heap.size w wr) := ⟨hT, hB⟩
        clear hT hB HR hI
        obtain ⟨r, hr⟩ : ∃ r : Nat → Bool, r = fun i => (P i).st == 1 := ⟨_, rfl⟩
        have HRR : Hid (r = fun i => (P i).st == 1) := hr
        clear hr
        go_wp2
        go_loopw [7, 8] (fun cc i wr => ∃ j : Nat, j ≤ 64 ∧ i = .int .i64 j ∧ cc = .int .i64 (cnt r 0 j : Nat) ∧ Hid (Tb wr b P nx ∧ Below w.heap.size w wr)) (fun _ i _ => (64 - intOf i).toNat)
        case atStart => exact ⟨0, by omega, rfl, rfl, H1.out⟩
        case round =>
          clear H1
          obtain ⟨j, hj, rfl, rfl, HQ⟩ := hrel
          by_cases hl : j < 64
          · have g0 : (j : Int) < 64 := by omega
            have kl := look_any HQ.out.1 HI.out.n1 (j : Int)
            rw [lkP_in HI.out j hl, Pr.l] at kl
            have HS := cnt_succ r 0 j
            have hrj : r j = ((P j).st == 1) := by rw [HRR.out]
            rw [Nat.zero_add, Nat.mod_eq_of_lt hl, hrj] at HS
            have hle : cnt r 0 j ≤ 64 := by
              have := cnt_mono r 0 (show j ≤ 64 by omega)
              have h2 : cnt r 0 64 ≤ 64 := by
                have := List.countP_le_length (p := fun k => r ((0 + k) % 64)) (l := List.range 64)
                simpa [cnt] using this
              omega
            have KB : ∀ W', Below wr.heap.size wr W' → Hid (Tb W' b P nx ∧ Below w.heap.size w W') := fun W' hW => ⟨HQ.out.1.bel hW, HQ.out.2.trans (hW.mono HQ.out.2.size)⟩
            clear HQ
            cases h1 : ((P j).st == 1) with
            | true =>
              have HS' : Hid (cnt r 0 (j + 1) = cnt r 0 j + 1) := by rw [Hid, HS, h1]; rfl
              clear HS hrj
              generalize P j = pp at *
              go_wp2_with fail
              refine kl.mono ?_
              rintro e w3 ⟨rfl, hb⟩
              have HW := KB w3 hb
              clear KB kl hb
              go_wp2
              exact ⟨⟨j + 1, by omega, rfl, by rw [HS'.out]; rfl, HW.out⟩, by simp only [intOf]; omega⟩
            | false =>
              have HS' : Hid (cnt r 0 (j + 1) = cnt r 0 j) := by rw [Hid, HS, h1]; rfl
              clear HS hrj
              generalize P j = pp at *
              go_wp2_with fail
              refine kl.mono ?_
              rintro e w3 ⟨rfl, hb⟩
              have HW := KB w3 hb
              clear KB kl hb
              go_wp2
              exact ⟨⟨j + 1, by omega, rfl, by rw [HS'.out], HW.out⟩, by simp only [intOf]; omega⟩
          · obtain rfl : j = 64 := by omega
            clear hl hj
            obtain ⟨can, hcan⟩ : ∃ can, can = cnt r 0 64 := ⟨_, rfl⟩
            rw [← hcan]
            have HCN : Hid (can = cnt r 0 64) := hcan
            have hc64 : can ≤ 64 := by
              have := List.countP_le_length (p := fun k => r ((0 + k) % 64)) (l := List.range 64)
              rw [hcan]
              simpa [cnt] using this
            clear hcan
            go_upto_region 14 with fail
            refine wp_region_lit ?_
            refine Great.wpList_allocTo rfl _ rfl _ _ (alloc_seen _ _ rfl wr) ?_
            simp only [Act.put, List.setIfInBounds_toArray, List.set_cons_zero, List.set_cons_succ]
            have H2 : Hid (Tb (wr.alloc (.cells (sn fun _ => 0).toArray 50)) b P nx ∧ Below w.heap.size w (wr.alloc (.cells (sn fun _ => 0).toArray 50)) ∧ Sn (wr.alloc (.cells (sn fun _ => 0).toArray 50)) wr.heap.size (seenF r (pkF la) 0)) := ⟨HQ.out.1.bel (below1 _ _), HQ.out.2.trans ((below1 _ _).mono HQ.out.2.size), (sn_new wr _).congr (fun i _ => by simp [seenF])⟩
            have hyb : b < wr.heap.size := HQ.out.1.lt
            have hwy : w.heap.size ≤ wr.heap.size := HQ.out.2.size
            generalize wr.alloc (.cells (sn fun _ => 0).toArray 50) = w2 at *
            generalize wr.heap.size = y at *
            clear HQ
            have hf0 := pkF_le la
            have HCA : Hid (cnt r (pkF la) 64 = can) := by rw [Hid, cnt_all, HCN.out]
            have HP0 : Hid (∃ f0, f0 = pkF la) := ⟨_, rfl⟩
            obtain ⟨f0, hf⟩ := HP0.out
            rw [← hf] at H2 HCA hf0
            have HF0 : Hid (f0 = pkF la) := hf
            clear hf HP0
            go_wp2
            simp only [show ((64 : Nat) : Int) = 64 from rfl]
            go_loopw [1, 10] (fun l nn wr => ∃ (n D : Nat) (a : Int), n ≤ can ∧ nn = .int .i64 n ∧ l = .int .i64 a ∧ Hid (D ≤ 64 ∧ pkF a % 64 = (f0 + D) % 64 ∧ cnt r f0 D = n ∧ Tb wr b P nx ∧ Below w.heap.size w wr ∧ Sn wr y (seenF r f0 D))) (fun _ nn _ => (can - intOf nn).toNat)
            case atStart => exact ⟨0, 0, la, by omega, rfl, rfl, by omega, by rw [HF0.out, Nat.add_zero], rfl, H2.out⟩
            case round =>
              clear H2
              obtain ⟨n, D, a, hn, rfl, rfl, HV⟩ := hrel
              by_cases hnc : n < can
              · have g0 : (n : Int) < can := by omega
                obtain ⟨v1, v2, v3, t1, t2, t3⟩ := HV.out
                obtain ⟨k, e1, e2, e3, e4, e5, e6⟩ := turn_step v1 (by rw [v3, HCA.out]; exact hnc) v2
                have kp := pick_any t1 HI.out.n1 a
                rw [← HRR.out, e3] at kp
                simp only [rnI, Option.isSome] at kp
                have HS := seen_step hf0 e1 e2 e4 e6
                have hz := seen_at (r := r) (f0 := f0) hf0 e1 e2
                obtain ⟨z, hzz⟩ : ∃ z, z = (f0 + k) % 64 := ⟨_, rfl⟩
                have hz64 : z < 64 := by omega
                have hrz : (P z).st = 1 := by
                  rw [← hzz, HRR.out] at e4
                  simpa using e4
                rw [← hzz] at kp HS hz
                have HKK : Hid (k < 64 ∧ z = (f0 + k) % 64 ∧ cnt r f0 (k + 1) = n + 1 ∧ ∀ s, s < 64 → seenF r f0 (k + 1) s = if s = z then 1 else seenF r f0 D s) := ⟨e2, hzz, by rw [e5, v3], HS⟩
                have H3 : Hid (Tb wr b P nx ∧ Below w.heap.size w wr ∧ Sn wr y (seenF r f0 D)) := ⟨t1, t2, t3⟩
                have HZ : Hid (seenF r f0 D z = 0) := hz
                clear v1 v2 v3 t1 t2 t3 e1 e2 e3 e4 e5 e6 HV HS hzz hz
                go_wp2_with fail
                refine kp.mono ?_
                rintro e w3 ⟨rfl, hb⟩
                have H4 : Hid (Tb w3 b P nx ∧ Below w.heap.size w w3 ∧ Sn w3 y (seenF r f0 D)) := ⟨H3.out.1.bel hb, H3.out.2.1.trans (hb.mono H3.out.2.1.size), H3.out.2.2.bel hb⟩
                clear kp hb H3
                have sc := H4.out.2.2.c z hz64
                rw [HZ.out] at sc
                have kl := look_any H4.out.1 HI.out.n1 (z : Int)
                rw [lkP_in HI.out z hz64, Pr.l, hrz] at kl
                have gz : (z : Int) < 64 := by omega
                generalize P z = pp at *
                go_wp2_with fail
                refine kl.mono ?_
                rintro e w4 ⟨rfl, hb⟩
                have H5 : Hid (Tb w4 b P nx ∧ Below w.heap.size w w4 ∧ Sn w4 y (seenF r f0 D)) := ⟨H4.out.1.bel hb, H4.out.2.1.trans (hb.mono H4.out.2.1.size), H4.out.2.2.bel hb⟩
                clear kl hb H4 sc
                have sc := H5.out.2.2.c z hz64
                have sf := H5.out.2.2.f z hz64
                rw [HZ.out] at sc
                go_wp2
                refine ⟨⟨n + 1, k + 1, (z : Int), by omega, rfl, rfl, ?_⟩, by simp only [intOf]; omega⟩
                obtain ⟨x1, x2, x3, x4⟩ := HKK.out
                obtain ⟨t1, t2, t3⟩ := H5.out
                refine ⟨by omega, ?_, x3, ?_, ?_, ?_⟩
                · rw [pkF_nat z hz64]; omega
                · exact (Trn.setCell y _ _ _).tb t1 (by omega)
                · exact t2.setCell (p := ⟨y, z, .none⟩) hwy _
                · exact (t3.set z hz64 1).congr (fun i hi => (x4 i hi).symm)
              · obtain rfl : n = can := by omega
                obtain ⟨v1, v2, v3, t1, t2, t3⟩ := HV.out
                have kp := pick_any t1 HI.out.n1 a
                rw [← HRR.out] at kp
                have H3 : Hid (Tb wr b P nx ∧ Below w.heap.size w wr ∧ Sn wr y (seenF r f0 D)) := ⟨t1, t2, t3⟩
                by_cases h0 : n = 0
                · have e := cnt_zero (r := r) (p := pkF a) (by rw [← HCN.out, h0])
                  rw [e] at kp
                  simp only [rnI, Option.isSome] at kp
                  have g0 : (n : Int) = 0 := by omega
                  subst h0
                  clear HV v1 v2 v3 t1 t2 t3 e
                  go_wp2_with fail
                  refine kp.mono ?_
                  rintro e w3 ⟨rfl, hb⟩
                  have H4 : Hid (Below w.heap.size w w3) := H3.out.2.1.trans (hb.mono H3.out.2.1.size)
                  clear kp hb H3
                  go_wp2
                  go_ret
                  exact ⟨rfl, H4.out⟩
                · obtain ⟨z, e1, hz64, e3⟩ := cnt_pos (r := r) (p := pkF a) (by rw [← HCN.out]; omega)
                  rw [e1] at kp
                  simp only [rnI, Option.isSome] at kp
                  have HZ : Hid (seenF r f0 D z = 1) := seen_all hf0 v1 (by rw [v3, HCA.out]) z hz64 e3
                  have g0 : ((n : Int) == 0) = false := by simpa using h0
                  have g1 : ¬ ((n : Int) = 0) := by omega
                  clear HV v1 v2 v3 t1 t2 t3 e1 e3 h0
                  go_wp2_with fail
                  refine kp.mono ?_
                  rintro e w3 ⟨rfl, hb⟩
                  have H4 : Hid (Below w.heap.size w w3 ∧ Sn w3 y (seenF r f0 D)) := ⟨H3.out.2.1.trans (hb.mono H3.out.2.1.size), H3.out.2.2.bel hb⟩
                  clear kp hb H3
                  have sc := H4.out.2.c z hz64
                  rw [HZ.out] at sc
                  go_wp2
                  go_ret
                  exact ⟨rfl, H4.out.1⟩
end
end Go.Proofs.Ytnlbomggadflmaa
