import Derived.Test.YtblpdnchphhcaaaDoorFh
import Derived.Deep.MidRow
namespace Go.Proofs.YtblpdnchphhcaaaDoor
open Go.RowKit
set_option linter.unusedVariables false
set_option linter.unusedSimpArgs false
/-- The colours behind a call. -/
def colA (col : Nat → Nat) (s c : Nat) : Nat → Nat := fun k => if k < s then col k else c
theorem colA_lt {col : Nat → Nat} {s c k : Nat} (h : k < s) : colA col s c k = col k := if_pos h
theorem colA_ge {col : Nat → Nat} {s c k : Nat} (h : s ≤ k) : colA col s c k = c := if_neg (by omega)
open Classical in
noncomputable def colD (col : Nat → Nat) (s : Nat) (D : Nat → Prop) (c : Nat) : Nat → Nat := fun k => if k < s then col k else if D k then 2 else c
theorem colD_lt {col : Nat → Nat} {s c k : Nat} {D : Nat → Prop} (h : k < s) : colD col s D c k = col k := if_pos h
theorem colD_in {col : Nat → Nat} {s c k : Nat} {D : Nat → Prop} (h : s ≤ k) (hd : D k) : colD col s D c k = 2 := by unfold colD; rw [if_neg (by omega), if_pos hd]
theorem colD_out {col : Nat → Nat} {s c k : Nat} {D : Nat → Prop} (h : s ≤ k) (hd : ¬ D k) : colD col s D c k = c := by unfold colD; rw [if_neg (by omega), if_neg hd]
/-- The loop's own. -/
def FzL (w wr : World) (b dd pb M : Nat) (v5 v6 : Value) : Prop := ∃ (L : List (Value × Value × List Int)) (rs ls : List Int) (D : Nat → Prop) (col : Nat → Nat), L.length = M ∧ Fz w wr b dd pb D rs ls rs ls v5 v6 (L.map (·.1)) (L.map (·.2.1)) L col
set_option maxHeartbeats 32000000 in
set_option maxRecDepth 100000 in
theorem fresh_any {w : World} {p : Option Addr} {n c : Nat} {xs : List Int} (hB : Byt w p n c xs) (hx : ∀ x ∈ xs, 0 ≤ x ∧ x < 256) (hd : Dd w) :
    Calls Tryd.prog 8 #[.slice p n c] w fun e w' => e = .returned (.bool true) ∧ Below w.heap.size w w' := by
  have hl := hB.1
  have hnc := hB.2.1
  have hcm : c ≤ 9223372036854775807 := hB.2.2.1
  have HB : Hid (Byt w p n c xs) := hB
  have HX : Hid (∀ x ∈ xs, 0 ≤ x ∧ x < 256) := hx
  have HD : Hid (Dd w) := hd
  have HL : Hid (xs.length = n) := hl
  clear hB hx hd hl
  obtain ⟨i9, z9, hi9, hz9, hs9, hb9, hzs9⟩ := info22
  have HJ : Hid (Tryd.prog.info? 22 = some i9 ∧ i9.zero = some z9 ∧ i9.size = 1 ∧ i9.bytes = 24 ∧ z9.cells.size = 1) := ⟨hi9, hz9, hs9, hb9, hzs9⟩
  clear hi9 hz9 hs9 hb9 hzs9
  go_enter Tryd.func8, Tryd.ntmps8
  go_wp2_with fail
  refine (new_any w).mono ?_
  rintro e W1 ⟨rfl, hC, hb1⟩
  have H1 : Hid (Con W1 w.heap.size [] [] ∧ Below w.heap.size w W1 ∧ w.heap.size < W1.heap.size) := ⟨hC, hb1, hC.lt⟩
  clear hC hb1
  go_wp2_with fail
  refine (dnew_any W1).mono ?_
  rintro e W2 ⟨rfl, hDc, hb2⟩
  have H2 : Hid (Con W2 w.heap.size [] [] ∧ Below w.heap.size w W2 ∧ Doc W2 W1.heap.size (fun k => k = W1.heap.size) [] [] ∧ w.heap.size < W1.heap.size ∧ W1.heap.size < W2.heap.size) := by
    have hlt : W1.heap.size < W2.heap.size := by obtain ⟨vD, vL, h, _⟩ := hDc; exact h.lt
    exact ⟨H1.out.1.below hb2, H1.out.2.1.trans (hb2.mono H1.out.2.1.size), hDc, H1.out.2.2, hlt⟩
  clear hDc hb2 H1
  go_upto_region 5 with fail
  have hb3 := Trn.new W2 (.cells #[.pointer (some ⟨w.heap.size, 0, .none⟩), .pointer (some ⟨W1.heap.size, 0, .none⟩)] 65)
  have k0 : (W2.alloc (.cells #[.pointer (some ⟨w.heap.size, 0, .none⟩), .pointer (some ⟨W1.heap.size, 0, .none⟩)] 65)).cell? ⟨W2.heap.size, 0, .none⟩ = some (.pointer (some ⟨w.heap.size, 0, .none⟩)) := by rw [World.cell?_alloc_at _ _ _ _ rfl]; rfl
  have k1 : (W2.alloc (.cells #[.pointer (some ⟨w.heap.size, 0, .none⟩), .pointer (some ⟨W1.heap.size, 0, .none⟩)] 65)).cell? ⟨W2.heap.size, 1, .none⟩ = some (.pointer (some ⟨W1.heap.size, 0, .none⟩)) := by rw [World.cell?_alloc_at _ _ _ _ rfl]; rfl
  generalize W2.alloc (.cells #[.pointer (some ⟨w.heap.size, 0, .none⟩), .pointer (some ⟨W1.heap.size, 0, .none⟩)] 65) = W3 at *
  have H3 : Hid (FzL w W3 w.heap.size W1.heap.size W2.heap.size 0 (.slice none 0 0) (.slice none 0 0)) := by
    have h := H2.out
    have hs := hb3.size
    refine ⟨[], [], [], fun k => k = W1.heap.size, colA (colA (colA (fun _ => 0) w.heap.size 1) W1.heap.size 2) W2.heap.size 3, rfl, ⟨h.2.1.trans (hb3.mono h.2.1.size), h.1.below hb3, h.2.2.1.below hb3, k0, k1, World.ownsRow_nil _ _ _ _, World.ownsRow_nil _ _ _ _, fun i r hr => by simp at hr, fun k hk => ?_, ?_, fun k hk => ⟨?_, ?_⟩, ?_, (fun k hk => by cases hk), (fun k hk => by cases hk), fun i r hr => by simp at hr⟩⟩
    · rw [colA_lt (by omega), colA_lt (by omega), colA_lt hk]
    · rw [colA_lt (by omega), colA_lt (by omega), colA_ge (Nat.le_refl _)]
    · rw [hk, colA_lt (by omega), colA_ge (Nat.le_refl _)]
    · omega
    · rw [colA_ge (Nat.le_refl _)]
  clear hb3 k0 k1 H2
  obtain ⟨b, hb⟩ : ∃ b, b = w.heap.size := ⟨_, rfl⟩
  rw [← hb]
  have H3b : Hid (FzL w W3 b W1.heap.size W2.heap.size 0 (.slice none 0 0) (.slice none 0 0)) := by rw [hb]; exact H3.out
  clear hb H3
  generalize W1.heap.size = dd at *
  generalize W2.heap.size = pb at *
  go_wp2
  go_loopw [5, 6, 7] (fun v5 v6 v7 wr => ∃ (I M : Nat) (kp wp : Option Addr) (kc wc : Nat), v7 = .int .i64 I ∧ I ≤ n ∧ M ≤ 90 ∧ v5 = .slice kp M kc ∧ v6 = .slice wp M wc ∧ Hid (FzL w wr b dd pb M (.slice kp M kc) (.slice wp M wc))) (fun _ _ v7 _ => (n - intOf v7).toNat)
  case atStart => exact ⟨0, 0, none, none, 0, 0, rfl, by omega, by omega, rfl, rfl, H3b.out⟩
  case round =>
    clear H3b
    obtain ⟨I, M, kp, wp, kc, wc0, rfl, hIn, hM, rfl, rfl, HF⟩ := hrel
    go_upto_region 8 with fail
    go_cut [33] (fun s33 wc => s33 = .bool (decide (I < n ∧ M < 90)) ∧ wc = wr)
    case first =>
      by_cases h1 : I < n
      · have g1 : (I : Int) < n := by omega
        by_cases h2 : M < 90
        · have g2 : (M : Int) < 90 := by omega
          have HE : Hid (decide (I < n ∧ M < 90) = true) := decide_eq_true ⟨h1, h2⟩
          go_wp2
          go_meet
          case rel => exact ⟨by rw [HE.out], rfl⟩
        · have g2 : ¬ (M : Int) < 90 := by omega
          have HE : Hid (decide (I < n ∧ M < 90) = false) := decide_eq_false (fun h => h2 h.2)
          go_wp2
          go_meet
          case rel => exact ⟨by rw [HE.out], rfl⟩
      · have g1 : ¬ (I : Int) < n := by omega
        have HE : Hid (decide (I < n ∧ M < 90) = false) := decide_eq_false (fun h => h1 h.1)
        go_wp2
        go_meet
        case rel => exact ⟨by rw [HE.out], rfl⟩
    case rest =>
      obtain ⟨rfl, hwc⟩ := hcut
      obtain rfl : wr = wc := hwc.symm
      by_cases hlt : I < n ∧ M < 90
      · rw [decide_eq_true hlt]
        obtain ⟨hI, hM90⟩ := hlt
        obtain ⟨bb, oo, rfl, hbb, hcl⟩ : ∃ bb oo, p = some ⟨bb, oo, .none⟩ ∧ bb < w.heap.size ∧ ∀ i x, xs[i]? = some x → w.cell? ⟨bb, oo + i, .none⟩ = some (.int .u8 x) := by
          rcases HB.out.2.2.2 with h0 | ⟨bb, oo, h1, h2, h3⟩
          · omega
          · exact ⟨bb, oo, h1, h2, h3⟩
        have HC : Hid (∀ (V : World) i x, Below w.heap.size w V → xs[i]? = some x → V.cell? ⟨bb, oo + i, .none⟩ = some (.int .u8 x)) := fun V i x hV hx => (hV.cell (p := ⟨bb, oo + i, .none⟩) hbb).trans (hcl i x hx)
        obtain ⟨x, hx⟩ : ∃ x, xs[I]? = some x := ⟨xs[I]'(by rw [HL.out]; omega), by simp⟩
        have HXI : Hid (xs[I]? = some x) := hx
        have hxb : 0 ≤ x ∧ x < 256 := HX.out x (List.mem_of_getElem? hx)
        obtain ⟨L, rs, ls, D, col, hLM, hFz⟩ := HF.out
        have HLM : Hid (L.length = M) := hLM
        have HZ : Hid (Fz w wr b dd pb D rs ls rs ls (.slice kp M kc) (.slice wp M wc0) (L.map (·.1)) (L.map (·.2.1)) L col) := hFz
        clear hcl hx hbb hLM hFz HF
        have a0 : wr.cell? ⟨bb, oo + I, .none⟩ = some (.int .u8 x) := HC.out wr I x HZ.out.bel HXI.out
        have g1 : (I : Int) < n := by omega
        go_upto_region 10 with fail
        go_cut [47] (fun s47 wc => s47 = .bool (decide (x = 255 ∧ I + 1 < n)) ∧ wc = wr)
        case first =>
          by_cases h1 : x = 255
          · have i1 : (x == 255) = true := by simpa using h1
            by_cases h2 : I + 1 < n
            · have g2 : (I : Int) + 1 < n := by omega
              have HE : Hid (decide (x = 255 ∧ I + 1 < n) = true) := decide_eq_true ⟨h1, h2⟩
              clear h1
              go_wp2
              go_meet
              case rel => exact ⟨by rw [HE.out], rfl⟩
            · have g2 : ¬ (I : Int) + 1 < n := by omega
              have HE : Hid (decide (x = 255 ∧ I + 1 < n) = false) := decide_eq_false (fun h => h2 h.2)
              clear h1
              go_wp2
              go_meet
              case rel => exact ⟨by rw [HE.out], rfl⟩
          · have i1 : (x == 255) = false := by simpa using h1
            have HE : Hid (decide (x = 255 ∧ I + 1 < n) = false) := decide_eq_false (fun h => h1 h.1)
            clear h1
            go_wp2
            go_meet
            case rel => exact ⟨by rw [HE.out], rfl⟩
        case rest =>
          obtain ⟨rfl, hwc⟩ := hcut
          obtain rfl : wr = wc := hwc.symm
          have HXB : Hid (0 ≤ x ∧ x < 256) := hxb
          clear hxb
          by_cases hA : x = 255 ∧ I + 1 < n
          · rw [decide_eq_true hA]
            obtain ⟨_, hI1⟩ := hA
            obtain ⟨y, hy⟩ : ∃ y, xs[I + 1]? = some y := ⟨xs[I + 1]'(by rw [HL.out]; omega), by simp⟩
            have HYI : Hid (xs[I + 1]? = some y) := hy
            have hyb : 0 ≤ y ∧ y < 256 := HX.out y (List.mem_of_getElem? hy)
            clear hy a0
            have g2 : (I : Int) + 1 < n := by omega
            have g3 : (0 : Int) ≤ (I : Int) + 1 := by omega
            have wy : IntKind.i64.wrap y = y := by rw [IntKind.wrap_i64]; omega
            have wy1 : IntKind.i64.wrap (1 + y) = 1 + y := by rw [IntKind.wrap_i64]; omega
            have CC : Hid (∀ V, Con V b rs ls → Dd V → Calls Tryd.prog 14 #[.pointer (some ⟨b, 0, .none⟩), .int .i64 (1 + y)] V (Ty V b (rs.drop (nxG rs (1 + y))) ls (rs.take (nxT rs (1 + y))) (decide (0 < rs.length)))) := fun V hV _ => take_all hV (1 + y)
            have CD : Hid (∀ V D, Doc V dd D rs ls → Calls Tryd.prog 29 #[.pointer (some ⟨dd, 0, .none⟩), .int .i64 (1 + y)] V (DTy V dd D (rs.drop (nxG rs (1 + y))) ls (rs.take (nxT rs (1 + y))) (decide (0 < rs.length)))) := fun V D hV => rtake_any hV (1 + y)
            have HEl : Hid ((rs.take (nxT rs (1 + y))).length ≤ 1000) := by show _ ≤ _; rw [List.length_take]; have := HZ.out.con.le; omega
            have HR2 : Hid (ls = ls) := rfl
            generalize rs.drop (nxG rs (1 + y)) = R2 at CC CD
            generalize rs.take (nxT rs (1 + y)) = E2 at CC CD HEl
            generalize decide (0 < rs.length) = B2 at CC CD
            obtain ⟨L2, hL2⟩ : ∃ L2, L2 = ls := ⟨_, rfl⟩
            have CC : Hid (∀ V, Con V b rs ls → Dd V → Calls Tryd.prog 14 #[.pointer (some ⟨b, 0, .none⟩), .int .i64 (1 + y)] V (Ty V b R2 L2 E2 B2)) := by rw [hL2]; exact CC
            have CD : Hid (∀ V D, Doc V dd D rs ls → Calls Tryd.prog 29 #[.pointer (some ⟨dd, 0, .none⟩), .int .i64 (1 + y)] V (DTy V dd D R2 L2 E2 B2)) := by rw [hL2]; exact CD
            clear hL2 HR2
            go_upto_region 12 with fail
            have kS : wr.drew.cell? ⟨pb, 0, .none⟩ = some (.pointer (some ⟨b, 0, .none⟩)) ∧ wr.drew.cell? ⟨bb, oo + (I + 1), .none⟩ = some (.int .u8 y) := ⟨(HZ.out.drewN 1).p0, HC.out wr.drew (I + 1) y (HZ.out.drewN 1).bel HYI.out⟩
            refine wp_region_held_drew (S := fun U => U.cell? ⟨pb, 0, .none⟩ = some (.pointer (some ⟨b, 0, .none⟩)) ∧ U.cell? ⟨bb, oo + (I + 1), .none⟩ = some (.int .u8 y)) (by kernel_rfl) kS (fun hHeld => ?_)
            refine wpAnyH_take (i := 0) (v := (.pointer (some ⟨pb, 0, .none⟩))) rfl (by kernel_rfl) (by kernel_rfl) (by kernel_rfl) (fun _ _ _ h => h) (Or.inl ⟨by rfl, fun ww hSw => by (try dsimp only at hSw); go_simp⟩) (by assumption) ?_
            simp only [Act.put, List.setIfInBounds_toArray, List.set_cons_zero, List.set_cons_succ, List.getElem_toArray, List.getElem_cons_succ, List.getElem_cons_zero]
            refine wpAnyH_take (i := 1) (v := (.pointer (some ⟨pb, 0, .none⟩))) rfl (by kernel_rfl) (by kernel_rfl) (by kernel_rfl) (fun _ _ _ h => h) (Or.inl ⟨by rfl, fun ww hSw => by (try dsimp only at hSw); go_simp⟩) (by assumption) ?_
            simp only [Act.put, List.setIfInBounds_toArray, List.set_cons_zero, List.set_cons_succ, List.getElem_toArray, List.getElem_cons_succ, List.getElem_cons_zero]
            refine wpAnyH_take (i := 2) (v := (.pointer (some ⟨pb, 0, .none⟩))) rfl (by kernel_rfl) (by kernel_rfl) (by kernel_rfl) (fun _ _ _ h => h) (Or.inl ⟨by rfl, fun ww hSw => by (try dsimp only at hSw); go_simp⟩) (by assumption) ?_
            simp only [Act.put, List.setIfInBounds_toArray, List.set_cons_zero, List.set_cons_succ, List.getElem_toArray, List.getElem_cons_succ, List.getElem_cons_zero]
            refine wpAnyH_take (i := 3) (v := (.pointer (some ⟨b, 0, .none⟩))) rfl (by kernel_rfl) (by kernel_rfl) (by kernel_rfl) (fun _ _ _ h => h) (Or.inl ⟨by rfl, fun ww hSw => by (try dsimp only at hSw); go_simp⟩) (by assumption) ?_
            simp only [Act.put, List.setIfInBounds_toArray, List.set_cons_zero, List.set_cons_succ, List.getElem_toArray, List.getElem_cons_succ, List.getElem_cons_zero]
            refine wpAnyH_take (i := 4) (v := (.slice (some ⟨bb, oo, .none⟩) n c)) rfl (by kernel_rfl) (by kernel_rfl) (by kernel_rfl) (fun _ _ _ h => h) (Or.inl ⟨by rfl, fun ww hSw => by (try dsimp only at hSw); go_simp⟩) (by assumption) ?_
            simp only [Act.put, List.setIfInBounds_toArray, List.set_cons_zero, List.set_cons_succ, List.getElem_toArray, List.getElem_cons_succ, List.getElem_cons_zero]
            refine wpAnyH_take (i := 5) (v := (.int .i64 ((I : Int) + 1))) rfl (by kernel_rfl) (by kernel_rfl) (by kernel_rfl) (fun _ _ _ h => h) (Or.inl ⟨by rfl, fun ww hSw => by (try dsimp only at hSw); go_simp⟩) (by assumption) ?_
            simp only [Act.put, List.setIfInBounds_toArray, List.set_cons_zero, List.set_cons_succ, List.getElem_toArray, List.getElem_cons_succ, List.getElem_cons_zero]
            refine wpAnyH_take (i := 6) (v := (.pointer (some ⟨bb, oo + (I + 1), .none⟩))) rfl (by kernel_rfl) (by kernel_rfl) (by kernel_rfl) (fun _ _ _ h => h) (Or.inl ⟨by rfl, fun ww hSw => by (try dsimp only at hSw); go_simp⟩) (by assumption) ?_
            simp only [Act.put, List.setIfInBounds_toArray, List.set_cons_zero, List.set_cons_succ, List.getElem_toArray, List.getElem_cons_succ, List.getElem_cons_zero]
            refine wpAnyH_take (i := 7) (v := (.int .u8 y)) rfl (by kernel_rfl) (by kernel_rfl) (by kernel_rfl) (fun _ _ _ h => h) (Or.inl ⟨by rfl, fun ww hSw => by (try dsimp only at hSw); go_simp⟩) (by assumption) ?_
            simp only [Act.put, List.setIfInBounds_toArray, List.set_cons_zero, List.set_cons_succ, List.getElem_toArray, List.getElem_cons_succ, List.getElem_cons_zero]
            refine wpAnyH_take (i := 8) (v := (.int .i64 y)) rfl (by kernel_rfl) (by kernel_rfl) (by kernel_rfl) (fun _ _ _ h => h) (Or.inl ⟨by rfl, fun ww hSw => by (try dsimp only at hSw); go_simp⟩) (by assumption) ?_
            simp only [Act.put, List.setIfInBounds_toArray, List.set_cons_zero, List.set_cons_succ, List.getElem_toArray, List.getElem_cons_succ, List.getElem_cons_zero]
            refine wpAnyH_take (i := 9) (v := (.int .i64 (1 + y))) rfl (by kernel_rfl) (by kernel_rfl) (by kernel_rfl) (fun _ _ _ h => h) (Or.inl ⟨by rfl, fun ww hSw => by (try dsimp only at hSw); go_simp⟩) (by assumption) ?_
            simp only [Act.put, List.setIfInBounds_toArray, List.set_cons_zero, List.set_cons_succ, List.getElem_toArray, List.getElem_cons_succ, List.getElem_cons_zero]
            refine wpAnyH_ready (rs := [10]) (by kernel_rfl) (by simp) ?_
            refine AllReadyH.cons rfl (fun K hK => ?_) AllReadyH.nil
            go_simp
            refine (CC.out wr.drew (HZ.out.drewN 1).con (HD.out.below (HZ.out.drewN 1).bel)).mono ?_
            rintro e V1 ⟨px, cx, rfl, hO, hC, hT⟩
            have HZ1 : Hid (Fz w V1 b dd pb D R2 L2 rs ls (.slice kp M kc) (.slice wp M wc0) (L.map (·.1)) (L.map (·.2.1)) L (colA col wr.heap.size (6 + 2 * M))) := by
              have h := (HZ.out.drewN 1).recol (col' := colA col wr.heap.size (6 + 2 * M)) (fun k hk => colA_lt hk)
              exact h.con' hT hC
            have HRX : Hid (V1.ownsRow wr.heap.size 5 1 (.slice px E2.length cx) E2.length (by8 E2) ∧ wr.heap.size ≤ V1.heap.size) := ⟨hO, hT.size⟩
            have kS1 : V1.cell? ⟨pb, 0, .none⟩ = some (.pointer (some ⟨b, 0, .none⟩)) ∧ V1.cell? ⟨bb, oo + (I + 1), .none⟩ = some (.int .u8 y) := ⟨HZ1.out.p0, HC.out V1 (I + 1) y HZ1.out.bel HYI.out⟩
            clear hO hC hT kS HZ
            refine hK.out _ _ kS1 (fun hHeld => ?_)
            clear hK K
            try simp only [Act.put, List.setIfInBounds_toArray, List.set_cons_zero, List.set_cons_succ, List.getElem_toArray, List.getElem_cons_succ, List.getElem_cons_zero]
            refine wpAnyH_take (i := 11) (v := (.tuple #[.slice px E2.length cx, .bool B2])) rfl (by kernel_rfl) (by kernel_rfl) (by kernel_rfl) (fun _ _ _ h => h) (Or.inl ⟨by rfl, fun ww hSw => by (try dsimp only at hSw); go_simp⟩) (by assumption) ?_
            simp only [Act.put, List.setIfInBounds_toArray, List.set_cons_zero, List.set_cons_succ, List.getElem_toArray, List.getElem_cons_succ, List.getElem_cons_zero]
            refine wpAnyH_take (i := 12) (v := (.slice px E2.length cx)) rfl (by kernel_rfl) (by kernel_rfl) (by kernel_rfl) (fun _ _ _ h => h) (Or.inl ⟨by rfl, fun ww hSw => by (try dsimp only at hSw); go_simp⟩) (by assumption) ?_
            simp only [Act.put, List.setIfInBounds_toArray, List.set_cons_zero, List.set_cons_succ, List.getElem_toArray, List.getElem_cons_succ, List.getElem_cons_zero]
            refine wpAnyH_take (i := 13) (v := (.bool B2)) rfl (by kernel_rfl) (by kernel_rfl) (by kernel_rfl) (fun _ _ _ h => h) (Or.inl ⟨by rfl, fun ww hSw => by (try dsimp only at hSw); go_simp⟩) (by assumption) ?_
            simp only [Act.put, List.setIfInBounds_toArray, List.set_cons_zero, List.set_cons_succ, List.getElem_toArray, List.getElem_cons_succ, List.getElem_cons_zero]
            refine wpAnyH_take (i := 14) (v := (.slice px E2.length cx)) rfl (by kernel_rfl) (by kernel_rfl) (by kernel_rfl) (fun _ _ _ h => h) (Or.inl ⟨by rfl, fun ww hSw => by (try dsimp only at hSw); go_simp⟩) (by assumption) ?_
            simp only [Act.put, List.setIfInBounds_toArray, List.set_cons_zero, List.set_cons_succ, List.getElem_toArray, List.getElem_cons_succ, List.getElem_cons_zero]
            refine wpAnyH_take (i := 15) (v := (.bool B2)) rfl (by kernel_rfl) (by kernel_rfl) (by kernel_rfl) (fun _ _ _ h => h) (Or.inl ⟨by rfl, fun ww hSw => by (try dsimp only at hSw); go_simp⟩) (by assumption) ?_
            simp only [Act.put, List.setIfInBounds_toArray, List.set_cons_zero, List.set_cons_succ, List.getElem_toArray, List.getElem_cons_succ, List.getElem_cons_zero]
            refine wpAnyH_done (by kernel_rfl) ?_ _
            clear hHeld kS1
            go_upto_region 13 with fail
            have kS : V1.drew.cell? ⟨pb, 1, .none⟩ = some (.pointer (some ⟨dd, 0, .none⟩)) ∧ V1.drew.cell? ⟨bb, oo + (I + 1), .none⟩ = some (.int .u8 y) := ⟨(HZ1.out.drewN 1).p1, HC.out V1.drew (I + 1) y (HZ1.out.drewN 1).bel HYI.out⟩
            refine wp_region_held_drew (S := fun U => U.cell? ⟨pb, 1, .none⟩ = some (.pointer (some ⟨dd, 0, .none⟩)) ∧ U.cell? ⟨bb, oo + (I + 1), .none⟩ = some (.int .u8 y)) (by kernel_rfl) kS (fun hHeld => ?_)
            refine wpAnyH_take (i := 0) (v := (.pointer (some ⟨pb, 0, .none⟩))) rfl (by kernel_rfl) (by kernel_rfl) (by kernel_rfl) (fun _ _ _ h => h) (Or.inl ⟨by rfl, fun ww hSw => by (try dsimp only at hSw); go_simp⟩) (by assumption) ?_
            simp only [Act.put, List.setIfInBounds_toArray, List.set_cons_zero, List.set_cons_succ, List.getElem_toArray, List.getElem_cons_succ, List.getElem_cons_zero]
            refine wpAnyH_take (i := 1) (v := (.pointer (some ⟨pb, 0, .none⟩))) rfl (by kernel_rfl) (by kernel_rfl) (by kernel_rfl) (fun _ _ _ h => h) (Or.inl ⟨by rfl, fun ww hSw => by (try dsimp only at hSw); go_simp⟩) (by assumption) ?_
            simp only [Act.put, List.setIfInBounds_toArray, List.set_cons_zero, List.set_cons_succ, List.getElem_toArray, List.getElem_cons_succ, List.getElem_cons_zero]
            refine wpAnyH_take (i := 2) (v := (.pointer (some ⟨pb, 1, .none⟩))) rfl (by kernel_rfl) (by kernel_rfl) (by kernel_rfl) (fun _ _ _ h => h) (Or.inl ⟨by rfl, fun ww hSw => by (try dsimp only at hSw); go_simp⟩) (by assumption) ?_
            simp only [Act.put, List.setIfInBounds_toArray, List.set_cons_zero, List.set_cons_succ, List.getElem_toArray, List.getElem_cons_succ, List.getElem_cons_zero]
            refine wpAnyH_take (i := 3) (v := (.pointer (some ⟨dd, 0, .none⟩))) rfl (by kernel_rfl) (by kernel_rfl) (by kernel_rfl) (fun _ _ _ h => h) (Or.inl ⟨by rfl, fun ww hSw => by (try dsimp only at hSw); go_simp⟩) (by assumption) ?_
            simp only [Act.put, List.setIfInBounds_toArray, List.set_cons_zero, List.set_cons_succ, List.getElem_toArray, List.getElem_cons_succ, List.getElem_cons_zero]
            refine wpAnyH_take (i := 4) (v := (.slice (some ⟨bb, oo, .none⟩) n c)) rfl (by kernel_rfl) (by kernel_rfl) (by kernel_rfl) (fun _ _ _ h => h) (Or.inl ⟨by rfl, fun ww hSw => by (try dsimp only at hSw); go_simp⟩) (by assumption) ?_
            simp only [Act.put, List.setIfInBounds_toArray, List.set_cons_zero, List.set_cons_succ, List.getElem_toArray, List.getElem_cons_succ, List.getElem_cons_zero]
            refine wpAnyH_take (i := 5) (v := (.int .i64 ((I : Int) + 1))) rfl (by kernel_rfl) (by kernel_rfl) (by kernel_rfl) (fun _ _ _ h => h) (Or.inl ⟨by rfl, fun ww hSw => by (try dsimp only at hSw); go_simp⟩) (by assumption) ?_
            simp only [Act.put, List.setIfInBounds_toArray, List.set_cons_zero, List.set_cons_succ, List.getElem_toArray, List.getElem_cons_succ, List.getElem_cons_zero]
            refine wpAnyH_take (i := 6) (v := (.pointer (some ⟨bb, oo + (I + 1), .none⟩))) rfl (by kernel_rfl) (by kernel_rfl) (by kernel_rfl) (fun _ _ _ h => h) (Or.inl ⟨by rfl, fun ww hSw => by (try dsimp only at hSw); go_simp⟩) (by assumption) ?_
            simp only [Act.put, List.setIfInBounds_toArray, List.set_cons_zero, List.set_cons_succ, List.getElem_toArray, List.getElem_cons_succ, List.getElem_cons_zero]
            refine wpAnyH_take (i := 7) (v := (.int .u8 y)) rfl (by kernel_rfl) (by kernel_rfl) (by kernel_rfl) (fun _ _ _ h => h) (Or.inl ⟨by rfl, fun ww hSw => by (try dsimp only at hSw); go_simp⟩) (by assumption) ?_
            simp only [Act.put, List.setIfInBounds_toArray, List.set_cons_zero, List.set_cons_succ, List.getElem_toArray, List.getElem_cons_succ, List.getElem_cons_zero]
            refine wpAnyH_take (i := 8) (v := (.int .i64 y)) rfl (by kernel_rfl) (by kernel_rfl) (by kernel_rfl) (fun _ _ _ h => h) (Or.inl ⟨by rfl, fun ww hSw => by (try dsimp only at hSw); go_simp⟩) (by assumption) ?_
            simp only [Act.put, List.setIfInBounds_toArray, List.set_cons_zero, List.set_cons_succ, List.getElem_toArray, List.getElem_cons_succ, List.getElem_cons_zero]
            refine wpAnyH_take (i := 9) (v := (.int .i64 (1 + y))) rfl (by kernel_rfl) (by kernel_rfl) (by kernel_rfl) (fun _ _ _ h => h) (Or.inl ⟨by rfl, fun ww hSw => by (try dsimp only at hSw); go_simp⟩) (by assumption) ?_
            simp only [Act.put, List.setIfInBounds_toArray, List.set_cons_zero, List.set_cons_succ, List.getElem_toArray, List.getElem_cons_succ, List.getElem_cons_zero]
            refine wpAnyH_ready (rs := [10]) (by kernel_rfl) (by simp) ?_
            refine AllReadyH.cons rfl (fun K hK => ?_) AllReadyH.nil
            go_simp
            refine (CD.out V1.drew D (HZ1.out.drewN 1).doc).mono ?_
            rintro e V3 ⟨py, cy, D', rfl, hO, hDoc, hChg, hD1, hDr, hDl⟩
            have HZ3 : Hid (Fz w V3 b dd pb D' R2 L2 R2 L2 (.slice kp M kc) (.slice wp M wc0) (L.map (·.1)) (L.map (·.2.1)) (L ++ [(.slice px E2.length cx, .slice py E2.length cy, E2)]) (colD (colA col wr.heap.size (6 + 2 * M)) V1.heap.size D' (7 + 2 * M))) := by
              have h := (HZ1.out.drewN 1).recol (col' := colD (colA col wr.heap.size (6 + 2 * M)) V1.heap.size D' (7 + 2 * M)) (fun k hk => colD_lt hk)
              have hx := HRX.out
              have hxo : ∀ g, (Value.slice px E2.length cx).ownBlock = some g → colD (colA col wr.heap.size (6 + 2 * M)) V1.heap.size D' (7 + 2 * M) g = 6 + 2 * M := fun g hg => by
                rw [colD_lt (own_ltC hx.1 g hg), colA_ge (own_block hx.1 g hg)]
              have hz : V1.drew.heap.size = V1.heap.size := rfl
              rw [hz] at hO hD1
              have h3 := h.doc' hChg hDoc (fun k hk => ⟨?_, hDl k hk⟩)
              · have := h3.push (v := .slice px E2.length cx) (u := .slice py E2.length cy) (xs := E2) (own_mono (hChg.own (show V1.drew.ownsRow wr.heap.size 5 1 (.slice px E2.length cx) E2.length (by8 E2) from hx.1) (fun g hg e => ?_)) (Nat.zero_le _)) (own_mono hO (Nat.zero_le _)) HEl.out (fun k hk => by rw [HLM.out]; exact hxo k hk) (fun k hk => by rw [HLM.out]; exact colD_out (own_block hO k hk) (hDr k hk))
                · exact this
                · have h1 := hxo g hg
                  have h2 := (h.cD g e).1
                  omega
              · by_cases hk2 : k < V1.heap.size
                · exact (h.cD k (hD1 k hk hk2)).1
                · exact colD_in (by omega) hk
            have kS1 : V3.cell? ⟨pb, 1, .none⟩ = some (.pointer (some ⟨dd, 0, .none⟩)) ∧ V3.cell? ⟨bb, oo + (I + 1), .none⟩ = some (.int .u8 y) := ⟨HZ3.out.p1, HC.out V3 (I + 1) y HZ3.out.bel HYI.out⟩
            clear hO hDoc hChg hD1 hDr hDl kS HZ1 HRX
            refine hK.out _ _ kS1 (fun hHeld => ?_)
            clear hK K
            try simp only [Act.put, List.setIfInBounds_toArray, List.set_cons_zero, List.set_cons_succ, List.getElem_toArray, List.getElem_cons_succ, List.getElem_cons_zero]
            refine wpAnyH_take (i := 11) (v := (.tuple #[.slice py E2.length cy, .bool B2])) rfl (by kernel_rfl) (by kernel_rfl) (by kernel_rfl) (fun _ _ _ h => h) (Or.inl ⟨by rfl, fun ww hSw => by (try dsimp only at hSw); go_simp⟩) (by assumption) ?_
            simp only [Act.put, List.setIfInBounds_toArray, List.set_cons_zero, List.set_cons_succ, List.getElem_toArray, List.getElem_cons_succ, List.getElem_cons_zero]
            refine wpAnyH_take (i := 12) (v := (.slice py E2.length cy)) rfl (by kernel_rfl) (by kernel_rfl) (by kernel_rfl) (fun _ _ _ h => h) (Or.inl ⟨by rfl, fun ww hSw => by (try dsimp only at hSw); go_simp⟩) (by assumption) ?_
            simp only [Act.put, List.setIfInBounds_toArray, List.set_cons_zero, List.set_cons_succ, List.getElem_toArray, List.getElem_cons_succ, List.getElem_cons_zero]
            refine wpAnyH_take (i := 13) (v := (.bool B2)) rfl (by kernel_rfl) (by kernel_rfl) (by kernel_rfl) (fun _ _ _ h => h) (Or.inl ⟨by rfl, fun ww hSw => by (try dsimp only at hSw); go_simp⟩) (by assumption) ?_
            simp only [Act.put, List.setIfInBounds_toArray, List.set_cons_zero, List.set_cons_succ, List.getElem_toArray, List.getElem_cons_succ, List.getElem_cons_zero]
            refine wpAnyH_take (i := 14) (v := (.slice py E2.length cy)) rfl (by kernel_rfl) (by kernel_rfl) (by kernel_rfl) (fun _ _ _ h => h) (Or.inl ⟨by rfl, fun ww hSw => by (try dsimp only at hSw); go_simp⟩) (by assumption) ?_
            simp only [Act.put, List.setIfInBounds_toArray, List.set_cons_zero, List.set_cons_succ, List.getElem_toArray, List.getElem_cons_succ, List.getElem_cons_zero]
            refine wpAnyH_take (i := 15) (v := (.bool B2)) rfl (by kernel_rfl) (by kernel_rfl) (by kernel_rfl) (fun _ _ _ h => h) (Or.inl ⟨by rfl, fun ww hSw => by (try dsimp only at hSw); go_simp⟩) (by assumption) ?_
            simp only [Act.put, List.setIfInBounds_toArray, List.set_cons_zero, List.set_cons_succ, List.getElem_toArray, List.getElem_cons_succ, List.getElem_cons_zero]
            refine wpAnyH_done (by kernel_rfl) ?_ _
            clear hHeld kS1
            generalize hcl2 : colD (colA col wr.heap.size (6 + 2 * M)) V1.heap.size D' (7 + 2 * M) = col2 at *
            clear hcl2
            generalize hLn : L ++ [((.slice px E2.length cx : Value), (.slice py E2.length cy : Value), E2)] = Ln at *
            have HLn : Hid (L ++ [((.slice px E2.length cx : Value), (.slice py E2.length cy : Value), E2)] = Ln) := hLn
            clear hLn
            have RL : Hid (V3.ownsRow 0 22 1 (.slice kp M kc) M (L.map (·.1))) := by have := HZ3.out.rl; rw [List.length_map, HLM.out] at this; exact this
            have hB2 : (B2 != B2) = false := by cases B2 <;> rfl
            go_wp2_with (first | (at_builtin; refine wpList_append_at rfl (.tmp 81) (.tmp 83) 60 rfl 0 22 i9 z9 1 24 Tryd.underlying60 HJ.out.1 HJ.out.2.1 HJ.out.2.2.1 HJ.out.2.2.2.1 HJ.out.2.2.2.2 (by decide) (.slice kp M kc) M (L.map (·.1)) rfl (RL.out.alloc _) ⟨V3.heap.size, 0, .none⟩ 1 1 [.slice px E2.length cx] rfl rfl (cell1_new _ _ _) (by simp [Value.oneCell']) ?c1 ?c2 (Nat.zero_le _) ?_) | go_in)
            case c1 => unfold maxLen; omega
            case c2 => omega
            intro v5 U1 hO1 hg1 hbk1
            obtain ⟨p5, c5, rfl⟩ := one_slice hO1
            have HU1 : Hid (Fz w U1 b dd pb D' R2 L2 R2 L2 (.slice p5 (M + 1) c5) (.slice wp M wc0) (Ln.map (·.1)) (L.map (·.2.1)) Ln (colA col2 V3.heap.size 4)) := by
              have h := HZ3.out.recol (col' := colA col2 V3.heap.size 4) (fun k hk => colA_lt hk)
              have t2 : Chg (fun k => (Value.slice kp M kc).ownBlock = some k) V3 U1 := (Chg.ofBelow (Trn.new V3 (.cells #[.slice px E2.length cx] 22))).trans (Chg.ofGrown hg1) (fun k _ h => h)
              have eA : Ln.map (·.1) = L.map (·.1) ++ [.slice px E2.length cx] := by rw [← HLn.out, List.map_append]; rfl
              have eM : (Ln.map (·.1)).length = M + 1 := by rw [eA, List.length_append, List.length_map, HLM.out]; rfl
              refine h.setl t2 ?_ (fun k hk => ?_)
              · rw [eM, eA]; exact hO1
              · rcases hbk1 with e | e
                · exact h.cl k (e.symm.trans hk)
                · rw [hk] at e
                  have := Option.some.inj e
                  exact colA_ge (by have hsz := (Trn.new V3 (.cells #[.slice px E2.length cx] 22)).size; omega)
            clear hO1 hg1 hbk1 RL HZ3
            go_upto_region 17 with fail
            have RL : Hid (U1.ownsRow 0 22 1 (.slice wp M wc0) M (L.map (·.2.1))) := by have := HU1.out.rw; rw [List.length_map, HLM.out] at this; exact this
            go_wp2_with (first | (at_builtin; refine wpList_append_at rfl (.tmp 85) (.tmp 87) 60 rfl 0 22 i9 z9 1 24 Tryd.underlying60 HJ.out.1 HJ.out.2.1 HJ.out.2.2.1 HJ.out.2.2.2.1 HJ.out.2.2.2.2 (by decide) (.slice wp M wc0) M (L.map (·.2.1)) rfl (RL.out.alloc _) ⟨U1.heap.size, 0, .none⟩ 1 1 [.slice py E2.length cy] rfl rfl (cell1_new _ _ _) (by simp [Value.oneCell']) ?c1 ?c2 (Nat.zero_le _) ?_) | go_in)
            case c1 => unfold maxLen; omega
            case c2 => omega
            intro v6 U2 hO1 hg1 hbk1
            obtain ⟨p6, c6, rfl⟩ := one_slice hO1
            have HU2 : Hid (FzL w U2 b dd pb (M + 1) (.slice p5 (M + 1) c5) (.slice p6 (M + 1) c6)) := by
              have h := HU1.out.recol (col' := colA (colA col2 V3.heap.size 4) U1.heap.size 5) (fun k hk => colA_lt hk)
              have t2 : Chg (fun k => (Value.slice wp M wc0).ownBlock = some k) U1 U2 := (Chg.ofBelow (Trn.new U1 (.cells #[.slice py E2.length cy] 22))).trans (Chg.ofGrown hg1) (fun k _ h => h)
              have eA : Ln.map (·.2.1) = L.map (·.2.1) ++ [.slice py E2.length cy] := by rw [← HLn.out, List.map_append]; rfl
              have eM : (Ln.map (·.2.1)).length = M + 1 := by rw [eA, List.length_append, List.length_map, HLM.out]; rfl
              refine ⟨Ln, R2, L2, D', _, by rw [← HLn.out, List.length_append, HLM.out]; rfl, h.setw t2 ?_ (fun k hk => ?_)⟩
              · rw [eM, eA]; exact hO1
              · rcases hbk1 with e | e
                · exact h.cw k (e.symm.trans hk)
                · rw [hk] at e
                  have := Option.some.inj e
                  exact colA_ge (by have hsz := (Trn.new U1 (.cells #[.slice py E2.length cy] 22)).size; omega)
            clear hO1 hg1 hbk1 RL HU1
            go_wp2
            exact ⟨⟨I + 1 + 1, M + 1, p5, p6, c5, c6, rfl, by omega, by omega, rfl, rfl, HU2⟩, by simp only [intOf]; omega⟩
          · rw [decide_eq_false hA]
            clear hA a0
            have CC : Hid (∀ V, Con V b rs ls → Dd V → Calls Tryd.prog 10 #[.pointer (some ⟨b, 0, .none⟩), .int .u8 x] V (Ty V b (tyR rs ls x) (tyL rs ls x) (tyE rs ls x) (tyB rs ls x))) := fun V hV hD => type_any hV hD x HXB.out
            have CD : Hid (∀ V D, Doc V dd D rs ls → Calls Tryd.prog 30 #[.pointer (some ⟨dd, 0, .none⟩), .int .u8 x] V (DTy V dd D (tyR rs ls x) (tyL rs ls x) (tyE rs ls x) (tyB rs ls x))) := fun V D hV => rtype_any hV x HXB.out
            have HEl : Hid ((tyE rs ls x).length ≤ 1000) := Nat.le_trans (tyE_len rs ls x HZ.out.con.le) (by decide)
            generalize tyR rs ls x = R2 at CC CD
            generalize tyL rs ls x = L2 at CC CD
            generalize tyE rs ls x = E2 at CC CD HEl
            generalize tyB rs ls x = B2 at CC CD
            go_upto_region 18 with fail
            have kS : wr.drew.cell? ⟨pb, 0, .none⟩ = some (.pointer (some ⟨b, 0, .none⟩)) ∧ wr.drew.cell? ⟨bb, oo + I, .none⟩ = some (.int .u8 x) := ⟨(HZ.out.drewN 1).p0, HC.out wr.drew I x (HZ.out.drewN 1).bel HXI.out⟩
            refine wp_region_held_drew (S := fun U => U.cell? ⟨pb, 0, .none⟩ = some (.pointer (some ⟨b, 0, .none⟩)) ∧ U.cell? ⟨bb, oo + I, .none⟩ = some (.int .u8 x)) (by kernel_rfl) kS (fun hHeld => ?_)
            refine wpAnyH_take (i := 0) (v := (.pointer (some ⟨pb, 0, .none⟩))) rfl (by kernel_rfl) (by kernel_rfl) (by kernel_rfl) (fun _ _ _ h => h) (Or.inl ⟨by rfl, fun ww hSw => by (try dsimp only at hSw); go_simp⟩) (by assumption) ?_
            simp only [Act.put, List.setIfInBounds_toArray, List.set_cons_zero, List.set_cons_succ, List.getElem_toArray, List.getElem_cons_succ, List.getElem_cons_zero]
            refine wpAnyH_take (i := 1) (v := (.pointer (some ⟨pb, 0, .none⟩))) rfl (by kernel_rfl) (by kernel_rfl) (by kernel_rfl) (fun _ _ _ h => h) (Or.inl ⟨by rfl, fun ww hSw => by (try dsimp only at hSw); go_simp⟩) (by assumption) ?_
            simp only [Act.put, List.setIfInBounds_toArray, List.set_cons_zero, List.set_cons_succ, List.getElem_toArray, List.getElem_cons_succ, List.getElem_cons_zero]
            refine wpAnyH_take (i := 2) (v := (.pointer (some ⟨pb, 0, .none⟩))) rfl (by kernel_rfl) (by kernel_rfl) (by kernel_rfl) (fun _ _ _ h => h) (Or.inl ⟨by rfl, fun ww hSw => by (try dsimp only at hSw); go_simp⟩) (by assumption) ?_
            simp only [Act.put, List.setIfInBounds_toArray, List.set_cons_zero, List.set_cons_succ, List.getElem_toArray, List.getElem_cons_succ, List.getElem_cons_zero]
            refine wpAnyH_take (i := 3) (v := (.pointer (some ⟨b, 0, .none⟩))) rfl (by kernel_rfl) (by kernel_rfl) (by kernel_rfl) (fun _ _ _ h => h) (Or.inl ⟨by rfl, fun ww hSw => by (try dsimp only at hSw); go_simp⟩) (by assumption) ?_
            simp only [Act.put, List.setIfInBounds_toArray, List.set_cons_zero, List.set_cons_succ, List.getElem_toArray, List.getElem_cons_succ, List.getElem_cons_zero]
            refine wpAnyH_take (i := 4) (v := (.slice (some ⟨bb, oo, .none⟩) n c)) rfl (by kernel_rfl) (by kernel_rfl) (by kernel_rfl) (fun _ _ _ h => h) (Or.inl ⟨by rfl, fun ww hSw => by (try dsimp only at hSw); go_simp⟩) (by assumption) ?_
            simp only [Act.put, List.setIfInBounds_toArray, List.set_cons_zero, List.set_cons_succ, List.getElem_toArray, List.getElem_cons_succ, List.getElem_cons_zero]
            refine wpAnyH_take (i := 5) (v := (.int .i64 I)) rfl (by kernel_rfl) (by kernel_rfl) (by kernel_rfl) (fun _ _ _ h => h) (Or.inl ⟨by rfl, fun ww hSw => by (try dsimp only at hSw); go_simp⟩) (by assumption) ?_
            simp only [Act.put, List.setIfInBounds_toArray, List.set_cons_zero, List.set_cons_succ, List.getElem_toArray, List.getElem_cons_succ, List.getElem_cons_zero]
            refine wpAnyH_take (i := 6) (v := (.pointer (some ⟨bb, oo + I, .none⟩))) rfl (by kernel_rfl) (by kernel_rfl) (by kernel_rfl) (fun _ _ _ h => h) (Or.inl ⟨by rfl, fun ww hSw => by (try dsimp only at hSw); go_simp⟩) (by assumption) ?_
            simp only [Act.put, List.setIfInBounds_toArray, List.set_cons_zero, List.set_cons_succ, List.getElem_toArray, List.getElem_cons_succ, List.getElem_cons_zero]
            refine wpAnyH_take (i := 7) (v := (.int .u8 x)) rfl (by kernel_rfl) (by kernel_rfl) (by kernel_rfl) (fun _ _ _ h => h) (Or.inl ⟨by rfl, fun ww hSw => by (try dsimp only at hSw); go_simp⟩) (by assumption) ?_
            simp only [Act.put, List.setIfInBounds_toArray, List.set_cons_zero, List.set_cons_succ, List.getElem_toArray, List.getElem_cons_succ, List.getElem_cons_zero]
            refine wpAnyH_ready (rs := [8]) (by kernel_rfl) (by simp) ?_
            refine AllReadyH.cons rfl (fun K hK => ?_) AllReadyH.nil
            go_simp
            refine (CC.out wr.drew (HZ.out.drewN 1).con (HD.out.below (HZ.out.drewN 1).bel)).mono ?_
            rintro e V1 ⟨px, cx, rfl, hO, hC, hT⟩
            have HZ1 : Hid (Fz w V1 b dd pb D R2 L2 rs ls (.slice kp M kc) (.slice wp M wc0) (L.map (·.1)) (L.map (·.2.1)) L (colA col wr.heap.size (6 + 2 * M))) := by
              have h := (HZ.out.drewN 1).recol (col' := colA col wr.heap.size (6 + 2 * M)) (fun k hk => colA_lt hk)
              exact h.con' hT hC
            have HRX : Hid (V1.ownsRow wr.heap.size 5 1 (.slice px E2.length cx) E2.length (by8 E2) ∧ wr.heap.size ≤ V1.heap.size) := ⟨hO, hT.size⟩
            have kS1 : V1.cell? ⟨pb, 0, .none⟩ = some (.pointer (some ⟨b, 0, .none⟩)) ∧ V1.cell? ⟨bb, oo + I, .none⟩ = some (.int .u8 x) := ⟨HZ1.out.p0, HC.out V1 I x HZ1.out.bel HXI.out⟩
            clear hO hC hT kS HZ
            refine hK.out _ _ kS1 (fun hHeld => ?_)
            clear hK K
            try simp only [Act.put, List.setIfInBounds_toArray, List.set_cons_zero, List.set_cons_succ, List.getElem_toArray, List.getElem_cons_succ, List.getElem_cons_zero]
            refine wpAnyH_take (i := 9) (v := (.tuple #[.slice px E2.length cx, .bool B2])) rfl (by kernel_rfl) (by kernel_rfl) (by kernel_rfl) (fun _ _ _ h => h) (Or.inl ⟨by rfl, fun ww hSw => by (try dsimp only at hSw); go_simp⟩) (by assumption) ?_
            simp only [Act.put, List.setIfInBounds_toArray, List.set_cons_zero, List.set_cons_succ, List.getElem_toArray, List.getElem_cons_succ, List.getElem_cons_zero]
            refine wpAnyH_take (i := 10) (v := (.slice px E2.length cx)) rfl (by kernel_rfl) (by kernel_rfl) (by kernel_rfl) (fun _ _ _ h => h) (Or.inl ⟨by rfl, fun ww hSw => by (try dsimp only at hSw); go_simp⟩) (by assumption) ?_
            simp only [Act.put, List.setIfInBounds_toArray, List.set_cons_zero, List.set_cons_succ, List.getElem_toArray, List.getElem_cons_succ, List.getElem_cons_zero]
            refine wpAnyH_take (i := 11) (v := (.bool B2)) rfl (by kernel_rfl) (by kernel_rfl) (by kernel_rfl) (fun _ _ _ h => h) (Or.inl ⟨by rfl, fun ww hSw => by (try dsimp only at hSw); go_simp⟩) (by assumption) ?_
            simp only [Act.put, List.setIfInBounds_toArray, List.set_cons_zero, List.set_cons_succ, List.getElem_toArray, List.getElem_cons_succ, List.getElem_cons_zero]
            refine wpAnyH_take (i := 12) (v := (.slice px E2.length cx)) rfl (by kernel_rfl) (by kernel_rfl) (by kernel_rfl) (fun _ _ _ h => h) (Or.inl ⟨by rfl, fun ww hSw => by (try dsimp only at hSw); go_simp⟩) (by assumption) ?_
            simp only [Act.put, List.setIfInBounds_toArray, List.set_cons_zero, List.set_cons_succ, List.getElem_toArray, List.getElem_cons_succ, List.getElem_cons_zero]
            refine wpAnyH_take (i := 13) (v := (.bool B2)) rfl (by kernel_rfl) (by kernel_rfl) (by kernel_rfl) (fun _ _ _ h => h) (Or.inl ⟨by rfl, fun ww hSw => by (try dsimp only at hSw); go_simp⟩) (by assumption) ?_
            simp only [Act.put, List.setIfInBounds_toArray, List.set_cons_zero, List.set_cons_succ, List.getElem_toArray, List.getElem_cons_succ, List.getElem_cons_zero]
            refine wpAnyH_done (by kernel_rfl) ?_ _
            clear hHeld kS1
            go_upto_region 19 with fail
            have kS : V1.drew.cell? ⟨pb, 1, .none⟩ = some (.pointer (some ⟨dd, 0, .none⟩)) ∧ V1.drew.cell? ⟨bb, oo + I, .none⟩ = some (.int .u8 x) := ⟨(HZ1.out.drewN 1).p1, HC.out V1.drew I x (HZ1.out.drewN 1).bel HXI.out⟩
            refine wp_region_held_drew (S := fun U => U.cell? ⟨pb, 1, .none⟩ = some (.pointer (some ⟨dd, 0, .none⟩)) ∧ U.cell? ⟨bb, oo + I, .none⟩ = some (.int .u8 x)) (by kernel_rfl) kS (fun hHeld => ?_)
            refine wpAnyH_take (i := 0) (v := (.pointer (some ⟨pb, 0, .none⟩))) rfl (by kernel_rfl) (by kernel_rfl) (by kernel_rfl) (fun _ _ _ h => h) (Or.inl ⟨by rfl, fun ww hSw => by (try dsimp only at hSw); go_simp⟩) (by assumption) ?_
            simp only [Act.put, List.setIfInBounds_toArray, List.set_cons_zero, List.set_cons_succ, List.getElem_toArray, List.getElem_cons_succ, List.getElem_cons_zero]
            refine wpAnyH_take (i := 1) (v := (.pointer (some ⟨pb, 0, .none⟩))) rfl (by kernel_rfl) (by kernel_rfl) (by kernel_rfl) (fun _ _ _ h => h) (Or.inl ⟨by rfl, fun ww hSw => by (try dsimp only at hSw); go_simp⟩) (by assumption) ?_
            simp only [Act.put, List.setIfInBounds_toArray, List.set_cons_zero, List.set_cons_succ, List.getElem_toArray, List.getElem_cons_succ, List.getElem_cons_zero]
            refine wpAnyH_take (i := 2) (v := (.pointer (some ⟨pb, 1, .none⟩))) rfl (by kernel_rfl) (by kernel_rfl) (by kernel_rfl) (fun _ _ _ h => h) (Or.inl ⟨by rfl, fun ww hSw => by (try dsimp only at hSw); go_simp⟩) (by assumption) ?_
            simp only [Act.put, List.setIfInBounds_toArray, List.set_cons_zero, List.set_cons_succ, List.getElem_toArray, List.getElem_cons_succ, List.getElem_cons_zero]
            refine wpAnyH_take (i := 3) (v := (.pointer (some ⟨dd, 0, .none⟩))) rfl (by kernel_rfl) (by kernel_rfl) (by kernel_rfl) (fun _ _ _ h => h) (Or.inl ⟨by rfl, fun ww hSw => by (try dsimp only at hSw); go_simp⟩) (by assumption) ?_
            simp only [Act.put, List.setIfInBounds_toArray, List.set_cons_zero, List.set_cons_succ, List.getElem_toArray, List.getElem_cons_succ, List.getElem_cons_zero]
            refine wpAnyH_take (i := 4) (v := (.slice (some ⟨bb, oo, .none⟩) n c)) rfl (by kernel_rfl) (by kernel_rfl) (by kernel_rfl) (fun _ _ _ h => h) (Or.inl ⟨by rfl, fun ww hSw => by (try dsimp only at hSw); go_simp⟩) (by assumption) ?_
            simp only [Act.put, List.setIfInBounds_toArray, List.set_cons_zero, List.set_cons_succ, List.getElem_toArray, List.getElem_cons_succ, List.getElem_cons_zero]
            refine wpAnyH_take (i := 5) (v := (.int .i64 I)) rfl (by kernel_rfl) (by kernel_rfl) (by kernel_rfl) (fun _ _ _ h => h) (Or.inl ⟨by rfl, fun ww hSw => by (try dsimp only at hSw); go_simp⟩) (by assumption) ?_
            simp only [Act.put, List.setIfInBounds_toArray, List.set_cons_zero, List.set_cons_succ, List.getElem_toArray, List.getElem_cons_succ, List.getElem_cons_zero]
            refine wpAnyH_take (i := 6) (v := (.pointer (some ⟨bb, oo + I, .none⟩))) rfl (by kernel_rfl) (by kernel_rfl) (by kernel_rfl) (fun _ _ _ h => h) (Or.inl ⟨by rfl, fun ww hSw => by (try dsimp only at hSw); go_simp⟩) (by assumption) ?_
            simp only [Act.put, List.setIfInBounds_toArray, List.set_cons_zero, List.set_cons_succ, List.getElem_toArray, List.getElem_cons_succ, List.getElem_cons_zero]
            refine wpAnyH_take (i := 7) (v := (.int .u8 x)) rfl (by kernel_rfl) (by kernel_rfl) (by kernel_rfl) (fun _ _ _ h => h) (Or.inl ⟨by rfl, fun ww hSw => by (try dsimp only at hSw); go_simp⟩) (by assumption) ?_
            simp only [Act.put, List.setIfInBounds_toArray, List.set_cons_zero, List.set_cons_succ, List.getElem_toArray, List.getElem_cons_succ, List.getElem_cons_zero]
            refine wpAnyH_ready (rs := [8]) (by kernel_rfl) (by simp) ?_
            refine AllReadyH.cons rfl (fun K hK => ?_) AllReadyH.nil
            go_simp
            refine (CD.out V1.drew D (HZ1.out.drewN 1).doc).mono ?_
            rintro e V3 ⟨py, cy, D', rfl, hO, hDoc, hChg, hD1, hDr, hDl⟩
            have HZ3 : Hid (Fz w V3 b dd pb D' R2 L2 R2 L2 (.slice kp M kc) (.slice wp M wc0) (L.map (·.1)) (L.map (·.2.1)) (L ++ [(.slice px E2.length cx, .slice py E2.length cy, E2)]) (colD (colA col wr.heap.size (6 + 2 * M)) V1.heap.size D' (7 + 2 * M))) := by
              have h := (HZ1.out.drewN 1).recol (col' := colD (colA col wr.heap.size (6 + 2 * M)) V1.heap.size D' (7 + 2 * M)) (fun k hk => colD_lt hk)
              have hx := HRX.out
              have hxo : ∀ g, (Value.slice px E2.length cx).ownBlock = some g → colD (colA col wr.heap.size (6 + 2 * M)) V1.heap.size D' (7 + 2 * M) g = 6 + 2 * M := fun g hg => by
                rw [colD_lt (own_ltC hx.1 g hg), colA_ge (own_block hx.1 g hg)]
              have hz : V1.drew.heap.size = V1.heap.size := rfl
              rw [hz] at hO hD1
              have h3 := h.doc' hChg hDoc (fun k hk => ⟨?_, hDl k hk⟩)
              · have := h3.push (v := .slice px E2.length cx) (u := .slice py E2.length cy) (xs := E2) (own_mono (hChg.own (show V1.drew.ownsRow wr.heap.size 5 1 (.slice px E2.length cx) E2.length (by8 E2) from hx.1) (fun g hg e => ?_)) (Nat.zero_le _)) (own_mono hO (Nat.zero_le _)) HEl.out (fun k hk => by rw [HLM.out]; exact hxo k hk) (fun k hk => by rw [HLM.out]; exact colD_out (own_block hO k hk) (hDr k hk))
                · exact this
                · have h1 := hxo g hg
                  have h2 := (h.cD g e).1
                  omega
              · by_cases hk2 : k < V1.heap.size
                · exact (h.cD k (hD1 k hk hk2)).1
                · exact colD_in (by omega) hk
            have kS1 : V3.cell? ⟨pb, 1, .none⟩ = some (.pointer (some ⟨dd, 0, .none⟩)) ∧ V3.cell? ⟨bb, oo + I, .none⟩ = some (.int .u8 x) := ⟨HZ3.out.p1, HC.out V3 I x HZ3.out.bel HXI.out⟩
            clear hO hDoc hChg hD1 hDr hDl kS HZ1 HRX
            refine hK.out _ _ kS1 (fun hHeld => ?_)
            clear hK K
            try simp only [Act.put, List.setIfInBounds_toArray, List.set_cons_zero, List.set_cons_succ, List.getElem_toArray, List.getElem_cons_succ, List.getElem_cons_zero]
            refine wpAnyH_take (i := 9) (v := (.tuple #[.slice py E2.length cy, .bool B2])) rfl (by kernel_rfl) (by kernel_rfl) (by kernel_rfl) (fun _ _ _ h => h) (Or.inl ⟨by rfl, fun ww hSw => by (try dsimp only at hSw); go_simp⟩) (by assumption) ?_
            simp only [Act.put, List.setIfInBounds_toArray, List.set_cons_zero, List.set_cons_succ, List.getElem_toArray, List.getElem_cons_succ, List.getElem_cons_zero]
            refine wpAnyH_take (i := 10) (v := (.slice py E2.length cy)) rfl (by kernel_rfl) (by kernel_rfl) (by kernel_rfl) (fun _ _ _ h => h) (Or.inl ⟨by rfl, fun ww hSw => by (try dsimp only at hSw); go_simp⟩) (by assumption) ?_
            simp only [Act.put, List.setIfInBounds_toArray, List.set_cons_zero, List.set_cons_succ, List.getElem_toArray, List.getElem_cons_succ, List.getElem_cons_zero]
            refine wpAnyH_take (i := 11) (v := (.bool B2)) rfl (by kernel_rfl) (by kernel_rfl) (by kernel_rfl) (fun _ _ _ h => h) (Or.inl ⟨by rfl, fun ww hSw => by (try dsimp only at hSw); go_simp⟩) (by assumption) ?_
            simp only [Act.put, List.setIfInBounds_toArray, List.set_cons_zero, List.set_cons_succ, List.getElem_toArray, List.getElem_cons_succ, List.getElem_cons_zero]
            refine wpAnyH_take (i := 12) (v := (.slice py E2.length cy)) rfl (by kernel_rfl) (by kernel_rfl) (by kernel_rfl) (fun _ _ _ h => h) (Or.inl ⟨by rfl, fun ww hSw => by (try dsimp only at hSw); go_simp⟩) (by assumption) ?_
            simp only [Act.put, List.setIfInBounds_toArray, List.set_cons_zero, List.set_cons_succ, List.getElem_toArray, List.getElem_cons_succ, List.getElem_cons_zero]
            refine wpAnyH_take (i := 13) (v := (.bool B2)) rfl (by kernel_rfl) (by kernel_rfl) (by kernel_rfl) (fun _ _ _ h => h) (Or.inl ⟨by rfl, fun ww hSw => by (try dsimp only at hSw); go_simp⟩) (by assumption) ?_
            simp only [Act.put, List.setIfInBounds_toArray, List.set_cons_zero, List.set_cons_succ, List.getElem_toArray, List.getElem_cons_succ, List.getElem_cons_zero]
            refine wpAnyH_done (by kernel_rfl) ?_ _
            clear hHeld kS1
            generalize hcl2 : colD (colA col wr.heap.size (6 + 2 * M)) V1.heap.size D' (7 + 2 * M) = col2 at *
            clear hcl2
            generalize hLn : L ++ [((.slice px E2.length cx : Value), (.slice py E2.length cy : Value), E2)] = Ln at *
            have HLn : Hid (L ++ [((.slice px E2.length cx : Value), (.slice py E2.length cy : Value), E2)] = Ln) := hLn
            clear hLn
            have RL : Hid (V3.ownsRow 0 22 1 (.slice kp M kc) M (L.map (·.1))) := by have := HZ3.out.rl; rw [List.length_map, HLM.out] at this; exact this
            have hB2 : (B2 != B2) = false := by cases B2 <;> rfl
            go_wp2_with (first | (at_builtin; refine wpList_append_at rfl (.tmp 116) (.tmp 118) 60 rfl 0 22 i9 z9 1 24 Tryd.underlying60 HJ.out.1 HJ.out.2.1 HJ.out.2.2.1 HJ.out.2.2.2.1 HJ.out.2.2.2.2 (by decide) (.slice kp M kc) M (L.map (·.1)) rfl (RL.out.alloc _) ⟨V3.heap.size, 0, .none⟩ 1 1 [.slice px E2.length cx] rfl rfl (cell1_new _ _ _) (by simp [Value.oneCell']) ?c1 ?c2 (Nat.zero_le _) ?_) | go_in)
            case c1 => unfold maxLen; omega
            case c2 => omega
            intro v5 U1 hO1 hg1 hbk1
            obtain ⟨p5, c5, rfl⟩ := one_slice hO1
            have HU1 : Hid (Fz w U1 b dd pb D' R2 L2 R2 L2 (.slice p5 (M + 1) c5) (.slice wp M wc0) (Ln.map (·.1)) (L.map (·.2.1)) Ln (colA col2 V3.heap.size 4)) := by
              have h := HZ3.out.recol (col' := colA col2 V3.heap.size 4) (fun k hk => colA_lt hk)
              have t2 : Chg (fun k => (Value.slice kp M kc).ownBlock = some k) V3 U1 := (Chg.ofBelow (Trn.new V3 (.cells #[.slice px E2.length cx] 22))).trans (Chg.ofGrown hg1) (fun k _ h => h)
              have eA : Ln.map (·.1) = L.map (·.1) ++ [.slice px E2.length cx] := by rw [← HLn.out, List.map_append]; rfl
              have eM : (Ln.map (·.1)).length = M + 1 := by rw [eA, List.length_append, List.length_map, HLM.out]; rfl
              refine h.setl t2 ?_ (fun k hk => ?_)
              · rw [eM, eA]; exact hO1
              · rcases hbk1 with e | e
                · exact h.cl k (e.symm.trans hk)
                · rw [hk] at e
                  have := Option.some.inj e
                  exact colA_ge (by have hsz := (Trn.new V3 (.cells #[.slice px E2.length cx] 22)).size; omega)
            clear hO1 hg1 hbk1 RL HZ3
            go_upto_region 23 with fail
            have RL : Hid (U1.ownsRow 0 22 1 (.slice wp M wc0) M (L.map (·.2.1))) := by have := HU1.out.rw; rw [List.length_map, HLM.out] at this; exact this
            go_wp2_with (first | (at_builtin; refine wpList_append_at rfl (.tmp 120) (.tmp 122) 60 rfl 0 22 i9 z9 1 24 Tryd.underlying60 HJ.out.1 HJ.out.2.1 HJ.out.2.2.1 HJ.out.2.2.2.1 HJ.out.2.2.2.2 (by decide) (.slice wp M wc0) M (L.map (·.2.1)) rfl (RL.out.alloc _) ⟨U1.heap.size, 0, .none⟩ 1 1 [.slice py E2.length cy] rfl rfl (cell1_new _ _ _) (by simp [Value.oneCell']) ?c1 ?c2 (Nat.zero_le _) ?_) | go_in)
            case c1 => unfold maxLen; omega
            case c2 => omega
            intro v6 U2 hO1 hg1 hbk1
            obtain ⟨p6, c6, rfl⟩ := one_slice hO1
            have HU2 : Hid (FzL w U2 b dd pb (M + 1) (.slice p5 (M + 1) c5) (.slice p6 (M + 1) c6)) := by
              have h := HU1.out.recol (col' := colA (colA col2 V3.heap.size 4) U1.heap.size 5) (fun k hk => colA_lt hk)
              have t2 : Chg (fun k => (Value.slice wp M wc0).ownBlock = some k) U1 U2 := (Chg.ofBelow (Trn.new U1 (.cells #[.slice py E2.length cy] 22))).trans (Chg.ofGrown hg1) (fun k _ h => h)
              have eA : Ln.map (·.2.1) = L.map (·.2.1) ++ [.slice py E2.length cy] := by rw [← HLn.out, List.map_append]; rfl
              have eM : (Ln.map (·.2.1)).length = M + 1 := by rw [eA, List.length_append, List.length_map, HLM.out]; rfl
              refine ⟨Ln, R2, L2, D', _, by rw [← HLn.out, List.length_append, HLM.out]; rfl, h.setw t2 ?_ (fun k hk => ?_)⟩
              · rw [eM, eA]; exact hO1
              · rcases hbk1 with e | e
                · exact h.cw k (e.symm.trans hk)
                · rw [hk] at e
                  have := Option.some.inj e
                  exact colA_ge (by have hsz := (Trn.new U1 (.cells #[.slice py E2.length cy] 22)).size; omega)
            clear hO1 hg1 hbk1 RL HU1
            go_wp2
            exact ⟨⟨I + 1, M + 1, p5, p6, c5, c6, rfl, by omega, by omega, rfl, rfl, HU2⟩, by simp only [intOf]; omega⟩
      · rw [decide_eq_false hlt]
        clear hlt
        obtain ⟨L, rs, ls, D, col, hLM, hFz⟩ := HF.out
        have HLM : Hid (L.length = M) := hLM
        have HZ : Hid (Fz w wr b dd pb D rs ls rs ls (.slice kp M kc) (.slice wp M wc0) (L.map (·.1)) (L.map (·.2.1)) L col) := hFz
        clear hLM hFz HF
        have q0 := HZ.out.p0
        go_wp2_with fail
        refine (state_any HZ.out.con).mono ?_
        rintro e W1 ⟨p1, d1, q1, f1, X1, rfl, hO1, hO2, hX, hlX, hb⟩
        have hle := HZ.out.con.le
        obtain ⟨R, hR⟩ : ∃ R, R = rs.length := ⟨_, rfl⟩
        obtain ⟨Q, hQ⟩ : ∃ Q, Q = ls.length := ⟨_, rfl⟩
        have HRQ : Hid (R = rs.length ∧ Q = ls.length) := ⟨hR, hQ⟩
        rw [← hR, ← hQ]
        rw [← hR] at hO1 hlX hle
        rw [← hQ] at hO2 hle
        have H1 : Hid (Fz w W1 b dd pb D rs ls rs ls (.slice kp M kc) (.slice wp M wc0) (L.map (·.1)) (L.map (·.2.1)) L (colA (colA col wr.heap.size (6 + 2 * M)) (max wr.heap.size X1) (8 + 2 * M)) ∧ W1.ownsRow 0 5 1 (.slice p1 R d1) R (by8 rs) ∧ W1.ownsRow 0 5 1 (.slice q1 Q f1) Q (by8 ls) ∧ (∀ g, (Value.slice p1 R d1).ownBlock = some g → colA (colA col wr.heap.size (6 + 2 * M)) (max wr.heap.size X1) (8 + 2 * M) g = 6 + 2 * M) ∧ (∀ g, (Value.slice q1 Q f1).ownBlock = some g → colA (colA col wr.heap.size (6 + 2 * M)) (max wr.heap.size X1) (8 + 2 * M) g = 8 + 2 * M)) := by
          refine ⟨(HZ.out.recol (fun k hk => ?_)).below hb, own_mono hO1 (Nat.zero_le _), own_mono hO2 (Nat.zero_le _), fun g hg => ?_, fun g hg => ?_⟩
          · rw [colA_lt (by omega), colA_lt hk]
          · have h1 := own_block hO1 g hg
            have h2 := hlX g hg
            rw [colA_lt (by omega), colA_ge h1]
          · have h1 := own_block hO2 g hg
            rw [colA_ge (by omega)]
        generalize colA (colA col wr.heap.size (6 + 2 * M)) (max wr.heap.size X1) (8 + 2 * M) = col1 at *
        clear hO1 hO2 hX hlX hb hR hQ q0 HZ
        go_upto_region 25 with fail
        have hs2 := sb_new W1 p1 R d1 q1 Q f1
        have hb2 := Trn.new W1 (.cells #[.slice p1 R d1, .slice q1 Q f1] 29)
        generalize W1.alloc (.cells #[.slice p1 R d1, .slice q1 Q f1] 29) = W2 at *
        have H2 : Hid (Fz w W2 b dd pb D rs ls rs ls (.slice kp M kc) (.slice wp M wc0) (L.map (·.1)) (L.map (·.2.1)) L col1 ∧ W2.ownsRow 0 5 1 (.slice p1 R d1) R (by8 rs) ∧ W2.ownsRow 0 5 1 (.slice q1 Q f1) Q (by8 ls) ∧ Sb W2 W1.heap.size p1 R d1 q1 Q f1) := by
          have h := H1.out
          have cc : Chg (fun _ => False) W1 W2 := Chg.ofBelow hb2
          exact ⟨h.1.below hb2, cc.own h.2.1 (fun _ _ e => e), cc.own h.2.2.1 (fun _ _ e => e), hs2⟩
        have HCO : Hid ((∀ g, (Value.slice p1 R d1).ownBlock = some g → col1 g = 6 + 2 * M) ∧ (∀ g, (Value.slice q1 Q f1).ownBlock = some g → col1 g = 8 + 2 * M)) := H1.out.2.2.2
        clear hs2 hb2 H1
        generalize W1.heap.size = bx at *
        have kS : Sb W2.drew bx p1 R d1 q1 Q f1 ∧ W2.drew.cell? ⟨pb, 1, .none⟩ = some (.pointer (some ⟨dd, 0, .none⟩)) := ⟨⟨H2.out.2.2.2.c0, H2.out.2.2.2.c1⟩, H2.out.1.p1⟩
        have HV : Hid (Fz w W2.drew b dd pb D rs ls rs ls (.slice kp M kc) (.slice wp M wc0) (L.map (·.1)) (L.map (·.2.1)) L col1 ∧ W2.drew.ownsRow 0 5 1 (.slice p1 R d1) R (by8 rs) ∧ W2.drew.ownsRow 0 5 1 (.slice q1 Q f1) Q (by8 ls)) := ⟨H2.out.1.drewN 1, H2.out.2.1, H2.out.2.2.1⟩
        clear H2
        refine wp_region_held_drew (S := fun U => Sb U bx p1 R d1 q1 Q f1 ∧ U.cell? ⟨pb, 1, .none⟩ = some (.pointer (some ⟨dd, 0, .none⟩))) (by kernel_rfl) kS (fun hHeld => ?_)
        refine wpAnyH_take (i := 0) (v := .agg #[.slice p1 R d1, .slice q1 Q f1]) rfl (by kernel_rfl) (by kernel_rfl) (by kernel_rfl) (fun _ _ _ h => h) (yieldsIf_load_mid (by rfl) 29 (.tmp 16) rfl bx 0 (by rfl) _ _ (fun ww hSw => Sb.rangeAt hSw.1) Tryd.underlying29 rfl (by kernel_rfl)) (by assumption) ?_
        simp only [Act.put, List.setIfInBounds_toArray, List.set_cons_zero, List.set_cons_succ, List.getElem_toArray, List.getElem_cons_succ, List.getElem_cons_zero]
        refine wpAnyH_take (i := 1) (v := (.pointer (some ⟨pb, 0, .none⟩))) rfl (by kernel_rfl) (by kernel_rfl) (by kernel_rfl) (fun _ _ _ h => h) (Or.inl ⟨by rfl, fun ww hSw => by (try dsimp only at hSw); go_simp⟩) (by assumption) ?_
        simp only [Act.put, List.setIfInBounds_toArray, List.set_cons_zero, List.set_cons_succ, List.getElem_toArray, List.getElem_cons_succ, List.getElem_cons_zero]
        refine wpAnyH_take (i := 2) (v := (.pointer (some ⟨pb, 0, .none⟩))) rfl (by kernel_rfl) (by kernel_rfl) (by kernel_rfl) (fun _ _ _ h => h) (Or.inl ⟨by rfl, fun ww hSw => by (try dsimp only at hSw); go_simp⟩) (by assumption) ?_
        simp only [Act.put, List.setIfInBounds_toArray, List.set_cons_zero, List.set_cons_succ, List.getElem_toArray, List.getElem_cons_succ, List.getElem_cons_zero]
        refine wpAnyH_take (i := 3) (v := (.pointer (some ⟨pb, 1, .none⟩))) rfl (by kernel_rfl) (by kernel_rfl) (by kernel_rfl) (fun _ _ _ h => h) (Or.inl ⟨by rfl, fun ww hSw => by (try dsimp only at hSw); go_simp⟩) (by assumption) ?_
        simp only [Act.put, List.setIfInBounds_toArray, List.set_cons_zero, List.set_cons_succ, List.getElem_toArray, List.getElem_cons_succ, List.getElem_cons_zero]
        refine wpAnyH_take (i := 4) (v := (.pointer (some ⟨dd, 0, .none⟩))) rfl (by kernel_rfl) (by kernel_rfl) (by kernel_rfl) (fun _ _ _ h => h) (Or.inl ⟨by rfl, fun ww hSw => by (try dsimp only at hSw); go_simp⟩) (by assumption) ?_
        simp only [Act.put, List.setIfInBounds_toArray, List.set_cons_zero, List.set_cons_succ, List.getElem_toArray, List.getElem_cons_succ, List.getElem_cons_zero]
        refine wpAnyH_ready (rs := [5]) (by kernel_rfl) (by simp) ?_
        refine AllReadyH.cons rfl (fun K hK => ?_) AllReadyH.nil
        go_simp
        refine (rstate_any HV.out.1.doc).mono ?_
        rintro e Y1 ⟨r1, t1, u1, z1, XX, rfl, hO1, hO2, _, _, hbb⟩
        rw [← HRQ.out.1, ← HRQ.out.2]
        have kS1 : Sb Y1 bx p1 R d1 q1 Q f1 ∧ Y1.cell? ⟨pb, 1, .none⟩ = some (.pointer (some ⟨dd, 0, .none⟩)) := ⟨kS.1.below hbb, (HV.out.1.below hbb).p1⟩
        have HR1 : Hid (Byt Y1 r1 R t1 rs ∧ Byt Y1 u1 Q z1 ls) := by rw [← HRQ.out.1] at hO1; rw [← HRQ.out.2] at hO2; exact ⟨byt_own hO1, byt_own hO2⟩
        have HV1 : Hid (Fz w Y1 b dd pb D rs ls rs ls (.slice kp M kc) (.slice wp M wc0) (L.map (·.1)) (L.map (·.2.1)) L col1 ∧ Y1.ownsRow 0 5 1 (.slice p1 R d1) R (by8 rs) ∧ Y1.ownsRow 0 5 1 (.slice q1 Q f1) Q (by8 ls)) := ⟨HV.out.1.below hbb, (Chg.ofBelow (S := fun _ => False) hbb).own HV.out.2.1 (fun _ _ e => e), (Chg.ofBelow (S := fun _ => False) hbb).own HV.out.2.2 (fun _ _ e => e)⟩
        clear hO1 hO2 hbb kS HV
        refine hK.out _ _ kS1 (fun hHeld => ?_)
        clear hK K
        try simp only [Act.put, List.setIfInBounds_toArray, List.set_cons_zero, List.set_cons_succ, List.getElem_toArray, List.getElem_cons_succ, List.getElem_cons_zero]
        refine wpAnyH_ready (rs := [6]) (by kernel_rfl) (by simp) ?_
        refine AllReadyH.cons rfl (fun K hK => ?_) AllReadyH.nil
        go_simp
        have cS := states_any (byt_own HV1.out.2.1) HR1.out.1 (byt_own HV1.out.2.2) HR1.out.2 (by omega) (by omega)
        refine cS.mono ?_
        rintro e Y2 ⟨rfl, hbb⟩
        have kS2 : Sb Y2 bx p1 R d1 q1 Q f1 ∧ Y2.cell? ⟨pb, 1, .none⟩ = some (.pointer (some ⟨dd, 0, .none⟩)) := ⟨kS1.1.below hbb, (HV1.out.1.below hbb).p1⟩
        have HV2 : Hid (Fz w Y2 b dd pb D rs ls rs ls (.slice kp M kc) (.slice wp M wc0) (L.map (·.1)) (L.map (·.2.1)) L col1 ∧ Y2.ownsRow 0 5 1 (.slice p1 R d1) R (by8 rs) ∧ Y2.ownsRow 0 5 1 (.slice q1 Q f1) Q (by8 ls) ∧ Sb Y2 bx p1 R d1 q1 Q f1) := ⟨HV1.out.1.below hbb, (Chg.ofBelow (S := fun _ => False) hbb).own HV1.out.2.1 (fun _ _ e => e), (Chg.ofBelow (S := fun _ => False) hbb).own HV1.out.2.2 (fun _ _ e => e), kS1.1.below hbb⟩
        clear hbb kS1 cS HV1 HR1
        refine hK.out _ _ kS2 (fun hHeld => ?_)
        clear hK K
        try simp only [Act.put, List.setIfInBounds_toArray, List.set_cons_zero, List.set_cons_succ, List.getElem_toArray, List.getElem_cons_succ, List.getElem_cons_zero]
        refine wpAnyH_take (i := 7) (v := (.bool false)) rfl (by kernel_rfl) (by kernel_rfl) (by kernel_rfl) (fun _ _ _ h => h) (Or.inl ⟨by rfl, fun ww hSw => by (try dsimp only at hSw); go_simp⟩) (by assumption) ?_
        simp only [Act.put, List.setIfInBounds_toArray, List.set_cons_zero, List.set_cons_succ, List.getElem_toArray, List.getElem_cons_succ, List.getElem_cons_zero]
        refine wpAnyH_done (by kernel_rfl) ?_ _
        clear hHeld kS2
        go_wp2
        go_loopw [17] (fun v wx => ∃ j : Nat, j ≤ M ∧ v = .int .i64 j ∧ Hid (Fz w wx b dd pb D rs ls rs ls (.slice kp M kc) (.slice wp M wc0) (L.map (·.1)) (L.map (·.2.1)) L col1 ∧ wx.ownsRow 0 5 1 (.slice p1 R d1) R (by8 rs) ∧ wx.ownsRow 0 5 1 (.slice q1 Q f1) Q (by8 ls) ∧ Sb wx bx p1 R d1 q1 Q f1)) (fun v _ => (M - intOf v).toNat)
        case atStart => exact ⟨0, Nat.zero_le _, rfl, HV2.out⟩
        case round =>
          obtain ⟨j, hj, rfl, HW⟩ := hrel
          clear HV2
          by_cases hjM : j < M
          · have g5 : (j : Int) < M := by omega
            obtain ⟨r, hr⟩ : ∃ r, L[j]? = some r := ⟨L[j]'(by rw [HLM.out]; exact hjM), by simp⟩
            obtain ⟨va, vb, E⟩ := r
            have hrow : wr.ownsRow 0 5 1 va E.length (by8 E) ∧ wr.ownsRow 0 5 1 vb E.length (by8 E) ∧ E.length ≤ 1000 := HW.out.1.row j _ hr
            obtain ⟨pa, ca, hva⟩ := one_slice hrow.1
            subst hva
            obtain ⟨pbb, cbb, hvb⟩ := one_slice hrow.2.1
            subst hvb
            have HROW : Hid (Byt wr pa E.length ca E ∧ Byt wr pbb E.length cbb E ∧ E.length ≤ 1000) := ⟨byt_own hrow.1, byt_own hrow.2.1, hrow.2.2⟩
            have RL1 : wr.ownsRow 0 22 1 (.slice kp M kc) M (L.map (·.1)) := by have := HW.out.1.rl; rw [List.length_map, HLM.out] at this; exact this
            have RL2 : wr.ownsRow 0 22 1 (.slice wp M wc0) M (L.map (·.2.1)) := by have := HW.out.1.rw; rw [List.length_map, HLM.out] at this; exact this
            obtain ⟨M', rfl⟩ : ∃ M', M = M' + 1 := ⟨M - 1, by omega⟩
            obtain ⟨gk, rfl⟩ := own_some RL1
            obtain ⟨gw, rfl⟩ := own_some RL2
            have x1 : wr.cell? ⟨gk, j, .none⟩ = some (.slice pa E.length ca) := by rw [RL1.cellAt j (by omega), List.getElem?_map, hr]; rfl
            have x2 : wr.cell? ⟨gw, j, .none⟩ = some (.slice pbb E.length cbb) := by rw [RL2.cellAt j (by omega), List.getElem?_map, hr]; rfl
            clear hr hrow RL1 RL2
            go_upto_region 30 with fail
            have kS : wr.drew.cell? ⟨gk, j, .none⟩ = some (.slice pa E.length ca) ∧ wr.drew.cell? ⟨gw, j, .none⟩ = some (.slice pbb E.length cbb) := ⟨x1, x2⟩
            clear x1 x2
            refine wp_region_held_drew (S := fun U => U.cell? ⟨gk, j, .none⟩ = some (.slice pa E.length ca) ∧ U.cell? ⟨gw, j, .none⟩ = some (.slice pbb E.length cbb)) (by kernel_rfl) kS (fun hHeld => ?_)
            refine wpAnyH_take (i := 0) (v := (.slice (some ⟨gk, 0, .none⟩) (M' + 1) kc)) rfl (by kernel_rfl) (by kernel_rfl) (by kernel_rfl) (fun _ _ _ h => h) (Or.inl ⟨by rfl, fun ww hSw => by (try dsimp only at hSw); go_simp⟩) (by assumption) ?_
            simp only [Act.put, List.setIfInBounds_toArray, List.set_cons_zero, List.set_cons_succ, List.getElem_toArray, List.getElem_cons_succ, List.getElem_cons_zero]
            refine wpAnyH_take (i := 1) (v := (.int .i64 j)) rfl (by kernel_rfl) (by kernel_rfl) (by kernel_rfl) (fun _ _ _ h => h) (Or.inl ⟨by rfl, fun ww hSw => by (try dsimp only at hSw); go_simp⟩) (by assumption) ?_
            simp only [Act.put, List.setIfInBounds_toArray, List.set_cons_zero, List.set_cons_succ, List.getElem_toArray, List.getElem_cons_succ, List.getElem_cons_zero]
            refine wpAnyH_take (i := 2) (v := (.pointer (some ⟨gk, j, .none⟩))) rfl (by kernel_rfl) (by kernel_rfl) (by kernel_rfl) (fun _ _ _ h => h) (Or.inl ⟨by rfl, fun ww hSw => by (try dsimp only at hSw); go_simp⟩) (by assumption) ?_
            simp only [Act.put, List.setIfInBounds_toArray, List.set_cons_zero, List.set_cons_succ, List.getElem_toArray, List.getElem_cons_succ, List.getElem_cons_zero]
            refine wpAnyH_take (i := 3) (v := (.slice pa E.length ca)) rfl (by kernel_rfl) (by kernel_rfl) (by kernel_rfl) (fun _ _ _ h => h) (Or.inl ⟨by rfl, fun ww hSw => by (try dsimp only at hSw); go_simp⟩) (by assumption) ?_
            simp only [Act.put, List.setIfInBounds_toArray, List.set_cons_zero, List.set_cons_succ, List.getElem_toArray, List.getElem_cons_succ, List.getElem_cons_zero]
            refine wpAnyH_take (i := 4) (v := (.slice (some ⟨gw, 0, .none⟩) (M' + 1) wc0)) rfl (by kernel_rfl) (by kernel_rfl) (by kernel_rfl) (fun _ _ _ h => h) (Or.inl ⟨by rfl, fun ww hSw => by (try dsimp only at hSw); go_simp⟩) (by assumption) ?_
            simp only [Act.put, List.setIfInBounds_toArray, List.set_cons_zero, List.set_cons_succ, List.getElem_toArray, List.getElem_cons_succ, List.getElem_cons_zero]
            refine wpAnyH_take (i := 5) (v := (.int .i64 j)) rfl (by kernel_rfl) (by kernel_rfl) (by kernel_rfl) (fun _ _ _ h => h) (Or.inl ⟨by rfl, fun ww hSw => by (try dsimp only at hSw); go_simp⟩) (by assumption) ?_
            simp only [Act.put, List.setIfInBounds_toArray, List.set_cons_zero, List.set_cons_succ, List.getElem_toArray, List.getElem_cons_succ, List.getElem_cons_zero]
            refine wpAnyH_take (i := 6) (v := (.pointer (some ⟨gw, j, .none⟩))) rfl (by kernel_rfl) (by kernel_rfl) (by kernel_rfl) (fun _ _ _ h => h) (Or.inl ⟨by rfl, fun ww hSw => by (try dsimp only at hSw); go_simp⟩) (by assumption) ?_
            simp only [Act.put, List.setIfInBounds_toArray, List.set_cons_zero, List.set_cons_succ, List.getElem_toArray, List.getElem_cons_succ, List.getElem_cons_zero]
            refine wpAnyH_take (i := 7) (v := (.slice pbb E.length cbb)) rfl (by kernel_rfl) (by kernel_rfl) (by kernel_rfl) (fun _ _ _ h => h) (Or.inl ⟨by rfl, fun ww hSw => by (try dsimp only at hSw); go_simp⟩) (by assumption) ?_
            simp only [Act.put, List.setIfInBounds_toArray, List.set_cons_zero, List.set_cons_succ, List.getElem_toArray, List.getElem_cons_succ, List.getElem_cons_zero]
            refine wpAnyH_ready (rs := [8]) (by kernel_rfl) (by simp) ?_
            refine AllReadyH.cons rfl (fun K hK => ?_) AllReadyH.nil
            go_simp
            have cB := bytes_any pa pbb E.length ca cbb E wr.drew (by have := HROW.out.2.2; omega) HROW.out.1 HROW.out.2.1
            refine cB.mono ?_
            rintro e Y3 ⟨rfl, k2, hk2⟩
            have kS3 : Y3.cell? ⟨gk, j, .none⟩ = some (.slice pa E.length ca) ∧ Y3.cell? ⟨gw, j, .none⟩ = some (.slice pbb E.length cbb) := by rw [hk2]; exact kS
            have HW3 : Hid (Fz w Y3 b dd pb D rs ls rs ls (.slice (some ⟨gk, 0, .none⟩) (M' + 1) kc) (.slice (some ⟨gw, 0, .none⟩) (M' + 1) wc0) (L.map (·.1)) (L.map (·.2.1)) L col1 ∧ Y3.ownsRow 0 5 1 (.slice p1 R d1) R (by8 rs) ∧ Y3.ownsRow 0 5 1 (.slice q1 Q f1) Q (by8 ls) ∧ Sb Y3 bx p1 R d1 q1 Q f1) := by
              have h := HW.out
              rw [hk2]
              exact ⟨(h.1.drewN 1).drewN k2, h.2.1, h.2.2.1, ⟨h.2.2.2.c0, h.2.2.2.c1⟩⟩
            clear hk2 cB kS
            refine hK.out _ _ kS3 (fun hHeld => ?_)
            clear hK K
            try simp only [Act.put, List.setIfInBounds_toArray, List.set_cons_zero, List.set_cons_succ, List.getElem_toArray, List.getElem_cons_succ, List.getElem_cons_zero]
            refine wpAnyH_take (i := 9) (v := (.bool false)) rfl (by kernel_rfl) (by kernel_rfl) (by kernel_rfl) (fun _ _ _ h => h) (Or.inl ⟨by rfl, fun ww hSw => by (try dsimp only at hSw); go_simp⟩) (by assumption) ?_
            simp only [Act.put, List.setIfInBounds_toArray, List.set_cons_zero, List.set_cons_succ, List.getElem_toArray, List.getElem_cons_succ, List.getElem_cons_zero]
            refine wpAnyH_done (by kernel_rfl) ?_ _
            clear hHeld kS3
            go_wp2
            exact ⟨⟨j + 1, by omega, rfl, HW3⟩, by simp only [intOf]; omega⟩
          · obtain rfl : j = M := by omega
            clear hjM hj
            have x1 := HW.out.2.2.2.c0
            have x2 := HW.out.2.2.2.c1
            have RL : Hid (wr.ownsRow 0 22 1 (.slice kp j kc) j (L.map (·.1))) := by have := HW.out.1.rl; rw [List.length_map, HLM.out] at this; exact this
            go_wp2_with (first | (at_builtin; refine wpList_append_at rfl (.tmp 153) (.tmp 158) 60 rfl 0 22 i9 z9 1 24 Tryd.underlying60 HJ.out.1 HJ.out.2.1 HJ.out.2.2.1 HJ.out.2.2.2.1 HJ.out.2.2.2.2 (by decide) (.slice kp j kc) j (L.map (·.1)) rfl (RL.out.alloc _) ⟨wr.heap.size, 0, .none⟩ 2 2 [.slice p1 R d1, .slice q1 Q f1] rfl rfl (cell2_new _ _ _ _) (by simp [Value.oneCell']) ?c1 ?c2 (Nat.zero_le _) ?_) | go_in)
            case c1 => unfold maxLen; omega
            case c2 => omega
            intro v5 U1 hO1 hg1 hbk1
            obtain ⟨p5, c5, rfl⟩ := one_slice hO1
            obtain ⟨gl, rfl⟩ := own_some (n := j + 1) hO1
            have HU : Hid (Fz w U1 b dd pb D rs ls rs ls (.slice (some ⟨gl, 0, .none⟩) (j + 1 + 1) c5) (.slice wp j wc0) (L.map (·.1) ++ [.slice p1 R d1, .slice q1 Q f1]) (L.map (·.2.1)) L (colA col1 wr.heap.size 4) ∧ U1.ownsRow 0 5 1 (.slice p1 R d1) R (by8 rs) ∧ U1.ownsRow 0 5 1 (.slice q1 Q f1) Q (by8 ls) ∧ (∀ g, (Value.slice p1 R d1).ownBlock = some g → colA col1 wr.heap.size 4 g = 6 + 2 * j) ∧ (∀ g, (Value.slice q1 Q f1).ownBlock = some g → colA col1 wr.heap.size 4 g = 8 + 2 * j) ∧ U1.ownsRow 0 22 1 (.slice (some ⟨gl, 0, .none⟩) (j + 1 + 1) c5) (j + 1 + 1) (L.map (·.1) ++ [.slice p1 R d1, .slice q1 Q f1])) := by
              have hw := HW.out
              have h := hw.1.recol (col' := colA col1 wr.heap.size 4) (fun k hk => colA_lt hk)
              have t2 : Chg (fun k => (Value.slice kp j kc).ownBlock = some k) wr U1 := (Chg.ofBelow (Trn.new wr (.cells #[.slice p1 R d1, .slice q1 Q f1] 22))).trans (Chg.ofGrown hg1) (fun k _ h => h)
              have eM : (L.map (·.1) ++ [Value.slice p1 R d1, .slice q1 Q f1]).length = j + 1 + 1 := by rw [List.length_append, List.length_map, HLM.out]; rfl
              have cR : ∀ g, (Value.slice p1 R d1).ownBlock = some g → colA col1 wr.heap.size 4 g = 6 + 2 * j := fun g hg => by rw [colA_lt (own_ltC hw.2.1 g hg)]; exact HCO.out.1 g hg
              have cL : ∀ g, (Value.slice q1 Q f1).ownBlock = some g → colA col1 wr.heap.size 4 g = 8 + 2 * j := fun g hg => by rw [colA_lt (own_ltC hw.2.2.1 g hg)]; exact HCO.out.2 g hg
              refine ⟨h.setl t2 (by rw [eM]; exact hO1) (fun k hk => ?_), t2.own hw.2.1 (fun g hg e => ?_), t2.own hw.2.2.1 (fun g hg e => ?_), cR, cL, hO1⟩
              · rcases hbk1 with e | e
                · exact h.cl k (e.symm.trans hk)
                · rw [hk] at e
                  have := Option.some.inj e
                  exact colA_ge (by have hsz := (Trn.new wr (.cells #[.slice p1 R d1, .slice q1 Q f1] 22)).size; omega)
              · have h1 := cR g hg
                have h2 := h.cl g e
                omega
              · have h1 := cL g hg
                have h2 := h.cl g e
                omega
            generalize colA col1 wr.heap.size 4 = col3 at *
            clear hO1 hg1 hbk1 RL x1 x2 HW HCO
            have CF : Hid (Calls Tryd.prog 27 #[.slice (some ⟨gl, 0, .none⟩) (j + 1 + 1) c5] U1.drew fun e w' => e = .returned (.bool true) ∧ Fz w w' b dd pb D rs ls rs ls (.slice none 0 0) (.slice none 0 0) [] [] [] col3) := by
              have h := HU.out
              have fz := h.1.drewN 1
              have hlen : (L.map (fun r => (r.1, r.2.2)) ++ [((.slice p1 R d1 : Value), rs), (.slice q1 Q f1, ls)]).length = j + 1 + 1 := by rw [List.length_append, List.length_map, HLM.out]; rfl
              have hcs : ∀ (i : Nat) (r : Value × List Int), (L.map (fun r => (r.1, r.2.2)) ++ [((.slice p1 R d1 : Value), rs), (.slice q1 Q f1, ls)])[i]? = some r → (U1.drew.ownsRow 0 5 1 r.1 r.2.length (by8 r.2) ∧ r.2.length ≤ 1000000) ∧ (∀ g, r.1.ownBlock = some g → col3 g = 6 + 2 * i) ∧ U1.drew.cell? ⟨gl, i, .none⟩ = some r.1 := by
                intro i r hr
                have hi := (List.getElem?_eq_some_iff.1 hr).1
                rw [hlen] at hi
                have hcell : U1.drew.cell? ⟨gl, i, .none⟩ = (L.map (·.1) ++ [Value.slice p1 R d1, .slice q1 Q f1])[i]? := h.2.2.2.2.2.cellAt (w := U1) i (by omega)
                rw [hcell]
                by_cases h1 : i < L.length
                · rw [List.getElem?_append_left (by rw [List.length_map]; exact h1), List.getElem?_map] at hr
                  rw [List.getElem?_append_left (by rw [List.length_map]; exact h1), List.getElem?_map]
                  obtain ⟨s, hs⟩ : ∃ s, L[i]? = some s := ⟨L[i], by simp⟩
                  rw [hs] at hr ⊢
                  have e := (Option.some.inj hr).symm
                  subst e
                  have hrow := fz.row i s hs
                  exact ⟨⟨hrow.1, by have := hrow.2.2; show s.2.2.length ≤ _; omega⟩, (fz.cr i s hs).1, rfl⟩
                · have hLj := HLM.out
                  rw [List.getElem?_append_right (by rw [List.length_map]; omega), List.length_map] at hr
                  rw [List.getElem?_append_right (by rw [List.length_map]; omega), List.length_map]
                  rcases Nat.lt_or_ge (i - L.length) 1 with h2 | h2
                  · have e : i - L.length = 0 := by omega
                    rw [e] at hr ⊢
                    have e := (Option.some.inj hr).symm
                    subst e
                    refine ⟨⟨?_, ?_⟩, fun g hg => ?_, rfl⟩
                    · have := h.2.1; rw [HRQ.out.1] at this ⊢; exact this
                    · show rs.length ≤ _; have := HRQ.out.1; omega
                    · have := h.2.2.2.1 g hg; omega
                  · have e : i - L.length = 1 := by omega
                    rw [e] at hr ⊢
                    have e := (Option.some.inj hr).symm
                    subst e
                    refine ⟨⟨?_, ?_⟩, fun g hg => ?_, rfl⟩
                    · have := h.2.2.1; rw [HRQ.out.2] at this ⊢; exact this
                    · show ls.length ≤ _; have := HRQ.out.2; omega
                    · have := h.2.2.2.2.1 g hg; omega
              have cf := free_ap (w := U1.drew) (bl := gl) (cl := c5) (L := L.map (fun r => (r.1, r.2.2)) ++ [((.slice p1 R d1 : Value), rs), (.slice q1 Q f1, ls)]) (fun i r hr => (hcs i r hr).1) (fun i k r s hik hr hs g hg e => by
                have h1 := (hcs i r hr).2.1 g hg
                have h2 := (hcs k s hs).2.1 g e
                omega) (by rw [hlen]; omega) (own_ltC h.2.2.2.2.2 gl rfl) (fun r hr e => by
                obtain ⟨i, hi, hri⟩ := List.getElem_of_mem hr
                have h1 := (hcs i r (by rw [List.getElem?_eq_getElem hi, hri])).2.1 gl e
                have h2 := fz.cl gl rfl
                omega) (fun i r hr => (hcs i r hr).2.2)
              rw [hlen] at cf
              refine cf.mono ?_
              rintro e V ⟨rfl, hch⟩
              have hS : ∀ k, (∃ r ∈ L.map (fun r => (r.1, r.2.2)) ++ [((.slice p1 R d1 : Value), rs), (.slice q1 Q f1, ls)], r.1.ownBlock = some k) → 6 ≤ col3 k := by
                rintro k ⟨r, hr, hk⟩
                obtain ⟨i, hi, hri⟩ := List.getElem_of_mem hr
                have h1 := (hcs i r (by rw [List.getElem?_eq_getElem hi, hri])).2.1 k hk
                omega
              have hp : ∀ c k, col3 k = c → c < 6 → ¬ (∃ r ∈ L.map (fun r => (r.1, r.2.2)) ++ [((.slice p1 R d1 : Value), rs), (.slice q1 Q f1, ls)], r.1.ownBlock = some k) := fun c k h1 h2 e => by have := hS k e; omega
              exact ⟨rfl, fz.bel.trans (hch.toTrn fz.bel.size (fun k hk => hp 0 k (fz.c0 k hk) (by decide))), fz.con.keep hch (hp 1 b fz.cb (by decide)), fz.doc.keep hch (fun k _ hk => hp 2 k (fz.cD k hk).1 (by decide)), (hch.cell (p := ⟨pb, 0, .none⟩) (lt_cell fz.p0) (hp 3 pb fz.cp (by decide))).trans fz.p0, (hch.cell (p := ⟨pb, 1, .none⟩) (lt_cell fz.p1) (hp 3 pb fz.cp (by decide))).trans fz.p1, World.ownsRow_nil _ _ _ _, World.ownsRow_nil _ _ _ _, fun i r hr => by simp at hr, fz.c0, fz.cb, fun k hk => ⟨(fz.cD k hk).1, Nat.lt_of_lt_of_le (fz.cD k hk).2 hch.size⟩, fz.cp, (fun k hk => by cases hk), (fun k hk => by cases hk), fun i r hr => by simp at hr⟩
            go_upto_region 33 with fail
            have kS : U1.drew.cell? ⟨pb, 0, .none⟩ = some (.pointer (some ⟨b, 0, .none⟩)) ∧ U1.drew.cell? ⟨pb, 1, .none⟩ = some (.pointer (some ⟨dd, 0, .none⟩)) := ⟨HU.out.1.p0, HU.out.1.p1⟩
            clear HU
            refine wp_region_held_drew (S := fun U => U.cell? ⟨pb, 0, .none⟩ = some (.pointer (some ⟨b, 0, .none⟩)) ∧ U.cell? ⟨pb, 1, .none⟩ = some (.pointer (some ⟨dd, 0, .none⟩))) (by kernel_rfl) kS (fun hHeld => ?_)
            refine wpAnyH_take (i := 0) (v := (.slice (some ⟨gl, 0, .none⟩) (j + 1 + 1) c5)) rfl (by kernel_rfl) (by kernel_rfl) (by kernel_rfl) (fun _ _ _ h => h) (Or.inl ⟨by rfl, fun ww hSw => by (try dsimp only at hSw); go_simp⟩) (by assumption) ?_
            simp only [Act.put, List.setIfInBounds_toArray, List.set_cons_zero, List.set_cons_succ, List.getElem_toArray, List.getElem_cons_succ, List.getElem_cons_zero]
            refine wpAnyH_ready (rs := [1]) (by kernel_rfl) (by simp) ?_
            refine AllReadyH.cons rfl (fun K hK => ?_) AllReadyH.nil
            go_simp
            refine CF.out.mono ?_
            rintro e Y5 ⟨rfl, hfz⟩
            have H5 : Hid (Fz w Y5 b dd pb D rs ls rs ls (.slice none 0 0) (.slice none 0 0) [] [] [] col3) := hfz
            have kS5 : Y5.cell? ⟨pb, 0, .none⟩ = some (.pointer (some ⟨b, 0, .none⟩)) ∧ Y5.cell? ⟨pb, 1, .none⟩ = some (.pointer (some ⟨dd, 0, .none⟩)) := ⟨hfz.p0, hfz.p1⟩
            clear hfz kS CF
            refine hK.out _ _ kS5 (fun hHeld => ?_)
            clear hK K
            try simp only [Act.put, List.setIfInBounds_toArray, List.set_cons_zero, List.set_cons_succ, List.getElem_toArray, List.getElem_cons_succ, List.getElem_cons_zero]
            refine wpAnyH_take (i := 2) (v := (.bool true)) rfl (by kernel_rfl) (by kernel_rfl) (by kernel_rfl) (fun _ _ _ h => h) (Or.inl ⟨by rfl, fun ww hSw => by (try dsimp only at hSw); go_simp⟩) (by assumption) ?_
            simp only [Act.put, List.setIfInBounds_toArray, List.set_cons_zero, List.set_cons_succ, List.getElem_toArray, List.getElem_cons_succ, List.getElem_cons_zero]
            refine wpAnyH_take (i := 3) (v := (.pointer (some ⟨pb, 0, .none⟩))) rfl (by kernel_rfl) (by kernel_rfl) (by kernel_rfl) (fun _ _ _ h => h) (Or.inl ⟨by rfl, fun ww hSw => by (try dsimp only at hSw); go_simp⟩) (by assumption) ?_
            simp only [Act.put, List.setIfInBounds_toArray, List.set_cons_zero, List.set_cons_succ, List.getElem_toArray, List.getElem_cons_succ, List.getElem_cons_zero]
            refine wpAnyH_take (i := 4) (v := (.pointer (some ⟨pb, 0, .none⟩))) rfl (by kernel_rfl) (by kernel_rfl) (by kernel_rfl) (fun _ _ _ h => h) (Or.inl ⟨by rfl, fun ww hSw => by (try dsimp only at hSw); go_simp⟩) (by assumption) ?_
            simp only [Act.put, List.setIfInBounds_toArray, List.set_cons_zero, List.set_cons_succ, List.getElem_toArray, List.getElem_cons_succ, List.getElem_cons_zero]
            refine wpAnyH_take (i := 5) (v := (.pointer (some ⟨pb, 0, .none⟩))) rfl (by kernel_rfl) (by kernel_rfl) (by kernel_rfl) (fun _ _ _ h => h) (Or.inl ⟨by rfl, fun ww hSw => by (try dsimp only at hSw); go_simp⟩) (by assumption) ?_
            simp only [Act.put, List.setIfInBounds_toArray, List.set_cons_zero, List.set_cons_succ, List.getElem_toArray, List.getElem_cons_succ, List.getElem_cons_zero]
            refine wpAnyH_take (i := 6) (v := (.pointer (some ⟨b, 0, .none⟩))) rfl (by kernel_rfl) (by kernel_rfl) (by kernel_rfl) (fun _ _ _ h => h) (Or.inl ⟨by rfl, fun ww hSw => by (try dsimp only at hSw); go_simp⟩) (by assumption) ?_
            simp only [Act.put, List.setIfInBounds_toArray, List.set_cons_zero, List.set_cons_succ, List.getElem_toArray, List.getElem_cons_succ, List.getElem_cons_zero]
            refine wpAnyH_take (i := 8) (v := (.pointer (some ⟨pb, 0, .none⟩))) rfl (by kernel_rfl) (by kernel_rfl) (by kernel_rfl) (fun _ _ _ h => h) (Or.inl ⟨by rfl, fun ww hSw => by (try dsimp only at hSw); go_simp⟩) (by assumption) ?_
            simp only [Act.put, List.setIfInBounds_toArray, List.set_cons_zero, List.set_cons_succ, List.getElem_toArray, List.getElem_cons_succ, List.getElem_cons_zero]
            refine wpAnyH_take (i := 9) (v := (.pointer (some ⟨pb, 0, .none⟩))) rfl (by kernel_rfl) (by kernel_rfl) (by kernel_rfl) (fun _ _ _ h => h) (Or.inl ⟨by rfl, fun ww hSw => by (try dsimp only at hSw); go_simp⟩) (by assumption) ?_
            simp only [Act.put, List.setIfInBounds_toArray, List.set_cons_zero, List.set_cons_succ, List.getElem_toArray, List.getElem_cons_succ, List.getElem_cons_zero]
            refine wpAnyH_take (i := 10) (v := (.pointer (some ⟨pb, 1, .none⟩))) rfl (by kernel_rfl) (by kernel_rfl) (by kernel_rfl) (fun _ _ _ h => h) (Or.inl ⟨by rfl, fun ww hSw => by (try dsimp only at hSw); go_simp⟩) (by assumption) ?_
            simp only [Act.put, List.setIfInBounds_toArray, List.set_cons_zero, List.set_cons_succ, List.getElem_toArray, List.getElem_cons_succ, List.getElem_cons_zero]
            refine wpAnyH_take (i := 11) (v := (.pointer (some ⟨dd, 0, .none⟩))) rfl (by kernel_rfl) (by kernel_rfl) (by kernel_rfl) (fun _ _ _ h => h) (Or.inl ⟨by rfl, fun ww hSw => by (try dsimp only at hSw); go_simp⟩) (by assumption) ?_
            simp only [Act.put, List.setIfInBounds_toArray, List.set_cons_zero, List.set_cons_succ, List.getElem_toArray, List.getElem_cons_succ, List.getElem_cons_zero]
            refine wpAnyH_ready (rs := [7]) (by kernel_rfl) (by simp) ?_
            refine AllReadyH.cons rfl (fun K hK => ?_) AllReadyH.nil
            go_simp
            refine (state_any H5.out.con).mono ?_
            rintro e Y6 ⟨r6, t6, u6, z6, XX, rfl, hO1, hO2, _, _, hbb⟩
            rw [← HRQ.out.1, ← HRQ.out.2]
            have H6 : Hid (Fz w Y6 b dd pb D rs ls rs ls (.slice none 0 0) (.slice none 0 0) [] [] [] col3 ∧ Byt Y6 r6 R t6 rs ∧ Byt Y6 u6 Q z6 ls) := by rw [← HRQ.out.1] at hO1; rw [← HRQ.out.2] at hO2; exact ⟨H5.out.below hbb, byt_own hO1, byt_own hO2⟩
            have kS6 : Y6.cell? ⟨pb, 0, .none⟩ = some (.pointer (some ⟨b, 0, .none⟩)) ∧ Y6.cell? ⟨pb, 1, .none⟩ = some (.pointer (some ⟨dd, 0, .none⟩)) := ⟨H6.out.1.p0, H6.out.1.p1⟩
            clear hO1 hO2 hbb kS5 H5
            refine hK.out _ _ kS6 (fun hHeld => ?_)
            clear hK K
            try simp only [Act.put, List.setIfInBounds_toArray, List.set_cons_zero, List.set_cons_succ, List.getElem_toArray, List.getElem_cons_succ, List.getElem_cons_zero]
            refine wpAnyH_ready (rs := [12]) (by kernel_rfl) (by simp) ?_
            refine AllReadyH.cons rfl (fun K hK => ?_) AllReadyH.nil
            go_simp
            refine (rstate_any H6.out.1.doc).mono ?_
            rintro e Y7 ⟨r7, t7, u7, z7, XX, rfl, hO1, hO2, _, _, hbb⟩
            rw [← HRQ.out.1, ← HRQ.out.2]
            have H7 : Hid (Fz w Y7 b dd pb D rs ls rs ls (.slice none 0 0) (.slice none 0 0) [] [] [] col3 ∧ Byt Y7 r6 R t6 rs ∧ Byt Y7 u6 Q z6 ls ∧ Byt Y7 r7 R t7 rs ∧ Byt Y7 u7 Q z7 ls) := by rw [← HRQ.out.1] at hO1; rw [← HRQ.out.2] at hO2; exact ⟨H6.out.1.below hbb, byt_below H6.out.2.1 hbb, byt_below H6.out.2.2 hbb, byt_own hO1, byt_own hO2⟩
            have kS7 : Y7.cell? ⟨pb, 0, .none⟩ = some (.pointer (some ⟨b, 0, .none⟩)) ∧ Y7.cell? ⟨pb, 1, .none⟩ = some (.pointer (some ⟨dd, 0, .none⟩)) := ⟨H7.out.1.p0, H7.out.1.p1⟩
            clear hO1 hO2 hbb kS6 H6
            refine hK.out _ _ kS7 (fun hHeld => ?_)
            clear hK K
            try simp only [Act.put, List.setIfInBounds_toArray, List.set_cons_zero, List.set_cons_succ, List.getElem_toArray, List.getElem_cons_succ, List.getElem_cons_zero]
            refine wpAnyH_ready (rs := [13]) (by kernel_rfl) (by simp) ?_
            refine AllReadyH.cons rfl (fun K hK => ?_) AllReadyH.nil
            go_simp
            have cS := states_any H7.out.2.1 H7.out.2.2.2.1 H7.out.2.2.1 H7.out.2.2.2.2 (by omega) (by omega)
            refine cS.mono ?_
            rintro e Y8 ⟨rfl, hbb⟩
            have H8 : Hid (Below w.heap.size w Y8) := (H7.out.1.below hbb).bel
            have kS8 : Y8.cell? ⟨pb, 0, .none⟩ = some (.pointer (some ⟨b, 0, .none⟩)) ∧ Y8.cell? ⟨pb, 1, .none⟩ = some (.pointer (some ⟨dd, 0, .none⟩)) := ⟨(H7.out.1.below hbb).p0, (H7.out.1.below hbb).p1⟩
            clear hbb kS7 H7 cS
            refine hK.out _ _ kS8 (fun hHeld => ?_)
            clear hK K
            try simp only [Act.put, List.setIfInBounds_toArray, List.set_cons_zero, List.set_cons_succ, List.getElem_toArray, List.getElem_cons_succ, List.getElem_cons_zero]
            refine wpAnyH_take (i := 14) (v := (.bool true)) rfl (by kernel_rfl) (by kernel_rfl) (by kernel_rfl) (fun _ _ _ h => h) (Or.inl ⟨by rfl, fun ww hSw => by (try dsimp only at hSw); go_simp⟩) (by assumption) ?_
            simp only [Act.put, List.setIfInBounds_toArray, List.set_cons_zero, List.set_cons_succ, List.getElem_toArray, List.getElem_cons_succ, List.getElem_cons_zero]
            refine wpAnyH_take (i := 15) (v := (.bool true)) rfl (by kernel_rfl) (by kernel_rfl) (by kernel_rfl) (fun _ _ _ h => h) (Or.inl ⟨by rfl, fun ww hSw => by (try dsimp only at hSw); go_simp⟩) (by assumption) ?_
            simp only [Act.put, List.setIfInBounds_toArray, List.set_cons_zero, List.set_cons_succ, List.getElem_toArray, List.getElem_cons_succ, List.getElem_cons_zero]
            refine wpAnyH_done (by kernel_rfl) ?_ _
            clear hHeld kS8
            go_wp2
            go_ret
            exact ⟨rfl, H8.out⟩
end Go.Proofs.YtblpdnchphhcaaaDoor
