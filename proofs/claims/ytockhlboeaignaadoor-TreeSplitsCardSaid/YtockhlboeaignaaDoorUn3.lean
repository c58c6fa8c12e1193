import Derived.Test.YtockhlboeaignaaDoorUn2
import Derived.Deep.RegionHeld3
namespace Go.Proofs.YtockhlboeaignaaDoor
open Go.RowKit
set_option linter.unusedVariables false
set_option linter.unusedSimpArgs false
set_option maxRecDepth 10000
/-- What Unpack answers. -/
def ino (l : Bs) : Int := ((l.getD 0 0).toNat : Int) + 256 * ((l.getD 1 0).toNat : Int)
def unpV (l : Bs) : Value := if l.length = 16 then .tuple #[.agg #[.int .i64 (ino l), .string ⟨(upz (l.drop 2)).toArray⟩], .bool true] else .tuple #[.agg #[.int .i64 0, .string ⟨#[]⟩], .bool false]
theorem results_cell_tmp' {P : Program} {fn : Func} {a p : Tmp} {ty : TypeId} (h : fn.results = #[.cell p ty, .tmp a]) (tmps : Array Value) (w : World) (ad : Addr) (v : Value) (hp : tmps.getD p undef = .pointer (some ad)) (hl : (loadVar ty ad).run P w = .ok v w) : (results fn tmps).run P w = .ok (.tuple #[v, tmps.getD a undef]) w := by
  have hp' : tmps[p]?.getD undef = .pointer (some ad) := by simpa using hp
  simp [results, h, hp', asAddr, hl]
theorem two_of {X : World} {b : Nat} {u v : Value} (h0 : X.cell? ⟨b, 0, .none⟩ = some u) (h1 : X.cell? ⟨b, 1, .none⟩ = some v) : X.rangeAt b 0 [u, v] := by
  intro j x hj
  rw [Nat.zero_add]
  match j, hj with
  | 0, hj => injection hj with hj; subst hj; exact h0
  | 1, hj => injection hj with hj; subst hj; exact h1
/-- A slice of bytes as an argument. -/
def Sl (w : World) (p : Option Addr) (n c : Nat) (l : Bs) : Prop := l.length = n ∧ n ≤ c ∧ c ≤ maxLen ∧ (n = 0 ∨ ∃ g o, p = some ⟨g, o, .none⟩ ∧ g < w.heap.size ∧ Bts w g o l)
set_option maxHeartbeats 1000000 in
theorem unpack_any {w : World} {p : Option Addr} {n c : Nat} {l : Bs} (h : Sl w p n c l) : Calls Tryd.prog 7 #[.slice p n c] w fun e w' => e = .returned (unpV l) ∧ Below w.heap.size w w' := by
  obtain ⟨hl, hnc, hm, h⟩ := h
  have hm' : c ≤ 9223372036854775807 := hm
  by_cases h16 : n = 16
  · subst h16
    rcases h with h | ⟨g, o, rfl, hg, hB⟩
    · omega
    have hv : unpV l = .tuple #[.agg #[.int .i64 (ino l), .string ⟨(upz (l.drop 2)).toArray⟩], .bool true] := if_pos hl
    rw [hv]
    have g0 : l[0]? = some (l.getD 0 0) := by rw [List.getD_eq_getElem?_getD, List.getElem?_eq_getElem (by omega)]; rfl
    have g1 : l[1]? = some (l.getD 1 0) := by rw [List.getD_eq_getElem?_getD, List.getElem?_eq_getElem (by omega)]; rfl
    have HB := read_any (w := (w.alloc (.cells #[.int .i64 0, .string ⟨#[]⟩] 23))) (hB.below (below_past w _) hg) hl (by simp; omega) ⟨hnc, by omega⟩ _ _ g0 g1
    have hbz := below_past w (.cells #[.int .i64 0, .string ⟨#[]⟩] 23)
    have z0 : (w.alloc (.cells #[.int .i64 0, .string ⟨#[]⟩] 23)).cell? ⟨w.heap.size, 0, .none⟩ = some (.int .i64 0) := by rw [World.cell?_alloc_at _ _ _ _ rfl]; rfl
    have z1 : (w.alloc (.cells #[.int .i64 0, .string ⟨#[]⟩] 23)).cell? ⟨w.heap.size, 1, .none⟩ = some (.string ⟨#[]⟩) := by rw [World.cell?_alloc_at _ _ _ _ rfl]; rfl
    have q0 : (w.alloc (.cells #[.int .i64 0, .string ⟨#[]⟩] 23)).frozen? ⟨w.heap.size, 0, .none⟩ = false := by rw [World.frozen?_alloc_at _ _ _ _ rfl]
    have q1 : (w.alloc (.cells #[.int .i64 0, .string ⟨#[]⟩] 23)).frozen? ⟨w.heap.size, 1, .none⟩ = false := by rw [World.frozen?_alloc_at _ _ _ _ rfl]
    have zs : w.heap.size < (w.alloc (.cells #[.int .i64 0, .string ⟨#[]⟩] 23)).heap.size := by simp
    have hl14 : (l.drop 2).length = 14 := by rw [List.length_drop, hl]
    have HP := fun W => plain_any (ino l) (l.drop 2) W hl14
    have HR : Calls Tryd.prog 18 #[.slice (some ⟨g, o, .none⟩) 16 c] (w.alloc (.cells #[.int .i64 0, .string ⟨#[]⟩] 23)) fun e w' => e = .returned (.agg (ent (ino l) (l.drop 2)).toArray) ∧ Below (w.alloc (.cells #[.int .i64 0, .string ⟨#[]⟩] 23)).heap.size (w.alloc (.cells #[.int .i64 0, .string ⟨#[]⟩] 23)) w' := HB
    clear HB hB hl g0 g1 hv hl14
    go_enter Tryd.func7, Tryd.ntmps7
    go_upto_region 3 with fail
    generalize (w.alloc (.cells #[.int .i64 0, .string ⟨#[]⟩] 23)) = V at *
    go_wp2_with fail
    go_at_call 18
    refine HR.mono ?_
    rintro _ X ⟨rfl, hX⟩
    clear HR
    go_wp2_with fail
    go_at_call 19
    refine (HP X).mono ?_
    rintro _ Y ⟨rfl, hY⟩
    clear HP
    have hVY := hX.trans (hY.mono hX.size)
    have y0 := (hVY.cell (p := ⟨w.heap.size, 0, .none⟩) zs).trans z0
    have y1 := (hVY.cell (p := ⟨w.heap.size, 1, .none⟩) zs).trans z1
    have r0 := (hVY.frozen (p := ⟨w.heap.size, 0, .none⟩) zs).trans q0
    have r1 := (hVY.frozen (p := ⟨w.heap.size, 1, .none⟩) zs).trans q1
    have HY : Hid (Below w.heap.size w Y) := hbz.trans (hVY.mono hbz.size)
    clear hX hY hVY z0 z1 q0 q1 hbz
    go_wp2
    have hr9 := two_of (X := (Y.setCell ⟨w.heap.size, 0, .none⟩ (.int .i64 (ino l))).setCell ⟨w.heap.size, 1, .none⟩ (.string ⟨(upz (l.drop 2)).toArray⟩)) (b := w.heap.size) ((World.cell?_setCell_other _ _ _ _ (by simp)).trans (World.cell?_setCell_same _ _ _ y0)) (World.cell?_setCell_same _ _ _ ((World.cell?_setCell_other _ _ _ _ (by simp)).trans y1))
    have hb9 : Below w.heap.size w ((Y.setCell ⟨w.heap.size, 0, .none⟩ (.int .i64 (ino l))).setCell ⟨w.heap.size, 1, .none⟩ (.string ⟨(upz (l.drop 2)).toArray⟩)) := (HY.out.setCell (p := ⟨w.heap.size, 0, .none⟩) (Nat.le_refl _) _).setCell (p := ⟨w.heap.size, 1, .none⟩) (Nat.le_refl _) _
    generalize ((Y.setCell ⟨w.heap.size, 0, .none⟩ (.int .i64 (ino l))).setCell ⟨w.heap.size, 1, .none⟩ (.string ⟨(upz (l.drop 2)).toArray⟩)) = T at *
    exact bodyPost_ret (results_cell_tmp' (p := 2) (a := 3) (ty := 23) rfl _ _ ⟨w.heap.size, 0, .none⟩ _ rfl (run_loadVar_mid (P := Tryd.prog) _ w.heap.size 0 23 _ _ hr9 Tryd.underlying23 rfl (by kernel_rfl))) rfl ⟨rfl, hb9⟩
  · have hv : unpV l = .tuple #[.agg #[.int .i64 0, .string ⟨#[]⟩], .bool false] := if_neg (by omega)
    rw [hv]
    have n1 : ((n : Int) != 16) = true := by simp only [bne_iff_ne, ne_eq]; omega
    clear h hv hl
    go_enter Tryd.func7, Tryd.ntmps7
    go_wp2
    have hr9 := range_new w [.int .i64 0, .string ⟨#[]⟩] 23
    have hb9 := below_past w (.cells #[.int .i64 0, .string ⟨#[]⟩] 23)
    generalize (w.alloc (.cells #[.int .i64 0, .string ⟨#[]⟩] 23)) = T at *
    exact bodyPost_ret (results_cell_tmp' (p := 2) (a := 3) (ty := 23) rfl _ _ ⟨w.heap.size, 0, .none⟩ _ rfl (run_loadVar_mid (P := Tryd.prog) _ w.heap.size 0 23 _ _ hr9 Tryd.underlying23 rfl (by kernel_rfl))) rfl ⟨rfl, hb9⟩
theorem upz_stop {l : Bs} {n : Nat} (h2 : 2 ≤ n) (h16 : n ≤ l.length) (hk : ∀ k, 2 ≤ k → k < n → l[k]? ≠ some 0) (he : n = l.length ∨ l[n]? = some 0) : (l.drop 2).take (n - 2) = upz (l.drop 2) := by
  rcases he with rfl | he
  · have e : ix (l.drop 2) 0 = -1 := ix_not (fun k => by
      rw [List.getElem?_drop]
      by_cases h : 2 + k < l.length
      · exact hk _ (by omega) h
      · rw [List.getElem?_eq_none (by omega)]; simp)
    rw [upz, if_pos e, List.take_of_length_le (by rw [List.length_drop]; omega)]
  · have e : ix (l.drop 2) 0 = ((n - 2 : Nat) : Int) := ix_is (by rw [List.getElem?_drop, show 2 + (n - 2) = n by omega]; exact he) (fun k h => by rw [List.getElem?_drop]; exact hk _ (by omega) (by omega))
    rw [upz, if_neg (by omega), e]
    rfl
set_option maxHeartbeats 2000000 in
theorem runpack_any {w : World} {p : Option Addr} {n c : Nat} {l : Bs} (h : Sl w p n c l) : Calls Tryd.prog 8 #[.slice p n c] w fun e w' => e = .returned (unpV l) ∧ Below w.heap.size w w' := by
  obtain ⟨hl, hnc, hm, h⟩ := h
  have hm' : c ≤ 9223372036854775807 := hm
  by_cases h16 : n = 16
  · subst h16
    rcases h with h | ⟨g, o, rfl, hg, hB⟩
    · omega
    have hv : unpV l = .tuple #[.agg #[.int .i64 (ino l), .string ⟨(upz (l.drop 2)).toArray⟩], .bool true] := if_pos hl
    rw [hv]
    have hbz := below_past w (.cells #[.int .i64 0, .string ⟨#[]⟩] 23)
    have z0 : (w.alloc (.cells #[.int .i64 0, .string ⟨#[]⟩] 23)).cell? ⟨w.heap.size, 0, .none⟩ = some (.int .i64 0) := by rw [World.cell?_alloc_at _ _ _ _ rfl]; rfl
    have z1 : (w.alloc (.cells #[.int .i64 0, .string ⟨#[]⟩] 23)).cell? ⟨w.heap.size, 1, .none⟩ = some (.string ⟨#[]⟩) := by rw [World.cell?_alloc_at _ _ _ _ rfl]; rfl
    have q0 : (w.alloc (.cells #[.int .i64 0, .string ⟨#[]⟩] 23)).frozen? ⟨w.heap.size, 0, .none⟩ = false := by rw [World.frozen?_alloc_at _ _ _ _ rfl]
    have q1 : (w.alloc (.cells #[.int .i64 0, .string ⟨#[]⟩] 23)).frozen? ⟨w.heap.size, 1, .none⟩ = false := by rw [World.frozen?_alloc_at _ _ _ _ rfl]
    have HB : Hid (Bts (w.alloc (.cells #[.int .i64 0, .string ⟨#[]⟩] 23)) g o l ∧ l.length = 16) := ⟨hB.below hbz hg, hl⟩
    clear hB hl hv
    go_enter Tryd.func8, Tryd.ntmps8
    go_upto_region 3 with fail
    generalize (w.alloc (.cells #[.int .i64 0, .string ⟨#[]⟩] 23)) = V at *
    go_wp2
    go_loopw [4] (fun a W => W = V ∧ ∃ n : Nat, a = .int .i64 n ∧ 2 ≤ n ∧ n ≤ 16 ∧ ∀ k, 2 ≤ k → k < n → l[k]? ≠ some 0) (fun a _ => 16 - (intOf a).toNat)
    case atStart => exact ⟨rfl, 2, rfl, by omega, by omega, fun k h1 h2 => by omega⟩
    case round =>
      obtain ⟨rfl, n, rfl, h2, h3, hk⟩ := hrel
      by_cases h4 : n < 16 ∧ l[n]? ≠ some 0
      · obtain ⟨h4, h5⟩ := h4
        have hn : n < l.length := by rw [HB.out.2]; exact h4
        have hc := HB.out.1 n _ (List.getElem?_eq_getElem hn)
        simp only [u8v] at hc
        have j1 : (n : Int) < 16 := by omega
        have j2 : (((l[n].toNat : Nat) : Int) != 0) = true := by
          have : l[n] ≠ 0 := fun e => h5 (by rw [List.getElem?_eq_getElem hn, e])
          have e := u8_eq (b := l[n]) (c := 0)
          rw [decide_eq_false this] at e
          simpa using e
        have hk' : ∀ k, 2 ≤ k → k < n + 1 → l[k]? ≠ some 0 := fun k h6 h7 => by
          rcases Nat.lt_or_ge k n with e | e
          · exact hk k h6 e
          · obtain rfl : k = n := by omega
            exact h5
        have HK : Hid (∀ k, 2 ≤ k → k < n + 1 → l[k]? ≠ some 0) := hk'
        clear hk hk' h5
        go_wp2
        exact ⟨⟨trivial, n + 1, by simp, by omega, by omega, HK.out⟩, by simp [intOf]; omega⟩
      · have hup : (l.drop 2).take (n - 2) = upz (l.drop 2) := upz_stop h2 (by rw [HB.out.2]; exact h3) hk (by
          rcases Nat.lt_or_ge n 16 with e | e
          · right
            by_cases h5 : l[n]? = some 0
            · exact h5
            · exact absurd ⟨e, h5⟩ h4
          · left; rw [HB.out.2]; omega)
        have HU : Hid ((l.drop 2).take (n - 2) = upz (l.drop 2)) := hup
        have g0 : l[0]? = some (l.getD 0 0) := by rw [List.getD_eq_getElem?_getD, List.getElem?_eq_getElem (by rw [HB.out.2]; omega)]; rfl
        have g1 : l[1]? = some (l.getD 1 0) := by rw [List.getD_eq_getElem?_getD, List.getElem?_eq_getElem (by rw [HB.out.2]; omega)]; rfl
        have b0 := (l.getD 0 0).toNat_lt
        have b1 := (l.getD 1 0).toNat_lt
        obtain ⟨a, ha⟩ : ∃ a : Nat, (l.getD 0 0).toNat = a := ⟨_, rfl⟩
        obtain ⟨b, hb⟩ : ∃ b : Nat, (l.getD 1 0).toNat = b := ⟨_, rfl⟩
        have HI : Hid (ino l = (a : Int) + 256 * (b : Int)) := by show ino l = _; unfold ino; rw [ha, hb]
        have HG : Hid (∀ U, Bts U g o l → U.cell? ⟨g, o, .none⟩ = some (.int .u8 (a : Int)) ∧ U.cell? ⟨g, o + 1, .none⟩ = some (.int .u8 (b : Int))) := fun U hU => ⟨by rw [← ha]; exact hU 0 _ g0, by rw [← hb]; exact hU 1 _ g1⟩
        rw [ha] at b0
        rw [hb] at b1
        clear ha hb
        have w0 : IntKind.i64.wrap (a : Int) = a := by rw [IntKind.wrap_i64]; omega
        have w1 : IntKind.i64.wrap (b : Int) = b := by rw [IntKind.wrap_i64]; omega
        have w2 : IntKind.i64.wrap (256 * (b : Int)) = 256 * (b : Int) := by rw [IntKind.wrap_i64]; omega
        have w3 : IntKind.i64.wrap ((a : Int) + 256 * (b : Int)) = (a : Int) + 256 * (b : Int) := by rw [IntKind.wrap_i64]; omega
        have hcv : Hid (∀ U, Bts U g o l → (convert 24 9 (.slice (some ⟨g, o + 2, .none⟩) (n - 2) (c - 2))).run Tryd.prog U = .ok (.string ⟨(upz (l.drop 2)).toArray⟩) U) := fun U hU => by
          have h9 : Bts U g (o + 2) (l.drop 2) := fun i x hx => by
            rw [List.getElem?_drop] at hx
            have := hU (2 + i) x hx
            rwa [← Nat.add_assoc] at this
          have := conv_any (k := n - 2) (c := c - 2) h9 (by rw [List.length_drop, HB.out.2]; omega)
          rwa [HU.out] at this
        have hc3 : ¬ c = 2 := by omega
        have gw : g ≠ w.heap.size := by omega
        have HJ : Hid ((n : Int) < 16 → ∃ x : UInt8, x = 0 ∧ wr.cell? ⟨g, o + n, .none⟩ = some (.int .u8 (x.toNat : Int))) := fun hlt => by
          have hn : n < l.length := by rw [HB.out.2]; omega
          by_cases h5 : l[n]? = some 0
          · exact ⟨0, rfl, HB.out.1 n 0 h5⟩
          · exact absurd ⟨by omega, h5⟩ h4
        have n2 : (2 : Int) ≤ n := by omega
        have n3 : (n : Int) ≤ c := by omega
        clear hk hup g0 g1 h4
        by_cases hlt : (n : Int) < 16
        · obtain ⟨x, rfl, hx⟩ := HJ.out hlt
          have hx' : wr.cell? ⟨g, o + n, .none⟩ = some (.int .u8 0) := hx
          clear hx
          go_upto_region 6 with fail
          have hS0 : Bts wr.drew g o l := fun i x hx => HB.out.1 i x hx
          refine wp_region_held_drew (S := fun U => Bts U g o l) (by kernel_rfl) hS0 (fun hHeld => ?_)
          refine wpAnyH_take (i := 0) (v := .slice (some ⟨g, o, .none⟩) 16 c) rfl (by kernel_rfl) (by kernel_rfl) (by kernel_rfl) (fun _ _ _ h => h) (Or.inl ⟨by rfl, fun ww hSw => by (try dsimp only at hSw); go_simp⟩) (by assumption) ?_
          simp only [Act.put, List.setIfInBounds_toArray, List.set_cons_zero, List.set_cons_succ, List.getElem_toArray, List.getElem_cons_succ, List.getElem_cons_zero]
          refine wpAnyH_take (i := 1) (v := .pointer (some ⟨g, o, .none⟩)) rfl (by kernel_rfl) (by kernel_rfl) (by kernel_rfl) (fun _ _ _ h => h) (Or.inl ⟨by rfl, fun ww hSw => by (try dsimp only at hSw); go_simp⟩) (by assumption) ?_
          simp only [Act.put, List.setIfInBounds_toArray, List.set_cons_zero, List.set_cons_succ, List.getElem_toArray, List.getElem_cons_succ, List.getElem_cons_zero]
          refine wpAnyH_take (i := 2) (v := .int .u8 (a : Int)) rfl (by kernel_rfl) (by kernel_rfl) (by kernel_rfl) (fun _ _ _ h => h) (Or.inl ⟨by rfl, fun ww hSw => by (try dsimp only at hSw); have hq := (HG.out _ hSw).1; go_simp⟩) (by assumption) ?_
          simp only [Act.put, List.setIfInBounds_toArray, List.set_cons_zero, List.set_cons_succ, List.getElem_toArray, List.getElem_cons_succ, List.getElem_cons_zero]
          refine wpAnyH_take (i := 3) (v := .int .i64 (a : Int)) rfl (by kernel_rfl) (by kernel_rfl) (by kernel_rfl) (fun _ _ _ h => h) (Or.inl ⟨by rfl, fun ww hSw => by (try dsimp only at hSw); go_simp⟩) (by assumption) ?_
          simp only [Act.put, List.setIfInBounds_toArray, List.set_cons_zero, List.set_cons_succ, List.getElem_toArray, List.getElem_cons_succ, List.getElem_cons_zero]
          refine wpAnyH_take (i := 4) (v := .slice (some ⟨g, o, .none⟩) 16 c) rfl (by kernel_rfl) (by kernel_rfl) (by kernel_rfl) (fun _ _ _ h => h) (Or.inl ⟨by rfl, fun ww hSw => by (try dsimp only at hSw); go_simp⟩) (by assumption) ?_
          simp only [Act.put, List.setIfInBounds_toArray, List.set_cons_zero, List.set_cons_succ, List.getElem_toArray, List.getElem_cons_succ, List.getElem_cons_zero]
          refine wpAnyH_take (i := 5) (v := .pointer (some ⟨g, o + 1, .none⟩)) rfl (by kernel_rfl) (by kernel_rfl) (by kernel_rfl) (fun _ _ _ h => h) (Or.inl ⟨by rfl, fun ww hSw => by (try dsimp only at hSw); go_simp⟩) (by assumption) ?_
          simp only [Act.put, List.setIfInBounds_toArray, List.set_cons_zero, List.set_cons_succ, List.getElem_toArray, List.getElem_cons_succ, List.getElem_cons_zero]
          refine wpAnyH_take (i := 6) (v := .int .u8 (b : Int)) rfl (by kernel_rfl) (by kernel_rfl) (by kernel_rfl) (fun _ _ _ h => h) (Or.inl ⟨by rfl, fun ww hSw => by (try dsimp only at hSw); have hq := (HG.out _ hSw).2; go_simp⟩) (by assumption) ?_
          simp only [Act.put, List.setIfInBounds_toArray, List.set_cons_zero, List.set_cons_succ, List.getElem_toArray, List.getElem_cons_succ, List.getElem_cons_zero]
          refine wpAnyH_take (i := 7) (v := .int .i64 (b : Int)) rfl (by kernel_rfl) (by kernel_rfl) (by kernel_rfl) (fun _ _ _ h => h) (Or.inl ⟨by rfl, fun ww hSw => by (try dsimp only at hSw); go_simp⟩) (by assumption) ?_
          simp only [Act.put, List.setIfInBounds_toArray, List.set_cons_zero, List.set_cons_succ, List.getElem_toArray, List.getElem_cons_succ, List.getElem_cons_zero]
          refine wpAnyH_take (i := 8) (v := .int .i64 (256 * (b : Int))) rfl (by kernel_rfl) (by kernel_rfl) (by kernel_rfl) (fun _ _ _ h => h) (Or.inl ⟨by rfl, fun ww hSw => by (try dsimp only at hSw); go_simp⟩) (by assumption) ?_
          simp only [Act.put, List.setIfInBounds_toArray, List.set_cons_zero, List.set_cons_succ, List.getElem_toArray, List.getElem_cons_succ, List.getElem_cons_zero]
          refine wpAnyH_take (i := 9) (v := .int .i64 ((a : Int) + 256 * (b : Int))) rfl (by kernel_rfl) (by kernel_rfl) (by kernel_rfl) (fun _ _ _ h => h) (Or.inl ⟨by rfl, fun ww hSw => by (try dsimp only at hSw); go_simp⟩) (by assumption) ?_
          simp only [Act.put, List.setIfInBounds_toArray, List.set_cons_zero, List.set_cons_succ, List.getElem_toArray, List.getElem_cons_succ, List.getElem_cons_zero]
          refine wpAnyH_take (i := 10) (v := .slice (some ⟨g, o, .none⟩) 16 c) rfl (by kernel_rfl) (by kernel_rfl) (by kernel_rfl) (fun _ _ _ h => h) (Or.inl ⟨by rfl, fun ww hSw => by (try dsimp only at hSw); go_simp⟩) (by assumption) ?_
          simp only [Act.put, List.setIfInBounds_toArray, List.set_cons_zero, List.set_cons_succ, List.getElem_toArray, List.getElem_cons_succ, List.getElem_cons_zero]
          refine wpAnyH_take (i := 11) (v := .int .i64 (n : Int)) rfl (by kernel_rfl) (by kernel_rfl) (by kernel_rfl) (fun _ _ _ h => h) (Or.inl ⟨by rfl, fun ww hSw => by (try dsimp only at hSw); go_simp⟩) (by assumption) ?_
          simp only [Act.put, List.setIfInBounds_toArray, List.set_cons_zero, List.set_cons_succ, List.getElem_toArray, List.getElem_cons_succ, List.getElem_cons_zero]
          refine wpAnyH_take (i := 12) (v := .slice (some ⟨g, o + 2, .none⟩) (n - 2) (c - 2)) rfl (by kernel_rfl) (by kernel_rfl) (by kernel_rfl) (fun _ _ _ h => h) (Or.inl ⟨by rfl, fun ww hSw => by (try dsimp only at hSw); go_simp⟩) (by assumption) ?_
          simp only [Act.put, List.setIfInBounds_toArray, List.set_cons_zero, List.set_cons_succ, List.getElem_toArray, List.getElem_cons_succ, List.getElem_cons_zero]
          refine wpAnyH_take (i := 13) (v := .string ⟨(upz (l.drop 2)).toArray⟩) rfl (by kernel_rfl) (by kernel_rfl) (by kernel_rfl) (fun _ _ _ h => h) (Or.inl ⟨by rfl, fun ww hSw => by (try dsimp only at hSw); have hq := hcv.out _ hSw; go_simp⟩) (by assumption) ?_
          simp only [Act.put, List.setIfInBounds_toArray, List.set_cons_zero, List.set_cons_succ, List.getElem_toArray, List.getElem_cons_succ, List.getElem_cons_zero]
          refine wpAnyH_take (i := 14) (v := .agg #[.int .i64 ((a : Int) + 256 * (b : Int)), .string ⟨(upz (l.drop 2)).toArray⟩]) rfl (by kernel_rfl) (by kernel_rfl) (by kernel_rfl) (fun _ _ _ h => h) (Or.inl ⟨by rfl, fun ww hSw => by (try dsimp only at hSw); go_simp⟩) (by assumption) ?_
          simp only [Act.put, List.setIfInBounds_toArray, List.set_cons_zero, List.set_cons_succ, List.getElem_toArray, List.getElem_cons_succ, List.getElem_cons_zero]
          refine wpAnyH_ready (rs := [15]) (by kernel_rfl) (by simp) ?_
          refine AllReadyH.cons rfl (fun K hK => ?_) AllReadyH.nil
          go_simp
          refine hK.out _ _ (fun i x hx => ((World.cell?_setCell_far _ _ _ _ (by show w.heap.size ≠ g; exact gw.symm)).trans (World.cell?_setCell_far _ _ _ _ (by show w.heap.size ≠ g; exact gw.symm))).trans (hS0 i x hx)) (fun hHeld => ?_)
          clear hK K
          try simp only [Act.put, List.setIfInBounds_toArray, List.set_cons_zero, List.set_cons_succ, List.getElem_toArray, List.getElem_cons_succ, List.getElem_cons_zero]
          refine wpAnyH_take (i := 16) (v := .bool true) rfl (by kernel_rfl) (by kernel_rfl) (by kernel_rfl) (fun _ _ _ h => h) (Or.inl ⟨by rfl, fun ww hSw => by (try dsimp only at hSw); go_simp⟩) (by assumption) ?_
          simp only [Act.put, List.setIfInBounds_toArray, List.set_cons_zero, List.set_cons_succ, List.getElem_toArray, List.getElem_cons_succ, List.getElem_cons_zero]
          refine wpAnyH_done (by kernel_rfl) ?_ _
          go_wp2
          have hr9 := two_of (X := ((wr.setCell ⟨w.heap.size, 0, .none⟩ (.int .i64 ((a : Int) + 256 * (b : Int)))).setCell ⟨w.heap.size, 1, .none⟩ (.string ⟨(upz (l.drop 2)).toArray⟩)).drew) (b := w.heap.size) ((World.cell?_drew _ _).trans ((World.cell?_setCell_other _ _ _ _ (by simp)).trans (World.cell?_setCell_same _ _ _ z0))) ((World.cell?_drew _ _).trans (World.cell?_setCell_same _ _ _ ((World.cell?_setCell_other _ _ _ _ (by simp)).trans z1)))
          have hb9 : Below w.heap.size w (((wr.setCell ⟨w.heap.size, 0, .none⟩ (.int .i64 ((a : Int) + 256 * (b : Int)))).setCell ⟨w.heap.size, 1, .none⟩ (.string ⟨(upz (l.drop 2)).toArray⟩)).drew) := ((hbz.setCell (p := ⟨w.heap.size, 0, .none⟩) (Nat.le_refl _) _).setCell (p := ⟨w.heap.size, 1, .none⟩) (Nat.le_refl _) _).drew
          generalize ((wr.setCell ⟨w.heap.size, 0, .none⟩ (.int .i64 ((a : Int) + 256 * (b : Int)))).setCell ⟨w.heap.size, 1, .none⟩ (.string ⟨(upz (l.drop 2)).toArray⟩)).drew = Z9 at *
          exact bodyPost_ret (results_cell_tmp' (p := 2) (a := 3) (ty := 23) rfl _ _ ⟨w.heap.size, 0, .none⟩ _ rfl (run_loadVar_mid (P := Tryd.prog) _ w.heap.size 0 23 _ _ hr9 Tryd.underlying23 rfl (by kernel_rfl))) rfl ⟨by rw [HI.out]; rfl, hb9⟩
        · go_upto_region 6 with fail
          have hS0 : Bts wr.drew g o l := fun i x hx => HB.out.1 i x hx
          refine wp_region_held_drew (S := fun U => Bts U g o l) (by kernel_rfl) hS0 (fun hHeld => ?_)
          refine wpAnyH_take (i := 0) (v := .slice (some ⟨g, o, .none⟩) 16 c) rfl (by kernel_rfl) (by kernel_rfl) (by kernel_rfl) (fun _ _ _ h => h) (Or.inl ⟨by rfl, fun ww hSw => by (try dsimp only at hSw); go_simp⟩) (by assumption) ?_
          simp only [Act.put, List.setIfInBounds_toArray, List.set_cons_zero, List.set_cons_succ, List.getElem_toArray, List.getElem_cons_succ, List.getElem_cons_zero]
          refine wpAnyH_take (i := 1) (v := .pointer (some ⟨g, o, .none⟩)) rfl (by kernel_rfl) (by kernel_rfl) (by kernel_rfl) (fun _ _ _ h => h) (Or.inl ⟨by rfl, fun ww hSw => by (try dsimp only at hSw); go_simp⟩) (by assumption) ?_
          simp only [Act.put, List.setIfInBounds_toArray, List.set_cons_zero, List.set_cons_succ, List.getElem_toArray, List.getElem_cons_succ, List.getElem_cons_zero]
          refine wpAnyH_take (i := 2) (v := .int .u8 (a : Int)) rfl (by kernel_rfl) (by kernel_rfl) (by kernel_rfl) (fun _ _ _ h => h) (Or.inl ⟨by rfl, fun ww hSw => by (try dsimp only at hSw); have hq := (HG.out _ hSw).1; go_simp⟩) (by assumption) ?_
          simp only [Act.put, List.setIfInBounds_toArray, List.set_cons_zero, List.set_cons_succ, List.getElem_toArray, List.getElem_cons_succ, List.getElem_cons_zero]
          refine wpAnyH_take (i := 3) (v := .int .i64 (a : Int)) rfl (by kernel_rfl) (by kernel_rfl) (by kernel_rfl) (fun _ _ _ h => h) (Or.inl ⟨by rfl, fun ww hSw => by (try dsimp only at hSw); go_simp⟩) (by assumption) ?_
          simp only [Act.put, List.setIfInBounds_toArray, List.set_cons_zero, List.set_cons_succ, List.getElem_toArray, List.getElem_cons_succ, List.getElem_cons_zero]
          refine wpAnyH_take (i := 4) (v := .slice (some ⟨g, o, .none⟩) 16 c) rfl (by kernel_rfl) (by kernel_rfl) (by kernel_rfl) (fun _ _ _ h => h) (Or.inl ⟨by rfl, fun ww hSw => by (try dsimp only at hSw); go_simp⟩) (by assumption) ?_
          simp only [Act.put, List.setIfInBounds_toArray, List.set_cons_zero, List.set_cons_succ, List.getElem_toArray, List.getElem_cons_succ, List.getElem_cons_zero]
          refine wpAnyH_take (i := 5) (v := .pointer (some ⟨g, o + 1, .none⟩)) rfl (by kernel_rfl) (by kernel_rfl) (by kernel_rfl) (fun _ _ _ h => h) (Or.inl ⟨by rfl, fun ww hSw => by (try dsimp only at hSw); go_simp⟩) (by assumption) ?_
          simp only [Act.put, List.setIfInBounds_toArray, List.set_cons_zero, List.set_cons_succ, List.getElem_toArray, List.getElem_cons_succ, List.getElem_cons_zero]
          refine wpAnyH_take (i := 6) (v := .int .u8 (b : Int)) rfl (by kernel_rfl) (by kernel_rfl) (by kernel_rfl) (fun _ _ _ h => h) (Or.inl ⟨by rfl, fun ww hSw => by (try dsimp only at hSw); have hq := (HG.out _ hSw).2; go_simp⟩) (by assumption) ?_
          simp only [Act.put, List.setIfInBounds_toArray, List.set_cons_zero, List.set_cons_succ, List.getElem_toArray, List.getElem_cons_succ, List.getElem_cons_zero]
          refine wpAnyH_take (i := 7) (v := .int .i64 (b : Int)) rfl (by kernel_rfl) (by kernel_rfl) (by kernel_rfl) (fun _ _ _ h => h) (Or.inl ⟨by rfl, fun ww hSw => by (try dsimp only at hSw); go_simp⟩) (by assumption) ?_
          simp only [Act.put, List.setIfInBounds_toArray, List.set_cons_zero, List.set_cons_succ, List.getElem_toArray, List.getElem_cons_succ, List.getElem_cons_zero]
          refine wpAnyH_take (i := 8) (v := .int .i64 (256 * (b : Int))) rfl (by kernel_rfl) (by kernel_rfl) (by kernel_rfl) (fun _ _ _ h => h) (Or.inl ⟨by rfl, fun ww hSw => by (try dsimp only at hSw); go_simp⟩) (by assumption) ?_
          simp only [Act.put, List.setIfInBounds_toArray, List.set_cons_zero, List.set_cons_succ, List.getElem_toArray, List.getElem_cons_succ, List.getElem_cons_zero]
          refine wpAnyH_take (i := 9) (v := .int .i64 ((a : Int) + 256 * (b : Int))) rfl (by kernel_rfl) (by kernel_rfl) (by kernel_rfl) (fun _ _ _ h => h) (Or.inl ⟨by rfl, fun ww hSw => by (try dsimp only at hSw); go_simp⟩) (by assumption) ?_
          simp only [Act.put, List.setIfInBounds_toArray, List.set_cons_zero, List.set_cons_succ, List.getElem_toArray, List.getElem_cons_succ, List.getElem_cons_zero]
          refine wpAnyH_take (i := 10) (v := .slice (some ⟨g, o, .none⟩) 16 c) rfl (by kernel_rfl) (by kernel_rfl) (by kernel_rfl) (fun _ _ _ h => h) (Or.inl ⟨by rfl, fun ww hSw => by (try dsimp only at hSw); go_simp⟩) (by assumption) ?_
          simp only [Act.put, List.setIfInBounds_toArray, List.set_cons_zero, List.set_cons_succ, List.getElem_toArray, List.getElem_cons_succ, List.getElem_cons_zero]
          refine wpAnyH_take (i := 11) (v := .int .i64 (n : Int)) rfl (by kernel_rfl) (by kernel_rfl) (by kernel_rfl) (fun _ _ _ h => h) (Or.inl ⟨by rfl, fun ww hSw => by (try dsimp only at hSw); go_simp⟩) (by assumption) ?_
          simp only [Act.put, List.setIfInBounds_toArray, List.set_cons_zero, List.set_cons_succ, List.getElem_toArray, List.getElem_cons_succ, List.getElem_cons_zero]
          refine wpAnyH_take (i := 12) (v := .slice (some ⟨g, o + 2, .none⟩) (n - 2) (c - 2)) rfl (by kernel_rfl) (by kernel_rfl) (by kernel_rfl) (fun _ _ _ h => h) (Or.inl ⟨by rfl, fun ww hSw => by (try dsimp only at hSw); go_simp⟩) (by assumption) ?_
          simp only [Act.put, List.setIfInBounds_toArray, List.set_cons_zero, List.set_cons_succ, List.getElem_toArray, List.getElem_cons_succ, List.getElem_cons_zero]
          refine wpAnyH_take (i := 13) (v := .string ⟨(upz (l.drop 2)).toArray⟩) rfl (by kernel_rfl) (by kernel_rfl) (by kernel_rfl) (fun _ _ _ h => h) (Or.inl ⟨by rfl, fun ww hSw => by (try dsimp only at hSw); have hq := hcv.out _ hSw; go_simp⟩) (by assumption) ?_
          simp only [Act.put, List.setIfInBounds_toArray, List.set_cons_zero, List.set_cons_succ, List.getElem_toArray, List.getElem_cons_succ, List.getElem_cons_zero]
          refine wpAnyH_take (i := 14) (v := .agg #[.int .i64 ((a : Int) + 256 * (b : Int)), .string ⟨(upz (l.drop 2)).toArray⟩]) rfl (by kernel_rfl) (by kernel_rfl) (by kernel_rfl) (fun _ _ _ h => h) (Or.inl ⟨by rfl, fun ww hSw => by (try dsimp only at hSw); go_simp⟩) (by assumption) ?_
          simp only [Act.put, List.setIfInBounds_toArray, List.set_cons_zero, List.set_cons_succ, List.getElem_toArray, List.getElem_cons_succ, List.getElem_cons_zero]
          refine wpAnyH_ready (rs := [15]) (by kernel_rfl) (by simp) ?_
          refine AllReadyH.cons rfl (fun K hK => ?_) AllReadyH.nil
          go_simp
          refine hK.out _ _ (fun i x hx => ((World.cell?_setCell_far _ _ _ _ (by show w.heap.size ≠ g; exact gw.symm)).trans (World.cell?_setCell_far _ _ _ _ (by show w.heap.size ≠ g; exact gw.symm))).trans (hS0 i x hx)) (fun hHeld => ?_)
          clear hK K
          try simp only [Act.put, List.setIfInBounds_toArray, List.set_cons_zero, List.set_cons_succ, List.getElem_toArray, List.getElem_cons_succ, List.getElem_cons_zero]
          refine wpAnyH_take (i := 16) (v := .bool true) rfl (by kernel_rfl) (by kernel_rfl) (by kernel_rfl) (fun _ _ _ h => h) (Or.inl ⟨by rfl, fun ww hSw => by (try dsimp only at hSw); go_simp⟩) (by assumption) ?_
          simp only [Act.put, List.setIfInBounds_toArray, List.set_cons_zero, List.set_cons_succ, List.getElem_toArray, List.getElem_cons_succ, List.getElem_cons_zero]
          refine wpAnyH_done (by kernel_rfl) ?_ _
          go_wp2
          have hr9 := two_of (X := ((wr.setCell ⟨w.heap.size, 0, .none⟩ (.int .i64 ((a : Int) + 256 * (b : Int)))).setCell ⟨w.heap.size, 1, .none⟩ (.string ⟨(upz (l.drop 2)).toArray⟩)).drew) (b := w.heap.size) ((World.cell?_drew _ _).trans ((World.cell?_setCell_other _ _ _ _ (by simp)).trans (World.cell?_setCell_same _ _ _ z0))) ((World.cell?_drew _ _).trans (World.cell?_setCell_same _ _ _ ((World.cell?_setCell_other _ _ _ _ (by simp)).trans z1)))
          have hb9 : Below w.heap.size w (((wr.setCell ⟨w.heap.size, 0, .none⟩ (.int .i64 ((a : Int) + 256 * (b : Int)))).setCell ⟨w.heap.size, 1, .none⟩ (.string ⟨(upz (l.drop 2)).toArray⟩)).drew) := ((hbz.setCell (p := ⟨w.heap.size, 0, .none⟩) (Nat.le_refl _) _).setCell (p := ⟨w.heap.size, 1, .none⟩) (Nat.le_refl _) _).drew
          generalize ((wr.setCell ⟨w.heap.size, 0, .none⟩ (.int .i64 ((a : Int) + 256 * (b : Int)))).setCell ⟨w.heap.size, 1, .none⟩ (.string ⟨(upz (l.drop 2)).toArray⟩)).drew = Z9 at *
          exact bodyPost_ret (results_cell_tmp' (p := 2) (a := 3) (ty := 23) rfl _ _ ⟨w.heap.size, 0, .none⟩ _ rfl (run_loadVar_mid (P := Tryd.prog) _ w.heap.size 0 23 _ _ hr9 Tryd.underlying23 rfl (by kernel_rfl))) rfl ⟨by rw [HI.out]; rfl, hb9⟩
  · have hv : unpV l = .tuple #[.agg #[.int .i64 0, .string ⟨#[]⟩], .bool false] := if_neg (by omega)
    rw [hv]
    have n1 : ((n : Int) != 16) = true := by simp only [bne_iff_ne, ne_eq]; omega
    clear h hv hl
    go_enter Tryd.func8, Tryd.ntmps8
    go_wp2
    have hr9 := range_new w [.int .i64 0, .string ⟨#[]⟩] 23
    have hb9 := below_past w (.cells #[.int .i64 0, .string ⟨#[]⟩] 23)
    generalize (w.alloc (.cells #[.int .i64 0, .string ⟨#[]⟩] 23)) = T at *
    exact bodyPost_ret (results_cell_tmp' (p := 2) (a := 3) (ty := 23) rfl _ _ ⟨w.heap.size, 0, .none⟩ _ rfl (run_loadVar_mid (P := Tryd.prog) _ w.heap.size 0 23 _ _ hr9 Tryd.underlying23 rfl (by kernel_rfl))) rfl ⟨rfl, hb9⟩
end Go.Proofs.YtockhlboeaignaaDoor
