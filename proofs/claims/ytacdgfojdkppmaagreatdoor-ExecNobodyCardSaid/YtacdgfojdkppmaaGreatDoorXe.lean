import Derived.Test.YtacdgfojdkppmaaGreatDoorXd
namespace Go.Proofs.YtacdgfojdkppmaaGreatDoor
open Go.RowKit Go.Shelf
set_option linter.unusedVariables false
set_option linter.unusedSimpArgs false
theorem set2' {V : World} {rs : Nat} {x y : Value} (r0 : V.cell? ⟨rs, 0, .none⟩ = some x) (r1 : V.cell? ⟨rs, 1, .none⟩ = some y) (a b : Value) :
    ((V.setCell ⟨rs, 0, .none⟩ a).setCell ⟨rs, 1, .none⟩ b).cell? ⟨rs, 0, .none⟩ = some a ∧ ((V.setCell ⟨rs, 0, .none⟩ a).setCell ⟨rs, 1, .none⟩ b).cell? ⟨rs, 1, .none⟩ = some b := by
  refine ⟨?_, ?_⟩
  · rw [World.cell?_setCell_other _ _ _ _ (by simp)]
    exact World.cell?_setCell_same' _ _ _ (by rw [r0]; rfl)
  · exact World.cell?_setCell_same' _ _ _ (by rw [World.cell?_setCell_other _ _ _ _ (by simp), r1]; rfl)
/-- The stack's page as it is handed on: a row of its own, all bytes. -/
def PgB (w w' : World) (pq : Option Addr) (pn pc : Nat) : Prop := ∃ g, ∃ R : Nat → Int, pq = some ⟨g, 0, .none⟩ ∧ pn = 4096 ∧ pc = 4096 ∧ w.heap.size ≤ g ∧ (∀ i, 0 ≤ R i ∧ R i < 256) ∧ ∀ i, i < 4096 → w'.cell? ⟨g, i, .none⟩ = some (.int .u8 (R i))
def StP (w : World) (xs : List Bs) (e : Ending) (w' : World) : Prop := ∃ pq pn pc sp, e = .returned (.tuple #[.agg #[.slice pq pn pc, .int .u64 sp], .bool (rm xs)]) ∧ Below w.heap.size w w' ∧ (rm xs = true → PgB w w' pq pn pc)
set_option maxRecDepth 10000 in
set_option maxHeartbeats 2000000 in
theorem stackOf_any (w : World) (p : Option Addr) (n c : Nat) (xs : List Bs) (h : Tex w p n c xs) (hn : n ≤ 32) (hx : ∀ x ∈ xs, x.length ≤ 400000) (at_ : Int) (hat : 0 ≤ at_ ∧ at_ ≤ 2000000000) :
    Calls Tryz.prog 56 #[.int .u64 at_, .slice p n c] w (StP w xs) := by
  have HT : Hid (Tex w p n c xs) := h
  have HL : Hid (xs.length = n) := h.1
  have HX : Hid (∀ x ∈ xs, x.length ≤ 400000) := hx
  have hc : n ≤ c ∧ c ≤ 9223372036854775807 := ⟨h.2.1, h.2.2.1⟩
  clear h hx
  obtain ⟨w2, hmk, hz2, HS0⟩ := page_new w
  go_enter Tryz.func56, Tryz.ntmps56
  go_wp2_with fail
  clear hmk
  go_loopw [9, 18] (fun v k wr => ∃ i : Nat, i ≤ n ∧ k = .int .i64 i ∧ ∃ q' c', v = .slice q' (8 * i) c' ∧ Hid (0 ≤ stx 4096 (xs.take i) ∧ Sk w wr (stx 4096 (xs.take i)) ∧ ∃ bs, wr.ownsRow (w.heap.size + 4) 5 1 (.slice q' (8 * i) c') (8 * i) (by8 bs) ∧ U8 bs)) (fun _ k _ => (n - intOf k).toNat)
  case atStart => exact ⟨0, by omega, rfl, none, 0, rfl, by simp [stx], HS0.out, [], World.ownsRow_nil _ _ _ _, fun b hb => by simp at hb⟩
  case round =>
    obtain ⟨i, hi, rfl, q', c', rfl, HR⟩ := hrel
    obtain ⟨pl, hpl⟩ : ∃ pl, pl = stx 4096 (xs.take i) := ⟨_, rfl⟩
    rw [← hpl] at HR
    have h0 : 0 ≤ pl := HR.out.1
    have h1 : pl ≤ 4096 := by rw [hpl]; exact stx_le _ _
    by_cases hlt : i < n
    · have g0 : (i : Int) < n := by omega
      obtain ⟨b, o, x, rfl, hxi, a0⟩ := (HT.out.below HR.out.2.1.bel).at hlt
      have hxl := HX.out x (List.mem_of_getElem? hxi)
      have hnx := stx_next hxi 4096
      rw [← hpl] at hnx
      have c1 := lay_any HR.out.2.1.pgs ⟨h0, h1⟩ x hxl 1 (by omega)
      have HN : Hid (stx 4096 (xs.take (i + 1)) = (pl - x.length - 1) / 16 * 16) := hnx
      have HP : Hid (pl = stx 4096 (xs.take i)) := hpl
      clear hnx hpl hxi
      by_cases hneg : pl - x.length - 1 < 0
      · have hd : decide (0 ≤ pl - x.length - 1) = false := by simp; omega
        unfold LyP at c1
        rw [hd] at c1
        clear hd
        go_wp2_with (go_at_call 102; refine c1.mono ?_; rintro _ w3 ⟨rfl, hP3, hL3⟩; have H3 : Hid (Sk w w3 ((pl - x.length - 1) / 16 * 16)) := HR.out.2.1.laid hP3 hL3; have r0 := H3.out.r0; have r1 := H3.out.r1; have rf0 := H3.out.rf 0; have rf1 := H3.out.rf 1; clear hP3 hL3 c1)
        obtain ⟨s0, s1⟩ := set2' r0 r1 (.slice .none 0 0) (.int .u64 0)
        refine bodyPost_ret (v := .tuple #[.agg #[.slice .none 0 0, .int .u64 0], .bool false]) (by simp [results, Tryz.results56, go_sem, s0, s1]) rfl ⟨none, 0, 0, 0, ?_, ?_, fun e => by rw [rm_no (i := i + 1) (by rw [HN.out]; omega)] at e; cases e⟩
        · rw [rm_no (i := i + 1) (by rw [HN.out]; omega)]
        · exact (H3.out.bel.setCell (Nat.le_refl _) _).setCell (Nat.le_refl _) _
      · have hd : decide (0 ≤ pl - x.length - 1) = true := by simp; omega
        unfold LyP at c1
        rw [hd] at c1
        clear hd
        obtain ⟨y, hy⟩ : ∃ y, y = (pl - x.length - 1) / 16 * 16 := ⟨_, rfl⟩
        rw [← hy] at c1 HN
        have hy0 : 0 ≤ y ∧ y ≤ 4096 := by omega
        have hw0 : IntKind.u64.wrap y = y := by rw [IntKind.wrap_u64]; omega
        have hw1 : IntKind.u64.wrap (at_ + y) = at_ + y := by rw [IntKind.wrap_u64]; omega
        have HY : Hid (y = (pl - x.length - 1) / 16 * 16) := hy
        obtain ⟨bs, ob, ub⟩ := HR.out.2.2
        have HO : Hid (wr.ownsRow (w.heap.size + 4) 5 1 (.slice q' (8 * i) c') (8 * i) (by8 bs) ∧ U8 bs) := ⟨ob, ub⟩
        clear ob ub hy
        have hneg' := hneg
        clear hneg
        go_wp2_with first | (go_at_call 102; refine c1.mono ?_; rintro _ w3 ⟨rfl, hP3, hL3⟩; have H3 : Hid (Sk w w3 y) := HR.out.2.1.laid hP3 hL3; have O3 : Hid (w3.ownsRow (w.heap.size + 4) 5 1 (.slice q' (8 * i) c') (8 * i) (by8 bs)) := own_same HO.out.1 (fun g hg => hL3.oth g (by omega) (by omega)); have r3 := H3.out.pgs.pc; clear hP3 hL3 c1) | (go_at_call 103; refine (appendA_any O3.out HO.out.2 (by have := H3.out.sz; omega) (by omega) (at_ + y) (by omega)).mono ?_; rintro _ w4 ⟨q4, c4, bs4, rfl, o4, u4, b4⟩; have H4 : Hid (Sk w w4 y ∧ w4.ownsRow (w.heap.size + 4) 5 1 (.slice q4 (8 * i + 8) c4) (8 * i + 8) (by8 bs4) ∧ U8 bs4) := ⟨H3.out.above b4, o4, u4⟩; clear o4 u4 b4 r3)
        refine ⟨⟨i + 1, by omega, rfl, q4, c4, rfl, ?_, ?_, bs4, ?_, H4.out.2.2⟩, by simp only [intOf]; omega⟩
        · rw [HN.out]; omega
        · rw [HN.out]; exact H4.out.1
        · exact H4.out.2.1
    · obtain rfl : i = n := by omega
      obtain ⟨bs, ob, ub⟩ := HR.out.2.2
      obtain ⟨t, ht, hcv⟩ := conv_own ob ub
      have c1 := lay_any HR.out.2.1.pgs ⟨h0, h1⟩ t (by omega) 8 (by omega)
      have hst : stx 4096 xs = pl := by rw [hpl, ← HL.out, List.take_length]
      have hR : rm xs = decide (0 ≤ pl - t.length - 8) := by
        unfold rm
        rw [hst, HL.out]
        congr 1
        apply propext
        omega
      have HR2 : Hid (rm xs = decide (0 ≤ pl - t.length - 8)) := hR
      clear ob ub hR hst hpl
      by_cases hneg : pl - t.length - 8 < 0
      · have hd : decide (0 ≤ pl - t.length - 8) = false := by simp; omega
        unfold LyP at c1
        rw [hd] at c1 HR2
        clear hd
        go_wp2_with (go_at_call 102; refine c1.mono ?_; rintro _ w3 ⟨rfl, hP3, hL3⟩; have H3 : Hid (Sk w w3 ((pl - t.length - 8) / 16 * 16)) := HR.out.2.1.laid hP3 hL3; have r0 := H3.out.r0; have r1 := H3.out.r1; have rf0 := H3.out.rf 0; have rf1 := H3.out.rf 1; clear hP3 hL3 c1)
        obtain ⟨s0, s1⟩ := set2' r0 r1 (.slice .none 0 0) (.int .u64 0)
        refine bodyPost_ret (v := .tuple #[.agg #[.slice .none 0 0, .int .u64 0], .bool false]) (by simp [results, Tryz.results56, go_sem, s0, s1]) rfl ⟨none, 0, 0, 0, ?_, ?_, fun e => by rw [HR2.out] at e; cases e⟩
        · rw [HR2.out]
        · exact (H3.out.bel.setCell (Nat.le_refl _) _).setCell (Nat.le_refl _) _
      · have hd : decide (0 ≤ pl - t.length - 8) = true := by simp; omega
        unfold LyP at c1
        rw [hd] at c1 HR2
        clear hd
        obtain ⟨y, hy⟩ : ∃ y, y = (pl - t.length - 8) / 16 * 16 := ⟨_, rfl⟩
        rw [← hy] at c1
        have hy0 : 0 ≤ y ∧ y ≤ 4096 := by omega
        have hw0 : IntKind.u64.wrap y = y := by rw [IntKind.wrap_u64]; omega
        have hw1 : IntKind.u64.wrap (at_ + y) = at_ + y := by rw [IntKind.wrap_u64]; omega
        clear hy hneg
        go_wp2_with (go_at_call 102; refine c1.mono ?_; rintro _ w3 ⟨rfl, hP3, hL3⟩; have H3 : Hid (Sk w w3 y) := HR.out.2.1.laid hP3 hL3; have r0 := H3.out.r0; have r1 := H3.out.r1; have rf0 := H3.out.rf 0; have rf1 := H3.out.rf 1; have r3 := H3.out.pgs.pc; have r4 := H3.out.pgs.pp; clear hP3 hL3 c1)
        obtain ⟨s0, s1⟩ := set2' r0 r1 (.slice (some ⟨w.heap.size + 1, 0, .none⟩) 4096 4096) (.int .u64 (at_ + y))
        refine bodyPost_ret (v := .tuple #[.agg #[.slice (some ⟨w.heap.size + 1, 0, .none⟩) 4096 4096, .int .u64 (at_ + y)], .bool true]) (by simp [results, Tryz.results56, go_sem, s0, s1]) rfl ⟨some ⟨w.heap.size + 1, 0, .none⟩, 4096, 4096, at_ + y, ?_, ?_, fun _ => ?_⟩
        · rw [HR2.out]
        · exact (H3.out.bel.setCell (Nat.le_refl _) _).setCell (Nat.le_refl _) _
        · obtain ⟨R, hR, hrow⟩ := H3.out.pgs.pg
          refine ⟨w.heap.size + 1, R, rfl, rfl, rfl, by omega, hR, fun i hi => ?_⟩
          rw [World.cell?_setCell_other _ _ _ _ (by simp), World.cell?_setCell_other _ _ _ _ (by simp)]
          exact hrow.cell hi
end Go.Proofs.YtacdgfojdkppmaaGreatDoor
