import Derived.Test.YtnghcadhilfgnaaLwD
import Derived.Deep.RegionLaw
import Derived.Deep.Cut
namespace Go.Proofs.Ytnghcadhilfgnaa
open Go.RowKit
set_option linter.unusedVariables false
set_option linter.unusedSimpArgs false
/-- What the document's Image hands out. -/
def ImgQ (w : World) (N : Nat) (B : Nat → Int) (L : List Nat) (e : Ending) (w' : World) : Prop := ∃ (hs : List (Nat × Nat)) (qf : Option Addr) (cf : Nat) (q2 : Option Addr) (c2 : Nat), e = .returned (.agg #[.int .i64 N, .slice qf L.length cf, .slice q2 hs.length c2]) ∧ hs.map (·.1) = heldTo L N ∧
  w'.ownsRow (w.heap.size + 1 + 1) 26 1 (.slice qf L.length cf) L.length (L.map adv) ∧ w'.ownsRow (w.heap.size + 1 + 1) 70 2 (.slice q2 hs.length c2) hs.length (flatH hs) ∧
  (∀ x ∈ hs, ∀ t, t < 4096 → w'.cell? ⟨x.2, t, .none⟩ = some (.int .u8 (B (x.1 * 4096 + t)))) ∧ Below w.heap.size w w'
theorem hq0 {w W3 : World} {N cf : Nat} {B : Nat → Int} {L : List Nat} {qf : Option Addr} (hc : C3 W3 (w.heap.size + 1) (.int .i64 N) (.slice .none 0 0) (.slice .none 0 0)) (hr : C3 W3 w.heap.size (.int .i64 0) (.slice .none 0 0) (.slice .none 0 0)) (ho : W3.ownsRow (w.heap.size + 1 + 1) 26 1 (.slice qf L.length cf) L.length (L.map adv)) (hb : Below w.heap.size w W3) (hx : w.heap.size + 1 + 1 ≤ W3.heap.size) :
    HQ w (W3.setCell ⟨w.heap.size + 1, 1, .none⟩ (.slice qf L.length cf)) (w.heap.size + 1 + 1) N B L qf cf 0 [] none 0 := by
  obtain ⟨a0, a1, a2, z0, z1, z2⟩ := hc
  obtain ⟨b0, b1, b2, y0, y1, y2⟩ := hr
  have so : ∀ x o, (x ≠ w.heap.size + 1 ∨ o ≠ 1) → (W3.setCell ⟨w.heap.size + 1, 1, .none⟩ (.slice qf L.length cf)).cell? ⟨x, o, .none⟩ = W3.cell? ⟨x, o, .none⟩ := fun x o hx => World.cell?_setCell_other _ _ _ _ (by simp only [ne_eq, Addr.mk.injEq, and_true, not_and]; intro e1 e2; rcases hx with hx | hx <;> omega)
  refine ⟨rfl, ⟨(so _ _ (.inr (by decide))).trans a0, World.cell?_setCell_same' _ _ _ (by rw [a1]; rfl), (so _ _ (.inr (by decide))).trans a2, (World.frozen?_setCell ..).trans z0, (World.frozen?_setCell ..).trans z1, (World.frozen?_setCell ..).trans z2⟩, ⟨(so _ _ (.inl (by omega))).trans b0, (so _ _ (.inl (by omega))).trans b1, (so _ _ (.inl (by omega))).trans b2, (World.frozen?_setCell ..).trans y0, (World.frozen?_setCell ..).trans y1, (World.frozen?_setCell ..).trans y2⟩, ownsRow_setCell_below ho (a := ⟨w.heap.size + 1, 1, .none⟩) (by show w.heap.size + 1 < w.heap.size + 1 + 1; omega) _, World.ownsRow_nil _ _ _ _, fun x hx => (by cases hx), fun k e => (by simp [Value.ownBlock] at e), hb.setCell (p := ⟨w.heap.size + 1, 1, .none⟩) (by show w.heap.size ≤ w.heap.size + 1; omega) _, by rw [World.size_setCell]; exact hx⟩
set_option maxHeartbeats 4000000 in
set_option maxRecDepth 100000 in
theorem imageQ_any (w : World) (q hb n : Nat) (lv : Value) (B : Nat → Int) (L : List Nat) (h : Qv w q hb n lv B L) : Calls Try.prog 12 #[.pointer (some ⟨q, 0, .none⟩)] w fun e w' => ImgQ w n B L e w' := by
  have HQv : Hid (Qv w q hb n lv B L) := h
  have n2 := h.n2
  have hle := h.le
  have lq : q < w.heap.size := lt_of_cell h.c0
  have c0 := h.c0
  obtain ⟨j1, hk0, hkz, hk1, hk2⟩ := info76
  clear h
  have HA : Hid (C3 ((w.alloc (.cells #[.int .i64 0, .slice .none 0 0, .slice .none 0 0] 40)).alloc (.cells #[.int .i64 n, .slice .none 0 0, .slice .none 0 0] 40)) (w.heap.size + 1) (.int .i64 n) (.slice .none 0 0) (.slice .none 0 0) ∧ C3 ((w.alloc (.cells #[.int .i64 0, .slice .none 0 0, .slice .none 0 0] 40)).alloc (.cells #[.int .i64 n, .slice .none 0 0, .slice .none 0 0] 40)) w.heap.size (.int .i64 0) (.slice .none 0 0) (.slice .none 0 0) ∧ Below w.heap.size w ((w.alloc (.cells #[.int .i64 0, .slice .none 0 0, .slice .none 0 0] 40)).alloc (.cells #[.int .i64 n, .slice .none 0 0, .slice .none 0 0] 40)) ∧ ((w.alloc (.cells #[.int .i64 0, .slice .none 0 0, .slice .none 0 0] 40)).alloc (.cells #[.int .i64 n, .slice .none 0 0, .slice .none 0 0] 40)).heap.size = w.heap.size + 1 + 1) := by
    have k1 : C3 ((w.alloc (.cells #[.int .i64 0, .slice .none 0 0, .slice .none 0 0] 40)).alloc (.cells #[.int .i64 n, .slice .none 0 0, .slice .none 0 0] 40)) (w.heap.size + 1) (.int .i64 n) (.slice .none 0 0) (.slice .none 0 0) := by
      have := C3.new (w.alloc (.cells #[.int .i64 0, .slice .none 0 0, .slice .none 0 0] 40)) (.int .i64 n) (.slice .none 0 0) (.slice .none 0 0) 40
      rwa [World.size_alloc] at this
    exact ⟨k1, (C3.new w (.int .i64 0) (.slice .none 0 0) (.slice .none 0 0) 40).alloc _, ((Below.refl _ _).alloc (Nat.le_refl _) _).alloc (by simp) _, by simp only [World.size_alloc]⟩
  go_enter Try.func12, Try.ntmps12
  go_wp2_with fail
  generalize ((w.alloc (.cells #[.int .i64 0, .slice .none 0 0, .slice .none 0 0] 40)).alloc (.cells #[.int .i64 n, .slice .none 0 0, .slice .none 0 0] 40)) = W2 at *
  obtain ⟨hC, hR, hB2, hz2⟩ := HA.out
  have hv2 : Qv W2 q hb n lv B L := HQv.out.below hB2
  refine (freeListQ_any W2 q lv L hv2.c1 hv2.lr hv2.le hv2.lt).mono ?_
  rintro e W3 ⟨qf, cf, rfl, ho3, hb3⟩
  rw [hz2] at ho3
  have e1 := (hC.below hb3).2.1
  have f1 := (hC.below hb3).2.2.2.2.1
  have HQ0 : Hid (HQ w (W3.setCell ⟨w.heap.size + 1, 1, .none⟩ (.slice qf L.length cf)) (w.heap.size + 1 + 1) n B L qf cf 0 [] none 0) := hq0 (hC.below hb3) (hR.below hb3) ho3 (hB2.trans (hb3.mono hB2.size)) (by have := hb3.size; omega)
  clear hC hR hB2 hz2 hv2 ho3 hb3 HA
  go_wp2_with fail
  generalize W3.setCell ⟨w.heap.size + 1, 1, .none⟩ (.slice qf L.length cf) = W4 at *
  clear e1 f1
  go_loopw [4] (fun a wr => ∃ i : Nat, i ≤ n ∧ a = .int .i64 i ∧ ∃ hs q2 c2, Hid (HQ w wr (w.heap.size + 1 + 1) n B L qf cf i hs q2 c2)) (fun a _ => (n - intOf a).toNat)
  case atStart => exact ⟨0, by omega, rfl, [], none, 0, HQ0⟩
  case round =>
    obtain ⟨i, hi, rfl, hs, q2, c2, HS⟩ := hrel
    have hbe := HS.out.be
    have c0r : wr.cell? ⟨q, 0, .none⟩ = some (.slice (some ⟨hb, 0, .none⟩) n n) := (hbe.cell lq).trans HQv.out.c0
    clear HQ0
    by_cases hlt : i < n
    · have g0 : (i : Int) < n := by omega
      by_cases hm : i ∈ L
      · have hci := HQv.out.hn i hlt hm
        have a0 : wr.cell? ⟨hb, i, .none⟩ = some (.slice .none 0 0) := (hbe.cell (lt_of_cell hci)).trans hci
        have HS2 : Hid (HQ w wr (w.heap.size + 1 + 1) n B L qf cf (i + 1) hs q2 c2) := HS.out.skip hm
        clear hci HS hbe hm
        go_wp2
        exact ⟨⟨i + 1, by omega, by simp, _, _, _, HS2⟩, by simp [intOf]; omega⟩
      · obtain ⟨fb, hci, hcb⟩ := HQv.out.hh i hlt hm
        have a0 : wr.cell? ⟨hb, i, .none⟩ = some (.slice (some ⟨fb, 0, .none⟩) 4096 4096) := (hbe.cell (lt_of_cell hci)).trans hci
        have k2' := HS.out.c.2.2.1
        have c34 := fun W' => addressQ_any i (by omega) W'
        simp only [adv] at c34
        have c22 : ∀ W', Below wr.heap.size wr W' → Calls Try.prog 38 #[.slice (some ⟨fb, 0, .none⟩) 4096 4096] W' fun e w' => CpQ W' 4096 (fun t => B (i * 4096 + t)) e w' := fun W' hbw => copiedQ_any W' 4096 fb 0 4096 (by omega) (by omega) _ (fun t ht => by
          rw [Nat.zero_add]
          have h5 := hbe.cell (p := ⟨fb, t, .none⟩) (lt_of_cell (hcb t ht))
          exact (hbw.cell (lt_of_cell (h5.trans (hcb t ht)))).trans (h5.trans (hcb t ht)))
        have hb0 : Below wr.heap.size wr wr.drew := (Below.refl _ _).drew
        have hsl : hs.length ≤ 4096 := by
          have e := congrArg List.length HS.out.fs
          have := heldTo_len L i
          rw [List.length_map] at e
          omega
        have HG : Hid (Value.ownBlock (.slice q2 hs.length c2) ≠ some wr.heap.size) := fun e => by have := (HS.out.hr.lt _ e).2; omega
        have HZ : Hid (w.heap.size + 1 + 1 ≤ wr.heap.size) := HS.out.xs
        have HC0 : Hid (w.cell? ⟨q, 0, .none⟩ = some (.slice (some ⟨hb, 0, .none⟩) n n) ∧ w.cell? ⟨hb, i, .none⟩ = some (.slice (some ⟨fb, 0, .none⟩) 4096 4096)) := ⟨HQv.out.c0, hci⟩
        clear hci hcb hbe
        go_upto_region 10 with fail
        go_region_law (first | (go_simp; go_at_call 37; refine (c34 _).mono ?_; rintro e W4 ⟨rfl, rfl⟩) | (go_simp; go_at_call 38; refine (c22 _ (by assumption)).mono ?_; rintro e W5 ⟨rfl, hcp, hbg⟩; have HV5 : Hid (HQ w W5 (w.heap.size + 1 + 1) n B L qf cf i hs q2 c2) := HS.out.below (hb0.trans (hbg.mono (by simp))); have k5 := HV5.out.c.2.2.1; have k5a : (W5.alloc (.cells #[.int .u64 (2147483648 + (i : Int) * 4096), .slice (some ⟨wr.heap.size, 0, .none⟩) 4096 4096] 70)).cell? ⟨w.heap.size + 1, 2, .none⟩ = some (.slice q2 hs.length c2) := (HV5.out.c.alloc _).2.2.1; have c5q : W5.cell? ⟨q, 0, .none⟩ = some (.slice (some ⟨hb, 0, .none⟩) n n) := (HV5.out.be.cell (lt_of_cell HC0.out.1)).trans HC0.out.1; have c5h : W5.cell? ⟨hb, i, .none⟩ = some (.slice (some ⟨fb, 0, .none⟩) 4096 4096) := (HV5.out.be.cell (lt_of_cell HC0.out.2)).trans HC0.out.2; have hD5 : Hid (∀ t, t < 4096 → W5.cell? ⟨wr.heap.size, t, .none⟩ = some (.int .u8 (B (i * 4096 + t)))) := hcp; have HA5 : Hid (∀ o, (W5.alloc o).ownsRow (w.heap.size + 1 + 1) 70 2 (.slice q2 hs.length c2) hs.length (flatH hs)) := (fun o => HV5.out.hr.alloc o); clear hcp hbg) | (refine step_append_at rfl (.tmp 35) (.tmp 47) 38 rfl (w.heap.size + 1 + 1) 70 j1 (.agg #[.int .u64 0, .slice .none 0 0]) 2 32 Try.underlying38 hk0 hkz hk1 hk2 rfl (by decide) (.slice q2 hs.length c2) hs.length (flatH hs) (by simp [Act.eval, Act.put]) (HA5.out _) ⟨W5.heap.size, 0, .none⟩ 1 1 [adv i, .slice (some ⟨wr.heap.size, 0, .none⟩) 4096 4096] (by simp [Act.eval, Act.put]) rfl (cell2_new _ _ _ _) (by simp [Value.oneCell', adv]) (by unfold maxLen; omega) (by omega) (by simp only [World.size_alloc]; exact Nat.le_succ_of_le HV5.out.xs) ?_; intro v' w5 hown5 hgr5 hat5; obtain ⟨gr, cap1, rfl⟩ := ownsRow_succ hown5; obtain ⟨m2, n5, hn5⟩ := HV5.out.step (Nat.le_refl _) hm HZ.out hD5.out HG.out hown5 hgr5 hat5; have HN : Hid (HQ w (w5.setCell ⟨w.heap.size + 1, 2, .none⟩ (.slice (some ⟨gr, 0, .none⟩) (hs.length + 1) cap1)) (w.heap.size + 1 + 1) n B L qf cf (i + 1) (hs ++ [(i, wr.heap.size)]) (some ⟨gr, 0, .none⟩) cap1) := hn5; clear hown5 hgr5 hat5 hn5))
        all_goals go_wp2
        all_goals exact ⟨⟨i + 1, by omega, by simp, _, _, _, HN⟩, by simp [intOf]; omega⟩
    · obtain rfl : i = n := by omega
      have HE : Hid (HQ w wr (w.heap.size + 1 + 1) i B L qf cf i hs q2 c2) := HS.out
      obtain ⟨a0, a1, a2, z0, z1, z2⟩ := HE.out.c
      obtain ⟨b0, b1, b2, y0, y1, y2⟩ := HE.out.r
      clear hbe HS
      go_wp2
      have e0 : (((wr.setCell ⟨w.heap.size, 0, .none⟩ (.int .i64 i)).setCell ⟨w.heap.size, 1, .none⟩ (.slice qf L.length cf)).setCell ⟨w.heap.size, 2, .none⟩ (.slice q2 hs.length c2)).cell? ⟨w.heap.size, 0, .none⟩ = some (.int .i64 i) := by
        rw [World.cell?_setCell_other _ _ _ _ (by simp), World.cell?_setCell_other _ _ _ _ (by simp)]
        exact World.cell?_setCell_same' _ _ _ (by rw [b0]; rfl)
      have e1 : (((wr.setCell ⟨w.heap.size, 0, .none⟩ (.int .i64 i)).setCell ⟨w.heap.size, 1, .none⟩ (.slice qf L.length cf)).setCell ⟨w.heap.size, 2, .none⟩ (.slice q2 hs.length c2)).cell? ⟨w.heap.size, 1, .none⟩ = some (.slice qf L.length cf) := by
        rw [World.cell?_setCell_other _ _ _ _ (by simp)]
        exact World.cell?_setCell_same' _ _ _ (by rw [World.cell?_setCell_other _ _ _ _ (by simp), b1]; rfl)
      have e2 : (((wr.setCell ⟨w.heap.size, 0, .none⟩ (.int .i64 i)).setCell ⟨w.heap.size, 1, .none⟩ (.slice qf L.length cf)).setCell ⟨w.heap.size, 2, .none⟩ (.slice q2 hs.length c2)).cell? ⟨w.heap.size, 2, .none⟩ = some (.slice q2 hs.length c2) :=
        World.cell?_setCell_same' _ _ _ (by rw [World.cell?_setCell_other _ _ _ _ (by simp), World.cell?_setCell_other _ _ _ _ (by simp), b2]; rfl)
      have hB9 : Below w.heap.size w (((wr.setCell ⟨w.heap.size, 0, .none⟩ (.int .i64 i)).setCell ⟨w.heap.size, 1, .none⟩ (.slice qf L.length cf)).setCell ⟨w.heap.size, 2, .none⟩ (.slice q2 hs.length c2)) := ((HE.out.be.setCell (p := ⟨w.heap.size, 0, .none⟩) (Nat.le_refl _) _).setCell (p := ⟨w.heap.size, 1, .none⟩) (Nat.le_refl _) _).setCell (p := ⟨w.heap.size, 2, .none⟩) (Nat.le_refl _) _
      have hf9 : (((wr.setCell ⟨w.heap.size, 0, .none⟩ (.int .i64 i)).setCell ⟨w.heap.size, 1, .none⟩ (.slice qf L.length cf)).setCell ⟨w.heap.size, 2, .none⟩ (.slice q2 hs.length c2)).ownsRow (w.heap.size + 1 + 1) 26 1 (.slice qf L.length cf) L.length (L.map adv) := ownsRow_setCell_below (ownsRow_setCell_below (ownsRow_setCell_below HE.out.fr (a := ⟨w.heap.size, 0, .none⟩) (by show w.heap.size < w.heap.size + 1 + 1; omega) _) (a := ⟨w.heap.size, 1, .none⟩) (by show w.heap.size < w.heap.size + 1 + 1; omega) _) (a := ⟨w.heap.size, 2, .none⟩) (by show w.heap.size < w.heap.size + 1 + 1; omega) _
      have hh9 : (((wr.setCell ⟨w.heap.size, 0, .none⟩ (.int .i64 i)).setCell ⟨w.heap.size, 1, .none⟩ (.slice qf L.length cf)).setCell ⟨w.heap.size, 2, .none⟩ (.slice q2 hs.length c2)).ownsRow (w.heap.size + 1 + 1) 70 2 (.slice q2 hs.length c2) hs.length (flatH hs) := ownsRow_setCell_below (ownsRow_setCell_below (ownsRow_setCell_below HE.out.hr (a := ⟨w.heap.size, 0, .none⟩) (by show w.heap.size < w.heap.size + 1 + 1; omega) _) (a := ⟨w.heap.size, 1, .none⟩) (by show w.heap.size < w.heap.size + 1 + 1; omega) _) (a := ⟨w.heap.size, 2, .none⟩) (by show w.heap.size < w.heap.size + 1 + 1; omega) _
      have hd9 : ∀ x ∈ hs, ∀ t, t < 4096 → (((wr.setCell ⟨w.heap.size, 0, .none⟩ (.int .i64 i)).setCell ⟨w.heap.size, 1, .none⟩ (.slice qf L.length cf)).setCell ⟨w.heap.size, 2, .none⟩ (.slice q2 hs.length c2)).cell? ⟨x.2, t, .none⟩ = some (.int .u8 (B (x.1 * 4096 + t))) := fun x hx t ht => by
        obtain ⟨d1, d2, _⟩ := HE.out.da x hx
        have ne : x.2 ≠ w.heap.size := by omega
        rw [World.cell?_setCell_other _ _ _ _ (by simp only [ne_eq, Addr.mk.injEq, not_and]; intro e; omega), World.cell?_setCell_other _ _ _ _ (by simp only [ne_eq, Addr.mk.injEq, not_and]; intro e; omega), World.cell?_setCell_other _ _ _ _ (by simp only [ne_eq, Addr.mk.injEq, not_and]; intro e; omega)]
        exact d2 t ht
      have HE9 : Hid (hs.map (·.1) = heldTo L i) := HE.out.fs
      clear HE a0 a1 a2 z0 z1 z2 b0 b1 b2 y0 y1 y2 c0r
      generalize (((wr.setCell ⟨w.heap.size, 0, .none⟩ (.int .i64 i)).setCell ⟨w.heap.size, 1, .none⟩ (.slice qf L.length cf)).setCell ⟨w.heap.size, 2, .none⟩ (.slice q2 hs.length c2)) = W9 at *
      have hlt9 : w.heap.size < W9.heap.size := lt_of_cell e0
      refine bodyPost_ret (v := .agg #[.int .i64 i, .slice qf L.length cf, .slice q2 hs.length c2]) (by simp [results, Try.results12, go_sem, e0, e1, e2, hlt9]) rfl ?_
      exact ⟨hs, qf, cf, q2, c2, rfl, HE9.out, hf9, hh9, hd9, hB9⟩
end Go.Proofs.Ytnghcadhilfgnaa
