import Derived.Test.YtncjmlndjnfncaaUl
import Derived.Deep.DeepCutAuto
namespace Go.Proofs.Ytncjmlndjnfncaa
open Go Go.RowKit Fz
attribute [local go_sem] Oper.semAt_some
set_option linter.unusedVariables false
set_option linter.unusedSimpArgs false
attribute [local irreducible] eM evs
section
variable {N : Nat} {L : List Nat} {B : Nat → Int}
/-- A table that New gives. -/
theorem PT.init {i : Nat} (hi : 1 ≤ i ∧ i < N) (hL : i ∉ L) : PT N L (zer B i) (fun x => if x = 0 then some i else none) (fun _ _ => 0) := by
  refine ⟨⟨i, by simp⟩, fun x f hf => ?_, fun x y f hx hy => ?_, fun x e hx he hne => ?_, fun x hx => ?_, fun x g hx hg e he => ?_, fun y g hy hg k hk => ?_, fun _ _ => .inl rfl, fun _ _ _ => rfl⟩
  · by_cases e : x = 0
    · simp only [e, if_true, Option.some.injEq] at hf
      subst hf
      exact ⟨hi.1, hi.2, hL⟩
    · simp [e] at hf
  · by_cases e : x = 0 <;> by_cases e2 : y = 0 <;> simp_all
  · have := ch_pos x e
    simp [show ch x e ≠ 0 by omega] at hne
  · by_cases e : x = 0
    · omega
    · simp [e] at hx
  · by_cases e2 : x = 0
    · simp only [e2, if_true, Option.some.injEq] at hg
      subst hg
      have := ch_pos x e
      rw [evn_zer_same _ _ _ he]
      simp [show ch x e ≠ 0 by omega, ptr]
    · simp [e2] at hg
  · simp [show y ≠ 0 by omega] at hg
end
structure C3 (W : World) (P : Nat) (x0 x1 x2 : Value) : Prop where
  c0 : W.cell? ⟨P, 0, .none⟩ = some x0
  c1 : W.cell? ⟨P, 1, .none⟩ = some x1
  c2 : W.cell? ⟨P, 2, .none⟩ = some x2
  f0 : W.frozen? ⟨P, 0, .none⟩ = false
  f1 : W.frozen? ⟨P, 1, .none⟩ = false
  f2 : W.frozen? ⟨P, 2, .none⟩ = false
theorem C3.new (w : World) (x0 x1 x2 : Value) (t : TypeId) : C3 (w.alloc (.cells #[x0, x1, x2] t)) w.heap.size x0 x1 x2 :=
  ⟨by simp, by simp, by simp, World.frozen?_alloc_new _ _ _ _, World.frozen?_alloc_new _ _ _ _, World.frozen?_alloc_new _ _ _ _⟩
theorem C3.below {W W' : World} {P : Nat} {x0 x1 x2 : Value} (h : C3 W P x0 x1 x2) (b : Below W.heap.size W W') : C3 W' P x0 x1 x2 := by
  have hp : P < W.heap.size := lt_of_cell h.c0
  have e := b.block P hp
  have ec : ∀ o, W'.cell? ⟨P, o, .none⟩ = W.cell? ⟨P, o, .none⟩ := fun o => by simp only [World.cell?, e]
  have ef : ∀ o, W'.frozen? ⟨P, o, .none⟩ = W.frozen? ⟨P, o, .none⟩ := fun o => by simp only [World.frozen?, e]
  exact ⟨(ec 0).trans h.c0, (ec 1).trans h.c1, (ec 2).trans h.c2, (ef 0).trans h.f0, (ef 1).trans h.f1, (ef 2).trans h.f2⟩
theorem C3.drew {W : World} {P : Nat} {x0 x1 x2 : Value} (h : C3 W P x0 x1 x2) : C3 W.drew P x0 x1 x2 := h.below (Below.refl _ _).drew
theorem C3.set {W : World} {P : Nat} {x0 x1 x2 : Value} (h : C3 W P x0 x1 x2) (y0 y1 y2 : Value) : C3 (((W.setCell ⟨P, 0, .none⟩ y0).setCell ⟨P, 1, .none⟩ y1).setCell ⟨P, 2, .none⟩ y2) P y0 y1 y2 :=
  ⟨(World.cell?_setCell_other _ _ _ _ (by simp)).trans ((World.cell?_setCell_other _ _ _ _ (by simp)).trans (World.cell?_setCell_same' _ _ _ (by rw [h.c0]; rfl))), (World.cell?_setCell_other _ _ _ _ (by simp)).trans (World.cell?_setCell_same' _ _ _ (by rw [World.cell?_setCell_other _ _ _ _ (by simp), h.c1]; rfl)), World.cell?_setCell_same' _ _ _ (by rw [World.cell?_setCell_other _ _ _ _ (by simp), World.cell?_setCell_other _ _ _ _ (by simp), h.c2]; rfl),
    by rw [World.frozen?_setCell, World.frozen?_setCell, World.frozen?_setCell]; exact h.f0, by rw [World.frozen?_setCell, World.frozen?_setCell, World.frozen?_setCell]; exact h.f1, by rw [World.frozen?_setCell, World.frozen?_setCell, World.frozen?_setCell]; exact h.f2⟩
theorem belowC {B : Nat} {w W : World} (h : Below B w W) {P : Nat} (hP : B ≤ P) (y0 y1 y2 : Value) : Below B w (((W.setCell ⟨P, 0, .none⟩ y0).setCell ⟨P, 1, .none⟩ y1).setCell ⟨P, 2, .none⟩ y2) :=
  ((h.setCell (p := ⟨P, 0, .none⟩) hP _).setCell (p := ⟨P, 1, .none⟩) hP _).setCell (p := ⟨P, 2, .none⟩) hP _
/-- What the law holds: its memory, and a table in it. -/
def FL (w : World) (p b m : Nat) (W : World) : Prop := Below w.heap.size w W ∧ ∃ B L F lf, Ram W p b m 64 B L ∧ PT 64 L B F lf ∧ F 0 = some 63
theorem FL.below {w W W' : World} {p b m : Nat} (h : FL w p b m W) (k : Below W.heap.size W W') : FL w p b m W' := by
  obtain ⟨h0, B, L, F, lf, h1, h2, h3⟩ := h
  exact ⟨h0.trans (k.mono h0.size), B, L, F, lf, h1.below k, h2, h3⟩
theorem See.fl {w W : World} {p b m n : Nat} {q : Option Addr} {R : Nat → Int} (h : See w .u64 q n R) (k : FL w p b m W) : See W .u64 q n R := h.below k.1
theorem ad63 : ad 63 = 2147741696 := by unfold ad; rfl
theorem row_base {W : World} {X e k n : Nat} {v : Value} {xs : List Value} (h : W.ownsRow X e k v n xs) : W.ownsRow 0 e k v n xs := by
  refine ⟨h.1, ?_⟩
  rcases h.2 with h1 | ⟨g, cap, cur, h1, h2, h3⟩
  · exact .inl h1
  · exact .inr ⟨g, cap, cur, h1, Nat.zero_le _, h3⟩
theorem row_see {W : World} {X n g c : Nat} {l : List Int} (h : W.ownsRow X 28 1 (.slice (some ⟨g, 0, .none⟩) n c) n (wv l)) (hn : l.length = n) : See W .u64 (some ⟨g, 0, .none⟩) n (fun i => l.getD i 0) := by
  refine .inr ⟨g, 0, rfl, (h.lt g rfl).2, fun i hi => ?_⟩
  have e := h.cellAt i (by omega)
  have : (wv l)[i]? = some (.int .u64 (l.getD i 0)) := by
    unfold wv
    rw [List.getElem?_map, List.getD_eq_getElem?_getD, List.getElem?_eq_getElem (by omega)]
    rfl
  rw [this] at e
  simpa using e
theorem row_range (l : List Int) (n : Nat) (hn : l.length = n) : (List.range n).map (fun i => Value.int .u64 (l.getD i 0)) = wv l := by
  subst hn
  refine List.ext_getElem (by simp [wv]) fun i h1 h2 => ?_
  simp only [List.length_map, List.length_range] at h1
  simp [wv, List.getD_eq_getElem?_getD, List.getElem?_eq_getElem h1]
set_option maxHeartbeats 4000000 in
set_option maxRecDepth 100000 in
theorem law_any {w : World} {na ca nb cb : Nat} {qa qb : Option Addr} {Ra Rb : Nat → Int} (ha : See w .u64 qa na Ra) (hb : See w .u64 qb nb Rb) (ra : ∀ i, 0 ≤ Ra i ∧ Ra i < 18446744073709551616) (rb : ∀ i, 0 ≤ Rb i ∧ Rb i < 18446744073709551616) :
    Calls Try.prog 3 #[.slice qa na ca, .slice qb nb cb] w fun e w' => e = .returned (.bool true) ∧ Below w.heap.size w w' := by
  have HA : Hid (See w .u64 qa na Ra ∧ See w .u64 qb nb Rb ∧ (∀ i, 0 ≤ Ra i ∧ Ra i < 18446744073709551616) ∧ (∀ i, 0 ≤ Rb i ∧ Rb i < 18446744073709551616)) := ⟨ha, hb, ra, rb⟩
  clear ha hb ra rb
  have c7 : Calls Try.prog 7 #[.int .i64 64] w fun e w' => NewP w 64 e w' := new_any 64 (by omega) (by omega) w
  go_enter Try.func3, Try.ntmps3
  go_upto_region 4 with (go_at_call 7; refine c7.mono ?_; rintro _ w1 ⟨p, b, m, hp, hb, hm, rfl, hR, hB⟩; have H1 : Hid (Ram w1 p b m 64 (newB 63) (63 :: down 62) ∧ Below w.heap.size w w1) := ⟨hR, hB⟩; clear hR hB c7)
  have c8 : Calls Try.prog 8 #[.pointer (some ⟨p, 0, .none⟩)] w1 fun r w' => r = .returned (.tuple #[.int .u64 2147741696, .int .i64 0]) ∧ Ram w' p b m 64 (zer (newB 63) 63) (down 62) ∧ Fra p b m w1 w' := new_some 63 H1.out.1
  go_upto_region 7 with (go_at_call 8; refine c8.mono ?_; rintro _ w2 ⟨rfl, hR, hF⟩; have H2 : Hid (FL w p b m w2) := ⟨H1.out.2.trans (hF.toBelow H1.out.2.size hp hb hm), _, _, _, _, hR, PT.init (by omega) (fun h => by have := (down_mem 62 63).1 h; omega), by simp⟩; clear hR hF c8)
  clear H1
  go_wp2
  go_loopw [9] (fun v wr => ∃ i : Nat, i ≤ 20 ∧ v = .int .i64 i ∧ Hid (FL w p b m wr)) (fun v _ => (20 - intOf v).toNat)
  case atStart => exact ⟨0, by omega, rfl, H2⟩
  case round =>
    clear H2
    obtain ⟨i, hi, rfl, HR⟩ := hrel
    go_upto_region 8 with fail
    go_cut [38] (fun s wc => s = .bool (decide (i < na ∧ i < 20)) ∧ wc = wr)
    case first =>
      by_cases h1 : i < na
      · have g1 : (i : Int) < na := by omega
        by_cases h2 : i < 20
        · have g2 : (i : Int) < 20 := by omega
          have HE : Hid (decide (i < na ∧ i < 20) = true) := decide_eq_true ⟨h1, h2⟩
          go_wp2
          go_meet
          case rel => exact ⟨by rw [HE.out], rfl⟩
        · have g2 : ¬ (i : Int) < 20 := by omega
          have HE : Hid (decide (i < na ∧ i < 20) = false) := decide_eq_false (fun h => h2 h.2)
          go_wp2
          go_meet
          case rel => exact ⟨by rw [HE.out], rfl⟩
      · have g1 : ¬ (i : Int) < na := by omega
        have HE : Hid (decide (i < na ∧ i < 20) = false) := decide_eq_false (fun h => h1 h.1)
        go_wp2
        go_meet
        case rel => exact ⟨by rw [HE.out], rfl⟩
    case rest =>
      obtain ⟨rfl, hwc⟩ := hcut
      obtain rfl : wr = wc := hwc.symm
      by_cases hlt : i < na ∧ i < 20
      · rw [decide_eq_true hlt]
        obtain ⟨hlt, hl2⟩ := hlt
        have g0 : (i : Int) < na := by omega
        obtain ⟨g, o, rfl, hg, hr⟩ : ∃ g o, qa = some ⟨g, o, .none⟩ ∧ g < wr.heap.size ∧ ∀ i, i < na → wr.cell? ⟨g, o + i, .none⟩ = some (.int .u64 (Ra i)) := by
          rcases See.fl HA.out.1 HR.out with h | h
          · omega
          · exact h
        have k0 := hr i hlt
        clear hr
        obtain ⟨x, hx⟩ : ∃ x, x = Ra i := ⟨_, rfl⟩
        obtain ⟨y, hy⟩ : ∃ y, y = atv Rb nb i := ⟨_, rfl⟩
        rw [← hx] at k0
        have HXY : Hid ((0 ≤ x ∧ x < 18446744073709551616) ∧ (0 ≤ y ∧ y < 18446744073709551616)) := by
          refine ⟨by rw [hx]; exact HA.out.2.2.1 i, ?_⟩
          rw [hy]
          unfold atv
          split
          · exact HA.out.2.2.2 i
          · omega
        have HY : Hid (atv Rb nb i = y) := hy.symm
        clear hx hy
        have HS : Hid (∀ U, Below wr.heap.size wr U → See U .u64 qb nb Rb) := fun U k => (See.fl HA.out.2.1 HR.out).below k
        have kS : Below wr.heap.size wr wr.drew := (Below.refl _ _).drew
        go_upto_region 10 with fail
        go_cut [10] (fun s W => ∃ P, s = .pointer (some ⟨P, 0, .none⟩) ∧ Hid (C3 W P (.int .u64 (pgV x)) (.int .u64 (pgA y)) (.int .u64 2) ∧ Below wr.heap.size wr W))
        case first =>
          refine wp_region_held_drew (S := fun U => Below wr.heap.size wr U) (by kernel_rfl) kS (fun hHeld => ?_)
          refine wpAnyH_take (i := 0) (v := (.slice (some ⟨g, o, .none⟩) na ca)) rfl (by kernel_rfl) (by kernel_rfl) (by kernel_rfl) (fun _ _ _ h => h) (Or.inl ⟨by rfl, fun ww hSw => by (try dsimp only at hSw); go_simp⟩) (by assumption) ?_
          simp only [Act.put, List.setIfInBounds_toArray, List.set_cons_zero, List.set_cons_succ, List.getElem_toArray, List.getElem_cons_succ, List.getElem_cons_zero]
          refine wpAnyH_take (i := 1) (v := (.int .i64 i)) rfl (by kernel_rfl) (by kernel_rfl) (by kernel_rfl) (fun _ _ _ h => h) (Or.inl ⟨by rfl, fun ww hSw => by (try dsimp only at hSw); go_simp⟩) (by assumption) ?_
          simp only [Act.put, List.setIfInBounds_toArray, List.set_cons_zero, List.set_cons_succ, List.getElem_toArray, List.getElem_cons_succ, List.getElem_cons_zero]
          refine wpAnyH_take (i := 2) (v := (.pointer (some ⟨g, o + i, .none⟩))) rfl (by kernel_rfl) (by kernel_rfl) (by kernel_rfl) (fun _ _ _ h => h) (Or.inl ⟨by rfl, fun ww hSw => by (try dsimp only at hSw); go_simp⟩) (by assumption) ?_
          simp only [Act.put, List.setIfInBounds_toArray, List.set_cons_zero, List.set_cons_succ, List.getElem_toArray, List.getElem_cons_succ, List.getElem_cons_zero]
          refine wpAnyH_take (i := 3) (v := (.int .u64 x)) rfl (by kernel_rfl) (by kernel_rfl) (by kernel_rfl) (fun _ _ _ h => h) (Or.inl ⟨by rfl, fun ww hSw => by (try dsimp only at hSw); have k0' := (hSw.cell (p := ⟨g, o + i, .none⟩) hg).trans k0; go_simp⟩) (by assumption) ?_
          simp only [Act.put, List.setIfInBounds_toArray, List.set_cons_zero, List.set_cons_succ, List.getElem_toArray, List.getElem_cons_succ, List.getElem_cons_zero]
          refine wpAnyH_take (i := 4) (v := (.slice qb nb cb)) rfl (by kernel_rfl) (by kernel_rfl) (by kernel_rfl) (fun _ _ _ h => h) (Or.inl ⟨by rfl, fun ww hSw => by (try dsimp only at hSw); go_simp⟩) (by assumption) ?_
          simp only [Act.put, List.setIfInBounds_toArray, List.set_cons_zero, List.set_cons_succ, List.getElem_toArray, List.getElem_cons_succ, List.getElem_cons_zero]
          refine wpAnyH_take (i := 5) (v := (.int .i64 i)) rfl (by kernel_rfl) (by kernel_rfl) (by kernel_rfl) (fun _ _ _ h => h) (Or.inl ⟨by rfl, fun ww hSw => by (try dsimp only at hSw); go_simp⟩) (by assumption) ?_
          simp only [Act.put, List.setIfInBounds_toArray, List.set_cons_zero, List.set_cons_succ, List.getElem_toArray, List.getElem_cons_succ, List.getElem_cons_zero]
          refine wpAnyH_ready (rs := [6, 8]) (by kernel_rfl) (by simp) ?_
          refine AllReadyH.cons rfl (fun K hK => ?_) (AllReadyH.cons rfl (fun K hK => ?_) AllReadyH.nil)
          ·
            go_simp
            go_at_call 10
            refine (at_any (HS.out _ kS) i).mono ?_
            rw [HY.out]
            rintro _ _ ⟨rfl, rfl⟩
            refine hK.out _ _ kS (fun hHeld => ?_)
            clear hK K
            try simp only [Act.put, List.setIfInBounds_toArray, List.set_cons_zero, List.set_cons_succ, List.getElem_toArray, List.getElem_cons_succ, List.getElem_cons_zero]
            refine wpAnyH_ready (rs := [7, 8]) (by kernel_rfl) (by simp) ?_
            refine AllReadyH.cons rfl (fun K hK => ?_) (AllReadyH.cons rfl (fun K hK => ?_) AllReadyH.nil)
            ·
              go_simp
              go_at_call 9
              refine (page_any x y HXY.out.1 HXY.out.2).mono ?_
              rintro _ w2 ⟨rfl, b2⟩
              have k2 : Below wr.heap.size wr w2 := kS.trans (b2.mono kS.size)
              refine hK.out _ _ k2 (fun hHeld => ?_)
              clear hK K
              try simp only [Act.put, List.setIfInBounds_toArray, List.set_cons_zero, List.set_cons_succ, List.getElem_toArray, List.getElem_cons_succ, List.getElem_cons_zero]
              refine wpAnyH_ready (rs := [8]) (by kernel_rfl) (by simp) ?_
              refine AllReadyH.cons rfl (fun K hK => ?_) AllReadyH.nil
              go_simp
              have b3 : Below wr.heap.size wr (w2.alloc (.cells #[.int .u64 0, .int .u64 0, .int .u64 0] 33)) := k2.alloc k2.size _
              refine hK.out _ _ b3 (fun hHeld => ?_)
              clear hK K
              refine wpAnyH_ready (rs := [9]) (by kernel_rfl) (by simp) ?_
              refine AllReadyH.cons rfl (fun K hK => ?_) AllReadyH.nil
              go_simp
              have b4 : Below wr.heap.size wr (w2.alloc (.cells #[.int .u64 (pgV x), .int .u64 (pgA y), .int .u64 2] 33)) := k2.alloc k2.size _
              refine hK.out _ _ b4 (fun hHeld => ?_)
              clear hK K
              refine wpAnyH_done (by kernel_rfl) ?_ _
              go_wp2
              go_meet
              exact ⟨_, rfl, C3.new w2 _ _ _ 33, b4⟩
            ·
              go_simp
              have b3 : Below wr.heap.size wr (wr.alloc (.cells #[.int .u64 0, .int .u64 0, .int .u64 0] 33)).drew := (below1 wr _).drew
              have D3 : C3 (wr.alloc (.cells #[.int .u64 0, .int .u64 0, .int .u64 0] 33)).drew wr.heap.size (.int .u64 0) (.int .u64 0) (.int .u64 0) := (C3.new wr _ _ _ 33).drew
              generalize (wr.alloc (.cells #[.int .u64 0, .int .u64 0, .int .u64 0] 33)).drew = w3 at *
              refine hK.out _ _ b3 (fun hHeld => ?_)
              clear hK K
              refine wpAnyH_ready (rs := [7]) (by kernel_rfl) (by simp) ?_
              refine AllReadyH.cons rfl (fun K hK => ?_) AllReadyH.nil
              go_simp
              go_at_call 9
              refine (page_any x y HXY.out.1 HXY.out.2).mono ?_
              rintro _ w2 ⟨rfl, b2⟩
              have k2 : Below wr.heap.size wr w2 := b3.trans (b2.mono b3.size)
              refine hK.out _ _ k2 (fun hHeld => ?_)
              clear hK K
              try simp only [Act.put, List.setIfInBounds_toArray, List.set_cons_zero, List.set_cons_succ, List.getElem_toArray, List.getElem_cons_succ, List.getElem_cons_zero]
              have C2 := D3.below b2
              refine wpAnyH_ready (rs := [9]) (by kernel_rfl) (by simp) ?_
              refine AllReadyH.cons rfl (fun K hK => ?_) AllReadyH.nil
              have HC2 : Hid (C3 w2 wr.heap.size (.int .u64 0) (.int .u64 0) (.int .u64 0)) := C2
              obtain ⟨z0, z1, z2, y0, y1, y2⟩ := C2
              go_simp
              clear z0 z1 z2 y0 y1 y2
              have C9 := HC2.out.set (.int .u64 (pgV x)) (.int .u64 (pgA y)) (.int .u64 2)
              have B9 := belowC (B := wr.heap.size) k2 (Nat.le_refl _) (.int .u64 (pgV x)) (.int .u64 (pgA y)) (.int .u64 2)
              refine hK.out _ _ B9 (fun hHeld => ?_)
              clear hK K
              refine wpAnyH_done (by kernel_rfl) ?_ _
              go_wp2
              go_meet
              exact ⟨_, rfl, C9, B9⟩
          ·
            go_simp
            have b3 : Below wr.heap.size wr (wr.alloc (.cells #[.int .u64 0, .int .u64 0, .int .u64 0] 33)).drew := (below1 wr _).drew
            have D3 : C3 (wr.alloc (.cells #[.int .u64 0, .int .u64 0, .int .u64 0] 33)).drew wr.heap.size (.int .u64 0) (.int .u64 0) (.int .u64 0) := (C3.new wr _ _ _ 33).drew
            generalize (wr.alloc (.cells #[.int .u64 0, .int .u64 0, .int .u64 0] 33)).drew = w3 at *
            refine hK.out _ _ b3 (fun hHeld => ?_)
            clear hK K
            refine wpAnyH_ready (rs := [6]) (by kernel_rfl) (by simp) ?_
            refine AllReadyH.cons rfl (fun K hK => ?_) AllReadyH.nil
            go_simp
            go_at_call 10
            refine (at_any (HS.out _ b3) i).mono ?_
            rw [HY.out]
            rintro _ _ ⟨rfl, rfl⟩
            refine hK.out _ _ b3 (fun hHeld => ?_)
            clear hK K
            try simp only [Act.put, List.setIfInBounds_toArray, List.set_cons_zero, List.set_cons_succ, List.getElem_toArray, List.getElem_cons_succ, List.getElem_cons_zero]
            refine wpAnyH_ready (rs := [7]) (by kernel_rfl) (by simp) ?_
            refine AllReadyH.cons rfl (fun K hK => ?_) AllReadyH.nil
            go_simp
            go_at_call 9
            refine (page_any x y HXY.out.1 HXY.out.2).mono ?_
            rintro _ w2 ⟨rfl, b2⟩
            have k2 : Below wr.heap.size wr w2 := b3.trans (b2.mono b3.size)
            refine hK.out _ _ k2 (fun hHeld => ?_)
            clear hK K
            try simp only [Act.put, List.setIfInBounds_toArray, List.set_cons_zero, List.set_cons_succ, List.getElem_toArray, List.getElem_cons_succ, List.getElem_cons_zero]
            have C2 := D3.below b2
            refine wpAnyH_ready (rs := [9]) (by kernel_rfl) (by simp) ?_
            refine AllReadyH.cons rfl (fun K hK => ?_) AllReadyH.nil
            have HC2 : Hid (C3 w2 wr.heap.size (.int .u64 0) (.int .u64 0) (.int .u64 0)) := C2
            obtain ⟨z0, z1, z2, y0, y1, y2⟩ := C2
            go_simp
            clear z0 z1 z2 y0 y1 y2
            have C9 := HC2.out.set (.int .u64 (pgV x)) (.int .u64 (pgA y)) (.int .u64 2)
            have B9 := belowC (B := wr.heap.size) k2 (Nat.le_refl _) (.int .u64 (pgV x)) (.int .u64 (pgA y)) (.int .u64 2)
            refine hK.out _ _ B9 (fun hHeld => ?_)
            clear hK K
            refine wpAnyH_done (by kernel_rfl) ?_ _
            go_wp2
            go_meet
            exact ⟨_, rfl, C9, B9⟩
        case rest =>
          obtain ⟨P, rfl, HC⟩ := hcut
          have hF := HR.out.below HC.out.2
          obtain ⟨h0, B, L, F, lf, h1, h2, h3⟩ := hF
          have c11 := map_keep h1 h2 h3 (pgV x) (pgA y) (pgV_b x) (pgA_b y)
          rw [ad63] at c11
          have H0 : Hid (Below w.heap.size w wc) := h0
          clear h0 h1 h2 h3 k0 kS
          obtain ⟨z0, z1, z2, y0, y1, y2⟩ := HC.out.1
          generalize pgV x = va at *
          generalize pgA y = pa at *
          go_upto_region 9 with (go_at_call 11; refine c11.mono ?_; rintro _ w4 ⟨v, rfl, B', L', F', lf', q1, q2, q3, q4⟩; have H4 : Hid (FL w p b m w4) := ⟨H0.out.trans (q4.toBelow H0.out.size hp hb hm), _, _, _, _, q3, q1, q2⟩; clear q1 q2 q3 q4 c11 z0 z1 z2 y0 y1 y2)
          go_wp2
          exact ⟨⟨i + 1, by omega, by go_num, H4⟩, by simp only [intOf]; omega⟩
      · rw [decide_eq_false hlt]
        obtain ⟨h0, B, L, F, lf, h1, h2, h3⟩ := id HR.out
        obtain ⟨l, n, hl, HN⟩ : ∃ (l : List Int) (n : Nat), (l.length = n ∧ 1 ≤ n ∧ n ≤ 402653185 ∧ l[0]? = some 2147741696) ∧ Hid (∀ U, Ram U p b m 64 B L → Calls Try.prog 12 #[.pointer (some ⟨p, 0, .none⟩), .int .u64 2147741696] U fun e w' => ∃ g c, e = .returned (.slice (some ⟨g, 0, .none⟩) n c) ∧ w'.ownsRow U.heap.size 28 1 (.slice (some ⟨g, 0, .none⟩) n c) n (wv l) ∧ Below U.heap.size U w') := by
          refine ⟨ndl 63 (evs F lf 0), _, ⟨rfl, ?_, ?_, ?_⟩, fun U hU => ?_⟩
          · simp [ndl]
          · have e1 := evs_len F lf
            have e2 := List.length_filterMap_le (fun x : Ev => if x.p.k = 3 then some (adE x.p.e) else none) (evs F lf 0)
            simp only [ndl, List.length_cons]
            omega
          · unfold ndl
            simp [ad63]
          · have := nodes_any hU h2 h3
            rw [ad63] at this
            exact this
        have HR0 : Hid (Ram wr p b m 64 B L ∧ Below w.heap.size w wr) := ⟨h1, h0⟩
        clear h0 h1 h2 h3 HR HA
        obtain ⟨hln, hn1, hn2, hl0⟩ := hl
        have c12a := HN.out wr HR0.out.1
        go_upto_region 13 with (go_at_call 12; refine c12a.mono ?_; rintro _ w1 ⟨g1, ca1, rfl, r1, b1⟩; have H1 : Hid (w1.ownsRow wr.heap.size 28 1 (.slice (some ⟨g1, 0, .none⟩) n ca1) n (wv l) ∧ Below wr.heap.size wr w1) := ⟨r1, b1⟩; clear r1 b1 c12a)
        have c12b := HN.out w1 (HR0.out.1.below H1.out.2)
        go_upto_region 14 with (go_at_call 12; refine c12b.mono ?_; rintro _ w2 ⟨g2, ca2, rfl, r2, b2⟩; have H2 : Hid (w2.ownsRow w1.heap.size 28 1 (.slice (some ⟨g2, 0, .none⟩) n ca2) n (wv l) ∧ Below w1.heap.size w1 w2) := ⟨r2, b2⟩; clear r2 b2 c12b)
        have hg1 := H1.out.1.lt g1 rfl
        have hg2 := H2.out.1.lt g2 rfl
        have r12 : w2.ownsRow wr.heap.size 28 1 (.slice (some ⟨g1, 0, .none⟩) n ca1) n (wv l) := own_block H1.out.1 (H2.out.2.block g1 hg1.2)
        have c13 := copyW_any (ca := ca1) (by omega) (row_see r12 hln)
        clear r12
        go_upto_region 15 with (go_at_call 13; refine c13.mono ?_; rintro _ w3 ⟨q3, ca3, rfl, r3, b3⟩; have H3 : Hid (w3.ownsRow w2.heap.size 28 1 (.slice q3 n ca3) n (wv l) ∧ Below w2.heap.size w2 w3) := ⟨by rw [row_range l n hln] at r3; exact r3, b3⟩; clear r3 b3 c13)
        obtain ⟨g3, rfl, hg3a, hg3b⟩ := row_shape H3.out.1 (by omega)
        have B13 : Below w1.heap.size w1 w3 := H2.out.2.trans (H3.out.2.mono H2.out.2.size)
        have r13 := own_block H1.out.1 (B13.block g1 hg1.2)
        have r23 := own_block H2.out.1 (H3.out.2.block g2 hg2.2)
        have k0 : w3.cell? ⟨g1, 0, .none⟩ = some (.int .u64 2147741696) := by
          have e := r13.cellAt 0 (by omega)
          have : (wv l)[0]? = some (.int .u64 2147741696) := by
            unfold wv
            rw [List.getElem?_map, hl0]
            rfl
          rw [this] at e
          simpa using e
        have c14 := words_same (ca := ca2) (cb := ca3) (by omega) (row_see r23 hln) (row_see H3.out.1 hln)
        have n0 : ¬ (n : Int) = 0 := by omega
        have n1 : (0 : Int) < n := by omega
        clear B13 r13 r23
        go_upto_region 17 with (go_at_call 14; refine c14.mono ?_; rintro _ w4 ⟨rfl, b4⟩; have H4 : Hid (Below w3.heap.size w3 w4) := b4; clear b4 c14 k0)
        have hw := HR0.out.2.size
        have B14 : Below w1.heap.size w1 w4 := H2.out.2.trans ((H3.out.2.trans (H4.out.mono H3.out.2.size)).mono H2.out.2.size)
        have B24 : Below w2.heap.size w2 w4 := H3.out.2.trans (H4.out.mono H3.out.2.size)
        have Br4 : Below wr.heap.size wr w4 := H1.out.2.trans (B14.mono H1.out.2.size)
        have HW4 : Hid (w4.ownsRow wr.heap.size 28 1 (.slice (some ⟨g1, 0, .none⟩) n ca1) n (wv l) ∧ w4.ownsRow w1.heap.size 28 1 (.slice (some ⟨g2, 0, .none⟩) n ca2) n (wv l) ∧ w4.ownsRow w2.heap.size 28 1 (.slice (some ⟨g3, 0, .none⟩) n ca3) n (wv l) ∧ Ram w4 p b m 64 B L ∧ Below wr.heap.size wr w4) :=
          ⟨own_block H1.out.1 (B14.block g1 hg1.2), own_block H2.out.1 (B24.block g2 hg2.2), own_block H3.out.1 (H4.out.block g3 hg3b), HR0.out.1.below Br4, Br4⟩
        have hs1 := H1.out.2.size
        have hs2 := H2.out.2.size
        have hs3 := H3.out.2.size
        have hs4 := H4.out.size
        clear B14 B24 Br4 H1 H2 H3 H4
        obtain ⟨w5, hw5⟩ : ∃ w5, w5 = w4.alloc (.cells #[.slice (some ⟨g1, 0, .none⟩) n ca1, .slice (some ⟨g2, 0, .none⟩) n ca2] 22) := ⟨_, rfl⟩
        have b5 : Below w4.heap.size w4 w5 := by rw [hw5]; exact below1 _ _
        have k50 : w5.cell? ⟨w4.heap.size, 0, .none⟩ = some (.slice (some ⟨g1, 0, .none⟩) n ca1) := by rw [hw5]; simp
        have k51 : w5.cell? ⟨w4.heap.size, 1, .none⟩ = some (.slice (some ⟨g2, 0, .none⟩) n ca2) := by rw [hw5]; simp
        have hs5 : w5.heap.size = w4.heap.size + 1 := by rw [hw5]; simp
        obtain ⟨v, hv⟩ : ∃ v : Nat → Value, v = fun i => if i = 0 then .slice (some ⟨g1, 0, .none⟩) n ca1 else .slice (some ⟨g2, 0, .none⟩) n ca2 := ⟨_, rfl⟩
        have v0 : v 0 = .slice (some ⟨g1, 0, .none⟩) n ca1 := by rw [hv]; rfl
        have v1 : v 1 = .slice (some ⟨g2, 0, .none⟩) n ca2 := by rw [hv]; rfl
        have two : ∀ i, i < 2 → i = 0 ∨ i = 1 := fun i h => by omega
        have c15 := freeW_any 2 w4.heap.size 2 (fun _ => n) v (fun _ => wv l) w5 (by omega) (fun i _ => by omega)
          ⟨fun i hi => by
            rcases two i hi with rfl | rfl
            · rw [v0]; exact row_base (own_block HW4.out.1 (b5.block g1 (by omega)))
            · rw [v1]; exact row_base (own_block HW4.out.2.1 (b5.block g2 (by omega))), rfl, rfl, rfl, Nat.le_refl _, fun _ _ _ => rfl⟩
          (fun i j hi hj hij g hg => by
            rcases two i hi with rfl | rfl <;> rcases two j hj with rfl | rfl
            · omega
            · rw [v0] at hg; rw [v1]; simp only [Value.ownBlock, Option.some.injEq, ne_eq] at hg ⊢; omega
            · rw [v1] at hg; rw [v0]; simp only [Value.ownBlock, Option.some.injEq, ne_eq] at hg ⊢; omega
            · omega)
          (by omega) (fun i hi => by
            rcases two i hi with rfl | rfl
            · rw [v0]; simp only [Value.ownBlock, Option.some.injEq, ne_eq]; omega
            · rw [v1]; simp only [Value.ownBlock, Option.some.injEq, ne_eq]; omega)
          (fun i hi => by
            rcases two i hi with rfl | rfl
            · rw [v0]; exact k50
            · rw [v1]; exact k51)
        have HK : Hid (∀ w6 xs, Fs 28 2 (fun _ => n) v w5 w6 xs → Ram w6 p b m 64 B L ∧ w6.ownsRow w2.heap.size 28 1 (.slice (some ⟨g3, 0, .none⟩) n ca3) n (wv l) ∧ Below w.heap.size w w6) := by
          intro w6 xs hF
          have hbl : ∀ k, k < w4.heap.size → k ≠ g1 → k ≠ g2 → w6.heap[k]? = w4.heap[k]? := fun k hk e1 e2 => (hF.block k (by omega) (fun i hi => by
            rcases two i hi with rfl | rfl
            · rw [v0]; simp only [Value.ownBlock, Option.some.injEq, ne_eq]; omega
            · rw [v1]; simp only [Value.ownBlock, Option.some.injEq, ne_eq]; omega)).trans (b5.block k hk)
          have r0 := HR0.out.1.mem
          have p0 := r0.plt
          have p1 := r0.blt
          have p2 := r0.mlt
          have r4 := HW4.out.2.2.2.1
          refine ⟨⟨r4.mem.keep (hbl p (by omega) (by omega) (by omega)) (hbl b (by omega) (by omega) (by omega)) (hbl m (by omega) (by omega) (by omega)), r4.nd, r4.lt, r4.thr⟩, own_block HW4.out.2.2.1 (hbl g3 (by omega) (by omega) (by omega)), ?_⟩
          have B4 : Below w.heap.size w w4 := HR0.out.2.trans (HW4.out.2.2.2.2.mono hw)
          exact ⟨hF.os.trans (b5.os.trans B4.os), hF.tape.trans (b5.tape.trans B4.tape), hF.output.trans (b5.output.trans B4.output), Nat.le_trans B4.size (Nat.le_trans b5.size hF.size), fun k hk => (hbl k (by omega) (by omega) (by omega)).trans (B4.block k hk)⟩
        clear k50 k51 two b5
        go_wp2_with (first | (rw [← hw5]; go_at_call 15; refine c15.mono ?_; rintro _ w6 ⟨rfl, xs6, hF6⟩; have H6 := HK.out w6 xs6 hF6; obtain ⟨r6, s6, t6⟩ := H6; clear hF6 c15; have c12c := HN.out w6 r6; have H6 : Hid (w6.ownsRow w2.heap.size 28 1 (.slice (some ⟨g3, 0, .none⟩) n ca3) n (wv l) ∧ Below w.heap.size w w6) := ⟨s6, t6⟩; clear r6 s6 t6) | (go_at_call 12; refine c12c.mono ?_; rintro _ w7 ⟨g7, ca7, rfl, r7, b7⟩; have c14 := words_same (ca := ca7) (cb := ca3) (by omega) (row_see r7 hln) (row_see (own_block H6.out.1 (b7.block g3 (H6.out.1.lt g3 rfl).2)) hln); have H7 : Hid (Below w.heap.size w w7) := H6.out.2.trans (b7.mono H6.out.2.size); clear r7 b7 c12c) | (go_at_call 14; refine c14.mono ?_; rintro _ w8 ⟨rfl, b8⟩; have H8 : Hid (Below w.heap.size w w8) := H7.out.trans (b8.mono H7.out.size); clear b8 c14) | fail)
        go_ret
        exact ⟨rfl, H8.out⟩
end Go.Proofs.Ytncjmlndjnfncaa
