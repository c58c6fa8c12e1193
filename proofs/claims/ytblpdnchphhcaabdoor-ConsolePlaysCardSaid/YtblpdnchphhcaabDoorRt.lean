import Derived.Test.YtblpdnchphhcaabDoorFl
namespace Go.Proofs.YtblpdnchphhcaabDoor
open Go.RowKit
set_option linter.unusedVariables false
set_option linter.unusedSimpArgs false
theorem upt_end (k : Nat) (rs : List Int) (h : rs.length ≤ k) (n : Nat) : upt n (rs.drop k) = 0 := by
  rw [List.drop_eq_nil_of_le h, upt_nil]
theorem drop_at {rs : List Int} {k : Nat} {x : Int} (h : rs[k]? = some x) : rs.drop k = x :: rs.drop (k + 1) := by
  have hk := (List.getElem?_eq_some_iff.1 h).1
  have e := (List.getElem?_eq_some_iff.1 h).2
  rw [List.drop_eq_getElem_cons hk, e]
set_option maxHeartbeats 4000000 in
/-- How many bytes a Take of the document's gives, and how many go. -/
theorem rgiven_any {w : World} {d : Nat} {vD vL : Value} {rs ls : List Int} (h : Dcn w d vD vL rs ls) (h0 : 0 < rs.length) (n : Int) (hn : ¬ n < 1) :
    Calls Tryd.prog 32 #[.pointer (some ⟨d, 0, .none⟩), .int .i64 n] w fun e w' => e = .returned (.tuple #[.int .i64 (nxT rs n), .int .i64 (nxG rs n)]) ∧ w' = w := by
  obtain ⟨pD, cD, rfl⟩ := one_slice h.rD
  have c0 := h.c0
  have hle := h.le
  obtain ⟨g, o, rfl, hcl⟩ : ∃ g o, pD = some ⟨g, o, .none⟩ ∧ ∀ i x, rs[i]? = some x → w.cell? ⟨g, o + i, .none⟩ = some (.int .u8 x) := by
    rcases (byt_own h.rD).2.2.2 with h1 | ⟨g, o, h1, _, h3⟩
    · omega
    · exact ⟨g, o, h1, h3⟩
  have HCL : Hid (∀ i x, rs[i]? = some x → w.cell? ⟨g, o + i, .none⟩ = some (.int .u8 x)) := hcl
  have HT : Hid (nxT rs n = upt n.toNat rs ∧ nxG rs n = if rs.head? = some 4 then 1 else upt n.toNat rs) := by
    unfold nxT nxG
    rw [if_neg hn, if_neg hn]
    exact ⟨rfl, rfl⟩
  obtain ⟨N, rfl⟩ : ∃ N : Nat, n = N := ⟨n.toNat, by omega⟩
  rw [Int.toNat_natCast] at HT
  obtain ⟨x0, hx0⟩ : ∃ x, rs[0]? = some x := ⟨rs[0], by simp⟩
  have a0 := hcl 0 x0 hx0
  rw [Nat.add_zero] at a0
  have HR : Hid (rs.length ≤ 128) := by show _ ≤ _; omega
  obtain ⟨R, hR⟩ : ∃ R, R = rs.length := ⟨_, rfl⟩
  have HRl : Hid (R = rs.length) := hR
  rw [← hR] at c0 h0
  clear hR h hcl hle
  by_cases h4 : x0 = 4
  · subst h4
    have HH : Hid (rs.head? = some 4) := by show _ = _; rw [List.head?_eq_getElem?]; exact hx0
    have HU : Hid (upt N rs = 0) := by
      show _ = _
      have : rs = 4 :: rs.drop 1 := by have := drop_at hx0; simpa using this
      rw [this]
      cases N with
      | zero => rfl
      | succ N => simp [upt]
    clear hx0
    go_enter Tryd.func32, Tryd.ntmps32
    go_wp2
    go_ret2
    refine ⟨?_, rfl⟩
    rw [HT.out.1, HT.out.2, if_pos HH.out, HU.out]
    rfl
  · have n4 : (x0 == 4) = false := by simpa using h4
    have HH : Hid (¬ rs.head? = some 4) := by
      intro e
      rw [List.head?_eq_getElem?, hx0] at e
      exact h4 (Option.some.inj e)
    clear hx0 h4
    have hN : N < 9223372036854775808 ∨ True := .inr trivial
    clear hN
    go_enter Tryd.func32, Tryd.ntmps32
    go_wp2
    clear a0 n4
    go_loopw [6] (fun v wr => ∃ k : Nat, k ≤ N ∧ k ≤ R ∧ v = .int .i64 k ∧ Hid (upt N rs = k + upt (N - k) (rs.drop k)) ∧ wr = w) (fun v _ => (R - intOf v).toNat)
    case atStart => exact ⟨0, Nat.zero_le _, Nat.zero_le _, rfl, by show _ = _; simp, rfl⟩
    case round =>
      obtain ⟨k, hkN, hkR, rfl, HU, rfl⟩ := hrel
      by_cases e1 : k < N
      · have g1 : (k : Int) < N := by omega
        by_cases e2 : k < R
        · have g2 : (k : Int) < R := by omega
          obtain ⟨x, hx⟩ : ∃ x, rs[k]? = some x := ⟨rs[k]'(by have := HRl.out; omega), by simp⟩
          have a1 := HCL.out k x hx
          have HX : Hid (upt N rs = k + upt (N - (k + 1) + 1) (x :: rs.drop (k + 1))) := by
            have := HU.out
            rw [drop_at hx, show N - k = N - (k + 1) + 1 by omega] at this
            exact this
          have hk128 : k ≤ 128 := by have := HR.out; have := HRl.out; omega
          clear hx HU
          by_cases x4 : x = 4
          · subst x4
            have HE : Hid (upt N rs = k) := by have := HX.out; simp only [upt, if_true] at this; exact this
            go_wp2
            go_ret2
            refine ⟨?_, rfl⟩
            rw [HT.out.1, HT.out.2, if_neg HH.out, HE.out]
            rfl
          have n4 : (x == 4) = false := by simpa using x4
          by_cases x10 : x = 10
          · subst x10
            have HE : Hid (upt N rs = k + 1) := by have := HX.out; simp only [upt, if_neg x4, if_true] at this; exact this
            clear x4
            go_wp2
            go_ret2
            refine ⟨?_, rfl⟩
            rw [HT.out.1, HT.out.2, if_neg HH.out, HE.out]
            rfl
          have n10 : (x == 10) = false := by simpa using x10
          have HE : Hid (upt N rs = (k + 1) + upt (N - (k + 1)) (rs.drop (k + 1))) := by have := HX.out; simp only [upt, if_neg x4, if_neg x10] at this; show _ = _; omega
          clear x4 x10
          go_wp2
          exact ⟨⟨k + 1, by omega, by omega, rfl, HE, (by first | rfl | trivial)⟩, by simp only [intOf]; omega⟩
        · obtain rfl : k = R := by omega
          have HE : Hid (upt N rs = k) := by have := HU.out; rw [upt_end k rs (by have := HRl.out; omega)] at this; exact this
          clear e2 hkR HU
          go_wp2
          go_ret2
          refine ⟨?_, rfl⟩
          rw [HT.out.1, HT.out.2, if_neg HH.out, HE.out]
          rfl
      · obtain rfl : k = N := by omega
        have HE : Hid (upt k rs = k) := by have := HU.out; rw [Nat.sub_self] at this; show _ = _; simpa [upt] using this
        clear e1 hkN HU
        go_wp2
        go_ret2
        refine ⟨?_, rfl⟩
        rw [HT.out.1, HT.out.2, if_neg HH.out, HE.out]
        rfl
/-- What a call of the document's console comes to. -/
def DTy (w : World) (d : Nat) (D : Nat → Prop) (R L E : List Int) (B : Bool) (e : Ending) (w' : World) : Prop :=
  ∃ p c D', e = .returned (.tuple #[.slice p E.length c, .bool B]) ∧ w'.ownsRow w.heap.size 5 1 (.slice p E.length c) E.length (by8 E) ∧ Doc w' d D' R L ∧ Chg D w w' ∧ (∀ k, D' k → k < w.heap.size → D k) ∧ (∀ g, (Value.slice p E.length c).ownBlock = some g → ¬ D' g) ∧ (∀ k, D' k → k < w'.heap.size)
theorem dty_nil {w : World} {d : Nat} {D : Nat → Prop} {rs ls : List Int} (h : Doc w d D rs ls) (B : Bool) : DTy w d D rs ls [] B (.returned (.tuple #[.slice none 0 0, .bool B])) w :=
  ⟨none, 0, _, rfl, World.ownsRow_nil _ _ _ _, h.cut, Chg.refl _ _, fun k hk _ => hk.1, (fun g hg => by cases hg), fun k hk => hk.2⟩
set_option maxHeartbeats 4000000 in
/-- The document's Take. -/
theorem rtake_any {w : World} {d : Nat} {D : Nat → Prop} {rs ls : List Int} (h : Doc w d D rs ls) (n : Int) :
    Calls Tryd.prog 12 #[.pointer (some ⟨d, 0, .none⟩), .int .i64 n] w (DTy w d D (rs.drop (nxG rs n)) ls (rs.take (nxT rs n)) (decide (0 < rs.length))) := by
  have HDC : Hid (Doc w d D rs ls) := h
  obtain ⟨vD, vL, h, hDd, hDD, hDL⟩ := h
  have c1 := rready_any h
  by_cases h0 : rs.length = 0
  · obtain rfl : rs = [] := List.eq_nil_of_length_eq_zero h0
    clear h0
    go_enter Tryd.func12, Tryd.ntmps12
    go_wp2_with fail
    refine c1.mono ?_
    rintro e w1 ⟨rfl, hw⟩
    obtain rfl : w = w1 := hw.symm
    rw [show decide (0 < ([] : List Int).length) = false by decide]
    clear c1
    go_wp2
    go_ret2
    simp only [List.drop_nil, List.take_nil]
    exact dty_nil HDC.out false
  have h0' : 0 < rs.length := by omega
  rw [decide_eq_true h0'] at c1 ⊢
  by_cases hn : n < 1
  · have HT : Hid (nxT rs n = 0 ∧ nxG rs n = 0) := by
      unfold nxT nxG
      rw [if_pos hn, if_pos hn]
      exact ⟨rfl, rfl⟩
    clear h0 h0'
    go_enter Tryd.func12, Tryd.ntmps12
    go_wp2_with fail
    refine c1.mono ?_
    rintro e w1 ⟨rfl, hw⟩
    obtain rfl : w = w1 := hw.symm
    clear c1
    go_wp2
    go_ret2
    rw [HT.out.1, HT.out.2, List.drop_zero, List.take_zero]
    exact dty_nil HDC.out true
  have c2 := rgiven_any h h0' n hn
  have hT := nxT_le rs n
  have hG := nxG_le rs n h0'
  obtain ⟨pD, cD, rfl⟩ := one_slice h.rD
  have hcD : rs.length ≤ cD := (byt_own h.rD).2.1
  have HP : Hid (Dcn w d (.slice pD rs.length cD) vL rs ls ∧ D d ∧ (∀ k, (Value.slice pD rs.length cD).ownBlock = some k → D k) ∧ (∀ k, vL.ownBlock = some k → D k)) := ⟨h, hDd, hDD, hDL⟩
  have hle := h.le
  generalize nxT rs n = T at *
  generalize nxG rs n = G at *
  have LT : Hid ((rs.take T).length = T) := by show _ = _; rw [List.length_take]; omega
  have LG : Hid ((rs.drop G).length = rs.length - G) := List.length_drop
  clear h hDd hDD hDL h0 h0'
  obtain ⟨R, hR⟩ : ∃ R, R = rs.length := ⟨_, rfl⟩
  have HRl : Hid (R = rs.length) := hR
  rw [← hR] at hT hG hcD HP hle LG
  clear hR
  have ca := cutat pD R cD
  have ct := cut_to pD R cD T (by omega)
  have cf := cut_from pD R cD G hG
  have c0 := HP.out.1.c0
  go_enter Tryd.func12, Tryd.ntmps12
  go_wp2_with fail
  refine c1.mono ?_
  rintro e w1 ⟨rfl, hw⟩
  obtain rfl : w = w1 := hw.symm
  go_wp2_with fail
  refine c2.mono ?_
  rintro e w1 ⟨rfl, hw⟩
  obtain rfl : w = w1 := hw.symm
  clear c1 c2
  have BD : Hid (Byt w pD R cD rs) := by have := HP.out.1.rD; rw [← HRl.out] at this; exact byt_own this
  have B1 : Hid (Byt w (cutp pD cD 0) T cD (rs.take T)) := by
    have := byt_cut BD.out 0 T (Nat.zero_le _) hT
    rw [Nat.sub_zero, Nat.sub_zero, List.drop_zero] at this
    exact this
  have BN : Hid (∀ V : World, Byt V none 0 0 []) := fun V => ⟨rfl, Nat.le_refl _, by decide, .inl rfl⟩
  have cJ := joined_any B1.out (BN.out w) (by omega)
  rw [List.append_nil] at cJ
  go_wp2_with fail
  refine cJ.mono ?_
  rintro e W1 ⟨p1, d1, rfl, hO, hb1⟩
  rw [LT.out] at hO ⊢
  have H1 : Hid (Dcn W1 d (.slice pD R cD) vL rs ls ∧ Below w.heap.size w W1 ∧ W1.ownsRow w.heap.size 5 1 (.slice p1 T d1) T (by8 (rs.take T)) ∧ Byt W1 (cutp pD cD G) (R - G) (cD - G) (rs.drop G)) := by
    refine ⟨HP.out.1.below hb1, hb1, hO, ?_⟩
    have := byt_below BD.out hb1
    have := byt_cut this G R hG (Nat.le_refl _)
    rw [List.take_of_length_le (by have := HRl.out; omega)] at this
    exact this
  clear cJ hO hb1 c0 B1
  have c0 := H1.out.1.c0
  have f0 := H1.out.1.fz 0
  have cJ := joined_any H1.out.2.2.2 (BN.out W1) (by omega)
  rw [List.append_nil] at cJ
  go_wp2_with fail
  refine cJ.mono ?_
  rintro e W2 ⟨p2, d2, rfl, hO, hb2⟩
  rw [LG.out] at hO ⊢
  have H2 : Hid (Dcn W2 d (.slice pD R cD) vL rs ls ∧ Below w.heap.size w W2 ∧ W2.ownsRow w.heap.size 5 1 (.slice p1 T d1) T (by8 (rs.take T)) ∧ W2.ownsRow W1.heap.size 5 1 (.slice p2 (R - G) d2) (R - G) (by8 (rs.drop G)) ∧ w.heap.size ≤ W1.heap.size ∧ (∀ g, (Value.slice p1 T d1).ownBlock = some g → g < W1.heap.size) ∧ W1.heap.size ≤ W2.heap.size) := ⟨H1.out.1.below hb2, H1.out.2.1.trans (hb2.mono H1.out.2.1.size), (Chg.ofBelow (S := fun _ => False) hb2).own H1.out.2.2.1 (fun _ _ h => h), hO, H1.out.2.1.size, own_ltC H1.out.2.2.1, hb2.size⟩
  clear cJ hO hb2 c0 f0
  have c0 := H2.out.1.c0
  have f0 := H2.out.1.fz 0
  have HE : Hid (DTy w d D (rs.drop G) ls (rs.take T) true (.returned (.tuple #[.slice p1 T d1, .bool true])) (W2.setCell ⟨d, 0, .none⟩ (.slice p2 (R - G) d2))) := by
    have h := H2.out
    have hp := HP.out
    have hlt := hp.1.lt
    have cg := chg_set d 0 (.slice p2 (R - G) d2) W2
    have hdl := h.1.lt
    refine ⟨p1, d1, fun k => (D k ∧ k < w.heap.size) ∨ (W1.heap.size ≤ k ∧ k < W2.heap.size), by rw [LT.out], ?_, ⟨.slice p2 (R - G) d2, vL, h.1.setD _ (rs.drop G) (by rw [LG.out]; exact own_mono h.2.2.2.1 (Nat.zero_le _)) (fun k hk => ?_) (by rw [LG.out]; omega) (fun x hx => h.1.by_ x (List.mem_append.2 (.inl (List.mem_of_mem_drop hx)))), .inl ⟨hp.2.1, hlt⟩, fun k hk => .inr ⟨own_block h.2.2.2.1 k hk, own_ltC h.2.2.2.1 k hk⟩, fun k hk => .inl ⟨hp.2.2.2 k hk, own_ltC hp.1.rL k hk⟩⟩, ?_, fun k hk hk2 => ?_, fun g hg hk => ?_, fun k hk => ?_⟩
    · rw [LT.out]
      exact cg.own h.2.2.1 (fun g hg e => by have := own_block h.2.2.1 g hg; have e : g = d := e; omega)
    · have := own_block h.2.2.2.1 k hk
      refine ⟨by omega, fun e => ?_⟩
      have := own_ltC hp.1.rL k e
      omega
    · exact (Chg.ofBelow h.2.1).trans cg (fun k hk e => by have e : k = d := e; rw [e]; exact hp.2.1)
    · rcases hk with hk | hk
      · exact hk.1
      · omega
    · rw [LT.out] at hg
      have h1 := own_block h.2.2.1 g hg
      have h2 := h.2.2.2.2.2.1 g hg
      rcases hk with hk | hk
      · omega
      · omega
    · have e : (W2.setCell ⟨d, 0, .none⟩ (.slice p2 (R - G) d2)).heap.size = W2.heap.size := size_setCells d [.slice p2 (R - G) d2] 0 W2
      rw [e]
      rcases hk with hk | hk
      · have := h.2.1.size; omega
      · exact hk.2
  go_wp2
  go_ret2
  exact HE.out
end Go.Proofs.YtblpdnchphhcaabDoor
