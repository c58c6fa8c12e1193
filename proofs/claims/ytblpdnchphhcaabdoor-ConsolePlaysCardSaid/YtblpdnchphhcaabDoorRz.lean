import Derived.Test.YtblpdnchphhcaabDoorRy
namespace Go.Proofs.YtblpdnchphhcaabDoor
open Go.RowKit
set_option linter.unusedVariables false
set_option linter.unusedSimpArgs false
section
variable {w : World} {d : Nat} {D : Nat → Prop} {rs ls : List Int}
set_option maxHeartbeats 8000000 in
set_option maxRecDepth 100000 in
theorem rtype_add (h : Doc w d D rs ls) (x : Int) (hxb : 0 ≤ x ∧ x < 256) (hx : x ≠ 21 ∧ x ≠ 8 ∧ x ≠ 127 ∧ x ≠ 0) (hf : rs.length + ls.length < 128) :
    Calls Tryd.prog 28 #[.pointer (some ⟨d, 0, .none⟩), .int .u8 x] w (DTy w d D (if key x = 10 ∨ key x = 4 ∨ rs.length + ls.length + 1 = 128 then rs ++ (ls ++ [key x]) else rs) (if key x = 10 ∨ key x = 4 ∨ rs.length + ls.length + 1 = 128 then [] else ls ++ [key x]) (if key x = 4 then [] else [key x]) (decide (key x = 10 ∨ key x = 4 ∨ rs.length + ls.length + 1 = 128))) := by
  obtain ⟨vD, vL, h, hDd, hDD, hDL⟩ := h
  have c1 := rnone_any h
  obtain ⟨pD, cD, rfl⟩ := one_slice h.rD
  obtain ⟨pL, cL, rfl⟩ := one_slice h.rL
  have hkb := key_byte x hxb
  obtain ⟨R, hR⟩ : ∃ R, R = rs.length := ⟨_, rfl⟩
  obtain ⟨L, hL⟩ : ∃ L, L = ls.length := ⟨_, rfl⟩
  have HRL : Hid (R = rs.length ∧ L = ls.length) := ⟨hR, hL⟩
  rw [← hR] at h hDD hf ⊢
  rw [← hL] at h hDL hf ⊢
  have HP : Hid (Dcn w d (.slice pD R cD) (.slice pL L cL) rs ls ∧ D d ∧ (∀ k, (Value.slice pD R cD).ownBlock = some k → D k) ∧ (∀ k, (Value.slice pL L cL).ownBlock = some k → D k)) := ⟨h, hDd, hDD, hDL⟩
  have a0 := h.c0
  have a1 := h.c1
  have i1 : (x == 21) = false := by simp; omega
  have i2 : (x == 8) = false := by simp; omega
  have i3 : (x == 127) = false := by simp; omega
  have i4 : (x == 0) = false := by simp; omega
  have g1 : ¬ (128 : Int) ≤ (R : Int) + L := by omega
  have wp1 : IntKind.i64.wrap ((R : Int) + L) = (R : Int) + L := by rw [IntKind.wrap_i64]; omega
  clear h hDd hDD hDL hR hL hx
  obtain ⟨y, hy⟩ : ∃ y, key x = y := ⟨_, rfl⟩
  have HY : Hid (key x = y) := hy
  rw [hy] at hkb ⊢
  have HKB : Hid (0 ≤ y ∧ y < 256) := hkb
  clear hy hkb
  generalize hRR : (if y = 10 ∨ y = 4 ∨ R + L + 1 = 128 then rs ++ (ls ++ [y]) else rs) = RR
  generalize hLL : (if y = 10 ∨ y = 4 ∨ R + L + 1 = 128 then [] else ls ++ [y]) = LL
  generalize hEE : (if y = 4 then [] else [y]) = EE
  generalize hBB : decide (y = 10 ∨ y = 4 ∨ R + L + 1 = 128) = BB
  have HRR : Hid ((if y = 10 ∨ y = 4 ∨ R + L + 1 = 128 then rs ++ (ls ++ [y]) else rs) = RR) := hRR
  have HLL : Hid ((if y = 10 ∨ y = 4 ∨ R + L + 1 = 128 then [] else ls ++ [y]) = LL) := hLL
  have HEE : Hid ((if y = 4 then [] else [y]) = EE) := hEE
  have HBB : Hid (decide (y = 10 ∨ y = 4 ∨ R + L + 1 = 128) = BB) := hBB
  clear hRR hLL hEE hBB
  go_enter Tryd.func28, Tryd.ntmps28
  go_wp2_with fail
  refine c1.mono ?_
  rintro e w1 ⟨rfl, hw⟩
  obtain rfl : w = w1 := hw.symm
  clear c1
  go_upto_region 16 with fail
  go_region
  go_upto_if 63 with fail
  clear i1 i2 i3 i4
  go_cut [1] (fun s1 wc => s1 = .int .u8 y ∧ wc = w.drew)
  case first =>
    by_cases h13 : x = 13
    · have e : y = 10 := by rw [← HY.out]; simp [key, h13]
      subst h13
      subst e
      go_wp2
      go_meet
      case rel => exact ⟨rfl, rfl⟩
    · have e : y = x := by rw [← HY.out]; simp [key, h13]
      subst e
      have i5 : (y == 13) = false := by simpa using h13
      clear h13
      go_wp2
      go_meet
      case rel => exact ⟨rfl, rfl⟩
  case rest =>
    obtain ⟨rfl, hwc⟩ := hcut
    obtain ⟨W, hW⟩ : ∃ W, W = w.drew := ⟨_, rfl⟩
    rw [← hW] at hwc
    obtain rfl : W = wc := hwc.symm
    have HPW : Hid (Dcn W d (.slice pD R cD) (.slice pL L cL) rs ls ∧ W.heap.size = w.heap.size ∧ Chg D w W) := by rw [hW]; exact ⟨HP.out.1.drewN 1, rfl, ⟨rfl, rfl, rfl, Nat.le_refl _, fun _ _ _ => rfl⟩⟩
    clear hW a0 a1 g1 wp1
    have a0 := HPW.out.1.c0
    have a1 := HPW.out.1.c1
    have f1 := HPW.out.1.fz 1
    have RW : Hid ((W.alloc (.cells #[.int .u8 y] 5)).ownsRow 0 5 1 (.slice pL L cL) L (by8 ls)) := by
      have := HPW.out.1.rL.alloc (.cells #[.int .u8 y] 5)
      rw [← HRL.out.2] at this
      exact this
    have BN : Hid (Byt (W.alloc (.cells #[.int .u8 y] 5)) (some ⟨W.heap.size, 0, .none⟩) 1 1 [y]) := byt_own (own_one W y)
    have BL : Hid (Below W.heap.size W (W.alloc (.cells #[.int .u8 y] 5))) := Trn.new W _
    go_wp2_with (first | (at_builtin; refine wpList_app rfl _ _ rfl 0 (.slice pL L cL) L ls rfl (some ⟨W.heap.size, 0, .none⟩) 1 1 [y] rfl RW.out BN.out ?c4 (Nat.zero_le _) ?_) | go_in)
    case c4 => omega
    intro v' W4 own4 grow4 sof4
    obtain ⟨p4, c4, rfl⟩ := one_slice own4
    have cg : Chg (fun k => (Value.slice pL L cL).ownBlock = some k) W W4 := (Chg.ofBelow BL.out).trans (Chg.ofGrown grow4) (fun _ _ h => h)
    have HL1 : Hid ((ls ++ [y]).length = L + 1) := by show _ = _; rw [List.length_append, HRL.out.2]; rfl
    have t1 : W4.cell? ⟨d, 1, .none⟩ = some (.slice pL L cL) := (cg.cell (p := ⟨d, 1, .none⟩) HPW.out.1.lt (fun e => HPW.out.1.aL d e rfl)).trans HPW.out.1.c1
    have tf : W4.frozen? ⟨d, 1, .none⟩ = false := (cg.frozen (p := ⟨d, 1, .none⟩) HPW.out.1.lt (fun e => HPW.out.1.aL d e rfl)).trans (HPW.out.1.fz 1)
    have H5 : Hid (Dcn (W4.setCell ⟨d, 1, .none⟩ (.slice p4 (L + 1) c4)) d (.slice pD R cD) (.slice p4 (L + 1) c4) rs (ls ++ [y]) ∧ (W4.setCell ⟨d, 1, .none⟩ (.slice p4 (L + 1) c4)).heap.size = W4.heap.size ∧ w.heap.size ≤ W4.heap.size ∧ Chg D w (W4.setCell ⟨d, 1, .none⟩ (.slice p4 (L + 1) c4)) ∧ (∀ k, (Value.slice p4 (L + 1) c4).ownBlock = some k → D k ∧ k < w.heap.size ∨ w.heap.size ≤ k ∧ k < W4.heap.size)) := by
      have hb := HPW.out.1
      have hp := HP.out
      have hz := HPW.out.2.1
      have t0 : W4.cell? ⟨d, 0, .none⟩ = some (.slice pD R cD) := (cg.cell (p := ⟨d, 0, .none⟩) hb.lt (fun e => (hb.aL d e) rfl)).trans hb.c0
      have t2 : W4.cell? ⟨d, 2, .none⟩ = some (.bool true) := (cg.cell (p := ⟨d, 2, .none⟩) hb.lt (fun e => (hb.aL d e) rfl)).trans hb.c2
      have tf : ∀ i, W4.frozen? ⟨d, i, .none⟩ = false := fun i => (cg.frozen (p := ⟨d, i, .none⟩) hb.lt (fun e => (hb.aL d e) rfl)).trans (hb.fz i)
      have rD : W4.ownsRow 0 5 1 (.slice pD R cD) rs.length (by8 rs) := cg.own hb.rD (fun k hk e => (hb.aD k hk).2 e)
      have v4 : ∀ k, (Value.slice p4 (L + 1) c4).ownBlock = some k → k ≠ d ∧ (Value.slice pD R cD).ownBlock ≠ some k := fun k hk => by
        rcases sof4 k hk with h1 | h1
        · exact ⟨hb.aL k h1, fun e => (hb.aD k e).2 h1⟩
        · have := BL.out.size
          have hlt := hb.lt
          refine ⟨by omega, fun e => ?_⟩
          have := own_ltC hb.rD k e
          omega
      have hb4 : Dcn W4 d (.slice pD R cD) (.slice p4 (L + 1) c4) rs (ls ++ [y]) → True := fun _ => trivial
      have f4 : ∀ i, (W4.setCell ⟨d, 1, .none⟩ (.slice p4 (L + 1) c4)).frozen? ⟨d, i, .none⟩ = false := fun i => (World.frozen?_setCells d [.slice p4 (L + 1) c4] 1 W4 ⟨d, i, .none⟩).trans (tf i)
      refine ⟨⟨cell_off t0 _ _ (by decide), cell_one t1 _, cell_off t2 _ _ (by decide), f4, own_setd rD (fun k hk => (hb.aD k hk).1) _, ?_, fun k hk => ⟨(hb.aD k hk).1, fun e => (v4 k e).2 hk⟩, fun k hk => (v4 k hk).1, ?_, ?_⟩, size_setCells d [.slice p4 (L + 1) c4] 1 W4, ?_, ?_, fun k hk => ?_⟩
      · rw [HL1.out]
        exact own_setd own4 (fun k hk => (v4 k hk).1) _
      · rw [HL1.out, ← HRL.out.1]
        omega
      · intro z hz
        rcases List.mem_append.1 hz with hz | hz
        · exact hp.1.by_ z (List.mem_append.2 (.inl hz))
        · rcases List.mem_append.1 hz with hz | hz
          · exact hp.1.by_ z (List.mem_append.2 (.inr hz))
          · rw [List.mem_singleton] at hz
            rw [hz]
            exact HKB.out
      · have := cg.size
        omega
      · exact (HPW.out.2.2.trans (cg.mono (S2 := D) (fun k _ e => hp.2.2.2 k e)) (fun _ _ e => e)).trans (chg_set d 1 _ W4) (fun k _ e => by have e : k = d := e; rw [e]; exact hp.2.1)
      · rcases sof4 k hk with h1 | h1
        · left
          exact ⟨hp.2.2.2 k h1, own_ltC hp.1.rL k h1⟩
        · right
          have := BL.out.size
          exact ⟨by omega, own_ltC own4 k hk⟩
    clear own4 grow4 sof4 cg RW BN BL a0 a1 f1
    go_upto_region 21 with fail
    clear t1 tf HPW
    generalize hW5 : W4.setCell ⟨d, 1, .none⟩ (.slice p4 (L + 1) c4) = W5 at *
    clear hW5
    obtain ⟨s4, hs4⟩ : ∃ s, s = W4.heap.size := ⟨_, rfl⟩
    rw [← hs4] at H5
    clear hs4
    go_upto_if 77 with fail
    have hb6 := Trn.new W5 (.cells #[.int .u8 y] 5)
    have ho6 := own_one W5 y
    generalize W5.alloc (.cells #[.int .u8 y] 5) = W6 at *
    have H6 : Hid (Dcn W6 d (.slice pD R cD) (.slice p4 (L + 1) c4) rs (ls ++ [y]) ∧ Chg D w W6 ∧ W6.ownsRow s4 5 1 (.slice (some ⟨W5.heap.size, 0, .none⟩) 1 1) 1 (by8 [y]) ∧ w.heap.size ≤ s4 ∧ s4 ≤ W6.heap.size ∧ (∀ k, (Value.slice p4 (L + 1) c4).ownBlock = some k → D k ∧ k < w.heap.size ∨ w.heap.size ≤ k ∧ k < s4)) := by
      have h := H5.out
      rw [h.2.1] at ho6 ⊢
      exact ⟨h.1.below hb6, h.2.2.2.1.trans (S2 := fun _ => False) (Chg.ofBelow hb6) (fun _ _ e => e.elim), ho6, h.2.2.1, by have := hb6.size; omega, h.2.2.2.2⟩
    clear hb6 ho6 H5
    go_cut [7] (fun s7 wc => ∃ pe ce, s7 = .slice pe EE.length ce ∧ wc = W6 ∧ Hid (W6.ownsRow s4 5 1 (.slice pe EE.length ce) EE.length (by8 EE)))
    case first =>
      by_cases h4 : y = 4
      · subst h4
        have e : EE = [] := by rw [← HEE.out]; rfl
        subst e
        go_wp2
        go_meet
        case rel => exact ⟨none, 0, rfl, rfl, World.ownsRow_nil _ _ _ _⟩
      · have e : EE = [y] := by rw [← HEE.out, if_neg h4]
        subst e
        have n4 : (y == 4) = false := by simpa using h4
        clear h4
        go_wp2
        go_meet
        case rel => exact ⟨_, _, rfl, rfl, H6.out.2.2.1⟩
    case rest =>
      obtain ⟨pe, ce, rfl, hwc, HROW⟩ := hcut
      obtain rfl : W6 = wc := hwc.symm
      have a0 := H6.out.1.c0
      have a1 := H6.out.1.c1
      go_upto_region 24 with fail
      have wp1 : IntKind.i64.wrap ((R : Int) + ((L : Int) + 1)) = (R : Int) + ((L : Int) + 1) := by rw [IntKind.wrap_i64]; omega
      go_cut [97] (fun s97 wc => s97 = .bool (!BB) ∧ wc = W6.drew)
      case first =>
        by_cases h10 : y = 10
        · subst h10
          have e : BB = true := by rw [← HBB.out]; simp
          subst e
          have kS : W6.drew.cell? ⟨d, 0, .none⟩ = some (.slice pD R cD) ∧ W6.drew.cell? ⟨d, 1, .none⟩ = some (.slice p4 (L + 1) c4) := ⟨a0, a1⟩
          clear a0 a1
          refine wp_region_held_drew (S := fun U => U.cell? ⟨d, 0, .none⟩ = some (.slice pD R cD) ∧ U.cell? ⟨d, 1, .none⟩ = some (.slice p4 (L + 1) c4)) (by kernel_rfl) kS (fun hHeld => ?_)
          refine wpAnyH_take (i := 0) (v := (.int .u8 10)) rfl (by kernel_rfl) (by kernel_rfl) (by kernel_rfl) (fun _ _ _ h => h) (Or.inl ⟨by rfl, fun ww hSw => by (try dsimp only at hSw); go_simp⟩) (by assumption) ?_
          simp only [Act.put, List.setIfInBounds_toArray, List.set_cons_zero, List.set_cons_succ, List.getElem_toArray, List.getElem_cons_succ, List.getElem_cons_zero]
          refine wpAnyH_take (i := 1) (v := (.bool false)) rfl (by kernel_rfl) (by kernel_rfl) (by kernel_rfl) (fun _ _ _ h => h) (Or.inl ⟨by rfl, fun ww hSw => by (try dsimp only at hSw); go_simp⟩) (by assumption) ?_
          simp only [Act.put, List.setIfInBounds_toArray, List.set_cons_zero, List.set_cons_succ, List.getElem_toArray, List.getElem_cons_succ, List.getElem_cons_zero]
          refine wpAnyH_take (i := 2) (v := (.bool false)) rfl (by kernel_rfl) (by kernel_rfl) (by kernel_rfl) (fun _ _ _ h => h) (Or.inl ⟨by rfl, fun ww hSw => by (try dsimp only at hSw); go_simp⟩) (by assumption) ?_
          simp only [Act.put, List.setIfInBounds_toArray, List.set_cons_zero, List.set_cons_succ, List.getElem_toArray, List.getElem_cons_succ, List.getElem_cons_zero]
          refine wpAnyH_take (i := 3) (v := undef) rfl (by kernel_rfl) (by kernel_rfl) (by kernel_rfl) (fun _ _ _ h => h) (Or.inr ⟨by rfl, rfl⟩) (by assumption) ?_
          simp only [Act.put, List.setIfInBounds_toArray, List.set_cons_zero, List.set_cons_succ, List.getElem_toArray, List.getElem_cons_succ, List.getElem_cons_zero]
          refine wpAnyH_take (i := 4) (v := undef) rfl (by kernel_rfl) (by kernel_rfl) (by kernel_rfl) (fun _ _ _ h => h) (Or.inr ⟨by rfl, rfl⟩) (by assumption) ?_
          simp only [Act.put, List.setIfInBounds_toArray, List.set_cons_zero, List.set_cons_succ, List.getElem_toArray, List.getElem_cons_succ, List.getElem_cons_zero]
          refine wpAnyH_take (i := 5) (v := (.bool false)) rfl (by kernel_rfl) (by kernel_rfl) (by kernel_rfl) (fun _ _ _ h => h) (Or.inl ⟨by rfl, fun ww hSw => by (try dsimp only at hSw); go_simp⟩) (by assumption) ?_
          simp only [Act.put, List.setIfInBounds_toArray, List.set_cons_zero, List.set_cons_succ, List.getElem_toArray, List.getElem_cons_succ, List.getElem_cons_zero]
          refine wpAnyH_take (i := 6) (v := (.bool false)) rfl (by kernel_rfl) (by kernel_rfl) (by kernel_rfl) (fun _ _ _ h => h) (Or.inl ⟨by rfl, fun ww hSw => by (try dsimp only at hSw); go_simp⟩) (by assumption) ?_
          simp only [Act.put, List.setIfInBounds_toArray, List.set_cons_zero, List.set_cons_succ, List.getElem_toArray, List.getElem_cons_succ, List.getElem_cons_zero]
          refine wpAnyH_take (i := 7) (v := undef) rfl (by kernel_rfl) (by kernel_rfl) (by kernel_rfl) (fun _ _ _ h => h) (Or.inr ⟨by rfl, rfl⟩) (by assumption) ?_
          simp only [Act.put, List.setIfInBounds_toArray, List.set_cons_zero, List.set_cons_succ, List.getElem_toArray, List.getElem_cons_succ, List.getElem_cons_zero]
          refine wpAnyH_take (i := 8) (v := undef) rfl (by kernel_rfl) (by kernel_rfl) (by kernel_rfl) (fun _ _ _ h => h) (Or.inr ⟨by rfl, rfl⟩) (by assumption) ?_
          simp only [Act.put, List.setIfInBounds_toArray, List.set_cons_zero, List.set_cons_succ, List.getElem_toArray, List.getElem_cons_succ, List.getElem_cons_zero]
          refine wpAnyH_take (i := 9) (v := undef) rfl (by kernel_rfl) (by kernel_rfl) (by kernel_rfl) (fun _ _ _ h => h) (Or.inr ⟨by rfl, rfl⟩) (by assumption) ?_
          simp only [Act.put, List.setIfInBounds_toArray, List.set_cons_zero, List.set_cons_succ, List.getElem_toArray, List.getElem_cons_succ, List.getElem_cons_zero]
          refine wpAnyH_take (i := 10) (v := undef) rfl (by kernel_rfl) (by kernel_rfl) (by kernel_rfl) (fun _ _ _ h => h) (Or.inr ⟨by rfl, rfl⟩) (by assumption) ?_
          simp only [Act.put, List.setIfInBounds_toArray, List.set_cons_zero, List.set_cons_succ, List.getElem_toArray, List.getElem_cons_succ, List.getElem_cons_zero]
          refine wpAnyH_take (i := 11) (v := undef) rfl (by kernel_rfl) (by kernel_rfl) (by kernel_rfl) (fun _ _ _ h => h) (Or.inr ⟨by rfl, rfl⟩) (by assumption) ?_
          simp only [Act.put, List.setIfInBounds_toArray, List.set_cons_zero, List.set_cons_succ, List.getElem_toArray, List.getElem_cons_succ, List.getElem_cons_zero]
          refine wpAnyH_take (i := 12) (v := undef) rfl (by kernel_rfl) (by kernel_rfl) (by kernel_rfl) (fun _ _ _ h => h) (Or.inr ⟨by rfl, rfl⟩) (by assumption) ?_
          simp only [Act.put, List.setIfInBounds_toArray, List.set_cons_zero, List.set_cons_succ, List.getElem_toArray, List.getElem_cons_succ, List.getElem_cons_zero]
          refine wpAnyH_take (i := 13) (v := undef) rfl (by kernel_rfl) (by kernel_rfl) (by kernel_rfl) (fun _ _ _ h => h) (Or.inr ⟨by rfl, rfl⟩) (by assumption) ?_
          simp only [Act.put, List.setIfInBounds_toArray, List.set_cons_zero, List.set_cons_succ, List.getElem_toArray, List.getElem_cons_succ, List.getElem_cons_zero]
          refine wpAnyH_take (i := 14) (v := undef) rfl (by kernel_rfl) (by kernel_rfl) (by kernel_rfl) (fun _ _ _ h => h) (Or.inr ⟨by rfl, rfl⟩) (by assumption) ?_
          simp only [Act.put, List.setIfInBounds_toArray, List.set_cons_zero, List.set_cons_succ, List.getElem_toArray, List.getElem_cons_succ, List.getElem_cons_zero]
          refine wpAnyH_take (i := 15) (v := undef) rfl (by kernel_rfl) (by kernel_rfl) (by kernel_rfl) (fun _ _ _ h => h) (Or.inr ⟨by rfl, rfl⟩) (by assumption) ?_
          simp only [Act.put, List.setIfInBounds_toArray, List.set_cons_zero, List.set_cons_succ, List.getElem_toArray, List.getElem_cons_succ, List.getElem_cons_zero]
          refine wpAnyH_take (i := 16) (v := undef) rfl (by kernel_rfl) (by kernel_rfl) (by kernel_rfl) (fun _ _ _ h => h) (Or.inr ⟨by rfl, rfl⟩) (by assumption) ?_
          simp only [Act.put, List.setIfInBounds_toArray, List.set_cons_zero, List.set_cons_succ, List.getElem_toArray, List.getElem_cons_succ, List.getElem_cons_zero]
          refine wpAnyH_take (i := 17) (v := undef) rfl (by kernel_rfl) (by kernel_rfl) (by kernel_rfl) (fun _ _ _ h => h) (Or.inr ⟨by rfl, rfl⟩) (by assumption) ?_
          simp only [Act.put, List.setIfInBounds_toArray, List.set_cons_zero, List.set_cons_succ, List.getElem_toArray, List.getElem_cons_succ, List.getElem_cons_zero]
          refine wpAnyH_take (i := 18) (v := undef) rfl (by kernel_rfl) (by kernel_rfl) (by kernel_rfl) (fun _ _ _ h => h) (Or.inr ⟨by rfl, rfl⟩) (by assumption) ?_
          simp only [Act.put, List.setIfInBounds_toArray, List.set_cons_zero, List.set_cons_succ, List.getElem_toArray, List.getElem_cons_succ, List.getElem_cons_zero]
          refine wpAnyH_take (i := 19) (v := (.bool false)) rfl (by kernel_rfl) (by kernel_rfl) (by kernel_rfl) (fun _ _ _ h => h) (Or.inl ⟨by rfl, fun ww hSw => by (try dsimp only at hSw); go_simp⟩) (by assumption) ?_
          simp only [Act.put, List.setIfInBounds_toArray, List.set_cons_zero, List.set_cons_succ, List.getElem_toArray, List.getElem_cons_succ, List.getElem_cons_zero]
          refine wpAnyH_done (by kernel_rfl) ?_ _
          go_wp2
          go_meet
          case rel => exact ⟨rfl, rfl⟩
        have n10 : (y == 10) = false := by simpa using h10
        have m10 : (y != 10) = true := by simpa using h10
        by_cases h4 : y = 4
        · subst h4
          have e : BB = true := by rw [← HBB.out]; simp
          subst e
          clear n10 m10 h10
          have kS : W6.drew.cell? ⟨d, 0, .none⟩ = some (.slice pD R cD) ∧ W6.drew.cell? ⟨d, 1, .none⟩ = some (.slice p4 (L + 1) c4) := ⟨a0, a1⟩
          clear a0 a1
          refine wp_region_held_drew (S := fun U => U.cell? ⟨d, 0, .none⟩ = some (.slice pD R cD) ∧ U.cell? ⟨d, 1, .none⟩ = some (.slice p4 (L + 1) c4)) (by kernel_rfl) kS (fun hHeld => ?_)
          refine wpAnyH_take (i := 0) (v := (.int .u8 4)) rfl (by kernel_rfl) (by kernel_rfl) (by kernel_rfl) (fun _ _ _ h => h) (Or.inl ⟨by rfl, fun ww hSw => by (try dsimp only at hSw); go_simp⟩) (by assumption) ?_
          simp only [Act.put, List.setIfInBounds_toArray, List.set_cons_zero, List.set_cons_succ, List.getElem_toArray, List.getElem_cons_succ, List.getElem_cons_zero]
          refine wpAnyH_take (i := 1) (v := (.bool true)) rfl (by kernel_rfl) (by kernel_rfl) (by kernel_rfl) (fun _ _ _ h => h) (Or.inl ⟨by rfl, fun ww hSw => by (try dsimp only at hSw); go_simp⟩) (by assumption) ?_
          simp only [Act.put, List.setIfInBounds_toArray, List.set_cons_zero, List.set_cons_succ, List.getElem_toArray, List.getElem_cons_succ, List.getElem_cons_zero]
          refine wpAnyH_take (i := 2) (v := (.bool true)) rfl (by kernel_rfl) (by kernel_rfl) (by kernel_rfl) (fun _ _ _ h => h) (Or.inl ⟨by rfl, fun ww hSw => by (try dsimp only at hSw); go_simp⟩) (by assumption) ?_
          simp only [Act.put, List.setIfInBounds_toArray, List.set_cons_zero, List.set_cons_succ, List.getElem_toArray, List.getElem_cons_succ, List.getElem_cons_zero]
          refine wpAnyH_take (i := 3) (v := (.int .u8 4)) rfl (by kernel_rfl) (by kernel_rfl) (by kernel_rfl) (fun _ _ _ h => h) (Or.inl ⟨by rfl, fun ww hSw => by (try dsimp only at hSw); go_simp⟩) (by assumption) ?_
          simp only [Act.put, List.setIfInBounds_toArray, List.set_cons_zero, List.set_cons_succ, List.getElem_toArray, List.getElem_cons_succ, List.getElem_cons_zero]
          refine wpAnyH_take (i := 4) (v := (.bool false)) rfl (by kernel_rfl) (by kernel_rfl) (by kernel_rfl) (fun _ _ _ h => h) (Or.inl ⟨by rfl, fun ww hSw => by (try dsimp only at hSw); go_simp⟩) (by assumption) ?_
          simp only [Act.put, List.setIfInBounds_toArray, List.set_cons_zero, List.set_cons_succ, List.getElem_toArray, List.getElem_cons_succ, List.getElem_cons_zero]
          refine wpAnyH_take (i := 5) (v := (.bool false)) rfl (by kernel_rfl) (by kernel_rfl) (by kernel_rfl) (fun _ _ _ h => h) (Or.inl ⟨by rfl, fun ww hSw => by (try dsimp only at hSw); go_simp⟩) (by assumption) ?_
          simp only [Act.put, List.setIfInBounds_toArray, List.set_cons_zero, List.set_cons_succ, List.getElem_toArray, List.getElem_cons_succ, List.getElem_cons_zero]
          refine wpAnyH_take (i := 6) (v := (.bool false)) rfl (by kernel_rfl) (by kernel_rfl) (by kernel_rfl) (fun _ _ _ h => h) (Or.inl ⟨by rfl, fun ww hSw => by (try dsimp only at hSw); go_simp⟩) (by assumption) ?_
          simp only [Act.put, List.setIfInBounds_toArray, List.set_cons_zero, List.set_cons_succ, List.getElem_toArray, List.getElem_cons_succ, List.getElem_cons_zero]
          refine wpAnyH_take (i := 7) (v := undef) rfl (by kernel_rfl) (by kernel_rfl) (by kernel_rfl) (fun _ _ _ h => h) (Or.inr ⟨by rfl, rfl⟩) (by assumption) ?_
          simp only [Act.put, List.setIfInBounds_toArray, List.set_cons_zero, List.set_cons_succ, List.getElem_toArray, List.getElem_cons_succ, List.getElem_cons_zero]
          refine wpAnyH_take (i := 8) (v := undef) rfl (by kernel_rfl) (by kernel_rfl) (by kernel_rfl) (fun _ _ _ h => h) (Or.inr ⟨by rfl, rfl⟩) (by assumption) ?_
          simp only [Act.put, List.setIfInBounds_toArray, List.set_cons_zero, List.set_cons_succ, List.getElem_toArray, List.getElem_cons_succ, List.getElem_cons_zero]
          refine wpAnyH_take (i := 9) (v := undef) rfl (by kernel_rfl) (by kernel_rfl) (by kernel_rfl) (fun _ _ _ h => h) (Or.inr ⟨by rfl, rfl⟩) (by assumption) ?_
          simp only [Act.put, List.setIfInBounds_toArray, List.set_cons_zero, List.set_cons_succ, List.getElem_toArray, List.getElem_cons_succ, List.getElem_cons_zero]
          refine wpAnyH_take (i := 10) (v := undef) rfl (by kernel_rfl) (by kernel_rfl) (by kernel_rfl) (fun _ _ _ h => h) (Or.inr ⟨by rfl, rfl⟩) (by assumption) ?_
          simp only [Act.put, List.setIfInBounds_toArray, List.set_cons_zero, List.set_cons_succ, List.getElem_toArray, List.getElem_cons_succ, List.getElem_cons_zero]
          refine wpAnyH_take (i := 11) (v := undef) rfl (by kernel_rfl) (by kernel_rfl) (by kernel_rfl) (fun _ _ _ h => h) (Or.inr ⟨by rfl, rfl⟩) (by assumption) ?_
          simp only [Act.put, List.setIfInBounds_toArray, List.set_cons_zero, List.set_cons_succ, List.getElem_toArray, List.getElem_cons_succ, List.getElem_cons_zero]
          refine wpAnyH_take (i := 12) (v := undef) rfl (by kernel_rfl) (by kernel_rfl) (by kernel_rfl) (fun _ _ _ h => h) (Or.inr ⟨by rfl, rfl⟩) (by assumption) ?_
          simp only [Act.put, List.setIfInBounds_toArray, List.set_cons_zero, List.set_cons_succ, List.getElem_toArray, List.getElem_cons_succ, List.getElem_cons_zero]
          refine wpAnyH_take (i := 13) (v := undef) rfl (by kernel_rfl) (by kernel_rfl) (by kernel_rfl) (fun _ _ _ h => h) (Or.inr ⟨by rfl, rfl⟩) (by assumption) ?_
          simp only [Act.put, List.setIfInBounds_toArray, List.set_cons_zero, List.set_cons_succ, List.getElem_toArray, List.getElem_cons_succ, List.getElem_cons_zero]
          refine wpAnyH_take (i := 14) (v := undef) rfl (by kernel_rfl) (by kernel_rfl) (by kernel_rfl) (fun _ _ _ h => h) (Or.inr ⟨by rfl, rfl⟩) (by assumption) ?_
          simp only [Act.put, List.setIfInBounds_toArray, List.set_cons_zero, List.set_cons_succ, List.getElem_toArray, List.getElem_cons_succ, List.getElem_cons_zero]
          refine wpAnyH_take (i := 15) (v := undef) rfl (by kernel_rfl) (by kernel_rfl) (by kernel_rfl) (fun _ _ _ h => h) (Or.inr ⟨by rfl, rfl⟩) (by assumption) ?_
          simp only [Act.put, List.setIfInBounds_toArray, List.set_cons_zero, List.set_cons_succ, List.getElem_toArray, List.getElem_cons_succ, List.getElem_cons_zero]
          refine wpAnyH_take (i := 16) (v := undef) rfl (by kernel_rfl) (by kernel_rfl) (by kernel_rfl) (fun _ _ _ h => h) (Or.inr ⟨by rfl, rfl⟩) (by assumption) ?_
          simp only [Act.put, List.setIfInBounds_toArray, List.set_cons_zero, List.set_cons_succ, List.getElem_toArray, List.getElem_cons_succ, List.getElem_cons_zero]
          refine wpAnyH_take (i := 17) (v := undef) rfl (by kernel_rfl) (by kernel_rfl) (by kernel_rfl) (fun _ _ _ h => h) (Or.inr ⟨by rfl, rfl⟩) (by assumption) ?_
          simp only [Act.put, List.setIfInBounds_toArray, List.set_cons_zero, List.set_cons_succ, List.getElem_toArray, List.getElem_cons_succ, List.getElem_cons_zero]
          refine wpAnyH_take (i := 18) (v := undef) rfl (by kernel_rfl) (by kernel_rfl) (by kernel_rfl) (fun _ _ _ h => h) (Or.inr ⟨by rfl, rfl⟩) (by assumption) ?_
          simp only [Act.put, List.setIfInBounds_toArray, List.set_cons_zero, List.set_cons_succ, List.getElem_toArray, List.getElem_cons_succ, List.getElem_cons_zero]
          refine wpAnyH_take (i := 19) (v := (.bool false)) rfl (by kernel_rfl) (by kernel_rfl) (by kernel_rfl) (fun _ _ _ h => h) (Or.inl ⟨by rfl, fun ww hSw => by (try dsimp only at hSw); go_simp⟩) (by assumption) ?_
          simp only [Act.put, List.setIfInBounds_toArray, List.set_cons_zero, List.set_cons_succ, List.getElem_toArray, List.getElem_cons_succ, List.getElem_cons_zero]
          refine wpAnyH_done (by kernel_rfl) ?_ _
          go_wp2
          go_meet
          case rel => exact ⟨rfl, rfl⟩
        have n4 : (y == 4) = false := by simpa using h4
        have m4 : (y != 4) = true := by simpa using h4
        by_cases h8 : R + L + 1 = 128
        · have e : BB = true := by rw [← HBB.out]; simp [h8]
          subst e
          have g1 : ¬ ((R : Int) + ((L : Int) + 1) < 128) := by omega
          clear h8
          have kS : W6.drew.cell? ⟨d, 0, .none⟩ = some (.slice pD R cD) ∧ W6.drew.cell? ⟨d, 1, .none⟩ = some (.slice p4 (L + 1) c4) := ⟨a0, a1⟩
          clear a0 a1
          refine wp_region_held_drew (S := fun U => U.cell? ⟨d, 0, .none⟩ = some (.slice pD R cD) ∧ U.cell? ⟨d, 1, .none⟩ = some (.slice p4 (L + 1) c4)) (by kernel_rfl) kS (fun hHeld => ?_)
          refine wpAnyH_take (i := 0) (v := (.int .u8 y)) rfl (by kernel_rfl) (by kernel_rfl) (by kernel_rfl) (fun _ _ _ h => h) (Or.inl ⟨by rfl, fun ww hSw => by (try dsimp only at hSw); go_simp⟩) (by assumption) ?_
          simp only [Act.put, List.setIfInBounds_toArray, List.set_cons_zero, List.set_cons_succ, List.getElem_toArray, List.getElem_cons_succ, List.getElem_cons_zero]
          refine wpAnyH_take (i := 1) (v := (.bool true)) rfl (by kernel_rfl) (by kernel_rfl) (by kernel_rfl) (fun _ _ _ h => h) (Or.inl ⟨by rfl, fun ww hSw => by (try dsimp only at hSw); go_simp⟩) (by assumption) ?_
          simp only [Act.put, List.setIfInBounds_toArray, List.set_cons_zero, List.set_cons_succ, List.getElem_toArray, List.getElem_cons_succ, List.getElem_cons_zero]
          refine wpAnyH_take (i := 2) (v := (.bool true)) rfl (by kernel_rfl) (by kernel_rfl) (by kernel_rfl) (fun _ _ _ h => h) (Or.inl ⟨by rfl, fun ww hSw => by (try dsimp only at hSw); go_simp⟩) (by assumption) ?_
          simp only [Act.put, List.setIfInBounds_toArray, List.set_cons_zero, List.set_cons_succ, List.getElem_toArray, List.getElem_cons_succ, List.getElem_cons_zero]
          refine wpAnyH_take (i := 3) (v := (.int .u8 y)) rfl (by kernel_rfl) (by kernel_rfl) (by kernel_rfl) (fun _ _ _ h => h) (Or.inl ⟨by rfl, fun ww hSw => by (try dsimp only at hSw); go_simp⟩) (by assumption) ?_
          simp only [Act.put, List.setIfInBounds_toArray, List.set_cons_zero, List.set_cons_succ, List.getElem_toArray, List.getElem_cons_succ, List.getElem_cons_zero]
          refine wpAnyH_take (i := 4) (v := (.bool true)) rfl (by kernel_rfl) (by kernel_rfl) (by kernel_rfl) (fun _ _ _ h => h) (Or.inl ⟨by rfl, fun ww hSw => by (try dsimp only at hSw); go_simp⟩) (by assumption) ?_
          simp only [Act.put, List.setIfInBounds_toArray, List.set_cons_zero, List.set_cons_succ, List.getElem_toArray, List.getElem_cons_succ, List.getElem_cons_zero]
          refine wpAnyH_take (i := 5) (v := (.bool true)) rfl (by kernel_rfl) (by kernel_rfl) (by kernel_rfl) (fun _ _ _ h => h) (Or.inl ⟨by rfl, fun ww hSw => by (try dsimp only at hSw); go_simp⟩) (by assumption) ?_
          simp only [Act.put, List.setIfInBounds_toArray, List.set_cons_zero, List.set_cons_succ, List.getElem_toArray, List.getElem_cons_succ, List.getElem_cons_zero]
          refine wpAnyH_take (i := 6) (v := (.bool true)) rfl (by kernel_rfl) (by kernel_rfl) (by kernel_rfl) (fun _ _ _ h => h) (Or.inl ⟨by rfl, fun ww hSw => by (try dsimp only at hSw); go_simp⟩) (by assumption) ?_
          simp only [Act.put, List.setIfInBounds_toArray, List.set_cons_zero, List.set_cons_succ, List.getElem_toArray, List.getElem_cons_succ, List.getElem_cons_zero]
          refine wpAnyH_take (i := 7) (v := (.pointer (some ⟨d, 0, .none⟩))) rfl (by kernel_rfl) (by kernel_rfl) (by kernel_rfl) (fun _ _ _ h => h) (Or.inl ⟨by rfl, fun ww hSw => by (try dsimp only at hSw); go_simp⟩) (by assumption) ?_
          simp only [Act.put, List.setIfInBounds_toArray, List.set_cons_zero, List.set_cons_succ, List.getElem_toArray, List.getElem_cons_succ, List.getElem_cons_zero]
          refine wpAnyH_take (i := 8) (v := (.pointer (some ⟨d, 0, .none⟩))) rfl (by kernel_rfl) (by kernel_rfl) (by kernel_rfl) (fun _ _ _ h => h) (Or.inl ⟨by rfl, fun ww hSw => by (try dsimp only at hSw); go_simp⟩) (by assumption) ?_
          simp only [Act.put, List.setIfInBounds_toArray, List.set_cons_zero, List.set_cons_succ, List.getElem_toArray, List.getElem_cons_succ, List.getElem_cons_zero]
          refine wpAnyH_take (i := 9) (v := (.pointer (some ⟨d, 0, .none⟩))) rfl (by kernel_rfl) (by kernel_rfl) (by kernel_rfl) (fun _ _ _ h => h) (Or.inl ⟨by rfl, fun ww hSw => by (try dsimp only at hSw); go_simp⟩) (by assumption) ?_
          simp only [Act.put, List.setIfInBounds_toArray, List.set_cons_zero, List.set_cons_succ, List.getElem_toArray, List.getElem_cons_succ, List.getElem_cons_zero]
          refine wpAnyH_take (i := 10) (v := (.slice pD R cD)) rfl (by kernel_rfl) (by kernel_rfl) (by kernel_rfl) (fun _ _ _ h => h) (Or.inl ⟨by rfl, fun ww hSw => by (try dsimp only at hSw); go_simp⟩) (by assumption) ?_
          simp only [Act.put, List.setIfInBounds_toArray, List.set_cons_zero, List.set_cons_succ, List.getElem_toArray, List.getElem_cons_succ, List.getElem_cons_zero]
          refine wpAnyH_take (i := 11) (v := (.int .i64 R)) rfl (by kernel_rfl) (by kernel_rfl) (by kernel_rfl) (fun _ _ _ h => h) (Or.inl ⟨by rfl, fun ww hSw => by (try dsimp only at hSw); go_simp⟩) (by assumption) ?_
          simp only [Act.put, List.setIfInBounds_toArray, List.set_cons_zero, List.set_cons_succ, List.getElem_toArray, List.getElem_cons_succ, List.getElem_cons_zero]
          refine wpAnyH_take (i := 12) (v := (.pointer (some ⟨d, 0, .none⟩))) rfl (by kernel_rfl) (by kernel_rfl) (by kernel_rfl) (fun _ _ _ h => h) (Or.inl ⟨by rfl, fun ww hSw => by (try dsimp only at hSw); go_simp⟩) (by assumption) ?_
          simp only [Act.put, List.setIfInBounds_toArray, List.set_cons_zero, List.set_cons_succ, List.getElem_toArray, List.getElem_cons_succ, List.getElem_cons_zero]
          refine wpAnyH_take (i := 13) (v := (.pointer (some ⟨d, 0, .none⟩))) rfl (by kernel_rfl) (by kernel_rfl) (by kernel_rfl) (fun _ _ _ h => h) (Or.inl ⟨by rfl, fun ww hSw => by (try dsimp only at hSw); go_simp⟩) (by assumption) ?_
          simp only [Act.put, List.setIfInBounds_toArray, List.set_cons_zero, List.set_cons_succ, List.getElem_toArray, List.getElem_cons_succ, List.getElem_cons_zero]
          refine wpAnyH_take (i := 14) (v := (.pointer (some ⟨d, 1, .none⟩))) rfl (by kernel_rfl) (by kernel_rfl) (by kernel_rfl) (fun _ _ _ h => h) (Or.inl ⟨by rfl, fun ww hSw => by (try dsimp only at hSw); go_simp⟩) (by assumption) ?_
          simp only [Act.put, List.setIfInBounds_toArray, List.set_cons_zero, List.set_cons_succ, List.getElem_toArray, List.getElem_cons_succ, List.getElem_cons_zero]
          refine wpAnyH_take (i := 15) (v := (.slice p4 (L + 1) c4)) rfl (by kernel_rfl) (by kernel_rfl) (by kernel_rfl) (fun _ _ _ h => h) (Or.inl ⟨by rfl, fun ww hSw => by (try dsimp only at hSw); go_simp⟩) (by assumption) ?_
          simp only [Act.put, List.setIfInBounds_toArray, List.set_cons_zero, List.set_cons_succ, List.getElem_toArray, List.getElem_cons_succ, List.getElem_cons_zero]
          refine wpAnyH_take (i := 16) (v := (.int .i64 ((L : Int) + 1))) rfl (by kernel_rfl) (by kernel_rfl) (by kernel_rfl) (fun _ _ _ h => h) (Or.inl ⟨by rfl, fun ww hSw => by (try dsimp only at hSw); go_simp⟩) (by assumption) ?_
          simp only [Act.put, List.setIfInBounds_toArray, List.set_cons_zero, List.set_cons_succ, List.getElem_toArray, List.getElem_cons_succ, List.getElem_cons_zero]
          refine wpAnyH_take (i := 17) (v := (.int .i64 ((R : Int) + ((L : Int) + 1)))) rfl (by kernel_rfl) (by kernel_rfl) (by kernel_rfl) (fun _ _ _ h => h) (Or.inl ⟨by rfl, fun ww hSw => by (try dsimp only at hSw); go_simp⟩) (by assumption) ?_
          simp only [Act.put, List.setIfInBounds_toArray, List.set_cons_zero, List.set_cons_succ, List.getElem_toArray, List.getElem_cons_succ, List.getElem_cons_zero]
          refine wpAnyH_take (i := 18) (v := (.bool false)) rfl (by kernel_rfl) (by kernel_rfl) (by kernel_rfl) (fun _ _ _ h => h) (Or.inl ⟨by rfl, fun ww hSw => by (try dsimp only at hSw); go_simp⟩) (by assumption) ?_
          simp only [Act.put, List.setIfInBounds_toArray, List.set_cons_zero, List.set_cons_succ, List.getElem_toArray, List.getElem_cons_succ, List.getElem_cons_zero]
          refine wpAnyH_take (i := 19) (v := (.bool false)) rfl (by kernel_rfl) (by kernel_rfl) (by kernel_rfl) (fun _ _ _ h => h) (Or.inl ⟨by rfl, fun ww hSw => by (try dsimp only at hSw); go_simp⟩) (by assumption) ?_
          simp only [Act.put, List.setIfInBounds_toArray, List.set_cons_zero, List.set_cons_succ, List.getElem_toArray, List.getElem_cons_succ, List.getElem_cons_zero]
          refine wpAnyH_done (by kernel_rfl) ?_ _
          go_wp2
          go_meet
          case rel => exact ⟨rfl, rfl⟩
        · have e : BB = false := by rw [← HBB.out]; simp [h8, h4, h10]
          subst e
          have g1 : (R : Int) + ((L : Int) + 1) < 128 := by omega
          clear h8
          have kS : W6.drew.cell? ⟨d, 0, .none⟩ = some (.slice pD R cD) ∧ W6.drew.cell? ⟨d, 1, .none⟩ = some (.slice p4 (L + 1) c4) := ⟨a0, a1⟩
          clear a0 a1
          refine wp_region_held_drew (S := fun U => U.cell? ⟨d, 0, .none⟩ = some (.slice pD R cD) ∧ U.cell? ⟨d, 1, .none⟩ = some (.slice p4 (L + 1) c4)) (by kernel_rfl) kS (fun hHeld => ?_)
          refine wpAnyH_take (i := 0) (v := (.int .u8 y)) rfl (by kernel_rfl) (by kernel_rfl) (by kernel_rfl) (fun _ _ _ h => h) (Or.inl ⟨by rfl, fun ww hSw => by (try dsimp only at hSw); go_simp⟩) (by assumption) ?_
          simp only [Act.put, List.setIfInBounds_toArray, List.set_cons_zero, List.set_cons_succ, List.getElem_toArray, List.getElem_cons_succ, List.getElem_cons_zero]
          refine wpAnyH_take (i := 1) (v := (.bool true)) rfl (by kernel_rfl) (by kernel_rfl) (by kernel_rfl) (fun _ _ _ h => h) (Or.inl ⟨by rfl, fun ww hSw => by (try dsimp only at hSw); go_simp⟩) (by assumption) ?_
          simp only [Act.put, List.setIfInBounds_toArray, List.set_cons_zero, List.set_cons_succ, List.getElem_toArray, List.getElem_cons_succ, List.getElem_cons_zero]
          refine wpAnyH_take (i := 2) (v := (.bool true)) rfl (by kernel_rfl) (by kernel_rfl) (by kernel_rfl) (fun _ _ _ h => h) (Or.inl ⟨by rfl, fun ww hSw => by (try dsimp only at hSw); go_simp⟩) (by assumption) ?_
          simp only [Act.put, List.setIfInBounds_toArray, List.set_cons_zero, List.set_cons_succ, List.getElem_toArray, List.getElem_cons_succ, List.getElem_cons_zero]
          refine wpAnyH_take (i := 3) (v := (.int .u8 y)) rfl (by kernel_rfl) (by kernel_rfl) (by kernel_rfl) (fun _ _ _ h => h) (Or.inl ⟨by rfl, fun ww hSw => by (try dsimp only at hSw); go_simp⟩) (by assumption) ?_
          simp only [Act.put, List.setIfInBounds_toArray, List.set_cons_zero, List.set_cons_succ, List.getElem_toArray, List.getElem_cons_succ, List.getElem_cons_zero]
          refine wpAnyH_take (i := 4) (v := (.bool true)) rfl (by kernel_rfl) (by kernel_rfl) (by kernel_rfl) (fun _ _ _ h => h) (Or.inl ⟨by rfl, fun ww hSw => by (try dsimp only at hSw); go_simp⟩) (by assumption) ?_
          simp only [Act.put, List.setIfInBounds_toArray, List.set_cons_zero, List.set_cons_succ, List.getElem_toArray, List.getElem_cons_succ, List.getElem_cons_zero]
          refine wpAnyH_take (i := 5) (v := (.bool true)) rfl (by kernel_rfl) (by kernel_rfl) (by kernel_rfl) (fun _ _ _ h => h) (Or.inl ⟨by rfl, fun ww hSw => by (try dsimp only at hSw); go_simp⟩) (by assumption) ?_
          simp only [Act.put, List.setIfInBounds_toArray, List.set_cons_zero, List.set_cons_succ, List.getElem_toArray, List.getElem_cons_succ, List.getElem_cons_zero]
          refine wpAnyH_take (i := 6) (v := (.bool true)) rfl (by kernel_rfl) (by kernel_rfl) (by kernel_rfl) (fun _ _ _ h => h) (Or.inl ⟨by rfl, fun ww hSw => by (try dsimp only at hSw); go_simp⟩) (by assumption) ?_
          simp only [Act.put, List.setIfInBounds_toArray, List.set_cons_zero, List.set_cons_succ, List.getElem_toArray, List.getElem_cons_succ, List.getElem_cons_zero]
          refine wpAnyH_take (i := 7) (v := (.pointer (some ⟨d, 0, .none⟩))) rfl (by kernel_rfl) (by kernel_rfl) (by kernel_rfl) (fun _ _ _ h => h) (Or.inl ⟨by rfl, fun ww hSw => by (try dsimp only at hSw); go_simp⟩) (by assumption) ?_
          simp only [Act.put, List.setIfInBounds_toArray, List.set_cons_zero, List.set_cons_succ, List.getElem_toArray, List.getElem_cons_succ, List.getElem_cons_zero]
          refine wpAnyH_take (i := 8) (v := (.pointer (some ⟨d, 0, .none⟩))) rfl (by kernel_rfl) (by kernel_rfl) (by kernel_rfl) (fun _ _ _ h => h) (Or.inl ⟨by rfl, fun ww hSw => by (try dsimp only at hSw); go_simp⟩) (by assumption) ?_
          simp only [Act.put, List.setIfInBounds_toArray, List.set_cons_zero, List.set_cons_succ, List.getElem_toArray, List.getElem_cons_succ, List.getElem_cons_zero]
          refine wpAnyH_take (i := 9) (v := (.pointer (some ⟨d, 0, .none⟩))) rfl (by kernel_rfl) (by kernel_rfl) (by kernel_rfl) (fun _ _ _ h => h) (Or.inl ⟨by rfl, fun ww hSw => by (try dsimp only at hSw); go_simp⟩) (by assumption) ?_
          simp only [Act.put, List.setIfInBounds_toArray, List.set_cons_zero, List.set_cons_succ, List.getElem_toArray, List.getElem_cons_succ, List.getElem_cons_zero]
          refine wpAnyH_take (i := 10) (v := (.slice pD R cD)) rfl (by kernel_rfl) (by kernel_rfl) (by kernel_rfl) (fun _ _ _ h => h) (Or.inl ⟨by rfl, fun ww hSw => by (try dsimp only at hSw); go_simp⟩) (by assumption) ?_
          simp only [Act.put, List.setIfInBounds_toArray, List.set_cons_zero, List.set_cons_succ, List.getElem_toArray, List.getElem_cons_succ, List.getElem_cons_zero]
          refine wpAnyH_take (i := 11) (v := (.int .i64 R)) rfl (by kernel_rfl) (by kernel_rfl) (by kernel_rfl) (fun _ _ _ h => h) (Or.inl ⟨by rfl, fun ww hSw => by (try dsimp only at hSw); go_simp⟩) (by assumption) ?_
          simp only [Act.put, List.setIfInBounds_toArray, List.set_cons_zero, List.set_cons_succ, List.getElem_toArray, List.getElem_cons_succ, List.getElem_cons_zero]
          refine wpAnyH_take (i := 12) (v := (.pointer (some ⟨d, 0, .none⟩))) rfl (by kernel_rfl) (by kernel_rfl) (by kernel_rfl) (fun _ _ _ h => h) (Or.inl ⟨by rfl, fun ww hSw => by (try dsimp only at hSw); go_simp⟩) (by assumption) ?_
          simp only [Act.put, List.setIfInBounds_toArray, List.set_cons_zero, List.set_cons_succ, List.getElem_toArray, List.getElem_cons_succ, List.getElem_cons_zero]
          refine wpAnyH_take (i := 13) (v := (.pointer (some ⟨d, 0, .none⟩))) rfl (by kernel_rfl) (by kernel_rfl) (by kernel_rfl) (fun _ _ _ h => h) (Or.inl ⟨by rfl, fun ww hSw => by (try dsimp only at hSw); go_simp⟩) (by assumption) ?_
          simp only [Act.put, List.setIfInBounds_toArray, List.set_cons_zero, List.set_cons_succ, List.getElem_toArray, List.getElem_cons_succ, List.getElem_cons_zero]
          refine wpAnyH_take (i := 14) (v := (.pointer (some ⟨d, 1, .none⟩))) rfl (by kernel_rfl) (by kernel_rfl) (by kernel_rfl) (fun _ _ _ h => h) (Or.inl ⟨by rfl, fun ww hSw => by (try dsimp only at hSw); go_simp⟩) (by assumption) ?_
          simp only [Act.put, List.setIfInBounds_toArray, List.set_cons_zero, List.set_cons_succ, List.getElem_toArray, List.getElem_cons_succ, List.getElem_cons_zero]
          refine wpAnyH_take (i := 15) (v := (.slice p4 (L + 1) c4)) rfl (by kernel_rfl) (by kernel_rfl) (by kernel_rfl) (fun _ _ _ h => h) (Or.inl ⟨by rfl, fun ww hSw => by (try dsimp only at hSw); go_simp⟩) (by assumption) ?_
          simp only [Act.put, List.setIfInBounds_toArray, List.set_cons_zero, List.set_cons_succ, List.getElem_toArray, List.getElem_cons_succ, List.getElem_cons_zero]
          refine wpAnyH_take (i := 16) (v := (.int .i64 ((L : Int) + 1))) rfl (by kernel_rfl) (by kernel_rfl) (by kernel_rfl) (fun _ _ _ h => h) (Or.inl ⟨by rfl, fun ww hSw => by (try dsimp only at hSw); go_simp⟩) (by assumption) ?_
          simp only [Act.put, List.setIfInBounds_toArray, List.set_cons_zero, List.set_cons_succ, List.getElem_toArray, List.getElem_cons_succ, List.getElem_cons_zero]
          refine wpAnyH_take (i := 17) (v := (.int .i64 ((R : Int) + ((L : Int) + 1)))) rfl (by kernel_rfl) (by kernel_rfl) (by kernel_rfl) (fun _ _ _ h => h) (Or.inl ⟨by rfl, fun ww hSw => by (try dsimp only at hSw); go_simp⟩) (by assumption) ?_
          simp only [Act.put, List.setIfInBounds_toArray, List.set_cons_zero, List.set_cons_succ, List.getElem_toArray, List.getElem_cons_succ, List.getElem_cons_zero]
          refine wpAnyH_take (i := 18) (v := (.bool true)) rfl (by kernel_rfl) (by kernel_rfl) (by kernel_rfl) (fun _ _ _ h => h) (Or.inl ⟨by rfl, fun ww hSw => by (try dsimp only at hSw); go_simp⟩) (by assumption) ?_
          simp only [Act.put, List.setIfInBounds_toArray, List.set_cons_zero, List.set_cons_succ, List.getElem_toArray, List.getElem_cons_succ, List.getElem_cons_zero]
          refine wpAnyH_take (i := 19) (v := (.bool true)) rfl (by kernel_rfl) (by kernel_rfl) (by kernel_rfl) (fun _ _ _ h => h) (Or.inl ⟨by rfl, fun ww hSw => by (try dsimp only at hSw); go_simp⟩) (by assumption) ?_
          simp only [Act.put, List.setIfInBounds_toArray, List.set_cons_zero, List.set_cons_succ, List.getElem_toArray, List.getElem_cons_succ, List.getElem_cons_zero]
          refine wpAnyH_done (by kernel_rfl) ?_ _
          go_wp2
          go_meet
          case rel => exact ⟨rfl, rfl⟩
      case rest =>
        obtain ⟨rfl, hwc⟩ := hcut
        obtain ⟨W7, hW7⟩ : ∃ W, W = W6.drew := ⟨_, rfl⟩
        rw [← hW7] at hwc
        obtain rfl : W7 = wc := hwc.symm
        have H7 : Hid (Dcn W7 d (.slice pD R cD) (.slice p4 (L + 1) c4) rs (ls ++ [y]) ∧ Chg D w W7 ∧ W7.ownsRow s4 5 1 (.slice pe EE.length ce) EE.length (by8 EE) ∧ w.heap.size ≤ s4 ∧ s4 ≤ W7.heap.size ∧ (∀ k, (Value.slice p4 (L + 1) c4).ownBlock = some k → D k ∧ k < w.heap.size ∨ w.heap.size ≤ k ∧ k < s4)) := by
          have h := H6.out
          rw [hW7]
          exact ⟨h.1.drewN 1, ⟨h.2.1.os, h.2.1.tape, h.2.1.output, h.2.1.size, h.2.1.block⟩, HROW.out, h.2.2.2.1, h.2.2.2.2.1, h.2.2.2.2.2⟩
        clear hW7 H6 HROW a0 a1 wp1
        cases hbb : BB with
        | false =>
          have hnf : ¬ (y = 10 ∨ y = 4 ∨ R + L + 1 = 128) := by have := HBB.out; rw [hbb] at this; exact of_decide_eq_false this
          have eR : RR = rs := by rw [← HRR.out, if_neg hnf]
          have eL : LL = ls ++ [y] := by rw [← HLL.out, if_neg hnf]
          subst hbb
          have HE : Hid (DTy w d D RR LL EE false (.returned (.tuple #[.slice pe EE.length ce, .bool false])) W7) := by
            have h := H7.out
            have hp := HP.out
            rw [eR, eL]
            refine ⟨pe, ce, fun k => (D k ∧ k < w.heap.size) ∨ (w.heap.size ≤ k ∧ k < s4), rfl, own_mono h.2.2.1 h.2.2.2.1, ⟨_, _, h.1, .inl ⟨hp.2.1, hp.1.lt⟩, fun k hk => .inl ⟨hp.2.2.1 k hk, own_ltC hp.1.rD k hk⟩, h.2.2.2.2.2⟩, h.2.1, fun k hk hk2 => ?_, fun g hg hk => ?_, fun k hk => ?_⟩
            · rcases hk with hk | hk
              · exact hk.1
              · omega
            · have := own_block h.2.2.1 g hg
              rcases hk with hk | hk
              · omega
              · omega
            · rcases hk with hk | hk
              · omega
              · omega
          clear eR eL hnf
          go_wp2
          go_ret2
          exact HE.out
        | true =>
          have hfi : y = 10 ∨ y = 4 ∨ R + L + 1 = 128 := by have := HBB.out; rw [hbb] at this; exact of_decide_eq_true this
          have eR : RR = rs ++ (ls ++ [y]) := by rw [← HRR.out, if_pos hfi]
          have eL : LL = [] := by rw [← HLL.out, if_pos hfi]
          have HEQ : Hid (RR = rs ++ (ls ++ [y]) ∧ LL = []) := ⟨eR, eL⟩
          subst hbb
          clear eR eL hfi
          have a0 := H7.out.1.c0
          have a1 := H7.out.1.c1
          have LJ : Hid ((rs ++ (ls ++ [y])).length = R + (L + 1)) := by show _ = _; rw [List.length_append, HL1.out, HRL.out.1]
          have cJ : Calls Tryd.prog 24 #[.slice pD R cD, .slice p4 (L + 1) c4] W7.drew (Gb (rs ++ (ls ++ [y])) W7.drew) := by
            have h1 := (H7.out.1.drewN 1).rD
            have h2 := (H7.out.1.drewN 1).rL
            rw [← HRL.out.1] at h1
            rw [HL1.out] at h2
            exact joined_any (byt_own h1) (byt_own h2) (by omega)
          have HKV : Hid (∀ V : World, Below W7.drew.heap.size W7.drew V → V.cell? ⟨d, 0, .none⟩ = some (.slice pD R cD) ∧ V.frozen? ⟨d, 0, .none⟩ = false) := fun V hV => by
            have := (H7.out.1.drewN 1).below hV
            exact ⟨this.c0, this.fz 0⟩
          go_upto_region 26 with fail
          go_region_with (go_at_call 24; refine cJ.mono ?_; rintro e V ⟨p6, d6, rfl, hO, hb⟩; rw [LJ.out] at hO ⊢; obtain ⟨k1, k2⟩ := HKV.out V hb)
          all_goals
            have H8 : Hid (Dcn ((V.setCell ⟨d, 0, .none⟩ (.slice p6 (R + (L + 1)) d6)).setCell ⟨d, 1, .none⟩ (.slice none 0 0)) d (.slice p6 (R + (L + 1)) d6) (.slice none 0 0) (rs ++ (ls ++ [y])) [] ∧ Chg D w ((V.setCell ⟨d, 0, .none⟩ (.slice p6 (R + (L + 1)) d6)).setCell ⟨d, 1, .none⟩ (.slice none 0 0)) ∧ ((V.setCell ⟨d, 0, .none⟩ (.slice p6 (R + (L + 1)) d6)).setCell ⟨d, 1, .none⟩ (.slice none 0 0)).heap.size = V.heap.size ∧ W7.heap.size ≤ V.heap.size ∧ ((V.setCell ⟨d, 0, .none⟩ (.slice p6 (R + (L + 1)) d6)).setCell ⟨d, 1, .none⟩ (.slice none 0 0)).ownsRow s4 5 1 (.slice pe EE.length ce) EE.length (by8 EE) ∧ (∀ k, (Value.slice p6 (R + (L + 1)) d6).ownBlock = some k → W7.heap.size ≤ k ∧ k < V.heap.size)) := by
              have h := H7.out
              have hp := HP.out
              have hV := (h.1.drewN 1).below hb
              have hs : W7.heap.size ≤ V.heap.size := hb.size
              have hlt := hp.1.lt
              have hle := hp.1.le
              have e7 : Chg D w V := h.2.1.trans (S2 := fun _ => False) ⟨hb.os, hb.tape, hb.output, hb.size, fun k hk _ => hb.block k hk⟩ (fun _ _ e => e.elim)
              have hwl := h.2.1.size
              have kd : ∀ k, (Value.slice p6 (R + (L + 1)) d6).ownBlock = some k → W7.heap.size ≤ k ∧ k < V.heap.size := fun k hk => ⟨own_block hO k hk, own_ltC hO k hk⟩
              have q1 := hV.setL (.slice none 0 0) [] (World.ownsRow_nil _ _ _ _) (fun k hk => by cases hk) (by simp; omega) (fun z hz => by simp at hz)
              have rowV : V.ownsRow s4 5 1 (.slice pe EE.length ce) EE.length (by8 EE) := (⟨hb.os, hb.tape, hb.output, hb.size, fun k hk _ => hb.block k hk⟩ : Chg (fun _ => False) W7 V).own h.2.2.1 (fun _ _ e => e)
              have nb : ∀ g, (Value.slice pe EE.length ce).ownBlock = some g → g ≠ d := fun g hg e => by have := own_block h.2.2.1 g hg; omega
              have f0 : ∀ i, (V.setCell ⟨d, 0, .none⟩ (.slice p6 (R + (L + 1)) d6)).frozen? ⟨d, i, .none⟩ = false := fun i => hV.froz _ _ i
              have f1 : ∀ i, ((V.setCell ⟨d, 0, .none⟩ (.slice p6 (R + (L + 1)) d6)).setCell ⟨d, 1, .none⟩ (.slice none 0 0)).frozen? ⟨d, i, .none⟩ = false := fun i => (World.frozen?_setCells d [.slice none 0 0] 1 _ ⟨d, i, .none⟩).trans (f0 i)
              refine ⟨⟨cell_off (cell_one hV.c0 _) _ _ (by decide), cell_one (cell_off hV.c1 _ _ (by decide)) _, cell_off (cell_off hV.c2 _ _ (by decide)) _ _ (by decide), f1, ?_, World.ownsRow_nil _ _ _ _, fun k hk => ⟨?_, fun e => by cases e⟩, (fun k hk => by cases hk), ?_, fun z hz => ?_⟩, (e7.trans (chg_set d 0 _ V) (fun k _ e => by have e : k = d := e; rw [e]; exact hp.2.1)).trans (chg_set d 1 _ _) (fun k _ e => by have e : k = d := e; rw [e]; exact hp.2.1), ?_, hs, own_setd (own_setd rowV nb _) nb _, kd⟩
              · rw [LJ.out]
                exact own_setd (own_setd (own_mono hO (Nat.zero_le _)) (fun k hk => by have := kd k hk; omega) _) (fun k hk => by have := kd k hk; omega) _
              · have := kd k hk; omega
              · rw [LJ.out]; simp; omega
              · rw [List.append_nil] at hz
                exact hV.by_ z hz
              · exact (size_setCells d [.slice none 0 0] 1 _).trans (size_setCells d [.slice p6 (R + (L + 1)) d6] 0 V)
            have k3 : (V.setCell ⟨d, 0, .none⟩ (.slice p6 (R + (L + 1)) d6)).cell? ⟨d, 1, .none⟩ = some (.slice p4 (L + 1) c4) := cell_off ((H7.out.1.drewN 1).below hb).c1 _ _ (by decide)
            have k4 : (V.setCell ⟨d, 0, .none⟩ (.slice p6 (R + (L + 1)) d6)).frozen? ⟨d, 1, .none⟩ = false := ((H7.out.1.drewN 1).below hb).froz _ _ 1
            have HE : Hid (DTy w d D RR LL EE true (.returned (.tuple #[.slice pe EE.length ce, .bool true])) ((V.setCell ⟨d, 0, .none⟩ (.slice p6 (R + (L + 1)) d6)).setCell ⟨d, 1, .none⟩ (.slice none 0 0))) := by
              have h := H8.out
              have h7 := H7.out
              have hp := HP.out
              rw [HEQ.out.1, HEQ.out.2]
              refine ⟨pe, ce, fun k => (D k ∧ k < w.heap.size) ∨ (W7.heap.size ≤ k ∧ k < V.heap.size), rfl, own_mono h.2.2.2.2.1 h7.2.2.2.1, ⟨_, _, h.1, .inl ⟨hp.2.1, hp.1.lt⟩, fun k hk => .inr (h.2.2.2.2.2 k hk), (fun k hk => by cases hk)⟩, h.2.1, fun k hk hk2 => ?_, fun g hg hk => ?_, fun k hk => ?_⟩
              · rcases hk with hk | hk
                · exact hk.1
                · have := h7.2.2.2.1; have := h7.2.2.2.2.1; omega
              · have := own_block h.2.2.2.2.1 g hg
                have := own_ltC h7.2.2.1 g hg
                have := h7.2.2.2.1
                rcases hk with hk | hk
                · omega
                · omega
              · rw [h.2.2.1]
                have := h7.2.2.2.1; have := h7.2.2.2.2.1; have := h.2.2.2.1
                rcases hk with hk | hk
                · omega
                · omega
            clear hO hb k1 k2 H8
            go_wp2
            go_ret2
            exact HE.out
theorem rtype_any (h : Doc w d D rs ls) (x : Int) (hx : 0 ≤ x ∧ x < 256) :
    Calls Tryd.prog 28 #[.pointer (some ⟨d, 0, .none⟩), .int .u8 x] w (DTy w d D (tyR rs ls x) (tyL rs ls x) (tyE rs ls x) (tyB rs ls x)) := by
  by_cases h21 : x = 21
  · subst h21
    have := rtype_kill h
    simpa [tyR, tyL, tyE, tyB] using this
  by_cases h8 : x = 8 ∨ x = 127
  · have := rtype_back h x h8
    have e1 : tyL rs ls x = ls.take (ls.length - 1) := by unfold tyL; rw [if_neg h21, if_pos h8]
    have e2 : tyE rs ls x = bk (min 1 ls.length) := by unfold tyE; rw [if_neg h21, if_pos h8]
    have e3 : tyB rs ls x = false := by unfold tyB; rw [if_pos (by omega)]
    have e4 : tyR rs ls x = rs := by unfold tyR; rw [if_pos (by omega)]
    rw [e1, e2, e3, e4]
    exact this
  by_cases h0 : x = 0
  · subst h0
    have := rtype_zero h
    simpa [tyR, tyL, tyE, tyB] using this
  by_cases hf : 128 ≤ rs.length + ls.length
  · have := rtype_full h x (by omega) hf
    have e1 : tyR rs ls x = rs := by unfold tyR; rw [if_pos (by omega)]
    have e2 : tyL rs ls x = ls := by unfold tyL; rw [if_neg h21, if_neg h8, if_pos (by omega)]
    have e3 : tyE rs ls x = [] := by unfold tyE; rw [if_neg h21, if_neg h8, if_pos (by omega)]
    have e4 : tyB rs ls x = false := by unfold tyB; rw [if_pos (by omega)]
    rw [e1, e2, e3, e4]
    exact this
  · have := rtype_add h x hx (by omega) (by omega)
    have e1 : tyR rs ls x = if key x = 10 ∨ key x = 4 ∨ rs.length + ls.length + 1 = 128 then rs ++ (ls ++ [key x]) else rs := by unfold tyR; rw [if_neg (by omega)]
    have e2 : tyL rs ls x = if key x = 10 ∨ key x = 4 ∨ rs.length + ls.length + 1 = 128 then [] else ls ++ [key x] := by unfold tyL; rw [if_neg h21, if_neg h8, if_neg (by omega)]
    have e3 : tyE rs ls x = if key x = 4 then [] else [key x] := by unfold tyE; rw [if_neg h21, if_neg h8, if_neg (by omega)]
    have e4 : tyB rs ls x = decide (key x = 10 ∨ key x = 4 ∨ rs.length + ls.length + 1 = 128) := by unfold tyB; rw [if_neg (by omega)]
    rw [e1, e2, e3, e4]
    exact this
end
end Go.Proofs.YtblpdnchphhcaabDoor
