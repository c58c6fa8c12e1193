import Derived.Test.YtblpdnchphhcaabDoorRt
import Derived.Deep.DeepCutAuto
import Derived.Deep.CutBlock
import Derived.Deep.RegionWith
namespace Go.Proofs.YtblpdnchphhcaabDoor
open Go.RowKit
set_option linter.unusedVariables false
set_option linter.unusedSimpArgs false
set_option maxHeartbeats 2000000 in
theorem back_any (w : World) (n : Nat) (hn : n ≤ 1000) : Calls Tryd.prog 39 #[.int .i64 n] w (Gb (bk n) w) := by
  go_enter Tryd.func39, Tryd.ntmps39
  go_wp2
  go_loopw [3, 4] (fun v3 v4 wr => ∃ (i : Nat) (pv : Option Addr) (cv : Nat), i ≤ n ∧ v4 = .int .i64 i ∧ v3 = .slice pv (3 * i) cv ∧ Hid (wr.ownsRow w.heap.size 5 1 (.slice pv (3 * i) cv) (3 * i) (by8 (bk i)) ∧ Below w.heap.size w wr)) (fun _ v4 _ => (n - intOf v4).toNat)
  case atStart => exact ⟨0, none, 0, Nat.zero_le _, rfl, rfl, World.ownsRow_nil _ _ _ _, Below.refl _ _⟩
  case round =>
    obtain ⟨i, pv, cv, hi, rfl, rfl, HH⟩ := hrel
    by_cases hlt : i < n
    · have g1 : (i : Int) < n := by omega
      have RW : Hid ((wr.alloc (.cells #[.int .u8 8, .int .u8 32, .int .u8 8] 5)).ownsRow w.heap.size 5 1 (.slice pv (3 * i) cv) (3 * i) (by8 (bk i))) := HH.out.1.alloc _
      have BN : Hid (Byt (wr.alloc (.cells #[.int .u8 8, .int .u8 32, .int .u8 8] 5)) (some ⟨wr.heap.size, 0, .none⟩) 3 3 [8, 32, 8]) := byt_lit _ _ _ [8, 32, 8] (heap_new wr _) (by decide)
      have z1 : w.heap.size ≤ (wr.alloc (.cells #[.int .u8 8, .int .u8 32, .int .u8 8] 5)).heap.size := by have := HH.out.2.size; simp; omega
      go_wp2_with (first | (at_builtin; refine wpList_app rfl _ _ rfl w.heap.size (.slice pv (3 * i) cv) (3 * i) (bk i) rfl (some ⟨wr.heap.size, 0, .none⟩) 3 3 [8, 32, 8] rfl RW.out BN.out ?c4 z1 ?_) | go_in)
      case c4 => omega
      intro v' W4 own4 grow4 sof4
      obtain ⟨p4, c4, rfl⟩ := one_slice own4
      have H4 : Hid (W4.ownsRow w.heap.size 5 1 (.slice p4 (3 * (i + 1)) c4) (3 * (i + 1)) (by8 (bk (i + 1))) ∧ Below w.heap.size w W4) := ⟨own4, below_append HH.out.2 _ grow4 HH.out.2.size (fun k hk => own_block HH.out.1 k hk)⟩
      clear own4 grow4 sof4 RW BN z1
      go_wp2
      exact ⟨⟨i + 1, p4, c4, by omega, rfl, rfl, H4.out⟩, by simp only [intOf]; omega⟩
    · obtain rfl : i = n := by omega
      clear hlt hi
      go_wp2
      go_ret
      refine ⟨pv, cv, ?_, ?_, HH.out.2⟩
      · rw [bk_len]; rfl
      · rw [bk_len]; exact HH.out.1
section
variable {w : World} {d : Nat} {D : Nat → Prop} {rs ls : List Int}
set_option maxHeartbeats 2000000 in
theorem rtype_kill (h : Doc w d D rs ls) : Calls Tryd.prog 28 #[.pointer (some ⟨d, 0, .none⟩), .int .u8 21] w (DTy w d D rs [] (bk ls.length) false) := by
  obtain ⟨vD, vL, h, hDd, hDD, hDL⟩ := h
  have c1 := rnone_any h
  obtain ⟨pL, cL, rfl⟩ := one_slice h.rL
  have HP : Hid (Dcn w d vD (.slice pL ls.length cL) rs ls ∧ D d ∧ (∀ k, vD.ownBlock = some k → D k)) := ⟨h, hDd, hDD⟩
  have a1 := h.c1
  have f1 := h.fz 1
  have hle := h.le
  clear h hDd hDD hDL
  have HW : Hid (Dcn (w.setCell ⟨d, 1, .none⟩ (.slice none 0 0)) d vD (.slice none 0 0) rs [] ∧ (w.setCell ⟨d, 1, .none⟩ (.slice none 0 0)).heap.size = w.heap.size ∧ Chg (· = d) w (w.setCell ⟨d, 1, .none⟩ (.slice none 0 0))) := ⟨HP.out.1.setL _ [] (World.ownsRow_nil _ _ _ _) (fun k hk => by cases hk) (by simp; omega) (fun x hx => by simp at hx), size_setCells d [.slice none 0 0] 1 w, chg_set d 1 _ w⟩
  obtain ⟨L, hL⟩ : ∃ L, L = ls.length := ⟨_, rfl⟩
  rw [← hL] at a1 hle HP ⊢
  clear hL
  go_enter Tryd.func28, Tryd.ntmps28
  go_wp2_with fail
  refine c1.mono ?_
  rintro e w1 ⟨rfl, hw⟩
  obtain rfl : w = w1 := hw.symm
  clear c1
  go_wp2_with fail
  generalize w.setCell ⟨d, 1, .none⟩ (.slice none 0 0) = W1 at *
  refine (back_any W1 L (by omega)).mono ?_
  rintro e W2 ⟨p, c, rfl, hO, hb⟩
  have HE : Hid (DTy w d D rs [] (bk L) false (.returned (.tuple #[.slice p (bk L).length c, .bool false])) W2) := by
    have h := HW.out
    have hp := HP.out
    refine ⟨p, c, fun k => D k ∧ k < w.heap.size, rfl, own_mono hO (by omega), ⟨vD, .slice none 0 0, h.1.below hb, ⟨hp.2.1, hp.1.lt⟩, fun k hk => ⟨hp.2.2 k hk, own_ltC hp.1.rD k hk⟩, fun k hk => by cases hk⟩, (h.2.2.mono (fun k _ e => by have e : k = d := e; rw [e]; exact hp.2.1)).trans (S2 := fun _ => False) (Chg.ofBelow hb) (fun _ _ e => e.elim), fun k hk _ => hk.1, fun g hg hk => ?_, fun k hk => ?_⟩
    · have := own_block hO g hg
      omega
    · have := hb.size
      omega
  clear hO hb
  go_wp2
  go_ret2
  exact HE.out
set_option maxHeartbeats 4000000 in
theorem rtype_back (h : Doc w d D rs ls) (x : Int) (hx : x = 8 ∨ x = 127) : Calls Tryd.prog 28 #[.pointer (some ⟨d, 0, .none⟩), .int .u8 x] w (DTy w d D rs (ls.take (ls.length - 1)) (bk (min 1 ls.length)) false) := by
  have HDC : Hid (Doc w d D rs ls) := h
  obtain ⟨vD, vL, h, hDd, hDD, hDL⟩ := h
  have c1 := rnone_any h
  by_cases h0 : ls.length = 0
  · obtain rfl : ls = [] := List.eq_nil_of_length_eq_zero h0
    obtain ⟨pL, cL, rfl⟩ := one_slice h.rL
    have a1 := h.c1
    rw [List.length_nil] at a1
    clear h hDd hDD hDL h0
    have HE := dty_nil HDC.out false
    have HE : Hid _ := HE
    rcases hx with rfl | rfl
    all_goals
      go_enter Tryd.func28, Tryd.ntmps28
      go_wp2_with fail
      refine c1.mono ?_
      rintro e w1 ⟨rfl, hw⟩
      obtain rfl : w = w1 := hw.symm
      clear c1
      go_wp2
      go_ret2
      exact HE.out
  obtain ⟨t, ht⟩ : ∃ t, ls.length = t + 1 := ⟨ls.length - 1, by omega⟩
  have HP : Hid (Dcn w d vD vL rs ls ∧ D d ∧ (∀ k, vD.ownBlock = some k → D k)) := ⟨h, hDd, hDD⟩
  have hrL := h.rL
  rw [ht] at hrL
  obtain ⟨pL, cL, rfl⟩ := one_slice hrL
  obtain ⟨gg, rfl⟩ := own_some hrL
  have hcap : t + 1 ≤ cL := (byt_own hrL).2.1
  have cc := cut_line gg (t + 1) cL (by omega) hcap
  have a1 := h.c1
  have f1 := h.fz 1
  have hle := h.le
  rw [ht] at hle
  have B1 : Hid (Byt w.drew (some ⟨gg, 0, .none⟩) t cL (ls.take t)) := by
    have := own_short (k := t) hrL (by omega)
    exact byt_own this
  have BN : Hid (Byt w.drew none 0 0 []) := ⟨rfl, Nat.le_refl _, by decide, .inl rfl⟩
  have cJ := joined_any B1.out BN.out (by omega)
  rw [List.append_nil] at cJ
  have LT : Hid ((ls.take t).length = t) := by show _ = _; rw [List.length_take]; omega
  have HM : Hid (min 1 ls.length = 1 ∧ ls.length - 1 = t) := by rw [ht]; constructor <;> omega
  rw [HM.out.1, HM.out.2]
  have HKV : Hid (∀ V : World, Below w.drew.heap.size w.drew V → V.cell? ⟨d, 1, .none⟩ = some (.slice (some ⟨gg, 0, .none⟩) (t + 1) cL) ∧ V.frozen? ⟨d, 1, .none⟩ = false) := fun V hV => by
    have := (HP.out.1.drewN 1).below hV
    exact ⟨this.c1, this.fz 1⟩
  clear h hDd hDD hDL h0 hrL
  have e1 : ((t + 1 : Nat) : Int) - 1 = t := by omega
  rw [e1, Nat.add_sub_cancel] at cc
  have ca := cutat (some ⟨gg, 0, .none⟩) (t + 1) cL
  clear e1
  have wt : IntKind.i64.wrap (t : Int) = t := by rw [IntKind.wrap_i64]; omega
  rcases hx with rfl | rfl
  all_goals
    go_enter Tryd.func28, Tryd.ntmps28
    go_wp2_with fail
    refine c1.mono ?_
    rintro e w1 ⟨rfl, hw⟩
    obtain rfl : w = w1 := hw.symm
    clear c1
    go_upto_region 12 with fail
    go_region_with (go_at_call 24; refine cJ.mono ?_; rintro e V ⟨p2, d2, rfl, hO, hb⟩; rw [LT.out] at hO ⊢; obtain ⟨k1, k2⟩ := HKV.out V hb)
    all_goals
      have HW : Hid (Dcn (V.setCell ⟨d, 1, .none⟩ (.slice p2 t d2)) d vD (.slice p2 t d2) rs (ls.take t) ∧ (V.setCell ⟨d, 1, .none⟩ (.slice p2 t d2)).heap.size = V.heap.size ∧ Chg (· = d) w (V.setCell ⟨d, 1, .none⟩ (.slice p2 t d2)) ∧ w.heap.size ≤ V.heap.size ∧ (∀ k, (Value.slice p2 t d2).ownBlock = some k → w.heap.size ≤ k ∧ k < V.heap.size)) := by
        have h := HP.out
        have hV := (h.1.drewN 1).below hb
        have hs : w.heap.size ≤ V.heap.size := hb.size
        refine ⟨hV.setL _ (ls.take t) (by rw [LT.out]; exact own_mono hO (Nat.zero_le _)) (fun k hk => ?_) (by rw [LT.out]; omega) (fun x hx => h.1.by_ x (List.mem_append.2 (.inr (List.mem_of_mem_take hx)))), size_setCells d [.slice p2 t d2] 1 V, ?_, hs, fun k hk => ⟨own_block hO k hk, own_ltC hO k hk⟩⟩
        · have h1 : w.heap.size ≤ k := own_block hO k hk
          have h2 := h.1.lt
          refine ⟨by omega, fun e => ?_⟩
          have := own_ltC h.1.rD k e
          omega
        · exact (⟨hb.os, hb.tape, hb.output, hb.size, fun k hk _ => hb.block k hk⟩ : Chg (· = d) w V).trans (chg_set d 1 _ V) (fun _ _ e => e)
      clear hO hb k1 k2
      generalize V.setCell ⟨d, 1, .none⟩ (.slice p2 t d2) = W1 at *
      go_wp2_with fail
      refine (back_any W1 1 (by omega)).mono ?_
      rintro e W2 ⟨p3, d3, rfl, hO, hb⟩
      have HE : Hid (DTy w d D rs (ls.take t) (bk 1) false (.returned (.tuple #[.slice p3 (bk 1).length d3, .bool false])) W2) := by
        have h := HW.out
        have hp := HP.out
        refine ⟨p3, d3, fun k => (D k ∧ k < w.heap.size) ∨ (w.heap.size ≤ k ∧ k < V.heap.size), rfl, own_mono hO (by omega), ⟨vD, .slice p2 t d2, h.1.below hb, .inl ⟨hp.2.1, hp.1.lt⟩, fun k hk => .inl ⟨hp.2.2 k hk, own_ltC hp.1.rD k hk⟩, fun k hk => .inr (h.2.2.2.2 k hk)⟩, (h.2.2.1.mono (fun k _ e => by have e : k = d := e; rw [e]; exact hp.2.1)).trans (S2 := fun _ => False) (Chg.ofBelow hb) (fun _ _ e => e.elim), fun k hk hk2 => ?_, fun g hg hk => ?_, fun k hk => ?_⟩
        · rcases hk with hk | hk
          · exact hk.1
          · omega
        · have := own_block hO g hg
          have := h.2.2.2.1
          rcases hk with hk | hk
          · omega
          · omega
        · have := hb.size
          have := h.2.2.2.1
          rcases hk with hk | hk
          · omega
          · omega
      clear hO hb
      go_wp2
      go_ret2
      exact HE.out
theorem rtype_zero (h : Doc w d D rs ls) : Calls Tryd.prog 28 #[.pointer (some ⟨d, 0, .none⟩), .int .u8 0] w (DTy w d D rs ls [] false) := by
  have HE := dty_nil h false
  have HE : Hid _ := HE
  obtain ⟨vD, vL, h, _⟩ := h
  have c1 := rnone_any h
  clear h
  go_enter Tryd.func28, Tryd.ntmps28
  go_wp2_with fail
  refine c1.mono ?_
  rintro e w1 ⟨rfl, hw⟩
  obtain rfl : w = w1 := hw.symm
  clear c1
  go_wp2
  go_ret2
  exact HE.out
set_option maxHeartbeats 2000000 in
theorem rtype_full (h : Doc w d D rs ls) (x : Int) (hx : x ≠ 21 ∧ x ≠ 8 ∧ x ≠ 127 ∧ x ≠ 0) (hf : 128 ≤ rs.length + ls.length) : Calls Tryd.prog 28 #[.pointer (some ⟨d, 0, .none⟩), .int .u8 x] w (DTy w d D rs ls [] false) := by
  have HE : Hid (∀ k, DTy w d D rs ls [] false (.returned (.tuple #[.slice none 0 0, .bool false])) (w.drewN k)) := fun k => by
    obtain ⟨p, c, D', h1, h2, h3, h4, h5, h6, h7⟩ := dty_nil h false
    exact ⟨p, c, D', h1, h2, h3.drewN k, ⟨rfl, rfl, rfl, Nat.le_refl _, fun _ _ _ => rfl⟩, h5, h6, h7⟩
  obtain ⟨vD, vL, h, _⟩ := h
  have c1 := rnone_any h
  obtain ⟨pD, cD, rfl⟩ := one_slice h.rD
  obtain ⟨pL, cL, rfl⟩ := one_slice h.rL
  have a0 := h.c0
  have a1 := h.c1
  have i1 : (x == 21) = false := by simp; omega
  have i2 : (x == 8) = false := by simp; omega
  have i3 : (x == 127) = false := by simp; omega
  have i4 : (x == 0) = false := by simp; omega
  have hle := h.le
  have e8 : rs.length + ls.length = 128 := by omega
  have g1 : (128 : Int) ≤ (rs.length : Int) + ls.length := by omega
  have wp1 : IntKind.i64.wrap ((rs.length : Int) + ls.length) = (rs.length : Int) + ls.length := by rw [IntKind.wrap_i64]; omega
  clear h hx hf hle e8
  generalize rs.length = R at *
  generalize ls.length = L at *
  go_enter Tryd.func28, Tryd.ntmps28
  go_wp2_with fail
  refine c1.mono ?_
  rintro e w1 ⟨rfl, hw⟩
  obtain rfl : w = w1 := hw.symm
  clear c1
  go_upto_region 16 with fail
  go_region
  go_wp2
  go_ret2
  exact HE.out 1
end
end Go.Proofs.YtblpdnchphhcaabDoor
