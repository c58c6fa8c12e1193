import Derived.Test.YtabhojfdkmeaoabSq
namespace Go.Proofs.Ytabhojfdkmeaoab
open Go.RowKit
set_option linter.unusedVariables false
set_option linter.unusedSimpArgs false
theorem own_pos {w : World} {X e M c : Nat} {p : Option Addr} {xs : List Value} (h : w.ownsRow X e 1 (.slice p M c) M xs) (hM : 0 < M) : ∃ g, p = some ⟨g, 0, .none⟩ ∧ g < w.heap.size := by
  rcases h.2 with ⟨_, h0⟩ | ⟨g, cap, cur, hv, hb, hg, _⟩
  · omega
  · simp only [Value.slice.injEq] at hv
    exact ⟨g, hv.1, (Array.getElem?_eq_some_iff.1 hg).1⟩
theorem row_cell {w : World} {X M c g : Nat} {f : Nat → Value} (h : w.ownsRow X 22 1 (.slice (some ⟨g, 0, .none⟩) M c) M ((List.range M).map f)) (i : Nat) (hi : i < M) : w.cell? ⟨g, i, .none⟩ = some (f i) := by
  have := World.ownsRow.cells h (g := g) rfl i (f i) (by simp [hi])
  rwa [le_addr_add, Nat.zero_add] at this
theorem own_capR {w : World} {X e M c : Nat} {p : Option Addr} {xs : List Value} (h : w.ownsRow X e 1 (.slice p M c) M xs) : M ≤ c ∧ c ≤ maxLen := by
  rcases h.2 with ⟨hv, h0⟩ | ⟨g, cap, cur, hv, hb, hg, h1, h2, _⟩
  · simp only [Value.slice.injEq] at hv
    obtain ⟨_, rfl, rfl⟩ := hv
    exact ⟨Nat.le_refl _, by decide⟩
  · simp only [Value.slice.injEq] at hv
    obtain ⟨_, _, rfl⟩ := hv
    exact ⟨h1, h2⟩
set_option maxHeartbeats 4000000 in
set_option maxRecDepth 100000 in
theorem send_any {w : World} {X sh cnt : Nat} {F : Nat → Prop} (h : Shel w X sh cnt F) (hc : cnt ≤ 5864062014804) :
    Calls Try.prog 14 #[.pointer (some ⟨sh, 0, .none⟩)] w fun en w' => en = .returned (.bool true) ∧ Chg F w w' := by
  obtain ⟨kv, uv, kx, kr, ur, hS, hF⟩ := h
  have HF : Hid (∀ g, F g ↔ fpS (cnt / 2) (cnt / 2) kv uv kr ur g) := hF
  obtain ⟨M, hM⟩ : ∃ M, M = cnt / 2 := ⟨_, rfl⟩
  rw [← hM] at hS HF
  have hMb : M ≤ 2932031007402 := by omega
  obtain ⟨kp, kc, rfl⟩ := one_slice hS.okr
  obtain ⟨up, uc, rfl⟩ := one_slice hS.our
  have HS : Hid (Shf w X sh cnt M M kv uv kx (.slice kp M kc) (.slice up M uc)) := hS
  have c1 := hS.c1
  have kcap := own_capR hS.okr
  have ucap := own_capR hS.our
  have kcm : kc ≤ 9223372036854775807 := kcap.2
  have ucm : uc ≤ 9223372036854775807 := ucap.2
  have kc1 := kcap.1
  have uc1 := ucap.1
  clear hS hF hM kcap ucap
  go_enter Try.func14, Try.ntmps14
  go_wp2
  go_loopw [3] (fun iv wr => ∃ i : Nat, i ≤ M ∧ iv = .int .i64 i ∧ Hid (Chg (fun _ => False) w wr)) (fun iv _ => (M - intOf iv).toNat)
  case atStart => exact ⟨0, by omega, rfl, Chg.refl _ _⟩
  case round =>
    obtain ⟨i, hi, rfl, HD⟩ := hrel
    have HS1 : Hid (Shf wr X sh cnt M M kv uv kx (.slice kp M kc) (.slice up M uc)) := HS.out.keep (S := fun _ => False) (v := wr) HD.out (fun h => h) (fun _ _ h => h)
    have z1 := HS1.out.c1
    by_cases him : i < M
    · have g0 : (i : Int) < M := by omega
      obtain ⟨kg, rfl, hkg⟩ := own_pos HS1.out.okr (by omega)
      obtain ⟨ug, rfl, hug⟩ := own_pos HS1.out.our (by omega)
      have k1 := row_cell HS1.out.okr i him
      have u1 := row_cell HS1.out.our i him
      have z2 := HS1.out.c2
      obtain ⟨ap, ac, ha⟩ := one_slice (HS1.out.rk i him)
      obtain ⟨bp, bc, hb⟩ := one_slice (HS1.out.ru i him)
      have HBB : Hid (Byt wr ap (kx i).length ac (kx i) ∧ Byt wr bp (kx i).length bc (kx i) ∧ (kx i).length ≤ 512) := ⟨byt_own (by rw [← ha]; exact HS1.out.rk i him), byt_own (by rw [← hb]; exact HS1.out.ru i him), HS1.out.len i him⟩
      rw [ha] at k1
      rw [hb] at u1
      have han := HBB.out.2.2
      generalize hxx : kx i = ks at *
      generalize hal : ks.length = an at *
      clear ha hb
      go_upto_region 4 with fail
      have kS : (wr.drew.cell? ⟨sh, 1, .none⟩ = some (.slice (some ⟨kg, 0, .none⟩) M kc) ∧ wr.drew.cell? ⟨sh, 2, .none⟩ = some (.slice (some ⟨ug, 0, .none⟩) M uc) ∧ wr.drew.cell? ⟨kg, i, .none⟩ = some (.slice ap an ac) ∧ wr.drew.cell? ⟨ug, i, .none⟩ = some (.slice bp an bc)) := ⟨z1, z2, k1, u1⟩
      refine wp_region_held_drew (S := fun U => (U.cell? ⟨sh, 1, .none⟩ = some (.slice (some ⟨kg, 0, .none⟩) M kc) ∧ U.cell? ⟨sh, 2, .none⟩ = some (.slice (some ⟨ug, 0, .none⟩) M uc) ∧ U.cell? ⟨kg, i, .none⟩ = some (.slice ap an ac) ∧ U.cell? ⟨ug, i, .none⟩ = some (.slice bp an bc))) (by kernel_rfl) kS (fun hHeld => ?_)
      refine wpAnyH_take (i := 0) (v := (.pointer (some ⟨sh, 0, .none⟩))) rfl (by kernel_rfl) (by kernel_rfl) (by kernel_rfl) (fun _ _ _ h => h) (Or.inl ⟨by rfl, fun ww hSw => by (try dsimp only at hSw); go_simp⟩) (by assumption) ?_
      simp only [Act.put, List.setIfInBounds_toArray, List.set_cons_zero, List.set_cons_succ, List.getElem_toArray, List.getElem_cons_succ, List.getElem_cons_zero]
      refine wpAnyH_take (i := 1) (v := (.pointer (some ⟨sh, 0, .none⟩))) rfl (by kernel_rfl) (by kernel_rfl) (by kernel_rfl) (fun _ _ _ h => h) (Or.inl ⟨by rfl, fun ww hSw => by (try dsimp only at hSw); go_simp⟩) (by assumption) ?_
      simp only [Act.put, List.setIfInBounds_toArray, List.set_cons_zero, List.set_cons_succ, List.getElem_toArray, List.getElem_cons_succ, List.getElem_cons_zero]
      refine wpAnyH_take (i := 2) (v := (.pointer (some ⟨sh, 1, .none⟩))) rfl (by kernel_rfl) (by kernel_rfl) (by kernel_rfl) (fun _ _ _ h => h) (Or.inl ⟨by rfl, fun ww hSw => by (try dsimp only at hSw); go_simp⟩) (by assumption) ?_
      simp only [Act.put, List.setIfInBounds_toArray, List.set_cons_zero, List.set_cons_succ, List.getElem_toArray, List.getElem_cons_succ, List.getElem_cons_zero]
      refine wpAnyH_take (i := 3) (v := (.slice (some ⟨kg, 0, .none⟩) M kc)) rfl (by kernel_rfl) (by kernel_rfl) (by kernel_rfl) (fun _ _ _ h => h) (Or.inl ⟨by rfl, fun ww hSw => by (try dsimp only at hSw); go_simp⟩) (by assumption) ?_
      simp only [Act.put, List.setIfInBounds_toArray, List.set_cons_zero, List.set_cons_succ, List.getElem_toArray, List.getElem_cons_succ, List.getElem_cons_zero]
      refine wpAnyH_take (i := 4) (v := (.int .i64 i)) rfl (by kernel_rfl) (by kernel_rfl) (by kernel_rfl) (fun _ _ _ h => h) (Or.inl ⟨by rfl, fun ww hSw => by (try dsimp only at hSw); go_simp⟩) (by assumption) ?_
      simp only [Act.put, List.setIfInBounds_toArray, List.set_cons_zero, List.set_cons_succ, List.getElem_toArray, List.getElem_cons_succ, List.getElem_cons_zero]
      refine wpAnyH_take (i := 5) (v := (.pointer (some ⟨kg, i, .none⟩))) rfl (by kernel_rfl) (by kernel_rfl) (by kernel_rfl) (fun _ _ _ h => h) (Or.inl ⟨by rfl, fun ww hSw => by (try dsimp only at hSw); go_simp⟩) (by assumption) ?_
      simp only [Act.put, List.setIfInBounds_toArray, List.set_cons_zero, List.set_cons_succ, List.getElem_toArray, List.getElem_cons_succ, List.getElem_cons_zero]
      refine wpAnyH_take (i := 6) (v := (.slice ap an ac)) rfl (by kernel_rfl) (by kernel_rfl) (by kernel_rfl) (fun _ _ _ h => h) (Or.inl ⟨by rfl, fun ww hSw => by (try dsimp only at hSw); go_simp⟩) (by assumption) ?_
      simp only [Act.put, List.setIfInBounds_toArray, List.set_cons_zero, List.set_cons_succ, List.getElem_toArray, List.getElem_cons_succ, List.getElem_cons_zero]
      refine wpAnyH_take (i := 7) (v := (.pointer (some ⟨sh, 0, .none⟩))) rfl (by kernel_rfl) (by kernel_rfl) (by kernel_rfl) (fun _ _ _ h => h) (Or.inl ⟨by rfl, fun ww hSw => by (try dsimp only at hSw); go_simp⟩) (by assumption) ?_
      simp only [Act.put, List.setIfInBounds_toArray, List.set_cons_zero, List.set_cons_succ, List.getElem_toArray, List.getElem_cons_succ, List.getElem_cons_zero]
      refine wpAnyH_take (i := 8) (v := (.pointer (some ⟨sh, 0, .none⟩))) rfl (by kernel_rfl) (by kernel_rfl) (by kernel_rfl) (fun _ _ _ h => h) (Or.inl ⟨by rfl, fun ww hSw => by (try dsimp only at hSw); go_simp⟩) (by assumption) ?_
      simp only [Act.put, List.setIfInBounds_toArray, List.set_cons_zero, List.set_cons_succ, List.getElem_toArray, List.getElem_cons_succ, List.getElem_cons_zero]
      refine wpAnyH_take (i := 9) (v := (.pointer (some ⟨sh, 2, .none⟩))) rfl (by kernel_rfl) (by kernel_rfl) (by kernel_rfl) (fun _ _ _ h => h) (Or.inl ⟨by rfl, fun ww hSw => by (try dsimp only at hSw); go_simp⟩) (by assumption) ?_
      simp only [Act.put, List.setIfInBounds_toArray, List.set_cons_zero, List.set_cons_succ, List.getElem_toArray, List.getElem_cons_succ, List.getElem_cons_zero]
      refine wpAnyH_take (i := 10) (v := (.slice (some ⟨ug, 0, .none⟩) M uc)) rfl (by kernel_rfl) (by kernel_rfl) (by kernel_rfl) (fun _ _ _ h => h) (Or.inl ⟨by rfl, fun ww hSw => by (try dsimp only at hSw); go_simp⟩) (by assumption) ?_
      simp only [Act.put, List.setIfInBounds_toArray, List.set_cons_zero, List.set_cons_succ, List.getElem_toArray, List.getElem_cons_succ, List.getElem_cons_zero]
      refine wpAnyH_take (i := 11) (v := (.int .i64 i)) rfl (by kernel_rfl) (by kernel_rfl) (by kernel_rfl) (fun _ _ _ h => h) (Or.inl ⟨by rfl, fun ww hSw => by (try dsimp only at hSw); go_simp⟩) (by assumption) ?_
      simp only [Act.put, List.setIfInBounds_toArray, List.set_cons_zero, List.set_cons_succ, List.getElem_toArray, List.getElem_cons_succ, List.getElem_cons_zero]
      refine wpAnyH_take (i := 12) (v := (.pointer (some ⟨ug, i, .none⟩))) rfl (by kernel_rfl) (by kernel_rfl) (by kernel_rfl) (fun _ _ _ h => h) (Or.inl ⟨by rfl, fun ww hSw => by (try dsimp only at hSw); go_simp⟩) (by assumption) ?_
      simp only [Act.put, List.setIfInBounds_toArray, List.set_cons_zero, List.set_cons_succ, List.getElem_toArray, List.getElem_cons_succ, List.getElem_cons_zero]
      refine wpAnyH_take (i := 13) (v := (.slice bp an bc)) rfl (by kernel_rfl) (by kernel_rfl) (by kernel_rfl) (fun _ _ _ h => h) (Or.inl ⟨by rfl, fun ww hSw => by (try dsimp only at hSw); go_simp⟩) (by assumption) ?_
      simp only [Act.put, List.setIfInBounds_toArray, List.set_cons_zero, List.set_cons_succ, List.getElem_toArray, List.getElem_cons_succ, List.getElem_cons_zero]
      refine wpAnyH_ready (rs := [14]) (by kernel_rfl) (by simp) ?_
      refine AllReadyH.cons rfl (fun K hK => ?_) AllReadyH.nil
      go_simp
      refine (bytes_any ap bp an ac bc ks wr.drew (by omega) HBB.out.1 HBB.out.2.1).mono ?_
      rintro en V1 ⟨rfl, k2, hk2⟩
      have kS1 : (V1.cell? ⟨sh, 1, .none⟩ = some (.slice (some ⟨kg, 0, .none⟩) M kc) ∧ V1.cell? ⟨sh, 2, .none⟩ = some (.slice (some ⟨ug, 0, .none⟩) M uc) ∧ V1.cell? ⟨kg, i, .none⟩ = some (.slice ap an ac) ∧ V1.cell? ⟨ug, i, .none⟩ = some (.slice bp an bc)) := by subst hk2; exact ⟨z1, z2, k1, u1⟩
      have HD2 : Hid (Chg (fun _ => False) w V1) := HD.out.trans (S2 := fun _ => False) (by subst hk2; exact ⟨rfl, rfl, rfl, Nat.le_refl _, fun _ _ _ => rfl⟩) (fun _ _ h => h)
      clear hk2
      refine hK.out _ _ kS1 (fun hHeld => ?_)
      clear hK K
      try simp only [Act.put, List.setIfInBounds_toArray, List.set_cons_zero, List.set_cons_succ, List.getElem_toArray, List.getElem_cons_succ, List.getElem_cons_zero]
      refine wpAnyH_take (i := 15) (v := (.bool false)) rfl (by kernel_rfl) (by kernel_rfl) (by kernel_rfl) (fun _ _ _ h => h) (Or.inl ⟨by rfl, fun ww hSw => by (try dsimp only at hSw); go_simp⟩) (by assumption) ?_
      simp only [Act.put, List.setIfInBounds_toArray, List.set_cons_zero, List.set_cons_succ, List.getElem_toArray, List.getElem_cons_succ, List.getElem_cons_zero]
      refine wpAnyH_done (by kernel_rfl) ?_ _
      clear hHeld kS kS1
      go_wp2
      exact ⟨⟨i + 1, by omega, rfl, HD2⟩, by simp only [intOf]; omega⟩
    · obtain rfl : i = M := by omega
      go_wp2_with fail
      have hend : ∀ W, Chg (fun g => ∃ j, j < i ∧ (kv j).ownBlock = some g) wr W → Chg F w W := fun W t => (HD.out.mono (fun _ _ h => h.elim)).trans t (fun g _ h => by
        obtain ⟨j, hj, hg⟩ := h
        exact (HF.out g).2 (.inr (.inr (.inl ⟨j, hj, hg⟩))))
      have HEN : Hid (∀ W, Chg (fun g => ∃ j, j < i ∧ (kv j).ownBlock = some g) wr W → Chg F w W) := hend
      clear hend
      rcases HS1.out.okr.2 with ⟨hv, h0⟩ | ⟨g, cap, cur, hv, hbg, hg, _⟩
      · simp only [Value.slice.injEq] at hv
        obtain ⟨rfl, _, rfl⟩ := hv
        subst h0
        refine (free_nil wr).mono ?_
        rintro en W3 ⟨rfl, hw3⟩
        obtain rfl : wr = W3 := hw3.symm
        have HE : Hid (Chg F w wr) := HEN.out wr (Chg.refl _ _)
        go_wp2
        go_ret
        exact ⟨rfl, HE.out⟩
      · simp only [Value.slice.injEq] at hv
        obtain ⟨rfl, _, rfl⟩ := hv
        have hgl : g < wr.heap.size := (Array.getElem?_eq_some_iff.1 hg).1
        have hFs : Fs 5 i (fun j => (kx j).length) kv wr wr (fun j => by8 (kx j)) := ⟨fun j hj => own_mono (HS1.out.rk j hj) (Nat.zero_le _), rfl, rfl, rfl, Nat.le_refl _, fun _ _ _ => rfl⟩
        have c36 := freeB_any i g kc (fun j => (kx j).length) kv (fun j => by8 (kx j)) wr (by omega) (fun j hj => by have := HS1.out.len j hj; show (kx j).length ≤ 1000000; omega) hFs HS1.out.ap hgl (fun j hj e => apart_522 (HS1.out.rk j hj) HS1.out.okr g e rfl) (fun j hj => row_cell HS1.out.okr j hj)
        refine c36.mono ?_
        rintro en W3 ⟨rfl, xs3, hF3⟩
        have HE : Hid (Chg F w W3) := HEN.out W3 ⟨hF3.os, hF3.tape, hF3.output, hF3.size, fun k hk hn => hF3.block k hk (fun j hj e => hn ⟨j, hj, e.symm⟩)⟩
        clear c36 hF3 hFs
        go_wp2
        go_ret
        exact ⟨rfl, HE.out⟩
end Go.Proofs.Ytabhojfdkmeaoab
