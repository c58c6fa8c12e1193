import Derived.Test.YtpdlcjcigeegjaaDoorAg3
namespace Go.Proofs.YtpdlcjcigeegjaaDoor
open Go.RowKit
set_option linter.unusedVariables false
set_option linter.unusedSimpArgs false
theorem byt_below {w w' : World} {p : Option Addr} {n c : Nat} {xs : List Int} (h : Byt w p n c xs) (k : Below w.heap.size w w') : Byt w' p n c xs := by
  by_cases hn : 0 < n
  · exact byt_keep h k (byt_lt h hn)
  · exact ⟨h.1, h.2.1, h.2.2.1, .inl (by omega)⟩
theorem ky_sgs {w : World} {X : Nat} {sv : Value} {E : List (Sg × Value)} {B : Nat → Int} (h : Prs w X sv E B) : (E.map (·.1)).map ky = (sgsG (srs E) E.length).map ky := by
  apply List.ext_getElem?
  intro i
  rw [List.getElem?_map, List.getElem?_map, List.getElem?_map]
  cases hx : E[i]? with
  | none => rw [List.getElem?_eq_none (by rw [sgsG_len]; exact List.getElem?_eq_none_iff.1 hx)]; rfl
  | some x =>
    have hi := (List.getElem?_eq_some_iff.1 hx).1
    obtain ⟨s, hs⟩ : ∃ s, (sgsG (srs E) E.length)[i]? = some s := ⟨(sgsG (srs E) E.length)[i]'(by rw [sgsG_len]; exact hi), List.getElem?_eq_getElem _⟩
    obtain ⟨r1, r2, r3, r4⟩ := h.sr hx
    rw [hs, (sgsG_get hs).2]
    simp only [Option.map_some, ky, Option.some.injEq, Prod.mk.injEq]
    exact ⟨r1.symm, r2.symm, r3.symm, r4.symm⟩
set_option maxHeartbeats 4000000 in
set_option maxRecDepth 100000 in
theorem again_any {w : World} {p : Option Addr} {n c : Nat} {xs : List Int} (h : Byt w p n c xs) (hx : ∀ i, 0 ≤ xs.getD i 0 ∧ xs.getD i 0 < 256) (hL : Laid w) :
    Calls Tryd.prog 3 #[.slice p n c] w fun e w' => e = .returned (.bool true) ∧ Below w.heap.size w w' := by
  have HA : Hid (Byt w p n c xs) := h
  have HXB : Hid (∀ i, 0 ≤ xs.getD i 0 ∧ xs.getD i 0 < 256) := hx
  have HL : Hid (Laid w) := hL
  have hnc : n ≤ c ∧ c ≤ 9223372036854775807 := ⟨h.2.1, h.2.2.1⟩
  clear h hx hL
  go_enter Tryd.func3, Tryd.ntmps3
  go_wp2_with fail
  refine (small_any w).mono ?_
  rintro _ W2 ⟨g2, cg2, rfl, hP2, hb2⟩
  have HB2 : Hid (Below w.heap.size w W2) := hb2
  have c4 := write_any hP2 (fun x hx => by rw [List.mem_singleton] at hx; subst hx; exact ⟨_, _, rfl⟩) (show 1 ≤ 1000 by decide) sm_plc (HL.out.below hb2) 0 ⟨by decide, by decide⟩
  clear hP2 hb2
  dsimp only
  go_wp2_with fail
  refine c4.mono ?_
  rintro e3 W3 ⟨hb3, hw3⟩
  have hsm : Good 0 [smS] ∧ 64 + 56 * 1 + szs [smS] 1 ≤ 262144 := ⟨sm_good, by decide⟩
  rcases hw3 with ⟨_, _, v3, rfl, own3⟩ | ⟨hno, _⟩
  rotate_left
  · exact absurd hsm hno
  have own3 : W3.ownsRow W2.heap.size 5 1 v3 124 (lst (fil 0 [smS] smB) 124) := own3
  obtain ⟨g3, cp3, rfl, hF3⟩ := wrote own3 sm_good sm_plc (by decide) (by decide) sm_va smB_bd ⟨by decide, by decide⟩
  have HB3 : Hid (Below w.heap.size w W3) := HB2.out.trans (hb3.mono HB2.out.size)
  have c7 := reread hF3 (HL.out.below HB3.out)
  clear own3 hb3 c4 hsm hF3
  dsimp only
  go_upto_region 4 with fail
  go_wp2_with fail
  refine c7.mono ?_
  rintro _ W4 ⟨q4, cq4, E4, rfl, hE4, hS4, hl4, hb4⟩
  have HB4 : Hid (Below w.heap.size w W4) := HB3.out.trans (hb4.mono HB3.out.size)
  have HE4 : Hid (E4.map (·.1) = [smS]) := hE4
  have HS4 : Hid (Segs W4 W3.heap.size (.slice q4 E4.length cq4) E4 (fil 0 [smS] smB)) := hS4
  clear c7 hE4 hS4 hb4
  dsimp only
  go_upto_region 5 with fail
  have HB5 : Hid (Below W4.heap.size W4 (W4.alloc (.cells #[.int .u64 0, .slice q4 E4.length cq4] 30))) := (Below.refl _ _).alloc (Nat.le_refl _) _
  have k0 : (W4.alloc (.cells #[.int .u64 0, .slice q4 E4.length cq4] 30)).cell? ⟨W4.heap.size, 0, .none⟩ = some (.int .u64 0) := World.cell?_alloc_at _ _ _ _ rfl
  have k1 : (W4.alloc (.cells #[.int .u64 0, .slice q4 E4.length cq4] 30)).cell? ⟨W4.heap.size, 1, .none⟩ = some (.slice q4 E4.length cq4) := World.cell?_alloc_at _ _ _ _ rfl
  have f0 : ∀ i, (W4.alloc (.cells #[.int .u64 0, .slice q4 E4.length cq4] 30)).frozen? ⟨W4.heap.size, i, .none⟩ = false := fun i => World.frozen?_alloc_new _ _ _ _
  have HF0 : Hid (∀ i, (W4.alloc (.cells #[.int .u64 0, .slice q4 E4.length cq4] 30)).frozen? ⟨W4.heap.size, i, .none⟩ = false) := f0
  clear f0
  generalize (W4.alloc (.cells #[.int .u64 0, .slice q4 E4.length cq4] 30)) = W5 at *
  have HB5w : Hid (Below w.heap.size w W5) := HB4.out.trans (HB5.out.mono HB4.out.size)
  obtain ⟨p0, hp0⟩ : ∃ x, x = W4.heap.size := ⟨_, rfl⟩
  rw [← hp0] at k0 k1 HF0 ⊢
  have hp0w : w.heap.size ≤ p0 := by rw [hp0]; exact HB4.out.size
  have HP0 : Hid (p0 = W4.heap.size) := hp0
  clear hp0
  have bd : Below W5.heap.size W5 W5.drew := (Below.refl _ _).drew
  have kS : (W5.drew.cell? ⟨p0, 0, .none⟩ = some (.int .u64 0) ∧ W5.drew.cell? ⟨p0, 1, .none⟩ = some (.slice q4 E4.length cq4)) := ⟨(bd.cell (lt_of_cell k0)).trans k0, (bd.cell (lt_of_cell k1)).trans k1⟩
  have c6 := small_any W5.drew
  have HBd : Hid (Below W5.heap.size W5 W5.drew) := bd
  clear bd
  refine wp_region_held_drew (S := fun U2 => (U2.cell? ⟨p0, 0, .none⟩ = some (.int .u64 0) ∧ U2.cell? ⟨p0, 1, .none⟩ = some (.slice q4 E4.length cq4))) (by kernel_rfl) kS (fun hHeld => ?_)
  refine wpAnyH_take (i := 0) (v := .nilIface) rfl (by kernel_rfl) (by kernel_rfl) (by kernel_rfl) (fun _ _ _ h => h) (Or.inl ⟨by rfl, fun ww hSw => by (try dsimp only at hSw); go_simp⟩) (by assumption) ?_
  simp only [Act.put, List.setIfInBounds_toArray, List.set_cons_zero, List.set_cons_succ, List.getElem_toArray, List.getElem_cons_succ, List.getElem_cons_zero]
  refine wpAnyH_take (i := 1) (v := (.bool false)) rfl (by kernel_rfl) (by kernel_rfl) (by kernel_rfl) (fun _ _ _ h => h) (Or.inl ⟨by rfl, fun ww hSw => by (try dsimp only at hSw); go_simp⟩) (by assumption) ?_
  simp only [Act.put, List.setIfInBounds_toArray, List.set_cons_zero, List.set_cons_succ, List.getElem_toArray, List.getElem_cons_succ, List.getElem_cons_zero]
  refine wpAnyH_take (i := 2) (v := (.bool false)) rfl (by kernel_rfl) (by kernel_rfl) (by kernel_rfl) (fun _ _ _ h => h) (Or.inl ⟨by rfl, fun ww hSw => by (try dsimp only at hSw); go_simp⟩) (by assumption) ?_
  simp only [Act.put, List.setIfInBounds_toArray, List.set_cons_zero, List.set_cons_succ, List.getElem_toArray, List.getElem_cons_succ, List.getElem_cons_zero]
  refine wpAnyH_take (i := 3) (v := (.agg #[.int .u64 0, .slice q4 E4.length cq4])) rfl (by kernel_rfl) (by kernel_rfl) (by kernel_rfl) (fun _ _ _ h => h) (Or.inl ⟨by rfl, fun ww hSw => by (try dsimp only at hSw); go_simp⟩) (by assumption) ?_
  simp only [Act.put, List.setIfInBounds_toArray, List.set_cons_zero, List.set_cons_succ, List.getElem_toArray, List.getElem_cons_succ, List.getElem_cons_zero]
  refine wpAnyH_ready (rs := [4]) (by kernel_rfl) (by simp) ?_
  refine AllReadyH.cons rfl (fun K hK => ?_) AllReadyH.nil
  go_simp
  go_at_call 6
  refine c6.mono ?_
  rintro _ W6 ⟨g6, cg6, rfl, hP6, hb6⟩
  have kS6 : (W6.cell? ⟨p0, 0, .none⟩ = some (.int .u64 0) ∧ W6.cell? ⟨p0, 1, .none⟩ = some (.slice q4 E4.length cq4)) := ⟨(hb6.cell (lt_of_cell kS.1)).trans kS.1, (hb6.cell (lt_of_cell kS.2)).trans kS.2⟩
  have HB6 : Hid (Below W5.heap.size W5 W6) := HBd.out.trans (hb6.mono HBd.out.size)
  have c8 := same_small (HS4.out.below (HB5.out.trans (HB6.out.mono HB5.out.size))) HE4.out hP6
  refine hK.out _ _ kS6 (fun hHeld => ?_)
  clear hK K
  try simp only [Act.put, List.setIfInBounds_toArray, List.set_cons_zero, List.set_cons_succ, List.getElem_toArray, List.getElem_cons_succ, List.getElem_cons_zero]
  clear hb6 hP6 c6 kS
  refine wpAnyH_ready (rs := [5]) (by kernel_rfl) (by simp) ?_
  refine AllReadyH.cons rfl (fun K hK => ?_) AllReadyH.nil
  go_simp
  go_at_call 8
  refine c8.mono ?_
  rintro _ W7 ⟨rfl, hb7⟩
  have kS7 : (W7.cell? ⟨p0, 0, .none⟩ = some (.int .u64 0) ∧ W7.cell? ⟨p0, 1, .none⟩ = some (.slice q4 E4.length cq4)) := ⟨(hb7.cell (lt_of_cell kS6.1)).trans kS6.1, (hb7.cell (lt_of_cell kS6.2)).trans kS6.2⟩
  have HB7 : Hid (Below W5.heap.size W5 W7) := HB6.out.trans (hb7.mono HB6.out.size)
  refine hK.out _ _ kS7 (fun hHeld => ?_)
  clear hK K
  try simp only [Act.put, List.setIfInBounds_toArray, List.set_cons_zero, List.set_cons_succ, List.getElem_toArray, List.getElem_cons_succ, List.getElem_cons_zero]
  clear hb7 c8 kS6
  refine wpAnyH_take (i := 6) (v := (.bool false)) rfl (by kernel_rfl) (by kernel_rfl) (by kernel_rfl) (fun _ _ _ h => h) (Or.inl ⟨by rfl, fun ww hSw => by (try dsimp only at hSw); go_simp⟩) (by assumption) ?_
  simp only [Act.put, List.setIfInBounds_toArray, List.set_cons_zero, List.set_cons_succ, List.getElem_toArray, List.getElem_cons_succ, List.getElem_cons_zero]
  refine wpAnyH_take (i := 7) (v := (.bool false)) rfl (by kernel_rfl) (by kernel_rfl) (by kernel_rfl) (fun _ _ _ h => h) (Or.inl ⟨by rfl, fun ww hSw => by (try dsimp only at hSw); go_simp⟩) (by assumption) ?_
  simp only [Act.put, List.setIfInBounds_toArray, List.set_cons_zero, List.set_cons_succ, List.getElem_toArray, List.getElem_cons_succ, List.getElem_cons_zero]
  refine wpAnyH_done (by kernel_rfl) ?_ _
  have k70 := kS7.1
  have k71 := kS7.2
  clear kS7
  have HB7w : Hid (Below w.heap.size w W7) := HB5w.out.trans (HB7.out.mono HB5w.out.size)
  have HF7 : Hid (∀ i, W7.frozen? ⟨p0, i, .none⟩ = false) := fun i => (HB7.out.frozen (p := ⟨p0, i, .none⟩) (show p0 < W5.heap.size from lt_of_cell (x := ⟨p0, 0, .none⟩) k0)).trans (HF0.out i)
  clear HF0 k0 k1
  have HK70 : Hid _ := k70
  have HK71 : Hid _ := k71
  by_cases hbig : 400000 < n
  · have hbi : (400000 : Int) < n := by omega
    go_wp2_with fail
    go_ret
    exact ⟨rfl, HB7w.out⟩
  have hbi : ¬ (400000 : Int) < n := by omega
  have c9 := copyBytes_any (byt_below HA.out HB7w.out) (by omega)
  go_upto_region 9 with fail
  go_wp2_with fail
  refine c9.mono ?_
  rintro _ W8 ⟨p8, c8, rfl, own8, hb8⟩
  have HB8 : Hid (Below W7.heap.size W7 W8) := hb8
  have HB8w : Hid (Below w.heap.size w W8) := HB7w.out.trans (hb8.mono HB7w.out.size)
  have c10 := read_own own8 HXB.out (HL.out.below HB8w.out)
  clear own8 hb8 c9
  dsimp only
  go_wp2_with fail
  refine c10.mono ?_
  rintro e9 W9 ⟨hb9, hr9⟩
  have HB9 : Hid (Below W7.heap.size W7 W9) := HB8.out.trans (hb9.mono HB8.out.size)
  have HB9w : Hid (Below w.heap.size w W9) := HB7w.out.trans (HB9.out.mono HB7w.out.size)
  have k90 : W9.cell? ⟨p0, 0, .none⟩ = some (.int .u64 0) := (HB9.out.cell (lt_of_cell HK70.out)).trans HK70.out
  have k91 : W9.cell? ⟨p0, 1, .none⟩ = some (.slice q4 E4.length cq4) := (HB9.out.cell (lt_of_cell HK71.out)).trans HK71.out
  have HF9 : Hid (∀ i, W9.frozen? ⟨p0, i, .none⟩ = false) := fun i => (HB9.out.frozen (p := ⟨p0, i, .none⟩) (show p0 < W7.heap.size from lt_of_cell (x := ⟨p0, 0, .none⟩) HK70.out)).trans (HF7.out i)
  have z90 := HF9.out 0
  have z91 := HF9.out 1
  have hp8 : p0 < W8.heap.size := Nat.lt_of_lt_of_le (lt_of_cell (x := ⟨p0, 0, .none⟩) HK70.out) HB8.out.size
  clear c10 hb9 k70 k71
  rcases hr9 with ⟨pf, rfl⟩ | ⟨q9, c9, E, en, rfl, hen, hS9, hl9, hz9, hg9⟩
  · dsimp only
    go_wp2_with fail
    go_ret
    exact ⟨rfl, (HB9w.out.setCell (p := ⟨p0, 0, .none⟩) hp0w _).setCell (p := ⟨p0, 1, .none⟩) hp0w _⟩
  have HS9 : Hid (Segs W9 W8.heap.size (.slice q9 E.length c9) E (fun i => xs.getD i 0)) := hS9
  have HG9 : Hid (Good en (E.map (·.1))) := hg9
  have HZ9 : Hid (∀ x ∈ E, x.1.sz ≤ 262144) := hz9
  clear hS9 hg9 hz9
  have hcE := own_capN HS9.out.own
  dsimp only
  go_upto_region 10 with fail
  have k100 : ((W9.setCell ⟨p0, 0, .none⟩ (.int .u64 en)).setCell ⟨p0, 1, .none⟩ (.slice q9 E.length c9)).cell? ⟨p0, 0, .none⟩ = some (.int .u64 en) := (World.cell?_setCell_other _ _ _ _ (by simp)).trans (World.cell?_setCell_same' _ _ _ (by rw [k90]; rfl))
  have k101 : ((W9.setCell ⟨p0, 0, .none⟩ (.int .u64 en)).setCell ⟨p0, 1, .none⟩ (.slice q9 E.length c9)).cell? ⟨p0, 1, .none⟩ = some (.slice q9 E.length c9) := World.cell?_setCell_same' _ _ _ (by rw [World.cell?_setCell_other _ _ _ _ (by simp), k91]; rfl)
  have HS10 : Hid (Segs ((W9.setCell ⟨p0, 0, .none⟩ (.int .u64 en)).setCell ⟨p0, 1, .none⟩ (.slice q9 E.length c9)) W8.heap.size (.slice q9 E.length c9) E (fun i => xs.getD i 0)) := (HS9.out.low (a := ⟨p0, 0, .none⟩) hp8 _).low (a := ⟨p0, 1, .none⟩) hp8 _
  have HB10 : Hid (Below w.heap.size w ((W9.setCell ⟨p0, 0, .none⟩ (.int .u64 en)).setCell ⟨p0, 1, .none⟩ (.slice q9 E.length c9))) := (HB9w.out.setCell (p := ⟨p0, 0, .none⟩) hp0w _).setCell (p := ⟨p0, 1, .none⟩) hp0w _
  clear k90 k91 z90 z91
  generalize ((W9.setCell ⟨p0, 0, .none⟩ (.int .u64 en)).setCell ⟨p0, 1, .none⟩ (.slice q9 E.length c9)) = W10 at *
  have HP10 : Hid (Prs W10 W8.heap.size (.slice q9 E.length c9) E (fun i => xs.getD i 0)) := HS10.out.prs (fun x hx => Nat.le_trans (HZ9.out x hx) (by decide))
  have HA10 : Hid (Arg W10 q9 E.length c9 (srs E) (datD E (fun i => xs.getD i 0))) := HP10.out.arg HXB.out
  have HK0 : Hid _ := k100
  have HK1 : Hid _ := k101
  go_upto_region 13 with fail
  go_wp2_with fail
  go_loopw [6, 7] (fun a k wr => ∃ i : Nat, i ≤ E.length ∧ k = .int .i64 i ∧ a = .int .i64 (64 + 56 * E.length + sumN (srs E) i) ∧ wr = W10) (fun _ k _ => (E.length - intOf k).toNat)
  case atStart => exact ⟨0, by omega, rfl, by simp [sumN], rfl⟩
  case round =>
    obtain ⟨i, hi, rfl, rfl, hwr⟩ := hrel
    subst hwr
    have hsi := sum_nb (srs E) E.length HA10.out.nb i hi
    by_cases hlt : i < E.length
    · have g0 : (i : Int) < E.length := by omega
      obtain ⟨b, o, rfl, a0, a1, a2, a3⟩ := HA10.out.seg hlt
      have hb := HA10.out.nb i hlt
      have hs2 : sumN (srs E) (i + 1) = sumN (srs E) i + (srs E i).n := rfl
      clear a0 a1 a3
      go_wp2_with fail
      exact ⟨⟨i + 1, by omega, by simp, by rw [hs2]; congr 1; push_cast; omega, trivial⟩, by simp [intOf]; omega⟩
    · have he' : i = E.length := by omega
      have hn9 : ¬ ((i : Int) < E.length) := by omega
      subst he'
      obtain ⟨E', hP', hE'⟩ := HP10.out.placed
      have hEl' : E'.length = E.length := by have := congrArg List.length hE'; rwa [List.length_map, sgsG_len] at this
      have c5 := writeN_any hP' (by omega) (by rw [hE']; exact plc_sgs) (HL.out.below HB10.out) en hen
      have HE' : Hid (E'.map (·.1) = sgsG (srs E) E.length) := hE'
      have HEl' : Hid (E'.length = E.length) := hEl'
      have HGd : Hid (Good en (sgsG (srs E) E.length)) := good_ky (ky_sgs HP10.out) HG9.out
      clear hP' hE' hEl'
      obtain ⟨T, hTT⟩ : ∃ T, T = 64 + 56 * E.length + sumN (srs E) E.length := ⟨_, rfl⟩
      have HTT : Hid (T = 64 + 56 * E.length + sumN (srs E) E.length) := hTT
      have hTi : (64 : Int) + 56 * E.length + sumN (srs E) E.length = T := by omega
      rw [hTi]
      clear hTi hTT hsi
      go_upto_region 17 with fail
      go_wp2_with fail
      refine c5.mono ?_
      rintro e11 W11 ⟨hb11, hw11⟩
      rw [HE'.out, HEl'.out, szs_sgs E.length (Nat.le_refl _), ← HTT.out] at hw11
      have HB11 : Hid (Below wr.heap.size wr W11) := hb11
      have HB11w : Hid (Below w.heap.size w W11) := HB10.out.trans (hb11.mono HB10.out.size)
      clear c5 hb11
      by_cases hT : T ≤ 262144
      rotate_left
      · have hTi : (262144 : Int) < T := by omega
        rcases hw11 with ⟨_, hno, _⟩ | ⟨_, pf, rfl⟩
        · exact absurd hno hT
        · dsimp only
          go_wp2_with fail
          go_ret
          exact ⟨rfl, HB11w.out⟩
      have hTi : ¬ (262144 : Int) < T := by omega
      rcases hw11 with ⟨_, _, v11, rfl, own11⟩ | ⟨hno, _⟩
      rotate_left
      · exact absurd ⟨HGd.out, hT⟩ hno
      have hv : ∀ s ∈ sgsG (srs E) E.length, 0 ≤ s.va := fun s hs => by
        obtain ⟨k, hk, hke⟩ := List.getElem_of_mem hs
        obtain ⟨hk2, e⟩ := sgsG_get (S := srs E) (m := E.length) (i := k) (s := s) (by rw [List.getElem?_eq_getElem hk, hke])
        rw [e]
        exact (HA10.out.va k hk2).1
      obtain ⟨g11, cp11, rfl, hF11⟩ := wrote own11 HGd.out plc_sgs (by rw [sgsG_len, szs_sgs E.length (Nat.le_refl _)]; exact HTT.out) hT hv (datB_bd HA10.out.by_) hen
      have c7 := reread hF11 (HL.out.below HB11w.out)
      clear own11 hF11 hv
      dsimp only
      go_upto_region 22 with fail
      go_wp2_with fail
      refine c7.mono ?_
      rintro _ W12 ⟨q12, c12, E12, rfl, hE12, hS12, hl12, hb12⟩
      have HB12 : Hid (Below wr.heap.size wr W12) := HB11.out.trans (hb12.mono HB11.out.size)
      have HB12w : Hid (Below w.heap.size w W12) := HB10.out.trans (HB12.out.mono HB10.out.size)
      have HB13 : Hid (Below W12.heap.size W12 (W12.alloc (.cells #[.int .u64 en, .slice q12 E12.length c12] 30))) := (Below.refl _ _).alloc (Nat.le_refl _) _
      have hEl12 : E12.length = E.length := by have := congrArg List.length hE12; rwa [List.length_map, sgsG_len] at this
      have m0 : (W12.alloc (.cells #[.int .u64 en, .slice q12 E12.length c12] 30)).cell? ⟨p0, 0, .none⟩ = some (.int .u64 en) := (HB13.out.cell (Nat.lt_of_lt_of_le (lt_of_cell HK0.out) HB12.out.size)).trans ((HB12.out.cell (lt_of_cell HK0.out)).trans HK0.out)
      have m1 : (W12.alloc (.cells #[.int .u64 en, .slice q12 E12.length c12] 30)).cell? ⟨p0, 1, .none⟩ = some (.slice q9 E.length c9) := (HB13.out.cell (Nat.lt_of_lt_of_le (lt_of_cell HK1.out) HB12.out.size)).trans ((HB12.out.cell (lt_of_cell HK1.out)).trans HK1.out)
      have hz12 : ∀ x ∈ E12, x.1.sz ≤ 400000 := fun x hx => by
        obtain ⟨k, hk, hke⟩ := List.getElem_of_mem hx
        have hs : (sgsG (srs E) E.length)[k]? = some x.1 := by rw [← hE12, List.getElem?_map, List.getElem?_eq_getElem hk, hke]; rfl
        obtain ⟨hk2, e⟩ := sgsG_get hs
        obtain ⟨y, hy⟩ : ∃ y, E[k]? = some y := ⟨E[k], List.getElem?_eq_getElem hk2⟩
        rw [e]
        show (srs E k).n ≤ 400000
        rw [(HP10.out.sr hy).2.2.2]
        exact HP10.out.sz y (List.mem_of_getElem? hy)
      have c8 := same_two (HS10.out.below (HB12.out.trans (HB13.out.mono HB12.out.size))) ((hS12.prs hz12).below HB13.out) (fil_bd en _ _ (datB_bd HA10.out.by_)) (by omega) hEl12 (fun k x y hx hy => by
        have hs : (sgsG (srs E) E.length)[k]? = some y.1 := by rw [← hE12, List.getElem?_map, hy]; rfl
        obtain ⟨hk2, e⟩ := sgsG_get hs
        obtain ⟨r1, r2, r3, r4⟩ := HP10.out.sr hx
        refine ⟨by rw [e]; exact r1, by rw [e]; exact r2, by rw [e]; exact r3, by rw [e]; exact r4, ?_⟩
        rw [fil_bytes plc_sgs (List.mem_of_getElem? hs), datB_byt HP10.out.len hs, datD_some hx]) en
      clear hE12 hS12 hb12 c7 hz12 hEl12
      dsimp only
      go_wp2_with (first | (go_at_call 8; refine c8.mono ?_; rintro _ W14 ⟨rfl, hb14⟩) | fail)
      go_ret
      refine ⟨rfl, ?_⟩
      have hA13 := HB12w.out.trans (HB13.out.mono HB12w.out.size)
      exact hA13.trans (hb14.mono hA13.size)
end Go.Proofs.YtpdlcjcigeegjaaDoor
