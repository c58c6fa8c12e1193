import Derived.Test.YtblpdnchphhcaabDoorPw
namespace Go.Proofs.YtblpdnchphhcaabDoor
open Go.RowKit
set_option linter.unusedVariables false
set_option linter.unusedSimpArgs false
/-- A box of a step. -/
structure Ob (W : World) (ob : Nat) (k B n : Int) (s : Option Addr) (ln cd : Nat) : Prop where
  c0 : W.cell? ⟨ob, 0, .none⟩ = some (.int .i64 k)
  c1 : W.cell? ⟨ob, 1, .none⟩ = some (.int .u8 B)
  c2 : W.cell? ⟨ob, 2, .none⟩ = some (.int .i64 n)
  c3 : W.cell? ⟨ob, 3, .none⟩ = some (.slice s ln cd)
theorem ob_new (w : World) (k B n : Int) (s : Option Addr) (ln cd : Nat) : Ob (w.alloc (.cells #[.int .i64 k, .int .u8 B, .int .i64 n, .slice s ln cd] 31)) w.heap.size k B n s ln cd := by
  constructor <;> rw [World.cell?_alloc_at _ _ _ _ rfl] <;> rfl
theorem Ob.keep {W V : World} {ob : Nat} {k B n : Int} {s : Option Addr} {ln cd : Nat} {S : Nat → Prop} (h : Ob W ob k B n s ln cd) (t : Chg S W V) (hs : ¬ S ob) : Ob V ob k B n s ln cd :=
  ⟨(t.cell (p := ⟨ob, 0, .none⟩) (lt_cell h.c0) hs).trans h.c0, (t.cell (p := ⟨ob, 1, .none⟩) (lt_cell h.c1) hs).trans h.c1, (t.cell (p := ⟨ob, 2, .none⟩) (lt_cell h.c2) hs).trans h.c2, (t.cell (p := ⟨ob, 3, .none⟩) (lt_cell h.c3) hs).trans h.c3⟩
/-- Both consoles, in whatever state. -/
def Pr (w V : World) (pb : Nat) : Prop := ∃ b dd D rs ls, Pw w V pb b dd D rs ls rs ls ∧ okC rs ls = true
theorem Pr.of {w W V : World} {pb b dd : Nat} {D : Nat → Prop} (h : Pst w W pb b dd D V) : Pr w V pb := by
  obtain ⟨D', rs, ls, h1, h2, _⟩ := h
  exact ⟨b, dd, D', rs, ls, h1, h2⟩
set_option maxHeartbeats 32000000 in
set_option maxRecDepth 100000 in
theorem step_any {w W : World} {pb : Nat} (hp : Pr w W pb) (hd : Dd w) (k B n : Int) (hB : 0 ≤ B ∧ B < 256) {s : Option Addr} {ln cd : Nat} {xs : List Int} (hs : Byt w s ln cd xs) (hx : ∀ x ∈ xs, 0 ≤ x ∧ x < 256) :
    Calls Tryd.prog 5 #[.pointer (some ⟨pb, 0, .none⟩), .agg #[.int .i64 k, .int .u8 B, .int .i64 n, .slice s ln cd]] W fun e V => e = .returned (.bool true) ∧ Pr w V pb := by
  obtain ⟨b, dd, D, rs, ls, hP, hok⟩ := hp
  have HOK : Hid (okC rs ls = true) := hok
  have HD : Hid (Dd w) := hd
  have HB : Hid (0 ≤ B ∧ B < 256) := hB
  have HS : Hid (Byt w s ln cd xs) := hs
  have HX : Hid (∀ x ∈ xs, 0 ≤ x ∧ x < 256) := hx
  have hnc := hs.2.1
  have hcm : cd ≤ 9223372036854775807 := hs.2.2.1
  have HP : Hid (Pw w W pb b dd D rs ls rs ls) := hP
  clear hP hok hd hB hs hx
  go_enter Tryd.func5, Tryd.ntmps5
  go_upto_region 1 with fail
  have hs1 := ob_new W k B n s ln cd
  have hb1 := Trn.new W (.cells #[.int .i64 k, .int .u8 B, .int .i64 n, .slice s ln cd] 31)
  generalize W.alloc (.cells #[.int .i64 k, .int .u8 B, .int .i64 n, .slice s ln cd] 31) = W1 at *
  have H1 : Hid (Pw w W1 pb b dd D rs ls rs ls ∧ Ob W1 W.heap.size k B n s ln cd ∧ ¬ D W.heap.size ∧ W.heap.size ≠ b ∧ W.heap.size ≠ pb) := by
    have h := HP.out
    refine ⟨h.below hb1, hs1, fun e => ?_, ?_, ?_⟩
    · have := (h.wD _ e).2; omega
    · have := h.con.lt; omega
    · have := lt_cell h.p0; intro e; simp at this; omega
  clear hs1 hb1 HP
  generalize W.heap.size = ob at *
  have q0 := H1.out.2.1.c0
  by_cases k1 : k = 1
  · subst k1
    have q1 := H1.out.2.1.c1
    go_wp2_with fail
    refine (typed_any H1.out.1 HOK.out HD.out B HB.out).mono ?_
    rintro e V ⟨rfl, hV⟩
    have HE : Hid (Pr w V pb) := Pr.of hV
    clear hV
    go_wp2
    go_ret
    exact ⟨rfl, HE.out⟩
  have i1 : (k == 1) = false := by simpa using k1
  by_cases k2 : k = 2
  · subst k2
    clear i1 k1
    go_wp2
    go_loopw [5] (fun v wr => ∃ (i : Nat) (D' : Nat → Prop) (rs ls : List Int), i ≤ 600 ∧ i ≤ ln ∧ v = .int .i64 i ∧ Hid (Pw w wr pb b dd D' rs ls rs ls ∧ Ob wr ob 2 B n s ln cd ∧ ¬ D' ob ∧ okC rs ls = true)) (fun v _ => (600 - intOf v).toNat)
    case atStart => exact ⟨0, D, rs, ls, by omega, by omega, rfl, H1.out.1, H1.out.2.1, H1.out.2.2.1, HOK.out⟩
    case round =>
      obtain ⟨i, D', rs2, ls2, hi6, hil, rfl, HH⟩ := hrel
      have q3 := HH.out.2.1.c3
      by_cases h1 : i < ln
      · have g1 : (i : Int) < ln := by omega
        by_cases h2 : i < 600
        · have g2 : (i : Int) < 600 := by omega
          obtain ⟨x, hx⟩ : ∃ x, xs[i]? = some x := ⟨xs[i]'(by rw [HS.out.1]; exact h1), by simp⟩
          obtain ⟨gb, o, rfl, a1⟩ : ∃ gb o, s = some ⟨gb, o, .none⟩ ∧ wr.cell? ⟨gb, o + i, .none⟩ = some (.int .u8 x) := by
            rcases HS.out.2.2.2 with h | ⟨gb, o, h1, h2, h3⟩
            · omega
            · exact ⟨gb, o, h1, (HH.out.1.bel.cell (p := ⟨gb, o + i, .none⟩) h2).trans (h3 i x hx)⟩
          have hxb := HX.out x (List.mem_of_getElem? hx)
          have c1 := typed_any HH.out.1 HH.out.2.2.2 HD.out x hxb
          clear hx hxb
          go_wp2_with fail
          refine c1.mono ?_
          rintro e V ⟨rfl, D2, rs3, ls3, hPw, hok, hChg, hD2⟩
          have H2 : Hid (Pw w V pb b dd D2 rs3 ls3 rs3 ls3 ∧ Ob V ob 2 B n (some ⟨gb, o, .none⟩) ln cd ∧ ¬ D2 ob ∧ okC rs3 ls3 = true) := by
            have h := HH.out
            refine ⟨hPw, h.2.1.keep hChg (fun e => ?_), fun e => h.2.2.1 (hD2 ob e (lt_cell h.2.1.c0)), hok⟩
            rcases e with e | e
            · exact H1.out.2.2.2.1 e
            · exact h.2.2.1 e
          clear hPw hok hChg hD2 c1 a1 q3
          go_wp2
          exact ⟨⟨i + 1, D2, rs3, ls3, by omega, by omega, rfl, H2.out⟩, by simp only [intOf]; omega⟩
        · have g2 : ¬ (i : Int) < 600 := by omega
          have HE : Hid (Pr w wr pb) := ⟨b, dd, D', rs2, ls2, HH.out.1, HH.out.2.2.2⟩
          go_wp2
          go_ret
          exact ⟨rfl, HE.out⟩
      · have g1 : ¬ (i : Int) < ln := by omega
        have HE : Hid (Pr w wr pb) := ⟨b, dd, D', rs2, ls2, HH.out.1, HH.out.2.2.2⟩
        go_wp2
        go_ret
        exact ⟨rfl, HE.out⟩
  have i2 : (k == 2) = false := by simpa using k2
  by_cases k3 : k = 3
  · subst k3
    clear i1 i2 k1 k2
    go_upto_region 11 with fail
    clear q0
    have kS : W1.drew.cell? ⟨pb, 0, .none⟩ = some (.pointer (some ⟨b, 0, .none⟩)) ∧ W1.drew.cell? ⟨ob, 2, .none⟩ = some (.int .i64 n) := ⟨H1.out.1.p0, H1.out.2.1.c2⟩
    refine wp_region_held_drew (S := fun U => U.cell? ⟨pb, 0, .none⟩ = some (.pointer (some ⟨b, 0, .none⟩)) ∧ U.cell? ⟨ob, 2, .none⟩ = some (.int .i64 n)) (by kernel_rfl) kS (fun hHeld => ?_)
    refine wpAnyH_take (i := 0) (v := (.pointer (some ⟨pb, 0, .none⟩))) rfl (by kernel_rfl) (by kernel_rfl) (by kernel_rfl) (fun _ _ _ h => h) (Or.inl ⟨by rfl, fun ww hSw => by (try dsimp only at hSw); go_simp⟩) (by assumption) ?_
    simp only [Act.put, List.setIfInBounds_toArray, List.set_cons_zero, List.set_cons_succ, List.getElem_toArray, List.getElem_cons_succ, List.getElem_cons_zero]
    refine wpAnyH_take (i := 1) (v := (.pointer (some ⟨pb, 0, .none⟩))) rfl (by kernel_rfl) (by kernel_rfl) (by kernel_rfl) (fun _ _ _ h => h) (Or.inl ⟨by rfl, fun ww hSw => by (try dsimp only at hSw); go_simp⟩) (by assumption) ?_
    simp only [Act.put, List.setIfInBounds_toArray, List.set_cons_zero, List.set_cons_succ, List.getElem_toArray, List.getElem_cons_succ, List.getElem_cons_zero]
    refine wpAnyH_take (i := 2) (v := (.pointer (some ⟨pb, 0, .none⟩))) rfl (by kernel_rfl) (by kernel_rfl) (by kernel_rfl) (fun _ _ _ h => h) (Or.inl ⟨by rfl, fun ww hSw => by (try dsimp only at hSw); go_simp⟩) (by assumption) ?_
    simp only [Act.put, List.setIfInBounds_toArray, List.set_cons_zero, List.set_cons_succ, List.getElem_toArray, List.getElem_cons_succ, List.getElem_cons_zero]
    refine wpAnyH_take (i := 3) (v := (.pointer (some ⟨b, 0, .none⟩))) rfl (by kernel_rfl) (by kernel_rfl) (by kernel_rfl) (fun _ _ _ h => h) (Or.inl ⟨by rfl, fun ww hSw => by (try dsimp only at hSw); go_simp⟩) (by assumption) ?_
    simp only [Act.put, List.setIfInBounds_toArray, List.set_cons_zero, List.set_cons_succ, List.getElem_toArray, List.getElem_cons_succ, List.getElem_cons_zero]
    refine wpAnyH_take (i := 4) (v := (.pointer (some ⟨ob, 2, .none⟩))) rfl (by kernel_rfl) (by kernel_rfl) (by kernel_rfl) (fun _ _ _ h => h) (Or.inl ⟨by rfl, fun ww hSw => by (try dsimp only at hSw); go_simp⟩) (by assumption) ?_
    simp only [Act.put, List.setIfInBounds_toArray, List.set_cons_zero, List.set_cons_succ, List.getElem_toArray, List.getElem_cons_succ, List.getElem_cons_zero]
    refine wpAnyH_take (i := 5) (v := (.int .i64 n)) rfl (by kernel_rfl) (by kernel_rfl) (by kernel_rfl) (fun _ _ _ h => h) (Or.inl ⟨by rfl, fun ww hSw => by (try dsimp only at hSw); go_simp⟩) (by assumption) ?_
    simp only [Act.put, List.setIfInBounds_toArray, List.set_cons_zero, List.set_cons_succ, List.getElem_toArray, List.getElem_cons_succ, List.getElem_cons_zero]
    refine wpAnyH_ready (rs := [6]) (by kernel_rfl) (by simp) ?_
    refine AllReadyH.cons rfl (fun K hK => ?_) AllReadyH.nil
    go_simp
    have cT := take_all (H1.out.1.drewN 1).con n
    have CDD : Hid (∀ V D, Doc V dd D rs ls → Calls Tryd.prog 12 #[.pointer (some ⟨dd, 0, .none⟩), .int .i64 n] V (DTy V dd D (rs.drop (nxG rs n)) ls (rs.take (nxT rs n)) (decide (0 < rs.length)))) := fun V D hV => rtake_any hV n
    have HO2 : Hid (okC (rs.drop (nxG rs n)) ls = true) := okC_drop HOK.out _
    generalize rs.drop (nxG rs n) = R2 at *
    have hEl : (rs.take (nxT rs n)).length ≤ 1000 := by rw [List.length_take]; have := H1.out.1.con.le; omega
    generalize rs.take (nxT rs n) = E2 at *
    generalize decide (0 < rs.length) = B2 at *
    refine cT.mono ?_
    rintro e V1 ⟨px, cx, rfl, hO, hC, hT⟩
    have H2 : Hid (Pw w V1 pb b dd D R2 ls rs ls ∧ Ob V1 ob 3 B n s ln cd ∧ V1.ownsRow W1.heap.size 5 1 (.slice px E2.length cx) E2.length (by8 E2)) := by
      have h := H1.out
      exact ⟨(h.1.drewN 1).con' hT hC, h.2.1.keep (⟨(Chg.ofTrn hT).os, (Chg.ofTrn hT).tape, (Chg.ofTrn hT).output, (Chg.ofTrn hT).size, (Chg.ofTrn hT).block⟩ : Chg (· = b) W1 V1) h.2.2.2.1, hO⟩
    have kS1 : V1.cell? ⟨pb, 0, .none⟩ = some (.pointer (some ⟨b, 0, .none⟩)) ∧ V1.cell? ⟨ob, 2, .none⟩ = some (.int .i64 n) := ⟨H2.out.1.p0, H2.out.2.1.c2⟩
    clear hO hC hT cT kS
    refine hK.out _ _ kS1 (fun hHeld => ?_)
    clear hK K
    try simp only [Act.put, List.setIfInBounds_toArray, List.set_cons_zero, List.set_cons_succ, List.getElem_toArray, List.getElem_cons_succ, List.getElem_cons_zero]
    refine wpAnyH_take (i := 7) (v := (.tuple #[.slice px E2.length cx, .bool B2])) rfl (by kernel_rfl) (by kernel_rfl) (by kernel_rfl) (fun _ _ _ h => h) (Or.inl ⟨by rfl, fun ww hSw => by (try dsimp only at hSw); go_simp⟩) (by assumption) ?_
    simp only [Act.put, List.setIfInBounds_toArray, List.set_cons_zero, List.set_cons_succ, List.getElem_toArray, List.getElem_cons_succ, List.getElem_cons_zero]
    refine wpAnyH_take (i := 8) (v := (.slice px E2.length cx)) rfl (by kernel_rfl) (by kernel_rfl) (by kernel_rfl) (fun _ _ _ h => h) (Or.inl ⟨by rfl, fun ww hSw => by (try dsimp only at hSw); go_simp⟩) (by assumption) ?_
    simp only [Act.put, List.setIfInBounds_toArray, List.set_cons_zero, List.set_cons_succ, List.getElem_toArray, List.getElem_cons_succ, List.getElem_cons_zero]
    refine wpAnyH_take (i := 9) (v := (.bool B2)) rfl (by kernel_rfl) (by kernel_rfl) (by kernel_rfl) (fun _ _ _ h => h) (Or.inl ⟨by rfl, fun ww hSw => by (try dsimp only at hSw); go_simp⟩) (by assumption) ?_
    simp only [Act.put, List.setIfInBounds_toArray, List.set_cons_zero, List.set_cons_succ, List.getElem_toArray, List.getElem_cons_succ, List.getElem_cons_zero]
    refine wpAnyH_take (i := 10) (v := (.slice px E2.length cx)) rfl (by kernel_rfl) (by kernel_rfl) (by kernel_rfl) (fun _ _ _ h => h) (Or.inl ⟨by rfl, fun ww hSw => by (try dsimp only at hSw); go_simp⟩) (by assumption) ?_
    simp only [Act.put, List.setIfInBounds_toArray, List.set_cons_zero, List.set_cons_succ, List.getElem_toArray, List.getElem_cons_succ, List.getElem_cons_zero]
    refine wpAnyH_take (i := 11) (v := (.bool B2)) rfl (by kernel_rfl) (by kernel_rfl) (by kernel_rfl) (fun _ _ _ h => h) (Or.inl ⟨by rfl, fun ww hSw => by (try dsimp only at hSw); go_simp⟩) (by assumption) ?_
    simp only [Act.put, List.setIfInBounds_toArray, List.set_cons_zero, List.set_cons_succ, List.getElem_toArray, List.getElem_cons_succ, List.getElem_cons_zero]
    refine wpAnyH_done (by kernel_rfl) ?_ _
    clear hHeld kS1
    go_upto_region 12 with fail
    have kS : V1.drew.cell? ⟨pb, 1, .none⟩ = some (.pointer (some ⟨dd, 0, .none⟩)) ∧ V1.drew.cell? ⟨ob, 2, .none⟩ = some (.int .i64 n) := ⟨H2.out.1.p1, H2.out.2.1.c2⟩
    refine wp_region_held_drew (S := fun U => U.cell? ⟨pb, 1, .none⟩ = some (.pointer (some ⟨dd, 0, .none⟩)) ∧ U.cell? ⟨ob, 2, .none⟩ = some (.int .i64 n)) (by kernel_rfl) kS (fun hHeld => ?_)
    refine wpAnyH_take (i := 0) (v := (.pointer (some ⟨pb, 0, .none⟩))) rfl (by kernel_rfl) (by kernel_rfl) (by kernel_rfl) (fun _ _ _ h => h) (Or.inl ⟨by rfl, fun ww hSw => by (try dsimp only at hSw); go_simp⟩) (by assumption) ?_
    simp only [Act.put, List.setIfInBounds_toArray, List.set_cons_zero, List.set_cons_succ, List.getElem_toArray, List.getElem_cons_succ, List.getElem_cons_zero]
    refine wpAnyH_take (i := 1) (v := (.pointer (some ⟨pb, 0, .none⟩))) rfl (by kernel_rfl) (by kernel_rfl) (by kernel_rfl) (fun _ _ _ h => h) (Or.inl ⟨by rfl, fun ww hSw => by (try dsimp only at hSw); go_simp⟩) (by assumption) ?_
    simp only [Act.put, List.setIfInBounds_toArray, List.set_cons_zero, List.set_cons_succ, List.getElem_toArray, List.getElem_cons_succ, List.getElem_cons_zero]
    refine wpAnyH_take (i := 2) (v := (.pointer (some ⟨pb, 1, .none⟩))) rfl (by kernel_rfl) (by kernel_rfl) (by kernel_rfl) (fun _ _ _ h => h) (Or.inl ⟨by rfl, fun ww hSw => by (try dsimp only at hSw); go_simp⟩) (by assumption) ?_
    simp only [Act.put, List.setIfInBounds_toArray, List.set_cons_zero, List.set_cons_succ, List.getElem_toArray, List.getElem_cons_succ, List.getElem_cons_zero]
    refine wpAnyH_take (i := 3) (v := (.pointer (some ⟨dd, 0, .none⟩))) rfl (by kernel_rfl) (by kernel_rfl) (by kernel_rfl) (fun _ _ _ h => h) (Or.inl ⟨by rfl, fun ww hSw => by (try dsimp only at hSw); go_simp⟩) (by assumption) ?_
    simp only [Act.put, List.setIfInBounds_toArray, List.set_cons_zero, List.set_cons_succ, List.getElem_toArray, List.getElem_cons_succ, List.getElem_cons_zero]
    refine wpAnyH_take (i := 4) (v := (.pointer (some ⟨ob, 2, .none⟩))) rfl (by kernel_rfl) (by kernel_rfl) (by kernel_rfl) (fun _ _ _ h => h) (Or.inl ⟨by rfl, fun ww hSw => by (try dsimp only at hSw); go_simp⟩) (by assumption) ?_
    simp only [Act.put, List.setIfInBounds_toArray, List.set_cons_zero, List.set_cons_succ, List.getElem_toArray, List.getElem_cons_succ, List.getElem_cons_zero]
    refine wpAnyH_take (i := 5) (v := (.int .i64 n)) rfl (by kernel_rfl) (by kernel_rfl) (by kernel_rfl) (fun _ _ _ h => h) (Or.inl ⟨by rfl, fun ww hSw => by (try dsimp only at hSw); go_simp⟩) (by assumption) ?_
    simp only [Act.put, List.setIfInBounds_toArray, List.set_cons_zero, List.set_cons_succ, List.getElem_toArray, List.getElem_cons_succ, List.getElem_cons_zero]
    refine wpAnyH_ready (rs := [6]) (by kernel_rfl) (by simp) ?_
    refine AllReadyH.cons rfl (fun K hK => ?_) AllReadyH.nil
    go_simp
    refine (CDD.out V1.drew D (H2.out.1.drewN 1).doc).mono ?_
    rintro e V3 ⟨py, cy, D', rfl, hO, hDoc, hChg, hD1, hDr, hDl⟩
    have H3 : Hid (Pw w V3 pb b dd D' R2 ls R2 ls ∧ Ob V3 ob 3 B n s ln cd ∧ Byt V3 px E2.length cx E2 ∧ Byt V3 py E2.length cy E2) := by
      have h := H2.out
      refine ⟨(h.1.drewN 1).doc' hChg hDoc hD1 hDl, h.2.1.keep (⟨hChg.os, hChg.tape, hChg.output, hChg.size, hChg.block⟩ : Chg D V1 V3) H1.out.2.2.1, byt_own (hChg.own (show V1.drew.ownsRow W1.heap.size 5 1 (.slice px E2.length cx) E2.length (by8 E2) from h.2.2) (fun g hg e => ?_)), byt_own hO⟩
      have h1 := own_block h.2.2 g hg
      have h2 := (H1.out.1.wD g e).2
      omega
    clear hDoc hChg hD1 hDr hDl
    have kS1 : V3.cell? ⟨pb, 1, .none⟩ = some (.pointer (some ⟨dd, 0, .none⟩)) ∧ V3.cell? ⟨ob, 2, .none⟩ = some (.int .i64 n) := ⟨H3.out.1.p1, H3.out.2.1.c2⟩
    clear hO kS CDD
    refine hK.out _ _ kS1 (fun hHeld => ?_)
    clear hK K
    try simp only [Act.put, List.setIfInBounds_toArray, List.set_cons_zero, List.set_cons_succ, List.getElem_toArray, List.getElem_cons_succ, List.getElem_cons_zero]
    refine wpAnyH_take (i := 7) (v := (.tuple #[.slice py E2.length cy, .bool B2])) rfl (by kernel_rfl) (by kernel_rfl) (by kernel_rfl) (fun _ _ _ h => h) (Or.inl ⟨by rfl, fun ww hSw => by (try dsimp only at hSw); go_simp⟩) (by assumption) ?_
    simp only [Act.put, List.setIfInBounds_toArray, List.set_cons_zero, List.set_cons_succ, List.getElem_toArray, List.getElem_cons_succ, List.getElem_cons_zero]
    refine wpAnyH_take (i := 8) (v := (.slice py E2.length cy)) rfl (by kernel_rfl) (by kernel_rfl) (by kernel_rfl) (fun _ _ _ h => h) (Or.inl ⟨by rfl, fun ww hSw => by (try dsimp only at hSw); go_simp⟩) (by assumption) ?_
    simp only [Act.put, List.setIfInBounds_toArray, List.set_cons_zero, List.set_cons_succ, List.getElem_toArray, List.getElem_cons_succ, List.getElem_cons_zero]
    refine wpAnyH_take (i := 9) (v := (.bool B2)) rfl (by kernel_rfl) (by kernel_rfl) (by kernel_rfl) (fun _ _ _ h => h) (Or.inl ⟨by rfl, fun ww hSw => by (try dsimp only at hSw); go_simp⟩) (by assumption) ?_
    simp only [Act.put, List.setIfInBounds_toArray, List.set_cons_zero, List.set_cons_succ, List.getElem_toArray, List.getElem_cons_succ, List.getElem_cons_zero]
    refine wpAnyH_take (i := 10) (v := (.slice py E2.length cy)) rfl (by kernel_rfl) (by kernel_rfl) (by kernel_rfl) (fun _ _ _ h => h) (Or.inl ⟨by rfl, fun ww hSw => by (try dsimp only at hSw); go_simp⟩) (by assumption) ?_
    simp only [Act.put, List.setIfInBounds_toArray, List.set_cons_zero, List.set_cons_succ, List.getElem_toArray, List.getElem_cons_succ, List.getElem_cons_zero]
    refine wpAnyH_take (i := 11) (v := (.bool B2)) rfl (by kernel_rfl) (by kernel_rfl) (by kernel_rfl) (fun _ _ _ h => h) (Or.inl ⟨by rfl, fun ww hSw => by (try dsimp only at hSw); go_simp⟩) (by assumption) ?_
    simp only [Act.put, List.setIfInBounds_toArray, List.set_cons_zero, List.set_cons_succ, List.getElem_toArray, List.getElem_cons_succ, List.getElem_cons_zero]
    refine wpAnyH_done (by kernel_rfl) ?_ _
    clear hHeld kS1
    have bb : (B2 == B2) = true := by simp
    have cB := bytes_any px py E2.length cx cy E2 V3 (by omega) H3.out.2.2.1 H3.out.2.2.2
    go_wp2_with fail
    refine cB.mono ?_
    rintro e V4 ⟨rfl, k4, hk⟩
    have HE : Hid (Pr w V4 pb) := by rw [hk]; exact ⟨b, dd, D', R2, ls, H3.out.1.drewN k4, HO2.out⟩
    clear hk cB
    go_wp2
    go_ret
    exact ⟨rfl, HE.out⟩
  have i3 : (k == 3) = false := by simpa using k3
  by_cases k4 : k = 4
  · subst k4
    clear i1 i2 i3 k1 k2 k3
    go_upto_region 15 with fail
    clear q0
    have kS : W1.drew.cell? ⟨pb, 0, .none⟩ = some (.pointer (some ⟨b, 0, .none⟩)) ∧ W1.drew.cell? ⟨ob, 2, .none⟩ = some (.int .i64 n) := ⟨H1.out.1.p0, H1.out.2.1.c2⟩
    refine wp_region_held_drew (S := fun U => U.cell? ⟨pb, 0, .none⟩ = some (.pointer (some ⟨b, 0, .none⟩)) ∧ U.cell? ⟨ob, 2, .none⟩ = some (.int .i64 n)) (by kernel_rfl) kS (fun hHeld => ?_)
    refine wpAnyH_take (i := 0) (v := (.pointer (some ⟨pb, 0, .none⟩))) rfl (by kernel_rfl) (by kernel_rfl) (by kernel_rfl) (fun _ _ _ h => h) (Or.inl ⟨by rfl, fun ww hSw => by (try dsimp only at hSw); go_simp⟩) (by assumption) ?_
    simp only [Act.put, List.setIfInBounds_toArray, List.set_cons_zero, List.set_cons_succ, List.getElem_toArray, List.getElem_cons_succ, List.getElem_cons_zero]
    refine wpAnyH_take (i := 1) (v := (.pointer (some ⟨pb, 0, .none⟩))) rfl (by kernel_rfl) (by kernel_rfl) (by kernel_rfl) (fun _ _ _ h => h) (Or.inl ⟨by rfl, fun ww hSw => by (try dsimp only at hSw); go_simp⟩) (by assumption) ?_
    simp only [Act.put, List.setIfInBounds_toArray, List.set_cons_zero, List.set_cons_succ, List.getElem_toArray, List.getElem_cons_succ, List.getElem_cons_zero]
    refine wpAnyH_take (i := 2) (v := (.pointer (some ⟨pb, 0, .none⟩))) rfl (by kernel_rfl) (by kernel_rfl) (by kernel_rfl) (fun _ _ _ h => h) (Or.inl ⟨by rfl, fun ww hSw => by (try dsimp only at hSw); go_simp⟩) (by assumption) ?_
    simp only [Act.put, List.setIfInBounds_toArray, List.set_cons_zero, List.set_cons_succ, List.getElem_toArray, List.getElem_cons_succ, List.getElem_cons_zero]
    refine wpAnyH_take (i := 3) (v := (.pointer (some ⟨b, 0, .none⟩))) rfl (by kernel_rfl) (by kernel_rfl) (by kernel_rfl) (fun _ _ _ h => h) (Or.inl ⟨by rfl, fun ww hSw => by (try dsimp only at hSw); go_simp⟩) (by assumption) ?_
    simp only [Act.put, List.setIfInBounds_toArray, List.set_cons_zero, List.set_cons_succ, List.getElem_toArray, List.getElem_cons_succ, List.getElem_cons_zero]
    refine wpAnyH_take (i := 4) (v := (.pointer (some ⟨ob, 2, .none⟩))) rfl (by kernel_rfl) (by kernel_rfl) (by kernel_rfl) (fun _ _ _ h => h) (Or.inl ⟨by rfl, fun ww hSw => by (try dsimp only at hSw); go_simp⟩) (by assumption) ?_
    simp only [Act.put, List.setIfInBounds_toArray, List.set_cons_zero, List.set_cons_succ, List.getElem_toArray, List.getElem_cons_succ, List.getElem_cons_zero]
    refine wpAnyH_take (i := 5) (v := (.int .i64 n)) rfl (by kernel_rfl) (by kernel_rfl) (by kernel_rfl) (fun _ _ _ h => h) (Or.inl ⟨by rfl, fun ww hSw => by (try dsimp only at hSw); go_simp⟩) (by assumption) ?_
    simp only [Act.put, List.setIfInBounds_toArray, List.set_cons_zero, List.set_cons_succ, List.getElem_toArray, List.getElem_cons_succ, List.getElem_cons_zero]
    refine wpAnyH_ready (rs := [6]) (by kernel_rfl) (by simp) ?_
    refine AllReadyH.cons rfl (fun K hK => ?_) AllReadyH.nil
    go_simp
    have cT := peek_all (H1.out.1.drewN 1).con n
    have CDD : Hid (∀ V D, Doc V dd D rs ls → Calls Tryd.prog 15 #[.pointer (some ⟨dd, 0, .none⟩), .int .i64 n] V fun e w' => ∃ p c, e = .returned (.tuple #[.slice p (rs.take (nxT rs n)).length c, .bool (decide (0 < rs.length))]) ∧ w'.ownsRow V.heap.size 5 1 (.slice p (rs.take (nxT rs n)).length c) (rs.take (nxT rs n)).length (by8 (rs.take (nxT rs n))) ∧ Below V.heap.size V w') := fun V D hV => rpeek_any hV n
    have hEl : (rs.take (nxT rs n)).length ≤ 1000 := by rw [List.length_take]; have := H1.out.1.con.le; omega
    generalize rs.take (nxT rs n) = E2 at *
    generalize decide (0 < rs.length) = B2 at *
    refine cT.mono ?_
    rintro e V1 ⟨px, cx, rfl, hO, hC, hT⟩
    have H2 : Hid (Pw w V1 pb b dd D rs ls rs ls ∧ Ob V1 ob 4 B n s ln cd ∧ V1.ownsRow W1.heap.size 5 1 (.slice px E2.length cx) E2.length (by8 E2)) := by
      have h := H1.out
      exact ⟨(h.1.drewN 1).con' hT hC, h.2.1.keep (⟨(Chg.ofTrn hT).os, (Chg.ofTrn hT).tape, (Chg.ofTrn hT).output, (Chg.ofTrn hT).size, (Chg.ofTrn hT).block⟩ : Chg (· = b) W1 V1) h.2.2.2.1, hO⟩
    have kS1 : V1.cell? ⟨pb, 0, .none⟩ = some (.pointer (some ⟨b, 0, .none⟩)) ∧ V1.cell? ⟨ob, 2, .none⟩ = some (.int .i64 n) := ⟨H2.out.1.p0, H2.out.2.1.c2⟩
    clear hO hC hT cT kS
    refine hK.out _ _ kS1 (fun hHeld => ?_)
    clear hK K
    try simp only [Act.put, List.setIfInBounds_toArray, List.set_cons_zero, List.set_cons_succ, List.getElem_toArray, List.getElem_cons_succ, List.getElem_cons_zero]
    refine wpAnyH_take (i := 7) (v := (.tuple #[.slice px E2.length cx, .bool B2])) rfl (by kernel_rfl) (by kernel_rfl) (by kernel_rfl) (fun _ _ _ h => h) (Or.inl ⟨by rfl, fun ww hSw => by (try dsimp only at hSw); go_simp⟩) (by assumption) ?_
    simp only [Act.put, List.setIfInBounds_toArray, List.set_cons_zero, List.set_cons_succ, List.getElem_toArray, List.getElem_cons_succ, List.getElem_cons_zero]
    refine wpAnyH_take (i := 8) (v := (.slice px E2.length cx)) rfl (by kernel_rfl) (by kernel_rfl) (by kernel_rfl) (fun _ _ _ h => h) (Or.inl ⟨by rfl, fun ww hSw => by (try dsimp only at hSw); go_simp⟩) (by assumption) ?_
    simp only [Act.put, List.setIfInBounds_toArray, List.set_cons_zero, List.set_cons_succ, List.getElem_toArray, List.getElem_cons_succ, List.getElem_cons_zero]
    refine wpAnyH_take (i := 9) (v := (.bool B2)) rfl (by kernel_rfl) (by kernel_rfl) (by kernel_rfl) (fun _ _ _ h => h) (Or.inl ⟨by rfl, fun ww hSw => by (try dsimp only at hSw); go_simp⟩) (by assumption) ?_
    simp only [Act.put, List.setIfInBounds_toArray, List.set_cons_zero, List.set_cons_succ, List.getElem_toArray, List.getElem_cons_succ, List.getElem_cons_zero]
    refine wpAnyH_take (i := 10) (v := (.slice px E2.length cx)) rfl (by kernel_rfl) (by kernel_rfl) (by kernel_rfl) (fun _ _ _ h => h) (Or.inl ⟨by rfl, fun ww hSw => by (try dsimp only at hSw); go_simp⟩) (by assumption) ?_
    simp only [Act.put, List.setIfInBounds_toArray, List.set_cons_zero, List.set_cons_succ, List.getElem_toArray, List.getElem_cons_succ, List.getElem_cons_zero]
    refine wpAnyH_take (i := 11) (v := (.bool B2)) rfl (by kernel_rfl) (by kernel_rfl) (by kernel_rfl) (fun _ _ _ h => h) (Or.inl ⟨by rfl, fun ww hSw => by (try dsimp only at hSw); go_simp⟩) (by assumption) ?_
    simp only [Act.put, List.setIfInBounds_toArray, List.set_cons_zero, List.set_cons_succ, List.getElem_toArray, List.getElem_cons_succ, List.getElem_cons_zero]
    refine wpAnyH_done (by kernel_rfl) ?_ _
    clear hHeld kS1
    go_upto_region 16 with fail
    have kS : V1.drew.cell? ⟨pb, 1, .none⟩ = some (.pointer (some ⟨dd, 0, .none⟩)) ∧ V1.drew.cell? ⟨ob, 2, .none⟩ = some (.int .i64 n) := ⟨H2.out.1.p1, H2.out.2.1.c2⟩
    refine wp_region_held_drew (S := fun U => U.cell? ⟨pb, 1, .none⟩ = some (.pointer (some ⟨dd, 0, .none⟩)) ∧ U.cell? ⟨ob, 2, .none⟩ = some (.int .i64 n)) (by kernel_rfl) kS (fun hHeld => ?_)
    refine wpAnyH_take (i := 0) (v := (.pointer (some ⟨pb, 0, .none⟩))) rfl (by kernel_rfl) (by kernel_rfl) (by kernel_rfl) (fun _ _ _ h => h) (Or.inl ⟨by rfl, fun ww hSw => by (try dsimp only at hSw); go_simp⟩) (by assumption) ?_
    simp only [Act.put, List.setIfInBounds_toArray, List.set_cons_zero, List.set_cons_succ, List.getElem_toArray, List.getElem_cons_succ, List.getElem_cons_zero]
    refine wpAnyH_take (i := 1) (v := (.pointer (some ⟨pb, 0, .none⟩))) rfl (by kernel_rfl) (by kernel_rfl) (by kernel_rfl) (fun _ _ _ h => h) (Or.inl ⟨by rfl, fun ww hSw => by (try dsimp only at hSw); go_simp⟩) (by assumption) ?_
    simp only [Act.put, List.setIfInBounds_toArray, List.set_cons_zero, List.set_cons_succ, List.getElem_toArray, List.getElem_cons_succ, List.getElem_cons_zero]
    refine wpAnyH_take (i := 2) (v := (.pointer (some ⟨pb, 1, .none⟩))) rfl (by kernel_rfl) (by kernel_rfl) (by kernel_rfl) (fun _ _ _ h => h) (Or.inl ⟨by rfl, fun ww hSw => by (try dsimp only at hSw); go_simp⟩) (by assumption) ?_
    simp only [Act.put, List.setIfInBounds_toArray, List.set_cons_zero, List.set_cons_succ, List.getElem_toArray, List.getElem_cons_succ, List.getElem_cons_zero]
    refine wpAnyH_take (i := 3) (v := (.pointer (some ⟨dd, 0, .none⟩))) rfl (by kernel_rfl) (by kernel_rfl) (by kernel_rfl) (fun _ _ _ h => h) (Or.inl ⟨by rfl, fun ww hSw => by (try dsimp only at hSw); go_simp⟩) (by assumption) ?_
    simp only [Act.put, List.setIfInBounds_toArray, List.set_cons_zero, List.set_cons_succ, List.getElem_toArray, List.getElem_cons_succ, List.getElem_cons_zero]
    refine wpAnyH_take (i := 4) (v := (.pointer (some ⟨ob, 2, .none⟩))) rfl (by kernel_rfl) (by kernel_rfl) (by kernel_rfl) (fun _ _ _ h => h) (Or.inl ⟨by rfl, fun ww hSw => by (try dsimp only at hSw); go_simp⟩) (by assumption) ?_
    simp only [Act.put, List.setIfInBounds_toArray, List.set_cons_zero, List.set_cons_succ, List.getElem_toArray, List.getElem_cons_succ, List.getElem_cons_zero]
    refine wpAnyH_take (i := 5) (v := (.int .i64 n)) rfl (by kernel_rfl) (by kernel_rfl) (by kernel_rfl) (fun _ _ _ h => h) (Or.inl ⟨by rfl, fun ww hSw => by (try dsimp only at hSw); go_simp⟩) (by assumption) ?_
    simp only [Act.put, List.setIfInBounds_toArray, List.set_cons_zero, List.set_cons_succ, List.getElem_toArray, List.getElem_cons_succ, List.getElem_cons_zero]
    refine wpAnyH_ready (rs := [6]) (by kernel_rfl) (by simp) ?_
    refine AllReadyH.cons rfl (fun K hK => ?_) AllReadyH.nil
    go_simp
    refine (CDD.out V1.drew D (H2.out.1.drewN 1).doc).mono ?_
    rintro e V3 ⟨py, cy, rfl, hO, hbb⟩
    have H3 : Hid (Pw w V3 pb b dd D rs ls rs ls ∧ Ob V3 ob 4 B n s ln cd ∧ Byt V3 px E2.length cx E2 ∧ Byt V3 py E2.length cy E2) := by
      have h := H2.out
      have hb2 : Below V1.heap.size V1 V3 := ⟨hbb.os, hbb.tape, hbb.output, hbb.size, hbb.block⟩
      exact ⟨h.1.below hb2, h.2.1.keep (S := fun _ => False) (Chg.ofBelow hb2) (fun e => e), byt_below (byt_own h.2.2) hb2, byt_own hO⟩
    clear hbb
    have kS1 : V3.cell? ⟨pb, 1, .none⟩ = some (.pointer (some ⟨dd, 0, .none⟩)) ∧ V3.cell? ⟨ob, 2, .none⟩ = some (.int .i64 n) := ⟨H3.out.1.p1, H3.out.2.1.c2⟩
    clear hO kS CDD
    refine hK.out _ _ kS1 (fun hHeld => ?_)
    clear hK K
    try simp only [Act.put, List.setIfInBounds_toArray, List.set_cons_zero, List.set_cons_succ, List.getElem_toArray, List.getElem_cons_succ, List.getElem_cons_zero]
    refine wpAnyH_take (i := 7) (v := (.tuple #[.slice py E2.length cy, .bool B2])) rfl (by kernel_rfl) (by kernel_rfl) (by kernel_rfl) (fun _ _ _ h => h) (Or.inl ⟨by rfl, fun ww hSw => by (try dsimp only at hSw); go_simp⟩) (by assumption) ?_
    simp only [Act.put, List.setIfInBounds_toArray, List.set_cons_zero, List.set_cons_succ, List.getElem_toArray, List.getElem_cons_succ, List.getElem_cons_zero]
    refine wpAnyH_take (i := 8) (v := (.slice py E2.length cy)) rfl (by kernel_rfl) (by kernel_rfl) (by kernel_rfl) (fun _ _ _ h => h) (Or.inl ⟨by rfl, fun ww hSw => by (try dsimp only at hSw); go_simp⟩) (by assumption) ?_
    simp only [Act.put, List.setIfInBounds_toArray, List.set_cons_zero, List.set_cons_succ, List.getElem_toArray, List.getElem_cons_succ, List.getElem_cons_zero]
    refine wpAnyH_take (i := 9) (v := (.bool B2)) rfl (by kernel_rfl) (by kernel_rfl) (by kernel_rfl) (fun _ _ _ h => h) (Or.inl ⟨by rfl, fun ww hSw => by (try dsimp only at hSw); go_simp⟩) (by assumption) ?_
    simp only [Act.put, List.setIfInBounds_toArray, List.set_cons_zero, List.set_cons_succ, List.getElem_toArray, List.getElem_cons_succ, List.getElem_cons_zero]
    refine wpAnyH_take (i := 10) (v := (.slice py E2.length cy)) rfl (by kernel_rfl) (by kernel_rfl) (by kernel_rfl) (fun _ _ _ h => h) (Or.inl ⟨by rfl, fun ww hSw => by (try dsimp only at hSw); go_simp⟩) (by assumption) ?_
    simp only [Act.put, List.setIfInBounds_toArray, List.set_cons_zero, List.set_cons_succ, List.getElem_toArray, List.getElem_cons_succ, List.getElem_cons_zero]
    refine wpAnyH_take (i := 11) (v := (.bool B2)) rfl (by kernel_rfl) (by kernel_rfl) (by kernel_rfl) (fun _ _ _ h => h) (Or.inl ⟨by rfl, fun ww hSw => by (try dsimp only at hSw); go_simp⟩) (by assumption) ?_
    simp only [Act.put, List.setIfInBounds_toArray, List.set_cons_zero, List.set_cons_succ, List.getElem_toArray, List.getElem_cons_succ, List.getElem_cons_zero]
    refine wpAnyH_done (by kernel_rfl) ?_ _
    clear hHeld kS1
    have bb : (B2 == B2) = true := by simp
    have cB := bytes_any px py E2.length cx cy E2 V3 (by omega) H3.out.2.2.1 H3.out.2.2.2
    go_wp2_with fail
    refine cB.mono ?_
    rintro e V4 ⟨rfl, k4, hk⟩
    have HE : Hid (Pr w V4 pb) := by rw [hk]; exact ⟨b, dd, D, rs, ls, H3.out.1.drewN k4, HOK.out⟩
    clear hk cB
    go_wp2
    go_ret
    exact ⟨rfl, HE.out⟩
  have i4 : (k == 4) = false := by simpa using k4
  by_cases k5 : k = 5
  · subst k5
    clear i1 i2 i3 i4 k1 k2 k3 k4
    go_upto_region 19 with fail
    clear q0
    have kS : W1.drew.cell? ⟨pb, 0, .none⟩ = some (.pointer (some ⟨b, 0, .none⟩)) ∧ W1.drew.cell? ⟨pb, 1, .none⟩ = some (.pointer (some ⟨dd, 0, .none⟩)) := ⟨H1.out.1.p0, H1.out.1.p1⟩
    have HV : Hid (Pw w W1.drew pb b dd D rs ls rs ls) := H1.out.1.drewN 1
    have cR := ready_any HV.out.con
    have CQ : Hid (Calls Tryd.prog 17 #[.pointer (some ⟨dd, 0, .none⟩)] W1.drew fun e w' => e = .returned (.bool (decide (0 < rs.length))) ∧ w' = W1.drew) := by obtain ⟨vD, vL, h, _⟩ := HV.out.doc; exact rready_any h
    generalize decide (0 < rs.length) = B2 at *
    have bb : (B2 == B2) = true := by simp
    refine wp_region_held_drew (S := fun U => U.cell? ⟨pb, 0, .none⟩ = some (.pointer (some ⟨b, 0, .none⟩)) ∧ U.cell? ⟨pb, 1, .none⟩ = some (.pointer (some ⟨dd, 0, .none⟩))) (by kernel_rfl) kS (fun hHeld => ?_)
    refine wpAnyH_take (i := 0) (v := (.pointer (some ⟨pb, 0, .none⟩))) rfl (by kernel_rfl) (by kernel_rfl) (by kernel_rfl) (fun _ _ _ h => h) (Or.inl ⟨by rfl, fun ww hSw => by (try dsimp only at hSw); go_simp⟩) (by assumption) ?_
    simp only [Act.put, List.setIfInBounds_toArray, List.set_cons_zero, List.set_cons_succ, List.getElem_toArray, List.getElem_cons_succ, List.getElem_cons_zero]
    refine wpAnyH_take (i := 1) (v := (.pointer (some ⟨pb, 0, .none⟩))) rfl (by kernel_rfl) (by kernel_rfl) (by kernel_rfl) (fun _ _ _ h => h) (Or.inl ⟨by rfl, fun ww hSw => by (try dsimp only at hSw); go_simp⟩) (by assumption) ?_
    simp only [Act.put, List.setIfInBounds_toArray, List.set_cons_zero, List.set_cons_succ, List.getElem_toArray, List.getElem_cons_succ, List.getElem_cons_zero]
    refine wpAnyH_take (i := 2) (v := (.pointer (some ⟨pb, 0, .none⟩))) rfl (by kernel_rfl) (by kernel_rfl) (by kernel_rfl) (fun _ _ _ h => h) (Or.inl ⟨by rfl, fun ww hSw => by (try dsimp only at hSw); go_simp⟩) (by assumption) ?_
    simp only [Act.put, List.setIfInBounds_toArray, List.set_cons_zero, List.set_cons_succ, List.getElem_toArray, List.getElem_cons_succ, List.getElem_cons_zero]
    refine wpAnyH_take (i := 3) (v := (.pointer (some ⟨b, 0, .none⟩))) rfl (by kernel_rfl) (by kernel_rfl) (by kernel_rfl) (fun _ _ _ h => h) (Or.inl ⟨by rfl, fun ww hSw => by (try dsimp only at hSw); go_simp⟩) (by assumption) ?_
    simp only [Act.put, List.setIfInBounds_toArray, List.set_cons_zero, List.set_cons_succ, List.getElem_toArray, List.getElem_cons_succ, List.getElem_cons_zero]
    refine wpAnyH_take (i := 5) (v := (.pointer (some ⟨pb, 0, .none⟩))) rfl (by kernel_rfl) (by kernel_rfl) (by kernel_rfl) (fun _ _ _ h => h) (Or.inl ⟨by rfl, fun ww hSw => by (try dsimp only at hSw); go_simp⟩) (by assumption) ?_
    simp only [Act.put, List.setIfInBounds_toArray, List.set_cons_zero, List.set_cons_succ, List.getElem_toArray, List.getElem_cons_succ, List.getElem_cons_zero]
    refine wpAnyH_take (i := 6) (v := (.pointer (some ⟨pb, 0, .none⟩))) rfl (by kernel_rfl) (by kernel_rfl) (by kernel_rfl) (fun _ _ _ h => h) (Or.inl ⟨by rfl, fun ww hSw => by (try dsimp only at hSw); go_simp⟩) (by assumption) ?_
    simp only [Act.put, List.setIfInBounds_toArray, List.set_cons_zero, List.set_cons_succ, List.getElem_toArray, List.getElem_cons_succ, List.getElem_cons_zero]
    refine wpAnyH_take (i := 7) (v := (.pointer (some ⟨pb, 1, .none⟩))) rfl (by kernel_rfl) (by kernel_rfl) (by kernel_rfl) (fun _ _ _ h => h) (Or.inl ⟨by rfl, fun ww hSw => by (try dsimp only at hSw); go_simp⟩) (by assumption) ?_
    simp only [Act.put, List.setIfInBounds_toArray, List.set_cons_zero, List.set_cons_succ, List.getElem_toArray, List.getElem_cons_succ, List.getElem_cons_zero]
    refine wpAnyH_take (i := 8) (v := (.pointer (some ⟨dd, 0, .none⟩))) rfl (by kernel_rfl) (by kernel_rfl) (by kernel_rfl) (fun _ _ _ h => h) (Or.inl ⟨by rfl, fun ww hSw => by (try dsimp only at hSw); go_simp⟩) (by assumption) ?_
    simp only [Act.put, List.setIfInBounds_toArray, List.set_cons_zero, List.set_cons_succ, List.getElem_toArray, List.getElem_cons_succ, List.getElem_cons_zero]
    refine wpAnyH_ready (rs := [4]) (by kernel_rfl) (by simp) ?_
    refine AllReadyH.cons rfl (fun K hK => ?_) AllReadyH.nil
    go_simp
    refine cR.mono ?_
    rintro e w1 ⟨rfl, hw1⟩
    obtain rfl : W1.drew = w1 := hw1.symm
    clear cR
    refine hK.out _ _ kS (fun hHeld => ?_)
    clear hK K
    try simp only [Act.put, List.setIfInBounds_toArray, List.set_cons_zero, List.set_cons_succ, List.getElem_toArray, List.getElem_cons_succ, List.getElem_cons_zero]
    refine wpAnyH_ready (rs := [9]) (by kernel_rfl) (by simp) ?_
    refine AllReadyH.cons rfl (fun K hK => ?_) AllReadyH.nil
    go_simp
    refine CQ.out.mono ?_
    rintro e w1 ⟨rfl, hw1⟩
    obtain rfl : W1.drew = w1 := hw1.symm
    clear CQ
    refine hK.out _ _ kS (fun hHeld => ?_)
    clear hK K
    try simp only [Act.put, List.setIfInBounds_toArray, List.set_cons_zero, List.set_cons_succ, List.getElem_toArray, List.getElem_cons_succ, List.getElem_cons_zero]
    refine wpAnyH_take (i := 10) (v := (.bool true)) rfl (by kernel_rfl) (by kernel_rfl) (by kernel_rfl) (fun _ _ _ h => h) (Or.inl ⟨by rfl, fun ww hSw => by (try dsimp only at hSw); go_simp⟩) (by assumption) ?_
    simp only [Act.put, List.setIfInBounds_toArray, List.set_cons_zero, List.set_cons_succ, List.getElem_toArray, List.getElem_cons_succ, List.getElem_cons_zero]
    refine wpAnyH_take (i := 11) (v := (.bool true)) rfl (by kernel_rfl) (by kernel_rfl) (by kernel_rfl) (fun _ _ _ h => h) (Or.inl ⟨by rfl, fun ww hSw => by (try dsimp only at hSw); go_simp⟩) (by assumption) ?_
    simp only [Act.put, List.setIfInBounds_toArray, List.set_cons_zero, List.set_cons_succ, List.getElem_toArray, List.getElem_cons_succ, List.getElem_cons_zero]
    refine wpAnyH_take (i := 12) (v := (.pointer (some ⟨pb, 0, .none⟩))) rfl (by kernel_rfl) (by kernel_rfl) (by kernel_rfl) (fun _ _ _ h => h) (Or.inl ⟨by rfl, fun ww hSw => by (try dsimp only at hSw); go_simp⟩) (by assumption) ?_
    simp only [Act.put, List.setIfInBounds_toArray, List.set_cons_zero, List.set_cons_succ, List.getElem_toArray, List.getElem_cons_succ, List.getElem_cons_zero]
    refine wpAnyH_take (i := 13) (v := (.pointer (some ⟨pb, 0, .none⟩))) rfl (by kernel_rfl) (by kernel_rfl) (by kernel_rfl) (fun _ _ _ h => h) (Or.inl ⟨by rfl, fun ww hSw => by (try dsimp only at hSw); go_simp⟩) (by assumption) ?_
    simp only [Act.put, List.setIfInBounds_toArray, List.set_cons_zero, List.set_cons_succ, List.getElem_toArray, List.getElem_cons_succ, List.getElem_cons_zero]
    refine wpAnyH_take (i := 14) (v := (.pointer (some ⟨pb, 0, .none⟩))) rfl (by kernel_rfl) (by kernel_rfl) (by kernel_rfl) (fun _ _ _ h => h) (Or.inl ⟨by rfl, fun ww hSw => by (try dsimp only at hSw); go_simp⟩) (by assumption) ?_
    simp only [Act.put, List.setIfInBounds_toArray, List.set_cons_zero, List.set_cons_succ, List.getElem_toArray, List.getElem_cons_succ, List.getElem_cons_zero]
    refine wpAnyH_take (i := 15) (v := (.pointer (some ⟨b, 0, .none⟩))) rfl (by kernel_rfl) (by kernel_rfl) (by kernel_rfl) (fun _ _ _ h => h) (Or.inl ⟨by rfl, fun ww hSw => by (try dsimp only at hSw); go_simp⟩) (by assumption) ?_
    simp only [Act.put, List.setIfInBounds_toArray, List.set_cons_zero, List.set_cons_succ, List.getElem_toArray, List.getElem_cons_succ, List.getElem_cons_zero]
    refine wpAnyH_take (i := 17) (v := (.pointer (some ⟨pb, 0, .none⟩))) rfl (by kernel_rfl) (by kernel_rfl) (by kernel_rfl) (fun _ _ _ h => h) (Or.inl ⟨by rfl, fun ww hSw => by (try dsimp only at hSw); go_simp⟩) (by assumption) ?_
    simp only [Act.put, List.setIfInBounds_toArray, List.set_cons_zero, List.set_cons_succ, List.getElem_toArray, List.getElem_cons_succ, List.getElem_cons_zero]
    refine wpAnyH_take (i := 18) (v := (.pointer (some ⟨pb, 0, .none⟩))) rfl (by kernel_rfl) (by kernel_rfl) (by kernel_rfl) (fun _ _ _ h => h) (Or.inl ⟨by rfl, fun ww hSw => by (try dsimp only at hSw); go_simp⟩) (by assumption) ?_
    simp only [Act.put, List.setIfInBounds_toArray, List.set_cons_zero, List.set_cons_succ, List.getElem_toArray, List.getElem_cons_succ, List.getElem_cons_zero]
    refine wpAnyH_take (i := 19) (v := (.pointer (some ⟨pb, 1, .none⟩))) rfl (by kernel_rfl) (by kernel_rfl) (by kernel_rfl) (fun _ _ _ h => h) (Or.inl ⟨by rfl, fun ww hSw => by (try dsimp only at hSw); go_simp⟩) (by assumption) ?_
    simp only [Act.put, List.setIfInBounds_toArray, List.set_cons_zero, List.set_cons_succ, List.getElem_toArray, List.getElem_cons_succ, List.getElem_cons_zero]
    refine wpAnyH_take (i := 20) (v := (.pointer (some ⟨dd, 0, .none⟩))) rfl (by kernel_rfl) (by kernel_rfl) (by kernel_rfl) (fun _ _ _ h => h) (Or.inl ⟨by rfl, fun ww hSw => by (try dsimp only at hSw); go_simp⟩) (by assumption) ?_
    simp only [Act.put, List.setIfInBounds_toArray, List.set_cons_zero, List.set_cons_succ, List.getElem_toArray, List.getElem_cons_succ, List.getElem_cons_zero]
    refine wpAnyH_ready (rs := [16]) (by kernel_rfl) (by simp) ?_
    refine AllReadyH.cons rfl (fun K hK => ?_) AllReadyH.nil
    go_simp
    refine (state_any HV.out.con).mono ?_
    rintro e Y1 ⟨r1, t1, u1, z1, XX, rfl, hO1, hO2, _, _, hbb⟩
    have H2 : Hid (Pw w Y1 pb b dd D rs ls rs ls ∧ Byt Y1 r1 rs.length t1 rs ∧ Byt Y1 u1 ls.length z1 ls) := ⟨HV.out.below hbb, byt_own hO1, byt_own hO2⟩
    have kS1 : Y1.cell? ⟨pb, 0, .none⟩ = some (.pointer (some ⟨b, 0, .none⟩)) ∧ Y1.cell? ⟨pb, 1, .none⟩ = some (.pointer (some ⟨dd, 0, .none⟩)) := ⟨H2.out.1.p0, H2.out.1.p1⟩
    clear hO1 hO2 hbb kS HV
    refine hK.out _ _ kS1 (fun hHeld => ?_)
    clear hK K
    try simp only [Act.put, List.setIfInBounds_toArray, List.set_cons_zero, List.set_cons_succ, List.getElem_toArray, List.getElem_cons_succ, List.getElem_cons_zero]
    refine wpAnyH_ready (rs := [21]) (by kernel_rfl) (by simp) ?_
    refine AllReadyH.cons rfl (fun K hK => ?_) AllReadyH.nil
    go_simp
    refine (rstate_any H2.out.1.doc).mono ?_
    rintro e Y2 ⟨r2, t2, u2, z2, XX, rfl, hO1, hO2, _, _, hbb⟩
    have H3 : Hid (Pw w Y2 pb b dd D rs ls rs ls ∧ Byt Y2 r1 rs.length t1 rs ∧ Byt Y2 u1 ls.length z1 ls ∧ Byt Y2 r2 rs.length t2 rs ∧ Byt Y2 u2 ls.length z2 ls) := ⟨H2.out.1.below hbb, byt_below H2.out.2.1 hbb, byt_below H2.out.2.2 hbb, byt_own hO1, byt_own hO2⟩
    have kS2 : Y2.cell? ⟨pb, 0, .none⟩ = some (.pointer (some ⟨b, 0, .none⟩)) ∧ Y2.cell? ⟨pb, 1, .none⟩ = some (.pointer (some ⟨dd, 0, .none⟩)) := ⟨H3.out.1.p0, H3.out.1.p1⟩
    clear hO1 hO2 hbb kS1 H2
    refine hK.out _ _ kS2 (fun hHeld => ?_)
    clear hK K
    try simp only [Act.put, List.setIfInBounds_toArray, List.set_cons_zero, List.set_cons_succ, List.getElem_toArray, List.getElem_cons_succ, List.getElem_cons_zero]
    refine wpAnyH_ready (rs := [22]) (by kernel_rfl) (by simp) ?_
    refine AllReadyH.cons rfl (fun K hK => ?_) AllReadyH.nil
    go_simp
    have hle := H3.out.1.con.le
    have cS := states_any H3.out.2.1 H3.out.2.2.2.1 H3.out.2.2.1 H3.out.2.2.2.2 (by omega) (by omega)
    refine cS.mono ?_
    rintro e Y3 ⟨rfl, hbb⟩
    have H4 : Hid (Pw w Y3 pb b dd D rs ls rs ls) := H3.out.1.below hbb
    have kS3 : Y3.cell? ⟨pb, 0, .none⟩ = some (.pointer (some ⟨b, 0, .none⟩)) ∧ Y3.cell? ⟨pb, 1, .none⟩ = some (.pointer (some ⟨dd, 0, .none⟩)) := ⟨H4.out.p0, H4.out.p1⟩
    clear hbb kS2 H3 cS hle
    refine hK.out _ _ kS3 (fun hHeld => ?_)
    clear hK K
    try simp only [Act.put, List.setIfInBounds_toArray, List.set_cons_zero, List.set_cons_succ, List.getElem_toArray, List.getElem_cons_succ, List.getElem_cons_zero]
    refine wpAnyH_take (i := 23) (v := (.bool true)) rfl (by kernel_rfl) (by kernel_rfl) (by kernel_rfl) (fun _ _ _ h => h) (Or.inl ⟨by rfl, fun ww hSw => by (try dsimp only at hSw); go_simp⟩) (by assumption) ?_
    simp only [Act.put, List.setIfInBounds_toArray, List.set_cons_zero, List.set_cons_succ, List.getElem_toArray, List.getElem_cons_succ, List.getElem_cons_zero]
    refine wpAnyH_take (i := 24) (v := (.bool true)) rfl (by kernel_rfl) (by kernel_rfl) (by kernel_rfl) (fun _ _ _ h => h) (Or.inl ⟨by rfl, fun ww hSw => by (try dsimp only at hSw); go_simp⟩) (by assumption) ?_
    simp only [Act.put, List.setIfInBounds_toArray, List.set_cons_zero, List.set_cons_succ, List.getElem_toArray, List.getElem_cons_succ, List.getElem_cons_zero]
    refine wpAnyH_done (by kernel_rfl) ?_ _
    clear hHeld kS3
    have HE : Hid (Pr w Y3 pb) := ⟨b, dd, D, rs, ls, H4.out, HOK.out⟩
    go_wp2
    go_ret
    exact ⟨rfl, HE.out⟩
  have i5 : (k == 5) = false := by simpa using k5
  by_cases k6 : k = 6
  · subst k6
    clear i1 i2 i3 i4 i5 k1 k2 k3 k4 k5
    have a0 := H1.out.1.p0
    go_wp2_with fail
    refine (state_any H1.out.1.con).mono ?_
    rintro e Y1 ⟨r1, t1, u1, z1, XX, rfl, hO1, hO2, _, _, hbb⟩
    have H2 : Hid (Pw w Y1 pb b dd D rs ls rs ls ∧ Byt Y1 r1 rs.length t1 rs ∧ Byt Y1 u1 ls.length z1 ls) := ⟨H1.out.1.below hbb, byt_own hO1, byt_own hO2⟩
    clear hO1 hO2 hbb a0
    have cF := from_any H2.out.2.1 H2.out.2.2 (fun x hx => H2.out.1.con.bytes x (List.mem_append.2 (.inl hx))) (fun x hx => H2.out.1.con.bytes x (List.mem_append.2 (.inr hx))) (by have := H2.out.1.con.le; omega) (HD.out.below H2.out.1.bel)
    go_wp2_with fail
    refine cF.mono ?_
    rintro e Y2 ⟨hb2, ⟨hbad, _⟩ | ⟨_, b2, hbl, rfl, hC⟩⟩
    · rw [HOK.out] at hbad
      cases hbad
    have H3 : Hid (Pw w Y2 pb b dd D rs ls rs ls ∧ Con Y2 b2 rs ls ∧ pb ≠ b2 ∧ ¬ D b2 ∧ w.heap.size ≤ b2) := by
      have h := H2.out.1
      refine ⟨h.below hb2, hC, fun e => ?_, fun e => ?_, Nat.le_trans h.bel.size hbl⟩
      · have := lt_cell h.p0; simp at this; omega
      · have := (h.wD b2 e).2; omega
    clear cF hb2 hbl hC
    have a0 := H3.out.1.p0
    have f0 := H3.out.1.fz
    have HE : Hid (Pr w (Y2.setCell ⟨pb, 0, .none⟩ (.pointer (some ⟨b2, 0, .none⟩))) pb) := ⟨b2, dd, D, rs, ls, H3.out.1.setC H3.out.2.1 H3.out.2.2.1 H3.out.2.2.2.1 H3.out.2.2.2.2, HOK.out⟩
    go_wp2
    go_ret
    exact ⟨rfl, HE.out⟩
  have i6 : (k == 6) = false := by simpa using k6
  have HE : Hid (Pr w W1 pb) := ⟨b, dd, D, rs, ls, H1.out.1, HOK.out⟩
  clear k1 k2 k3 k4 k5 k6
  go_wp2
  go_ret
  exact ⟨rfl, HE.out⟩
end Go.Proofs.YtblpdnchphhcaabDoor
