import Derived.Test.YtpdlcjcigeegjaaDoorBk1
import Derived.Test.YtpdlcjcigeegjaaDoorPm3
import Derived.Test.YtpdlcjcigeegjaaDoorRd9
namespace Go.Proofs.YtpdlcjcigeegjaaDoor
open Go.RowKit
set_option linter.unusedVariables false
set_option linter.unusedSimpArgs false
set_option maxHeartbeats 4000000 in
set_option maxRecDepth 100000 in
theorem cutL_any {w : World} {q : Option Addr} {m c : Nat} {S : Nat → Sr} {D : Nat → List Int} (h : Arg w q m c S D) (hL : Laid w) (en : Int) (he : 0 ≤ en ∧ en < 18446744073709551616) (at_ : Int) :
    Calls Tryd.prog 4 #[.agg #[.int .u64 en, .slice q m c], .int .i64 at_] w fun e w' => e = .returned (.bool true) ∧ Below w.heap.size w w' := by
  have HB : Hid (Below w.heap.size w (w.alloc (.cells #[.int .u64 en, .slice q m c] 30))) := (Below.refl _ _).alloc (Nat.le_refl _) _
  have q0 : (w.alloc (.cells #[.int .u64 en, .slice q m c] 30)).cell? ⟨w.heap.size, 0, .none⟩ = some (.int .u64 en) := World.cell?_alloc_at _ _ _ _ rfl
  have q1 : (w.alloc (.cells #[.int .u64 en, .slice q m c] 30)).cell? ⟨w.heap.size, 1, .none⟩ = some (.slice q m c) := World.cell?_alloc_at _ _ _ _ rfl
  have HQ0 : Hid _ := q0
  have HQ1 : Hid _ := q1
  have HG : Hid (Arg w q m c S D) := h
  have HL : Hid (Laid w) := hL
  have hmc := h.mc
  clear h hL
  go_enter Tryd.func4, Tryd.ntmps4
  go_upto_region 1 with fail
  generalize (w.alloc (.cells #[.int .u64 en, .slice q m c] 30)) = W1 at *
  have hlt1 : w.heap.size < W1.heap.size := lt_of_cell HQ1.out
  have c6 := few_any (HG.out.below HB.out) en
  by_cases hfew : sumN S m ≤ 400000 ∧ m ≤ 1000
  rotate_left
  · rw [show decide (sumN S m ≤ 400000 ∧ m ≤ 1000) = false by simpa using hfew] at c6
    have HFw : Hid (¬ (sumN S m ≤ 400000 ∧ m ≤ 1000)) := hfew
    clear hfew
    go_wp2_with (first | (go_at_call 10; refine c6.mono ?_; rintro _ W4 ⟨rfl, hb4⟩) | fail)
    go_ret
    exact ⟨rfl, HB.out.trans (hb4.mono HB.out.size)⟩
  rw [show decide (sumN S m ≤ 400000 ∧ m ≤ 1000) = true by simpa using hfew] at c6
  obtain ⟨hf1, hf2⟩ := hfew
  go_upto_region 3 with (go_at_call 10; refine c6.mono ?_; rintro _ W4 ⟨rfl, hb4⟩)
  have HB4 : Hid (Below W1.heap.size W1 W4) := hb4
  have HA4 : Hid (Below w.heap.size w W4) := HB.out.trans (HB4.out.mono HB.out.size)
  have l0 : W4.cell? ⟨w.heap.size, 0, .none⟩ = some (.int .u64 en) := (HB4.out.cell hlt1).trans HQ0.out
  have l1 : W4.cell? ⟨w.heap.size, 1, .none⟩ = some (.slice q m c) := (HB4.out.cell hlt1).trans HQ1.out
  clear q0 q1 c6 hb4
  have HDl : Hid (∀ i, i < m → (D i).length = (S i).n) := fun i hi => (HG.out.dat i hi).1
  have c7 := twin_any (HG.out.below HA4.out) hf2 hf1 en (sgsG S m) (datB D m) sgsG_len (fun i s hs => by
    have e := (sgsG_get hs).2
    refine ⟨by rw [e], by rw [e], by rw [e], by rw [e], datB_byt HDl.out hs⟩)
  go_wp2_with fail
  refine c7.mono ?_
  rintro _ W5 ⟨sv, E, rfl, own5, dat5, hEG, hb5⟩
  clear c7
  have HEG : Hid (E.map (·.1) = sgsG S m) := hEG
  have hEl : E.length = m := by have := congrArg List.length hEG; rwa [List.length_map, sgsG_len] at this
  have HEl : Hid (E.length = m) := hEl
  have hmem : ∀ x ∈ E, ∃ i, i < m ∧ x.1 = ⟨(S i).va, (S i).fl, (S i).mem, 64 + 56 * m + sumN S i, (S i).n⟩ := fun x hx => by
    obtain ⟨i, hi, hie⟩ := List.getElem_of_mem hx
    have : (sgsG S m)[i]? = some x.1 := by rw [← hEG, List.getElem?_map, List.getElem?_eq_getElem hi, hie]; rfl
    exact ⟨i, sgsG_get this⟩
  have HB5 : Hid (Below W1.heap.size W1 W5) := HB4.out.trans (hb5.mono HB4.out.size)
  have HA5 : Hid (Below w.heap.size w W5) := HB.out.trans (HB5.out.mono HB.out.size)
  have hP5 : Prs W5 W4.heap.size sv E (datB D m) := by
    refine ⟨own5, fun x hx => (dat5 x hx).1, ?_, ?_, ?_, ?_⟩ <;> intro x hx <;> obtain ⟨i, hi, e⟩ := hmem x hx <;> rw [e]
    · exact HG.out.va i hi
    · exact HG.out.fl i hi
    · exact HG.out.mem i hi
    · exact Nat.le_trans (sum_one (m := m) m (Nat.le_refl _) i hi) hf1
  have c4 := write_any hP5 (fun x hx => (dat5 x hx).2) (by omega) (by rw [hEG]; exact plc_sgs) (HL.out.below HA5.out) en he
  obtain ⟨sq, scp, rfl, _⟩ := own_form own5
  clear own5 dat5 hmem hP5 hb5 l0 l1
  clear hEG hEl
  dsimp only
  go_wp2_with fail
  refine c4.mono ?_
  rintro e6 W6 ⟨hb6, hw6⟩
  rw [HEG.out, HEl.out, szs_sgs m (Nat.le_refl _)] at hw6
  clear c4
  have HA6 : Hid (Below w.heap.size w W6) := HA5.out.trans (hb6.mono HA5.out.size)
  rcases hw6 with ⟨hg6, hT6, v6, rfl, own6⟩ | ⟨_, p, rfl⟩
  · obtain ⟨g, cp, rfl⟩ := own_slice own6 (by omega)
    obtain ⟨T, hTT⟩ : ∃ T, T = 64 + 56 * m + sumN S m := ⟨_, rfl⟩
    rw [← hTT] at own6 hT6 ⊢
    have HF : Hid (Row W6 g 0 T (fil en (sgsG S m) (datB D m)) ∧ T ≤ cp ∧ cp ≤ maxLen) := ⟨own_row own6, own_cap own6⟩
    have hg : g < W6.heap.size := own_lt own6
    have HGd : Hid (Good en (sgsG S m)) := hg6
    have HPl : Hid (Plc (sgsG S m)) := plc_sgs
    have HT : Hid (T = 64 + 56 * (sgsG S m).length + szs (sgsG S m) (sgsG S m).length) := by
      show T = _
      rw [sgsG_len, szs_sgs m (Nat.le_refl _)]
      exact hTT
    have hT2 : T ≤ 262144 := hT6
    have hT0 : 64 ≤ T := by omega
    have HV : Hid (∀ s ∈ sgsG S m, 0 ≤ s.va) := fun s hs => by
      obtain ⟨k, hk, hke⟩ := List.getElem_of_mem hs
      obtain ⟨hk2, e⟩ := sgsG_get (S := S) (m := m) (i := k) (s := s) (by rw [List.getElem?_eq_getElem hk, hke])
      rw [e]
      exact (HG.out.va k hk2).1
    have HBd : Hid (∀ k, 0 ≤ datB D m k ∧ datB D m k < 256) := datB_bd HG.out.by_
    have HA := HA6
    clear own6 hg6 hb6 hT6 hTT
    generalize sgsG S m = S1 at *
    generalize datB D m = B1 at *
    obtain ⟨en1, hen1⟩ : ∃ x, x = en := ⟨_, rfl⟩
    rw [← hen1] at HF HGd
    clear hen1
    dsimp only
    have hT0i : ¬ ((T : Int) = 0) := by omega
    by_cases h1 : at_ < 0
    · obtain ⟨a, hae, haT⟩ : ∃ a : Nat, (T : Int) - 1 = a ∧ a < T := ⟨T - 1, by omega, by omega⟩
      have c7 := read_any (n := a) (HL.out.below HA.out) (fun i hi => HF.out.1 i (by omega)) hg (fil_bd en1 S1 B1 HBd.out) ⟨by have := HF.out.2.1; omega, HF.out.2.2⟩ 0 0 hd_fil
      have hac : (a : Int) ≤ cp := by have := HF.out.2.1; omega
      have HCut : Hid ((rdF a (fil en1 S1 B1) 0 0).1.2 ≠ 0) := rdF_cut HGd.out HPl.out HT.out hT2 HV.out haT
      go_wp2_with (first | (go_at_call 7; refine c7.mono ?_; intro e8 W8 hr8; rcases hr8 with ⟨_, v8, he8, ⟨fb, _, _, hv8, _⟩, hb8⟩ | ⟨hno, _⟩; rotate_left; exact absurd hno HCut.out; subst he8; subst hv8; have HB8 : Hid (Below w.heap.size w W8) := HA.out.trans (hb8.mono HA.out.size); clear hb8) | fail)
      go_ret
      exact ⟨rfl, HB8.out.alloc HB8.out.size _⟩
    · by_cases h2 : (T : Int) ≤ at_
      · obtain ⟨a, hae, haT⟩ : ∃ a : Nat, (T : Int) - 1 = a ∧ a < T := ⟨T - 1, by omega, by omega⟩
        have c7 := read_any (n := a) (HL.out.below HA.out) (fun i hi => HF.out.1 i (by omega)) hg (fil_bd en1 S1 B1 HBd.out) ⟨by have := HF.out.2.1; omega, HF.out.2.2⟩ 0 0 hd_fil
        have hac : (a : Int) ≤ cp := by have := HF.out.2.1; omega
        have HCut : Hid ((rdF a (fil en1 S1 B1) 0 0).1.2 ≠ 0) := rdF_cut HGd.out HPl.out HT.out hT2 HV.out haT
        go_wp2_with (first | (go_at_call 7; refine c7.mono ?_; intro e8 W8 hr8; rcases hr8 with ⟨_, v8, he8, ⟨fb, _, _, hv8, _⟩, hb8⟩ | ⟨hno, _⟩; rotate_left; exact absurd hno HCut.out; subst he8; subst hv8; have HB8 : Hid (Below w.heap.size w W8) := HA.out.trans (hb8.mono HA.out.size); clear hb8) | fail)
        go_ret
        exact ⟨rfl, HB8.out.alloc HB8.out.size _⟩
      · obtain ⟨a, rfl⟩ : ∃ a : Nat, at_ = a := ⟨at_.toNat, by omega⟩
        have haT : a < T := by omega
        have c7 := read_any (n := a) (HL.out.below HA.out) (fun i hi => HF.out.1 i (by omega)) hg (fil_bd en1 S1 B1 HBd.out) ⟨by have := HF.out.2.1; omega, HF.out.2.2⟩ 0 0 hd_fil
        have hac : (a : Int) ≤ cp := by have := HF.out.2.1; omega
        have HCut : Hid ((rdF a (fil en1 S1 B1) 0 0).1.2 ≠ 0) := rdF_cut HGd.out HPl.out HT.out hT2 HV.out haT
        go_wp2_with (first | (go_at_call 7; refine c7.mono ?_; intro e8 W8 hr8; rcases hr8 with ⟨_, v8, he8, ⟨fb, _, _, hv8, _⟩, hb8⟩ | ⟨hno, _⟩; rotate_left; exact absurd hno HCut.out; subst he8; subst hv8; have HB8 : Hid (Below w.heap.size w W8) := HA.out.trans (hb8.mono HA.out.size); clear hb8) | fail)
        go_ret
        exact ⟨rfl, HB8.out.alloc HB8.out.size _⟩
  · dsimp only
    clear hb6
    go_wp2_with fail
    refine (small_any W6).mono ?_
    rintro _ W7 ⟨g7, cg, rfl, hP7, hb7⟩
    have HA7 : Hid (Below w.heap.size w W7) := HA6.out.trans (hb7.mono HA6.out.size)
    have c4 := write_any hP7 (fun x hx => by rw [List.mem_singleton] at hx; subst hx; exact ⟨_, _, rfl⟩) (show 1 ≤ 1000 by decide) sm_plc (HL.out.below HA7.out) 0 ⟨by decide, by decide⟩
    clear hP7 hb7
    dsimp only
    go_wp2_with fail
    refine c4.mono ?_
    rintro e8 W8 ⟨hb8, hw8⟩
    have hsm : Good 0 [smS] ∧ 64 + 56 * 1 + szs [smS] 1 ≤ 262144 := ⟨sm_good, by decide⟩
    rcases hw8 with ⟨_, _, v8, rfl, own8⟩ | ⟨hno, _⟩
    rotate_left
    · exact absurd hsm hno
    have own8 : W8.ownsRow W7.heap.size 5 1 v8 124 (lst (fil 0 [smS] smB) 124) := own8
    obtain ⟨g, cp, rfl⟩ := own_slice own8 (by decide)
    have HA : Hid (Below w.heap.size w W8) := HA7.out.trans (hb8.mono HA7.out.size)
    have HF : Hid (Row W8 g 0 124 (fil 0 [smS] smB) ∧ 124 ≤ cp ∧ cp ≤ maxLen) := ⟨own_row own8, own_cap own8⟩
    have hg : g < W8.heap.size := own_lt own8
    have HGd : Hid (Good 0 [smS]) := sm_good
    have HPl : Hid (Plc [smS]) := sm_plc
    have HT0 : Hid (124 = 64 + 56 * [smS].length + szs [smS] [smS].length) := (by decide : 124 = 64 + 56 * [smS].length + szs [smS] [smS].length)
    have HV : Hid (∀ s ∈ [smS], 0 ≤ s.va) := fun s hs => by
      rw [List.mem_singleton] at hs
      subst hs
      decide
    have HBd : Hid (∀ k, 0 ≤ smB k ∧ smB k < 256) := fun k => by
      simp only [smB]
      split <;> exact ⟨by decide, by decide⟩
    clear own8 hb8 c4 hsm
    obtain ⟨T, hTT⟩ : ∃ T, T = 124 := ⟨_, rfl⟩
    have HF : Hid (Row W8 g 0 T (fil 0 [smS] smB) ∧ T ≤ cp ∧ cp ≤ maxLen) := by rw [hTT]; exact HF.out
    have HT : Hid (T = 64 + 56 * [smS].length + szs [smS] [smS].length) := by rw [hTT]; exact HT0.out
    have hT2 : T ≤ 262144 := by omega
    have hT0 : 64 ≤ T := by omega
    rw [← hTT]
    clear HT0 hTT
    generalize [smS] = S1 at *
    generalize smB = B1 at *
    obtain ⟨en1, hen1⟩ : ∃ x : Int, x = 0 := ⟨_, rfl⟩
    rw [← hen1] at HF HGd
    clear hen1
    dsimp only
    have hT0i : ¬ ((T : Int) = 0) := by omega
    by_cases h1 : at_ < 0
    · obtain ⟨a, hae, haT⟩ : ∃ a : Nat, (T : Int) - 1 = a ∧ a < T := ⟨T - 1, by omega, by omega⟩
      have c7 := read_any (n := a) (HL.out.below HA.out) (fun i hi => HF.out.1 i (by omega)) hg (fil_bd en1 S1 B1 HBd.out) ⟨by have := HF.out.2.1; omega, HF.out.2.2⟩ 0 0 hd_fil
      have hac : (a : Int) ≤ cp := by have := HF.out.2.1; omega
      have HCut : Hid ((rdF a (fil en1 S1 B1) 0 0).1.2 ≠ 0) := rdF_cut HGd.out HPl.out HT.out hT2 HV.out haT
      go_wp2_with (first | (go_at_call 7; refine c7.mono ?_; intro e8 W8 hr8; rcases hr8 with ⟨_, v8, he8, ⟨fb, _, _, hv8, _⟩, hb8⟩ | ⟨hno, _⟩; rotate_left; exact absurd hno HCut.out; subst he8; subst hv8; have HB8 : Hid (Below w.heap.size w W8) := HA.out.trans (hb8.mono HA.out.size); clear hb8) | fail)
      go_ret
      exact ⟨rfl, HB8.out.alloc HB8.out.size _⟩
    · by_cases h2 : (T : Int) ≤ at_
      · obtain ⟨a, hae, haT⟩ : ∃ a : Nat, (T : Int) - 1 = a ∧ a < T := ⟨T - 1, by omega, by omega⟩
        have c7 := read_any (n := a) (HL.out.below HA.out) (fun i hi => HF.out.1 i (by omega)) hg (fil_bd en1 S1 B1 HBd.out) ⟨by have := HF.out.2.1; omega, HF.out.2.2⟩ 0 0 hd_fil
        have hac : (a : Int) ≤ cp := by have := HF.out.2.1; omega
        have HCut : Hid ((rdF a (fil en1 S1 B1) 0 0).1.2 ≠ 0) := rdF_cut HGd.out HPl.out HT.out hT2 HV.out haT
        go_wp2_with (first | (go_at_call 7; refine c7.mono ?_; intro e8 W8 hr8; rcases hr8 with ⟨_, v8, he8, ⟨fb, _, _, hv8, _⟩, hb8⟩ | ⟨hno, _⟩; rotate_left; exact absurd hno HCut.out; subst he8; subst hv8; have HB8 : Hid (Below w.heap.size w W8) := HA.out.trans (hb8.mono HA.out.size); clear hb8) | fail)
        go_ret
        exact ⟨rfl, HB8.out.alloc HB8.out.size _⟩
      · obtain ⟨a, rfl⟩ : ∃ a : Nat, at_ = a := ⟨at_.toNat, by omega⟩
        have haT : a < T := by omega
        have c7 := read_any (n := a) (HL.out.below HA.out) (fun i hi => HF.out.1 i (by omega)) hg (fil_bd en1 S1 B1 HBd.out) ⟨by have := HF.out.2.1; omega, HF.out.2.2⟩ 0 0 hd_fil
        have hac : (a : Int) ≤ cp := by have := HF.out.2.1; omega
        have HCut : Hid ((rdF a (fil en1 S1 B1) 0 0).1.2 ≠ 0) := rdF_cut HGd.out HPl.out HT.out hT2 HV.out haT
        go_wp2_with (first | (go_at_call 7; refine c7.mono ?_; intro e8 W8 hr8; rcases hr8 with ⟨_, v8, he8, ⟨fb, _, _, hv8, _⟩, hb8⟩ | ⟨hno, _⟩; rotate_left; exact absurd hno HCut.out; subst he8; subst hv8; have HB8 : Hid (Below w.heap.size w W8) := HA.out.trans (hb8.mono HA.out.size); clear hb8) | fail)
        go_ret
        exact ⟨rfl, HB8.out.alloc HB8.out.size _⟩
end Go.Proofs.YtpdlcjcigeegjaaDoor
