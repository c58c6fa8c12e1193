import Derived.Test.YtckdddlapphcfaaDoorBk1
import Derived.Test.YtckdddlapphcfaaDoorSameA
import Derived.Test.YtckdddlapphcfaaDoorRd9
namespace Go.Proofs.YtckdddlapphcfaaDoor
open Go.RowKit
set_option linter.unusedVariables false
set_option linter.unusedSimpArgs false
set_option maxHeartbeats 4000000 in
set_option maxRecDepth 100000 in
theorem back_any {w : World} {q : Option Addr} {m c : Nat} {S : Nat → Sr} {D : Nat → List Int} (h : Arg w q m c S D) (hL : Laid w) (en : Int) (he : 0 ≤ en ∧ en < 18446744073709551616) :
    Calls Tryd.prog 3 #[.agg #[.int .u64 en, .slice q m c]] w fun e w' => e = .returned (.bool true) ∧ Below w.heap.size w w' := by
  have HB : Hid (Below w.heap.size w (w.alloc (.cells #[.int .u64 en, .slice q m c] 25))) := (Below.refl _ _).alloc (Nat.le_refl _) _
  have q0 : (w.alloc (.cells #[.int .u64 en, .slice q m c] 25)).cell? ⟨w.heap.size, 0, .none⟩ = some (.int .u64 en) := World.cell?_alloc_at _ _ _ _ rfl
  have q1 : (w.alloc (.cells #[.int .u64 en, .slice q m c] 25)).cell? ⟨w.heap.size, 1, .none⟩ = some (.slice q m c) := World.cell?_alloc_at _ _ _ _ rfl
  have HQ0 : Hid _ := q0
  have HQ1 : Hid _ := q1
  have HG : Hid (Arg w q m c S D) := h
  have HL : Hid (Laid w) := hL
  have hmc := h.mc
  clear h hL q0 q1
  go_enter Tryd.func3, Tryd.ntmps3
  go_upto_region 1 with fail
  generalize (w.alloc (.cells #[.int .u64 en, .slice q m c] 25)) = W1 at *
  have hlt1 : w.heap.size < W1.heap.size := lt_of_cell HQ1.out
  go_wp2_with fail
  refine (small_any W1).mono ?_
  rintro _ W2 ⟨g, cg, rfl, hP2, hb2⟩
  have c4 := write_any hP2 (fun x hx => by rw [List.mem_singleton] at hx; subst hx; exact ⟨_, _, rfl⟩) (show 1 ≤ 1000 by decide) sm_plc (HL.out.below (HB.out.trans (hb2.mono HB.out.size))) 0 ⟨by decide, by decide⟩
  have HB2 : Hid (Below W1.heap.size W1 W2) := hb2
  clear hP2 hb2
  dsimp only
  go_wp2_with fail
  refine c4.mono ?_
  rintro e3 W3 ⟨hb3, hw3⟩
  have hsm : Good 0 [smS] ∧ 64 + 56 * 1 + szs [smS] 1 ≤ 262144 := ⟨sm_good, by decide⟩
  rcases hw3 with ⟨_, _, v3, rfl, own3⟩ | ⟨hno, _⟩
  rotate_left
  · exact absurd hsm hno
  have hv3 : ∃ q3 c3, v3 = .slice q3 124 c3 ∧ 124 ≤ c3 ∧ c3 ≤ 9223372036854775807 := by
    obtain ⟨q3, c3, e, h1, h2, _⟩ := own_form own3
    exact ⟨q3, c3, e, h1, h2⟩
  obtain ⟨q3, c3, rfl, h31, h32⟩ := hv3
  have HB3 : Hid (Below W1.heap.size W1 W3) := HB2.out.trans (hb3.mono HB2.out.size)
  clear own3 hb3 c4 hsm HB2
  have k0 : W3.cell? ⟨w.heap.size, 0, .none⟩ = some (.int .u64 en) := (HB3.out.cell hlt1).trans HQ0.out
  have k1 : W3.cell? ⟨w.heap.size, 1, .none⟩ = some (.slice q m c) := (HB3.out.cell hlt1).trans HQ1.out
  have HA3 : Hid (Below w.heap.size w W3) := HB.out.trans (HB3.out.mono HB.out.size)
  have c6 := few_any (HG.out.below HA3.out) en
  dsimp only
  by_cases hfew : sumN S m ≤ 400000 ∧ m ≤ 1000
  rotate_left
  · rw [show decide (sumN S m ≤ 400000 ∧ m ≤ 1000) = false by simpa using hfew] at c6
    have HF : Hid (¬ (sumN S m ≤ 400000 ∧ m ≤ 1000)) := hfew
    clear hfew
    go_wp2_with (first | (go_at_call 6; refine c6.mono ?_; rintro _ W4 ⟨rfl, hb4⟩) | fail)
    go_ret
    exact ⟨rfl, HA3.out.trans (hb4.mono HA3.out.size)⟩
  rw [show decide (sumN S m ≤ 400000 ∧ m ≤ 1000) = true by simpa using hfew] at c6
  obtain ⟨hf1, hf2⟩ := hfew
  go_upto_region 6 with (go_at_call 6; refine c6.mono ?_; rintro _ W4 ⟨rfl, hb4⟩)
  have HB4 : Hid (Below W1.heap.size W1 W4) := HB3.out.trans (hb4.mono HB3.out.size)
  have HA4 : Hid (Below w.heap.size w W4) := HB.out.trans (HB4.out.mono HB.out.size)
  have l0 : W4.cell? ⟨w.heap.size, 0, .none⟩ = some (.int .u64 en) := (HB4.out.cell hlt1).trans HQ0.out
  have l1 : W4.cell? ⟨w.heap.size, 1, .none⟩ = some (.slice q m c) := (HB4.out.cell hlt1).trans HQ1.out
  clear k0 k1 c6 hb4 HB3 HA3
  have HDl : Hid (∀ i, i < m → (D i).length = (S i).n) := fun i hi => (HG.out.dat i hi).1
  have c7 := twin_any (HG.out.below HA4.out) hf2 hf1 en (sgsG S m) (datB D m) sgsG_len (fun i s hs => by
    have e := (sgsG_get hs).2
    refine ⟨by rw [e], by rw [e], by rw [e], by rw [e], datB_byt HDl.out hs⟩)
  go_wp2_with fail
  refine c7.mono ?_
  rintro _ W5 ⟨sv, E, rfl, own5, dat5, hEG, hb5⟩
  clear c7
  have HEG : Hid (E.map (·.1) = sgsG S m) := hEG
  have hEl : E.length = m := by have := congrArg List.length hEG; rwa [List.length_map, sgsG_len] at this
  have HEl : Hid (E.length = m) := hEl
  have hmem : ∀ x ∈ E, ∃ i, i < m ∧ x.1 = ⟨(S i).va, (S i).fl, (S i).mem, 64 + 56 * m + sumN S i, (S i).n⟩ := fun x hx => by
    obtain ⟨i, hi, hie⟩ := List.getElem_of_mem hx
    have : (sgsG S m)[i]? = some x.1 := by rw [← hEG, List.getElem?_map, List.getElem?_eq_getElem hi, hie]; rfl
    exact ⟨i, sgsG_get this⟩
  have HB5 : Hid (Below W1.heap.size W1 W5) := HB4.out.trans (hb5.mono HB4.out.size)
  have HA5 : Hid (Below w.heap.size w W5) := HB.out.trans (HB5.out.mono HB.out.size)
  have hP5 : Prs W5 W4.heap.size sv E (datB D m) := by
    refine ⟨own5, fun x hx => (dat5 x hx).1, ?_, ?_, ?_, ?_⟩ <;> intro x hx <;> obtain ⟨i, hi, e⟩ := hmem x hx <;> rw [e]
    · exact HG.out.va i hi
    · exact HG.out.fl i hi
    · exact HG.out.mem i hi
    · exact Nat.le_trans (sum_one (m := m) m (Nat.le_refl _) i hi) hf1
  have c4 := write_any hP5 (fun x hx => (dat5 x hx).2) (by omega) (by rw [hEG]; exact plc_sgs) (HL.out.below HA5.out) en he
  obtain ⟨sq, scp, rfl, _⟩ := own_form own5
  clear own5 dat5 hmem hP5 hb5 l0 l1
  clear hEG hEl
  dsimp only
  go_wp2_with fail
  refine c4.mono ?_
  rintro e6 W6 ⟨hb6, hw6⟩
  rw [HEG.out, HEl.out, szs_sgs m (Nat.le_refl _)] at hw6
  clear c4
  have HB6 : Hid (Below W1.heap.size W1 W6) := HB5.out.trans (hb6.mono HB5.out.size)
  have HA6 : Hid (Below w.heap.size w W6) := HB.out.trans (HB6.out.mono HB.out.size)
  rcases hw6 with ⟨hg, hT, v6, rfl, own6⟩ | ⟨_, p, rfl⟩
  rotate_left
  · dsimp only
    clear hb6
    go_wp2_with fail
    go_ret
    exact ⟨rfl, HA6.out⟩
  obtain ⟨g6, c6, rfl⟩ := own_slice own6 (by omega)
  have HO6 : Hid (Row W6 g6 0 (64 + 56 * m + sumN S m) (fil en (sgsG S m) (datB D m)) ∧ 64 + 56 * m + sumN S m ≤ c6 ∧ c6 ≤ maxLen) := ⟨own_row own6, own_cap own6⟩
  have hg6 : g6 < W6.heap.size := own_lt own6
  have HGd : Hid (Good en (sgsG S m)) := hg
  have h8 : m ≤ 8 := by have := hg.2.1; rwa [sgsG_len] at this
  clear own6 hg hb6
  have j1 : W6.cell? ⟨w.heap.size, 1, .none⟩ = some (.slice q m c) := (HB6.out.cell hlt1).trans HQ1.out
  dsimp only
  generalize hTT : 64 + 56 * m + sumN S m = T at *
  have HTT : Hid (64 + 56 * m + sumN S m = T) := hTT
  clear hTT
  go_upto_region 10 with fail
  go_wp2_with fail
  go_loopw [5, 6] (fun a k wr => ∃ i : Nat, i ≤ m ∧ k = .int .i64 i ∧ a = .int .i64 (64 + 56 * m + sumN S i) ∧ wr = W6) (fun _ k _ => (m - intOf k).toNat)
  case atStart => exact ⟨0, by omega, rfl, by simp [sumN], rfl⟩
  case round =>
    obtain ⟨i, hi, rfl, rfl, hwr⟩ := hrel
    subst hwr
    have hsi := sum_mono (S := S) i m hi
    by_cases hlt : i < m
    · have g0 : (i : Int) < m := by omega
      obtain ⟨b, o, rfl, a0, a1, a2, a3⟩ := (HG.out.below HA6.out).seg hlt
      have hb := HG.out.nb i hlt
      have hs2 : sumN S (i + 1) = sumN S i + (S i).n := rfl
      clear a0 a1 a3
      go_wp2_with fail
      exact ⟨⟨i + 1, by omega, by simp, by rw [hs2]; congr 1; push_cast; omega, trivial⟩, by simp [intOf]; omega⟩
    · have he' : i = m := by omega
      have hn9 : ¬ ((i : Int) < m) := by omega
      subst he'
      have hv : ∀ s ∈ sgsG S i, 0 ≤ s.va := fun s hs => by
        obtain ⟨k, hk, hke⟩ := List.getElem_of_mem hs
        obtain ⟨hk2, e⟩ := sgsG_get (S := S) (m := i) (i := k) (s := s) (by rw [List.getElem?_eq_getElem hk, hke])
        rw [e]
        exact (HG.out.va k hk2).1
      have hrd := rdF_fil (B := datB D i) (T := T) he HGd.out plc_sgs (by rw [sgsG_len, szs_sgs i (Nat.le_refl _)]; exact HTT.out.symm) hT hv
      have c8 := read_any (HL.out.below HA6.out) HO6.out.1 hg6 (fil_bd en _ _ (datB_bd HG.out.by_)) HO6.out.2 0 0 hd_fil
      rw [hrd, num_en he] at c8
      have HV : Hid (∀ s ∈ sgsG S i, 0 ≤ s.va) := hv
      clear hrd hv
      have hTi : (64 : Int) + 56 * i + sumN S i = T := by have := HTT.out; omega
      rw [hTi]
      clear hTi hsi
      go_upto_region 14 with fail
      go_wp2_with fail
      refine c8.mono ?_
      rintro e7 W7 hr7
      clear c8
      rcases hr7 with ⟨hno, _⟩ | ⟨_, sv7, E7, rfl, hE7, hS7, hl7, hb7⟩
      · exact absurd rfl hno
      obtain ⟨q7, c7, rfl, _⟩ := own_form hS7.own
      have hE7 : E7.map (·.1) = sgsG S i := hE7
      have hl7e : E7.length = i := by have := congrArg List.length hE7; rwa [List.length_map, sgsG_len] at this
      have HB7 : Hid (Below wr.heap.size wr W7) := hb7
      have HA7 : Hid (Below w.heap.size w W7) := HA6.out.trans (hb7.mono HA6.out.size)
      have m0 : W7.cell? ⟨w.heap.size, 0, .none⟩ = some (.int .u64 en) := (hb7.cell (show w.heap.size < wr.heap.size by have := HB6.out.size; omega)).trans ((HB6.out.cell hlt1).trans HQ0.out)
      have m1 : W7.cell? ⟨w.heap.size, 1, .none⟩ = some (.slice q i c) := (hb7.cell (lt_of_cell j1)).trans j1
      have HB8 : Hid (Below W7.heap.size W7 (W7.alloc (.cells #[.int .u64 en, .slice q7 E7.length c7] 25))) := (Below.refl _ _).alloc (Nat.le_refl _) _
      have c9 : Calls Tryd.prog 9 #[.agg #[.int .u64 en, .slice q7 E7.length c7], .agg #[.int .u64 en, .slice q E7.length c]] (W7.alloc (.cells #[.int .u64 en, .slice q7 E7.length c7] 25)) fun e w' => e = .returned (.bool true) ∧ Below (W7.alloc (.cells #[.int .u64 en, .slice q7 E7.length c7] 25)).heap.size (W7.alloc (.cells #[.int .u64 en, .slice q7 E7.length c7] 25)) w' := by
        refine sameA_any (hS7.below HB8.out) ?_ ?_ hl7 en (S := S) (D := D)
        · have hg8 := (HG.out.below HA7.out).below HB8.out
          exact hl7e.symm ▸ hg8
        · intro k x hx
          have hk : (sgsG S i)[k]? = some x.1 := by rw [← hE7, List.getElem?_map, hx]; rfl
          obtain ⟨hki, e⟩ := sgsG_get hk
          refine ⟨by rw [e], by rw [e], by rw [e], by rw [e], ?_⟩
          rw [fil_bytes plc_sgs (List.mem_of_getElem? hk)]
          exact (datB_byt HDl.out hk).symm
      rw [hl7e] at c9 HB8
      rw [hl7e]
      clear hE7 hS7 hl7 hb7 hl7e j1
      have n0 : (W7.alloc (.cells #[.int .u64 en, .slice q7 i c7] 25)).cell? ⟨w.heap.size, 0, .none⟩ = some (.int .u64 en) := (HB8.out.cell (lt_of_cell m0)).trans m0
      have n1 : (W7.alloc (.cells #[.int .u64 en, .slice q7 i c7] 25)).cell? ⟨w.heap.size, 1, .none⟩ = some (.slice q i c) := (HB8.out.cell (lt_of_cell m1)).trans m1
      clear m0 m1
      dsimp only
      go_wp2_with (first | (go_at_call 9; refine c9.mono ?_; rintro _ W9 ⟨rfl, hb9⟩) | fail)
      go_ret
      refine ⟨rfl, ?_⟩
      have hA8 := HA7.out.trans (HB8.out.mono HA7.out.size)
      exact hA8.trans (hb9.mono hA8.size)
end Go.Proofs.YtckdddlapphcfaaDoor
