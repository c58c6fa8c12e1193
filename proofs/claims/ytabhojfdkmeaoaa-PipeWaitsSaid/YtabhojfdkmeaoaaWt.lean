import Derived.Test.YtabhojfdkmeaoaaAc
namespace Go.Proofs.Ytabhojfdkmeaoaa
open Go.RowKit
set_option linter.unusedVariables false
set_option linter.unusedSimpArgs false
set_option maxHeartbeats 4000000 in
set_option maxRecDepth 100000 in
theorem waits_any (w : World) (q : Option Addr) (m c : Nat) (O : Nat → Orec) (hA : ArgO w q m c O) : Calls Try.prog 4 #[.slice q m c] w fun e w' => e = .returned (.bool true) ∧ Below w.heap.size w w' := by
  have HA : Hid (ArgO w q m c O) := hA
  have hmc := hA.lc.1
  have hmm := hA.mm
  have hcm : c ≤ 9223372036854775807 := hA.lc.2
  clear hA
  go_enter Try.func4, Try.ntmps4
  go_wp2_with fail
  refine (works_any w).mono ?_
  rintro e W1 ⟨rfl, hb1⟩
  go_wp2_with fail
  refine (new_any W1).mono ?_
  rintro e W2 ⟨rfl, hp2, hb2⟩
  have H2 : Hid (Pl w W2 W1.heap.size [] 0 true true) := ⟨hb1.trans (hb2.mono hb1.size), hb1.size, hp2⟩
  generalize W1.heap.size = b at *
  clear hb1 hb2 hp2
  go_wp2
  go_loopw [4] (fun i wr => ∃ I : Nat, I ≤ m ∧ i = .int .i64 I ∧ Hid (∃ xs r rd wt, Pl w wr b xs r rd wt)) (fun i _ => (m - intOf i).toNat)
  case atStart => exact ⟨0, by omega, rfl, _, _, _, _, H2.out⟩
  case round =>
    obtain ⟨I, hI, rfl, HM⟩ := hrel
    clear H2
    by_cases hlt : I < m
    · have g0 : (I : Int) < m := by omega
      obtain ⟨xs, r, rd, wt, hP⟩ := HM.out
      have HP : Hid (Pl w wr b xs r rd wt) := hP
      clear HM hP
      go_wp2_with fail
      have c13 := state_pip HP.out.pip
      refine c13.mono ?_
      rintro e V1 ⟨sp, sc, rfl, hO, hb, _⟩
      have es : stt sp xs.length sc r rd wt = .agg #[.slice sp xs.length sc, .int .u32 r, .int .u32 ((r + (xs.length : Int)) % 4294967296), .bool rd, .bool wt] := rfl
      rw [es]
      obtain ⟨s, hs⟩ : ∃ s, s = (r + (xs.length : Int)) % 4294967296 := ⟨_, rfl⟩
      rw [← hs]
      have H1 : Hid (Pl w V1 b xs r rd wt) := HP.out.below hb
      clear es hs hO hb c13 HP
      go_upto_region 8 with fail
      have hsb := sb_new V1 sp xs.length sc r s rd wt
      have hb2 := Trn.new V1 (.cells #[.slice sp xs.length sc, .int .u32 r, .int .u32 s, .bool rd, .bool wt] 36)
      generalize V1.alloc (.cells #[.slice sp xs.length sc, .int .u32 r, .int .u32 s, .bool rd, .bool wt] 36) = V2 at *
      have H2 : Hid (Pl w V2 b xs r rd wt ∧ Sb V2 V1.heap.size sp xs.length sc r s rd wt ∧ b < V1.heap.size ∧ w.heap.size ≤ V1.heap.size) := ⟨H1.out.below hb2, hsb, H1.out.pip.lt, H1.out.bel.size⟩
      generalize V1.heap.size = sb at *
      clear hsb hb2 H1
      obtain ⟨ab, ao, hq, hab, k0, k1, k2, k3⟩ := HA.out.cells H2.out.1.bel I hlt
      have HK : Hid (V2.cell? ⟨ab, ao + I * 4 + 2, .none⟩ = some (.slice (O I).s (O I).ln (O I).cd) ∧ V2.cell? ⟨ab, ao + I * 4 + 3, .none⟩ = some (.int .i64 (O I).n) ∧ ab < w.heap.size) := ⟨k2, k3, hab⟩
      have HD : Hid (Byt w (O I).s (O I).ln (O I).cd (O I).xs ∧ (∀ y ∈ (O I).xs, 0 ≤ y ∧ y < 256) ∧ (O I).ln < 140737488355000) := ⟨HA.out.byt I hlt, HA.out.bd I hlt, HA.out.ln I hlt⟩
      have hx512 := H2.out.1.pip.1
      subst hq
      generalize (O I).k = K at *
      generalize (O I).n = Nn at *
      generalize (O I).s = ds at *
      generalize (O I).ln = dl at *
      generalize (O I).cd = dc at *
      generalize (O I).xs = ys at *
      clear k1 k2 k3
      have hdl := HD.out.2.2
      have hyl : Hid (ys.length = dl) := HD.out.1.1
      have hcut := HD.out.1.2.1
      by_cases hk1 : K = 1
      · subst hk1
        have k2 := HK.out.1
        go_wp2_with fail
        have c16 := lend_any (byt_below HD.out.1 H2.out.1.bel) hdl
        refine c16.mono ?_
        rintro e V3 ⟨g, cg, rfl, hL, hb3⟩
        have H3 : Hid (Pl w V3 b xs r rd wt ∧ Sb V3 sb sp xs.length sc r s rd wt) := ⟨H2.out.1.below hb3, H2.out.2.1.below hb3⟩
        have hbl := H2.out.1.pip.lt
        have c10 := put_lent H3.out.1 hL hbl HD.out.2.1 hyl.out.symm
        clear c16 hb3
        go_wp2_with fail
        refine c10.mono ?_
        rintro e V4 ⟨rfl, hp4, ht4⟩
        have hne : sb ≠ b := Nat.ne_of_gt H2.out.2.2.1
        have H4 : Hid (Pl w V4 b (xs ++ ys.take (putN xs rd ys)) r rd wt ∧ Sb V4 sb sp xs.length sc r s rd wt) := ⟨hp4, H3.out.2.keep ht4 hne⟩
        clear c10 hp4 ht4 hL H3 k0 k2
        by_cases h2 : putHow xs rd ys = 2
        · obtain ⟨hrd, hlt2, hfull⟩ := put2 h2
          subst hrd
          rw [h2]
          have hfull := hfull hx512
          generalize hpn : putN xs true ys = pn at *
          have a0 := H4.out.2.c0
          have a3 := H4.out.2.c3
          have z2 : V4.cell? ⟨ab, ao + I * 4 + 2, .none⟩ = some (.slice ds dl dc) := (H4.out.1.bel.cell (p := ⟨ab, ao + I * 4 + 2, .none⟩) HK.out.2.2).trans (by
            have := H2.out.1.bel.cell (p := ⟨ab, ao + I * 4 + 2, .none⟩) HK.out.2.2
            exact this.symm.trans HK.out.1)
          have i1 : (pn : Int) < dl := by have := hyl.out; omega
          have i2 : (xs.length : Int) + pn = 512 := by omega
          go_wp2_with fail
          have c11 := take_pip H4.out.1.pip 1
          have hl4 : (xs ++ ys.take pn).length = 512 := by rw [List.length_append, List.length_take]; omega
          have e1 : takeN (xs ++ ys.take pn) 1 = 1 := by unfold takeN; rw [hl4]; rfl
          have e2 : takeHow (xs ++ ys.take pn) wt 1 = 1 := by unfold takeHow; rw [hl4]; rfl
          rw [e1, e2] at c11
          refine c11.mono ?_
          rintro e V5 ⟨tp, tc, rfl, _, _, hp5, ht5⟩
          have H5 : Hid (Pl w V5 b ((xs ++ ys.take pn).drop 1) ((r + ((1 : Nat) : Int)) % 4294967296) true wt) := H4.out.1.turn ht5 hp5
          have hl5 : ((xs ++ ys.take pn).drop 1).length = 511 := by rw [List.length_drop, hl4]
          have z3 : V5.cell? ⟨ab, ao + I * 4 + 2, .none⟩ = some (.slice ds dl dc) := (H5.out.bel.cell (p := ⟨ab, ao + I * 4 + 2, .none⟩) HK.out.2.2).trans (by
            have := H2.out.1.bel.cell (p := ⟨ab, ao + I * 4 + 2, .none⟩) HK.out.2.2
            exact this.symm.trans HK.out.1)
          generalize (xs ++ ys.take pn).drop 1 = us at *
          clear c11 hp5 ht5 e1 e2 a0 a3 z2
          have ca := cutat ds dl dc
          have cf := cut_from ds dl dc pn (by omega)
          go_wp2_with fail
          have hB6 : Byt V5 (cutp ds dc pn) (dl - pn) (dc - pn) (ys.drop pn) := by
            have := byt_cut (byt_below HD.out.1 H5.out.bel) pn dl (by omega) (Nat.le_refl _)
            rw [List.take_of_length_le (by have := hyl.out; omega)] at this
            exact this
          have c16 := lend_any hB6 (by omega)
          refine c16.mono ?_
          rintro e V6 ⟨g6, cg6, rfl, hL6, hb6⟩
          have H6 : Hid (Pl w V6 b us ((r + ((1 : Nat) : Int)) % 4294967296) true wt) := H5.out.below hb6
          have c10 := put_lent H6.out hL6 H5.out.pip.lt (fun y hy => HD.out.2.1 y (List.mem_of_mem_drop hy)) (n := dl - pn) (by rw [List.length_drop]; have := hyl.out; omega)
          have e1 : putN us true (ys.drop pn) = 1 := by
            unfold putN
            rw [hl5, List.length_drop, if_pos rfl]
            have := hyl.out
            omega
          rw [e1] at c10
          clear c16 hb6 e1 hB6 ca cf z3
          go_wp2_with fail
          refine c10.mono ?_
          rintro e V7 ⟨rfl, hp7, ht7⟩
          have H7 : Hid (∃ xs r rd wt, Pl w V7 b xs r rd wt) := ⟨_, _, _, _, hp7⟩
          clear c10 hp7 ht7 hL6
          generalize putHow us true (ys.drop pn) = ph at *
          go_wp2
          exact ⟨⟨I + 1, by omega, rfl, H7⟩, by simp only [intOf]; omega⟩
        · have H5 : Hid (∃ xs r rd wt, Pl w V4 b xs r rd wt) := ⟨_, _, _, _, H4.out.1⟩
          generalize putHow xs rd ys = ph at *
          generalize putN xs rd ys = pn at *
          go_wp2
          exact ⟨⟨I + 1, by omega, rfl, H5⟩, by simp only [intOf]; omega⟩
      · by_cases hk2 : K = 2
        · subst hk2
          have z3 := HK.out.2.1
          go_wp2_with fail
          have c11 := take_pip H2.out.1.pip Nn
          refine c11.mono ?_
          rintro e V3 ⟨tp, tc, rfl, _, _, hp3, ht3⟩
          have hne : sb ≠ b := Nat.ne_of_gt H2.out.2.2.1
          have H3 : Hid (∃ xs r rd wt, Pl w V3 b xs r rd wt) := ⟨_, _, _, _, H2.out.1.turn ht3 hp3⟩
          have hs3 := H2.out.2.1.keep ht3 hne
          have a0 := hs3.c0
          have a4 := hs3.c4
          have y3 : V3.cell? ⟨ab, ao + I * 4 + 3, .none⟩ = some (.int .i64 Nn) := by
            obtain ⟨_, _, _, _, h⟩ := H3.out
            have e1 := h.bel.cell (p := ⟨ab, ao + I * 4 + 3, .none⟩) HK.out.2.2
            have e2 := H2.out.1.bel.cell (p := ⟨ab, ao + I * 4 + 3, .none⟩) HK.out.2.2
            exact (e1.trans e2.symm).trans HK.out.2.1
          clear c11 hp3 ht3 hs3 z3 k0
          by_cases hw : 1 ≤ Nn ∧ xs.length = 0 ∧ wt = true
          · obtain ⟨hn, hx0, rfl⟩ := hw
            obtain rfl : xs = [] := List.length_eq_zero_iff.1 hx0
            have e1 : takeHow [] true Nn = 2 := by unfold takeHow; rw [if_pos ⟨hn, rfl, rfl⟩]
            have e2 : takeN [] Nn = 0 := by unfold takeN; simp
            rw [e1, e2]
            have i1 : (0 : Int) < Nn := by omega
            clear e1 e2 hx0
            go_wp2
            exact ⟨⟨I + 1, by omega, rfl, H3⟩, by simp only [intOf]; omega⟩
          · have e1 : takeHow xs wt Nn = 1 := by unfold takeHow; rw [if_neg hw]
            rw [e1]
            generalize takeN xs Nn = tn at *
            generalize hL : xs.length = L at *
            clear e1
            by_cases hn : 1 ≤ Nn
            · have i1 : (0 : Int) < Nn := by omega
              by_cases h0 : L = 0
              · subst h0
                have hwt : wt = false := by cases wt <;> simp_all
                subst hwt
                go_wp2
                exact ⟨⟨I + 1, by omega, rfl, H3⟩, by simp only [intOf]; omega⟩
              · have i2 : ¬ (L : Int) = 0 := by omega
                clear hw
                go_wp2
                exact ⟨⟨I + 1, by omega, rfl, H3⟩, by simp only [intOf]; omega⟩
            · have i1 : ¬ (0 : Int) < Nn := by omega
              clear hw
              go_wp2
              exact ⟨⟨I + 1, by omega, rfl, H3⟩, by simp only [intOf]; omega⟩
        · by_cases hk3 : K = 3
          · subst hk3
            have z3 := HK.out.2.1
            go_wp2_with fail
            have c9 := shut_pip H2.out.1.pip (Nn == 1)
            refine c9.mono ?_
            rintro e V3 ⟨⟨u, rfl⟩, hp3, ht3⟩
            have H3 : Hid (∃ xs r rd wt, Pl w V3 b xs r rd wt) := ⟨_, _, _, _, H2.out.1.turn ht3 hp3⟩
            clear c9 hp3 ht3
            go_wp2
            exact ⟨⟨I + 1, by omega, rfl, H3⟩, by simp only [intOf]; omega⟩
          · have H3 : Hid (∃ xs r rd wt, Pl w V2 b xs r rd wt) := ⟨_, _, _, _, H2.out.1⟩
            go_wp2
            exact ⟨⟨I + 1, by omega, rfl, H3⟩, by simp only [intOf]; omega⟩
    · obtain rfl : I = m := by omega
      obtain ⟨xs, r, rd, wt, hP⟩ := HM.out
      have HE : Hid (Below w.heap.size w wr) := hP.bel
      clear HM hP
      go_wp2
      go_ret
      exact ⟨rfl, HE.out⟩
end Go.Proofs.Ytabhojfdkmeaoaa
