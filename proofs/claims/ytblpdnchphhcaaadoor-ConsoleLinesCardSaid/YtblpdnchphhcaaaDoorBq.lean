import Derived.Test.YtblpdnchphhcaaaDoorBp
namespace Go.Proofs.YtblpdnchphhcaaaDoor
open Go.RowKit
set_option linter.unusedVariables false
set_option linter.unusedSimpArgs false
section
variable {w : World} {d X : Nat} {vD vL : Value} {dn ln : List Int} {g : Nat}
/-- A key, in the book. -/
theorem typed_any (h : Bok w d X vD vL dn ln g) (x : Int) (hs : dn.length + ln.length ≤ 100000) : Calls Tryd.prog 16 #[.pointer (some ⟨d, 0, .none⟩), .int .u8 x] w fun e w' =>
    (∃ v, e = .returned v) ∧ (∃ vD' vL' dn', Bok w' d X vD' vL' dn' (tyL (dn.drop g) ln x) g ∧ dn'.drop g = tyR (dn.drop g) ln x ∧ dn'.length + (tyL (dn.drop g) ln x).length ≤ dn.length + ln.length + 1) ∧ Below X w w' := by
  have hg := h.gl
  have hd : (dn.drop g).length = dn.length - g := List.length_drop
  by_cases h21 : x = 21
  · subst h21
    refine (typed_kill h).mono ?_
    rintro e w' ⟨h1, ⟨vD', vL', h2⟩, h3⟩
    refine ⟨h1, ⟨vD', vL', dn, ?_, ?_, ?_⟩, h3⟩
    · simpa [tyL] using h2
    · simp [tyR]
    · first | (simp [tyL]; done) | (simp [tyL]; omega)
  by_cases h8 : x = 8 ∨ x = 127
  · have e1 : tyL (dn.drop g) ln x = ln.take (ln.length - 1) := by unfold tyL; rw [if_neg h21, if_pos h8]
    have e2 : tyR (dn.drop g) ln x = dn.drop g := by unfold tyR; rw [if_pos (by omega)]
    have c : Calls Tryd.prog 16 #[.pointer (some ⟨d, 0, .none⟩), .int .u8 x] w (BokT w d X dn ln dn (ln.take (ln.length - 1)) g) := by
      rcases h8 with rfl | rfl
      · exact typed_erase h (by omega)
      · exact typed_delete h (by omega)
    refine c.mono ?_
    rintro e w' ⟨h1, ⟨vD', vL', h2⟩, h3⟩
    rw [e1, e2]
    exact ⟨h1, ⟨vD', vL', dn, h2, rfl, by rw [List.length_take]; omega⟩, h3⟩
  by_cases h0 : x = 0
  · subst h0
    refine (typed_zero h).mono ?_
    rintro e w' ⟨h1, ⟨vD', vL', h2⟩, h3⟩
    refine ⟨h1, ⟨vD', vL', dn, ?_, ?_, ?_⟩, h3⟩
    · simpa [tyL] using h2
    · simp [tyR]
    · first | (simp [tyL]; done) | (simp [tyL]; omega)
  by_cases hf : 128 ≤ dn.length - g + ln.length
  · have e1 : tyL (dn.drop g) ln x = ln := by unfold tyL; rw [if_neg h21, if_neg h8, if_pos (by omega)]
    have e2 : tyR (dn.drop g) ln x = dn.drop g := by unfold tyR; rw [if_pos (by omega)]
    refine (typed_full h x (by omega) hf hs).mono ?_
    rintro e w' ⟨h1, ⟨vD', vL', h2⟩, h3⟩
    rw [e1, e2]
    exact ⟨h1, ⟨vD', vL', dn, h2, rfl, by omega⟩, h3⟩
  have e1 : tyL (dn.drop g) ln x = if key x = 10 ∨ key x = 4 ∨ dn.length - g + ln.length + 1 = 128 then [] else ln ++ [key x] := by unfold tyL; rw [if_neg h21, if_neg h8, if_neg (by omega), hd]
  have e2 : tyR (dn.drop g) ln x = if key x = 10 ∨ key x = 4 ∨ dn.length - g + ln.length + 1 = 128 then dn.drop g ++ (ln ++ [key x]) else dn.drop g := by unfold tyR; rw [if_neg (by omega), hd]
  have c : Calls Tryd.prog 16 #[.pointer (some ⟨d, 0, .none⟩), .int .u8 x] w (BokT w d X dn ln (if key x = 10 ∨ key x = 4 ∨ dn.length - g + ln.length + 1 = 128 then dn ++ (ln ++ [key x]) else dn) (if key x = 10 ∨ key x = 4 ∨ dn.length - g + ln.length + 1 = 128 then [] else ln ++ [key x]) g) := by
    by_cases h13 : x = 13
    · have ek : key x = 10 := by simp [key, h13]
      rw [ek, h13]
      exact typed_cr h (by omega) hs
    · have ek : key x = x := by simp [key, h13]
      rw [ek]
      exact typed_add h x (by omega) (by omega) hs
  refine c.mono ?_
  rintro e w' ⟨h1, ⟨vD', vL', h2⟩, h3⟩
  rw [e1, e2]
  refine ⟨h1, ⟨vD', vL', _, h2, ?_, ?_⟩, h3⟩
  · split
    · rw [List.drop_append_of_le_length hg]
    · rfl
  · split
    · simp; omega
    · simp; omega
set_option maxHeartbeats 2000000 in
theorem given_no (h : Bok w d X vD vL dn ln g) (h0 : dn.length - g = 0) (n : Int) (hs : dn.length ≤ 100000) :
    Calls Tryd.prog 15 #[.pointer (some ⟨d, 0, .none⟩), .slice none 0 0, .bool false, .int .i64 n] w fun e w' => e = .returned (.bool true) ∧ ∃ k, w' = w.drewN k := by
  obtain ⟨pD, cD, rfl⟩ := one_slice h.rD
  have c0 := h.c0
  have c1 := h.c1
  have hg := h.gl
  have ca := cutat pD dn.length cD
  have cf := cut_from pD dn.length cD g hg
  rw [h0] at cf
  generalize dn.length = D at *
  clear h
  go_enter Tryd.func15, Tryd.ntmps15
  go_wp2
  go_region
  go_wp2
  go_ret
  exact ⟨rfl, _, rfl⟩
set_option maxHeartbeats 8000000 in
set_option maxRecDepth 100000 in
theorem given_yes (h : Bok w d X vD vL dn ln g) (h0 : 0 < dn.length - g) (n : Int) (hn : 1 ≤ n ∧ n ≤ 256) (hs : dn.length ≤ 100000) {pl : Option Addr} {T cl : Nat} (hT : T = nxT (dn.drop g) n) (hB : Byt w pl T cl ((dn.drop g).take T)) (hpl : 0 < T → ∀ k o, pl = some ⟨k, o, .none⟩ → k ≠ d) :
    Calls Tryd.prog 15 #[.pointer (some ⟨d, 0, .none⟩), .slice pl T cl, .bool true, .int .i64 n] w fun e w' => e = .returned (.bool true) ∧ Bok w' d X vD vL dn ln (g + nxG (dn.drop g) n) ∧ Below X w w' := by
  obtain ⟨pD, cD, rfl⟩ := one_slice h.rD
  have c0 := h.c0
  have c1 := h.c1
  have f1 := h.fz 1
  have hg := h.gl
  have hTu : T = upt n.toNat (dn.drop g) := by rw [hT]; unfold nxT; rw [if_neg (by omega)]
  have hTle : T ≤ dn.length - g := by have := nxT_le (dn.drop g) n; rw [List.length_drop] at this; omega
  have hTn : T ≤ n.toNat := by rw [hTu]; exact upt_le_n _ _
  have hG : nxG (dn.drop g) n = if (dn.drop g).head? = some 4 then 1 else T := by unfold nxG; rw [if_neg (by omega), ← hTu]
  have h4a : ∀ i x, i < T → (dn.drop g)[i]? = some x → x ≠ 4 := fun i x hi => by rw [hTu] at hi; exact upt_no4 _ _ i x hi
  have h10a : ∀ i x, i + 1 < T → (dn.drop g)[i]? = some x → x ≠ 10 := fun i x hi => by rw [hTu] at hi; exact upt_no10 _ _ i x hi
  have hwh : T = n.toNat ∨ T = dn.length - g ∨ (0 < T ∧ (dn.drop g)[T - 1]? = some 10) ∨ (dn.drop g)[T]? = some 4 := by
    have := upt_whole n.toNat (dn.drop g)
    rw [← hTu, List.length_drop] at this
    exact this
  have ca := cutat pD dn.length cD
  have cf := cut_from pD dn.length cD g hg
  have hcD : dn.length ≤ cD ∧ cD ≤ 9223372036854775807 := by have := byt_own h.rD; exact ⟨this.2.1, this.2.2.1⟩
  have hBr : Byt w (cutp pD cD g) (dn.length - g) (cD - g) (dn.drop g) := by
    have := byt_cut (byt_own h.rD) g dn.length hg (Nat.le_refl _)
    rw [List.take_length] at this
    exact this
  obtain ⟨gr, or_, hpr, hcr⟩ : ∃ gr o, cutp pD cD g = some ⟨gr, o, .none⟩ ∧ ∀ i x, (dn.drop g)[i]? = some x → w.cell? ⟨gr, o + i, .none⟩ = some (.int .u8 x) := by
    rcases hBr.2.2.2 with h1 | ⟨gr, o, h1, _, h2⟩
    · omega
    · exact ⟨gr, o, h1, h2⟩
  have hgr : gr ≠ d := by
    have hne : NB pD d := fun a ha e => by
      subst ha
      have hk := h.rD
      rcases hk.2 with ⟨h1, _⟩ | ⟨g', cap, cur, h1, _⟩
      · cases h1
      · injection h1 with h1
        injection h1 with h1
        subst h1
        exact (h.aD g' rfl).1 e
    have := cutp_blk (c := cD) (m := g) hne
    exact this _ hpr
  rw [hpr] at cf
  have HCL : Hid (∀ i x, i < T → (dn.drop g)[i]? = some x → ∃ gl ol, pl = some ⟨gl, ol, .none⟩ ∧ gl ≠ d ∧ w.cell? ⟨gl, ol + i, .none⟩ = some (.int .u8 x)) := fun i x hi hx => by
    rcases hB.2.2.2 with h1 | ⟨gl, ol, h1, _, h2⟩
    · omega
    · exact ⟨gl, ol, h1, hpl (by omega) gl ol h1, h2 i x (by rw [List.getElem?_take, if_pos hi]; exact hx)⟩
  have hlc : T ≤ cl ∧ cl ≤ 9223372036854775807 := ⟨hB.2.1, hB.2.2.1⟩
  obtain ⟨R, hR⟩ : ∃ R, R = dn.length - g := ⟨_, rfl⟩
  have HR : Hid (R = (dn.drop g).length) := by show _ = _; rw [List.length_drop]; exact hR
  have HCR : Hid (∀ i x, (dn.drop g)[i]? = some x → w.cell? ⟨gr, or_ + i, .none⟩ = some (.int .u8 x)) := hcr
  have H4a : Hid (∀ i x, i < T → (dn.drop g)[i]? = some x → x ≠ 4) := h4a
  have H10 : Hid (∀ i x, i + 1 < T → (dn.drop g)[i]? = some x → x ≠ 10) := h10a
  have HBK : Hid (Bok w d X (.slice pD dn.length cD) vL dn ln g) := h
  have HG : Hid (nxG (dn.drop g) n = if (dn.drop g).head? = some 4 then 1 else T) := hG
  rw [← hR] at cf h0 hTle hwh
  obtain ⟨N, hN⟩ : ∃ N : Nat, n = N := ⟨n.toNat, by omega⟩
  subst hN
  rw [Int.toNat_natCast] at hTn hwh
  have HWH : Hid (T = N ∨ T = R ∨ (0 < T ∧ (dn.drop g)[T - 1]? = some 10) ∨ (dn.drop g)[T]? = some 4) := hwh
  have HDn : Hid (R = dn.length - g ∧ g ≤ dn.length) := ⟨hR, hg⟩
  have cD2 : ∀ i, cD - g ≤ 9223372036854775807 := fun _ => by omega
  have cD3 : R ≤ cD - g := by omega
  clear h hB hBr hpr hcr h4a h10a hG hTu hT hpl hwh hcD
  generalize dn.drop g = rs at *
  generalize hDl : dn.length = D at *
  have HDl : Hid (dn.length = D) := hDl
  clear hDl hR
  generalize cD - g = cR at *
  have b1 : ((R : Int) == 0) = false := by simp; omega
  have b2 : decide (R < T) = false := by simp; omega
  have b3 : decide (N < T) = false := by simp; omega
  go_enter Tryd.func15, Tryd.ntmps15
  go_wp2
  go_region
  go_wp2
  go_loopw [10] (fun v wr => ∃ i : Nat, i ≤ T ∧ v = .int .i64 i ∧ ∃ k, wr = w.drewN k) (fun v _ => (T - intOf v).toNat)
  case atStart => exact ⟨0, Nat.zero_le _, rfl, 1, rfl⟩
  case round =>
    obtain ⟨i, hi, rfl, k, rfl⟩ := hrel
    by_cases hlt : i < T
    · have g0 : (i : Int) < T := by omega
      obtain ⟨y, hy⟩ : ∃ y, rs[i]? = some y := ⟨rs[i]'(by have := HR.out; omega), by simp⟩
      have a2 : w.cell? ⟨gr, or_ + i, .none⟩ = some (.int .u8 y) := HCR.out i y hy
      obtain ⟨gl, ol, rfl, hgl, a1⟩ := HCL.out i y hlt hy
      have n4 : (y == 4) = false := by simpa using H4a.out i y hlt hy
      have g1 : (i : Int) < R := by omega
      by_cases hl : i + 1 < T
      · have n10 : (y == 10) = false := by simpa using H10.out i y hl hy
        clear hy hgl
        go_wp2
        go_region
        go_wp2
        exact ⟨⟨i + 1, by omega, rfl, k + 1, rfl⟩, by simp only [intOf]; omega⟩
      · have g2 : ¬ ((i : Int) < (T : Int) - 1) := by omega
        clear hy hgl
        by_cases e10 : y = 10
        · subst e10
          go_wp2
          go_region
          go_wp2
          exact ⟨⟨i + 1, by omega, rfl, k + 1, rfl⟩, by simp only [intOf]; omega⟩
        · have n10 : (y == 10) = false := by simpa using e10
          go_wp2
          go_region
          go_wp2
          exact ⟨⟨i + 1, by omega, rfl, k + 1, rfl⟩, by simp only [intOf]; omega⟩
    · obtain rfl : i = T := by omega
      clear hi hlt
      by_cases hT0 : i = 0
      · subst hT0
        have hr4 : rs[0]? = some 4 := by
          rcases HWH.out with h | h | h | h
          · omega
          · omega
          · omega
          · exact h
        have a2 := HCR.out 0 4 hr4
        rw [Nat.add_zero] at a2
        have HGv : Hid (nxG rs (N : Int) = 1) := by show _ = _; rw [HG.out, List.head?_eq_getElem?, if_pos hr4]
        have a3 : ((w.drewN k).setCell ⟨d, 1, .none⟩ (.int .i64 ((g : Int) + 1))).cell? ⟨gr, or_, .none⟩ = some (.int .u8 4) := ((chg_set d 1 (.int .i64 ((g : Int) + 1)) (w.drewN k)).cell (p := ⟨gr, or_, .none⟩) (lt_cell (w := w) a2) hgr).trans a2
        have FIN : Hid (Bok ((w.drewN k).setCell ⟨d, 1, .none⟩ (.int .i64 ((g : Int) + 1))) d X (.slice pD D cD) vL dn ln (g + nxG rs (N : Int)) ∧ Below X w ((w.drewN k).setCell ⟨d, 1, .none⟩ (.int .i64 ((g : Int) + 1)))) := by
          have q := (HBK.out.drewN k).setG (g + 1) (by have := HDn.out; have := HDl.out; omega)
          rw [show ((g + 1 : Nat) : Int) = (g : Int) + 1 by omega] at q
          rw [HGv.out]
          exact ⟨q, (⟨rfl, rfl, rfl, Nat.le_refl _, fun _ _ => rfl⟩ : Below X w (w.drewN k)).trans (bel_set (HBK.out.drewN k) _ _)⟩
        have hgD : g ≤ 100000 := by have := HDn.out; omega
        clear hr4
        go_wp2
        go_ret
        exact ⟨rfl, FIN.out.1, FIN.out.2⟩
      · obtain ⟨t, rfl⟩ : ∃ t, i = t + 1 := ⟨i - 1, by omega⟩
        have HGv : Hid (nxG rs (N : Int) = t + 1) := by
          show _ = _
          rw [HG.out, if_neg]
          intro e
          rw [List.head?_eq_getElem?] at e
          exact H4a.out 0 4 (by omega) e rfl
        have hgD : g ≤ 100000 := by have := HDn.out; omega
        have hTT : t + 1 ≤ 100000 := by have := HDn.out; omega
        obtain ⟨y, hy⟩ : ∃ y, rs[t]? = some y := ⟨rs[t]'(by have := HR.out; omega), by simp⟩
        obtain ⟨gl, ol, rfl, hgl, a1⟩ := HCL.out t y (by omega) hy
        have CH : Hid (∀ (b o : Nat) (v : Value), b ≠ d → w.cell? ⟨b, o, .none⟩ = some v → ((w.drewN k).setCell ⟨d, 1, .none⟩ (.int .i64 ((g : Int) + ((t + 1 : Nat) : Int)))).cell? ⟨b, o, .none⟩ = some v) := fun b o v hb hv => ((chg_set d 1 (.int .i64 ((g : Int) + ((t + 1 : Nat) : Int))) (w.drewN k)).cell (p := ⟨b, o, .none⟩) (lt_cell (w := w) hv) hb).trans hv
        have l1 := CH.out gl (ol + t) _ hgl a1
        rw [show (g : Int) + ((t + 1 : Nat) : Int) = (g : Int) + ((t : Int) + 1) by omega] at l1
        have z0 : ((t : Int) + 1 == 0) = false := by simp; omega
        by_cases e1 : t + 1 = N
        · have j1 : ((t : Int) + 1 == (N : Int)) = true := by simp; omega
          clear hy e1
          have FIN : Hid (Bok ((w.drewN k).setCell ⟨d, 1, .none⟩ (.int .i64 ((g : Int) + ((t + 1 : Nat) : Int)))) d X (.slice pD D cD) vL dn ln (g + nxG rs (N : Int)) ∧ Below X w ((w.drewN k).setCell ⟨d, 1, .none⟩ (.int .i64 ((g : Int) + ((t + 1 : Nat) : Int))))) := by
            have q := (HBK.out.drewN k).setG (g + (t + 1)) (by have := HDn.out; have := HDl.out; omega)
            rw [show ((g + (t + 1) : Nat) : Int) = (g : Int) + ((t + 1 : Nat) : Int) by omega] at q
            rw [HGv.out]
            exact ⟨q, (⟨rfl, rfl, rfl, Nat.le_refl _, fun _ _ => rfl⟩ : Below X w (w.drewN k)).trans (bel_set (HBK.out.drewN k) _ _)⟩
          go_wp2
          go_ret
          exact ⟨rfl, FIN.out.1, FIN.out.2⟩
        · have j1 : ((t : Int) + 1 == (N : Int)) = false := by simp; omega
          by_cases e2 : t + 1 = R
          · have j2 : ((t : Int) + 1 == (R : Int)) = true := by simp; omega
            clear hy e2 e1
            have FIN : Hid (Bok ((w.drewN k).setCell ⟨d, 1, .none⟩ (.int .i64 ((g : Int) + ((t + 1 : Nat) : Int)))) d X (.slice pD D cD) vL dn ln (g + nxG rs (N : Int)) ∧ Below X w ((w.drewN k).setCell ⟨d, 1, .none⟩ (.int .i64 ((g : Int) + ((t + 1 : Nat) : Int))))) := by
              have q := (HBK.out.drewN k).setG (g + (t + 1)) (by have := HDn.out; have := HDl.out; omega)
              rw [show ((g + (t + 1) : Nat) : Int) = (g : Int) + ((t + 1 : Nat) : Int) by omega] at q
              rw [HGv.out]
              exact ⟨q, (⟨rfl, rfl, rfl, Nat.le_refl _, fun _ _ => rfl⟩ : Below X w (w.drewN k)).trans (bel_set (HBK.out.drewN k) _ _)⟩
            go_wp2
            go_ret
            exact ⟨rfl, FIN.out.1, FIN.out.2⟩
          · have j2 : ((t : Int) + 1 == (R : Int)) = false := by simp; omega
            by_cases e3 : y = 10
            · subst e3
              clear hy e2 e1
              have FIN : Hid (Bok ((w.drewN k).setCell ⟨d, 1, .none⟩ (.int .i64 ((g : Int) + ((t + 1 : Nat) : Int)))) d X (.slice pD D cD) vL dn ln (g + nxG rs (N : Int)) ∧ Below X w ((w.drewN k).setCell ⟨d, 1, .none⟩ (.int .i64 ((g : Int) + ((t + 1 : Nat) : Int))))) := by
                have q := (HBK.out.drewN k).setG (g + (t + 1)) (by have := HDn.out; have := HDl.out; omega)
                rw [show ((g + (t + 1) : Nat) : Int) = (g : Int) + ((t + 1 : Nat) : Int) by omega] at q
                rw [HGv.out]
                exact ⟨q, (⟨rfl, rfl, rfl, Nat.le_refl _, fun _ _ => rfl⟩ : Below X w (w.drewN k)).trans (bel_set (HBK.out.drewN k) _ _)⟩
              go_wp2
              go_ret
              exact ⟨rfl, FIN.out.1, FIN.out.2⟩
            · have j3 : (y == 10) = false := by simpa using e3
              have hr4 : rs[t + 1]? = some 4 := by
                rcases HWH.out with h | h | h | h
                · omega
                · omega
                · rw [Nat.add_sub_cancel, hy] at h
                  exact absurd (Option.some.inj h.2) e3
                · exact h
              have l2 := CH.out gr (or_ + (t + 1)) _ hgr (HCR.out _ _ hr4)
              rw [show (g : Int) + ((t + 1 : Nat) : Int) = (g : Int) + ((t : Int) + 1) by omega] at l2
              have j4 : (t : Int) + 1 < R := by omega
              clear hy e2 e1 e3 hr4
              have FIN : Hid (Bok ((w.drewN k).setCell ⟨d, 1, .none⟩ (.int .i64 ((g : Int) + ((t + 1 : Nat) : Int)))) d X (.slice pD D cD) vL dn ln (g + nxG rs (N : Int)) ∧ Below X w ((w.drewN k).setCell ⟨d, 1, .none⟩ (.int .i64 ((g : Int) + ((t + 1 : Nat) : Int))))) := by
                have q := (HBK.out.drewN k).setG (g + (t + 1)) (by have := HDn.out; have := HDl.out; omega)
                rw [show ((g + (t + 1) : Nat) : Int) = (g : Int) + ((t + 1 : Nat) : Int) by omega] at q
                rw [HGv.out]
                exact ⟨q, (⟨rfl, rfl, rfl, Nat.le_refl _, fun _ _ => rfl⟩ : Below X w (w.drewN k)).trans (bel_set (HBK.out.drewN k) _ _)⟩
              go_wp2
              go_ret
              exact ⟨rfl, FIN.out.1, FIN.out.2⟩
end
end Go.Proofs.YtblpdnchphhcaaaDoor
