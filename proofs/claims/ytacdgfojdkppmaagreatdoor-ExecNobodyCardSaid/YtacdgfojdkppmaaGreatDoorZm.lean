import Derived.Test.YtacdgfojdkppmaaGreatDoorZl
namespace Go.Proofs.YtacdgfojdkppmaaGreatDoor
open Go.RowKit Go.Shelf
set_option linter.unusedVariables false
set_option linter.unusedSimpArgs false
set_option maxRecDepth 10000 in
set_option maxHeartbeats 4000000 in
theorem law_any {W : World} {fp : Option Addr} {fn fc : Nat} {ys : List Int} (hF : Byt W fp fn fc ys) (hyb : ∀ i, 0 ≤ ys.getD i 0 ∧ ys.getD i 0 < 256) {p : Option Addr} {n c : Nat} {xs : List Bs} (hT : Tex W p n c xs)
    (hf : fn ≤ 140737488351232) (hn : n ≤ 140737488351232) (hx : ∀ x ∈ xs, x.length ≤ 140737488351232) (hL : Laid W) (hL3 : Laid3 W) (tr : Int) (ht : 0 ≤ tr ∧ tr < 18446744073709551616) :
    Calls Tryz.prog 3 #[.slice fp fn fc, .slice p n c, .int .u64 tr] W fun e w' => e = .returned (.bool true) ∧ Below W.heap.size W w' := by
  have c6 := few_any fp p fn fc n c xs W hT hf hn hx
  have HF : Hid (Byt W fp fn fc ys ∧ Tex W p n c xs ∧ Laid W ∧ Laid3 W) := ⟨hF, hT, hL, hL3⟩
  have HY : Hid (∀ i, 0 ≤ ys.getD i 0 ∧ ys.getD i 0 < 256) := hyb
  have hfc : fn ≤ fc ∧ fc ≤ 9223372036854775807 := ⟨hF.2.1, hF.2.2.1⟩
  have hcc : n ≤ c ∧ c ≤ 9223372036854775807 := ⟨hT.2.1, hT.2.2.1⟩
  clear hF hyb hT hx hL hL3
  go_enter Tryz.func3, Tryz.ntmps3
  go_upto_region 3 with (go_at_call 6; refine c6.mono ?_; rintro _ w0 ⟨⟨r, rfl, hr⟩, e0⟩; obtain rfl : W = w0 := e0.symm; have HR : Hid (r = true → fn ≤ 400000 ∧ n < 100 ∧ ∀ x ∈ xs, x.length ≤ 400000) := hr; clear hr c6; cases r)
  · go_ret
    exact ⟨rfl, Below.refl _ _⟩
  obtain ⟨hf4, hn1, hx4⟩ := HR.out trivial
  have HX4 : Hid (∀ x ∈ xs, x.length ≤ 400000) := hx4
  clear HR hx4
  obtain ⟨B, hB⟩ : ∃ B : Nat → Int, B = fun i => ys.getD i 0 := ⟨_, rfl⟩
  have HBy : Hid (∀ i, 0 ≤ B i ∧ B i < 256) := by rw [hB]; exact HY.out
  have HB : Hid (B = fun i => ys.getD i 0) := hB
  clear hB
  obtain ⟨ha, hr, hH⟩ := hd_ex B
  have HH : Hid (Hd B ha hr) := hH
  clear hH
  obtain ⟨rb, ro, hrow, hrp⟩ := byt_row HF.out.1
  rw [← HB.out] at hrow
  have c7 := demandQ_any (fun h => hrp (by omega)) hrow HBy.out hfc (by omega) ha hr HH.out (⟨HF.out.2.1, hn1, HX4.out⟩ : Arg W p n c xs)
  clear hrow hrp
  obtain ⟨de, hde⟩ : ∃ de, de = dmE (rdF fn B ha hr).1.2 xs := ⟨_, rfl⟩
  obtain ⟨ue, hue⟩ : ∃ ue, ue = unE (rdF fn B ha hr).1.2 xs := ⟨_, rfl⟩
  rw [← hde] at c7
  have hun : ue = if de = 0 then 3 else de := by rw [hue, hde]; rfl
  have HE : Hid (ue = unE (rdF fn B ha hr).1.2 xs) := hue
  generalize dmN (rdF fn B ha hr).1.2 (ePg (sgO fn B ha hr)) xs = dn at c7
  clear hde hue
  have HC : Hid (∀ (V : World) (v : Value), Below W.heap.size W V → Rm.Unm V v → Calls Tryz.prog 8 #[v, .slice fp fn fc, .slice p n c, .int .u64 tr, .int .u64 2147483648] V fun e w' => e = .returned (.tuple #[.pointer .none, .agg #[.int .u64 0, .int .u64 0, .int .u64 0], .int .i64 ue]) ∧ Below V.heap.size V w') := fun V v hV hU => by
    have hF9 := byt_fp (bytU HF.out.1 hV)
    rw [← HB.out] at hF9
    have := load_un hU (HF.out.2.2.1.below hV) hF9 HBy.out hfc ha hr HH.out (⟨HF.out.2.1.below hV, hn1, HX4.out⟩ : Arg V p n c xs) tr
    rw [← HE.out] at this
    exact this
  have HL : Hid (Laid W ∧ Laid3 W) := HF.out.2.2
  clear HE HF HY HBy HB HH HX4
  go_upto_region 4 with (go_at_call 7; refine c7.mono ?_; rintro _ w1 ⟨rfl, b1⟩; have H1 : Hid (Below W.heap.size W w1) := b1; clear b1 c7)
  by_cases hd0 : de = 0
  · obtain rfl : ue = 3 := by rw [hun, if_pos hd0]
    clear hun
    subst hd0
    go_wp2_with fail
    go_loopw [9] (fun k wr => Hid (Below W.heap.size W wr) ∧ (k = .int .i64 0 ∨ k = .int .i64 1 ∨ k = .int .i64 2)) (fun k _ => (2 - intOf k).toNat)
    case atStart => exact ⟨H1, .inl rfl⟩
    case round =>
      obtain ⟨HB, hk⟩ := hrel
      rcases hk with rfl | rfl | rfl
      · have c8 := HC.out wr (.pointer .none) HB.out (.inl rfl)
        go_wp2_with (go_at_call 8; refine c8.mono ?_; rintro _ w2 ⟨rfl, b2⟩; have H2 : Hid (Below W.heap.size W w2) := HB.out.trans (b2.mono HB.out.size); clear b2 c8)
        exact ⟨⟨H2.out.alloc H2.out.size _, .inr (.inl rfl)⟩, by decide⟩
      · have b1 : Below W.heap.size W (wr.alloc (.cells #[.slice .none 0 0, .int .u64 0, .map .none] 31)) := HB.out.alloc HB.out.size _
        have c8 := HC.out (wr.alloc (.cells #[.slice .none 0 0, .int .u64 0, .map .none] 31)) (.pointer (some ⟨wr.heap.size, 0, .none⟩)) b1 (.inr ⟨_, rfl, by simp, by simp⟩)
        have HB1 : Hid (Below W.heap.size W (wr.alloc (.cells #[.slice .none 0 0, .int .u64 0, .map .none] 31))) := b1
        clear b1
        go_wp2_with (go_at_call 8; refine c8.mono ?_; rintro _ w2 ⟨rfl, b2⟩; have H2 : Hid (Below W.heap.size W w2) := HB1.out.trans (b2.mono HB1.out.size); clear b2 c8)
        exact ⟨⟨H2.out.alloc H2.out.size _, .inr (.inr rfl)⟩, by decide⟩
      · clear HC
        have c9 := memory_any 40 (by omega) (by omega) wr
        go_upto_region 18 with (go_at_call 9; refine c9.mono ?_; rintro _ w2 ⟨pm, bm, mm, Bm, hp2, hb2, hm2, rfl, hR2, b2⟩; clear c9)
        have hR : Rm.Ram w2 pm bm mm 40 Bm (38 :: Rm.down 37) := hR2
        have h3W : 3 < W.heap.size := lt_of_cell (x := ⟨3, 0, .none⟩) HL.out.2.c0
        have hWr := HB.out.size
        have HM : Hid (Rm.Ram w2 pm bm mm 40 Bm (38 :: Rm.down 37) ∧ (W.heap.size ≤ pm ∧ W.heap.size ≤ bm ∧ W.heap.size ≤ mm) ∧ Below W.heap.size W w2) := ⟨hR, by omega, HB.out.trans (b2.mono HB.out.size)⟩
        have c10 := Rm.count_ram hR
        rw [show (((38 :: Rm.down 37).length : Nat) : Int) = 38 by simp [Rm.down_len]] at c10
        clear hR hR2 b2 hp2 hb2 hm2 HB H1
        generalize ht9 : Rm.ad 39 = t9
        have HT : Hid (Rm.ad 39 = t9) := ht9
        clear ht9
        go_upto_region 19 with (go_at_call 10; refine c10.mono ?_; rintro _ w3 ⟨rfl, k3, e3⟩; have B3 : Hid (Below w2.heap.size w2 w3) := (by rw [e3]; exact ⟨rfl, rfl, rfl, Nat.le_refl _, fun _ _ => rfl⟩); clear e3 c10)
        have c11 := small_any w3
        go_upto_region 20 with (go_at_call 11; refine c11.mono ?_; rintro _ w4 ⟨q, cq, rfl, hq, b4⟩; have H4 : Hid (Below w2.heap.size w2 w4 ∧ Byt w4 q 124 cq smF) := ⟨B3.out.trans (b4.mono B3.out.size), hq⟩; clear hq b4 c11)
        obtain ⟨fb, fo, rfl, hrow, hfb⟩ : ∃ b o, q = some ⟨b, o, .none⟩ ∧ Row w4 b o 124 smB ∧ b < w4.heap.size := by
          rcases byt_fp H4.out.2 with h | h
          · exact h
          · omega
        have hcq : 124 ≤ cq ∧ cq ≤ 9223372036854775807 := ⟨H4.out.2.2.1, H4.out.2.2.2.1⟩
        have hW4 : Below W.heap.size W w4 := HM.out.2.2.trans (H4.out.1.mono HM.out.2.2.size)
        have hR4 := HM.out.1.below H4.out.1
        have H5 : Hid (Below W.heap.size W w4 ∧ Rm.Ram w4 pm bm mm 40 Bm (38 :: Rm.down 37) ∧ (W.heap.size ≤ pm ∧ W.heap.size ≤ bm ∧ W.heap.size ≤ mm)) := ⟨hW4, hR4, HM.out.2.1⟩
        have hpp := HM.out.2.1
        by_cases htr : tr = t9
        · subst htr
          have c8 := load_small hR4 (by rw [Rm.down_len]; omega) (ft := 39) ⟨by omega, by omega, fun h => by have h' : 39 ∈ Rm.down 38 := h; rw [Rm.down_mem] at h'; omega⟩ (HL.out.1.below hW4) (HL.out.2.below hW4) (by omega) hrow hfb hcq
          rw [HT.out, Rm.down_len] at c8
          clear hrow hfb hW4 hR4 HM H4 B3 HT
          go_upto_region 22 with (go_at_call 8; refine c8.mono ?_; rintro _ w5 ⟨s, en, sp, rfl, hf5, B5, L5, hR5, hl5⟩; have H6 : Hid (Below W.heap.size W w5 ∧ Rm.Ram w5 pm bm mm 40 B5 L5) := ⟨H5.out.1.trans (hf5.toBelow H5.out.1.size H5.out.2.2.1 H5.out.2.2.2.1 H5.out.2.2.2.2), hR5⟩; clear hf5 hR5 c8)
          have hb6 : Below w5.heap.size w5 (w5.alloc (.cells #[.int .u64 en, .int .u64 sp, .int .u64 sp] 34)) := (Below.refl _ _).alloc (Nat.le_refl _) _
          have c10 := Rm.count_ram (H6.out.2.below hb6)
          rw [show ((L5.length : Nat) : Int) = 30 by omega] at c10
          have H7 : Hid (Below W.heap.size W (w5.alloc (.cells #[.int .u64 en, .int .u64 sp, .int .u64 sp] 34))) := H6.out.1.trans (hb6.mono H6.out.1.size)
          clear hb6 hl5
          go_wp2_with (go_at_call 10; refine c10.mono ?_; rintro _ w7 ⟨rfl, k7, rfl⟩)
          go_ret
          exact ⟨rfl, H7.out.trans ((Rm.below_dr _ _).mono H7.out.size)⟩
        · have c8 := load_smallNo hR4 (by rw [Rm.down_len]; omega) tr ht (isHd_law tr (by rw [HT.out]; exact htr)) (HL.out.1.below hW4) (HL.out.2.below hW4) (by omega) hrow hfb hcq
          have hne : (tr == t9) = false := by simpa using htr
          clear hrow hfb hW4 hR4 HM H4 B3 HT htr
          go_upto_region 23 with (go_at_call 8; refine c8.mono ?_; rintro _ w5 ⟨rfl, b5⟩; have H6 : Hid (Below W.heap.size W w5 ∧ Rm.Ram w5 pm bm mm 40 Bm (38 :: Rm.down 37)) := ⟨H5.out.1.trans (b5.mono H5.out.1.size), H5.out.2.1.below b5⟩; clear b5 c8)
          have hb6 : Below w5.heap.size w5 (w5.alloc (.cells #[.int .u64 0, .int .u64 0, .int .u64 0] 34)) := (Below.refl _ _).alloc (Nat.le_refl _) _
          have c10 := Rm.count_ram (H6.out.2.below hb6)
          rw [show (((38 :: Rm.down 37).length : Nat) : Int) = 38 by simp [Rm.down_len]] at c10
          have H7 : Hid (Below W.heap.size W (w5.alloc (.cells #[.int .u64 0, .int .u64 0, .int .u64 0] 34))) := H6.out.1.trans (hb6.mono H6.out.1.size)
          clear hb6
          go_wp2_with (go_at_call 10; refine c10.mono ?_; rintro _ w7 ⟨rfl, k7, rfl⟩)
          go_ret
          exact ⟨rfl, H7.out.trans ((Rm.below_dr _ _).mono H7.out.size)⟩
  · obtain rfl : ue = de := by rw [hun, if_neg hd0]
    clear hun
    have hd1 : (ue == 0) = false := by simpa using hd0
    clear hd0
    go_wp2_with fail
    go_loopw [9] (fun k wr => Hid (Below W.heap.size W wr) ∧ (k = .int .i64 0 ∨ k = .int .i64 1 ∨ k = .int .i64 2)) (fun k _ => (2 - intOf k).toNat)
    case atStart => exact ⟨H1, .inl rfl⟩
    case round =>
      obtain ⟨HB, hk⟩ := hrel
      rcases hk with rfl | rfl | rfl
      · have c8 := HC.out wr (.pointer .none) HB.out (.inl rfl)
        go_wp2_with (go_at_call 8; refine c8.mono ?_; rintro _ w2 ⟨rfl, b2⟩; have H2 : Hid (Below W.heap.size W w2) := HB.out.trans (b2.mono HB.out.size); clear b2 c8)
        exact ⟨⟨H2.out.alloc H2.out.size _, .inr (.inl rfl)⟩, by decide⟩
      · have b1 : Below W.heap.size W (wr.alloc (.cells #[.slice .none 0 0, .int .u64 0, .map .none] 31)) := HB.out.alloc HB.out.size _
        have c8 := HC.out (wr.alloc (.cells #[.slice .none 0 0, .int .u64 0, .map .none] 31)) (.pointer (some ⟨wr.heap.size, 0, .none⟩)) b1 (.inr ⟨_, rfl, by simp, by simp⟩)
        have HB1 : Hid (Below W.heap.size W (wr.alloc (.cells #[.slice .none 0 0, .int .u64 0, .map .none] 31))) := b1
        clear b1
        go_wp2_with (go_at_call 8; refine c8.mono ?_; rintro _ w2 ⟨rfl, b2⟩; have H2 : Hid (Below W.heap.size W w2) := HB1.out.trans (b2.mono HB1.out.size); clear b2 c8)
        exact ⟨⟨H2.out.alloc H2.out.size _, .inr (.inr rfl)⟩, by decide⟩
      · clear HC
        have c9 := memory_any 40 (by omega) (by omega) wr
        go_upto_region 18 with (go_at_call 9; refine c9.mono ?_; rintro _ w2 ⟨pm, bm, mm, Bm, hp2, hb2, hm2, rfl, hR2, b2⟩; clear c9)
        have hR : Rm.Ram w2 pm bm mm 40 Bm (38 :: Rm.down 37) := hR2
        have h3W : 3 < W.heap.size := lt_of_cell (x := ⟨3, 0, .none⟩) HL.out.2.c0
        have hWr := HB.out.size
        have HM : Hid (Rm.Ram w2 pm bm mm 40 Bm (38 :: Rm.down 37) ∧ (W.heap.size ≤ pm ∧ W.heap.size ≤ bm ∧ W.heap.size ≤ mm) ∧ Below W.heap.size W w2) := ⟨hR, by omega, HB.out.trans (b2.mono HB.out.size)⟩
        have c10 := Rm.count_ram hR
        rw [show (((38 :: Rm.down 37).length : Nat) : Int) = 38 by simp [Rm.down_len]] at c10
        clear hR hR2 b2 hp2 hb2 hm2 HB H1
        generalize ht9 : Rm.ad 39 = t9
        have HT : Hid (Rm.ad 39 = t9) := ht9
        clear ht9
        go_upto_region 19 with (go_at_call 10; refine c10.mono ?_; rintro _ w3 ⟨rfl, k3, e3⟩; have B3 : Hid (Below w2.heap.size w2 w3) := (by rw [e3]; exact ⟨rfl, rfl, rfl, Nat.le_refl _, fun _ _ => rfl⟩); clear e3 c10)
        have c11 := small_any w3
        go_upto_region 20 with (go_at_call 11; refine c11.mono ?_; rintro _ w4 ⟨q, cq, rfl, hq, b4⟩; have H4 : Hid (Below w2.heap.size w2 w4 ∧ Byt w4 q 124 cq smF) := ⟨B3.out.trans (b4.mono B3.out.size), hq⟩; clear hq b4 c11)
        obtain ⟨fb, fo, rfl, hrow, hfb⟩ : ∃ b o, q = some ⟨b, o, .none⟩ ∧ Row w4 b o 124 smB ∧ b < w4.heap.size := by
          rcases byt_fp H4.out.2 with h | h
          · exact h
          · omega
        have hcq : 124 ≤ cq ∧ cq ≤ 9223372036854775807 := ⟨H4.out.2.2.1, H4.out.2.2.2.1⟩
        have hW4 : Below W.heap.size W w4 := HM.out.2.2.trans (H4.out.1.mono HM.out.2.2.size)
        have hR4 := HM.out.1.below H4.out.1
        have H5 : Hid (Below W.heap.size W w4 ∧ Rm.Ram w4 pm bm mm 40 Bm (38 :: Rm.down 37) ∧ (W.heap.size ≤ pm ∧ W.heap.size ≤ bm ∧ W.heap.size ≤ mm)) := ⟨hW4, hR4, HM.out.2.1⟩
        have hpp := HM.out.2.1
        by_cases htr : tr = t9
        · subst htr
          have c8 := load_small hR4 (by rw [Rm.down_len]; omega) (ft := 39) ⟨by omega, by omega, fun h => by have h' : 39 ∈ Rm.down 38 := h; rw [Rm.down_mem] at h'; omega⟩ (HL.out.1.below hW4) (HL.out.2.below hW4) (by omega) hrow hfb hcq
          rw [HT.out, Rm.down_len] at c8
          clear hrow hfb hW4 hR4 HM H4 B3 HT
          go_upto_region 22 with (go_at_call 8; refine c8.mono ?_; rintro _ w5 ⟨s, en, sp, rfl, hf5, B5, L5, hR5, hl5⟩; have H6 : Hid (Below W.heap.size W w5 ∧ Rm.Ram w5 pm bm mm 40 B5 L5) := ⟨H5.out.1.trans (hf5.toBelow H5.out.1.size H5.out.2.2.1 H5.out.2.2.2.1 H5.out.2.2.2.2), hR5⟩; clear hf5 hR5 c8)
          have hb6 : Below w5.heap.size w5 (w5.alloc (.cells #[.int .u64 en, .int .u64 sp, .int .u64 sp] 34)) := (Below.refl _ _).alloc (Nat.le_refl _) _
          have c10 := Rm.count_ram (H6.out.2.below hb6)
          rw [show ((L5.length : Nat) : Int) = 30 by omega] at c10
          have H7 : Hid (Below W.heap.size W (w5.alloc (.cells #[.int .u64 en, .int .u64 sp, .int .u64 sp] 34))) := H6.out.1.trans (hb6.mono H6.out.1.size)
          clear hb6 hl5
          go_wp2_with (go_at_call 10; refine c10.mono ?_; rintro _ w7 ⟨rfl, k7, rfl⟩)
          go_ret
          exact ⟨rfl, H7.out.trans ((Rm.below_dr _ _).mono H7.out.size)⟩
        · have c8 := load_smallNo hR4 (by rw [Rm.down_len]; omega) tr ht (isHd_law tr (by rw [HT.out]; exact htr)) (HL.out.1.below hW4) (HL.out.2.below hW4) (by omega) hrow hfb hcq
          have hne : (tr == t9) = false := by simpa using htr
          clear hrow hfb hW4 hR4 HM H4 B3 HT htr
          go_upto_region 23 with (go_at_call 8; refine c8.mono ?_; rintro _ w5 ⟨rfl, b5⟩; have H6 : Hid (Below W.heap.size W w5 ∧ Rm.Ram w5 pm bm mm 40 Bm (38 :: Rm.down 37)) := ⟨H5.out.1.trans (b5.mono H5.out.1.size), H5.out.2.1.below b5⟩; clear b5 c8)
          have hb6 : Below w5.heap.size w5 (w5.alloc (.cells #[.int .u64 0, .int .u64 0, .int .u64 0] 34)) := (Below.refl _ _).alloc (Nat.le_refl _) _
          have c10 := Rm.count_ram (H6.out.2.below hb6)
          rw [show (((38 :: Rm.down 37).length : Nat) : Int) = 38 by simp [Rm.down_len]] at c10
          have H7 : Hid (Below W.heap.size W (w5.alloc (.cells #[.int .u64 0, .int .u64 0, .int .u64 0] 34))) := H6.out.1.trans (hb6.mono H6.out.1.size)
          clear hb6
          go_wp2_with (go_at_call 10; refine c10.mono ?_; rintro _ w7 ⟨rfl, k7, rfl⟩)
          go_ret
          exact ⟨rfl, H7.out.trans ((Rm.below_dr _ _).mono H7.out.size)⟩
end Go.Proofs.YtacdgfojdkppmaaGreatDoor
