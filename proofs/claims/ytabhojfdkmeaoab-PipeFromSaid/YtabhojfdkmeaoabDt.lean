import Derived.Test.YtabhojfdkmeaoabDc
namespace Go.Proofs.Ytabhojfdkmeaoab
open Go.RowKit
set_option linter.unusedVariables false
set_option linter.unusedSimpArgs false
theorem byt_nil' (w : World) : Byt w none 0 0 [] := ⟨rfl, Nat.le_refl _, by decide, .inl rfl⟩
set_option maxHeartbeats 2000000 in
set_option maxRecDepth 100000 in
theorem rtake_any {w : World} {d X : Nat} {e : Value} {xs : List Int} {r : Int} {rd wt : Bool} (h : Dq w d e X xs r rd wt) (n : Int) :
    Calls Try.prog 27 #[.pointer (some ⟨d, 0, .none⟩), .int .i64 n] w fun en w' => ∃ p c e', en = .returned (.tuple #[.slice p (takeN xs n) c, .int .i64 (takeHow xs wt n)]) ∧ Byt w' p (takeN xs n) c (xs.take (takeN xs n)) ∧
      Dq w' d e' X (xs.drop (takeN xs n)) ((r + takeN xs n) % 4294967296) rd wt ∧ Sof w e e' ∧ Chg (· = d) w w' := by
  obtain ⟨ep, ec, rfl⟩ := one_slice h.row
  have HP : Hid (Dq w d (.slice ep xs.length ec) X xs r rd wt) := h
  have c0 := h.raw.c0
  have c1 := h.raw.c1
  have c4 := h.raw.c4
  have hl5 := h.l512
  have hbr := h.br
  have hec : xs.length ≤ ec ∧ ec ≤ 9223372036854775807 := by
    have := byt_own h.row
    exact ⟨this.2.1, this.2.2.1⟩
  have idn : Hid (∀ k : Nat, k = 0 → Dq w d (.slice ep xs.length ec) X (xs.drop k) ((r + (k : Int)) % 4294967296) rd wt) := fun k hk => by
    subst hk
    have e1 : (r + ((0 : Nat) : Int)) % 4294967296 = r := by omega
    rw [e1, List.drop_zero]
    exact h
  have idn2 : Hid (Dq w d (.slice ep xs.length ec) X xs (r % 4294967296) rd wt) := by
    have e1 : r % 4294967296 = r := by omega
    rw [e1]
    exact h
  clear h
  by_cases hn : n < 1
  · have e1 : takeN xs n = 0 := by unfold takeN; omega
    have e2 : takeHow xs wt n = 1 := by unfold takeHow; rw [if_neg (by omega)]
    rw [e1, e2]
    go_enter Try.func27, Try.ntmps27
    go_wp2
    go_ret2
    first | exact ⟨none, 0, _, rfl, byt_nil' w, idn.out 0 rfl, Sof.refl _ _, Chg.refl _ _⟩ | exact ⟨none, 0, rfl, byt_nil' w, _, idn.out 0 rfl, Sof.refl _ _, Chg.refl _ _⟩ | exact ⟨none, 0, rfl, byt_nil' w, _, idn2.out, Sof.refl _ _, Chg.refl _ _⟩
  · by_cases hx : xs.length = 0
    · have e1 : takeN xs n = 0 := by unfold takeN; omega
      rw [e1]
      have hxe : ((xs.length : Int) == 0) = true := by simp [hx]
      cases wt with
      | true =>
        have e2 : takeHow xs true n = 2 := by unfold takeHow; rw [if_pos ⟨by omega, hx, rfl⟩]
        rw [e2]
        clear hx
        go_enter Try.func27, Try.ntmps27
        go_wp2
        go_ret2
        first | exact ⟨none, 0, _, rfl, byt_nil' w, idn.out 0 rfl, Sof.refl _ _, Chg.refl _ _⟩ | exact ⟨none, 0, rfl, byt_nil' w, _, idn.out 0 rfl, Sof.refl _ _, Chg.refl _ _⟩ | exact ⟨none, 0, rfl, byt_nil' w, _, idn2.out, Sof.refl _ _, Chg.refl _ _⟩
      | false =>
        have e2 : takeHow xs false n = 1 := by unfold takeHow; rw [if_neg (by simp)]
        rw [e2]
        clear hx
        go_enter Try.func27, Try.ntmps27
        go_wp2
        go_ret2
        first | exact ⟨none, 0, _, rfl, byt_nil' w, idn.out 0 rfl, Sof.refl _ _, Chg.refl _ _⟩ | exact ⟨none, 0, rfl, byt_nil' w, _, idn.out 0 rfl, Sof.refl _ _, Chg.refl _ _⟩ | exact ⟨none, 0, rfl, byt_nil' w, _, idn2.out, Sof.refl _ _, Chg.refl _ _⟩
    · have e2 : takeHow xs wt n = 1 := by unfold takeHow; rw [if_neg (fun h => hx h.2.1)]
      rw [e2]
      clear idn idn2 e2
      obtain ⟨k, hk⟩ : ∃ k, k = takeN xs n := ⟨_, rfl⟩
      have HK : Hid (k = min n.toNat xs.length) := hk
      rw [← hk]
      clear hk
      have hkL : k ≤ xs.length := by have := HK.out; omega
      have hxi : ¬ (xs.length : Int) = 0 := by omega
      have ca := cutat ep xs.length ec
      have ct := cut_to ep xs.length ec k (by omega)
      have cf := cut_from ep xs.length ec k hkL
      have B0 : Hid (Byt w ep xs.length ec xs) := byt_own HP.out.row
      have ew : IntKind.u32.wrap (r + k) = (r + k) % 4294967296 := by simp [IntKind.wrap, IntKind.bits, IntKind.signed]
      have ew2 : IntKind.u32.wrap k = k := by simp only [IntKind.wrap, IntKind.bits, IntKind.signed]; simp; omega
      generalize hL : xs.length = L at *
      have HPr : Hid (Dr w d (.slice ep L ec) r ((r + L) % 4294967296) rd wt) := by
        have := HP.out.raw
        rw [hL] at this
        exact this
      by_cases hgt : (L : Int) < n
      · have hkk : (L : Int) = k := by have := HK.out; omega
        go_enter Try.func27, Try.ntmps27
        go_wp2_with fail
        have BA : Byt w (cutp ep ec 0) k ec (xs.take k) := byt_cut B0.out 0 k (by omega) hkL
        refine (copied_any BA (by omega)).mono ?_
        rintro en V1 ⟨p1, d1, rfl, hO1, hb1⟩
        have lt1 : (xs.take k).length = k := by rw [List.length_take]; omega
        rw [lt1] at hO1 ⊢
        have H1 : Hid (Dr V1 d (.slice ep L ec) r ((r + L) % 4294967296) rd wt ∧ V1.ownsRow w.heap.size 5 1 (.slice p1 k d1) k (by8 (xs.take k)) ∧ Below w.heap.size w V1 ∧ Byt V1 ep L ec xs) := ⟨HPr.out.keep (S := fun _ => False) (Chg.ofBelow hb1) (fun h => h), hO1, hb1, byt_below B0.out hb1⟩
        clear hO1 hb1 BA
        have z0 := H1.out.1.c0
        go_wp2_with fail
        have BB : Byt V1 (cutp ep ec k) (L - k) (ec - k) (xs.drop k) := by
          have := byt_cut H1.out.2.2.2 k L hkL (Nat.le_refl _)
          rw [List.take_of_length_le (by omega)] at this
          exact this
        refine (copied_any BB (by omega)).mono ?_
        rintro en V2 ⟨p2, d2, rfl, hO2, hb2⟩
        have lt2 : (xs.drop k).length = L - k := by rw [List.length_drop, hL]
        rw [lt2] at hO2 ⊢
        have hs1 := H1.out.2.2.1.size
        have H2 : Hid (Dr V2 d (.slice ep L ec) r ((r + L) % 4294967296) rd wt ∧ V2.ownsRow w.heap.size 5 1 (.slice p1 k d1) k (by8 (xs.take k)) ∧ V2.ownsRow V1.heap.size 5 1 (.slice p2 (L - k) d2) (L - k) (by8 (xs.drop k)) ∧ Below w.heap.size w V2) := ⟨H1.out.1.keep (S := fun _ => False) (Chg.ofBelow hb2) (fun h => h), (Chg.ofBelow (S := fun _ => False) hb2).own H1.out.2.1 (fun _ _ h => h), hO2, H1.out.2.2.1.trans (hb2.mono hs1)⟩
        clear hO2 hb2 BB z0
        have y0 := H2.out.1.c0
        have y1 := H2.out.1.c1
        have yf0 := H2.out.1.fz 0
        have yf1 := H2.out.1.fz 1
        have hdw : d < w.heap.size := by have := HP.out.dX; have := HP.out.wX; omega
        have y2 := cell_off (i := 1) y1 0 (.slice p2 (L - k) d2) (by decide)
        have yf2 := H2.out.1.froz 0 (.slice p2 (L - k) d2) 1
        go_wp2
        go_ret2
        have hX := HP.out.wX
        have hs2 := H2.out.2.2.2.size
        have hfin := (H2.out.1.set0 (.slice p2 (L - k) d2)).set1 ((r + k) % 4294967296)
        have es : ((r + (k : Int)) % 4294967296 + ((xs.drop k).length : Int)) % 4294967296 = (r + (L : Int)) % 4294967296 := by rw [lt2]; omega
        refine ⟨p1, d1, .slice p2 (L - k) d2, rfl, ?_, ⟨by rw [es]; exact hfin, ?_, HP.out.dX, by simp [World.setCell]; omega, by omega, by rw [lt2]; omega, fun g hg => by have := own_block H2.out.2.2.1 g hg; omega⟩, ?_, ?_⟩
        · exact byt_own (own_setd (own_setd H2.out.2.1 (fun g hg => by have := own_block H2.out.2.1 g hg; omega) _) (fun g hg => by have := own_block H2.out.2.1 g hg; omega) _)
        · rw [lt2]
          exact own_setd (own_setd (own_mono H2.out.2.2.1 (Nat.zero_le _)) (fun g hg => by have := own_block H2.out.2.2.1 g hg; omega) _) (fun g hg => by have := own_block H2.out.2.2.1 g hg; omega) _
        · intro g hg
          have := own_block H2.out.2.2.1 g hg
          exact .inr (by omega)
        · exact ((Chg.ofBelow H2.out.2.2.2).trans (chg_set d 0 _ _) (fun _ _ h => h)).trans (chg_set d 1 _ _) (fun _ _ h => h)
      · have hkk : n = k := by have := HK.out; omega
        go_enter Try.func27, Try.ntmps27
        go_wp2_with fail
        have BA : Byt w (cutp ep ec 0) k ec (xs.take k) := byt_cut B0.out 0 k (by omega) hkL
        refine (copied_any BA (by omega)).mono ?_
        rintro en V1 ⟨p1, d1, rfl, hO1, hb1⟩
        have lt1 : (xs.take k).length = k := by rw [List.length_take]; omega
        rw [lt1] at hO1 ⊢
        have H1 : Hid (Dr V1 d (.slice ep L ec) r ((r + L) % 4294967296) rd wt ∧ V1.ownsRow w.heap.size 5 1 (.slice p1 k d1) k (by8 (xs.take k)) ∧ Below w.heap.size w V1 ∧ Byt V1 ep L ec xs) := ⟨HPr.out.keep (S := fun _ => False) (Chg.ofBelow hb1) (fun h => h), hO1, hb1, byt_below B0.out hb1⟩
        clear hO1 hb1 BA
        have z0 := H1.out.1.c0
        go_wp2_with fail
        have BB : Byt V1 (cutp ep ec k) (L - k) (ec - k) (xs.drop k) := by
          have := byt_cut H1.out.2.2.2 k L hkL (Nat.le_refl _)
          rw [List.take_of_length_le (by omega)] at this
          exact this
        refine (copied_any BB (by omega)).mono ?_
        rintro en V2 ⟨p2, d2, rfl, hO2, hb2⟩
        have lt2 : (xs.drop k).length = L - k := by rw [List.length_drop, hL]
        rw [lt2] at hO2 ⊢
        have hs1 := H1.out.2.2.1.size
        have H2 : Hid (Dr V2 d (.slice ep L ec) r ((r + L) % 4294967296) rd wt ∧ V2.ownsRow w.heap.size 5 1 (.slice p1 k d1) k (by8 (xs.take k)) ∧ V2.ownsRow V1.heap.size 5 1 (.slice p2 (L - k) d2) (L - k) (by8 (xs.drop k)) ∧ Below w.heap.size w V2) := ⟨H1.out.1.keep (S := fun _ => False) (Chg.ofBelow hb2) (fun h => h), (Chg.ofBelow (S := fun _ => False) hb2).own H1.out.2.1 (fun _ _ h => h), hO2, H1.out.2.2.1.trans (hb2.mono hs1)⟩
        clear hO2 hb2 BB z0
        have y0 := H2.out.1.c0
        have y1 := H2.out.1.c1
        have yf0 := H2.out.1.fz 0
        have yf1 := H2.out.1.fz 1
        have hdw : d < w.heap.size := by have := HP.out.dX; have := HP.out.wX; omega
        have y2 := cell_off (i := 1) y1 0 (.slice p2 (L - k) d2) (by decide)
        have yf2 := H2.out.1.froz 0 (.slice p2 (L - k) d2) 1
        go_wp2
        go_ret2
        have hX := HP.out.wX
        have hs2 := H2.out.2.2.2.size
        have hfin := (H2.out.1.set0 (.slice p2 (L - k) d2)).set1 ((r + k) % 4294967296)
        have es : ((r + (k : Int)) % 4294967296 + ((xs.drop k).length : Int)) % 4294967296 = (r + (L : Int)) % 4294967296 := by rw [lt2]; omega
        refine ⟨p1, d1, .slice p2 (L - k) d2, rfl, ?_, ⟨by rw [es]; exact hfin, ?_, HP.out.dX, by simp [World.setCell]; omega, by omega, by rw [lt2]; omega, fun g hg => by have := own_block H2.out.2.2.1 g hg; omega⟩, ?_, ?_⟩
        · exact byt_own (own_setd (own_setd H2.out.2.1 (fun g hg => by have := own_block H2.out.2.1 g hg; omega) _) (fun g hg => by have := own_block H2.out.2.1 g hg; omega) _)
        · rw [lt2]
          exact own_setd (own_setd (own_mono H2.out.2.2.1 (Nat.zero_le _)) (fun g hg => by have := own_block H2.out.2.2.1 g hg; omega) _) (fun g hg => by have := own_block H2.out.2.2.1 g hg; omega) _
        · intro g hg
          have := own_block H2.out.2.2.1 g hg
          exact .inr (by omega)
        · exact ((Chg.ofBelow H2.out.2.2.2).trans (chg_set d 0 _ _) (fun _ _ h => h)).trans (chg_set d 1 _ _) (fun _ _ h => h)
end Go.Proofs.Ytabhojfdkmeaoab
