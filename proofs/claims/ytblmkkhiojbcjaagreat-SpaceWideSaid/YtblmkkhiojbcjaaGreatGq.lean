import Derived.Test.YtblmkkhiojbcjaaGreatGp
namespace Go.Proofs.YtblmkkhiojbcjaaGreat
open Go Go.RowKit Fz
set_option linter.unusedVariables false
set_option linter.unusedSimpArgs false
/-- A space in a law: it holds all that is not free, and its pages may be read and written. -/
def HoS (w : World) (s p b m N r ft : Nat) (size : Int) (W : World) : Prop := Below w.heap.size w W ∧ ∃ P B L F lf fr c, SpT W s p b m N r P ft size B L F lf fr c ∧ L.length + nodesF F + P + 3 = N ∧ ∀ i, i < P → c i = 214
/-- Bytes that were read. -/
def InZ (w : World) (n : Nat) (R : Nat → Int) (e : Ending) (w' : World) : Prop := ∃ q cq, e = .returned (.tuple #[.slice q n cq, .bool true]) ∧ See w' .u8 q n R ∧ Below w.heap.size w w'
/-- What Grow or Shrink comes to. -/
def GoP (w : World) (s p b m N r P ft Q : Nat) (tz : Int) (L : List Nat) (F : Nat → Option Nat) (v : Value) (w' : World) : Prop :=
  (v = .int .i64 0 ∧ Tch p b m s w w' ∧ ∃ B' L' F' lf' fr' c', SpT w' s p b m N r Q ft tz B' L' F' lf' fr' c' ∧ L'.length + nodesF F' + Q = L.length + nodesF F + P ∧ ∀ i, i < Q → c' i = 214) ∨
  (v = .int .i64 164 ∧ ¬ (Q : Int) - P + ndP Q - ndP P ≤ L.length ∧ Below w.heap.size w w')
def GoE (w : World) (s p b m N r P ft Q : Nat) (tz : Int) (L : List Nat) (F : Nat → Option Nat) (e : Ending) (w' : World) : Prop := ∃ v, e = .returned (.int .i64 v) ∧ GoP w s p b m N r P ft Q tz L F (.int .i64 v) w'
section
variable {w : World} {s p b m N r P ft : Nat} {size : Int} {B : Nat → Int} {L : List Nat} {F : Nat → Option Nat} {lf : Nat → Nat → Int} {fr : Nat → Nat} {c : Nat → Int}
theorem in_first (h : SpT w s p b m N r P ft size B L F lf fr c) (hc : ∀ i, i < P → c i = 214) (n : Nat) (hn : (n : Int) ≤ size) : Calls Tryz.prog 13 #[.pointer (some ⟨s, 0, .none⟩), .int .u64 0, .int .i64 n] w (InZ w n (btU B fr)) := by
  have hsz := h.sz
  by_cases h0 : n = 0
  · subst h0
    exact (in_zero h.su 0).mono fun e w' hh => ⟨none, 0, hh.1, .inl rfl, hh.2⟩
  · refine (in_any h.su 0 n (by omega) (by omega)).mono fun e w' hh => ?_
    obtain ⟨hb, ⟨_, g, h1, h2, h3, h4⟩ | ⟨⟨j, hj, h1⟩, _⟩⟩ := hh
    · refine ⟨some ⟨g, 0, .none⟩, n, h3, .inr ⟨g, 0, rfl, h2, fun i hi => ?_⟩, hb⟩
      rw [Nat.zero_add, h4 i hi, Nat.zero_add]
    · unfold accU at h1
      rw [hc _ (by omega)] at h1
      exact absurd h1 (by decide)
theorem go_grow (h : SpT w s p b m N r P ft size B L F lf fr c) (hc : ∀ i, i < P → c i = 214) (tz : Int) (htz : size ≤ tz ∧ tz ≤ 16777216) (Q : Nat) (hQ : (tz + 4095) / 4096 = Q) : Calls Tryz.prog 9 #[.pointer (some ⟨s, 0, .none⟩), .int .u64 tz, .int .u64 6] w (GoE w s p b m N r P ft Q tz L F) := by
  refine (grow_any h tz 6 (.inr (.inr (.inr (.inl rfl)))) htz Q hQ).mono fun e w' hh => ?_
  rcases hh with ⟨h1, h2, h3, B', L', F', lf', fr', c', h4, h5, h6, h7, h8⟩ | ⟨h1, h2, h3⟩
  · refine ⟨0, h2, .inl ⟨rfl, h3, B', L', F', lf', fr', c', h4, h5, fun i hi => ?_⟩⟩
    by_cases hp : i < P
    · rw [(h7 i hp).2]; exact hc i hp
    · exact h8 i (by omega) hi
  · exact ⟨164, h2, .inr ⟨rfl, h1, h3⟩⟩
theorem go_shrink (h : SpT w s p b m N r P ft size B L F lf fr c) (hc : ∀ i, i < P → c i = 214) (tz : Int) (htz : 0 ≤ tz ∧ tz ≤ size) (Q : Nat) (hQ : (tz + 4095) / 4096 = Q) : Calls Tryz.prog 31 #[.pointer (some ⟨s, 0, .none⟩), .int .u64 tz] w (GoE w s p b m N r P ft Q tz L F) := by
  have hsz := h.sz
  refine (shrink_any h tz htz Q hQ).mono fun e w' hh => ?_
  obtain ⟨h1, h2, B', L', F', lf', h3, h4, h5⟩ := hh
  exact ⟨0, h1, .inl ⟨rfl, h2, B', L', F', lf', fr, c, h3, h4, fun i hi => hc i (by omega)⟩⟩
end
theorem Tch.low {p b m x B : Nat} {w w' : World} (h : Tch p b m x w w') (hB : B ≤ w.heap.size) (h1 : B ≤ x ∧ B ≤ p ∧ B ≤ b ∧ B ≤ m) : Below B w w' :=
  ⟨h.os, h.tape, h.output, h.size, fun k hk => h.block k (by omega) (by omega) (by omega) (by omega) (by omega)⟩
def LwH (w : World) (e : Ending) (w' : World) : Prop := e = .returned (.bool true) ∧ Below w.heap.size w w'
section
variable {w : World} {s p b m N r P ft : Nat} {size : Int} {B : Nat → Int} {L : List Nat} {F : Nat → Option Nat} {lf : Nat → Nat → Int} {fr : Nat → Nat} {c : Nat → Int}
theorem SpL.apt1 (h : SpL N r ft B L F lf fr c (List.range P)) {Z : List Int} (hz : FrZ N L F fr P Z) : Apt N L Z.length 1 (lz Z) (lz [2147483648]) := by
  have k := h.apt hz
  refine ⟨k.held, k.unl, fun i j hi hj => ?_⟩
  obtain rfl : j = 0 := by omega
  exact k.bar i 1 hi (by omega)
theorem one_row (W : World) (a : Int) : See (W.alloc (.cells #[.int .u64 a] 23)) .u64 (some ⟨W.heap.size, 0, .none⟩) 1 (lz [a]) := by
  refine .inr ⟨W.heap.size, 0, rfl, by simp, fun i hi => ?_⟩
  obtain rfl : i = 0 := by omega
  simp [lz]
/-- There is always room. -/
theorem wide_room {Q : Nat} (h : SpL N r ft B L F lf fr c (List.range P)) (hP : P ≤ 1100) (hQ : Q ≤ 1100) (hK : L.length + nodesF F + P + 3 = 1200) : (Q : Int) - P + ndP Q - ndP P ≤ L.length := by
  have e := h.nodes (by omega)
  have : ndP Q ≤ 7 := by unfold ndP; split <;> omega
  omega
end
set_option maxRecDepth 100000 in
set_option maxHeartbeats 2000000 in
theorem wide_law {w : World} (q : Option Addr) (nS cS : Nat) (R : Nat → Int) (hR : ∀ i, 0 ≤ R i ∧ R i < 18446744073709551616) (hS : See w .u64 q nS R) (hnS : nS ≤ 9223372036854775807) : Calls Tryz.prog 6 #[.slice q nS cS] w (LwH w) := by
  have c8 := made_any w 1200 (by omega)
  unfold MdT at c8
  have HR : Hid ((∀ i, 0 ≤ R i ∧ R i < 18446744073709551616) ∧ See w .u64 q nS R) := ⟨hR, hS⟩
  clear hR hS
  go_enter Tryz.func6, Tryz.ntmps6
  go_upto_region 2 with (go_at_call 8; refine c8.mono ?_; rintro _ w1 ⟨s, p, b, m, B0, L0, F0, lf0, rfl, h1, h2, h3, h4⟩; have H1 : Hid (HoS w s p b m 1200 1198 1199 0 w1) := ⟨h4, 0, B0, L0, F0, lf0, _, _, h2, by omega, fun i hi => by omega⟩; have c30 := count_ram h2.ram; rw [show L0.length = 1195 by have h9 := h2.tab.nodes (by omega); have e9 : ndP ((0 : Nat) : Int) = 3 := rfl; rw [e9] at h9; omega] at c30; have HL : Hid (w.heap.size ≤ s ∧ w.heap.size ≤ p ∧ w.heap.size ≤ b ∧ w.heap.size ≤ m) := h1; clear h1 h2 h3 h4 c8)
  go_upto_region 4 with (go_at_call 30; refine c30.mono ?_; rintro _ w2 ⟨rfl, k2, e2⟩; have H2 : Hid (HoS w s p b m 1200 1198 1199 0 w2) := (by have b2 : Below w1.heap.size w1 w2 := (by rw [e2]; exact blw_drewN _ _ k2); obtain ⟨z1, P, B, L, F, lf, fr, c, z2, z3⟩ := H1.out; exact ⟨z1.trans (b2.mono z1.size), P, B, L, F, lf, fr, c, z2.below b2, z3⟩); clear e2 c30 H1)
  obtain ⟨r, hr⟩ : ∃ r, r = 1198 := ⟨_, rfl⟩
  obtain ⟨ft, hft⟩ : ∃ ft, ft = 1199 := ⟨_, rfl⟩
  obtain ⟨N, hN⟩ : ∃ N, N = 1200 := ⟨_, rfl⟩
  rw [← hr, ← hft, ← hN] at H2
  have HN : Hid (N = 1200 ∧ r = 1198 ∧ ft = 1199) := ⟨hN, hr, hft⟩
  clear hr hft hN
  go_wp2_with fail
  go_loopw [6] (fun k wr => ∃ (i : Nat) (size : Int), i ≤ 6 ∧ k = .int .i64 i ∧ (0 ≤ size ∧ size ≤ 4505600) ∧ Hid (HoS w s p b m N r ft size wr)) (fun k _ => (6 - intOf k).toNat)
  case atStart => exact ⟨0, 0, by omega, rfl, by omega, H2⟩
  case round =>
    clear H2
    obtain ⟨i, size, hi, rfl, hsz, HO⟩ := hrel
    go_upto_region 5 with fail
    go_cut [31] (fun s wc => s = .bool (decide (i < nS ∧ i < 6)) ∧ wc = wr)
    case first =>
      by_cases h1 : i < nS
      · have g1 : (i : Int) < nS := by omega
        by_cases h2 : i < 6
        · have g2 : (i : Int) < 6 := by omega
          have HE : Hid (decide (i < nS ∧ i < 6) = true) := decide_eq_true ⟨h1, h2⟩
          go_wp2
          go_meet
          case rel => exact ⟨by rw [HE.out], rfl⟩
        · have g2 : ¬ (i : Int) < 6 := by omega
          have HE : Hid (decide (i < nS ∧ i < 6) = false) := decide_eq_false (fun h => h2 h.2)
          go_wp2
          go_meet
          case rel => exact ⟨by rw [HE.out], rfl⟩
      · have g1 : ¬ (i : Int) < nS := by omega
        have HE : Hid (decide (i < nS ∧ i < 6) = false) := decide_eq_false (fun h => h1 h.1)
        go_wp2
        go_meet
        case rel => exact ⟨by rw [HE.out], rfl⟩
    case rest =>
      obtain ⟨rfl, hwc⟩ := hcut
      obtain rfl : wr = wc := hwc.symm
      obtain ⟨hbel, P, B, L, F, lf, fr, c, hT, hK, hc⟩ := HO.out
      have HT : Hid (Below w.heap.size w wr ∧ SpT wr s p b m N r P ft size B L F lf fr c ∧ L.length + nodesF F + P + 3 = N ∧ ∀ i, i < P → c i = 214) := ⟨hbel, hT, hK, hc⟩
      clear hbel hT hK hc HO
      by_cases hlt : i < nS ∧ i < 6
      · rw [decide_eq_true hlt]
        as_aux_lemma =>
        obtain ⟨hlt1, hlt2⟩ := hlt
        obtain ⟨hbel, hT, hK, hc⟩ := HT.out
        have hs9 := HR.out.2.below hbel
        rcases hs9 with h | ⟨g, o, rfl, hg, hr⟩
        · omega
        have kx := hr i hlt1
        have hx0 := HR.out.1 i
        generalize R i = x at kx hx0
        obtain ⟨tz, htz⟩ : ∃ tz, tz = x % 4505601 := ⟨_, rfl⟩
        have htb : 0 ≤ tz ∧ tz ≤ 4505600 := by omega
        have hm1 : x.tmod 4505601 = tz := by rw [Int.tmod_eq_emod_of_nonneg hx0.1]; exact htz.symm
        have hm2 : x % 4505601 = tz := htz.symm
        clear htz hr hg
        have c10 := size_sp hT.sp
        have hb1 : ¬ (nS : Int) ≤ i := by omega
        have hb2 : ¬ nS ≤ i := by omega
        clear hbel hT hK hc
        go_upto_region 9 with (go_at_call 10; refine c10.mono ?_; rintro _ w2 ⟨rfl, e2⟩; obtain rfl : wr = w2 := e2.symm)
        obtain ⟨Q, hQ⟩ : ∃ Q : Nat, (tz + 4095) / 4096 = Q := ⟨((tz + 4095) / 4096).toNat, by omega⟩
        have HQ : Hid ((tz + 4095) / 4096 = Q) := hQ
        have S4 := HT.out.2.1
        go_upto_if 43 with fail
        go_cut [9] (fun v wd => Hid (GoP wr s p b m N r P ft Q tz L F v wd))
        case first =>
          by_cases hge : size ≤ tz
          · have c9 := go_grow S4 HT.out.2.2.2 tz ⟨hge, by omega⟩ Q hQ
            unfold GoE at c9
            clear S4 hQ
            go_wp2_with (go_at_call 9; refine c9.mono ?_; rintro _ w5 ⟨v5, rfl, g5⟩; have H5 : Hid (GoP wr s p b m N r P ft Q tz L F (.int .i64 v5) w5) := g5; clear g5 c9)
            go_meet
            case rel => exact H5
          · have c31 := go_shrink S4 HT.out.2.2.2 tz ⟨htb.1, by omega⟩ Q hQ
            unfold GoE at c31
            clear S4 hQ
            go_wp2_with (go_at_call 31; refine c31.mono ?_; rintro _ w5 ⟨v5, rfl, g5⟩; have H5 : Hid (GoP wr s p b m N r P ft Q tz L F (.int .i64 v5) w5) := g5; clear g5 c31)
            go_meet
            case rel => exact H5
        case rest =>
          have H5 := hcut
          clear hcut
          rename World => wd5
          have hPb : P ≤ 1100 ∧ Q ≤ 1100 := by have := HT.out.2.1.sz; omega
          rcases H5.out with ⟨rfl, t5, B5, L5, F5, lf5, fr5, c5, S5, n5, hc5⟩ | ⟨rfl, hno, b5⟩
          rotate_left
          · exact absurd (wide_room S4.tab hPb.1 hPb.2 (by have := HT.out.2.2.1; have := HN.out; omega)) hno
          have hnd : nodesF F5 + 1 ≤ 12 := by
            have h9 := S5.tab.nodes S5.pm
            have : ndP Q ≤ 7 := by unfold ndP; split <;> omega
            omega
          have c36 := frames_sp S5 hnd
          unfold FmP at c36
          have H6 : Hid (Tch p b m s wr wd5 ∧ SpT wd5 s p b m N r Q ft tz B5 L5 F5 lf5 fr5 c5 ∧ L5.length + nodesF F5 + Q + 3 = N ∧ (∀ i, i < Q → c5 i = 214) ∧ (ndl r (evs F5 lf5 0)).length = nodesF F5 + 1) := ⟨t5, S5, by have := HT.out.2.2.1; omega, hc5, S5.ndlen⟩
          clear t5 S5 n5 hc5 H5 hQ S4
          obtain ⟨nP, hnP⟩ : ∃ nP, nP = nodesF F5 + 1 + Q := ⟨_, rfl⟩
          rw [← hnP] at c36
          have hnb : nP ≤ 1200 := by omega
          have HNP : Hid (nP = nodesF F5 + 1 + Q) := hnP
          clear hnP
          go_upto_region 14 with (go_at_call 36; refine c36.mono ?_; rintro _ w6 ⟨ys, q6, c6, rfl, ⟨y1, y2⟩, o6, b6⟩; have H7 : Hid (ys.Perm (ndl r (evs F5 lf5 0)) ∧ w6.ownsRow wd5.heap.size 23 1 (.slice q6 nP c6) nP (wv (ys ++ frL fr5 Q)) ∧ Below wd5.heap.size wd5 w6) := ⟨y1, o6, b6⟩; clear y1 y2 o6 b6 c36)
          have hZl : (ys ++ frL fr5 Q).length = nP := by rw [List.length_append, frL_len, H7.out.1.length_eq, H6.out.2.2.2.2, HNP.out]
          have S6 := H6.out.2.1.below H7.out.2.2
          have c10b := size_sp S6.sp
          have c30 := count_ram S6.ram
          obtain ⟨LL, hLL⟩ : ∃ LL, LL = L5.length := ⟨_, rfl⟩
          rw [← hLL] at c30
          have hcnt : ((LL : Int) != 1198 - (nP : Int)) = false := by rw [bne_eq_false_iff_eq]; have := H6.out.2.2.1; have := HN.out; have := HNP.out; omega
          have HS6 : Hid (SpT w6 s p b m N r Q ft tz B5 L5 F5 lf5 fr5 c5) := S6
          have hib : IntKind.u8.wrap (i : Int) = i := by rw [IntKind.wrap_u8]; omega
          clear hLL S6
          go_cut [88] (fun v wc => v = .bool false ∧ Hid (HoS w s p b m N r ft tz wc))
          case first =>
            go_wp2_with first | (go_at_call 10; refine c10b.mono ?_; rintro _ w8 ⟨rfl, e8⟩; obtain rfl : w6 = w8 := e8.symm) | (go_at_call 30; refine c30.mono ?_; rintro _ w9 ⟨rfl, k9, e9⟩; have H9 : Hid (Below w6.heap.size w6 w9) := (by rw [e9]; exact blw_drewN _ _ k9); have b10 : Below w9.heap.size w9 (w9.alloc (.cells #[.int .u64 2147483648] 23)) := below1 _ _; have c37 := apart_any ((HS6.out.below H9.out).below b10).ram (ca := c6) (c2 := 1) ((((own_lz hZl H7.out.2.1).below H9.out)).below b10) (q2 := some ⟨w9.heap.size, 0, .none⟩) (l2 := lz [2147483648]) (n2 := 1) (one_row w9 _) ⟨by omega, by omega⟩ (by rw [← hZl]; exact HS6.out.tab.apt1 (HS6.out.tab.frZ HS6.out.ram.mem.n2 H7.out.1)); have H10 : Hid (Below w6.heap.size w6 (w9.alloc (.cells #[.int .u64 2147483648] 23))) := H9.out.trans (b10.mono H9.out.size); clear e9 b10 c30) | (go_at_call 37; refine c37.mono ?_; rintro _ w11 ⟨rfl, b11⟩; have H11 : Hid (Below w6.heap.size w6 w11) := H10.out.trans (b11.mono H10.out.size); have c38 := borders_any (HS6.out.below H11.out) H6.out.2.2.2.1 i (by omega); unfold BoP at c38; clear b11 c37) | (go_at_call 38; refine c38.mono ?_; rintro _ w12 ⟨rfl, f12, B12, S12⟩; have H12 : Hid (HoS w s p b m N r ft tz w12) := (by have hl := HL.out; have z0 := HT.out.1; have z5 := H6.out.1; have z6 := H7.out.2.2; have z11 := H11.out; have q0 := z0.size; have q5 := z5.size; have q6 := z6.size; have q11 := z11.size; exact ⟨(((z0.trans (z5.low (by omega) (by omega))).trans (z6.mono (by omega))).trans (z11.mono (by omega))).trans (f12.toBelow (by omega) hl.2.1 hl.2.2.1 hl.2.2.2), _, _, _, _, _, _, _, S12, H6.out.2.2.1, H6.out.2.2.2.1⟩); clear f12 S12 c38)
            go_meet
            case rel => exact ⟨rfl, H12⟩
          case rest =>
            obtain ⟨rfl, H12⟩ := hcut
            go_wp2_with fail
            exact ⟨⟨i + 1, tz, by omega, by simp, by omega, H12⟩, by simp only [intOf]; omega⟩
      · rw [decide_eq_false hlt]
        as_aux_lemma =>
        have c34 := sfree_any HT.out.2.1
        unfold FeP at c34
        go_wp2_with first | (go_at_call 34; refine c34.mono ?_; rintro _ w5 ⟨rfl, t5, kn5, B5, L5, r5, n5, o5⟩; have H5 : Hid (Tch p b m s wr w5) := t5; have c30 := count_ram r5; rw [show L5.length = 1198 by have := HT.out.2.2.1; have := HN.out; omega] at c30; clear t5 kn5 r5 n5 o5 c34) | (go_at_call 30; refine c30.mono ?_; rintro _ w6 ⟨rfl, k6, e6⟩; have H6 : Hid (Below w5.heap.size w5 w6) := (by rw [e6]; exact blw_drewN _ _ k6); clear e6 c30)
        go_ret
        refine ⟨rfl, ?_⟩
        have hl := HL.out
        have z0 := HT.out.1
        have z5 := H5.out
        have q0 := z0.size
        have q5 := z5.size
        exact (z0.trans (z5.low (by omega) (by omega))).trans (H6.out.mono (by omega))
end Go.Proofs.YtblmkkhiojbcjaaGreat
