import Derived.Test.YtblmkkhiojbcjaaGreatGm
import Derived.Test.YtblmkkhiojbcjaaGreatGj
import Derived.Test.YtblmkkhiojbcjaaGreatEu
import Derived.Deep.DeepCutAuto
namespace Go.Proofs.YtblmkkhiojbcjaaGreat
open Go Go.RowKit Fz
set_option linter.unusedVariables false
set_option linter.unusedSimpArgs false
/-- A space in a law: it holds all that is not free, and its pages may be read and written. -/
def HoS (w : World) (s p b m N r ft : Nat) (size : Int) (W : World) : Prop := Below w.heap.size w W ∧ ∃ P B L F lf fr c, SpT W s p b m N r P ft size B L F lf fr c ∧ L.length + nodesF F + P + 3 = N ∧ ∀ i, i < P → c i = 214
/-- Bytes that were read. -/
def InZ (w : World) (n : Nat) (R : Nat → Int) (e : Ending) (w' : World) : Prop := ∃ q cq, e = .returned (.tuple #[.slice q n cq, .bool true]) ∧ See w' .u8 q n R ∧ Below w.heap.size w w'
/-- What Grow or Shrink comes to. -/
def GoP (w : World) (s p b m N r P ft Q : Nat) (tz : Int) (L : List Nat) (F : Nat → Option Nat) (v : Value) (w' : World) : Prop :=
  (v = .int .i64 0 ∧ Tch p b m s w w' ∧ ∃ B' L' F' lf' fr' c', SpT w' s p b m N r Q ft tz B' L' F' lf' fr' c' ∧ L'.length + nodesF F' + Q = L.length + nodesF F + P ∧ ∀ i, i < Q → c' i = 214) ∨
  (v = .int .i64 164 ∧ ¬ (Q : Int) - P + ndP Q - ndP P ≤ L.length ∧ Below w.heap.size w w')
def GoE (w : World) (s p b m N r P ft Q : Nat) (tz : Int) (L : List Nat) (F : Nat → Option Nat) (e : Ending) (w' : World) : Prop := ∃ v, e = .returned (.int .i64 v) ∧ GoP w s p b m N r P ft Q tz L F (.int .i64 v) w'
section
variable {w : World} {s p b m N r P ft : Nat} {size : Int} {B : Nat → Int} {L : List Nat} {F : Nat → Option Nat} {lf : Nat → Nat → Int} {fr : Nat → Nat} {c : Nat → Int}
theorem in_first (h : SpT w s p b m N r P ft size B L F lf fr c) (hc : ∀ i, i < P → c i = 214) (n : Nat) (hn : (n : Int) ≤ size) : Calls Tryz.prog 13 #[.pointer (some ⟨s, 0, .none⟩), .int .u64 0, .int .i64 n] w (InZ w n (btU B fr)) := by
  have hsz := h.sz
  by_cases h0 : n = 0
  · subst h0
    exact (in_zero h.su 0).mono fun e w' hh => ⟨none, 0, hh.1, .inl rfl, hh.2⟩
  · refine (in_any h.su 0 n (by omega) (by omega)).mono fun e w' hh => ?_
    obtain ⟨hb, ⟨_, g, h1, h2, h3, h4⟩ | ⟨⟨j, hj, h1⟩, _⟩⟩ := hh
    · refine ⟨some ⟨g, 0, .none⟩, n, h3, .inr ⟨g, 0, rfl, h2, fun i hi => ?_⟩, hb⟩
      rw [Nat.zero_add, h4 i hi, Nat.zero_add]
    · unfold accU at h1
      rw [hc _ (by omega)] at h1
      exact absurd h1 (by decide)
theorem go_grow (h : SpT w s p b m N r P ft size B L F lf fr c) (hc : ∀ i, i < P → c i = 214) (tz : Int) (htz : size ≤ tz ∧ tz ≤ 16777216) (Q : Nat) (hQ : (tz + 4095) / 4096 = Q) : Calls Tryz.prog 9 #[.pointer (some ⟨s, 0, .none⟩), .int .u64 tz, .int .u64 6] w (GoE w s p b m N r P ft Q tz L F) := by
  refine (grow_any h tz 6 (.inr (.inr (.inr (.inl rfl)))) htz Q hQ).mono fun e w' hh => ?_
  rcases hh with ⟨h1, h2, h3, B', L', F', lf', fr', c', h4, h5, h6, h7, h8⟩ | ⟨h1, h2, h3⟩
  · refine ⟨0, h2, .inl ⟨rfl, h3, B', L', F', lf', fr', c', h4, h5, fun i hi => ?_⟩⟩
    by_cases hp : i < P
    · rw [(h7 i hp).2]; exact hc i hp
    · exact h8 i (by omega) hi
  · exact ⟨164, h2, .inr ⟨rfl, h1, h3⟩⟩
theorem go_shrink (h : SpT w s p b m N r P ft size B L F lf fr c) (hc : ∀ i, i < P → c i = 214) (tz : Int) (htz : 0 ≤ tz ∧ tz ≤ size) (Q : Nat) (hQ : (tz + 4095) / 4096 = Q) : Calls Tryz.prog 31 #[.pointer (some ⟨s, 0, .none⟩), .int .u64 tz] w (GoE w s p b m N r P ft Q tz L F) := by
  have hsz := h.sz
  refine (shrink_any h tz htz Q hQ).mono fun e w' hh => ?_
  obtain ⟨h1, h2, B', L', F', lf', h3, h4, h5⟩ := hh
  exact ⟨0, h1, .inl ⟨rfl, h2, B', L', F', lf', fr, c, h3, h4, fun i hi => hc i (by omega)⟩⟩
/-- One byte of the first page. -/
theorem poke_first (h : SpT w s p b m N r P ft size B L F lf fr c) (hs : 0 < size) (g : Nat) (x : Int) (hx : 0 ≤ x ∧ x < 256) (hg : w.cell? ⟨g, 0, .none⟩ = some (.int .u8 x)) (hgp : g ≠ p ∧ g ≠ b ∧ g ≠ m) : Calls Tryz.prog 18 #[.pointer (some ⟨s, 0, .none⟩), .int .u64 0, .slice (some ⟨g, 0, .none⟩) 1 1] w fun e w' => e = .returned (.bool true) ∧ Fra p b m w w' ∧ ∃ B', SpT w' s p b m N r P ft size B' L F lf fr c := by
  have hsz := h.sz
  refine (poke_gen h.su 0 1 (by omega) ⟨by omega, by omega⟩ g 0 1 ⟨by omega, by omega⟩ (fun _ => x) (fun _ => hx) (fun i hi => (by
    have e : i = 0 := by omega
    subst e
    exact hg)) hgp).mono fun e w' hh => ?_
  rcases hh with ⟨_, h1⟩ | ⟨h1, _⟩
  · have := h.wr (by omega) h1
    exact ⟨h1.1, this.2.2, _, this.1⟩
  · exact absurd (by omega) h1
end
theorem Tch.low {p b m x B : Nat} {w w' : World} (h : Tch p b m x w w') (hB : B ≤ w.heap.size) (h1 : B ≤ x ∧ B ≤ p ∧ B ≤ b ∧ B ≤ m) : Below B w w' :=
  ⟨h.os, h.tape, h.output, h.size, fun k hk => h.block k (by omega) (by omega) (by omega) (by omega) (by omega)⟩
def LwH (w : World) (e : Ending) (w' : World) : Prop := e = .returned (.bool true) ∧ Below w.heap.size w w'
set_option maxRecDepth 100000 in
set_option maxHeartbeats 2000000 in
theorem holds_law {w : World} (room : Int) (q : Option Addr) (nS cS : Nat) (R : Nat → Int) (hR : ∀ i, 0 ≤ R i ∧ R i < 18446744073709551616) (hS : See w .u64 q nS R) (hnS : nS ≤ 9223372036854775807) : Calls Tryz.prog 5 #[.int .i64 room, .slice q nS cS] w (LwH w) := by
  obtain ⟨N, hN⟩ : ∃ N : Nat, (N : Int) = 6 + room % 4294967296 % 50 := ⟨(6 + room % 4294967296 % 50).toNat, by omega⟩
  have c8 := made_any w N (by omega)
  unfold MdT at c8
  have HR : Hid ((∀ i, 0 ≤ R i ∧ R i < 18446744073709551616) ∧ See w .u64 q nS R) := ⟨hR, hS⟩
  have hN2 : 6 + room % 4294967296 % 50 = (N : Int) := hN.symm
  have hNb : 6 ≤ N ∧ N < 56 := by omega
  clear hR hS hN
  go_enter Tryz.func5, Tryz.ntmps5
  go_upto_region 2 with fail
  clear hN2
  go_upto_region 5 with (go_at_call 8; refine c8.mono ?_; rintro _ w1 ⟨s, p, b, m, B0, L0, F0, lf0, rfl, h1, h2, h3, h4⟩; have H1 : Hid (HoS w s p b m N (N - 2) (N - 1) 0 w1) := ⟨h4, 0, B0, L0, F0, lf0, _, _, h2, by omega, fun i hi => by omega⟩; have HL : Hid (w.heap.size ≤ s ∧ w.heap.size ≤ p ∧ w.heap.size ≤ b ∧ w.heap.size ≤ m) := h1; clear h1 h2 h3 h4 c8)
  obtain ⟨r, hr⟩ : ∃ r, r = N - 2 := ⟨_, rfl⟩
  obtain ⟨ft, hft⟩ : ∃ ft, ft = N - 1 := ⟨_, rfl⟩
  rw [← hr, ← hft] at H1
  rw [← hft]
  have HFT : Hid (r = N - 2 ∧ ft = N - 1) := ⟨hr, hft⟩
  clear hr hft
  go_wp2_with fail
  go_loopw [9] (fun k wr => ∃ (i : Nat) (size : Int), i ≤ 60 ∧ k = .int .i64 i ∧ (0 ≤ size ∧ size < 245760) ∧ Hid (HoS w s p b m N r ft size wr)) (fun k _ => (60 - intOf k).toNat)
  case atStart => exact ⟨0, 0, by omega, rfl, by omega, H1⟩
  case round =>
    clear H1
    obtain ⟨i, size, hi, rfl, hsz, HO⟩ := hrel
    go_upto_region 6 with fail
    go_cut [41] (fun s wc => s = .bool (decide (i < nS ∧ i < 60)) ∧ wc = wr)
    case first =>
      by_cases h1 : i < nS
      · have g1 : (i : Int) < nS := by omega
        by_cases h2 : i < 60
        · have g2 : (i : Int) < 60 := by omega
          have HE : Hid (decide (i < nS ∧ i < 60) = true) := decide_eq_true ⟨h1, h2⟩
          go_wp2
          go_meet
          case rel => exact ⟨by rw [HE.out], rfl⟩
        · have g2 : ¬ (i : Int) < 60 := by omega
          have HE : Hid (decide (i < nS ∧ i < 60) = false) := decide_eq_false (fun h => h2 h.2)
          go_wp2
          go_meet
          case rel => exact ⟨by rw [HE.out], rfl⟩
      · have g1 : ¬ (i : Int) < nS := by omega
        have HE : Hid (decide (i < nS ∧ i < 60) = false) := decide_eq_false (fun h => h1 h.1)
        go_wp2
        go_meet
        case rel => exact ⟨by rw [HE.out], rfl⟩
    case rest =>
      obtain ⟨rfl, hwc⟩ := hcut
      obtain rfl : wr = wc := hwc.symm
      obtain ⟨hbel, P, B, L, F, lf, fr, c, hT, hK, hc⟩ := HO.out
      have HT : Hid (Below w.heap.size w wr ∧ SpT wr s p b m N r P ft size B L F lf fr c ∧ L.length + nodesF F + P + 3 = N ∧ ∀ i, i < P → c i = 214) := ⟨hbel, hT, hK, hc⟩
      clear hbel hT hK hc HO
      by_cases hlt : i < nS ∧ i < 60
      · rw [decide_eq_true hlt]
        as_aux_lemma =>
        obtain ⟨hlt1, hlt2⟩ := hlt
        obtain ⟨hbel, hT, hK, hc⟩ := HT.out
        have hs9 := HR.out.2.below hbel
        rcases hs9 with h | ⟨g, o, rfl, hg, hr⟩
        · omega
        have kx := hr i hlt1
        have hx0 := HR.out.1 i
        generalize R i = x at kx hx0
        obtain ⟨tz, htz⟩ : ∃ tz, tz = x % 245760 := ⟨_, rfl⟩
        have htb : 0 ≤ tz ∧ tz < 245760 := by omega
        have hm1 : x.tmod 245760 = tz := by rw [Int.tmod_eq_emod_of_nonneg hx0.1]; exact htz.symm
        have hm2 : x % 245760 = tz := htz.symm
        clear htz hr hg
        have c10 := size_sp hT.sp
        have c30 := count_ram hT.ram
        obtain ⟨LL, hLL⟩ : ∃ LL, LL = L.length := ⟨_, rfl⟩
        rw [← hLL] at c30
        have HLL : Hid (LL = L.length) := hLL
        clear hLL
        have hb1 : ¬ (nS : Int) ≤ i := by omega
        have hb2 : ¬ nS ≤ i := by omega
        obtain ⟨nn, hnn⟩ : ∃ nn : Nat, (nn : Int) = if size ≤ 4096 then size else 4096 := ⟨(if size ≤ 4096 then size else 4096).toNat, by split <;> omega⟩
        have hnb : nn ≤ 4096 ∧ (nn : Int) ≤ size := by split at hnn <;> omega
        have HNN : Hid ((nn : Int) = if size ≤ 4096 then size else 4096) := hnn
        clear hbel hT hK hc hnn
        go_upto_region 11 with first | (go_at_call 10; refine c10.mono ?_; rintro _ w2 ⟨rfl, e2⟩; obtain rfl : wr = w2 := e2.symm) | (go_at_call 30; refine c30.mono ?_; rintro _ w3 ⟨rfl, k3, e3⟩; have H3 : Hid (Below wr.heap.size wr w3) := (by rw [e3]; exact blw_drewN _ _ k3); clear e3 c30)
        have S3 := HT.out.2.1.below H3.out
        have c13 := in_first S3 HT.out.2.2.2 nn hnb.2
        unfold InZ at c13
        clear S3
        go_cut [13] (fun v wc => ∃ qo co, v = .slice qo nn co ∧ Hid (Below wr.heap.size wr wc ∧ See wc .u8 qo nn (btU B fr)))
        case first =>
          by_cases hm : size ≤ 4096
          · have e9 : (nn : Int) = size := by have := HNN.out; rw [if_pos hm] at this; exact this
            rw [e9] at c13
            have hm' : ¬ 4096 < size := by omega
            have hwz : IntKind.i64.wrap size = size := by rw [IntKind.wrap_i64]; omega
            clear e9
            go_wp2_with (go_at_call 13; refine c13.mono ?_; rintro _ w4 ⟨qo, co, rfl, so, b4⟩; have H4 : Hid (Below wr.heap.size wr w4 ∧ See w4 .u8 qo nn (btU B fr)) := ⟨H3.out.trans (b4.mono H3.out.size), so⟩; clear so b4 c13)
            go_meet
            case rel => exact ⟨qo, co, rfl, H4⟩
          · have e9 : nn = 4096 := by have := HNN.out; rw [if_neg hm] at this; omega
            subst e9
            have hm' : 4096 < size := by omega
            go_wp2_with (go_at_call 13; refine c13.mono ?_; rintro _ w4 ⟨qo, co, rfl, so, b4⟩; have H4 : Hid (Below wr.heap.size wr w4 ∧ See w4 .u8 qo 4096 (btU B fr)) := ⟨H3.out.trans (b4.mono H3.out.size), so⟩; clear so b4 c13)
            go_meet
            case rel => exact ⟨qo, co, rfl, H4⟩
        case rest =>
          obtain ⟨qo, co, rfl, H4⟩ := hcut
          clear c13 c10
          rename World => wc4
          obtain ⟨Q, hQ⟩ : ∃ Q : Nat, (tz + 4095) / 4096 = Q := ⟨((tz + 4095) / 4096).toNat, by omega⟩
          have HQ : Hid ((tz + 4095) / 4096 = Q) := hQ
          have S4 := HT.out.2.1.below H4.out.1
          have HS4 : Hid (SpT wc4 s p b m N r P ft size B L F lf fr c) := S4
          go_upto_if 63 with fail
          go_cut [15] (fun v wd => Hid (GoP wc4 s p b m N r P ft Q tz L F v wd))
          case first =>
            by_cases hge : size ≤ tz
            · have c9 := go_grow S4 HT.out.2.2.2 tz ⟨hge, by omega⟩ Q hQ
              unfold GoE at c9
              clear S4 hQ
              go_wp2_with (go_at_call 9; refine c9.mono ?_; rintro _ w5 ⟨v5, rfl, g5⟩; have H5 : Hid (GoP wc4 s p b m N r P ft Q tz L F (.int .i64 v5) w5) := g5; clear g5 c9)
              go_meet
              case rel => exact H5
            · have c31 := go_shrink S4 HT.out.2.2.2 tz ⟨htb.1, by omega⟩ Q hQ
              unfold GoE at c31
              clear S4 hQ
              go_wp2_with (go_at_call 31; refine c31.mono ?_; rintro _ w5 ⟨v5, rfl, g5⟩; have H5 : Hid (GoP wc4 s p b m N r P ft Q tz L F (.int .i64 v5) w5) := g5; clear g5 c31)
              go_meet
              case rel => exact H5
          case rest =>
            have H5 := hcut
            clear S4 hcut
            rename World => wd5
            have e16 : (size + 4095).tdiv 4096 = P := by rw [Int.tdiv_eq_ediv_of_nonneg (by omega)]; exact HT.out.2.1.sz.2
            have e16' : (size + 4095) / 4096 = (P : Int) := HT.out.2.1.sz.2
            have e17 : (tz + 4095).tdiv 4096 = Q := by rw [Int.tdiv_eq_ediv_of_nonneg (by omega)]; exact HQ.out
            have e17' : (tz + 4095) / 4096 = (Q : Int) := HQ.out
            have hPb : P ≤ 60 ∧ Q ≤ 60 := by omega
            have c32a := fun W => ndP_any Q (by omega) W
            have c32b := fun W => ndP_any P (by omega) W
            have hnp := HT.out.2.1.tab.nodes HT.out.2.1.pm
            have b1 : 3 ≤ ndP Q ∧ ndP Q ≤ 20 := by unfold ndP; split <;> omega
            have b2 : 3 ≤ ndP P ∧ ndP P ≤ 20 := by unfold ndP; split <;> omega
            obtain ⟨nq, hnq⟩ : ∃ nq, nq = ndP Q := ⟨_, rfl⟩
            obtain ⟨np, hnpp⟩ : ∃ np, np = ndP P := ⟨_, rfl⟩
            rw [← hnq] at c32a b1
            rw [← hnpp] at c32b b2 hnp
            have HNQ : Hid (nq = ndP Q ∧ np = ndP P ∧ ((nodesF F : Nat) : Int) + 1 = np) := ⟨hnq, hnpp, hnp⟩
            clear hnq hnpp hnp hQ
            have hLb : LL ≤ 4096 := by have := len_le HT.out.2.1.ram; have := HT.out.2.1.ram.mem.n2; have := HLL.out; omega
            rcases H5.out with ⟨rfl, t5, B5, L5, F5, lf5, fr5, c5, S5, n5, hc5⟩ | ⟨rfl, hno, b5⟩
            · have hq5 := S5.tab.nodes S5.pm
              obtain ⟨LL5, hLL5⟩ : ∃ LL5, LL5 = L5.length := ⟨_, rfl⟩
              have hcn : ((LL5 : Int) != (LL : Int) - ((Q : Int) - P + nq - np)) = false := by
                have h1 := HNQ.out
                have h2 := HLL.out
                rw [bne_eq_false_iff_eq]
                rw [← h1.1] at hq5
                omega
              have c10 := size_sp S5.sp
              have c30 := count_ram S5.ram
              rw [← hLL5] at c30
              have H6 : Hid (Tch p b m s wc4 wd5 ∧ SpT wd5 s p b m N r Q ft tz B5 L5 F5 lf5 fr5 c5 ∧ L5.length + nodesF F5 + Q + 3 = N ∧ ∀ i, i < Q → c5 i = 214) := ⟨t5, S5, by have := HT.out.2.2.1; omega, hc5⟩
              clear t5 S5 n5 hc5 hq5 hLL5 H5
              go_upto_region 18 with fail
              go_wp2_with fail
              refine (c32a _).mono ?_
              rintro _ w8 ⟨rfl, e8⟩
              obtain rfl : wd5 = w8 := e8.symm
              go_wp2_with fail
              refine (c32b _).mono ?_
              rintro _ w8 ⟨rfl, e8⟩
              obtain rfl : wd5 = w8 := e8.symm
              go_upto_region 19 with fail
              go_upto_region 25 with first | (go_at_call 10; refine c10.mono ?_; rintro _ w8 ⟨rfl, e8⟩; obtain rfl : wd5 = w8 := e8.symm) | (go_at_call 30; refine c30.mono ?_; rintro _ w6 ⟨rfl, k6, e6⟩; have H7 : Hid (SpT w6 s p b m N r Q ft tz B5 L5 F5 lf5 fr5 c5 ∧ L5.length + nodesF F5 + Q + 3 = N ∧ (∀ i, i < Q → c5 i = 214) ∧ Below w.heap.size w w6) := (by have b6 : Below wd5.heap.size wd5 w6 := (by rw [e6]; exact blw_drewN _ _ k6); have z1 := HT.out.1; have z2 := H4.out.1; have z3 := H6.out.1; have q1 := z1.size; have q2 := z2.size; have q3 := z3.size; exact ⟨H6.out.2.1.below b6, H6.out.2.2.1, H6.out.2.2.2, ((z1.trans (z2.mono (by omega))).trans (z3.low (by omega) HL.out)).trans (b6.mono (by omega))⟩); clear e6 c30)
              have c33 := whole_any H7.out.1 (by have h9 := H7.out.1.tab.nodes H7.out.1.pm; have : ndP Q ≤ 6 := (by unfold ndP; split <;> omega); omega) H7.out.2.2.1 H7.out.2.1
              go_upto_region 27 with (go_at_call 33; refine c33.mono ?_; rintro _ w9 ⟨rfl, b9⟩; have H9 : Hid (Below w6.heap.size w6 w9) := b9; clear b9 c33)
              have S9 := H7.out.1.below H9.out
              have c10b := size_sp S9.sp
              have HB9 : Hid (Below w.heap.size w w9) := H7.out.2.2.2.trans (H9.out.mono H7.out.2.2.2.size)
              have HS9 : Hid (SpT w9 s p b m N r Q ft tz B5 L5 F5 lf5 fr5 c5) := S9
              by_cases hpos : 0 < tz
              · obtain ⟨w10, hw10⟩ : ∃ w10, w10 = w9.alloc (.cells #[.int .u8 ((i : Int) + 1)] 5) := ⟨_, rfl⟩
                have b10 : Below w9.heap.size w9 w10 := by rw [hw10]; exact below1 _ _
                have k10 : w10.cell? ⟨w9.heap.size, 0, .none⟩ = some (.int .u8 ((i : Int) + 1)) := by rw [hw10]; simp
                have hpb := S9.ram.mem.plt
                have hbb := S9.ram.mem.blt
                have hmb := S9.ram.mem.mlt
                have c18 := poke_first (S9.below b10) hpos w9.heap.size ((i : Int) + 1) (by omega) k10 ⟨by omega, by omega, by omega⟩
                have H10 : Hid (Below w.heap.size w w10) := HB9.out.trans (b10.mono HB9.out.size)
                rw [hw10] at c18 H10
                have hw8 : IntKind.u8.wrap ((i : Int) + 1) = (i : Int) + 1 := by rw [IntKind.wrap_u8]; omega
                clear S9 b10 k10 hw10 hpb hbb hmb
                go_wp2_with first | (go_at_call 10; refine c10b.mono ?_; rintro _ w11 ⟨rfl, e11⟩; obtain rfl : w9 = w11 := e11.symm) | (go_at_call 18; refine c18.mono ?_; rintro _ w12 ⟨rfl, f12, B12, S12⟩; have H12 : Hid (HoS w s p b m N r ft tz w12) := ⟨H10.out.trans (f12.toBelow H10.out.size HL.out.2.1 HL.out.2.2.1 HL.out.2.2.2), _, _, _, _, _, _, _, S12, H7.out.2.1, H7.out.2.2.1⟩; clear f12 S12 c18)
                exact ⟨⟨i + 1, tz, by omega, by simp, by omega, H12⟩, by simp only [intOf]; omega⟩
              · have H12 : Hid (HoS w s p b m N r ft tz w9) := ⟨HB9.out, _, _, _, _, _, _, _, S9, H7.out.2.1, H7.out.2.2.1⟩
                clear S9
                go_wp2_with (go_at_call 10; refine c10b.mono ?_; rintro _ w11 ⟨rfl, e11⟩; obtain rfl : w9 = w11 := e11.symm)
                exact ⟨⟨i + 1, tz, by omega, by simp, by omega, H12⟩, by simp only [intOf]; omega⟩
            · have S5 := HS4.out.below b5
              have hno2 : ¬ (Q : Int) - P + nq - np ≤ LL := by have h1 := HNQ.out; have h2 := HLL.out; rw [h1.1, h1.2.1, h2]; exact hno
              have c10 := size_sp S5.sp
              have c30 := count_ram S5.ram
              rw [← HLL.out] at c30
              have H6 : Hid (Below wc4.heap.size wc4 wd5) := b5
              clear S5 hno b5 H5
              go_upto_region 18 with fail
              go_wp2_with fail
              refine (c32a _).mono ?_
              rintro _ w8 ⟨rfl, e8⟩
              obtain rfl : wd5 = w8 := e8.symm
              go_wp2_with fail
              refine (c32b _).mono ?_
              rintro _ w8 ⟨rfl, e8⟩
              obtain rfl : wd5 = w8 := e8.symm
              go_upto_region 22 with first | (go_at_call 10; refine c10.mono ?_; rintro _ w8 ⟨rfl, e8⟩; obtain rfl : wd5 = w8 := e8.symm) | (go_at_call 30; refine c30.mono ?_; rintro _ w6 ⟨rfl, k6, e6⟩; have H7 : Hid (Below wc4.heap.size wc4 w6) := (by have b6 : Below wd5.heap.size wd5 w6 := (by rw [e6]; exact blw_drewN _ _ k6); exact H6.out.trans (b6.mono H6.out.size)); clear e6 c30)
              have S6 := HS4.out.below H7.out
              have c13 := in_first S6 HT.out.2.2.2 nn hnb.2
              unfold InZ at c13
              clear S6
              go_cut [19] (fun v wc => ∃ qo co, v = .slice qo nn co ∧ Hid (Below wc4.heap.size wc4 wc ∧ See wc .u8 qo nn (btU B fr)))
              case first =>
                by_cases hm : size ≤ 4096
                · have e9 : (nn : Int) = size := by have := HNN.out; rw [if_pos hm] at this; exact this
                  rw [e9] at c13
                  have hm' : ¬ 4096 < size := by omega
                  have hwz : IntKind.i64.wrap size = size := by rw [IntKind.wrap_i64]; omega
                  clear e9
                  go_wp2_with (go_at_call 13; refine c13.mono ?_; rintro _ w9 ⟨qn, cn, rfl, so, b9⟩; have H9 : Hid (Below wc4.heap.size wc4 w9 ∧ See w9 .u8 qn nn (btU B fr)) := ⟨H7.out.trans (b9.mono H7.out.size), so⟩; clear so b9 c13)
                  go_meet
                  case rel => exact ⟨qn, cn, rfl, H9⟩
                · have e9 : nn = 4096 := by have := HNN.out; rw [if_neg hm] at this; omega
                  subst e9
                  have hm' : 4096 < size := by omega
                  go_wp2_with (go_at_call 13; refine c13.mono ?_; rintro _ w9 ⟨qn, cn, rfl, so, b9⟩; have H9 : Hid (Below wc4.heap.size wc4 w9 ∧ See w9 .u8 qn 4096 (btU B fr)) := ⟨H7.out.trans (b9.mono H7.out.size), so⟩; clear so b9 c13)
                  go_meet
                  case rel => exact ⟨qn, cn, rfl, H9⟩
              case rest =>
                obtain ⟨qn, cn, rfl, H9⟩ := hcut
                clear c13
                rename World => we9
                have c17 := bytes_same (ca := co) (cb := cn) (by omega) (H4.out.2.below H9.out.1) H9.out.2
                go_upto_region 25 with (go_at_call 17; refine c17.mono ?_; rintro _ w10 ⟨rfl, b10⟩; have H10 : Hid (Below wc4.heap.size wc4 w10) := H9.out.1.trans (b10.mono H9.out.1.size); clear b10 c17)
                have S10 := HS4.out.below H10.out
                clear H7
                have H7 : Hid (SpT w10 s p b m N r P ft size B L F lf fr c ∧ L.length + nodesF F + P + 3 = N ∧ (∀ i, i < P → c i = 214) ∧ Below w.heap.size w w10) := ⟨S10, HT.out.2.2.1, HT.out.2.2.2, (HT.out.1.trans (H4.out.1.mono HT.out.1.size)).trans (H10.out.mono (Nat.le_trans HT.out.1.size H4.out.1.size))⟩
                clear S10
                have c33 := whole_any H7.out.1 (by have h9 := H7.out.1.tab.nodes H7.out.1.pm; have : ndP P ≤ 6 := (by unfold ndP; split <;> omega); omega) H7.out.2.2.1 H7.out.2.1
                go_upto_region 27 with (go_at_call 33; refine c33.mono ?_; rintro _ w9 ⟨rfl, b9⟩; have H9 : Hid (Below w10.heap.size w10 w9) := b9; clear b9 c33)
                have S9 := H7.out.1.below H9.out
                have c10b := size_sp S9.sp
                have HB9 : Hid (Below w.heap.size w w9) := H7.out.2.2.2.trans (H9.out.mono H7.out.2.2.2.size)
                have HS9 : Hid (SpT w9 s p b m N r P ft size B L F lf fr c) := S9
                by_cases hpos : 0 < size
                · obtain ⟨w10, hw10⟩ : ∃ w10, w10 = w9.alloc (.cells #[.int .u8 ((i : Int) + 1)] 5) := ⟨_, rfl⟩
                  have b10 : Below w9.heap.size w9 w10 := by rw [hw10]; exact below1 _ _
                  have k10 : w10.cell? ⟨w9.heap.size, 0, .none⟩ = some (.int .u8 ((i : Int) + 1)) := by rw [hw10]; simp
                  have hpb := S9.ram.mem.plt
                  have hbb := S9.ram.mem.blt
                  have hmb := S9.ram.mem.mlt
                  have c18 := poke_first (S9.below b10) hpos w9.heap.size ((i : Int) + 1) (by omega) k10 ⟨by omega, by omega, by omega⟩
                  have H10 : Hid (Below w.heap.size w w10) := HB9.out.trans (b10.mono HB9.out.size)
                  rw [hw10] at c18 H10
                  have hw8 : IntKind.u8.wrap ((i : Int) + 1) = (i : Int) + 1 := by rw [IntKind.wrap_u8]; omega
                  clear S9 b10 k10 hw10 hpb hbb hmb
                  go_wp2_with first | (go_at_call 10; refine c10b.mono ?_; rintro _ w11 ⟨rfl, e11⟩; obtain rfl : w9 = w11 := e11.symm) | (go_at_call 18; refine c18.mono ?_; rintro _ w12 ⟨rfl, f12, B12, S12⟩; have H12 : Hid (HoS w s p b m N r ft size w12) := ⟨H10.out.trans (f12.toBelow H10.out.size HL.out.2.1 HL.out.2.2.1 HL.out.2.2.2), _, _, _, _, _, _, _, S12, H7.out.2.1, H7.out.2.2.1⟩; clear f12 S12 c18)
                  exact ⟨⟨i + 1, size, by omega, by simp, by omega, H12⟩, by simp only [intOf]; omega⟩
                · have H12 : Hid (HoS w s p b m N r ft size w9) := ⟨HB9.out, _, _, _, _, _, _, _, S9, H7.out.2.1, H7.out.2.2.1⟩
                  clear S9
                  go_wp2_with (go_at_call 10; refine c10b.mono ?_; rintro _ w11 ⟨rfl, e11⟩; obtain rfl : w9 = w11 := e11.symm)
                  exact ⟨⟨i + 1, size, by omega, by simp, by omega, H12⟩, by simp only [intOf]; omega⟩
      · rw [decide_eq_false hlt]
        as_aux_lemma =>
        obtain ⟨hbel, hT, hK, hc⟩ := HT.out
        have c31 := shrink_any hT 0 ⟨by omega, hsz.1⟩ 0 rfl
        unfold ShP at c31
        clear hbel hT hK hc
        go_upto_region 29 with fail
        have e5 : (N : Int) - 2 - 3 = ((N - 5 : Nat) : Int) := by omega
        go_upto_region 31 with first | (go_at_call 31; refine c31.mono ?_; rintro _ w2 ⟨rfl, t2, B2, L2, F2, lf2, S2, n2, o2⟩; have H2 : Hid (Tch p b m s wr w2 ∧ SpT w2 s p b m N r 0 ft 0 B2 L2 F2 lf2 fr c ∧ L2.length + nodesF F2 + 0 + 3 = N ∧ nodesF F2 = 2) := ⟨t2, S2, by have := HT.out.2.2.1; omega, by have h9 := S2.tab.nodes (by omega); have e9 : ndP ((0 : Nat) : Int) = 3 := rfl; rw [e9] at h9; omega⟩; have c33 := whole_any S2 (by have := H2.out.2.2.2; omega) (fun i hi => by omega) H2.out.2.2.1; clear t2 S2 n2 o2 c31) | (go_at_call 33; refine c33.mono ?_; rintro _ w3 ⟨rfl, b3⟩; have H3 : Hid (Below w2.heap.size w2 w3) := b3; have S3 := H2.out.2.1.below b3; have c30 := count_ram S3.ram; rw [show L2.length = N - 5 by have := H2.out.2.2; omega] at c30; clear b3 c33 S3) | (go_at_call 30; refine c30.mono ?_; rintro _ w4 ⟨rfl, k4, e4⟩; have H4 : Hid (Below w2.heap.size w2 w4) := (by rw [e4]; exact H3.out.trans ((blw_drewN _ _ k4).mono H3.out.size)); have c34 := sfree_any (H2.out.2.1.below H4.out); unfold FeP at c34; clear c30 e4) | (go_at_call 34; refine c34.mono ?_; rintro _ w5 ⟨rfl, t5, kn5, B5, L5, r5, n5, o5⟩; have H5 : Hid (Tch p b m s w4 w5 ∧ w5.cell? ⟨s, 0, .none⟩ = some (.pointer .none) ∧ Ram w5 p b m N B5 L5 ∧ L5.length + 2 = N ∧ (ft < N ∧ 1 ≤ ft ∧ ft ∉ L5)) := ⟨t5, kn5, r5, (by have := H2.out.2.2; omega), (by have f5 := H2.out.2.1.tab.ftb; exact ⟨f5.2.1, f5.1, (o5 ft f5.2.2.1 f5.2.2.2 (fun i hi => by simp at hi)).1⟩)⟩; clear t5 kn5 r5 n5 o5 c34)
        have c30b := count_ram H5.out.2.2.1
        have c34b := free_nil H5.out.2.1
        have e6 : (N : Int) - 2 = ((N - 2 : Nat) : Int) := by omega
        rw [show L5.length = N - 2 by have := H5.out.2.2.2.1; omega] at c30b
        go_wp2_with first | (go_at_call 30; refine c30b.mono ?_; rintro _ w6 ⟨rfl, k6, e6⟩; have H6 : Hid (Below w5.heap.size w5 w6) := (by rw [e6]; exact blw_drewN _ _ k6); have c34c := free_nil ((H6.out.cell (p := ⟨s, 0, .none⟩) (lt_of_cell H5.out.2.1)).trans H5.out.2.1); have c35 := free_held ft (H5.out.2.2.1.below H6.out) H5.out.2.2.2.2.2.1 H5.out.2.2.2.2.1 H5.out.2.2.2.2.2.2; rw [show (2147483648 : Int) + (ft : Int) * 4096 = ad ft from rfl] at c35; clear e6 c30b c34b) | (go_at_call 34; refine c34c.mono ?_; rintro _ w7 ⟨rfl, e7⟩; obtain rfl : w6 = w7 := e7.symm) | (go_at_call 35; refine c35.mono ?_; rintro _ w8 ⟨rfl, r8, f8⟩; have H8 : Hid (Fra p b m w6 w8) := f8; clear r8 f8 c35)
        go_ret
        refine ⟨rfl, ?_⟩
        have hl := HL.out
        have z0 := HT.out.1
        have z2 := H2.out.1
        have z4 := H4.out
        have z5 := H5.out.1
        have z6 := H6.out
        have z8 := H8.out
        have q0 := z0.size
        have q2 := z2.size
        have q4 := z4.size
        have q5 := z5.size
        have q6 := z6.size
        exact ((((z0.trans (z2.low (by omega) (by omega))).trans (z4.mono (by omega))).trans (z5.low (by omega) (by omega))).trans (z6.mono (by omega))).trans (z8.toBelow (by omega) hl.2.1 hl.2.2.1 hl.2.2.2)
end Go.Proofs.YtblmkkhiojbcjaaGreat
