import Derived.Test.YtblmkkhiojbcjaaGreatHi
import Derived.Deep.DeepCutAuto
namespace Go.Proofs.YtblmkkhiojbcjaaGreat
open Go Go.RowKit Fz
set_option linter.unusedVariables false
set_option linter.unusedSimpArgs false
section
variable {h0 : Nat} {W5 W V U X : World} {n nn P : Nat} {RB : List Value} {ys : List Int} {l : List Pg} {g1 g2 g3 c3 g4 c4 g5 c5 g6 c6 g7 c7 g8 c8 g9 c9 : Nat}
theorem two_rows (h : Nine h0 W n nn P RB ys l g1 g2 g3 c3 g4 c4 g5 c5 g6 c6 g7 c7 g8 c8 g9 c9) (t : Tch g1 g2 g2 g2 W V) (u : Tch g4 g6 g6 g6 V U) : Ln U U g5 g7 P c5 c7 (pcs l) (pcs l) := by
  have o := h.ord
  have a5 := (own_lt h.p1).2.1
  have a7 := (own_lt h.p2).2.1
  have s1 := t.size
  refine ⟨ownF_blk h.p1 ((u.block g5 (by omega) (by omega) (by omega) (by omega) (by omega)).trans (t.block g5 a5 (by omega) (by omega) (by omega) (by omega))), ownF_blk h.p2 ((u.block g7 (by omega) (by omega) (by omega) (by omega) (by omega)).trans (t.block g7 a7 (by omega) (by omega) (by omega) (by omega))), ⟨rfl, rfl, rfl, Nat.le_refl _, fun _ _ _ _ _ _ => rfl⟩⟩
theorem three_rows (hb : Below W5.heap.size W5 W) (h : Nine W5.heap.size W n nn P RB ys l g1 g2 g3 c3 g4 c4 g5 c5 g6 c6 g7 c7 g8 c8 g9 c9) (t : Tch g1 g2 g2 g2 W V) (u : Tch g4 g6 g6 g6 V U) (x : Tch g5 g7 g7 g7 U X) : Below W5.heap.size W5 X ∧ X.ownsRow 0 5 1 (.slice (some ⟨g3, 0, .none⟩) n c3) n RB ∧ X.ownsRow 0 23 1 (.slice (some ⟨g8, 0, .none⟩) nn c8) nn (wv ys) ∧ X.ownsRow 0 99 3 (.slice (some ⟨g9, 0, .none⟩) P c9) P (pcs l) := by
  have o := h.ord
  have a3 := (own_lt h.x3).2.1
  have a8 := (own_lt h.n3).2.1
  have a9 := (own_lt h.p3).2.1
  have s1 := t.size
  have s2 := u.size
  have s0 := hb.size
  have key : ∀ g, g < W.heap.size → g ≠ g1 → g ≠ g2 → g ≠ g4 → g ≠ g6 → g ≠ g5 → g ≠ g7 → X.heap[g]? = W.heap[g]? := fun g hg e1 e2 e3 e4 e5 e6 => ((x.block g (by omega) e5 e6 e6 e6).trans (u.block g (by omega) e3 e4 e4 e4)).trans (t.block g hg e1 e2 e2 e2)
  refine ⟨((hb.trans (t.lowF hb.size (by omega))).trans (u.lowF (by omega) (by omega))).trans (x.lowF (by omega) (by omega)), ownF_blk h.x3 (key g3 a3 (by omega) (by omega) (by omega) (by omega) (by omega) (by omega)), ownF_blk h.n3 (key g8 a8 (by omega) (by omega) (by omega) (by omega) (by omega) (by omega)), ownF_blk h.p3 (key g9 a9 (by omega) (by omega) (by omega) (by omega) (by omega) (by omega))⟩
end
set_option maxRecDepth 100000 in
set_option maxHeartbeats 4000000 in
theorem fresh_law {w : World} (a0 : Int) (ha0 : 0 ≤ a0 ∧ a0 < 18446744073709551616) (q : Option Addr) (nD cD : Nat) (hcc : nD ≤ cD ∧ cD ≤ 9223372036854775807) (R : Nat → Int) (hR : ∀ i, 0 ≤ R i ∧ R i < 256) (hS : See w .u8 q nD R) : Calls Tryz.prog 4 #[.int .u64 a0, .slice q nD cD] w (LwF w) := by
  have c8 := made_any w 60 (by omega)
  unfold MdT at c8
  obtain ⟨x, hx⟩ : ∃ x, x = a0 % 20480 := ⟨_, rfl⟩
  have hxb : 0 ≤ x ∧ x < 20480 := by omega
  have hm1 : a0.tmod 20480 = x := by rw [Int.tmod_eq_emod_of_nonneg ha0.1]; exact hx.symm
  have hm2 : a0 % 20480 = x := hx.symm
  have hw1 : IntKind.u64.wrap (1 + x) = 1 + x := by rw [IntKind.wrap_u64]; omega
  clear hx
  obtain ⟨P, hP⟩ : ∃ P : Nat, (1 + x + 4095) / 4096 = P := ⟨((1 + x + 4095) / 4096).toNat, by omega⟩
  have HP : Hid ((1 + x + 4095) / 4096 = P) := hP
  have HR : Hid ((∀ i, 0 ≤ R i ∧ R i < 256) ∧ See w .u8 q nD R ∧ (nD ≤ cD ∧ cD ≤ 9223372036854775807)) := ⟨hR, hS, hcc⟩
  clear hR hS hP
  go_enter Tryz.func4, Tryz.ntmps4
  go_upto_region 2 with (go_at_call 8; refine c8.mono ?_; rintro _ w1 ⟨s, p, b, m, B0, L0, F0, lf0, rfl, h1, h2, h3, h4⟩; have c9 := grow_f h4 h1 h2 h3 (1 + x) (by omega) P HP.out; clear h1 h2 h3 h4 c8)
  go_upto_region 4 with (go_at_call 9; refine c9.mono ?_; rintro _ w2 ⟨rfl, x2⟩; have c16 := out_f x2 nD (by omega) q cD HR.out.2.2 R HR.out.1 HR.out.2.1; clear x2 c9)
  go_upto_region 5 with (go_at_call 16; refine c16.mono ?_; rintro _ w5 ⟨⟨v3, rfl⟩, x3⟩; have H5 : Hid (GrF w s p b m P (1 + x) w5) := x3; clear x3 c16)
  obtain ⟨_, _, hPb, B, L, F, lf, fr, c, T, hc⟩ := H5.out
  have HT : Hid (SpT w5 s p b m 60 58 P 59 (1 + x) B L F lf fr c ∧ ∀ i, i < P → c i = 214) := ⟨T, hc⟩
  have c19 := pages_sp T.sp (by omega)
  rw [HP.out] at c19
  obtain ⟨n, hn⟩ : ∃ n : Nat, (n : Int) = 4096 * (P : Int) := ⟨4096 * P, by omega⟩
  clear T hc
  go_upto_region 6 with (go_at_call 19; refine c19.mono ?_; rintro _ w10 ⟨rfl, e10⟩; obtain rfl : w5 = w10 := e10.symm)
  rw [← hn]
  have HNB : Hid (n = P * 4096 ∧ 1 ≤ n) := ⟨by omega, by omega⟩
  have hnb : 1 ≤ n ∧ n ≤ 40960 := by omega
  clear hn c19
  obtain ⟨RB, hRB⟩ : ∃ RB : List Value, RB = (List.range n).map fun j => .int .u8 (btU B fr (0 + j)) := ⟨_, rfl⟩
  have HB : Hid (RB = (List.range n).map fun j => .int .u8 (btU B fr (0 + j))) := hRB
  clear hRB
  have c13 := in_ownF HT.out.1 HT.out.2 HNB.out HB.out
  go_upto_region 7 with (go_at_call 13; refine c13.mono ?_; rintro _ w6 ⟨b6, g1, rfl, o6⟩; have H6 : Hid (Below w5.heap.size w5 w6 ∧ w6.ownsRow w5.heap.size 5 1 (.slice (some ⟨g1, 0, .none⟩) n n) n RB) := ⟨b6, o6⟩; clear b6 o6 c13)
  have c13 := in_ownF (HT.out.1.below H6.out.1) HT.out.2 HNB.out HB.out
  go_upto_region 8 with (go_at_call 13; refine c13.mono ?_; rintro _ w7 ⟨b7, g2, rfl, o7⟩; have H7 : Hid (Below w6.heap.size w6 w7 ∧ w7.ownsRow w6.heap.size 5 1 (.slice (some ⟨g2, 0, .none⟩) n n) n RB) := ⟨b7, o7⟩; clear b7 o7 c13)
  have c20 := copyB_any (w := w7) (n := n) (ca := n) (R := fun j => btU B fr (0 + j)) (by omega) (own_seeR (by rw [← HB.out]; exact ownF_bel H6.out.2 H7.out.1))
  unfold CopyRB at c20
  rw [← HB.out] at c20
  go_upto_region 9 with (go_at_call 20; refine c20.mono ?_; rintro _ w8 ⟨q3, c3, rfl, o8, b8⟩; have H8 : Hid (Below w7.heap.size w7 w8 ∧ w8.ownsRow w7.heap.size 5 1 (.slice q3 n c3) n RB) := ⟨b8, o8⟩; clear b8 o8 c20)
  have hnd : nodesF F + 1 ≤ 12 := by
    have h9 := HT.out.1.tab.nodes HT.out.1.pm
    have := ndP_fewF hPb.2
    omega
  have B8 : Hid (Below w5.heap.size w5 w8) := (H6.out.1.trans (H7.out.1.mono H6.out.1.size)).trans (H8.out.1.mono (Nat.le_trans H6.out.1.size H7.out.1.size))
  have c21 := slook_any (HT.out.1.below B8.out) hnd
  unfold LkP at c21
  obtain ⟨nn, hnn⟩ : ∃ nn, nn = nodesF F + 1 := ⟨_, rfl⟩
  rw [← hnn] at c21
  have hnnb : 1 ≤ nn ∧ nn ≤ 12 := by omega
  have HNN : Hid (nn = nodesF F + 1) := hnn
  obtain ⟨l, hl⟩ : ∃ l, l = lkP fr c P := ⟨_, rfl⟩
  have HL : Hid (l = lkP fr c P) := hl
  have hll : l.length = P := by rw [hl, lkP_len]
  rw [← hl] at c21
  clear hnn hl
  go_upto_region 10 with (go_at_call 21; refine c21.mono ?_; rintro _ w9 ⟨g4, c4, ys, q5, c5, rfl, ⟨y1, y2⟩, o9, o9', b9⟩; have H9 : Hid (Below w8.heap.size w8 w9 ∧ (ys.Perm (ndl 58 (evs F lf 0)) ∧ ys.Pairwise (· ≤ ·)) ∧ w9.ownsRow w8.heap.size 23 1 (.slice (some ⟨g4, 0, .none⟩) nn c4) nn (wv ys) ∧ w9.ownsRow w8.heap.size 99 3 (.slice q5 P c5) P (pcs l)) := ⟨b9, ⟨y1, y2⟩, o9, o9'⟩; clear y1 y2 o9 o9' b9 c21)
  have B9 : Hid (Below w5.heap.size w5 w9) := B8.out.trans (H9.out.1.mono B8.out.size)
  have c21 := slook_any (HT.out.1.below B9.out) hnd
  unfold LkP at c21
  rw [← HNN.out, ← HL.out] at c21
  go_upto_region 11 with (go_at_call 21; refine c21.mono ?_; rintro _ w10 ⟨g6, c6, ys2, q7, c7, rfl, ⟨y1, y2⟩, o9, o9', b9⟩; obtain rfl : ys = ys2 := sorted_same H9.out.2.1.1 H9.out.2.1.2 y1 y2; have H10 : Hid (Below w9.heap.size w9 w10 ∧ w10.ownsRow w9.heap.size 23 1 (.slice (some ⟨g6, 0, .none⟩) nn c6) nn (wv ys) ∧ w10.ownsRow w9.heap.size 99 3 (.slice q7 P c7) P (pcs l)) := ⟨b9, o9, o9'⟩; clear y1 y2 o9 o9' b9 c21)
  have hyl : ys.length = nn := by have := H10.out.2.1.1; rw [wv_len] at this; omega
  have c22 := copyW_any (w := w10) (n := nn) (ca := c4) (R := lz ys) (by omega) ((own_lz hyl H9.out.2.2.1).below H10.out.1)
  unfold CopyRW at c22
  have hwv : (List.range nn).map (fun i => Value.int .u64 (lz ys i)) = wv ys := by
    rw [← hyl]
    unfold wv lz
    apply List.ext_getElem?
    intro i
    by_cases hi : i < ys.length
    · simp [List.getElem?_range hi, hi]
    · rw [List.getElem?_eq_none (by simp; omega), List.getElem?_eq_none (by simp; omega)]
  rw [hwv] at c22
  go_upto_region 12 with (go_at_call 22; refine c22.mono ?_; rintro _ w11 ⟨q8, c8, rfl, o11, b11⟩; have H11 : Hid (Below w10.heap.size w10 w11 ∧ w11.ownsRow w10.heap.size 23 1 (.slice q8 nn c8) nn (wv ys)) := ⟨b11, o11⟩; clear o11 b11 c22)
  have c23 := pcopied_any (w := w11) (l := l) (ca := c5) hll (by omega) (((own_seeP hll H9.out.2.2.2).below H10.out.1).below H11.out.1)
  unfold CpyR at c23
  rw [hll] at c23
  go_upto_region 13 with (go_at_call 23; refine c23.mono ?_; rintro _ w12 ⟨q9, c9, rfl, o12, b12⟩; have H12 : Hid (Below w11.heap.size w11 w12 ∧ w12.ownsRow w11.heap.size 99 3 (.slice q9 P c9) P (pcs l)) := ⟨b12, o12⟩; clear o12 b12 c23)
  obtain ⟨g3, rfl⟩ : ∃ g, q3 = some ⟨g, 0, .none⟩ := by
    obtain ⟨g, cap, e⟩ := own_slP (H8.out.2) (by omega)
    injection e with e1
    exact ⟨g, e1⟩
  obtain ⟨g5, rfl⟩ : ∃ g, q5 = some ⟨g, 0, .none⟩ := by
    obtain ⟨g, cap, e⟩ := own_slP (H9.out.2.2.2) (by omega)
    injection e with e1
    exact ⟨g, e1⟩
  obtain ⟨g7, rfl⟩ : ∃ g, q7 = some ⟨g, 0, .none⟩ := by
    obtain ⟨g, cap, e⟩ := own_slP (H10.out.2.2) (by omega)
    injection e with e1
    exact ⟨g, e1⟩
  obtain ⟨g8, rfl⟩ : ∃ g, q8 = some ⟨g, 0, .none⟩ := by
    obtain ⟨g, cap, e⟩ := own_slP (H11.out.2) (by omega)
    injection e with e1
    exact ⟨g, e1⟩
  obtain ⟨g9, rfl⟩ : ∃ g, q9 = some ⟨g, 0, .none⟩ := by
    obtain ⟨g, cap, e⟩ := own_slP (H12.out.2) (by omega)
    injection e with e1
    exact ⟨g, e1⟩
  have B12 : Hid (Below w5.heap.size w5 w12 ∧ Nine w5.heap.size w12 n nn P RB ys l g1 g2 g3 c3 g4 c4 g5 c5 g6 c6 g7 c7 g8 c8 g9 c9) := by
    have b11 := H12.out.1
    have b10 := H11.out.1.trans (b11.mono H11.out.1.size)
    have b9 := H10.out.1.trans (b10.mono H10.out.1.size)
    have b8 := H9.out.1.trans (b9.mono H9.out.1.size)
    have b7 := H8.out.1.trans (b8.mono H8.out.1.size)
    have b6 := H7.out.1.trans (b7.mono H7.out.1.size)
    have b5 := H6.out.1.trans (b6.mono H6.out.1.size)
    have l1 := own_lt H6.out.2
    have l2 := own_lt H7.out.2
    have l3 := own_lt H8.out.2
    have l4 := own_lt H9.out.2.2.1
    have l5 := own_lt H9.out.2.2.2
    have l6 := own_lt H10.out.2.1
    have l7 := own_lt H10.out.2.2
    have l8 := own_lt H11.out.2
    have l9 := own_lt H12.out.2
    have n45 : g4 ≠ g5 := fun e => by
      subst e
      exact absurd (own_ty H9.out.2.2.1 H9.out.2.2.2 hnnb.1 hPb.1) (by decide)
    have n67 : g6 ≠ g7 := fun e => by
      subst e
      exact absurd (own_ty H10.out.2.1 H10.out.2.2 hnnb.1 hPb.1) (by decide)
    exact ⟨b5, own_zero (ownF_bel H6.out.2 b6), own_zero (ownF_bel H7.out.2 b7), own_zero (ownF_bel H8.out.2 b8), own_zero (ownF_bel H9.out.2.2.1 b9), own_zero (ownF_bel H9.out.2.2.2 b9), own_zero (ownF_bel H10.out.2.1 b10), own_zero (ownF_bel H10.out.2.2 b10), own_zero (ownF_bel H11.out.2 b11), own_zero H12.out.2, ⟨l1.1, by omega, by omega, by omega, by omega, by omega, by omega, by omega, by omega, by omega, by omega, by omega, n45, n67⟩⟩
  have HYS : Hid (ys.Perm (ndl 58 (evs F lf 0)) ∧ ys.Pairwise (· ≤ ·)) := H9.out.2.1
  clear H6 H7 H8 H9 H10 H11 H12 B8 B9 hwv
  have c24 := root_sp (HT.out.1.sp.below B12.out.1)
  have hP0 : ((P : Int) == 0) = false := by simp; omega
  have hP1 : ¬ (P : Int) = 0 := by omega
  have c17 := bytes_same (w := w12) (n := n) (ca := n) (cb := c3) (R := fun j => btU B fr (0 + j)) (by omega) (own_seeR (by rw [← HB.out]; exact B12.out.2.x2)) (own_seeR (by rw [← HB.out]; exact B12.out.2.x3))
  go_upto_region 14 with (go_at_call 24; refine c24.mono ?_; rintro _ w13 ⟨rfl, e13⟩; obtain rfl : w12 = w13 := e13.symm)
  go_upto_region 16 with first | (go_at_call 17; refine c17.mono ?_; rintro _ w13 ⟨rfl, b13⟩; have c25 := words_same (ca := c6) (cb := c8) (by omega) (own_lz hyl (B12.out.2.below b13).n2) (own_lz hyl (B12.out.2.below b13).n3); have B13 : Hid (Below w12.heap.size w12 w13) := b13; clear b13 c17) | (go_at_call 25; refine c25.mono ?_; rintro _ w14 ⟨rfl, b14⟩; have B14 : Hid (Below w12.heap.size w12 w14) := B13.out.trans (b14.mono B13.out.size); have c26 := psame_any (ca := c7) (cb := c9) hll (by omega) (own_seeP hll (B12.out.2.below B14.out).p2) (own_seeP hll (B12.out.2.below B14.out).p3); clear b14 c25) | (go_at_call 26; refine c26.mono ?_; rintro _ w15 ⟨rfl, b15⟩; have B15 : Hid (Below w12.heap.size w12 w15) := B14.out.trans (b15.mono B14.out.size); clear b15 c26)
  have N15 : Hid (Below w5.heap.size w5 w15 ∧ Nine w5.heap.size w15 n nn P RB ys l g1 g2 g3 c3 g4 c4 g5 c5 g6 c6 g7 c7 g8 c8 g9 c9) := ⟨B12.out.1.trans (B15.out.mono B12.out.1.size), B12.out.2.below B15.out⟩
  clear B12 B13 B14 B15
  have c27 := free_two (cl := 2) N15.out.2.x1 N15.out.2.x2 (by have := N15.out.2.ord; omega) (by omega)
  go_upto_region 18 with first | (go_at_call 27; refine c27.mono ?_; rintro _ w16 ⟨rfl, t16⟩; have H16 : Hid (Tch g1 g2 g2 g2 w15 w16) := t16; have c28 := freeW_two (W := w16) (n := nn) (cl := 2) (ownF_blk N15.out.2.n1 (t16.block g4 (own_lt N15.out.2.n1).2.1 (by have := N15.out.2.ord; omega) (by have := N15.out.2.ord; omega) (by have := N15.out.2.ord; omega) (by have := N15.out.2.ord; omega))) (ownF_blk N15.out.2.n2 (t16.block g6 (own_lt N15.out.2.n2).2.1 (by have := N15.out.2.ord; omega) (by have := N15.out.2.ord; omega) (by have := N15.out.2.ord; omega) (by have := N15.out.2.ord; omega))) (by have := N15.out.2.ord; omega) (by omega); clear t16 c27) | (go_at_call 28; refine c28.mono ?_; rintro _ w17 ⟨rfl, t17⟩; have H17 : Hid (Tch g4 g6 g6 g6 w16 w17) := t17; have c29 := plone_any (w := w17) (n := P) (ca := c5) (cb := c7) (xa := pcs l) (xb := pcs l) (two_rows N15.out.2 H16.out H17.out) (by have := N15.out.2.ord; omega) (by omega); clear t17 c28) | (go_at_call 29; refine c29.mono ?_; rintro _ w18 ⟨rfl, t18⟩; have H18 : Hid (Tch g5 g7 g7 g7 w17 w18) := t18; clear t18 c29)
  have N18 : Hid (Below w5.heap.size w5 w18 ∧ w18.ownsRow 0 5 1 (.slice (some ⟨g3, 0, .none⟩) n c3) n RB ∧ w18.ownsRow 0 23 1 (.slice (some ⟨g8, 0, .none⟩) nn c8) nn (wv ys) ∧ w18.ownsRow 0 99 3 (.slice (some ⟨g9, 0, .none⟩) P c9) P (pcs l)) := three_rows N15.out.1 N15.out.2 H16.out H17.out H18.out
  clear N15 H16 H17 H18
  have c21 := slook_any (HT.out.1.below N18.out.1) hnd
  unfold LkP at c21
  rw [← HNN.out, ← HL.out] at c21
  go_upto_region 19 with (go_at_call 21; refine c21.mono ?_; rintro _ w19 ⟨g10, c10, ys2, q11, c11, rfl, ⟨y1, y2⟩, o9, o9', b19⟩; obtain rfl : ys = ys2 := sorted_same HYS.out.1 HYS.out.2 y1 y2; have H19 : Hid (Below w18.heap.size w18 w19 ∧ See w19 .u64 (some ⟨g10, 0, .none⟩) nn (lz ys) ∧ SeeP w19 q11 l) := ⟨b19, own_lz hyl o9, own_seeP hll o9'⟩; clear y1 y2 o9 o9' b19 c21)
  have B19 : Hid (Below w5.heap.size w5 w19) := N18.out.1.trans (H19.out.1.mono N18.out.1.size)
  have c13 := in_ownF (HT.out.1.below B19.out) HT.out.2 HNB.out HB.out
  go_upto_region 20 with (go_at_call 13; refine c13.mono ?_; rintro _ w20 ⟨b20, g12, rfl, o20⟩; have H20 : Hid (Below w19.heap.size w19 w20 ∧ w20.ownsRow w19.heap.size 5 1 (.slice (some ⟨g12, 0, .none⟩) n n) n RB) := ⟨b20, o20⟩; clear b20 o20 c13)
  have B20 : Hid (Below w18.heap.size w18 w20) := H19.out.1.trans (H20.out.1.mono H19.out.1.size)
  have c24 := root_sp (HT.out.1.sp.below (N18.out.1.trans (B20.out.mono N18.out.1.size)))
  have c17 := bytes_same (w := w20) (n := n) (ca := n) (cb := c3) (R := fun j => btU B fr (0 + j)) (by omega) (own_seeR (by rw [← HB.out]; exact H20.out.2)) (own_seeR (by rw [← HB.out]; exact ownF_bel N18.out.2.1 B20.out))
  go_wp2_with first | (go_at_call 24; refine c24.mono ?_; rintro _ w21 ⟨rfl, e21⟩; obtain rfl : w20 = w21 := e21.symm) | (go_at_call 17; refine c17.mono ?_; rintro _ w21 ⟨rfl, b21⟩; have B21 : Hid (Below w18.heap.size w18 w21) := B20.out.trans (b21.mono B20.out.size); have c25 := words_same (ca := c10) (cb := c8) (by omega) (((H19.out.2.1).below H20.out.1).below b21) (own_lz hyl (ownF_bel N18.out.2.2.1 B21.out)); have P21 : Hid (SeeP w21 q11 l) := ((H19.out.2.2).below H20.out.1).below b21; clear b21 c17) | (go_at_call 25; refine c25.mono ?_; rintro _ w22 ⟨rfl, b22⟩; have B22 : Hid (Below w18.heap.size w18 w22) := B21.out.trans (b22.mono B21.out.size); have c26 := psame_any (ca := c11) (cb := c9) hll (by omega) (P21.out.below b22) (own_seeP hll (ownF_bel N18.out.2.2.2 B22.out)); clear b22 c25) | (go_at_call 26; refine c26.mono ?_; rintro _ w23 ⟨rfl, b23⟩; have B23 : Hid (Below w18.heap.size w18 w23) := B22.out.trans (b23.mono B22.out.size); clear b23 c26)
  go_ret
  have z5 := H5.out.1
  have z18 := N18.out.1
  exact ⟨rfl, (z5.trans (z18.mono z5.size)).trans (B23.out.mono (Nat.le_trans z5.size z18.size))⟩
end Go.Proofs.YtblmkkhiojbcjaaGreat
