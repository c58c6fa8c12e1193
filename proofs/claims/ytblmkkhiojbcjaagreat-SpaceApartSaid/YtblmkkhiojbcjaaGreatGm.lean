import Derived.Test.YtblmkkhiojbcjaaGreatGl
namespace Go.Proofs.YtblmkkhiojbcjaaGreat
open Go Go.RowKit Fz
set_option linter.unusedVariables false
set_option linter.unusedSimpArgs false
section
variable {w : World} {s p b m N r P ft : Nat} {size : Int} {B : Nat → Int} {L : List Nat} {F : Nat → Option Nat} {lf : Nat → Nat → Int} {fr : Nat → Nat} {c : Nat → Int}
/-- A row's numbers as a function. -/
def lz (Z : List Int) (i : Nat) : Int := Z.getD i 0
theorem own_lz {W : World} {Z : List Int} {q : Option Addr} {cap base n : Nat} (hn : Z.length = n) (h : W.ownsRow base 23 1 (.slice q n cap) n (wv Z)) : See W .u64 q n (lz Z) := by
  by_cases h0 : n = 0
  · exact .inl h0
  · obtain ⟨g, e, _, hg⟩ := row_shape h (by omega)
    subst e
    refine .inr ⟨g, 0, rfl, hg, fun i hi => ?_⟩
    rw [Nat.zero_add, h.cellAt i (by omega)]
    refine wv_get ?_
    unfold lz
    rw [List.getD_eq_getElem?_getD, List.getElem?_eq_getElem (by omega)]
    rfl
theorem lz_mem {Z : List Int} {i : Nat} (h : i < Z.length) : lz Z i ∈ Z := by
  unfold lz
  rw [List.getD_eq_getElem?_getD, List.getElem?_eq_getElem h]
  exact List.getElem_mem h
theorem lz_ne {Z : List Int} (hd : Z.Nodup) {i k : Nat} (h : i < Z.length) (hk : k < i) : lz Z k ≠ lz Z i := by
  unfold lz
  rw [List.getD_eq_getElem?_getD, List.getD_eq_getElem?_getD, List.getElem?_eq_getElem h, List.getElem?_eq_getElem (by omega)]
  exact List.pairwise_iff_getElem.1 hd k i (by omega) h hk
/-- All frames of a space. -/
structure FrZ (N : Nat) (L : List Nat) (F : Nat → Option Nat) (fr : Nat → Nat) (P : Nat) (Z : List Int) : Prop where
  nd : Z.Nodup
  mem : ∀ a ∈ Z, ∃ f, a = ad f ∧ 1 ≤ f ∧ f < N ∧ f ∉ L ∧ ((∃ x, F x = some f) ∨ ∃ i, i < P ∧ f = fr i)
theorem SpL.frZ (h : SpL N r ft B L F lf fr c (List.range P)) (hN : N ≤ 4096) {ys : List Int} (hp : ys.Perm (ndl r (evs F lf 0))) : FrZ N L F fr P (ys ++ frL fr P) := by
  have hn : ∀ a ∈ ys, ∃ x f, F x = some f ∧ a = ad f := fun a ha => ndl_mem h.pt hN h.rt (hp.mem_iff.1 ha)
  refine ⟨?_, fun a ha => ?_⟩
  · rw [List.nodup_append]
    refine ⟨hp.nodup_iff.2 (ndl_nodup h.pt hN h.rt), ?_, fun a ha b hb e => ?_⟩
    · unfold frL List.Nodup
      rw [List.pairwise_map]
      refine List.Pairwise.imp_of_mem (R := fun a b => a ≠ b) (fun {a b} ha hb hab e => hab (h.inj a ha b hb (ad_inj e))) List.nodup_range
    · obtain ⟨x, f, h1, h2⟩ := hn a ha
      obtain ⟨i, hi, h3⟩ := List.mem_map.1 hb
      have : f = fr i := ad_inj (by rw [← h2, h3, e])
      exact (h.pg i hi).2.2.2.1 x (by rw [← this]; exact h1)
  · rcases List.mem_append.1 ha with h1 | h1
    · obtain ⟨x, f, h2, h3⟩ := hn a h1
      have := h.pt.held x f h2
      exact ⟨f, h3, this.1, this.2.1, this.2.2, .inl ⟨x, h2⟩⟩
    · obtain ⟨i, hi, h2⟩ := List.mem_map.1 h1
      have := h.pg i hi
      exact ⟨fr i, h2.symm, this.1, this.2.1, this.2.2.1, .inr ⟨i, List.mem_range.1 hi, rfl⟩⟩
theorem SpL.apt (h : SpL N r ft B L F lf fr c (List.range P)) {Z : List Int} (hz : FrZ N L F fr P Z) : Apt N L Z.length 2 (lz Z) (lz [ad ft, 2147483648]) := by
  refine ⟨fun i hi => ?_, fun i k hi hk => lz_ne hz.nd hi hk, fun i k hi hk => ?_⟩
  · obtain ⟨f, h1, _, h2, h3, _⟩ := hz.mem _ (lz_mem hi)
    exact ⟨f, h1, h2, h3⟩
  · obtain ⟨f, h1, h0, h2, h3, h4⟩ := hz.mem _ (lz_mem hi)
    rw [h1]
    obtain rfl | rfl : k = 0 ∨ k = 1 := by omega
    · show ad ft ≠ ad f
      intro e
      have := ad_inj e
      rcases h4 with ⟨x, hx⟩ | ⟨j, hj, e2⟩
      · exact h.ftb.2.2.2 x (by rw [this]; exact hx)
      · exact (h.pg j (List.mem_range.2 hj)).2.2.2.2 (by rw [← e2, this])
    · show (2147483648 : Int) ≠ ad f
      unfold ad
      omega
theorem SpL.leafT (h : SpL N r ft B L F lf fr c (List.range P)) : lf (y0 274877898752) (i0 274877898752) = toP (ad ft) 198 ∧ lf (y0 274877902848) (i0 274877902848) = toP (ad 0) 74 :=
  ⟨h.tl.leaf _ (mem_pgL.2 (.inl rfl)), h.tl.leaf _ (mem_pgL.2 (.inr (.inl rfl)))⟩
theorem entry_full (h : Ram w p b m N B L) (hP : PT N L B F lf) (hr : F 0 = some r) (va x : Int) (hv : 0 ≤ va ∧ va < 274877906944) (hx : lf (y0 va) (i0 va) = x) (hne : x ≠ 0) : Calls Tryz.prog 67 #[.pointer (some ⟨p, 0, .none⟩), .int .u64 (ad r), .int .u64 va] w fun e w' => e = .returned (.tuple #[.int .u64 x, .int .i64 0, .bool true]) ∧ Below w.heap.size w w' := by
  have hb := hP.held 0 r hr
  have hN := h.mem.n2
  have c := entry_any h (ad r) va (by unfold ad; omega) (by omega)
  obtain ⟨h1, h2, h3⟩ := look_full hP hN hr va (by rw [hx]; exact hne)
  have hf : finds (look N L B (ad r) va) va = true := by
    unfold finds
    rw [h1, ext_low va hv]
    simp
  rw [hf, h2, h3, hx] at c
  exact c
theorem root_sp {root : Int} (h : Sp w s p root size) : Calls Tryz.prog 24 #[.pointer (some ⟨s, 0, .none⟩)] w fun e w' => e = .returned (.int .u64 root) ∧ w' = w := by
  have c43 := made_sp h
  have k1 := h.c1
  go_enter Tryz.func24, Tryz.ntmps24
  go_wp2_with (go_at_call 43; refine c43.mono ?_; rintro _ w1 ⟨rfl, e1⟩; obtain rfl : w = w1 := e1.symm)
  go_ret
  exact ⟨rfl, rfl⟩
theorem bits22 (f : Nat) (hf : f < 4096) : bits .and .u64 (toP (ad f) 214) 30 = 22 := by
  have hb := ad_b f 4096 hf (by omega)
  have hv := toP_val (ad f) 214 ⟨hb.1, hb.2.1⟩ (by omega) (by omega)
  have h1 : bits .and .u64 (toP (ad f) 214) ((30 : Nat) : Int) = (((toP (ad f) 214 % 1024).toNat &&& 30 : Nat) : Int) := and_low _ (by rw [hv]; unfold ad; omega) 30 (by omega)
  have h2 : (toP (ad f) 214 % 1024).toNat = 215 := by rw [hv]; unfold ad; omega
  rw [h2] at h1
  exact (show bits .and .u64 (toP (ad f) 214) 30 = _ from h1).trans (by decide)
theorem two_row (W : World) (a b : Int) : See (W.alloc (.cells #[.int .u64 a, .int .u64 b] 23)) .u64 (some ⟨W.heap.size, 0, .none⟩) 2 (lz [a, b]) := by
  refine .inr ⟨W.heap.size, 0, rfl, by simp, fun i hi => ?_⟩
  obtain rfl | rfl : i = 0 ∨ i = 1 := by omega
  · simp [lz]
  · simp [lz]
set_option maxRecDepth 10000 in
set_option maxHeartbeats 4000000 in
theorem whole_any (h : SpT w s p b m N r P ft size B L F lf fr c) (hn : nodesF F + 1 ≤ 12) (hc : ∀ i, i < P → c i = 214) (hK : L.length + nodesF F + P + 3 = N) :
    Calls Tryz.prog 33 #[.pointer (some ⟨p, 0, .none⟩), .pointer (some ⟨s, 0, .none⟩), .int .u64 (ad ft), .int .i64 N] w fun e w' => e = .returned (.bool true) ∧ Below w.heap.size w w' := by
  have c36 := frames_sp h hn
  unfold FmP at c36
  have hN := h.ram.mem.n2
  have hpm := h.pm
  have H0 : Hid (SpT w s p b m N r P ft size B L F lf fr c ∧ (∀ i, i < P → c i = 214) ∧ nodesF F + 1 ≤ 12 ∧ (ndl r (evs F lf 0)).length = nodesF F + 1) := ⟨h, hc, hn, h.ndlen⟩
  have hcnt : ((L.length : Nat) : Int) = (N : Int) - 2 - ((nodesF F + 1 + P : Nat) : Int) := by omega
  clear h hc
  generalize hLL : L.length = LL at *
  generalize hnn : nodesF F + 1 = n at *
  have HLL : Hid (L.length = LL ∧ nodesF F + 1 = n) := ⟨hLL, hnn⟩
  clear hLL hnn hK
  obtain ⟨nP, hnP⟩ : ∃ nP, nP = n + P := ⟨_, rfl⟩
  rw [← hnP] at c36 hcnt
  have hb9 : nP ≤ 5000 := by omega
  have HNP : Hid (nP = n + P) := hnP
  clear hnP
  go_enter Tryz.func33, Tryz.ntmps33
  go_upto_region 2 with (go_at_call 36; refine c36.mono ?_; rintro _ w3 ⟨ys, q, cq, rfl, ⟨y1, y2⟩, o1, b3⟩; have H3 : Hid (ys.Perm (ndl r (evs F lf 0)) ∧ w3.ownsRow w.heap.size 23 1 (.slice q nP cq) nP (wv (ys ++ frL fr P)) ∧ Below w.heap.size w w3) := ⟨y1, o1, b3⟩; clear y1 y2 o1 b3 c36)
  have hZl : (ys ++ frL fr P).length = nP := by rw [List.length_append, frL_len, H3.out.1.length_eq, H0.out.2.2.2, HNP.out]
  obtain ⟨w4, hw4⟩ : ∃ w4, w4 = w3.alloc (.cells #[.int .u64 (ad ft), .int .u64 2147483648] 23) := ⟨_, rfl⟩
  have b4 : Below w3.heap.size w3 w4 := by rw [hw4]; exact below1 _ _
  have S4 := (H0.out.1.below H3.out.2.2).below b4
  have c37 := apart_any S4.ram (ca := cq) (c2 := 2) ((own_lz hZl H3.out.2.1).below b4) (q2 := some ⟨w3.heap.size, 0, .none⟩) (l2 := lz [ad ft, 2147483648]) (n2 := 2) (by rw [hw4]; exact two_row w3 _ _) ⟨by omega, by omega⟩ (by rw [← hZl]; exact S4.tab.apt (S4.tab.frZ hN H3.out.1))
  have H4 : Hid (Below w.heap.size w w4) := H3.out.2.2.trans (b4.mono H3.out.2.2.size)
  rw [hw4] at c37 H4
  clear b4 S4 hw4
  go_cut [49] (fun v wc => v = .bool false ∧ Hid (Below w.heap.size w wc))
  case first =>
    go_wp2_with first | (go_at_call 37; refine c37.mono ?_; rintro _ w5 ⟨rfl, b5⟩; have H5 : Hid (Below w.heap.size w w5) := H4.out.trans (b5.mono H4.out.size); have c30 := count_ram (H0.out.1.below H5.out).ram; rw [HLL.out.1] at c30; clear b5 c37) | (go_at_call 30; refine c30.mono ?_; rintro _ w6 ⟨rfl, k6, rfl⟩)
    go_meet
    case rel => exact ⟨rfl, H5.out.trans (blw_drewN _ _ k6)⟩
  case rest =>
    obtain ⟨rfl, HC⟩ := hcut
    have Sc := H0.out.1.below HC.out
    have c21 := slook_any Sc (by rw [HLL.out.2]; exact hn)
    unfold LkP at c21
    rw [HLL.out.2] at c21
    have HSc : Hid (SpT wc s p b m N r P ft size B L F lf fr c) := Sc
    clear Sc c37 H4
    go_upto_region 5 with (go_at_call 21; refine c21.mono ?_; rintro _ w7 ⟨g7, cp7, ys7, q7, cq7, rfl, y7, o7, o8, b7⟩; have H7 : Hid (w7.ownsRow wc.heap.size 99 3 (.slice q7 P cq7) P (pcs (lkP fr c P)) ∧ Below w.heap.size w w7 ∧ SpT w7 s p b m N r P ft size B L F lf fr c) := ⟨o8, HC.out.trans (b7.mono HC.out.size), HSc.out.below b7⟩; clear y7 o7 o8 b7 c21)
    go_wp2_with fail
    go_loopw [13] (fun k wr => ∃ i : Nat, i ≤ P ∧ k = .int .i64 i ∧ Hid (Below w7.heap.size w7 wr)) (fun k _ => (P - intOf k).toNat)
    case atStart => exact ⟨0, by omega, rfl, Below.refl _ _⟩
    case round =>
      obtain ⟨i, hi, rfl, HB⟩ := hrel
      have Sr := H7.out.2.2.below HB.out
      have c24 := root_sp Sr.sp
      by_cases hiP : i < P
      · have hlt2 : (i : Int) < P := by omega
        have hb1 : ¬ (P : Int) ≤ i := by omega
        have hb2 : ¬ P ≤ i := by omega
        have hci := H0.out.2.1 i hiP
        have hfi := Sr.tab.pg i (List.mem_range.2 hiP)
        have c66 := Sr.su.tra (4096 * i) 1 (by omega) (by omega)
        have e1 : 4096 * i / 4096 = i := by omega
        have e2 : 4096 * i % 4096 = 0 := by omega
        have e3 : hs 214 (wnt 1) = true := by decide
        unfold accU at c66
        rw [e1, e2, hci, e3] at c66
        simp only [if_true] at c66
        rw [show (1 : Int) + ((1 : Nat) : Int) = 2 from rfl, show ad (fr i) + ((0 : Nat) : Int) = ad (fr i) by omega] at c66
        obtain ⟨gq, capq, hq⟩ : ∃ gq capq, Value.slice q7 P cq7 = .slice (some ⟨gq, 0, .none⟩) P capq := by
          have h9 := H7.out.1
          rcases h9.2 with ⟨_, h0⟩ | ⟨g9, c9, cur, hv, _⟩
          · omega
          · exact ⟨g9, c9, hv⟩
        injection hq with hq1 hq2 hq3
        subst hq1
        clear hq2 hq3
        have hgq := own_lt H7.out.1
        have hge : (lkP fr c P)[i]? = some ((i : Int), ad (fr i), bits .and .u64 (toP (ad (fr i)) (c i)) 30) := by unfold lkP; rw [List.getElem?_map, List.getElem?_range hiP]; rfl
        have hcells := pcs_get _ _ _ hge
        rw [hci] at hcells
        simp only [bits22 (fr i) (by omega)] at hcells
        have kz : ∀ W, Below wr.heap.size wr W → W.cell? ⟨gq, i * 3 + 1, .none⟩ = some (.int .u64 (ad (fr i))) ∧ W.cell? ⟨gq, i * 3 + 2, .none⟩ = some (.int .u64 22) := fun W hW => by
          have hlt := Nat.lt_of_lt_of_le hgq.2.1 HB.out.size
          constructor
          · rw [hW.cell (p := ⟨gq, i * 3 + 1, .none⟩) hlt, HB.out.cell (p := ⟨gq, i * 3 + 1, .none⟩) hgq.2.1, H7.out.1.cellAt (i * 3 + 1) (by omega)]
            exact hcells.2.1
          · rw [hW.cell (p := ⟨gq, i * 3 + 2, .none⟩) hlt, HB.out.cell (p := ⟨gq, i * 3 + 2, .none⟩) hgq.2.1, H7.out.1.cellAt (i * 3 + 2) (by omega)]
            exact hcells.2.2
        have HKZ : Hid (∀ W, Below wr.heap.size wr W → W.cell? ⟨gq, i * 3 + 1, .none⟩ = some (.int .u64 (ad (fr i))) ∧ W.cell? ⟨gq, i * 3 + 2, .none⟩ = some (.int .u64 22)) := kz
        have hwi : IntKind.i64.wrap (4096 * (i : Int)) = 4096 * i := by rw [IntKind.wrap_i64]; omega
        have hwu : IntKind.u64.wrap (4096 * (i : Int)) = 4096 * i := by rw [IntKind.wrap_u64]; omega
        have hba : bits .and .u64 22 18 = 18 := by decide
        clear Sr hge hcells kz hgq hci hfi e1 e2 e3
        generalize ad (fr i) = fi at *
        rw [show ((4096 * i : Nat) : Int) = 4096 * (i : Int) by omega] at c66
        go_wp2_with first | (go_at_call 24; refine c24.mono ?_; rintro _ w8 ⟨rfl, e8⟩; obtain rfl : wr = w8 := e8.symm) | (go_at_call 66; refine c66.mono ?_; rintro _ w9 ⟨rfl, b9⟩; obtain ⟨kp, kq⟩ := HKZ.out w9 b9; have H9 : Hid (Below wr.heap.size wr w9) := b9; clear b9 c66)
        exact ⟨⟨i + 1, by omega, by simp, HB.out.trans (H9.out.mono HB.out.size)⟩, by simp only [intOf]; omega⟩
      · have hlt2 : ¬ (i : Int) < P := by omega
        have HR : Hid (SpT wr s p b m N r P ft size B L F lf fr c ∧ Below w.heap.size w wr) := ⟨Sr, H7.out.2.1.trans (HB.out.mono H7.out.2.1.size)⟩
        have hT := Sr.tab.leafT
        have hft := Sr.tab.ftb
        have hfb := ad_b ft N hft.2.1 hN
        have hv1 := toP_val (ad ft) 198 ⟨hfb.1, hfb.2.1⟩ (by omega) (by omega)
        have hv2 := toP_val (ad 0) 74 ⟨by decide, by decide⟩ (by omega) (by omega)
        have ne1 : toP (ad ft) 198 ≠ 0 := by rw [hv1]; unfold ad; omega
        have ne2 : toP (ad 0) 74 ≠ 0 := by rw [hv2]; unfold ad; omega
        have sh1 : toP (ad ft) 198 / 1024 * 4096 = ad ft := by rw [hv1]; unfold ad; omega
        have sh2 : toP (ad 0) 74 / 1024 * 4096 = 2147483648 := by rw [hv2]; unfold ad; omega
        have b1 : 0 ≤ toP (ad ft) 198 ∧ toP (ad ft) 198 < 18014398509481984 := by rw [hv1]; unfold ad; omega
        have b2 : 0 ≤ toP (ad 0) 74 ∧ toP (ad 0) 74 < 18014398509481984 := by rw [hv2]; unfold ad; omega
        have c67a := entry_full Sr.ram Sr.tab.pt Sr.tab.rt 274877898752 _ (by omega) hT.1 ne1
        clear Sr
        go_upto_region 12 with first | (go_at_call 24; refine c24.mono ?_; rintro _ w8 ⟨rfl, e8⟩; obtain rfl : wr = w8 := e8.symm) | (go_at_call 67; refine c67a.mono ?_; rintro _ w9 ⟨rfl, b9⟩; have H9 : Hid (Below wr.heap.size wr w9) := b9; clear b9 c67a)
        have S9 := HR.out.1.below H9.out
        have c24b := root_sp S9.sp
        have c67b := entry_full S9.ram S9.tab.pt S9.tab.rt 274877902848 _ (by omega) hT.2 ne2
        have H9w : Hid (Below w.heap.size w w9) := HR.out.2.trans (H9.out.mono HR.out.2.size)
        have HS9 : Hid (SpT w9 s p b m N r P ft size B L F lf fr c) := S9
        clear S9
        go_upto_region 13 with first | (go_at_call 24; refine c24b.mono ?_; rintro _ w8 ⟨rfl, e8⟩; obtain rfl : w9 = w8 := e8.symm) | (go_at_call 67; refine c67b.mono ?_; rintro _ w10 ⟨rfl, b10⟩; have H10 : Hid (Below w9.heap.size w9 w10) := b10; clear b10 c67b)
        have S10 := HS9.out.below H10.out
        have c24c := root_sp S10.sp
        have c66a := tra_some S10.ram S10.tab.pt S10.tab.rt 274877898752 0 (ad ft) 198 1 (by omega) (by omega) (by omega) ⟨hfb.1, hfb.2.1, hfb.2.2⟩ (by omega) hT.1 ne1
        rw [show hs 198 (wnt 1) = false by decide, show (274877898752 : Int) + 0 = 274877898752 by omega, show (1 : Int) + ((1 : Nat) : Int) = 2 from rfl] at c66a
        have H10w : Hid (Below w.heap.size w w10) := H9w.out.trans (H10.out.mono H9w.out.size)
        have HS10 : Hid (SpT w10 s p b m N r P ft size B L F lf fr c) := S10
        clear S10
        go_upto_region 14 with first | (go_at_call 24; refine c24c.mono ?_; rintro _ w8 ⟨rfl, e8⟩; obtain rfl : w10 = w8 := e8.symm) | (go_at_call 66; refine c66a.mono ?_; rintro _ w11 ⟨rfl, b11⟩; have H11 : Hid (Below w10.heap.size w10 w11) := b11; clear b11 c66a)
        have S11 := HS10.out.below H11.out
        have c24d := root_sp S11.sp
        have c66b := tra_some S11.ram S11.tab.pt S11.tab.rt 274877902848 0 (ad 0) 74 0 (by omega) (by omega) (by omega) ⟨by decide, by decide, by decide⟩ (by omega) hT.2 ne2
        rw [show hs 74 (wnt 0) = false by decide, show (274877902848 : Int) + 0 = 274877902848 by omega, show (1 : Int) + ((0 : Nat) : Int) = 1 from rfl] at c66b
        have H11w : Hid (Below w.heap.size w w11) := H10w.out.trans (H11.out.mono H10w.out.size)
        clear S11 hT hv1 hv2 ne1 ne2
        generalize toP (ad ft) 198 = t1 at *
        generalize toP (ad 0) 74 = t2 at *
        generalize ad ft = af at *
        go_wp2_with first | (go_at_call 24; refine c24d.mono ?_; rintro _ w8 ⟨rfl, e8⟩; obtain rfl : w11 = w8 := e8.symm) | (go_at_call 66; refine c66b.mono ?_; rintro _ w12 ⟨rfl, b12⟩; have H12 : Hid (Below w.heap.size w w12) := H11w.out.trans (b12.mono H11w.out.size); clear b12 c66b)
        go_ret
        exact ⟨rfl, H12.out⟩
end
end Go.Proofs.YtblmkkhiojbcjaaGreat
