import Derived.Test.YtblpdnchphhcaaaDoorWk
namespace Go.Proofs.YtblpdnchphhcaaaDoor
open Go.RowKit
set_option linter.unusedVariables false
set_option linter.unusedSimpArgs false
theorem upt_add : ∀ (m : Nat) (rs : List Int) (n : Nat), upt m rs = m → (0 < m → rs[m - 1]? ≠ some 10) → upt (m + n) rs = m + upt n (rs.drop m)
  | 0, rs, n, _, _ => by simp
  | m + 1, [], n, h, _ => by simp [upt] at h
  | m + 1, y :: rs, n, h, h10 => by
    have e : m + 1 + n = (m + n) + 1 := by omega
    simp only [upt] at h
    rw [e]
    simp only [upt]
    by_cases h4 : y = 4
    · rw [if_pos h4] at h; omega
    · rw [if_neg h4] at h ⊢
      by_cases h1 : y = 10
      · rw [if_pos h1] at h
        obtain rfl : m = 0 := by omega
        exact absurd (by simp [h1]) (h10 (by omega))
      · rw [if_neg h1] at h ⊢
        have ih := upt_add m rs n (by omega) (fun h0 => by
          have := h10 (by omega)
          rw [show m + 1 - 1 = (m - 1) + 1 by omega, List.getElem?_cons_succ] at this
          exact this)
        rw [ih, List.drop_succ_cons]
        omega
theorem upt_head {m : Nat} {rs : List Int} (h : upt m rs = m) (h0 : 0 < m) : rs.head? ≠ some 4 := by
  match m, rs, h with
  | m + 1, [], h => simp
  | m + 1, y :: rs, h =>
    simp only [upt] at h
    split at h
    · omega
    · rename_i h4
      simpa using h4
section
variable {ops : Array Oper} {rest : List Oper} {o : Oper} {a : Act} {w : World} {Q : Exit → Act → World → Prop}
theorem wpl_wantG (hw : Region.wanted o (yielded ops a.tmps) = true) (h : ∀ K : Act → World → Prop, (∀ a' w', wpList Tryd.prog ops Q rest a' w' → K a' w') → o.wp Tryd.prog a w K Q) : wpList Tryd.prog ops Q (o :: rest) a w := by
  unfold wpList
  rw [if_pos hw]
  exact .inl (h _ (fun _ _ q => q))
theorem wpl_moveG (hw : Region.wanted o (yielded ops a.tmps) = true) (x : Operand) (ho : o.op = .move x) (h : wpList Tryd.prog ops Q rest (a.put o.dst (a.eval x)) w) : wpList Tryd.prog ops Q (o :: rest) a w := by
  refine wpl_wantG hw fun K hK => ?_
  unfold Oper.wp execOp
  simp only [ho, Sem.run_bind, Sem.run_pure, Result.andThen_ok]
  exact hK _ _ h
theorem wpl_appG (hw : Region.wanted o (yielded ops a.tmps) = true) (s x : Operand)
    (ho : o.op = .call { callee := .builtin .append, args := #[s, x], argTypes := #[22, 22] }) (base : Nat) (v : Value) (n : Nat) (xs : List Int) (hs : a.eval s = v) (p : Option Addr) (k c : Nat) (ys : List Int) (hx : a.eval x = .slice p k c)
    (hown : w.ownsRow base 5 1 v n (by8 xs)) (hB : Byt w p k c ys) (hbytes : n + k ≤ 140737488355328) (hbase : base ≤ w.heap.size)
    (h : ∀ v' w', w'.ownsRow base 5 1 v' (n + k) (by8 (xs ++ ys)) → w.grownBy w' v.ownBlock → (∀ g, v'.ownBlock = some g → v.ownBlock = some g ∨ w.heap.size ≤ g) → wpList Tryd.prog ops Q rest (a.put o.dst v') w') : wpList Tryd.prog ops Q (o :: rest) a w := by
  obtain ⟨v', w', hr, h2, h3, h4⟩ := app_byt hown hB hbytes hbase o.type
  refine wpl_wantG hw fun K hK => ?_
  unfold Oper.wp execOp
  simp only [ho, resolve, invoke, builtin, Sem.run_bind, Sem.run_pure, Result.andThen_ok, List.map_toArray, List.map_cons, List.map_nil, hs, hx, hr]
  exact hK _ _ (h v' w' h2 h3 h4)
end
theorem take_all {w : World} {b : Nat} {rs ls : List Int} (h : Con w b rs ls) (n : Int) :
    Calls Tryd.prog 14 #[.pointer (some ⟨b, 0, .none⟩), .int .i64 n] w (Ty w b (rs.drop (nxG rs n)) ls (rs.take (nxT rs n)) (decide (0 < rs.length))) := by
  by_cases h0 : 0 < rs.length
  · rw [decide_eq_true h0]
    exact take_any h h0 n
  · obtain rfl : rs = [] := List.eq_nil_of_length_eq_zero (by omega)
    refine (take_no h rfl n).mono ?_
    rintro e w' ⟨rfl, rfl⟩
    refine ⟨none, 0, by simp, ?_, by simpa using h, Trn.refl _ _⟩
    simp only [List.take_nil]
    exact World.ownsRow_nil _ _ _ _
set_option maxHeartbeats 8000000 in
set_option maxRecDepth 100000 in
theorem parts_any {w : World} {p q : Option Addr} {n c m d : Nat} {rs ls : List Int} (hR : Byt w p n c rs) (hr : ∀ x ∈ rs, 0 ≤ x ∧ x < 256) (hL : Byt w q m d ls) (hl : ∀ x ∈ ls, 0 ≤ x ∧ x < 256) (hn : n ≤ 140737488351232) (hm : m ≤ 140737488351232) (hd : Dd w) (A B : Int) :
    Calls Tryd.prog 5 #[.agg #[.slice p n c, .slice q m d], .int .i64 A, .int .i64 B] w fun e w' => e = .returned (.bool true) ∧ Below w.heap.size w w' := by
  have HR : Hid (Byt w p n c rs) := hR
  have HL : Hid (Byt w q m d ls) := hL
  have Hr : Hid (∀ x ∈ rs, 0 ≤ x ∧ x < 256) := hr
  have Hl : Hid (∀ x ∈ ls, 0 ≤ x ∧ x < 256) := hl
  have HD : Hid (Dd w) := hd
  have E1 : Hid (rs.length = n) := hR.1
  have E2 : Hid (ls.length = m) := hL.1
  have HNM : Hid (n ≤ 140737488351232 ∧ m ≤ 140737488351232) := ⟨hn, hm⟩
  clear hR hL hr hl hd
  go_enter Tryd.func5, Tryd.ntmps5
  go_upto_region 1 with fail
  have hs1 := sb_new w p n c q m d
  have hb1 := Trn.new w (.cells #[.slice p n c, .slice q m d] 29)
  generalize w.alloc (.cells #[.slice p n c, .slice q m d] 29) = W0 at *
  have H0 : Hid (Sb W0 w.heap.size p n c q m d ∧ Below w.heap.size w W0) := ⟨hs1, hb1⟩
  clear hs1 hb1
  go_wp2_with fail
  refine (works_any (HD.out.below H0.out.2)).mono ?_
  rintro e W1 ⟨rfl, hb1⟩
  have H1 : Hid (Sb W1 w.heap.size p n c q m d ∧ Below w.heap.size w W1 ∧ Dd W1 ∧ Byt W1 p n c rs ∧ Byt W1 q m d ls ∧ w.heap.size < W1.heap.size) := by
    have hb := H0.out.2.trans (hb1.mono H0.out.2.size)
    have h := H0.out.1.below hb1
    exact ⟨h, hb, HD.out.below hb, byt_below HR.out hb, byt_below HL.out hb, lt_cell h.c0⟩
  clear hb1 H0
  go_upto_region 3 with fail
  refine wp_region_lit ?_
  refine wpList_load_mid rfl 29 (.tmp 3) rfl w.heap.size 0 (by rfl) _ _ H1.out.1.rangeAt Tryd.underlying29 rfl (by kernel_rfl) ?_
  simp only [Act.put, List.setIfInBounds_toArray, List.set_cons_succ, List.set_cons_zero]
  have cF := from_any H1.out.2.2.2.1 H1.out.2.2.2.2.1 Hr.out Hl.out (by have := HNM.out; omega) H1.out.2.2.1
  go_wp2_with fail
  refine cF.mono ?_
  rintro e W2 ⟨hb2, hcase⟩
  have H2 : Hid (Sb W2 w.heap.size p n c q m d ∧ Below w.heap.size w W2 ∧ Dd W2 ∧ Byt W2 p n c rs ∧ Byt W2 q m d ls ∧ w.heap.size < W2.heap.size ∧ W1.heap.size ≤ W2.heap.size) := by
    have h := H1.out
    have hb := h.2.1.trans (hb2.mono h.2.1.size)
    exact ⟨h.1.below hb2, hb, HD.out.below hb, byt_below HR.out hb, byt_below HL.out hb, Nat.lt_of_lt_of_le h.2.2.2.2.2 hb2.size, hb2.size⟩
  clear cF hb2
  have cF := from_any H2.out.2.2.2.1 H2.out.2.2.2.2.1 Hr.out Hl.out (by have := HNM.out; omega) H2.out.2.2.1
  rcases hcase with ⟨hbad, g1, rfl, _⟩ | ⟨hok, b1, hb1, rfl, hC1⟩
  · go_upto_region 4 with fail
    refine wp_region_lit ?_
    refine wpList_load_mid rfl 29 (.tmp 3) rfl w.heap.size 0 (by rfl) _ _ H2.out.1.rangeAt Tryd.underlying29 rfl (by kernel_rfl) ?_
    simp only [Act.put, List.setIfInBounds_toArray, List.set_cons_succ, List.set_cons_zero]
    have HBAD : Hid (okC rs ls = false) := hbad
    clear hbad
    go_wp2_with fail
    refine cF.mono ?_
    rintro e W3 ⟨hb3, ⟨_, g2, rfl, _⟩ | ⟨hok, _⟩⟩
    · have H3 : Hid (Below w.heap.size w W3) := H2.out.2.1.trans (hb3.mono H2.out.2.1.size)
      clear hb3 cF
      go_wp2
      go_ret
      exact ⟨rfl, H3.out⟩
    · rw [HBAD.out] at hok
      cases hok
  · have HOK : Hid (okC rs ls = true ∧ Con W2 b1 rs ls ∧ W1.heap.size ≤ b1) := ⟨hok, hC1, hb1⟩
    clear hok hC1 hb1
    go_upto_region 4 with fail
    refine wp_region_lit ?_
    refine wpList_load_mid rfl 29 (.tmp 3) rfl w.heap.size 0 (by rfl) _ _ H2.out.1.rangeAt Tryd.underlying29 rfl (by kernel_rfl) ?_
    simp only [Act.put, List.setIfInBounds_toArray, List.set_cons_succ, List.set_cons_zero]
    go_wp2_with fail
    refine cF.mono ?_
    rintro e W3 ⟨hb3, ⟨hbad, _⟩ | ⟨_, b2, hb2, rfl, hC2⟩⟩
    · rw [HOK.out.1] at hbad
      cases hbad
    have H3 : Hid (Below w.heap.size w W3 ∧ Con W3 b1 rs ls ∧ Con W3 b2 rs ls ∧ b1 ≠ b2 ∧ w.heap.size ≤ b1 ∧ w.heap.size ≤ b2 ∧ Sb W3 w.heap.size p n c q m d ∧ Byt W3 p n c rs ∧ b1 ≠ w.heap.size ∧ b2 ≠ w.heap.size ∧ n ≤ 128) := by
      have h2 := H2.out
      have hlt := HOK.out.2.1.lt
      have hb := h2.2.1.trans (hb3.mono h2.2.1.size)
      have hw1 := H1.out.2.2.2.2.2
      have := (okC_le HOK.out.1).1
      rw [E1.out] at this
      exact ⟨hb, HOK.out.2.1.below hb3, hC2, by omega, by have := HOK.out.2.2; omega, by omega, h2.1.below hb3, byt_below HR.out hb, by have := HOK.out.2.2; omega, by omega, by omega⟩
    clear hb3 hb2 hC2 cF H1 H2 HOK
    by_cases hrg : 1 ≤ A ∧ 1 ≤ B ∧ A ≤ 200 ∧ B ≤ 200
    · obtain ⟨r1, r2, r3, r4⟩ := hrg
      have t1 : ¬ A < 1 := by omega
      have t2 : ¬ B < 1 := by omega
      have t3 : ¬ 200 < A := by omega
      have t4 : ¬ 200 < B := by omega
      obtain ⟨t, rfl⟩ : ∃ t : Nat, A = ((t + 1 : Nat) : Int) := ⟨(A - 1).toNat, by omega⟩
      obtain ⟨K, rfl⟩ : ∃ K : Nat, B = (K : Int) := ⟨B.toNat, by omega⟩
      clear t1 t2 t3 t4
      have t1 : ¬ ((t : Int) + 1 < 1) := by omega
      have t2 : ¬ ((K : Int) < 1) := by omega
      have t3 : ¬ (200 < (t : Int) + 1) := by omega
      have t4 : ¬ (200 < (K : Int)) := by omega
      have HRg : Hid (t + 1 ≤ 200 ∧ 1 ≤ K ∧ K ≤ 200) := by constructor <;> omega
      clear r1 r2 r3 r4
      have cT := take_all H3.out.2.1 ((t + 1 : Nat) : Int)
      rw [show (((t + 1 : Nat) : Int)) = (t : Int) + 1 by omega] at cT ⊢
      by_cases h0 : rs.length = 0
      · have c1 := take_no H3.out.2.1 h0 ((t : Int) + 1)
        have HE : Hid (Below w.heap.size w W3) := H3.out.1
        clear cT h0
        go_wp2_with fail
        refine c1.mono ?_
        rintro e w1 ⟨rfl, hw1⟩
        obtain rfl : W3 = w1 := hw1.symm
        clear c1
        go_wp2
        go_ret
        exact ⟨rfl, HE.out⟩
      have h0' : 0 < rs.length := by omega
      have HTu : Hid (nxT rs ((t : Int) + 1) = upt (t + 1) rs) := by show _ = _; unfold nxT; rw [if_neg (by omega), show ((t : Int) + 1).toNat = t + 1 by omega]
      rw [decide_eq_true h0', HTu.out] at cT
      have lt1 : (rs.take (upt (t + 1) rs)).length = upt (t + 1) rs := by rw [List.length_take]; have := nxT_le rs ((t : Int) + 1); rw [HTu.out] at this; omega
      have HLT : Hid ((rs.take (upt (t + 1) rs)).length = upt (t + 1) rs) := lt1
      have hTle : upt (t + 1) rs ≤ t + 1 := upt_le_n _ _
      have HR0 : Hid (0 < rs.length) := h0'
      clear lt1 h0 h0'
      go_wp2_with fail
      refine cT.mono ?_
      rintro e W4 ⟨px, cx, rfl, hO, hC, hT⟩
      rw [HLT.out] at hO ⊢
      have H4 : Hid (Below w.heap.size w W4 ∧ Con W4 b1 (rs.drop (nxG rs ((t : Int) + 1))) ls ∧ Con W4 b2 rs ls ∧ Sb W4 w.heap.size p n c q m d ∧ Byt W4 p n c rs ∧ W4.ownsRow W3.heap.size 5 1 (.slice px (upt (t + 1) rs) cx) (upt (t + 1) rs) (by8 (rs.take (upt (t + 1) rs))) ∧ W3.heap.size ≤ W4.heap.size) := by
        have h := H3.out
        exact ⟨h.1.trans (hT.toBelow h.2.2.2.2.1 h.1.size), hC, h.2.2.1.keep (Chg.ofTrn hT) (fun e => h.2.2.2.1 e.symm), h.2.2.2.2.2.2.1.keep (Chg.ofTrn hT) (fun e => h.2.2.2.2.2.2.2.2.1 e.symm), hT.byt h.2.2.2.2.2.2.2.1 (fun h0 => (NB.of h.2.2.2.2.1 HR.out h0).at), hO, hT.size⟩
      clear cT hO hC hT
      have a0 := H4.out.2.2.2.1.c0
      by_cases hfull : upt (t + 1) rs = t + 1
      · have HFU : Hid (upt (t + 1) rs = t + 1) := hfull
        rw [hfull] at H4 HLT ⊢
        clear hfull hTle
        obtain ⟨gx, hgx⟩ := own_some H4.out.2.2.2.2.2.1
        subst hgx
        obtain ⟨y, hy⟩ : ∃ y, rs[t]? = some y := ⟨rs[t]'(by have := nxT_le rs ((t : Int) + 1); rw [HTu.out, HFU.out] at this; omega), by simp⟩
        have HY : Hid (rs[t]? = some y) := hy
        have ay : W4.cell? ⟨gx, t, .none⟩ = some (.int .u8 y) := by
          have hb := byt_own H4.out.2.2.2.2.2.1
          rcases hb.2.2.2 with h | ⟨g', o', h1, _, h3⟩
          · omega
          · injection h1 with h1
            injection h1 with h1 h2 _
            subst h1 h2
            have := h3 t y (by rw [List.getElem?_take, if_pos (by omega)]; exact hy)
            rw [Nat.zero_add] at this
            exact this
        clear hy
        by_cases e10 : y = 10
        · subst e10
          have HE : Hid (Below w.heap.size w W4) := H4.out.1
          go_wp2
          go_ret
          exact ⟨rfl, HE.out⟩
        have n10 : (y == 10) = false := by simpa using e10
        have HN10 : Hid (y ≠ 10) := e10
        clear e10
        by_cases hq : ∃ z, t + 1 < n ∧ rs[t + 1]? = some z ∧ z = 4
        · obtain ⟨z, hz1, hz2, rfl⟩ := hq
          have g1 : (t : Int) + 1 < n := by omega
          obtain ⟨gp, op, rfl, hcl⟩ : ∃ gb o, p = some ⟨gb, o, .none⟩ ∧ ∀ i x, rs[i]? = some x → W4.cell? ⟨gb, o + i, .none⟩ = some (.int .u8 x) := by
            rcases H4.out.2.2.2.2.1.2.2.2 with h | ⟨gb, o, h1, _, h3⟩
            · omega
            · exact ⟨gb, o, h1, h3⟩
          have az := hcl (t + 1) 4 hz2
          have HE : Hid (Below w.heap.size w W4) := H4.out.1
          clear hcl hz2 hz1
          go_wp2
          go_ret
          exact ⟨rfl, HE.out⟩
        have H4h : Hid ((rs.drop (t + 1)).head? ≠ some 4) := by
          intro e
          rw [List.head?_drop] at e
          exact hq ⟨4, by have := (List.getElem?_eq_some_iff.1 e).1; rw [E1.out] at this; exact this, e, rfl⟩
        have HGE : Hid (nxG rs ((t : Int) + 1) = t + 1) := by
          show _ = _
          unfold nxG
          rw [if_neg (by omega), if_neg (upt_head HFU.out (by omega)), show ((t : Int) + 1).toNat = t + 1 by omega, HFU.out]
        have hpk : ¬ ((t : Int) + 1 < n) ∨ ∃ z gp op, ((t : Int) + 1 < n) ∧ p = some ⟨gp, op, .none⟩ ∧ W4.cell? ⟨gp, op + (t + 1), .none⟩ = some (.int .u8 z) ∧ (z == 4) = false := by
          by_cases hlt : t + 1 < n
          · right
            obtain ⟨z, hz⟩ : ∃ z, rs[t + 1]? = some z := ⟨rs[t + 1]'(by rw [E1.out]; exact hlt), by simp⟩
            rcases H4.out.2.2.2.2.1.2.2.2 with h | ⟨gb, o, h1, _, h3⟩
            · omega
            · refine ⟨z, gb, o, by omega, h1, h3 (t + 1) z hz, ?_⟩
              have : z ≠ 4 := fun e => hq ⟨z, hlt, hz, e⟩
              simpa using this
          · left
            omega
        clear hq
        -- the second and the third Take
        obtain ⟨U, hU⟩ : ∃ U, U = upt K (rs.drop (t + 1)) := ⟨_, rfl⟩
        have HT2 : Hid (nxT (rs.drop (t + 1)) (K : Int) = U ∧ nxG (rs.drop (t + 1)) (K : Int) = U) := by
          have hk1 : ¬ ((K : Int) < 1) := by have := HRg.out; omega
          constructor
          · unfold nxT; rw [if_neg hk1, Int.toNat_natCast, hU]
          · unfold nxG; rw [if_neg hk1, if_neg H4h.out, Int.toNat_natCast, hU]
        have HT3 : Hid (nxT rs ((t : Int) + 1 + K) = t + 1 + U ∧ nxG rs ((t : Int) + 1 + K) = t + 1 + U) := by
          have hk1 : ¬ ((t : Int) + 1 + K < 1) := by omega
          have e : upt (t + 1 + K) rs = t + 1 + U := by
            rw [hU]
            exact upt_add (t + 1) rs K HFU.out (fun _ e => HN10.out (Option.some.inj (HY.out.symm.trans e)))
          have e2 : ((t : Int) + 1 + K).toNat = t + 1 + K := by omega
          constructor
          · unfold nxT; rw [if_neg hk1, e2, e]
          · unfold nxG; rw [if_neg hk1, if_neg (upt_head HFU.out (by omega)), e2, e]
        have hUl : t + 1 + U ≤ rs.length := by have := nxT_le rs ((t : Int) + 1 + K); rw [HT3.out.1] at this; exact this
        have HUl : Hid (t + 1 + U ≤ rs.length) := hUl
        have HCA : Hid (Con W4 b1 (rs.drop (t + 1)) ls) := by have := H4.out.2.1; rw [HGE.out] at this; exact this
        have cT2 := take_all HCA.out (K : Int)
        rw [HT2.out.1, HT2.out.2, List.drop_drop] at cT2
        have lt2 : ((rs.drop (t + 1)).take U).length = U := by rw [List.length_take, List.length_drop]; omega
        have HL2 : Hid (((rs.drop (t + 1)).take U).length = U) := lt2
        generalize decide (0 < (rs.drop (t + 1)).length) = ok2 at cT2
        have lt3 : (rs.take (t + 1 + U)).length = t + 1 + U := by rw [List.length_take]; omega
        have HL3 : Hid ((rs.take (t + 1 + U)).length = t + 1 + U) := lt3
        have HJ : Hid (rs.take (t + 1) ++ (rs.drop (t + 1)).take U = rs.take (t + 1 + U)) := by show _ = _; rw [List.take_add (i := t + 1) (j := U)]
        have hU200 : t + 1 + U ≤ 128 := by have := (H3.out.2.2.2.2.2.2.2.2.2.2); rw [E1.out] at hUl; omega
        clear hU lt2 lt3 hUl
        have BIG : Hid (∀ W5 py cy, W5.ownsRow W4.heap.size 5 1 (.slice py U cy) U (by8 ((rs.drop (t + 1)).take U)) → Con W5 b1 (rs.drop (t + 1 + U)) ls → Trn b1 W4 W5 → Below w.heap.size w W5 ∧ Con W5 b1 (rs.drop (t + 1 + U)) ls ∧ Con W5 b2 rs ls ∧ W5.ownsRow W3.heap.size 5 1 (.slice (some ⟨gx, 0, .none⟩) (t + 1) cx) (t + 1) (by8 (rs.take (t + 1))) ∧ W5.ownsRow W4.heap.size 5 1 (.slice py U cy) U (by8 ((rs.drop (t + 1)).take U)) ∧ gx < W4.heap.size ∧ W4.heap.size ≤ W5.heap.size) := fun W5 py cy hO hC hT => by
          have h := H4.out
          have h3 := H3.out
          have hgx := own_block h.2.2.2.2.2.1 gx rfl
          have hgl := own_ltC h.2.2.2.2.2.1 gx rfl
          have hb1 := h3.2.1.lt
          exact ⟨h.1.trans (hT.toBelow h3.2.2.2.2.1 h.1.size), hC, h.2.2.1.keep (Chg.ofTrn hT) (fun e => h3.2.2.2.1 e.symm), hT.own h.2.2.2.2.2.1 (fun g hg e => by have := own_block h.2.2.2.2.2.1 g hg; omega), hO, hgl, hT.size⟩
        have HS34 : Hid (W3.heap.size ≤ W4.heap.size ∧ b1 < W3.heap.size ∧ b2 < W3.heap.size ∧ w.heap.size ≤ b1 ∧ w.heap.size ≤ b2 ∧ b1 ≠ b2) := by
          have h3 := H3.out
          exact ⟨H4.out.2.2.2.2.2.2, h3.2.1.lt, h3.2.2.1.lt, h3.2.2.2.2.1, h3.2.2.2.2.2.1, h3.2.2.2.1⟩
        generalize W3.heap.size = s3 at *
        rcases hpk with g1 | ⟨z, gp, op, g1, rfl, az, nz⟩
        all_goals
          go_wp2_with fail
          refine cT2.mono ?_
          rintro e W5 ⟨py, cy, rfl, hO, hC, hT⟩
          rw [HL2.out] at hO ⊢
          have H5 := BIG.out W5 py cy hO hC hT
          have H5 : Hid _ := H5
          clear hO hC hT cT2
          have cT3 := take_any H5.out.2.2.1 HR0.out ((t : Int) + 1 + K)
          rw [HT3.out.1, HT3.out.2] at cT3
          have e400 : IntKind.i64.wrap ((t : Int) + 1 + K) = (t : Int) + 1 + K := by rw [IntKind.wrap_i64]; omega
          go_wp2_with fail
          refine cT3.mono ?_
          rintro e W6 ⟨pz, cz6, rfl, hO, hC, hT⟩
          rw [HL3.out] at hO ⊢
          have H6 : Hid (Below w.heap.size w W6 ∧ Con W6 b1 (rs.drop (t + 1 + U)) ls ∧ Con W6 b2 (rs.drop (t + 1 + U)) ls ∧ W6.ownsRow s3 5 1 (.slice (some ⟨gx, 0, .none⟩) (t + 1) cx) (t + 1) (by8 (rs.take (t + 1))) ∧ Byt W6 py U cy ((rs.drop (t + 1)).take U) ∧ W6.ownsRow W5.heap.size 5 1 (.slice pz (t + 1 + U) cz6) (t + 1 + U) (by8 (rs.take (t + 1 + U))) ∧ gx < W5.heap.size ∧ s3 ≤ W6.heap.size ∧ s3 ≤ gx) := by
            have h := H5.out
            have hs := HS34.out
            have hx := own_block h.2.2.2.1 gx rfl
            exact ⟨h.1.trans (hT.toBelow hs.2.2.2.2.1 h.1.size), h.2.1.keep (Chg.ofTrn hT) (fun e => hs.2.2.2.2.2 e), hC, hT.own h.2.2.2.1 (fun g hg e => by have := own_block h.2.2.2.1 g hg; omega), byt_own (hT.own h.2.2.2.2.1 (fun g hg e => by have := own_block h.2.2.2.2.1 g hg; omega)), hO, by omega, by have := hT.size; omega, hx⟩
          clear hO hC hT cT3
          go_upto_region 14 with fail
          refine wp_region_lit ?_
          refine wpl_moveG rfl (.tmp 16) rfl ?_
          simp only [Act.put, List.setIfInBounds_toArray, List.set_cons_succ, List.set_cons_zero]
          refine wpl_moveG rfl (.tmp 107) rfl ?_
          simp only [Act.put, List.setIfInBounds_toArray, List.set_cons_succ, List.set_cons_zero]
          refine wpl_moveG rfl (.tmp 11) rfl ?_
          simp only [Act.put, List.setIfInBounds_toArray, List.set_cons_succ, List.set_cons_zero]
          refine wpl_moveG rfl (.tmp 13) rfl ?_
          simp only [Act.put, List.setIfInBounds_toArray, List.set_cons_succ, List.set_cons_zero]
          refine wpl_appG rfl (.tmp 109) (.tmp 110) rfl s3 (.slice (some ⟨gx, 0, .none⟩) (t + 1) cx) (t + 1) (rs.take (t + 1)) rfl py U cy ((rs.drop (t + 1)).take U) rfl H6.out.2.2.2.1 H6.out.2.2.2.2.1 (by omega) H6.out.2.2.2.2.2.2.2.1 ?_
          intro va W7 hO7 hg7 hs7
          simp only [Act.put, List.setIfInBounds_toArray, List.set_cons_succ, List.set_cons_zero]
          obtain ⟨pv, cv, rfl⟩ := one_slice hO7
          have H7 : Hid (Below w.heap.size w W7 ∧ Con W7 b1 (rs.drop (t + 1 + U)) ls ∧ Con W7 b2 (rs.drop (t + 1 + U)) ls ∧ Byt W7 pv (t + 1 + U) cv (rs.take (t + 1 + U)) ∧ Byt W7 pz (t + 1 + U) cz6 (rs.take (t + 1 + U))) := by
            have h := H6.out
            have hs := HS34.out
            have cg := Chg.ofGrown hg7
            rw [HJ.out] at hO7
            refine ⟨h.1.trans (cg.toTrn h.1.size (fun k hk e => ?_)), h.2.1.keep cg (fun e => ?_), h.2.2.1.keep cg (fun e => ?_), byt_own hO7, byt_own (cg.own h.2.2.2.2.2.1 (fun g hg e => ?_))⟩
            · have e : gx = k := Option.some.inj e
              omega
            · have e : gx = b1 := Option.some.inj e
              omega
            · have e : gx = b2 := Option.some.inj e
              omega
            · have e : gx = g := Option.some.inj e
              have := own_block h.2.2.2.2.2.1 g hg
              omega
          clear hO7 hg7 hs7
          have cB := bytes_any pv pz (t + 1 + U) cv cz6 (rs.take (t + 1 + U)) W7 (by omega) H7.out.2.2.2.1 H7.out.2.2.2.2
          go_wp2_with fail
          refine cB.mono ?_
          rintro e W8 ⟨rfl, k, hk⟩
          have H8 : Hid (Below w.heap.size w W8 ∧ Con W8 b1 (rs.drop (t + 1 + U)) ls ∧ Con W8 b2 (rs.drop (t + 1 + U)) ls) := by
            have h := H7.out
            subst hk
            exact ⟨⟨h.1.os, h.1.tape, h.1.output, h.1.size, h.1.block⟩, h.2.1.drewN k, h.2.2.1.drewN k⟩
          clear hk cB
          go_wp2_with fail
          refine (state_any H8.out.2.1).mono ?_
          rintro e W9 ⟨p1, d1, q1, f1, X1, rfl, hO1, hO2, _, _, hb9⟩
          have H9 : Hid (Below w.heap.size w W9 ∧ Con W9 b2 (rs.drop (t + 1 + U)) ls ∧ Byt W9 p1 (rs.drop (t + 1 + U)).length d1 (rs.drop (t + 1 + U)) ∧ Byt W9 q1 ls.length f1 ls) := ⟨H8.out.1.trans (hb9.mono H8.out.1.size), H8.out.2.2.below hb9, byt_own hO1, byt_own hO2⟩
          clear hO1 hO2 hb9
          go_wp2_with fail
          refine (state_any H9.out.2.1).mono ?_
          rintro e WA ⟨p2, d2, q2, f2, X2, rfl, hO1, hO2, _, _, hb9⟩
          have HA : Hid (Below w.heap.size w WA ∧ Byt WA p1 (rs.drop (t + 1 + U)).length d1 (rs.drop (t + 1 + U)) ∧ Byt WA q1 ls.length f1 ls ∧ Byt WA p2 (rs.drop (t + 1 + U)).length d2 (rs.drop (t + 1 + U)) ∧ Byt WA q2 ls.length f2 ls) := ⟨H9.out.1.trans (hb9.mono H9.out.1.size), byt_below H9.out.2.2.1 hb9, byt_below H9.out.2.2.2 hb9, byt_own hO1, byt_own hO2⟩
          clear hO1 hO2 hb9
          have cS := states_any HA.out.2.1 HA.out.2.2.2.1 HA.out.2.2.1 HA.out.2.2.2.2 (by rw [List.length_drop, E1.out]; have := HNM.out; omega) (by rw [E2.out]; have := HNM.out; omega)
          rw [List.length_drop] at cS
          go_wp2_with fail
          refine cS.mono ?_
          rintro e WB ⟨rfl, hbb⟩
          have HB : Hid (Below w.heap.size w WB) := HA.out.1.trans (hbb.mono HA.out.1.size)
          clear hbb cS
          go_wp2
          go_ret
          exact ⟨rfl, HB.out⟩
      · have g1 : ((upt (t + 1) rs : Nat) : Int) < (t : Int) + 1 := by omega
        have HE : Hid (Below w.heap.size w W4) := H4.out.1
        generalize upt (t + 1) rs = T at *
        clear hfull hTle
        go_wp2
        go_ret
        exact ⟨rfl, HE.out⟩
    · have HE : Hid (Below w.heap.size w W3) := H3.out.1
      clear H3
      have hq : A < 1 ∨ (¬ A < 1 ∧ B < 1) ∨ (¬ A < 1 ∧ ¬ B < 1 ∧ 200 < A) ∨ (¬ A < 1 ∧ ¬ B < 1 ∧ ¬ 200 < A ∧ 200 < B) := by omega
      clear hrg
      rcases hq with t1 | ⟨t1, t2⟩ | ⟨t1, t2, t3⟩ | ⟨t1, t2, t3, t4⟩
      all_goals
        go_wp2
        go_ret
        exact ⟨rfl, HE.out⟩
end Go.Proofs.YtblpdnchphhcaaaDoor
