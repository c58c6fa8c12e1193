import Derived.Test.YtlknafmohonodaaDoorRq7
namespace Go.Proofs.YtlknafmohonodaaDoor
open Go.RowKit
set_option linter.unusedVariables false
set_option linter.unusedSimpArgs false
theorem lent_row {w : World} {X g c : Nat} {xs : List Int} (h : Lent w X g c xs) : Row w g 0 xs.length (fun i => xs.getD i 0) := by
  intro i hi
  have e : (by8 (xs ++ marks))[i]? = some (.int .u8 (xs.getD i 0)) := by
    simp only [by8, List.getElem?_map]
    rw [List.getElem?_append_left hi, List.getD_eq_getElem?_getD, List.getElem?_eq_getElem hi]
    rfl
  obtain ⟨g', e', c'⟩ := own_cell h e (by omega) (by omega)
  injection e' with e'
  injection e' with e'
  subst e'
  rw [Nat.zero_add]
  exact c'
theorem byt_row {w : World} {p : Option Addr} {n c : Nat} {xs : List Int} (h : Byt w p n c xs) : ∃ b o, Row w b o n (fun i => xs.getD i 0) ∧ (0 < n → p = some ⟨b, o, .none⟩) := by
  obtain ⟨h1, h2, h3, h4⟩ := h
  rcases h4 with h4 | ⟨b, o, h5, h6, h7⟩
  · exact ⟨0, 0, fun i hi => by omega, fun hn => by omega⟩
  · refine ⟨b, o, fun i hi => h7 i _ ?_, fun _ => h5⟩
    show xs[i]? = some (xs.getD i 0)
    rw [List.getD_eq_getElem?_getD, List.getElem?_eq_getElem (by omega)]
    rfl
theorem own_row {w : World} {X d c : Nat} {xs : List Int} (h : w.ownsRow X 5 1 (.slice (some ⟨d, 0, .none⟩) xs.length c) xs.length (by8 xs)) : Row w d 0 xs.length (fun i => xs.getD i 0) := by
  intro i hi
  have e : (by8 xs)[i]? = some (.int .u8 (xs.getD i 0)) := by
    simp only [by8, List.getElem?_map]
    rw [List.getD_eq_getElem?_getD, List.getElem?_eq_getElem hi]
    rfl
  obtain ⟨g', e', c'⟩ := own_cell h e (by omega) (by omega)
  injection e' with e'
  injection e' with e'
  subst e'
  rw [Nat.zero_add]
  exact c'
/-- Both programs, each in a box of its own. -/
structure Two (w : World) (y z X1 X2 : Nat) (en : Int) (q1 : Option Addr) (cs1 : Nat) (E1 : List (Sg × Value)) (q2 : Option Addr) (cs2 : Nat) (E2 : List (Sg × Value)) (B : Nat → Int) : Prop where
  a0 : w.cell? ⟨y, 0, .none⟩ = some (.int .u64 en)
  a1 : w.cell? ⟨y, 1, .none⟩ = some (.slice q1 E1.length cs1)
  b0 : w.cell? ⟨z, 0, .none⟩ = some (.int .u64 en)
  b1 : w.cell? ⟨z, 1, .none⟩ = some (.slice q2 E2.length cs2)
  s1 : Segs w X1 (.slice q1 E1.length cs1) E1 B
  s2 : Segs w X2 (.slice q2 E2.length cs2) E2 B
  em : E1.map (·.1) = E2.map (·.1)
  l1 : E1.length ≤ 8
section
variable {w w' : World} {y z X1 X2 : Nat} {en : Int} {q1 : Option Addr} {cs1 : Nat} {E1 : List (Sg × Value)} {q2 : Option Addr} {cs2 : Nat} {E2 : List (Sg × Value)} {B : Nat → Int}
theorem Two.below (h : Two w y z X1 X2 en q1 cs1 E1 q2 cs2 E2 B) (k : Below w.heap.size w w') : Two w' y z X1 X2 en q1 cs1 E1 q2 cs2 E2 B :=
  ⟨(k.cell (lt_of_cell h.a0)).trans h.a0, (k.cell (lt_of_cell h.a1)).trans h.a1, (k.cell (lt_of_cell h.b0)).trans h.b0, (k.cell (lt_of_cell h.b1)).trans h.b1, h.s1.below k, h.s2.below k, h.em, h.l1⟩
theorem Two.low (h : Two w y z X1 X2 en q1 cs1 E1 q2 cs2 E2 B) {a : Addr} (h1 : a.block < X1) (h2 : a.block < X2) (hy : a.block < y) (hz : a.block < z) (v : Value) : Two (w.setCell a v) y z X1 X2 en q1 cs1 E1 q2 cs2 E2 B := by
  have so : ∀ x o, a.block < x → (w.setCell a v).cell? ⟨x, o, .none⟩ = w.cell? ⟨x, o, .none⟩ := fun x o hx => World.cell?_setCell_other _ _ _ _ (fun e => by rw [e] at hx; exact Nat.lt_irrefl _ hx)
  exact ⟨(so y 0 hy).trans h.a0, (so y 1 hy).trans h.a1, (so z 0 hz).trans h.b0, (so z 1 hz).trans h.b1, h.s1.low h1 v, h.s2.low h2 v, h.em, h.l1⟩
theorem Two.same (h : Two w y z X1 X2 en q1 cs1 E1 q2 cs2 E2 B) : Calls Tryd.prog 8 #[.agg #[.int .u64 en, .slice q1 E1.length cs1], .agg #[.int .u64 en, .slice q2 E2.length cs2]] w fun e w' => e = .returned (.bool true) ∧ Below w.heap.size w w' := same_any h.s1 h.s2 h.em h.l1 en
end
set_option maxHeartbeats 4000000 in
set_option maxRecDepth 100000 in
theorem law_any {W : World} {p : Option Addr} {n c : Nat} {xs : List Int} (h : Byt W p n c xs) (hxb : ∀ i, 0 ≤ xs.getD i 0 ∧ xs.getD i 0 < 256) (hL : Laid W) : Calls Tryd.prog 3 #[.slice p n c] W fun e w' => e = .returned (.bool true) ∧ Below W.heap.size W w' := by
  by_cases h4 : 400000 < n
  · have g4 : (n : Int) > 400000 := by omega
    go_enter Tryd.func3, Tryd.ntmps3
    go_wp2
    go_ret
    exact ⟨rfl, Below.refl _ _⟩
  have g4 : ¬ (n : Int) > 400000 := by omega
  have HBy : Hid (Byt W p n c xs) := h
  obtain ⟨B, hBd⟩ : ∃ B : Nat → Int, B = fun i => xs.getD i 0 := ⟨_, rfl⟩
  have HBd : Hid (B = fun i => xs.getD i 0) := hBd
  have hB : ∀ i, 0 ≤ B i ∧ B i < 256 := by rw [hBd]; exact hxb
  clear hxb
  have HL : Hid (Laid W) := hL
  have hxl := h.1
  obtain ⟨b, o, hrow, hpp⟩ := byt_row h
  have HRo : Hid (Row W b o n B) := by rw [hBd]; exact hrow
  clear hBd
  have hcc : n ≤ c ∧ c ≤ 9223372036854775807 := ⟨h.2.1, h.2.2.1⟩
  obtain ⟨ha, hr, hH⟩ := hd_ex B
  have HH : Hid (Hd B ha hr) := hH
  clear h hL hrow hH
  have HXl : Hid (xs.length = n) := hxl
  clear hxl
  go_enter Tryd.func3, Tryd.ntmps3
  go_wp2_with fail
  refine (lend_any HBy.out (by omega)).mono ?_
  rintro e W1 ⟨g, cg, rfl, hLent, hb1⟩
  have HL1 : Hid (Lent W1 W.heap.size g cg xs ∧ Below W.heap.size W W1) := ⟨hLent, hb1⟩
  have hcap : n + 64 ≤ cg ∧ cg ≤ 9223372036854775807 := by have := own_cap hLent; rw [HXl.out] at this; exact this
  have hgl : W.heap.size ≤ g ∧ g < W1.heap.size := hLent.lt g rfl
  clear hLent hb1
  go_wp2_with fail
  have hr1 : Row W1 g 0 n B := by have := lent_row HL1.out.1; rw [HXl.out, ← HBd.out] at this; exact this
  refine (readP (HL.out.below HL1.out.2) hr1 hgl.2 hB ⟨by omega, hcap.2⟩ ha hr HH.out).mono ?_
  clear hr1
  rintro e W2 ⟨q1, cs1, E1, v, rfl, hE1, hS1, hl1, hv, hb2⟩
  go_wp2_with fail
  have hk3 : Below W2.heap.size W2 (W2.alloc (.cells #[.int .u64 (enO n B ha hr), .slice q1 E1.length cs1] 27)) := (Below.refl _ _).alloc (Nat.le_refl _) _
  have p0 : (W2.alloc (.cells #[.int .u64 (enO n B ha hr), .slice q1 E1.length cs1] 27)).cell? ⟨W2.heap.size, 0, .none⟩ = some (.int .u64 (enO n B ha hr)) := by simp
  have p1 : (W2.alloc (.cells #[.int .u64 (enO n B ha hr), .slice q1 E1.length cs1] 27)).cell? ⟨W2.heap.size, 1, .none⟩ = some (.slice q1 E1.length cs1) := by simp
  generalize (W2.alloc (.cells #[.int .u64 (enO n B ha hr), .slice q1 E1.length cs1] 27)) = W3 at *
  have kW1 := HL1.out.2
  have k13 : Below W1.heap.size W1 W3 := hb2.trans (hk3.mono hb2.size)
  have kW3 : Below W.heap.size W W3 := kW1.trans (k13.mono kW1.size)
  refine (readR (fun hh => hpp (by omega)) (HRo.out.keep kW3) hB hcc (by omega) ha hr HH.out).mono ?_
  rintro e W4 ⟨q2, cs2, E2, gp, gn, gc, rfl, hE2, hS2, hl2, hR2, hb4⟩
  go_upto_region 6 with fail
  have k45 : Below W4.heap.size W4 ((W4.alloc (.cells #[.int .u64 (enO n B ha hr), .slice q2 E2.length cs2] 27)).alloc (.cells #[.slice gp gn gc, .int .i64 (rdF n B ha hr).1.2] 34)) := ((Below.refl _ _).alloc (Nat.le_refl _) _).alloc (by simp only [World.size_alloc]; omega) _
  have b0 : ((W4.alloc (.cells #[.int .u64 (enO n B ha hr), .slice q2 E2.length cs2] 27)).alloc (.cells #[.slice gp gn gc, .int .i64 (rdF n B ha hr).1.2] 34)).cell? ⟨W4.heap.size, 0, .none⟩ = some (.int .u64 (enO n B ha hr)) := by
    rw [World.cell?_alloc_lt _ _ _ (by simp only [World.size_alloc]; show W4.heap.size < W4.heap.size + 1; omega)]
    simp
  have b1 : ((W4.alloc (.cells #[.int .u64 (enO n B ha hr), .slice q2 E2.length cs2] 27)).alloc (.cells #[.slice gp gn gc, .int .i64 (rdF n B ha hr).1.2] 34)).cell? ⟨W4.heap.size, 1, .none⟩ = some (.slice q2 E2.length cs2) := by
    rw [World.cell?_alloc_lt _ _ _ (by simp only [World.size_alloc]; show W4.heap.size < W4.heap.size + 1; omega)]
    simp
  have f0 : ((W4.alloc (.cells #[.int .u64 (enO n B ha hr), .slice q2 E2.length cs2] 27)).alloc (.cells #[.slice gp gn gc, .int .i64 (rdF n B ha hr).1.2] 34)).cell? ⟨W4.heap.size + 1, 0, .none⟩ = some (.slice gp gn gc) := World.cell?_alloc_at _ _ _ _ (by simp only [World.size_alloc])
  have f1 : ((W4.alloc (.cells #[.int .u64 (enO n B ha hr), .slice q2 E2.length cs2] 27)).alloc (.cells #[.slice gp gn gc, .int .i64 (rdF n B ha hr).1.2] 34)).cell? ⟨W4.heap.size + 1, 1, .none⟩ = some (.int .i64 (rdF n B ha hr).1.2) := World.cell?_alloc_at _ _ _ _ (by simp only [World.size_alloc])
  generalize ((W4.alloc (.cells #[.int .u64 (enO n B ha hr), .slice q2 E2.length cs2] 27)).alloc (.cells #[.slice gp gn gc, .int .i64 (rdF n B ha hr).1.2] 34)) = W5 at *
  have k35 : Below W3.heap.size W3 W5 := hb4.trans (k45.mono hb4.size)
  have k25 : Below W2.heap.size W2 W5 := hk3.trans (k35.mono hk3.size)
  have k15 : Below W1.heap.size W1 W5 := k13.trans (k35.mono k13.size)
  have HT5 : Hid (Two W5 W2.heap.size W4.heap.size W1.heap.size W3.heap.size (enO n B ha hr) q1 cs1 E1 q2 cs2 E2 B) := ⟨(k35.cell (lt_of_cell p0)).trans p0, (k35.cell (lt_of_cell p1)).trans p1, b0, b1, hS1.below k25, hS2.below k45, hE1.trans hE2.symm, hl1⟩
  have HV5 : Hid (((rdF n B ha hr).1.2 ≠ 0 ∧ FaultIn W5 0 v (rdF n B ha hr).1.1 (rdF n B ha hr).1.2) ∨ ((rdF n B ha hr).1.2 = 0 ∧ v = .nilIface)) := by
    rcases hv with ⟨h1, h2⟩ | h1
    · exact .inl ⟨h1, h2.below k25⟩
    · exact .inr h1
  have HR5 : Hid (RefR W5 (.agg #[.slice gp gn gc, .int .i64 (rdF n B ha hr).1.2]) (rdF n B ha hr).1.1 (rdF n B ha hr).1.2) := hR2.below k45
  have HLe5 : Hid (Lent W5 W.heap.size g cg xs) := owns_below HL1.out.1 k15
  have HK5 : Hid (Below W.heap.size W W5 ∧ W1.heap.size ≤ W2.heap.size ∧ W2.heap.size ≤ W3.heap.size ∧ W3.heap.size ≤ W4.heap.size) := ⟨kW1.trans (k15.mono kW1.size), hb2.size, hk3.size, hb4.size⟩
  clear hE1 hE2 hS1 hS2 hl1 hl2 hR2 hv hb2 hk3 hb4 k45 k35 k25 k15 k13 kW3 p0 p1 b0 b1 kW1
  go_wp2_with fail
  refine (isR_any v _ _ _ W5 HV5.out HR5.out).mono ?_
  rintro e W6 ⟨rfl, hb6⟩
  have HT6 : Hid (Two W6 W2.heap.size W4.heap.size W1.heap.size W3.heap.size (enO n B ha hr) q1 cs1 E1 q2 cs2 E2 B) := HT5.out.below hb6
  have HK6 : Hid (Below W.heap.size W W6 ∧ Lent W6 W.heap.size g cg xs) := ⟨HK5.out.1.trans (hb6.mono HK5.out.1.size), owns_below HLe5.out hb6⟩
  clear f0 f1 hb6 HV5 HR5 HT5 HLe5
  have a0 := HT6.out.a0
  have a1 := HT6.out.a1
  have b0 := HT6.out.b0
  have b1 := HT6.out.b1
  go_wp2_with fail
  refine HT6.out.same.mono ?_
  rintro e W7 ⟨rfl, hb7⟩
  have HT7 : Hid (Two W7 W2.heap.size W4.heap.size W1.heap.size W3.heap.size (enO n B ha hr) q1 cs1 E1 q2 cs2 E2 B) := HT6.out.below hb7
  have HK7 : Hid (Below W.heap.size W W7 ∧ Lent W7 W.heap.size g cg xs) := ⟨HK6.out.1.trans (hb7.mono HK6.out.1.size), owns_below HK6.out.2 hb7⟩
  clear a0 a1 b0 b1 hb7 HT6 HK6
  go_wp2_with fail
  have hby : Byt W7 p n c xs := by
    by_cases h0 : n = 0
    · exact ⟨HBy.out.1, HBy.out.2.1, HBy.out.2.2.1, .inl h0⟩
    · exact byt_keep HBy.out HK7.out.1 (byt_lt HBy.out (by omega))
  refine (kept_any hby (by omega) HK7.out.2).mono ?_
  rintro e w8 ⟨rfl, kk, rfl⟩
  have bd : Below W7.heap.size W7 (W7.drewN kk) := ⟨rfl, rfl, rfl, Nat.le_refl _, fun _ _ => rfl⟩
  have HT8 : Hid (Two (W7.drewN kk) W2.heap.size W4.heap.size W1.heap.size W3.heap.size (enO n B ha hr) q1 cs1 E1 q2 cs2 E2 B) := HT7.out.below bd
  have HK8 : Hid (Below W.heap.size W (W7.drewN kk) ∧ Lent (W7.drewN kk) W.heap.size g cg xs ∧ Byt (W7.drewN kk) p n c xs) := ⟨HK7.out.1.trans (bd.mono HK7.out.1.size), owns_below HK7.out.2 bd, by
    by_cases h0 : n = 0
    · exact ⟨hby.1, hby.2.1, hby.2.2.1, .inl h0⟩
    · exact byt_keep hby bd (byt_lt hby (by omega))⟩
  clear bd hby HT7 HK7
  generalize W7.drewN kk = W8 at *
  by_cases h0 : n = 0
  · have g0 : ((n : Int) == 0) = true := by rw [beq_iff_eq]; omega
    clear h0
    go_wp2_with fail
    go_ret
    exact ⟨rfl, HK8.out.1⟩
  have g0 : ((n : Int) == 0) = false := by rw [beq_eq_false_iff_ne]; omega
  go_wp2_with fail
  refine (copyBytes_any HK8.out.2.2 (by omega)).mono ?_
  rintro e W9 ⟨dp, dc, rfl, hdo, hb9⟩
  rw [HXl.out] at hdo ⊢
  obtain ⟨d, dcc, hdv⟩ := own_slice hdo h0
  injection hdv with hdp _ hdc
  subst hdp hdc
  obtain ⟨m, rfl⟩ : ∃ m, n = m + 1 := ⟨n - 1, by omega⟩
  have hdl : W8.heap.size ≤ d ∧ d < W9.heap.size := hdo.lt d rfl
  have hdc9 : m + 1 ≤ dc ∧ dc ≤ 9223372036854775807 := own_capN hdo
  have l28 : W2.heap.size < W8.heap.size := lt_of_cell (x := ⟨W2.heap.size, 0, .none⟩) HT8.out.a0
  have HSz := HK5.out.2
  have hgd : g < d := by omega
  have HLe9 : Hid (Lent W9 W.heap.size g cg xs) := owns_below HK8.out.2.1 hb9
  have rg9 : Row W9 g 0 (m + 1) B := by have := lent_row HLe9.out; rw [HXl.out, ← HBd.out] at this; exact this
  have rd9 : Row W9 d 0 (m + 1) B := by
    have h9 : W9.ownsRow W8.heap.size 5 1 (.slice (some ⟨d, 0, .none⟩) xs.length dc) xs.length (by8 xs) := by rw [HXl.out]; exact hdo
    have := own_row h9
    rw [HXl.out, ← HBd.out] at this
    exact this
  have cd : W9.cell? ⟨d, m, .none⟩ = some (.int .u8 (B m)) := by have := rd9 m (by omega); rwa [Nat.zero_add] at this
  have zd : W9.frozen? ⟨d, m, .none⟩ = false := hdo.frozenAt m
  have cg9 : W9.cell? ⟨g, m, .none⟩ = some (.int .u8 (B m)) := by have := rg9 m (by omega); rwa [Nat.zero_add] at this
  have zg9 : W9.frozen? ⟨g, m, .none⟩ = false := HLe9.out.frozenAt m
  have cg10 : (W9.setCell ⟨d, m, .none⟩ (.int .u8 (bits .xor .u8 (B m) 255))).cell? ⟨g, m, .none⟩ = some (.int .u8 (B m)) := (World.cell?_setCell_other _ _ _ _ (by simp only [ne_eq, Addr.mk.injEq, not_and]; intro e; omega)).trans cg9
  have zg10 : (W9.setCell ⟨d, m, .none⟩ (.int .u8 (bits .xor .u8 (B m) 255))).frozen? ⟨g, m, .none⟩ = false := (World.frozen?_setCell ..).trans zg9
  have k810 : Below W8.heap.size W8 (W9.setCell ⟨d, m, .none⟩ (.int .u8 (bits .xor .u8 (B m) 255))) := hb9.setCell (p := ⟨d, m, .none⟩) hdl.1 _
  obtain ⟨B2, hB2⟩ : ∃ B2, B2 = fl255 (m + 1) B := ⟨_, rfl⟩
  have hb2 : ∀ i, 0 ≤ B2 i ∧ B2 i < 256 := by
    intro i
    rw [hB2]
    unfold fl255
    split
    · exact xor_b _
    · exact hB i
  have rd10 : Row (W9.setCell ⟨d, m, .none⟩ (.int .u8 (bits .xor .u8 (B m) 255))) d 0 (m + 1) B2 := by have := rd9.turn (by omega); rw [Nat.zero_add, Nat.add_sub_cancel, ← hB2] at this; exact this
  have rd11 : Row ((W9.setCell ⟨d, m, .none⟩ (.int .u8 (bits .xor .u8 (B m) 255))).setCell ⟨g, m, .none⟩ (.int .u8 (bits .xor .u8 (B m) 255))) d 0 (m + 1) B2 := fun i hi => (World.cell?_setCell_other _ _ _ _ (by simp only [ne_eq, Addr.mk.injEq, not_and]; intro e; omega)).trans (rd10 i hi)
  have rg10 : Row (W9.setCell ⟨d, m, .none⟩ (.int .u8 (bits .xor .u8 (B m) 255))) g 0 (m + 1) B := fun i hi => (World.cell?_setCell_other _ _ _ _ (by simp only [ne_eq, Addr.mk.injEq, not_and]; intro e; omega)).trans (rg9 i hi)
  have rg11 : Row ((W9.setCell ⟨d, m, .none⟩ (.int .u8 (bits .xor .u8 (B m) 255))).setCell ⟨g, m, .none⟩ (.int .u8 (bits .xor .u8 (B m) 255))) g 0 (m + 1) B2 := by have := rg10.turn (by omega); rw [Nat.zero_add, Nat.add_sub_cancel, ← hB2] at this; exact this
  have HT11 : Hid (Two ((W9.setCell ⟨d, m, .none⟩ (.int .u8 (bits .xor .u8 (B m) 255))).setCell ⟨g, m, .none⟩ (.int .u8 (bits .xor .u8 (B m) 255))) W2.heap.size W4.heap.size W1.heap.size W3.heap.size (enO (m + 1) B ha hr) q1 cs1 E1 q2 cs2 E2 B) := (HT8.out.below k810).low (a := ⟨g, m, .none⟩) (by show g < _; omega) (by show g < _; omega) (by show g < _; omega) (by show g < _; omega) _
  have HK11 : Hid (Below W.heap.size W ((W9.setCell ⟨d, m, .none⟩ (.int .u8 (bits .xor .u8 (B m) 255))).setCell ⟨g, m, .none⟩ (.int .u8 (bits .xor .u8 (B m) 255)))) := (HK8.out.1.trans (k810.mono HK8.out.1.size)).setCell (p := ⟨g, m, .none⟩) hgl.1 _
  have hg11 : g < ((W9.setCell ⟨d, m, .none⟩ (.int .u8 (bits .xor .u8 (B m) 255))).setCell ⟨g, m, .none⟩ (.int .u8 (bits .xor .u8 (B m) 255))).heap.size := lt_of_cell (rg11 0 (by omega))
  have hd11 : d < ((W9.setCell ⟨d, m, .none⟩ (.int .u8 (bits .xor .u8 (B m) 255))).setCell ⟨g, m, .none⟩ (.int .u8 (bits .xor .u8 (B m) 255))).heap.size := lt_of_cell (rd11 0 (by omega))
  obtain ⟨ha2, hr2, hH2⟩ := hd_ex B2
  clear rg10 rd10 k810 rg9 rd9 HLe9 HT8 HK8 hb9 hdo hB2
  go_wp2_with fail
  clear cd zd cg9 zg9 cg10 zg10
  generalize ((W9.setCell ⟨d, m, .none⟩ (.int .u8 (bits .xor .u8 (B m) 255))).setCell ⟨g, m, .none⟩ (.int .u8 (bits .xor .u8 (B m) 255))) = Wn at *
  have HRd : Hid (Row Wn d 0 (m + 1) B2) := rd11
  refine (readP (HL.out.below HK11.out) rg11 hg11 hb2 ⟨by omega, hcap.2⟩ ha2 hr2 hH2).mono ?_
  clear rg11 rd11
  rintro e W12 ⟨q3, cs3, E3, v3, rfl, hE3, hS3, hl3, hv3, hb12⟩
  go_wp2_with fail
  have hk13 : Below W12.heap.size W12 (W12.alloc (.cells #[.int .u64 (enO (m + 1) B2 ha2 hr2), .slice q3 E3.length cs3] 27)) := (Below.refl _ _).alloc (Nat.le_refl _) _
  have p0 : (W12.alloc (.cells #[.int .u64 (enO (m + 1) B2 ha2 hr2), .slice q3 E3.length cs3] 27)).cell? ⟨W12.heap.size, 0, .none⟩ = some (.int .u64 (enO (m + 1) B2 ha2 hr2)) := by simp
  have p1 : (W12.alloc (.cells #[.int .u64 (enO (m + 1) B2 ha2 hr2), .slice q3 E3.length cs3] 27)).cell? ⟨W12.heap.size, 1, .none⟩ = some (.slice q3 E3.length cs3) := by simp
  generalize (W12.alloc (.cells #[.int .u64 (enO (m + 1) B2 ha2 hr2), .slice q3 E3.length cs3] 27)) = W13 at *
  have kn13 : Below Wn.heap.size Wn W13 := hb12.trans (hk13.mono hb12.size)
  refine (readR (p := some ⟨d, 0, .none⟩) (b := d) (o := 0) (fun _ => rfl) (HRd.out.keep kn13) hb2 hdc9 (by omega) ha2 hr2 hH2).mono ?_
  rintro e W14 ⟨q4, cs4, E4, gp2, gn2, gc2, rfl, hE4, hS4, hl4, hR4, hb14⟩
  go_upto_region 15 with fail
  have k145 : Below W14.heap.size W14 ((W14.alloc (.cells #[.int .u64 (enO (m + 1) B2 ha2 hr2), .slice q4 E4.length cs4] 27)).alloc (.cells #[.slice gp2 gn2 gc2, .int .i64 (rdF (m + 1) B2 ha2 hr2).1.2] 34)) := ((Below.refl _ _).alloc (Nat.le_refl _) _).alloc (by simp only [World.size_alloc]; omega) _
  have b0 : ((W14.alloc (.cells #[.int .u64 (enO (m + 1) B2 ha2 hr2), .slice q4 E4.length cs4] 27)).alloc (.cells #[.slice gp2 gn2 gc2, .int .i64 (rdF (m + 1) B2 ha2 hr2).1.2] 34)).cell? ⟨W14.heap.size, 0, .none⟩ = some (.int .u64 (enO (m + 1) B2 ha2 hr2)) := by
    rw [World.cell?_alloc_lt _ _ _ (by simp only [World.size_alloc]; show W14.heap.size < W14.heap.size + 1; omega)]
    simp
  have b1 : ((W14.alloc (.cells #[.int .u64 (enO (m + 1) B2 ha2 hr2), .slice q4 E4.length cs4] 27)).alloc (.cells #[.slice gp2 gn2 gc2, .int .i64 (rdF (m + 1) B2 ha2 hr2).1.2] 34)).cell? ⟨W14.heap.size, 1, .none⟩ = some (.slice q4 E4.length cs4) := by
    rw [World.cell?_alloc_lt _ _ _ (by simp only [World.size_alloc]; show W14.heap.size < W14.heap.size + 1; omega)]
    simp
  have f0 : ((W14.alloc (.cells #[.int .u64 (enO (m + 1) B2 ha2 hr2), .slice q4 E4.length cs4] 27)).alloc (.cells #[.slice gp2 gn2 gc2, .int .i64 (rdF (m + 1) B2 ha2 hr2).1.2] 34)).cell? ⟨W14.heap.size + 1, 0, .none⟩ = some (.slice gp2 gn2 gc2) := World.cell?_alloc_at _ _ _ _ (by simp only [World.size_alloc])
  have f1 : ((W14.alloc (.cells #[.int .u64 (enO (m + 1) B2 ha2 hr2), .slice q4 E4.length cs4] 27)).alloc (.cells #[.slice gp2 gn2 gc2, .int .i64 (rdF (m + 1) B2 ha2 hr2).1.2] 34)).cell? ⟨W14.heap.size + 1, 1, .none⟩ = some (.int .i64 (rdF (m + 1) B2 ha2 hr2).1.2) := World.cell?_alloc_at _ _ _ _ (by simp only [World.size_alloc])
  generalize ((W14.alloc (.cells #[.int .u64 (enO (m + 1) B2 ha2 hr2), .slice q4 E4.length cs4] 27)).alloc (.cells #[.slice gp2 gn2 gc2, .int .i64 (rdF (m + 1) B2 ha2 hr2).1.2] 34)) = W15 at *
  have k1315 : Below W13.heap.size W13 W15 := hb14.trans (k145.mono hb14.size)
  have k1215 : Below W12.heap.size W12 W15 := hk13.trans (k1315.mono hk13.size)
  have kn15 : Below Wn.heap.size Wn W15 := kn13.trans (k1315.mono kn13.size)
  have HT15 : Hid (Two W15 W12.heap.size W14.heap.size Wn.heap.size W13.heap.size (enO (m + 1) B2 ha2 hr2) q3 cs3 E3 q4 cs4 E4 B2) := ⟨(k1315.cell (lt_of_cell p0)).trans p0, (k1315.cell (lt_of_cell p1)).trans p1, b0, b1, hS3.below k1215, hS4.below k145, hE3.trans hE4.symm, hl3⟩
  have HO15 : Hid (Two W15 W2.heap.size W4.heap.size W1.heap.size W3.heap.size (enO (m + 1) B ha hr) q1 cs1 E1 q2 cs2 E2 B) := HT11.out.below kn15
  have HV15 : Hid (((rdF (m + 1) B2 ha2 hr2).1.2 ≠ 0 ∧ FaultIn W15 0 v3 (rdF (m + 1) B2 ha2 hr2).1.1 (rdF (m + 1) B2 ha2 hr2).1.2) ∨ ((rdF (m + 1) B2 ha2 hr2).1.2 = 0 ∧ v3 = .nilIface)) := by
    rcases hv3 with ⟨h1, h2⟩ | h1
    · exact .inl ⟨h1, h2.below k1215⟩
    · exact .inr h1
  have HR15 : Hid (RefR W15 (.agg #[.slice gp2 gn2 gc2, .int .i64 (rdF (m + 1) B2 ha2 hr2).1.2]) (rdF (m + 1) B2 ha2 hr2).1.1 (rdF (m + 1) B2 ha2 hr2).1.2) := hR4.below k145
  have HK15 : Hid (Below W.heap.size W W15) := HK11.out.trans (kn15.mono HK11.out.size)
  clear hE3 hE4 hS3 hS4 hl3 hl4 hR4 hv3 hb12 hk13 hb14 k145 k1315 k1215 kn15 kn13 p0 p1 b0 b1 HT11 HRd
  go_wp2_with fail
  refine (isR_any v3 _ _ _ W15 HV15.out HR15.out).mono ?_
  rintro e W16 ⟨rfl, hb16⟩
  have HT16 := HT15.out.below hb16
  have HO16 : Hid (Two W16 W2.heap.size W4.heap.size W1.heap.size W3.heap.size (enO (m + 1) B ha hr) q1 cs1 E1 q2 cs2 E2 B) := HO15.out.below hb16
  have HK16 : Hid (Below W.heap.size W W16) := HK15.out.trans (hb16.mono HK15.out.size)
  have a0 := HT16.a0
  have a1 := HT16.a1
  have b0 := HT16.b0
  have b1 := HT16.b1
  have c8 := HT16.same
  clear f0 f1 hb16 HT16 HT15 HO15 HK15 HV15 HR15
  go_wp2_with fail
  refine c8.mono ?_
  rintro e W17 ⟨rfl, hb17⟩
  have HO17 := HO16.out.below hb17
  have HK17 : Hid (Below W.heap.size W W17) := HK16.out.trans (hb17.mono HK16.out.size)
  clear a0 a1 b0 b1 c8 hb17 HO16 HK16
  have a0 := HO17.a0
  have a1 := HO17.a1
  have b0 := HO17.b0
  have b1 := HO17.b1
  have c8 := HO17.same
  clear HO17
  go_wp2_with fail
  refine c8.mono ?_
  rintro e W18 ⟨rfl, hb18⟩
  clear a0 a1 b0 b1 c8
  have HK18 : Hid (Below W.heap.size W W18) := HK17.out.trans (hb18.mono HK17.out.size)
  go_wp2_with fail
  go_ret
  exact ⟨rfl, HK18.out⟩
end Go.Proofs.YtlknafmohonodaaDoor
