import Derived.Test.YtblpdnchphhcaaaDoorBo
namespace Go.Proofs.YtblpdnchphhcaaaDoor
open Go.RowKit
set_option linter.unusedVariables false
set_option linter.unusedSimpArgs false
section
variable {w : World} {d X : Nat} {vD vL : Value} {dn ln : List Int} {g : Nat}
set_option maxHeartbeats 2000000 in
theorem typed_full (h : Bok w d X vD vL dn ln g) (x : Int) (hx : x ≠ 21 ∧ x ≠ 8 ∧ x ≠ 127 ∧ x ≠ 0) (hf : 128 ≤ dn.length - g + ln.length) (hs : dn.length + ln.length ≤ 100000) : Calls Tryd.prog 16 #[.pointer (some ⟨d, 0, .none⟩), .int .u8 x] w (BokT w d X dn ln dn ln g) := by
  obtain ⟨pL, cL, rfl⟩ := one_slice h.rL
  obtain ⟨pD, cD, rfl⟩ := one_slice h.rD
  have c0 := h.c0
  have c1 := h.c1
  have c2 := h.c2
  have hg := h.gl
  have HB : Hid (Bok w d X (.slice pD dn.length cD) (.slice pL ln.length cL) dn ln g) := h
  have i1 : (x == 21) = false := by simp; omega
  have i2 : (x == 8) = false := by simp; omega
  have i3 : (x == 127) = false := by simp; omega
  have i4 : (x == 0) = false := by simp; omega
  generalize dn.length = D at *
  generalize ln.length = L at *
  have hge : (128 : Int) ≤ (D : Int) - g + L := by omega
  clear h hx
  go_enter Tryd.func16, Tryd.ntmps16
  go_wp2
  go_region
  go_wp2
  go_end0
  exact ⟨⟨_, rfl⟩, ⟨_, _, HB.out.drewN 1⟩, ⟨rfl, rfl, rfl, Nat.le_refl _, fun _ _ => rfl⟩⟩
set_option maxHeartbeats 8000000 in
theorem typed_cr (h : Bok w d X vD vL dn ln g) (hf : dn.length - g + ln.length < 128) (hs : dn.length + ln.length ≤ 100000) :
    Calls Tryd.prog 16 #[.pointer (some ⟨d, 0, .none⟩), .int .u8 13] w (BokT w d X dn ln (if (10 : Int) = 10 ∨ (10 : Int) = 4 ∨ dn.length - g + ln.length + 1 = 128 then dn ++ (ln ++ [10]) else dn) (if (10 : Int) = 10 ∨ (10 : Int) = 4 ∨ dn.length - g + ln.length + 1 = 128 then [] else ln ++ [10]) g) := by
  obtain ⟨dn', hdn'⟩ : ∃ z, z = if (10 : Int) = 10 ∨ (10 : Int) = 4 ∨ dn.length - g + ln.length + 1 = 128 then dn ++ (ln ++ [10]) else dn := ⟨_, rfl⟩
  obtain ⟨ln', hln'⟩ : ∃ z, z = if (10 : Int) = 10 ∨ (10 : Int) = 4 ∨ dn.length - g + ln.length + 1 = 128 then [] else ln ++ [10] := ⟨_, rfl⟩
  rw [← hdn', ← hln']
  obtain ⟨pL, cL, rfl⟩ := one_slice h.rL
  obtain ⟨pD, cD, rfl⟩ := one_slice h.rD
  have c0 := h.c0
  have c1 := h.c1
  have c2 := h.c2
  have hg := h.gl
  have HB : Hid (Bok w d X (.slice pD dn.length cD) (.slice pL ln.length cL) dn ln g) := h
  obtain ⟨D, hD⟩ : ∃ D, D = dn.length := ⟨_, rfl⟩
  obtain ⟨L, hL⟩ : ∃ L, L = ln.length := ⟨_, rfl⟩
  have HDL : Hid (D = dn.length ∧ L = ln.length) := ⟨hD, hL⟩
  have HP : Hid (dn' = (if (10 : Int) = 10 ∨ (10 : Int) = 4 ∨ D - g + L + 1 = 128 then dn ++ (ln ++ [10]) else dn) ∧ ln' = (if (10 : Int) = 10 ∨ (10 : Int) = 4 ∨ D - g + L + 1 = 128 then [] else ln ++ [10])) := by rw [hD, hL]; exact ⟨hdn', hln'⟩
  rw [← hD] at c0 hg hf hs
  rw [← hL] at c2 hf hs
  have hge : ¬ (128 : Int) ≤ (D : Int) - g + L := by omega
  have RW : Hid ((w.drew.alloc (.cells #[.int .u8 10] 5)).ownsRow X 5 1 (.slice pL L cL) L (by8 ln)) := by
    have := (h.drewN 1).rL.alloc (.cells #[.int .u8 10] 5)
    rw [← hL] at this
    exact this
  have BN2 : Hid (Byt (w.drew.alloc (.cells #[.int .u8 10] 5)) (some ⟨w.drew.heap.size, 0, .none⟩) 1 1 [10]) := byt_own (own_one w.drew 10)
  have BL : Hid (Below w.heap.size w (w.drew.alloc (.cells #[.int .u8 10] 5))) := (⟨rfl, rfl, rfl, Nat.le_refl _, fun _ _ => rfl⟩ : Below w.heap.size w w.drew).trans (Trn.new w.drew _)
  have z1 : X ≤ (w.drew.alloc (.cells #[.int .u8 10] 5)).heap.size := Nat.le_trans h.Xw BL.out.size
  clear h hD hL hdn' hln' 
  go_enter Tryd.func16, Tryd.ntmps16
  go_wp2
  go_region
  go_wp2_with (first | (at_builtin; refine wpList_app rfl _ _ rfl X (.slice pL L cL) L ln rfl (some ⟨w.drew.heap.size, 0, .none⟩) 1 1 [10] rfl RW.out BN2.out ?c4 z1 ?_) | go_in)
  case c4 => omega
  intro v' W4 own4 grow4 sof4
  obtain ⟨p4, c4, rfl⟩ := one_slice own4
  have cg : Chg (fun k => (Value.slice pL L cL).ownBlock = some k) w W4 := (Chg.ofBelow BL.out).trans (Chg.ofGrown grow4) (fun _ _ h => h)
  have HL1 : Hid ((ln ++ [10]).length = L + 1) := by show _ = _; simp [HDL.out.2]
  have H4 : Hid (∃ q : Bok (W4.setCell ⟨d, 2, .none⟩ (.slice p4 (L + 1) c4)) d X (.slice pD D cD) (.slice p4 (L + 1) c4) dn (ln ++ [10]) g, Below X w (W4.setCell ⟨d, 2, .none⟩ (.slice p4 (L + 1) c4))) := by
    have hb := HB.out
    have ew : (Value.slice pL ln.length cL) = .slice pL L cL := by rw [HDL.out.2]
    have eD : (Value.slice pD dn.length cD) = .slice pD D cD := by rw [HDL.out.1]
    rw [ew, eD] at hb
    have b2 : Below X w W4 := cg.toTrn hb.Xw (fun k hk e => by have := own_block hb.rL k e; omega)
    have t0 : W4.cell? ⟨d, 0, .none⟩ = some (.slice pD D cD) := (cg.cell (p := ⟨d, 0, .none⟩) hb.lt (fun e => (hb.aL d e) rfl)).trans hb.c0
    have t1 : W4.cell? ⟨d, 1, .none⟩ = some (.int .i64 g) := (cg.cell (p := ⟨d, 1, .none⟩) hb.lt (fun e => (hb.aL d e) rfl)).trans hb.c1
    have t2 : W4.cell? ⟨d, 2, .none⟩ = some (.slice pL L cL) := (cg.cell (p := ⟨d, 2, .none⟩) hb.lt (fun e => (hb.aL d e) rfl)).trans hb.c2
    have tf : ∀ i, W4.frozen? ⟨d, i, .none⟩ = false := fun i => (cg.frozen (p := ⟨d, i, .none⟩) hb.lt (fun e => (hb.aL d e) rfl)).trans (hb.fz i)
    have rD : W4.ownsRow X 5 1 (.slice pD D cD) dn.length (by8 dn) := cg.own hb.rD (fun k hk e => (hb.aD k hk).2 e)
    have v4 : ∀ k, (Value.slice p4 (L + 1) c4).ownBlock = some k → k ≠ d ∧ (Value.slice pD D cD).ownBlock ≠ some k := fun k hk => by
      rcases sof4 k hk with h1 | h1
      · exact ⟨hb.aL k h1, fun e => (hb.aD k e).2 h1⟩
      · have := BL.out.size
        have hlt := hb.lt
        refine ⟨by omega, fun e => ?_⟩
        have := own_ltC hb.rD k e
        omega
    have f4 : ∀ i, (W4.setCell ⟨d, 2, .none⟩ (.slice p4 (L + 1) c4)).frozen? ⟨d, i, .none⟩ = false := fun i => (World.frozen?_setCells d [.slice p4 (L + 1) c4] 2 W4 ⟨d, i, .none⟩).trans (tf i)
    refine ⟨⟨cell_off t0 _ _ (by decide), cell_off t1 _ _ (by decide), cell_one t2 _, f4, own_setd rD (fun k hk => (hb.aD k hk).1) _, ?_, fun k hk => ⟨(hb.aD k hk).1, fun e => (v4 k e).2 hk⟩, fun k hk => (v4 k hk).1, hb.gl, hb.Xd, by simp [World.setCell]; exact Nat.le_trans hb.Xw cg.size⟩, b2.trans ((Trn.setCell d 2 _ W4).toBelow hb.Xd (Nat.le_trans hb.Xw cg.size))⟩
    rw [HL1.out]
    exact own_setd own4 (fun k hk => (v4 k hk).1) _
  have t2 : W4.cell? ⟨d, 2, .none⟩ = some (.slice pL ln.length cL) := (cg.cell (p := ⟨d, 2, .none⟩) HB.out.lt (fun e => HB.out.aL d (by rw [← HDL.out.2]; exact e) rfl)).trans HB.out.c2
  have tf : W4.frozen? ⟨d, 2, .none⟩ = false := (cg.frozen (p := ⟨d, 2, .none⟩) HB.out.lt (fun e => HB.out.aL d (by rw [← HDL.out.2]; exact e) rfl)).trans (HB.out.fz 2)
  clear own4 grow4 sof4 cg c0 c1 c2 RW BN2 BL z1
  go_upto_region 12 with fail
  generalize W4.setCell ⟨d, 2, .none⟩ (.slice p4 (L + 1) c4) = W5 at *
  obtain ⟨q5, q6⟩ := H4.out
  have H5 : Hid (Bok W5 d X (.slice pD D cD) (.slice p4 (L + 1) c4) dn (ln ++ [10]) g ∧ Below X w W5) := ⟨q5, q6⟩
  clear q5 q6 H4 t2 tf
  have c0 := H5.out.1.c0
  have c1 := H5.out.1.c1
  have c2 := H5.out.1.c2
  have P0 : Hid ((10 : Int) = 10 ∨ (10 : Int) = 4 ∨ D - g + L + 1 = 128) := .inl rfl
  have H6 : Hid (Bok W5.drew d X (.slice pD D cD) (.slice p4 (L + 1) c4) dn (ln ++ [10]) g ∧ Below X w W5.drew) := ⟨H5.out.1.drewN 1, H5.out.2.trans ⟨rfl, rfl, rfl, Nat.le_refl _, fun _ _ => rfl⟩⟩
  go_region
  go_upto_region 13 with fail
  generalize W5.drew = W6 at *
  have RD : Hid (W6.drew.ownsRow X 5 1 (.slice pD D cD) D (by8 dn)) := by
    have := (H6.out.1.drewN 1).rD
    rw [← HDL.out.1] at this
    exact this
  have BLn : Hid (Byt W6.drew p4 (L + 1) c4 (ln ++ [10])) := by
    have := (H6.out.1.drewN 1).rL
    rw [HL1.out] at this
    exact byt_own this
  have k0 := H6.out.1.c0
  have k2 := H6.out.1.c2
  have zz : X ≤ W6.drew.heap.size := H6.out.1.Xw
  have zs : D + (L + 1) ≤ 140737488355328 := by omega
  have ZZ : Hid (X ≤ W6.drew.heap.size ∧ D + (L + 1) ≤ 140737488355328) := ⟨zz, zs⟩
  have KEY : Hid (∀ v' W7, W7.ownsRow X 5 1 v' (D + (L + 1)) (by8 (dn ++ (ln ++ [10]))) → W6.drew.grownBy W7 (Value.slice pD D cD).ownBlock → (∀ k, v'.ownBlock = some k → (Value.slice pD D cD).ownBlock = some k ∨ W6.drew.heap.size ≤ k) → Bok (W7.setCell ⟨d, 0, .none⟩ v') d X v' (.slice p4 (L + 1) c4) (dn ++ (ln ++ [10])) (ln ++ [10]) g ∧ Below X w (W7.setCell ⟨d, 0, .none⟩ v') ∧ W7.cell? ⟨d, 0, .none⟩ = some (.slice pD D cD) ∧ W7.frozen? ⟨d, 0, .none⟩ = false) := fun v' W7 own7 grow7 sof7 => by
    have hb := H6.out.1.drewN 1
    have cg : Chg (fun k => (Value.slice pD D cD).ownBlock = some k) (W6.drewN 1) W7 := Chg.ofGrown grow7
    have nd : ¬ ((Value.slice pD D cD).ownBlock = some d) := fun e => (hb.aD d e).1 rfl
    have b2 : Below X (W6.drewN 1) W7 := cg.toTrn hb.Xw (fun k hk e => by have := own_block hb.rD k e; omega)
    have t0 : W7.cell? ⟨d, 0, .none⟩ = some (.slice pD D cD) := (cg.cell (p := ⟨d, 0, .none⟩) hb.lt nd).trans hb.c0
    have t1 : W7.cell? ⟨d, 1, .none⟩ = some (.int .i64 g) := (cg.cell (p := ⟨d, 1, .none⟩) hb.lt nd).trans hb.c1
    have t2 : W7.cell? ⟨d, 2, .none⟩ = some (.slice p4 (L + 1) c4) := (cg.cell (p := ⟨d, 2, .none⟩) hb.lt nd).trans hb.c2
    have tf : ∀ i, W7.frozen? ⟨d, i, .none⟩ = false := fun i => (cg.frozen (p := ⟨d, i, .none⟩) hb.lt nd).trans (hb.fz i)
    have rL : W7.ownsRow X 5 1 (.slice p4 (L + 1) c4) (ln ++ [10]).length (by8 (ln ++ [10])) := cg.own hb.rL (fun k hk e => (hb.aD k e).2 hk)
    have v7 : ∀ k, v'.ownBlock = some k → k ≠ d ∧ (Value.slice p4 (L + 1) c4).ownBlock ≠ some k := fun k hk => by
      rcases sof7 k hk with h1 | h1
      · exact hb.aD k h1
      · have h1 : (W6.drewN 1).heap.size ≤ k := h1
        have hlt := hb.lt
        refine ⟨by intro e; subst e; exact absurd h1 (by omega), fun e => ?_⟩
        have := own_ltC hb.rL k e
        omega
    have f7 : ∀ i, (W7.setCell ⟨d, 0, .none⟩ v').frozen? ⟨d, i, .none⟩ = false := fun i => (World.frozen?_setCells d [v'] 0 W7 ⟨d, i, .none⟩).trans (tf i)
    have el : (dn ++ (ln ++ [10])).length = D + (L + 1) := by rw [List.length_append, HL1.out, ← HDL.out.1]
    refine ⟨⟨cell_one t0 _, cell_off t1 _ _ (by decide), cell_off t2 _ _ (by decide), f7, ?_, own_setd rL hb.aL _, v7, hb.aL, by rw [el]; omega, hb.Xd, by simp [World.setCell]; exact Nat.le_trans hb.Xw cg.size⟩, H6.out.2.trans ((⟨rfl, rfl, rfl, Nat.le_refl _, fun _ _ => rfl⟩ : Below X W6 (W6.drewN 1)).trans (b2.trans ((Trn.setCell d 0 _ W7).toBelow hb.Xd (Nat.le_trans hb.Xw cg.size)))), t0, tf 0⟩
    rw [el]
    exact own_setd own7 (fun k hk => (v7 k hk).1) _
  go_region_law (refine step_app rfl (.tmp 93) (.tmp 97) rfl X (.slice pD D cD) D dn (by simp [Act.eval, Act.put]) p4 (L + 1) c4 (ln ++ [10]) (by simp [Act.eval, Act.put]) RD.out BLn.out ZZ.out.2 ZZ.out.1 ?_; intro v' W7 own7 grow7 sof7; obtain ⟨p7, c7, rfl⟩ := one_slice own7; have hk7 := KEY.out (.slice p7 (D + (L + 1)) c7) W7 own7 grow7 sof7; have s0 := hk7.2.2.1; have s1 := hk7.2.2.2)
  all_goals (
    have H7 : Hid (Bok (W7.setCell ⟨d, 0, .none⟩ (.slice p7 (D + (L + 1)) c7)) d X (.slice p7 (D + (L + 1)) c7) (.slice p4 (L + 1) c4) (dn ++ (ln ++ [10])) (ln ++ [10]) g ∧ Below X w (W7.setCell ⟨d, 0, .none⟩ (.slice p7 (D + (L + 1)) c7))) := ⟨hk7.1, hk7.2.1⟩
    clear hk7 own7 grow7 sof7 s0 s1 k0 k2
    generalize W7.setCell ⟨d, 0, .none⟩ (.slice p7 (D + (L + 1)) c7) = W8 at *
    have n2 := H7.out.1.c2
    have nf := H7.out.1.fz 2
    go_wp2
    go_end0
    have q := H7.out.1.setL (.slice none 0 0) [] (World.ownsRow_nil _ _ _ _) (fun k hk => by cases hk)
    refine ⟨⟨_, rfl⟩, ⟨.slice p7 (D + (L + 1)) c7, .slice none 0 0, ?_⟩, H7.out.2.trans (bel_set H7.out.1 _ _)⟩
    rw [HP.out.1, HP.out.2, if_pos P0.out, if_pos P0.out]
    exact q)
set_option maxHeartbeats 8000000 in
theorem typed_add (h : Bok w d X vD vL dn ln g) (x : Int) (hx : x ≠ 21 ∧ x ≠ 8 ∧ x ≠ 127 ∧ x ≠ 0 ∧ x ≠ 13) (hf : dn.length - g + ln.length < 128) (hs : dn.length + ln.length ≤ 100000) :
    Calls Tryd.prog 16 #[.pointer (some ⟨d, 0, .none⟩), .int .u8 x] w (BokT w d X dn ln (if (x : Int) = 10 ∨ (x : Int) = 4 ∨ dn.length - g + ln.length + 1 = 128 then dn ++ (ln ++ [x]) else dn) (if (x : Int) = 10 ∨ (x : Int) = 4 ∨ dn.length - g + ln.length + 1 = 128 then [] else ln ++ [x]) g) := by
  obtain ⟨dn', hdn'⟩ : ∃ z, z = if (x : Int) = 10 ∨ (x : Int) = 4 ∨ dn.length - g + ln.length + 1 = 128 then dn ++ (ln ++ [x]) else dn := ⟨_, rfl⟩
  obtain ⟨ln', hln'⟩ : ∃ z, z = if (x : Int) = 10 ∨ (x : Int) = 4 ∨ dn.length - g + ln.length + 1 = 128 then [] else ln ++ [x] := ⟨_, rfl⟩
  rw [← hdn', ← hln']
  obtain ⟨pL, cL, rfl⟩ := one_slice h.rL
  obtain ⟨pD, cD, rfl⟩ := one_slice h.rD
  have c0 := h.c0
  have c1 := h.c1
  have c2 := h.c2
  have hg := h.gl
  have HB : Hid (Bok w d X (.slice pD dn.length cD) (.slice pL ln.length cL) dn ln g) := h
  have i1 : (x == 21) = false := by simp; omega
  have i2 : (x == 8) = false := by simp; omega
  have i3 : (x == 127) = false := by simp; omega
  have i4 : (x == 0) = false := by simp; omega
  have i5 : (x == 13) = false := by simp; omega
  obtain ⟨D, hD⟩ : ∃ D, D = dn.length := ⟨_, rfl⟩
  obtain ⟨L, hL⟩ : ∃ L, L = ln.length := ⟨_, rfl⟩
  have HDL : Hid (D = dn.length ∧ L = ln.length) := ⟨hD, hL⟩
  have HP : Hid (dn' = (if (x : Int) = 10 ∨ (x : Int) = 4 ∨ D - g + L + 1 = 128 then dn ++ (ln ++ [x]) else dn) ∧ ln' = (if (x : Int) = 10 ∨ (x : Int) = 4 ∨ D - g + L + 1 = 128 then [] else ln ++ [x])) := by rw [hD, hL]; exact ⟨hdn', hln'⟩
  rw [← hD] at c0 hg hf hs
  rw [← hL] at c2 hf hs
  have hge : ¬ (128 : Int) ≤ (D : Int) - g + L := by omega
  have RW : Hid ((w.drew.alloc (.cells #[.int .u8 x] 5)).ownsRow X 5 1 (.slice pL L cL) L (by8 ln)) := by
    have := (h.drewN 1).rL.alloc (.cells #[.int .u8 x] 5)
    rw [← hL] at this
    exact this
  have BN2 : Hid (Byt (w.drew.alloc (.cells #[.int .u8 x] 5)) (some ⟨w.drew.heap.size, 0, .none⟩) 1 1 [x]) := byt_own (own_one w.drew x)
  have BL : Hid (Below w.heap.size w (w.drew.alloc (.cells #[.int .u8 x] 5))) := (⟨rfl, rfl, rfl, Nat.le_refl _, fun _ _ => rfl⟩ : Below w.heap.size w w.drew).trans (Trn.new w.drew _)
  have z1 : X ≤ (w.drew.alloc (.cells #[.int .u8 x] 5)).heap.size := Nat.le_trans h.Xw BL.out.size
  clear h hD hL hdn' hln' hx
  go_enter Tryd.func16, Tryd.ntmps16
  go_wp2
  go_region
  go_wp2_with (first | (at_builtin; refine wpList_app rfl _ _ rfl X (.slice pL L cL) L ln rfl (some ⟨w.drew.heap.size, 0, .none⟩) 1 1 [x] rfl RW.out BN2.out ?c4 z1 ?_) | go_in)
  case c4 => omega
  intro v' W4 own4 grow4 sof4
  obtain ⟨p4, c4, rfl⟩ := one_slice own4
  have cg : Chg (fun k => (Value.slice pL L cL).ownBlock = some k) w W4 := (Chg.ofBelow BL.out).trans (Chg.ofGrown grow4) (fun _ _ h => h)
  have HL1 : Hid ((ln ++ [x]).length = L + 1) := by show _ = _; simp [HDL.out.2]
  have H4 : Hid (∃ q : Bok (W4.setCell ⟨d, 2, .none⟩ (.slice p4 (L + 1) c4)) d X (.slice pD D cD) (.slice p4 (L + 1) c4) dn (ln ++ [x]) g, Below X w (W4.setCell ⟨d, 2, .none⟩ (.slice p4 (L + 1) c4))) := by
    have hb := HB.out
    have ew : (Value.slice pL ln.length cL) = .slice pL L cL := by rw [HDL.out.2]
    have eD : (Value.slice pD dn.length cD) = .slice pD D cD := by rw [HDL.out.1]
    rw [ew, eD] at hb
    have b2 : Below X w W4 := cg.toTrn hb.Xw (fun k hk e => by have := own_block hb.rL k e; omega)
    have t0 : W4.cell? ⟨d, 0, .none⟩ = some (.slice pD D cD) := (cg.cell (p := ⟨d, 0, .none⟩) hb.lt (fun e => (hb.aL d e) rfl)).trans hb.c0
    have t1 : W4.cell? ⟨d, 1, .none⟩ = some (.int .i64 g) := (cg.cell (p := ⟨d, 1, .none⟩) hb.lt (fun e => (hb.aL d e) rfl)).trans hb.c1
    have t2 : W4.cell? ⟨d, 2, .none⟩ = some (.slice pL L cL) := (cg.cell (p := ⟨d, 2, .none⟩) hb.lt (fun e => (hb.aL d e) rfl)).trans hb.c2
    have tf : ∀ i, W4.frozen? ⟨d, i, .none⟩ = false := fun i => (cg.frozen (p := ⟨d, i, .none⟩) hb.lt (fun e => (hb.aL d e) rfl)).trans (hb.fz i)
    have rD : W4.ownsRow X 5 1 (.slice pD D cD) dn.length (by8 dn) := cg.own hb.rD (fun k hk e => (hb.aD k hk).2 e)
    have v4 : ∀ k, (Value.slice p4 (L + 1) c4).ownBlock = some k → k ≠ d ∧ (Value.slice pD D cD).ownBlock ≠ some k := fun k hk => by
      rcases sof4 k hk with h1 | h1
      · exact ⟨hb.aL k h1, fun e => (hb.aD k e).2 h1⟩
      · have := BL.out.size
        have hlt := hb.lt
        refine ⟨by omega, fun e => ?_⟩
        have := own_ltC hb.rD k e
        omega
    have f4 : ∀ i, (W4.setCell ⟨d, 2, .none⟩ (.slice p4 (L + 1) c4)).frozen? ⟨d, i, .none⟩ = false := fun i => (World.frozen?_setCells d [.slice p4 (L + 1) c4] 2 W4 ⟨d, i, .none⟩).trans (tf i)
    refine ⟨⟨cell_off t0 _ _ (by decide), cell_off t1 _ _ (by decide), cell_one t2 _, f4, own_setd rD (fun k hk => (hb.aD k hk).1) _, ?_, fun k hk => ⟨(hb.aD k hk).1, fun e => (v4 k e).2 hk⟩, fun k hk => (v4 k hk).1, hb.gl, hb.Xd, by simp [World.setCell]; exact Nat.le_trans hb.Xw cg.size⟩, b2.trans ((Trn.setCell d 2 _ W4).toBelow hb.Xd (Nat.le_trans hb.Xw cg.size))⟩
    rw [HL1.out]
    exact own_setd own4 (fun k hk => (v4 k hk).1) _
  have t2 : W4.cell? ⟨d, 2, .none⟩ = some (.slice pL ln.length cL) := (cg.cell (p := ⟨d, 2, .none⟩) HB.out.lt (fun e => HB.out.aL d (by rw [← HDL.out.2]; exact e) rfl)).trans HB.out.c2
  have tf : W4.frozen? ⟨d, 2, .none⟩ = false := (cg.frozen (p := ⟨d, 2, .none⟩) HB.out.lt (fun e => HB.out.aL d (by rw [← HDL.out.2]; exact e) rfl)).trans (HB.out.fz 2)
  clear own4 grow4 sof4 cg c0 c1 c2 RW BN2 BL z1
  go_upto_region 12 with fail
  generalize W4.setCell ⟨d, 2, .none⟩ (.slice p4 (L + 1) c4) = W5 at *
  obtain ⟨q5, q6⟩ := H4.out
  have H5 : Hid (Bok W5 d X (.slice pD D cD) (.slice p4 (L + 1) c4) dn (ln ++ [x]) g ∧ Below X w W5) := ⟨q5, q6⟩
  clear q5 q6 H4 t2 tf
  have c0 := H5.out.1.c0
  have c1 := H5.out.1.c1
  have c2 := H5.out.1.c2
  by_cases h10 : x = 10
  · subst h10
    clear i1 i2 i3 i4 i5
    have P0 : Hid ((10 : Int) = 10 ∨ (10 : Int) = 4 ∨ D - g + L + 1 = 128) := .inl rfl
    have H6 : Hid (Bok W5.drew d X (.slice pD D cD) (.slice p4 (L + 1) c4) dn (ln ++ [10]) g ∧ Below X w W5.drew) := ⟨H5.out.1.drewN 1, H5.out.2.trans ⟨rfl, rfl, rfl, Nat.le_refl _, fun _ _ => rfl⟩⟩
    go_region
    go_upto_region 13 with fail
    generalize W5.drew = W6 at *
    have RD : Hid (W6.drew.ownsRow X 5 1 (.slice pD D cD) D (by8 dn)) := by
      have := (H6.out.1.drewN 1).rD
      rw [← HDL.out.1] at this
      exact this
    have BLn : Hid (Byt W6.drew p4 (L + 1) c4 (ln ++ [10])) := by
      have := (H6.out.1.drewN 1).rL
      rw [HL1.out] at this
      exact byt_own this
    have k0 := H6.out.1.c0
    have k2 := H6.out.1.c2
    have zz : X ≤ W6.drew.heap.size := H6.out.1.Xw
    have zs : D + (L + 1) ≤ 140737488355328 := by omega
    have ZZ : Hid (X ≤ W6.drew.heap.size ∧ D + (L + 1) ≤ 140737488355328) := ⟨zz, zs⟩
    have KEY : Hid (∀ v' W7, W7.ownsRow X 5 1 v' (D + (L + 1)) (by8 (dn ++ (ln ++ [10]))) → W6.drew.grownBy W7 (Value.slice pD D cD).ownBlock → (∀ k, v'.ownBlock = some k → (Value.slice pD D cD).ownBlock = some k ∨ W6.drew.heap.size ≤ k) → Bok (W7.setCell ⟨d, 0, .none⟩ v') d X v' (.slice p4 (L + 1) c4) (dn ++ (ln ++ [10])) (ln ++ [10]) g ∧ Below X w (W7.setCell ⟨d, 0, .none⟩ v') ∧ W7.cell? ⟨d, 0, .none⟩ = some (.slice pD D cD) ∧ W7.frozen? ⟨d, 0, .none⟩ = false) := fun v' W7 own7 grow7 sof7 => by
      have hb := H6.out.1.drewN 1
      have cg : Chg (fun k => (Value.slice pD D cD).ownBlock = some k) (W6.drewN 1) W7 := Chg.ofGrown grow7
      have nd : ¬ ((Value.slice pD D cD).ownBlock = some d) := fun e => (hb.aD d e).1 rfl
      have b2 : Below X (W6.drewN 1) W7 := cg.toTrn hb.Xw (fun k hk e => by have := own_block hb.rD k e; omega)
      have t0 : W7.cell? ⟨d, 0, .none⟩ = some (.slice pD D cD) := (cg.cell (p := ⟨d, 0, .none⟩) hb.lt nd).trans hb.c0
      have t1 : W7.cell? ⟨d, 1, .none⟩ = some (.int .i64 g) := (cg.cell (p := ⟨d, 1, .none⟩) hb.lt nd).trans hb.c1
      have t2 : W7.cell? ⟨d, 2, .none⟩ = some (.slice p4 (L + 1) c4) := (cg.cell (p := ⟨d, 2, .none⟩) hb.lt nd).trans hb.c2
      have tf : ∀ i, W7.frozen? ⟨d, i, .none⟩ = false := fun i => (cg.frozen (p := ⟨d, i, .none⟩) hb.lt nd).trans (hb.fz i)
      have rL : W7.ownsRow X 5 1 (.slice p4 (L + 1) c4) (ln ++ [10]).length (by8 (ln ++ [10])) := cg.own hb.rL (fun k hk e => (hb.aD k e).2 hk)
      have v7 : ∀ k, v'.ownBlock = some k → k ≠ d ∧ (Value.slice p4 (L + 1) c4).ownBlock ≠ some k := fun k hk => by
        rcases sof7 k hk with h1 | h1
        · exact hb.aD k h1
        · have h1 : (W6.drewN 1).heap.size ≤ k := h1
          have hlt := hb.lt
          refine ⟨by intro e; subst e; exact absurd h1 (by omega), fun e => ?_⟩
          have := own_ltC hb.rL k e
          omega
      have f7 : ∀ i, (W7.setCell ⟨d, 0, .none⟩ v').frozen? ⟨d, i, .none⟩ = false := fun i => (World.frozen?_setCells d [v'] 0 W7 ⟨d, i, .none⟩).trans (tf i)
      have el : (dn ++ (ln ++ [10])).length = D + (L + 1) := by rw [List.length_append, HL1.out, ← HDL.out.1]
      refine ⟨⟨cell_one t0 _, cell_off t1 _ _ (by decide), cell_off t2 _ _ (by decide), f7, ?_, own_setd rL hb.aL _, v7, hb.aL, by rw [el]; omega, hb.Xd, by simp [World.setCell]; exact Nat.le_trans hb.Xw cg.size⟩, H6.out.2.trans ((⟨rfl, rfl, rfl, Nat.le_refl _, fun _ _ => rfl⟩ : Below X W6 (W6.drewN 1)).trans (b2.trans ((Trn.setCell d 0 _ W7).toBelow hb.Xd (Nat.le_trans hb.Xw cg.size)))), t0, tf 0⟩
      rw [el]
      exact own_setd own7 (fun k hk => (v7 k hk).1) _
    go_region_law (refine step_app rfl (.tmp 93) (.tmp 97) rfl X (.slice pD D cD) D dn (by simp [Act.eval, Act.put]) p4 (L + 1) c4 (ln ++ [10]) (by simp [Act.eval, Act.put]) RD.out BLn.out ZZ.out.2 ZZ.out.1 ?_; intro v' W7 own7 grow7 sof7; obtain ⟨p7, c7, rfl⟩ := one_slice own7; have hk7 := KEY.out (.slice p7 (D + (L + 1)) c7) W7 own7 grow7 sof7; have s0 := hk7.2.2.1; have s1 := hk7.2.2.2)
    all_goals (
      have H7 : Hid (Bok (W7.setCell ⟨d, 0, .none⟩ (.slice p7 (D + (L + 1)) c7)) d X (.slice p7 (D + (L + 1)) c7) (.slice p4 (L + 1) c4) (dn ++ (ln ++ [10])) (ln ++ [10]) g ∧ Below X w (W7.setCell ⟨d, 0, .none⟩ (.slice p7 (D + (L + 1)) c7))) := ⟨hk7.1, hk7.2.1⟩
      clear hk7 own7 grow7 sof7 s0 s1 k0 k2
      generalize W7.setCell ⟨d, 0, .none⟩ (.slice p7 (D + (L + 1)) c7) = W8 at *
      have n2 := H7.out.1.c2
      have nf := H7.out.1.fz 2
      go_wp2
      go_end0
      have q := H7.out.1.setL (.slice none 0 0) [] (World.ownsRow_nil _ _ _ _) (fun k hk => by cases hk)
      refine ⟨⟨_, rfl⟩, ⟨.slice p7 (D + (L + 1)) c7, .slice none 0 0, ?_⟩, H7.out.2.trans (bel_set H7.out.1 _ _)⟩
      rw [HP.out.1, HP.out.2, if_pos P0.out, if_pos P0.out]
      exact q)
  by_cases h4 : x = 4
  · subst h4
    clear i1 i2 i3 i4 i5
    have P0 : Hid ((4 : Int) = 10 ∨ (4 : Int) = 4 ∨ D - g + L + 1 = 128) := .inr (.inl rfl)
    have H6 : Hid (Bok W5.drew d X (.slice pD D cD) (.slice p4 (L + 1) c4) dn (ln ++ [4]) g ∧ Below X w W5.drew) := ⟨H5.out.1.drewN 1, H5.out.2.trans ⟨rfl, rfl, rfl, Nat.le_refl _, fun _ _ => rfl⟩⟩
    go_region
    go_upto_region 13 with fail
    generalize W5.drew = W6 at *
    have RD : Hid (W6.drew.ownsRow X 5 1 (.slice pD D cD) D (by8 dn)) := by
      have := (H6.out.1.drewN 1).rD
      rw [← HDL.out.1] at this
      exact this
    have BLn : Hid (Byt W6.drew p4 (L + 1) c4 (ln ++ [4])) := by
      have := (H6.out.1.drewN 1).rL
      rw [HL1.out] at this
      exact byt_own this
    have k0 := H6.out.1.c0
    have k2 := H6.out.1.c2
    have zz : X ≤ W6.drew.heap.size := H6.out.1.Xw
    have zs : D + (L + 1) ≤ 140737488355328 := by omega
    have ZZ : Hid (X ≤ W6.drew.heap.size ∧ D + (L + 1) ≤ 140737488355328) := ⟨zz, zs⟩
    have KEY : Hid (∀ v' W7, W7.ownsRow X 5 1 v' (D + (L + 1)) (by8 (dn ++ (ln ++ [4]))) → W6.drew.grownBy W7 (Value.slice pD D cD).ownBlock → (∀ k, v'.ownBlock = some k → (Value.slice pD D cD).ownBlock = some k ∨ W6.drew.heap.size ≤ k) → Bok (W7.setCell ⟨d, 0, .none⟩ v') d X v' (.slice p4 (L + 1) c4) (dn ++ (ln ++ [4])) (ln ++ [4]) g ∧ Below X w (W7.setCell ⟨d, 0, .none⟩ v') ∧ W7.cell? ⟨d, 0, .none⟩ = some (.slice pD D cD) ∧ W7.frozen? ⟨d, 0, .none⟩ = false) := fun v' W7 own7 grow7 sof7 => by
      have hb := H6.out.1.drewN 1
      have cg : Chg (fun k => (Value.slice pD D cD).ownBlock = some k) (W6.drewN 1) W7 := Chg.ofGrown grow7
      have nd : ¬ ((Value.slice pD D cD).ownBlock = some d) := fun e => (hb.aD d e).1 rfl
      have b2 : Below X (W6.drewN 1) W7 := cg.toTrn hb.Xw (fun k hk e => by have := own_block hb.rD k e; omega)
      have t0 : W7.cell? ⟨d, 0, .none⟩ = some (.slice pD D cD) := (cg.cell (p := ⟨d, 0, .none⟩) hb.lt nd).trans hb.c0
      have t1 : W7.cell? ⟨d, 1, .none⟩ = some (.int .i64 g) := (cg.cell (p := ⟨d, 1, .none⟩) hb.lt nd).trans hb.c1
      have t2 : W7.cell? ⟨d, 2, .none⟩ = some (.slice p4 (L + 1) c4) := (cg.cell (p := ⟨d, 2, .none⟩) hb.lt nd).trans hb.c2
      have tf : ∀ i, W7.frozen? ⟨d, i, .none⟩ = false := fun i => (cg.frozen (p := ⟨d, i, .none⟩) hb.lt nd).trans (hb.fz i)
      have rL : W7.ownsRow X 5 1 (.slice p4 (L + 1) c4) (ln ++ [4]).length (by8 (ln ++ [4])) := cg.own hb.rL (fun k hk e => (hb.aD k e).2 hk)
      have v7 : ∀ k, v'.ownBlock = some k → k ≠ d ∧ (Value.slice p4 (L + 1) c4).ownBlock ≠ some k := fun k hk => by
        rcases sof7 k hk with h1 | h1
        · exact hb.aD k h1
        · have h1 : (W6.drewN 1).heap.size ≤ k := h1
          have hlt := hb.lt
          refine ⟨by intro e; subst e; exact absurd h1 (by omega), fun e => ?_⟩
          have := own_ltC hb.rL k e
          omega
      have f7 : ∀ i, (W7.setCell ⟨d, 0, .none⟩ v').frozen? ⟨d, i, .none⟩ = false := fun i => (World.frozen?_setCells d [v'] 0 W7 ⟨d, i, .none⟩).trans (tf i)
      have el : (dn ++ (ln ++ [4])).length = D + (L + 1) := by rw [List.length_append, HL1.out, ← HDL.out.1]
      refine ⟨⟨cell_one t0 _, cell_off t1 _ _ (by decide), cell_off t2 _ _ (by decide), f7, ?_, own_setd rL hb.aL _, v7, hb.aL, by rw [el]; omega, hb.Xd, by simp [World.setCell]; exact Nat.le_trans hb.Xw cg.size⟩, H6.out.2.trans ((⟨rfl, rfl, rfl, Nat.le_refl _, fun _ _ => rfl⟩ : Below X W6 (W6.drewN 1)).trans (b2.trans ((Trn.setCell d 0 _ W7).toBelow hb.Xd (Nat.le_trans hb.Xw cg.size)))), t0, tf 0⟩
      rw [el]
      exact own_setd own7 (fun k hk => (v7 k hk).1) _
    go_region_law (refine step_app rfl (.tmp 93) (.tmp 97) rfl X (.slice pD D cD) D dn (by simp [Act.eval, Act.put]) p4 (L + 1) c4 (ln ++ [4]) (by simp [Act.eval, Act.put]) RD.out BLn.out ZZ.out.2 ZZ.out.1 ?_; intro v' W7 own7 grow7 sof7; obtain ⟨p7, c7, rfl⟩ := one_slice own7; have hk7 := KEY.out (.slice p7 (D + (L + 1)) c7) W7 own7 grow7 sof7; have s0 := hk7.2.2.1; have s1 := hk7.2.2.2)
    all_goals (
      have H7 : Hid (Bok (W7.setCell ⟨d, 0, .none⟩ (.slice p7 (D + (L + 1)) c7)) d X (.slice p7 (D + (L + 1)) c7) (.slice p4 (L + 1) c4) (dn ++ (ln ++ [4])) (ln ++ [4]) g ∧ Below X w (W7.setCell ⟨d, 0, .none⟩ (.slice p7 (D + (L + 1)) c7))) := ⟨hk7.1, hk7.2.1⟩
      clear hk7 own7 grow7 sof7 s0 s1 k0 k2
      generalize W7.setCell ⟨d, 0, .none⟩ (.slice p7 (D + (L + 1)) c7) = W8 at *
      have n2 := H7.out.1.c2
      have nf := H7.out.1.fz 2
      go_wp2
      go_end0
      have q := H7.out.1.setL (.slice none 0 0) [] (World.ownsRow_nil _ _ _ _) (fun k hk => by cases hk)
      refine ⟨⟨_, rfl⟩, ⟨.slice p7 (D + (L + 1)) c7, .slice none 0 0, ?_⟩, H7.out.2.trans (bel_set H7.out.1 _ _)⟩
      rw [HP.out.1, HP.out.2, if_pos P0.out, if_pos P0.out]
      exact q)
  have j1 : (x == 10) = false := by simpa using h10
  have j2 : (x == 4) = false := by simpa using h4
  by_cases h8 : D - g + L + 1 = 128
  · have j3 : ((D : Int) - g + ((L : Int) + 1) == 128) = true := by simp; omega
    have P0 : Hid ((x : Int) = 10 ∨ (x : Int) = 4 ∨ D - g + L + 1 = 128) := .inr (.inr h8)
    have H6 : Hid (Bok W5.drew d X (.slice pD D cD) (.slice p4 (L + 1) c4) dn (ln ++ [x]) g ∧ Below X w W5.drew) := ⟨H5.out.1.drewN 1, H5.out.2.trans ⟨rfl, rfl, rfl, Nat.le_refl _, fun _ _ => rfl⟩⟩
    clear h8
    go_region
    go_upto_region 13 with fail
    generalize W5.drew = W6 at *
    have RD : Hid (W6.drew.ownsRow X 5 1 (.slice pD D cD) D (by8 dn)) := by
      have := (H6.out.1.drewN 1).rD
      rw [← HDL.out.1] at this
      exact this
    have BLn : Hid (Byt W6.drew p4 (L + 1) c4 (ln ++ [x])) := by
      have := (H6.out.1.drewN 1).rL
      rw [HL1.out] at this
      exact byt_own this
    have k0 := H6.out.1.c0
    have k2 := H6.out.1.c2
    have zz : X ≤ W6.drew.heap.size := H6.out.1.Xw
    have zs : D + (L + 1) ≤ 140737488355328 := by omega
    have ZZ : Hid (X ≤ W6.drew.heap.size ∧ D + (L + 1) ≤ 140737488355328) := ⟨zz, zs⟩
    have KEY : Hid (∀ v' W7, W7.ownsRow X 5 1 v' (D + (L + 1)) (by8 (dn ++ (ln ++ [x]))) → W6.drew.grownBy W7 (Value.slice pD D cD).ownBlock → (∀ k, v'.ownBlock = some k → (Value.slice pD D cD).ownBlock = some k ∨ W6.drew.heap.size ≤ k) → Bok (W7.setCell ⟨d, 0, .none⟩ v') d X v' (.slice p4 (L + 1) c4) (dn ++ (ln ++ [x])) (ln ++ [x]) g ∧ Below X w (W7.setCell ⟨d, 0, .none⟩ v') ∧ W7.cell? ⟨d, 0, .none⟩ = some (.slice pD D cD) ∧ W7.frozen? ⟨d, 0, .none⟩ = false) := fun v' W7 own7 grow7 sof7 => by
      have hb := H6.out.1.drewN 1
      have cg : Chg (fun k => (Value.slice pD D cD).ownBlock = some k) (W6.drewN 1) W7 := Chg.ofGrown grow7
      have nd : ¬ ((Value.slice pD D cD).ownBlock = some d) := fun e => (hb.aD d e).1 rfl
      have b2 : Below X (W6.drewN 1) W7 := cg.toTrn hb.Xw (fun k hk e => by have := own_block hb.rD k e; omega)
      have t0 : W7.cell? ⟨d, 0, .none⟩ = some (.slice pD D cD) := (cg.cell (p := ⟨d, 0, .none⟩) hb.lt nd).trans hb.c0
      have t1 : W7.cell? ⟨d, 1, .none⟩ = some (.int .i64 g) := (cg.cell (p := ⟨d, 1, .none⟩) hb.lt nd).trans hb.c1
      have t2 : W7.cell? ⟨d, 2, .none⟩ = some (.slice p4 (L + 1) c4) := (cg.cell (p := ⟨d, 2, .none⟩) hb.lt nd).trans hb.c2
      have tf : ∀ i, W7.frozen? ⟨d, i, .none⟩ = false := fun i => (cg.frozen (p := ⟨d, i, .none⟩) hb.lt nd).trans (hb.fz i)
      have rL : W7.ownsRow X 5 1 (.slice p4 (L + 1) c4) (ln ++ [x]).length (by8 (ln ++ [x])) := cg.own hb.rL (fun k hk e => (hb.aD k e).2 hk)
      have v7 : ∀ k, v'.ownBlock = some k → k ≠ d ∧ (Value.slice p4 (L + 1) c4).ownBlock ≠ some k := fun k hk => by
        rcases sof7 k hk with h1 | h1
        · exact hb.aD k h1
        · have h1 : (W6.drewN 1).heap.size ≤ k := h1
          have hlt := hb.lt
          refine ⟨by intro e; subst e; exact absurd h1 (by omega), fun e => ?_⟩
          have := own_ltC hb.rL k e
          omega
      have f7 : ∀ i, (W7.setCell ⟨d, 0, .none⟩ v').frozen? ⟨d, i, .none⟩ = false := fun i => (World.frozen?_setCells d [v'] 0 W7 ⟨d, i, .none⟩).trans (tf i)
      have el : (dn ++ (ln ++ [x])).length = D + (L + 1) := by rw [List.length_append, HL1.out, ← HDL.out.1]
      refine ⟨⟨cell_one t0 _, cell_off t1 _ _ (by decide), cell_off t2 _ _ (by decide), f7, ?_, own_setd rL hb.aL _, v7, hb.aL, by rw [el]; omega, hb.Xd, by simp [World.setCell]; exact Nat.le_trans hb.Xw cg.size⟩, H6.out.2.trans ((⟨rfl, rfl, rfl, Nat.le_refl _, fun _ _ => rfl⟩ : Below X W6 (W6.drewN 1)).trans (b2.trans ((Trn.setCell d 0 _ W7).toBelow hb.Xd (Nat.le_trans hb.Xw cg.size)))), t0, tf 0⟩
      rw [el]
      exact own_setd own7 (fun k hk => (v7 k hk).1) _
    go_region_law (refine step_app rfl (.tmp 93) (.tmp 97) rfl X (.slice pD D cD) D dn (by simp [Act.eval, Act.put]) p4 (L + 1) c4 (ln ++ [x]) (by simp [Act.eval, Act.put]) RD.out BLn.out ZZ.out.2 ZZ.out.1 ?_; intro v' W7 own7 grow7 sof7; obtain ⟨p7, c7, rfl⟩ := one_slice own7; have hk7 := KEY.out (.slice p7 (D + (L + 1)) c7) W7 own7 grow7 sof7; have s0 := hk7.2.2.1; have s1 := hk7.2.2.2)
    all_goals (
      have H7 : Hid (Bok (W7.setCell ⟨d, 0, .none⟩ (.slice p7 (D + (L + 1)) c7)) d X (.slice p7 (D + (L + 1)) c7) (.slice p4 (L + 1) c4) (dn ++ (ln ++ [x])) (ln ++ [x]) g ∧ Below X w (W7.setCell ⟨d, 0, .none⟩ (.slice p7 (D + (L + 1)) c7))) := ⟨hk7.1, hk7.2.1⟩
      clear hk7 own7 grow7 sof7 s0 s1 k0 k2
      generalize W7.setCell ⟨d, 0, .none⟩ (.slice p7 (D + (L + 1)) c7) = W8 at *
      have n2 := H7.out.1.c2
      have nf := H7.out.1.fz 2
      go_wp2
      go_end0
      have q := H7.out.1.setL (.slice none 0 0) [] (World.ownsRow_nil _ _ _ _) (fun k hk => by cases hk)
      refine ⟨⟨_, rfl⟩, ⟨.slice p7 (D + (L + 1)) c7, .slice none 0 0, ?_⟩, H7.out.2.trans (bel_set H7.out.1 _ _)⟩
      rw [HP.out.1, HP.out.2, if_pos P0.out, if_pos P0.out]
      exact q)
  · have j3 : ((D : Int) - g + ((L : Int) + 1) == 128) = false := by simp; omega
    have P0 : Hid (¬ (x = 10 ∨ x = 4 ∨ D - g + L + 1 = 128)) := fun h => by rcases h with h | h | h; exact h10 h; exact h4 h; exact h8 h
    clear h8 h10 h4
    go_region
    go_wp2
    go_end0
    refine ⟨⟨_, rfl⟩, ⟨.slice pD D cD, .slice p4 (L + 1) c4, ?_⟩, H5.out.2.trans ⟨rfl, rfl, rfl, Nat.le_refl _, fun _ _ => rfl⟩⟩
    rw [HP.out.1, HP.out.2, if_neg P0.out, if_neg P0.out]
    exact H5.out.1.drewN 1

end
end Go.Proofs.YtblpdnchphhcaaaDoor
