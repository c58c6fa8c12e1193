import Derived.Test.YthdlefbaegbldaaGreatDoorNc
namespace Go.Proofs.YthdlefbaegbldaaGreatDoor
open Go.RowKit Go.Shelf
set_option linter.unusedVariables false
set_option linter.unusedSimpArgs false
set_option maxRecDepth 100000
theorem ne_lk0 (w : World) : (binOp .neq 33 (.agg #[.int .i64 0, .int .i64 0, .int .i64 0, .bool false, .bool false, .int .i64 0, .int .i64 0, .int .i64 0]) (.agg #[.int .i64 0, .int .i64 0, .int .i64 0, .bool false, .bool false, .int .i64 0, .int .i64 0, .int .i64 0])).run Tryz.prog w = .ok (.bool false) w := by kernel_rfl
theorem zt0 : Tryz.zeroCells94[0]? = some (.pointer none) := by kernel_rfl
theorem hid_stepN {w a b : World} {n : Nat} (h : Hid (Below n w a)) (hb : Below a.heap.size a b) (hn : n ≤ a.heap.size) : Hid (Below n w b) := (h.out.trans (hb.mono hn))
set_option maxHeartbeats 1000000 in
theorem nobody_walk (f n : Int) (sp : Option Addr) (ln cp : Nat) (w : World) : Calls Tryz.prog 4 #[.int .i64 f, .int .i64 n, .slice sp ln cp] w fun e w' => e = .returned (.bool true) ∧ Below w.heap.size w w' := by
  have hlk := ne_lk0
  have hst := ne_st0
  go_enter Tryz.func4, Tryz.ntmps4
  go_upto_region 3 with fail
  obtain ⟨sb, hsb⟩ : ∃ sb, sb = w.heap.size := ⟨_, rfl⟩
  rw [← hsb]
  have hW : ∀ W, W = (w.alloc (.cells #[.pointer none, .pointer none, .slice none 0 0, .slice none 0 0] 66)).alloc (.cells #[.pointer none, .pointer (some ⟨sb, 0, .none⟩)] 26) → Below w.heap.size w W ∧ W.heap.size = w.heap.size + 2 ∧ W.cell? ⟨sb, 0, .none⟩ = some (.pointer none) ∧ W.cell? ⟨sb + 1, 0, .none⟩ = some (.pointer none) ∧ W.cell? ⟨sb + 1, 1, .none⟩ = some (.pointer (some ⟨sb, 0, .none⟩)) := by
    rintro W rfl
    subst hsb
    refine ⟨((Below.refl _ _).alloc (Nat.le_refl _) _).alloc (by simp) _, by simp, ?_, ?_, ?_⟩
    · rw [World.cell?_alloc_past _ _ _ (by simp), World.cell?_alloc_at _ _ _ _ rfl]; rfl
    · rw [World.cell?_alloc_at _ _ _ _ (by simp)]; rfl
    · rw [World.cell?_alloc_at _ _ _ _ (by simp)]; rfl
  obtain ⟨W0, hW0⟩ : ∃ W0, W0 = (w.alloc (.cells #[.pointer none, .pointer none, .slice none 0 0, .slice none 0 0] 66)).alloc (.cells #[.pointer none, .pointer (some ⟨sb, 0, .none⟩)] 26) := ⟨_, rfl⟩
  have H0 := hW W0 hW0
  rw [← hW0]
  have HL : Hid (∀ k : Nat, k < 2 → ∃ q, W0.cell? ⟨sb + 1, k, .none⟩ = some (.pointer q) ∧ UnF W0 (.pointer q)) := by
    intro k hk
    have e : k = 0 ∨ k = 1 := by omega
    rcases e with rfl | rfl
    · exact ⟨_, H0.2.2.2.1, .inl rfl⟩
    · exact ⟨_, H0.2.2.2.2, .inr ⟨sb, rfl, by omega, H0.2.2.1⟩⟩
  have HW0 : Hid (Below w.heap.size w W0 ∧ W0.heap.size = w.heap.size + 2 ∧ sb + 1 < W0.heap.size) := ⟨H0.1, H0.2.1, by omega⟩
  clear hW hW0 H0 hsb
  go_wp2
  go_loopw [9] (fun i W => ∃ k : Nat, k ≤ 2 ∧ i = .int .i64 k ∧ Below W0.heap.size W0 W) (fun i _ => 2 - (intOf i).toNat)
  case atStart => exact ⟨0, by omega, rfl, Below.refl _ _⟩
  case round =>
    obtain ⟨k, hk, rfl, hb⟩ := hrel
    by_cases hlt : k < 2
    · have i1 : (k : Int) < 2 := by omega
      obtain ⟨q, lq, uq⟩ := HL.out k hlt
      have lw := (hb.cell (p := ⟨sb + 1, k, .none⟩) HW0.out.2.2).trans lq
      have u := uq.below hb
      have HB : Hid (Below W0.heap.size W0 wr) := hb
      have z0 := hb.size
      clear lq uq hb
      go_wp2_with fail
      refine (open_no u n true true).mono ?_
      rintro _ X ⟨rfl, hX⟩
      obtain rfl : wr = X := hX.symm
      go_wp2_with fail
      refine (pipe_no u).mono ?_
      rintro _ X ⟨rfl, hX⟩
      obtain rfl : wr = X := hX.symm
      go_wp2_with fail
      refine (drop_no u f).mono ?_
      rintro _ X ⟨rfl, hX⟩
      obtain rfl : wr = X := hX.symm
      go_wp2_with fail
      refine (stat_no u f).mono ?_
      rintro _ V ⟨rfl, hX⟩
      have bv : Below wr.heap.size wr (V.alloc (.cells #[.int .i32 0, .int .u32 0, .int .i16 0, .int .i16 0, .int .u64 0] 73)) := hX.alloc hX.size _
      have HS : Hid ((V.alloc (.cells #[.int .i32 0, .int .u32 0, .int .i16 0, .int .i16 0, .int .u64 0] 73)).cell? ⟨V.heap.size, 0, .none⟩ = some (.int .i32 0) ∧ (V.alloc (.cells #[.int .i32 0, .int .u32 0, .int .i16 0, .int .i16 0, .int .u64 0] 73)).cell? ⟨V.heap.size, 1, .none⟩ = some (.int .u32 0) ∧ (V.alloc (.cells #[.int .i32 0, .int .u32 0, .int .i16 0, .int .i16 0, .int .u64 0] 73)).cell? ⟨V.heap.size, 2, .none⟩ = some (.int .i16 0) ∧ (V.alloc (.cells #[.int .i32 0, .int .u32 0, .int .i16 0, .int .i16 0, .int .u64 0] 73)).cell? ⟨V.heap.size, 3, .none⟩ = some (.int .i16 0) ∧ (V.alloc (.cells #[.int .i32 0, .int .u32 0, .int .i16 0, .int .i16 0, .int .u64 0] 73)).cell? ⟨V.heap.size, 4, .none⟩ = some (.int .u64 0)) := ⟨by rw [World.cell?_alloc_at _ _ _ _ rfl]; rfl, by rw [World.cell?_alloc_at _ _ _ _ rfl]; rfl, by rw [World.cell?_alloc_at _ _ _ _ rfl]; rfl, by rw [World.cell?_alloc_at _ _ _ _ rfl]; rfl, by rw [World.cell?_alloc_at _ _ _ _ rfl]; rfl⟩
      have lt1 : V.heap.size < (V.alloc (.cells #[.int .i32 0, .int .u32 0, .int .i16 0, .int .i16 0, .int .u64 0] 73)).heap.size := by simp
      have u := u.below bv
      have HB := hid_stepN HB bv z0
      have z0 : W0.heap.size ≤ (V.alloc (.cells #[.int .i32 0, .int .u32 0, .int .i16 0, .int .i16 0, .int .u64 0] 73)).heap.size := HB.out.size
      clear hX bv lw
      go_upto_region 11 with fail
      generalize (V.alloc (.cells #[.int .i32 0, .int .u32 0, .int .i16 0, .int .i16 0, .int .u64 0] 73)) = V1 at *
      generalize V.heap.size = zs at *
      go_wp2_with fail
      refine (pipes_no u n).mono ?_
      rintro _ Y ⟨rfl, hX⟩
      have bv : Below V1.heap.size V1 (Y.alloc (.cells #[.int .i64 0, .slice none 0 0, .int .u32 0, .int .u32 0, .bool false, .bool false] 55)) := hX.alloc hX.size _
      have HQ : Hid ((Y.alloc (.cells #[.int .i64 0, .slice none 0 0, .int .u32 0, .int .u32 0, .bool false, .bool false] 55)).cell? ⟨Y.heap.size, 0, .none⟩ = some (.int .i64 0)) := by show _ = _; rw [World.cell?_alloc_at _ _ _ _ rfl]; rfl
      have u := u.below bv
      have HB := hid_stepN HB bv z0
      have z0 : W0.heap.size ≤ (Y.alloc (.cells #[.int .i64 0, .slice none 0 0, .int .u32 0, .int .u32 0, .bool false, .bool false] 55)).heap.size := HB.out.size
      have HS2 : Hid ((Y.alloc (.cells #[.int .i64 0, .slice none 0 0, .int .u32 0, .int .u32 0, .bool false, .bool false] 55)).cell? ⟨zs, 0, .none⟩ = some (.int .i32 0) ∧ (Y.alloc (.cells #[.int .i64 0, .slice none 0 0, .int .u32 0, .int .u32 0, .bool false, .bool false] 55)).cell? ⟨zs, 1, .none⟩ = some (.int .u32 0) ∧ (Y.alloc (.cells #[.int .i64 0, .slice none 0 0, .int .u32 0, .int .u32 0, .bool false, .bool false] 55)).cell? ⟨zs, 2, .none⟩ = some (.int .i16 0) ∧ (Y.alloc (.cells #[.int .i64 0, .slice none 0 0, .int .u32 0, .int .u32 0, .bool false, .bool false] 55)).cell? ⟨zs, 3, .none⟩ = some (.int .i16 0) ∧ (Y.alloc (.cells #[.int .i64 0, .slice none 0 0, .int .u32 0, .int .u32 0, .bool false, .bool false] 55)).cell? ⟨zs, 4, .none⟩ = some (.int .u64 0)) := ⟨(bv.cell (p := ⟨zs, 0, .none⟩) lt1).trans HS.out.1, (bv.cell (p := ⟨zs, 1, .none⟩) lt1).trans HS.out.2.1, (bv.cell (p := ⟨zs, 2, .none⟩) lt1).trans HS.out.2.2.1, (bv.cell (p := ⟨zs, 3, .none⟩) lt1).trans HS.out.2.2.2.1, (bv.cell (p := ⟨zs, 4, .none⟩) lt1).trans HS.out.2.2.2.2⟩
      clear hX bv HS lt1
      go_upto_region 12 with fail
      generalize (Y.alloc (.cells #[.int .i64 0, .slice none 0 0, .int .u32 0, .int .u32 0, .bool false, .bool false] 55)) = Y1 at *
      generalize Y.heap.size = zp at *
      go_wp2_with fail
      refine (left_no u).mono ?_
      rintro _ X ⟨rfl, hX⟩
      obtain rfl : Y1 = X := hX.symm
      have s0 := HS2.out.1
      have s1 := HS2.out.2.1
      have s2 := HS2.out.2.2.1
      have s3 := HS2.out.2.2.2.1
      have s4 := HS2.out.2.2.2.2
      have p0 := HQ.out
      go_wp2_with fail
      refine (hold_no u f).mono ?_
      rintro _ X ⟨rfl, hX⟩
      obtain rfl : Y1 = X := hX.symm
      clear HS2 HQ
      go_wp2_with fail
      refine (look_no u f).mono ?_
      rintro _ A1 ⟨rfl, hX⟩
      have u := u.below hX
      have HB := hid_stepN HB hX z0
      have z0 : W0.heap.size ≤ A1.heap.size := HB.out.size
      clear hX s0 s1 s2 s3 s4 p0
      go_wp2_with fail
      refine (read_noF u f n).mono ?_
      rintro _ A2 ⟨rfl, hX⟩
      have u := u.below hX
      have HB := hid_stepN HB hX z0
      have z0 : W0.heap.size ≤ A2.heap.size := HB.out.size
      clear hX
      simp only [bad5]
      go_wp2_with fail
      refine (got_bad A2).mono ?_
      rintro _ A3 ⟨rfl, hX⟩
      have u := u.below hX
      have HB := hid_stepN HB hX z0
      have z0 : W0.heap.size ≤ A3.heap.size := HB.out.size
      clear hX
      go_wp2_with fail
      refine (peek_noF u f n).mono ?_
      rintro _ A4 ⟨rfl, hX⟩
      have u := u.below hX
      have HB := hid_stepN HB hX z0
      have z0 : W0.heap.size ≤ A4.heap.size := HB.out.size
      clear hX
      simp only [bad5]
      go_wp2_with fail
      refine (got_bad A4).mono ?_
      rintro _ A5 ⟨rfl, hX⟩
      have u := u.below hX
      have HB := hid_stepN HB hX z0
      have z0 : W0.heap.size ≤ A5.heap.size := HB.out.size
      clear hX
      go_wp2_with fail
      refine (write_noF u f sp ln cp).mono ?_
      rintro _ A6 ⟨rfl, hX⟩
      have u := u.below hX
      have HB := hid_stepN HB hX z0
      have z0 : W0.heap.size ≤ A6.heap.size := HB.out.size
      clear hX
      simp only [bad6]
      go_wp2_with fail
      refine (sent_bad A6).mono ?_
      rintro _ A7 ⟨rfl, hX⟩
      have u := u.below hX
      have HB := hid_stepN HB hX z0
      have z0 : W0.heap.size ≤ A7.heap.size := HB.out.size
      clear hX
      go_wp2
      exact ⟨⟨k + 1, by omega, by simp, HB.out⟩, by simp only [intOf]; omega⟩
    · have i1 : ¬ (k : Int) < 2 := by omega
      have HB : Hid (Below w.heap.size w wr) := HW0.out.1.trans (hb.mono (by have := HW0.out.2.1; omega))
      clear hb HL
      go_wp2_with fail
      refine (new_anyR 4 (by omega) (by omega) wr).mono ?_
      rintro _ V ⟨p, bb, m, h1, h2, h3, rfl, hR, hV⟩
      have z1 := HB.out.size
      have HR : Hid (Ram V p bb m 4 (newB 3) (3 :: down 2) ∧ Below w.heap.size w V ∧ w.heap.size ≤ p ∧ w.heap.size ≤ bb ∧ w.heap.size ≤ m) := ⟨hR, HB.out.trans (hV.mono z1), by omega, by omega, by omega⟩
      clear hR hV h1 h2 h3 HB
      have ct := newT_any HR.out.1
      go_wp2_with fail
      refine ct.mono ?_
      rintro _ W2 ⟨tb, htb, rfl, hP, _, hW2⟩
      have HT : Hid (Ind W2 tb 71 1 0 0 1 0 32 [3] ∧ W2.cell? ⟨tb, 0, .none⟩ = some (.pointer (some ⟨p, 0, .none⟩)) ∧ Below w.heap.size w W2) := by
        refine ⟨hP.ind, hP.ct, ⟨hW2.os.trans HR.out.2.1.os, hW2.tape.trans HR.out.2.1.tape, hW2.output.trans HR.out.2.1.output, Nat.le_trans HR.out.2.1.size hW2.size, fun k hk => ?_⟩⟩
        have e := HR.out.2.2
        have es := HR.out.2.1.size
        rw [hW2.block k (by omega) (fun e2 => by rcases e2 with e2 | e2 | e2 <;> omega)]
        exact HR.out.2.1.block k hk
      clear htb hP hW2 ct HR
      have c1 := newF_nilC HT.out.1 HT.out.2.1
      go_wp2_with fail
      refine c1.mono ?_
      rintro _ W3 ⟨rfl, hW3⟩
      have H3 : Hid (Below w.heap.size w W3) := HT.out.2.2.trans (hW3.mono HT.out.2.2.size)
      clear hW3 c1 HT
      go_wp2_with fail
      refine (new_any W3).mono ?_
      rintro _ W4 ⟨rfl, _, hW4⟩
      have H4 : Hid (Below w.heap.size w W4) := H3.out.trans (hW4.mono H3.out.size)
      clear hW4
      go_wp2_with fail
      refine (newF_unT (.inl rfl)).mono ?_
      rintro _ W5 ⟨rfl, hW5⟩
      have H5 : Hid (Below w.heap.size w W5) := H4.out.trans (hW5.mono H4.out.size)
      clear hW5
      go_wp2_with fail
      have hT : UnT (W5.alloc (.cells Tryz.zeroCells94 94)) (.pointer (some ⟨W5.heap.size, 0, .none⟩)) := .inr ⟨W5.heap.size, rfl, by simp, by rw [World.cell?_alloc_at _ _ _ _ rfl]; exact zt0⟩
      have H6 : Hid (Below w.heap.size w (W5.alloc (.cells Tryz.zeroCells94 94)) ∧ UnT (W5.alloc (.cells Tryz.zeroCells94 94)) (.pointer (some ⟨W5.heap.size, 0, .none⟩))) := ⟨H5.out.alloc H5.out.size _, hT⟩
      clear hT
      generalize W5.alloc (.cells Tryz.zeroCells94 94) = W6 at *
      generalize W5.heap.size = zt at *
      refine (new_any W6).mono ?_
      rintro _ W7 ⟨rfl, _, hW7⟩
      have H7 : Hid (Below w.heap.size w W7 ∧ UnT W7 (.pointer (some ⟨zt, 0, .none⟩))) := ⟨H6.out.1.trans (hW7.mono H6.out.1.size), H6.out.2.below hW7⟩
      clear hW7
      go_wp2_with fail
      refine (newF_unT H7.out.2).mono ?_
      rintro _ W8 ⟨rfl, hW8⟩
      have H8 : Hid (Below w.heap.size w W8) := H7.out.1.trans (hW8.mono H7.out.1.size)
      clear hW8
      go_wp2
      go_ret
      exact ⟨rfl, H8.out⟩
end Go.Proofs.YthdlefbaegbldaaGreatDoor
