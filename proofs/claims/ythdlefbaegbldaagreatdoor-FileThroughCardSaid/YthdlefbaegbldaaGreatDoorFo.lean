import Derived.Test.YthdlefbaegbldaaGreatDoorFl
namespace Go.Proofs.YthdlefbaegbldaaGreatDoor
open Go.RowKit
set_option linter.unusedVariables false
set_option linter.unusedSimpArgs false
set_option maxRecDepth 100000
attribute [local go_sem] run_store_func run_store_nilFunc eqGuard_func eqF_some eqF_nil eqG_some eqG_nil fieldR0 fieldR1 fieldW2
theorem tg_some {P : Nat → Option Nat} {n j q : Nat} (hj : j < n) (h : P j = some q) : tg P n (j : Int) = some ⟨q, 0, .none⟩ := by
  rw [tg, if_pos (by omega), Int.toNat_natCast, opt_some h]

set_option maxHeartbeats 1000000 in
theorem readF_neg {w : World} {s t c fb pb : Nat} {F P : Nat → Option Nat} {b q : Nat} {num refs ino off : Int} {xs : List Int} {r : Int} {rd wt : Bool} (h : Fls w s t c fb pb) (hT : Tab w fb 100 F) (hP : Tab w pb 32 P) (k : Nat) (hk : k < 100) (hF : F k = some b) (j : Nat) (hj : j < 32) (hQ : P j = some q) (hL : Lk w b num 2 refs true false ino off (j : Int)) (hp : Pip w q xs r rd wt) (n : Int) (hn : n < 0) :
    Calls Tryz.prog 12 #[.pointer (some ⟨s, 0, .none⟩), .int .i64 k, .int .i64 n] w (fun e w' => e = .returned bad5 ∧ Below w.heap.size w w') := by
  obtain ⟨W, hW⟩ : ∃ W, W = w.alloc (.cells #[.int .i64 0, .slice none 0 0, .int .i64 0, .int .i64 0, .slice none 0 0] 45) := ⟨_, rfl⟩
  have HB : Hid (Below w.heap.size w W ∧ W.heap.size = w.heap.size + 1 ∧ Zg W w.heap.size) := by
    rw [hW]
    exact ⟨(Below.refl _ _).alloc (Nat.le_refl _) _, by simp, Zg.new w⟩
  have HW : Hid (w.alloc (.cells #[.int .i64 0, .slice none 0 0, .int .i64 0, .int .i64 0, .slice none 0 0] 45) = W) := hW.symm
  clear hW
  have hlt := hp.lt
  have cw := waysOfR_any (h.below HB.out.1) (hT.below (by omega) HB.out.1) (hP.below (by omega) HB.out.1) k hk hF (hL.below HB.out.1)
  rw [tg_some hj hQ, enR] at cw
  have HP : Hid (Pip W q xs r rd wt) := hp.below HB.out.1
  clear h hT hP hF hQ hL hp
  go_enter Tryz.func12, Tryz.ntmps12
  go_upto_region 1 with fail
  rw [HW.out]
  clear HW
  go_wp2_with fail
  refine cw.mono ?_
  rintro _ V ⟨rfl, hV⟩
  have HV : Hid (Below W.heap.size W V) := hV
  clear hV cw
  go_wp2_with fail
  refine (readBy_neg V _ _ _ n hn).mono ?_
  rintro _ X ⟨rfl, hX⟩
  have HX : Hid (Below V.heap.size V X) := hX
  have H2 : Hid (Zg X w.heap.size) := (HB.out.2.2.keep (HV.out.block _ (by have := HB.out.2.1; omega))).keep (hX.block _ (by have := HB.out.2.1; have := HV.out.size; omega))
  clear hX
  simp only [bad5]
  have z0 := H2.out.c0
  have y0 := H2.out.f 0
  have z1 := H2.out.c1
  have y1 := H2.out.f 1
  have z2 := H2.out.c2
  have y2 := H2.out.f 2
  have z3 := H2.out.c3
  have y3 := H2.out.f 3
  have z4 := H2.out.c4
  have y4 := H2.out.f 4
  go_wp2
  refine ret_cells (V := X) (z := w.heap.size) [.int .i64 3, .slice none 0 0, .int .i64 0, .int .i64 0, .slice none 0 0] rfl rfl H2.out.there (fun W h => run_loadVar_mid (P := Tryz.prog) W _ 0 45 _ _ h Tryz.underlying45 rfl (by kernel_rfl)) rfl ?_
  intro Y hY
  have bb : Below w.heap.size w X := (HB.out.1.trans (HV.out.mono HB.out.1.size)).trans (HX.out.mono (by have := HB.out.2.1; have := HV.out.size; omega))
  exact ⟨rfl, bb.trans (hY.toBelow (Nat.le_refl _) bb.size)⟩

set_option maxHeartbeats 1000000 in
theorem readF_any {w : World} {s t c fb pb : Nat} {F P : Nat → Option Nat} {b q : Nat} {num refs ino off : Int} {xs : List Int} {r : Int} {rd wt : Bool} (h : Fls w s t c fb pb) (hT : Tab w fb 100 F) (hP : Tab w pb 32 P) (k : Nat) (hk : k < 100) (hF : F k = some b) (j : Nat) (hj : j < 32) (hQ : P j = some q) (hL : Lk w b num 2 refs true false ino off (j : Int)) (hp : Pip w q xs r rd wt) (n : Int) (hn : 0 ≤ n) :
    Calls Tryz.prog 12 #[.pointer (some ⟨s, 0, .none⟩), .int .i64 k, .int .i64 n] w (ReadP w q xs r rd wt n 4 5 (j : Int)) := by
  obtain ⟨W, hW⟩ : ∃ W, W = w.alloc (.cells #[.int .i64 0, .slice none 0 0, .int .i64 0, .int .i64 0, .slice none 0 0] 45) := ⟨_, rfl⟩
  have HB : Hid (Below w.heap.size w W ∧ W.heap.size = w.heap.size + 1 ∧ Zg W w.heap.size) := by
    rw [hW]
    exact ⟨(Below.refl _ _).alloc (Nat.le_refl _) _, by simp, Zg.new w⟩
  have HW : Hid (w.alloc (.cells #[.int .i64 0, .slice none 0 0, .int .i64 0, .int .i64 0, .slice none 0 0] 45) = W) := hW.symm
  clear hW
  have hlt := hp.lt
  have cw := waysOfR_any (h.below HB.out.1) (hT.below (by omega) HB.out.1) (hP.below (by omega) HB.out.1) k hk hF (hL.below HB.out.1)
  rw [tg_some hj hQ, enR] at cw
  have HP : Hid (Pip W q xs r rd wt) := hp.below HB.out.1
  clear h hT hP hF hQ hL hp
  go_enter Tryz.func12, Tryz.ntmps12
  go_upto_region 1 with fail
  rw [HW.out]
  clear HW
  go_wp2_with fail
  refine cw.mono ?_
  rintro _ V ⟨rfl, hV⟩
  have HV : Hid (Below W.heap.size W V) := hV
  clear hV cw
  go_wp2_with fail
  refine (readBy_read (HP.out.below HV.out) n 4 5 (j : Int) hn).mono ?_
  rintro _ X ⟨v, rfl, hG, hPP, hX⟩
  obtain ⟨a0, gp, gm, gc, a2, a3, wp, wn, wc, rfl⟩ := hG.five
  have HG : Hid (Got X V.heap.size xs wt n 4 5 (j : Int) (.agg #[.int .i64 a0, .slice gp gm gc, .int .i64 a2, .int .i64 a3, .slice wp wn wc]) ∧ Pip X q (xs.drop (takeN xs n)) ((r + takeN xs n) % 4294967296) rd wt ∧ Trn q V X) := ⟨hG, hPP, hX⟩
  have H2 : Hid (Zg X w.heap.size) := (HB.out.2.2.keep (HV.out.block _ (by have := HB.out.2.1; omega))).keep (HG.out.2.2.block _ (by have := HB.out.2.1; have := HV.out.size; omega) (by have := hlt; omega))
  clear hG hPP hX
  have z0 := H2.out.c0
  have y0 := H2.out.f 0
  have z1 := H2.out.c1
  have y1 := H2.out.f 1
  have z2 := H2.out.c2
  have y2 := H2.out.f 2
  have z3 := H2.out.c3
  have y3 := H2.out.f 3
  have z4 := H2.out.c4
  have y4 := H2.out.f 4
  go_wp2
  refine ret_cells (V := X) (z := w.heap.size) [.int .i64 a0, .slice gp gm gc, .int .i64 a2, .int .i64 a3, .slice wp wn wc] rfl rfl H2.out.there (fun W h => run_loadVar_mid (P := Tryz.prog) W _ 0 45 _ _ h Tryz.underlying45 rfl (by kernel_rfl)) rfl ?_
  intro Y hY
  exact ⟨_, rfl, (HG.out.1.trn hY (by have := HB.out.2.1; have := HV.out.size; omega)).mono (by have := HB.out.2.1; have := HV.out.size; omega), HG.out.2.1.keep hY (by have := hlt; omega), (((Trn.ofBelow HB.out.1).trans (Trn.ofBelow HV.out)).trans HG.out.2.2).past hY (Nat.le_refl _)⟩

set_option maxHeartbeats 1000000 in
theorem peekF_neg {w : World} {s t c fb pb : Nat} {F P : Nat → Option Nat} {b q : Nat} {num refs ino off : Int} {xs : List Int} {r : Int} {rd wt : Bool} (h : Fls w s t c fb pb) (hT : Tab w fb 100 F) (hP : Tab w pb 32 P) (k : Nat) (hk : k < 100) (hF : F k = some b) (j : Nat) (hj : j < 32) (hQ : P j = some q) (hL : Lk w b num 2 refs true false ino off (j : Int)) (hp : Pip w q xs r rd wt) (n : Int) (hn : n < 0) :
    Calls Tryz.prog 11 #[.pointer (some ⟨s, 0, .none⟩), .int .i64 k, .int .i64 n] w (fun e w' => e = .returned bad5 ∧ Below w.heap.size w w') := by
  obtain ⟨W, hW⟩ : ∃ W, W = w.alloc (.cells #[.int .i64 0, .slice none 0 0, .int .i64 0, .int .i64 0, .slice none 0 0] 45) := ⟨_, rfl⟩
  have HB : Hid (Below w.heap.size w W ∧ W.heap.size = w.heap.size + 1 ∧ Zg W w.heap.size) := by
    rw [hW]
    exact ⟨(Below.refl _ _).alloc (Nat.le_refl _) _, by simp, Zg.new w⟩
  have HW : Hid (w.alloc (.cells #[.int .i64 0, .slice none 0 0, .int .i64 0, .int .i64 0, .slice none 0 0] 45) = W) := hW.symm
  clear hW
  have hlt := hp.lt
  have cw := waysOfR_any (h.below HB.out.1) (hT.below (by omega) HB.out.1) (hP.below (by omega) HB.out.1) k hk hF (hL.below HB.out.1)
  rw [tg_some hj hQ, enR] at cw
  have HP : Hid (Pip W q xs r rd wt) := hp.below HB.out.1
  clear h hT hP hF hQ hL hp
  go_enter Tryz.func11, Tryz.ntmps11
  go_upto_region 1 with fail
  rw [HW.out]
  clear HW
  go_wp2_with fail
  refine cw.mono ?_
  rintro _ V ⟨rfl, hV⟩
  have HV : Hid (Below W.heap.size W V) := hV
  clear hV cw
  go_wp2_with fail
  refine (readBy_neg V _ _ _ n hn).mono ?_
  rintro _ X ⟨rfl, hX⟩
  have HX : Hid (Below V.heap.size V X) := hX
  have H2 : Hid (Zg X w.heap.size) := (HB.out.2.2.keep (HV.out.block _ (by have := HB.out.2.1; omega))).keep (hX.block _ (by have := HB.out.2.1; have := HV.out.size; omega))
  clear hX
  simp only [bad5]
  have z0 := H2.out.c0
  have y0 := H2.out.f 0
  have z1 := H2.out.c1
  have y1 := H2.out.f 1
  have z2 := H2.out.c2
  have y2 := H2.out.f 2
  have z3 := H2.out.c3
  have y3 := H2.out.f 3
  have z4 := H2.out.c4
  have y4 := H2.out.f 4
  go_wp2
  refine ret_cells (V := X) (z := w.heap.size) [.int .i64 3, .slice none 0 0, .int .i64 0, .int .i64 0, .slice none 0 0] rfl rfl H2.out.there (fun W h => run_loadVar_mid (P := Tryz.prog) W _ 0 45 _ _ h Tryz.underlying45 rfl (by kernel_rfl)) rfl ?_
  intro Y hY
  have bb : Below w.heap.size w X := (HB.out.1.trans (HV.out.mono HB.out.1.size)).trans (HX.out.mono (by have := HB.out.2.1; have := HV.out.size; omega))
  exact ⟨rfl, bb.trans (hY.toBelow (Nat.le_refl _) bb.size)⟩

set_option maxHeartbeats 1000000 in
theorem peekF_any {w : World} {s t c fb pb : Nat} {F P : Nat → Option Nat} {b q : Nat} {num refs ino off : Int} {xs : List Int} {r : Int} {rd wt : Bool} (h : Fls w s t c fb pb) (hT : Tab w fb 100 F) (hP : Tab w pb 32 P) (k : Nat) (hk : k < 100) (hF : F k = some b) (j : Nat) (hj : j < 32) (hQ : P j = some q) (hL : Lk w b num 2 refs true false ino off (j : Int)) (hp : Pip w q xs r rd wt) (n : Int) (hn : 0 ≤ n) :
    Calls Tryz.prog 11 #[.pointer (some ⟨s, 0, .none⟩), .int .i64 k, .int .i64 n] w (PeekP w xs wt n 4 5 (j : Int)) := by
  obtain ⟨W, hW⟩ : ∃ W, W = w.alloc (.cells #[.int .i64 0, .slice none 0 0, .int .i64 0, .int .i64 0, .slice none 0 0] 45) := ⟨_, rfl⟩
  have HB : Hid (Below w.heap.size w W ∧ W.heap.size = w.heap.size + 1 ∧ Zg W w.heap.size) := by
    rw [hW]
    exact ⟨(Below.refl _ _).alloc (Nat.le_refl _) _, by simp, Zg.new w⟩
  have HW : Hid (w.alloc (.cells #[.int .i64 0, .slice none 0 0, .int .i64 0, .int .i64 0, .slice none 0 0] 45) = W) := hW.symm
  clear hW
  have hlt := hp.lt
  have cw := waysOfR_any (h.below HB.out.1) (hT.below (by omega) HB.out.1) (hP.below (by omega) HB.out.1) k hk hF (hL.below HB.out.1)
  rw [tg_some hj hQ, enR] at cw
  have HP : Hid (Pip W q xs r rd wt) := hp.below HB.out.1
  clear h hT hP hF hQ hL hp
  go_enter Tryz.func11, Tryz.ntmps11
  go_upto_region 1 with fail
  rw [HW.out]
  clear HW
  go_wp2_with fail
  refine cw.mono ?_
  rintro _ V ⟨rfl, hV⟩
  have HV : Hid (Below W.heap.size W V) := hV
  clear hV cw
  go_wp2_with fail
  refine (readBy_peek (HP.out.below HV.out) n 4 5 (j : Int) hn).mono ?_
  rintro _ X ⟨v, rfl, hG, hX⟩
  obtain ⟨a0, gp, gm, gc, a2, a3, wp, wn, wc, rfl⟩ := hG.five
  have HG : Hid (Got X V.heap.size xs wt n 4 5 (j : Int) (.agg #[.int .i64 a0, .slice gp gm gc, .int .i64 a2, .int .i64 a3, .slice wp wn wc]) ∧ Below V.heap.size V X) := ⟨hG, hX⟩
  have H2 : Hid (Zg X w.heap.size) := (HB.out.2.2.keep (HV.out.block _ (by have := HB.out.2.1; omega))).keep (HG.out.2.block _ (by have := HB.out.2.1; have := HV.out.size; omega))
  clear hG hX
  have z0 := H2.out.c0
  have y0 := H2.out.f 0
  have z1 := H2.out.c1
  have y1 := H2.out.f 1
  have z2 := H2.out.c2
  have y2 := H2.out.f 2
  have z3 := H2.out.c3
  have y3 := H2.out.f 3
  have z4 := H2.out.c4
  have y4 := H2.out.f 4
  go_wp2
  refine ret_cells (V := X) (z := w.heap.size) [.int .i64 a0, .slice gp gm gc, .int .i64 a2, .int .i64 a3, .slice wp wn wc] rfl rfl H2.out.there (fun W h => run_loadVar_mid (P := Tryz.prog) W _ 0 45 _ _ h Tryz.underlying45 rfl (by kernel_rfl)) rfl ?_
  intro Y hY
  have bb : Below w.heap.size w X := (HB.out.1.trans (HV.out.mono HB.out.1.size)).trans (HG.out.2.mono (by have := HB.out.2.1; have := HV.out.size; omega))
  exact ⟨_, rfl, (HG.out.1.trn hY (by have := HB.out.2.1; have := HV.out.size; omega)).mono (by have := HB.out.2.1; have := HV.out.size; omega), bb.trans (hY.toBelow (Nat.le_refl _) bb.size)⟩

theorem Sent.six {w : World} {base : Nat} {xs : List Int} {rd : Bool} {ys : List Int} {k l pp : Int} {v : Value} (h : Sent w base xs rd ys k l pp v) : ∃ a0 a1 a3 a4 wp wn wc, v = .agg #[.int .i64 a0, .int .i64 a1, .slice none 0 0, .int .i64 a3, .int .i64 a4, .slice wp wn wc] := by
  rcases h with ⟨_, h⟩ | ⟨_, wp, wn, wc, h, _⟩ | ⟨_, wp, wn, wc, h, _⟩
  · exact ⟨_, _, _, _, _, _, _, h⟩
  · exact ⟨_, _, _, _, _, _, _, h⟩
  · exact ⟨_, _, _, _, _, _, _, h⟩
theorem Sent.trn {w w' : World} {b base : Nat} {xs : List Int} {rd : Bool} {ys : List Int} {k l pp : Int} {v : Value} (h : Sent w base xs rd ys k l pp v) (ht : Trn b w w') (hb : b < base) : Sent w' base xs rd ys k l pp v := by
  rcases h with h | ⟨h0, wp, wn, wc, h1, h2⟩ | ⟨h0, wp, wn, wc, h1, h2⟩
  · exact .inl h
  · exact .inr (.inl ⟨h0, wp, wn, wc, h1, h2.trn ht hb⟩)
  · exact .inr (.inr ⟨h0, wp, wn, wc, h1, h2.trn ht hb⟩)
theorem Sent.mono {w : World} {base base' : Nat} {xs : List Int} {rd : Bool} {ys : List Int} {k l pp : Int} {v : Value} (h : Sent w base xs rd ys k l pp v) (hb : base' ≤ base) : Sent w base' xs rd ys k l pp v := by
  rcases h with h | ⟨h0, wp, wn, wc, h1, h2⟩ | ⟨h0, wp, wn, wc, h1, h2⟩
  · exact .inl h
  · exact .inr (.inl ⟨h0, wp, wn, wc, h1, h2.mono hb⟩)
  · exact .inr (.inr ⟨h0, wp, wn, wc, h1, h2.mono hb⟩)
set_option maxHeartbeats 1000000 in
theorem writeF_any {w : World} {s t c fb pb : Nat} {F P : Nat → Option Nat} {b q : Nat} {num refs ino off : Int} {xs : List Int} {r : Int} {rd wt : Bool} (h : Fls w s t c fb pb) (hT : Tab w fb 100 F) (hP : Tab w pb 32 P) (k : Nat) (hk : k < 100) (hF : F k = some b) (j : Nat) (hj : j < 32) (hQ : P j = some q) (hL : Lk w b num 3 refs false true ino off (j : Int)) (hp : Pip w q xs r rd wt) {p : Option Addr} {n cc : Nat} {ys : List Int} (hB : Byt w p n cc ys) (hN : 0 < n → NB p q) (hy : ∀ y ∈ ys, 0 ≤ y ∧ y < 256) :
    Calls Tryz.prog 8 #[.pointer (some ⟨s, 0, .none⟩), .int .i64 k, .slice p n cc] w (WriteP w q xs r rd wt ys 5 4 (j : Int)) := by
  obtain ⟨W, hW⟩ : ∃ W, W = w.alloc (.cells #[.int .i64 0, .int .i64 0, .slice none 0 0, .int .i64 0, .int .i64 0, .slice none 0 0] 40) := ⟨_, rfl⟩
  have HB : Hid (Below w.heap.size w W ∧ W.heap.size = w.heap.size + 1 ∧ Zs W w.heap.size) := by
    rw [hW]
    exact ⟨(Below.refl _ _).alloc (Nat.le_refl _) _, by simp, Zs.new w⟩
  have HW : Hid (w.alloc (.cells #[.int .i64 0, .int .i64 0, .slice none 0 0, .int .i64 0, .int .i64 0, .slice none 0 0] 40) = W) := hW.symm
  clear hW
  have hlt := hp.lt
  have cw := waysOfW_any (h.below HB.out.1) (hT.below (by omega) HB.out.1) (hP.below (by omega) HB.out.1) k hk hF (hL.below HB.out.1)
  rw [tg_some hj hQ, enW] at cw
  have HP : Hid (Pip W q xs r rd wt ∧ Byt W p n cc ys ∧ (0 < n → NB p q) ∧ ∀ y ∈ ys, 0 ≤ y ∧ y < 256) := ⟨hp.below HB.out.1, byt_below hB HB.out.1, hN, hy⟩
  clear h hT hP hF hQ hL hp hB hN hy
  go_enter Tryz.func8, Tryz.ntmps8
  go_upto_region 1 with fail
  rw [HW.out]
  clear HW
  go_wp2_with fail
  refine cw.mono ?_
  rintro _ V ⟨rfl, hV⟩
  have HV : Hid (Below W.heap.size W V) := hV
  clear hV cw
  go_wp2_with fail
  refine (writeE_any (HP.out.1.below HV.out) (byt_below HP.out.2.1 HV.out) HP.out.2.2.1 HP.out.2.2.2 5 4 (j : Int)).mono ?_
  rintro _ X ⟨v, rfl, hG, hPP, hX⟩
  obtain ⟨a0, a1, a3, a4, wp, wn, wc, rfl⟩ := hG.six
  have HG : Hid (Sent X V.heap.size xs rd ys 5 4 (j : Int) (.agg #[.int .i64 a0, .int .i64 a1, .slice none 0 0, .int .i64 a3, .int .i64 a4, .slice wp wn wc]) ∧ Pip X q (xs ++ ys.take (putN xs rd ys)) r rd wt ∧ Trn q V X) := ⟨hG, hPP, hX⟩
  have H2 : Hid (Zs X w.heap.size) := (HB.out.2.2.keep (HV.out.block _ (by have := HB.out.2.1; omega))).keep (HG.out.2.2.block _ (by have := HB.out.2.1; have := HV.out.size; omega) (by have := hlt; omega))
  clear hG hPP hX
  have z0 := H2.out.c0
  have y0 := H2.out.f 0
  have z1 := H2.out.c1
  have y1 := H2.out.f 1
  have z2 := H2.out.c2
  have y2 := H2.out.f 2
  have z3 := H2.out.c3
  have y3 := H2.out.f 3
  have z4 := H2.out.c4
  have y4 := H2.out.f 4
  have z5 := H2.out.c5
  have y5 := H2.out.f 5
  go_wp2
  refine ret_cells (V := X) (z := w.heap.size) [.int .i64 a0, .int .i64 a1, .slice none 0 0, .int .i64 a3, .int .i64 a4, .slice wp wn wc] rfl rfl H2.out.there (fun W h => run_loadVar_mid (P := Tryz.prog) W _ 0 40 _ _ h Tryz.underlying40 rfl (by kernel_rfl)) rfl ?_
  intro Y hY
  exact ⟨_, rfl, (HG.out.1.trn hY (by have := HB.out.2.1; have := HV.out.size; omega)).mono (by have := HB.out.2.1; have := HV.out.size; omega), HG.out.2.1.keep hY (by have := hlt; omega), (((Trn.ofBelow HB.out.1).trans (Trn.ofBelow HV.out)).trans HG.out.2.2).past hY (Nat.le_refl _)⟩
end Go.Proofs.YthdlefbaegbldaaGreatDoor
