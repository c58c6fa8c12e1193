import Derived.Test.YthdlefbaegbldaaGreatDoorFj
namespace Go.Proofs.YthdlefbaegbldaaGreatDoor
open Go.RowKit
set_option linter.unusedVariables false
set_option linter.unusedSimpArgs false
set_option maxRecDepth 100000
attribute [local go_sem] run_store_func run_store_nilFunc
theorem Wy.newOf (w : World) (a b c : Value) : Wy (w.alloc (.cells #[a, b, c] 110)) w.heap.size a b c :=
  ⟨by rw [World.cell?_alloc_at _ _ _ _ rfl]; rfl, by rw [World.cell?_alloc_at _ _ _ _ rfl]; rfl, by rw [World.cell?_alloc_at _ _ _ _ rfl]; rfl, fun i => froz_new _ _ _ _⟩
theorem Wy.set2 {U : World} {z : Nat} {a b c : Value} (h : Wy U z a b c) (v : Value) : Wy (U.setCell ⟨z, 2, .none⟩ v) z a b v :=
  ⟨by rw [World.cell?_setCell_other _ _ _ _ (by intro hh; injection hh with _ hh; omega)]; exact h.c0, by rw [World.cell?_setCell_other _ _ _ _ (by intro hh; injection hh with _ hh; omega)]; exact h.c1, World.cell?_setCell_same _ _ _ h.c2, fun i => by rw [World.frozen?_setCell]; exact h.f i⟩
theorem Wy.set01 {U : World} {z : Nat} {a b c : Value} (h : Wy U z a b c) (u v : Value) : Wy ((U.setCell ⟨z, 0, .none⟩ u).setCell ⟨z, 1, .none⟩ v) z u v c :=
  ⟨by rw [World.cell?_setCell_other _ _ _ _ (by intro hh; injection hh with _ hh; omega)]; exact World.cell?_setCell_same _ _ _ h.c0, World.cell?_setCell_same _ _ _ ((World.cell?_setCell_other _ _ _ _ (by intro hh; injection hh with _ hh; omega)).trans h.c1), by rw [World.cell?_setCell_other _ _ _ _ (by intro hh; injection hh with _ hh; omega), World.cell?_setCell_other _ _ _ _ (by intro hh; injection hh with _ hh; omega)]; exact h.c2, fun i => by rw [World.frozen?_setCell, World.frozen?_setCell]; exact h.f i⟩
theorem eqGuard_func (x y : Operand) (t : TypeId) (f : Nat) (c d : Array Value) (v : Value) : eqGuard .eql t x y (.func (.func f) c d) v = pure () := by rfl
theorem eqF_some (f : Nat) (c d : Array Value) (w : World) : (binOp .eql 107 (.func (.func f) c d) .nilFunc).run Tryz.prog w = .ok (.bool false) w := by kernel_rfl
theorem eqF_nil (w : World) : (binOp .eql 107 .nilFunc .nilFunc).run Tryz.prog w = .ok (.bool true) w := by kernel_rfl
theorem eqG_some (f : Nat) (c d : Array Value) (w : World) : (binOp .eql 108 (.func (.func f) c d) .nilFunc).run Tryz.prog w = .ok (.bool false) w := by kernel_rfl
theorem eqG_nil (w : World) : (binOp .eql 108 .nilFunc .nilFunc).run Tryz.prog w = .ok (.bool true) w := by kernel_rfl

set_option maxHeartbeats 2000000 in
theorem waysOfR_any {w : World} {s t c fb pb : Nat} {F P : Nat → Option Nat} {b : Nat} {num refs : Int} {ino off pp : Int} (h : Fls w s t c fb pb) (hT : Tab w fb 100 F) (hP : Tab w pb 32 P) (k : Nat) (hk : k < 100) (hF : F k = some b) (hL : Lk w b num 2 refs true false ino off pp) :
    Calls Tryz.prog 31 #[.pointer (some ⟨s, 0, .none⟩), .int .i64 k] w fun e w' => e = .returned (.agg #[.func (.func 76) #[(enR (tg P 32 pp) pp)] #[], .func (.func 77) #[(enR (tg P 32 pp) pp)] #[], .nilFunc]) ∧ Below w.heap.size w w' := by
  obtain ⟨en, hen⟩ : ∃ en, en = (enR (tg P 32 pp) pp) := ⟨_, rfl⟩
  rw [← hen]
  have HEN : Hid ((enR (tg P 32 pp) pp) = en) := hen.symm
  clear hen
  obtain ⟨W, hW⟩ : ∃ W, W = w.alloc (.cells #[.nilFunc, .nilFunc, .nilFunc] 110) := ⟨_, rfl⟩
  have HB : Hid (Below w.heap.size w W ∧ W.heap.size = w.heap.size + 1 ∧ Wy W w.heap.size .nilFunc .nilFunc .nilFunc) := by
    rw [hW]
    exact ⟨(Below.refl _ _).alloc (Nat.le_refl _) _, by simp, Wy.new w⟩
  have HW : Hid (w.alloc (.cells #[.nilFunc, .nilFunc, .nilFunc] 110) = W) := hW.symm
  have cg := getF_some (h.below HB.out.1) (hT.below (by omega) HB.out.1) k b hk hF
  have HC : Hid (∀ U, Below W.heap.size W U → Fls U s t c fb pb ∧ Tab U pb 32 P ∧ Lk U b num 2 refs true false ino off pp) := fun U hU => by
    have hU' := HB.out.1.trans (hU.mono HB.out.1.size)
    exact ⟨h.below hU', hP.below (by omega) hU', hL.below hU'⟩
  clear hW h hP hL hT hF
  go_enter Tryz.func31, Tryz.ntmps31
  go_upto_region 1 with fail
  rw [HW.out]
  clear HW
  go_wp2_with fail
  refine cg.mono ?_
  rintro _ V ⟨rfl, hV⟩
  have HV : Hid (Below W.heap.size W V) := hV
  clear hV cg
  obtain ⟨h1, h2, h3⟩ := HC.out V HV.out
  have cw := kindR_any h1 h2 h3
  clear h1 h2 h3
  rw [HEN.out] at cw
  simp only [fv] at cw
  go_wp2_with fail
  refine cw.mono ?_
  rintro _ U0 ⟨rfl, hU0⟩
  have HU0 : Hid (Below W.heap.size W U0) := HV.out.trans (hU0.mono HV.out.size)
  clear cw hU0 HV
  have HU : Hid (Wy (U0.alloc (.cells #[.func (.func 76) #[en] #[], .func (.func 77) #[en] #[], .func (.func 78) #[en] #[]] 110)) U0.heap.size (.func (.func 76) #[en] #[]) (.func (.func 77) #[en] #[]) (.func (.func 78) #[en] #[]) ∧ Below W.heap.size W (U0.alloc (.cells #[.func (.func 76) #[en] #[], .func (.func 77) #[en] #[], .func (.func 78) #[en] #[]] 110)) ∧ W.heap.size ≤ U0.heap.size) := ⟨Wy.newOf _ _ _ _, HU0.out.alloc HU0.out.size _, HU0.out.size⟩
  go_upto_region 5 with fail
  generalize U0.alloc (.cells #[.func (.func 76) #[en] #[], .func (.func 77) #[en] #[], .func (.func 78) #[en] #[]] 110) = U at *
  generalize U0.heap.size = z at *
  have HY : Hid (Wy U w.heap.size .nilFunc .nilFunc .nilFunc ∧ w.heap.size ≠ z) := ⟨HB.out.2.2.keep (HU.out.2.1.block _ (by have := HB.out.2.1; omega)), by have := HU.out.2.2; have := HB.out.2.1; omega⟩
  have l3 := (HC.out U HU.out.2.1).2.2.c3
  have l4 := (HC.out U HU.out.2.1).2.2.c4
  have hbz : b ≠ z := by
    have h1 : b < W.heap.size := (HC.out W (Below.refl _ _)).2.2.lt
    have := HU.out.2.2
    omega
  have w0 := HU.out.1.c0
  have w1 := HU.out.1.c1
  have w2 := HU.out.1.c2
  have g0 := HU.out.1.f 0
  have g1 := HU.out.1.f 1
  have g2 := HU.out.1.f 2
  go_upto_region 9 with fail
  have ht : Trn z U (U.setCell ⟨z, 2, .none⟩ .nilFunc) := Trn.setCell _ _ _ _
  have HX : Hid (Wy (U.setCell ⟨z, 2, .none⟩ .nilFunc) z (.func (.func 76) #[en] #[]) (.func (.func 77) #[en] #[]) .nilFunc) := HU.out.1.set2 _
  have HY2 : Hid (Wy (U.setCell ⟨z, 2, .none⟩ .nilFunc) w.heap.size .nilFunc .nilFunc .nilFunc ∧ Below W.heap.size W (U.setCell ⟨z, 2, .none⟩ .nilFunc)) := ⟨HY.out.1.keep (ht.block _ (lt_cell HY.out.1.c0) HY.out.2), HU.out.2.1.trans (ht.toBelow HU.out.2.2 HU.out.2.1.size)⟩
  clear w0 w1 w2 g0 g1 g2 l3 l4 ht HY
  generalize (U.setCell ⟨z, 2, .none⟩ .nilFunc) = X at *
  have w0 := HX.out.c0
  have w1 := HX.out.c1
  have w2 := HX.out.c2
  have y0 := HY2.out.1.c0
  have y1 := HY2.out.1.c1
  have y2 := HY2.out.1.c2
  have f0 := HY2.out.1.f 0
  have f1 := HY2.out.1.f 1
  have f2 := HY2.out.1.f 2
  go_wp2
  refine ret_cells (V := X) (z := w.heap.size) [.func (.func 76) #[en] #[], .func (.func 77) #[en] #[], .nilFunc] rfl rfl HY2.out.1.there (fun W h => run_loadVar_mid (P := Tryz.prog) W _ 0 110 _ _ h Tryz.underlying110 rfl (by kernel_rfl)) rfl ?_
  intro Y hY
  have bb : Below w.heap.size w X := HB.out.1.trans (HY2.out.2.mono (by have := HB.out.2.1; omega))
  exact ⟨rfl, bb.trans (hY.toBelow (Nat.le_refl _) bb.size)⟩

set_option maxHeartbeats 2000000 in
theorem waysOfW_any {w : World} {s t c fb pb : Nat} {F P : Nat → Option Nat} {b : Nat} {num refs : Int} {ino off pp : Int} (h : Fls w s t c fb pb) (hT : Tab w fb 100 F) (hP : Tab w pb 32 P) (k : Nat) (hk : k < 100) (hF : F k = some b) (hL : Lk w b num 3 refs false true ino off pp) :
    Calls Tryz.prog 31 #[.pointer (some ⟨s, 0, .none⟩), .int .i64 k] w fun e w' => e = .returned (.agg #[.nilFunc, .nilFunc, .func (.func 78) #[(enW (tg P 32 pp) pp)] #[]]) ∧ Below w.heap.size w w' := by
  obtain ⟨en, hen⟩ : ∃ en, en = (enW (tg P 32 pp) pp) := ⟨_, rfl⟩
  rw [← hen]
  have HEN : Hid ((enW (tg P 32 pp) pp) = en) := hen.symm
  clear hen
  obtain ⟨W, hW⟩ : ∃ W, W = w.alloc (.cells #[.nilFunc, .nilFunc, .nilFunc] 110) := ⟨_, rfl⟩
  have HB : Hid (Below w.heap.size w W ∧ W.heap.size = w.heap.size + 1 ∧ Wy W w.heap.size .nilFunc .nilFunc .nilFunc) := by
    rw [hW]
    exact ⟨(Below.refl _ _).alloc (Nat.le_refl _) _, by simp, Wy.new w⟩
  have HW : Hid (w.alloc (.cells #[.nilFunc, .nilFunc, .nilFunc] 110) = W) := hW.symm
  have cg := getF_some (h.below HB.out.1) (hT.below (by omega) HB.out.1) k b hk hF
  have HC : Hid (∀ U, Below W.heap.size W U → Fls U s t c fb pb ∧ Tab U pb 32 P ∧ Lk U b num 3 refs false true ino off pp) := fun U hU => by
    have hU' := HB.out.1.trans (hU.mono HB.out.1.size)
    exact ⟨h.below hU', hP.below (by omega) hU', hL.below hU'⟩
  clear hW h hP hL hT hF
  go_enter Tryz.func31, Tryz.ntmps31
  go_upto_region 1 with fail
  rw [HW.out]
  clear HW
  go_wp2_with fail
  refine cg.mono ?_
  rintro _ V ⟨rfl, hV⟩
  have HV : Hid (Below W.heap.size W V) := hV
  clear hV cg
  obtain ⟨h1, h2, h3⟩ := HC.out V HV.out
  have cw := kindW_any h1 h2 h3
  clear h1 h2 h3
  rw [HEN.out] at cw
  simp only [fv] at cw
  go_wp2_with fail
  refine cw.mono ?_
  rintro _ U0 ⟨rfl, hU0⟩
  have HU0 : Hid (Below W.heap.size W U0) := HV.out.trans (hU0.mono HV.out.size)
  clear cw hU0 HV
  have HU : Hid (Wy (U0.alloc (.cells #[.func (.func 76) #[en] #[], .func (.func 77) #[en] #[], .func (.func 78) #[en] #[]] 110)) U0.heap.size (.func (.func 76) #[en] #[]) (.func (.func 77) #[en] #[]) (.func (.func 78) #[en] #[]) ∧ Below W.heap.size W (U0.alloc (.cells #[.func (.func 76) #[en] #[], .func (.func 77) #[en] #[], .func (.func 78) #[en] #[]] 110)) ∧ W.heap.size ≤ U0.heap.size) := ⟨Wy.newOf _ _ _ _, HU0.out.alloc HU0.out.size _, HU0.out.size⟩
  go_upto_region 5 with fail
  generalize U0.alloc (.cells #[.func (.func 76) #[en] #[], .func (.func 77) #[en] #[], .func (.func 78) #[en] #[]] 110) = U at *
  generalize U0.heap.size = z at *
  have HY : Hid (Wy U w.heap.size .nilFunc .nilFunc .nilFunc ∧ w.heap.size ≠ z) := ⟨HB.out.2.2.keep (HU.out.2.1.block _ (by have := HB.out.2.1; omega)), by have := HU.out.2.2; have := HB.out.2.1; omega⟩
  have l3 := (HC.out U HU.out.2.1).2.2.c3
  have l4 := (HC.out U HU.out.2.1).2.2.c4
  have hbz : b ≠ z := by
    have h1 : b < W.heap.size := (HC.out W (Below.refl _ _)).2.2.lt
    have := HU.out.2.2
    omega
  have w0 := HU.out.1.c0
  have w1 := HU.out.1.c1
  have w2 := HU.out.1.c2
  have g0 := HU.out.1.f 0
  have g1 := HU.out.1.f 1
  have g2 := HU.out.1.f 2
  go_upto_region 9 with fail
  have ht : Trn z U ((U.setCell ⟨z, 0, .none⟩ .nilFunc).setCell ⟨z, 1, .none⟩ .nilFunc) := (Trn.setCell _ _ _ _).trans (Trn.setCell _ _ _ _)
  have HX : Hid (Wy ((U.setCell ⟨z, 0, .none⟩ .nilFunc).setCell ⟨z, 1, .none⟩ .nilFunc) z .nilFunc .nilFunc (.func (.func 78) #[en] #[])) := HU.out.1.set01 _ _
  have HY2 : Hid (Wy ((U.setCell ⟨z, 0, .none⟩ .nilFunc).setCell ⟨z, 1, .none⟩ .nilFunc) w.heap.size .nilFunc .nilFunc .nilFunc ∧ Below W.heap.size W ((U.setCell ⟨z, 0, .none⟩ .nilFunc).setCell ⟨z, 1, .none⟩ .nilFunc)) := ⟨HY.out.1.keep (ht.block _ (lt_cell HY.out.1.c0) HY.out.2), HU.out.2.1.trans (ht.toBelow HU.out.2.2 HU.out.2.1.size)⟩
  clear w0 w1 w2 g0 g1 g2 l3 l4 ht HY
  generalize ((U.setCell ⟨z, 0, .none⟩ .nilFunc).setCell ⟨z, 1, .none⟩ .nilFunc) = X at *
  have w0 := HX.out.c0
  have w1 := HX.out.c1
  have w2 := HX.out.c2
  have y0 := HY2.out.1.c0
  have y1 := HY2.out.1.c1
  have y2 := HY2.out.1.c2
  have f0 := HY2.out.1.f 0
  have f1 := HY2.out.1.f 1
  have f2 := HY2.out.1.f 2
  go_wp2
  refine ret_cells (V := X) (z := w.heap.size) [.nilFunc, .nilFunc, .func (.func 78) #[en] #[]] rfl rfl HY2.out.1.there (fun W h => run_loadVar_mid (P := Tryz.prog) W _ 0 110 _ _ h Tryz.underlying110 rfl (by kernel_rfl)) rfl ?_
  intro Y hY
  have bb : Below w.heap.size w X := HB.out.1.trans (HY2.out.2.mono (by have := HB.out.2.1; omega))
  exact ⟨rfl, bb.trans (hY.toBelow (Nat.le_refl _) bb.size)⟩
end Go.Proofs.YthdlefbaegbldaaGreatDoor
