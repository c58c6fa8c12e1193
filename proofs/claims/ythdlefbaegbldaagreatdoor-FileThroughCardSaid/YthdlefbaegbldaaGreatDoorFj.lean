import Derived.Test.YthdlefbaegbldaaGreatDoorFh
namespace Go.Proofs.YthdlefbaegbldaaGreatDoor
open Go.RowKit
set_option linter.unusedVariables false
set_option linter.unusedSimpArgs false
set_option maxRecDepth 100000
theorem run_store_func (P : Program) (w : World) (a : Addr) (f : Fn) (c d : Array Value) (m : Mode) (hc : (w.cell? a).isSome = true) (hf : w.frozen? a = false) :
    (store a (.func f c d) m).run P w = .ok () (w.setCell a (.func f c d)) := by
  obtain ⟨u, hu⟩ := Option.isSome_iff_exists.1 hc
  rw [run_store P w a (.func f c d) m rfl, hu]
  simp [hf]
theorem run_store_nilFunc (P : Program) (w : World) (a : Addr) (m : Mode) (hc : (w.cell? a).isSome = true) (hf : w.frozen? a = false) :
    (store a .nilFunc m).run P w = .ok () (w.setCell a .nilFunc) := by
  obtain ⟨u, hu⟩ := Option.isSome_iff_exists.1 hc
  rw [run_store P w a .nilFunc m rfl, hu]
  simp [hf]
attribute [local go_sem] run_store_func run_store_nilFunc
/-- Three functions in a box of their own. -/
structure Wy (w : World) (z : Nat) (a b c : Value) : Prop where
  c0 : w.cell? ⟨z, 0, .none⟩ = some a
  c1 : w.cell? ⟨z, 1, .none⟩ = some b
  c2 : w.cell? ⟨z, 2, .none⟩ = some c
  f : ∀ i, w.frozen? ⟨z, i, .none⟩ = false
theorem Wy.new (w : World) : Wy (w.alloc (.cells #[.nilFunc, .nilFunc, .nilFunc] 110)) w.heap.size .nilFunc .nilFunc .nilFunc :=
  ⟨by rw [World.cell?_alloc_at _ _ _ _ rfl]; rfl, by rw [World.cell?_alloc_at _ _ _ _ rfl]; rfl, by rw [World.cell?_alloc_at _ _ _ _ rfl]; rfl, fun i => froz_new _ _ _ _⟩
theorem Wy.keep {w w' : World} {z : Nat} {a b c : Value} (h : Wy w z a b c) (hb : w'.heap[z]? = w.heap[z]?) : Wy w' z a b c :=
  ⟨(World.cell?_of_block hb).trans h.c0, (World.cell?_of_block hb).trans h.c1, (World.cell?_of_block hb).trans h.c2, fun i => (World.frozen?_of_block hb).trans (h.f i)⟩
theorem Wy.there {w : World} {z : Nat} {a b c : Value} (h : Wy w z a b c) : w.there z 0 3 := fun j hj => by
  rw [Nat.zero_add]
  refine ⟨?_, h.f j⟩
  match j, hj with
  | 0, _ => rw [h.c0]; rfl
  | 1, _ => rw [h.c1]; rfl
  | 2, _ => rw [h.c2]; rfl
def fv (f : Nat) (x : Value) : Value := .func (.func f) #[x] #[]

set_option maxHeartbeats 2000000 in
theorem kindR_any {w : World} {s t c fb pb : Nat} {P : Nat → Option Nat} {b : Nat} {num refs : Int} {rd wr : Bool} {ino off pp : Int} (h : Fls w s t c fb pb) (hP : Tab w pb 32 P) (hL : Lk w b num 2 refs rd wr ino off pp) :
    Calls Tryz.prog 58 #[.pointer (some ⟨s, 0, .none⟩), .pointer (some ⟨b, 0, .none⟩)] w fun e w' => e = .returned (.agg #[fv 76 (enR (tg P 32 pp) pp), fv 77 (enR (tg P 32 pp) pp), fv 78 (enR (tg P 32 pp) pp)]) ∧ Below w.heap.size w w' := by
  obtain ⟨W, hW⟩ : ∃ W, W = w.alloc (.cells #[.nilFunc, .nilFunc, .nilFunc] 110) := ⟨_, rfl⟩
  have HB : Hid (Below w.heap.size w W ∧ W.heap.size = w.heap.size + 1 ∧ Wy W w.heap.size .nilFunc .nilFunc .nilFunc) := by
    rw [hW]
    exact ⟨(Below.refl _ _).alloc (Nat.le_refl _) _, by simp, Wy.new w⟩
  have HW : Hid (w.alloc (.cells #[.nilFunc, .nilFunc, .nilFunc] 110) = W) := hW.symm
  have HL : Hid (Lk W b num 2 refs rd wr ino off pp) := hL.below HB.out.1
  have ce := endOfR_any (h.below HB.out.1) (hP.below (by omega) HB.out.1) HL.out
  have l1 := HL.out.c1
  generalize tg P 32 pp = v at *
  clear hW h hP hL
  go_enter Tryz.func58, Tryz.ntmps58
  go_upto_region 1 with fail
  rw [HW.out]
  clear HW
  go_wp2_with fail
  refine ce.mono ?_
  rintro _ V ⟨rfl, hV⟩
  have HV : Hid (Below W.heap.size W V) := hV
  clear hV ce l1
  simp only [enR]
  have HU : Hid (En (V.alloc (.cells #[.pointer v, .int .i64 4, .int .i64 pp, .int .i64 5, .int .i64 pp] 146)) V.heap.size v 4 5 pp ∧ Below W.heap.size W (V.alloc (.cells #[.pointer v, .int .i64 4, .int .i64 pp, .int .i64 5, .int .i64 pp] 146))) := ⟨En.new V v 4 5 pp, HV.out.alloc HV.out.size _⟩
  go_upto_region 3 with fail
  generalize V.alloc (.cells #[.pointer v, .int .i64 4, .int .i64 pp, .int .i64 5, .int .i64 pp] 146) = U at *
  generalize V.heap.size = z at *
  have HY : Hid (Wy U w.heap.size .nilFunc .nilFunc .nilFunc) := HB.out.2.2.keep (HU.out.2.block _ (by have := HB.out.2.1; omega))
  have e0 := HU.out.1.c0
  have e1 := HU.out.1.c1
  have e2 := HU.out.1.c2
  have e3 := HU.out.1.c3
  have e4 := HU.out.1.c4
  have y0 := HY.out.c0
  have y1 := HY.out.c1
  have y2 := HY.out.c2
  have f0 := HY.out.f 0
  have f1 := HY.out.f 1
  have f2 := HY.out.f 2
  go_wp2
  refine ret_cells (V := U) (z := w.heap.size) [.func (.func 76) #[(.agg #[.pointer v, .int .i64 4, .int .i64 pp, .int .i64 5, .int .i64 pp])] #[], .func (.func 77) #[(.agg #[.pointer v, .int .i64 4, .int .i64 pp, .int .i64 5, .int .i64 pp])] #[], .func (.func 78) #[(.agg #[.pointer v, .int .i64 4, .int .i64 pp, .int .i64 5, .int .i64 pp])] #[]] rfl rfl HY.out.there (fun W h => run_loadVar_mid (P := Tryz.prog) W _ 0 110 _ _ h Tryz.underlying110 rfl (by kernel_rfl)) rfl ?_
  intro X hX
  have bb : Below w.heap.size w U := HB.out.1.trans (HU.out.2.mono (by have := HB.out.2.1; omega))
  exact ⟨rfl, bb.trans (hX.toBelow (Nat.le_refl _) bb.size)⟩

set_option maxHeartbeats 2000000 in
theorem kindW_any {w : World} {s t c fb pb : Nat} {P : Nat → Option Nat} {b : Nat} {num refs : Int} {rd wr : Bool} {ino off pp : Int} (h : Fls w s t c fb pb) (hP : Tab w pb 32 P) (hL : Lk w b num 3 refs rd wr ino off pp) :
    Calls Tryz.prog 58 #[.pointer (some ⟨s, 0, .none⟩), .pointer (some ⟨b, 0, .none⟩)] w fun e w' => e = .returned (.agg #[fv 76 (enW (tg P 32 pp) pp), fv 77 (enW (tg P 32 pp) pp), fv 78 (enW (tg P 32 pp) pp)]) ∧ Below w.heap.size w w' := by
  obtain ⟨W, hW⟩ : ∃ W, W = w.alloc (.cells #[.nilFunc, .nilFunc, .nilFunc] 110) := ⟨_, rfl⟩
  have HB : Hid (Below w.heap.size w W ∧ W.heap.size = w.heap.size + 1 ∧ Wy W w.heap.size .nilFunc .nilFunc .nilFunc) := by
    rw [hW]
    exact ⟨(Below.refl _ _).alloc (Nat.le_refl _) _, by simp, Wy.new w⟩
  have HW : Hid (w.alloc (.cells #[.nilFunc, .nilFunc, .nilFunc] 110) = W) := hW.symm
  have HL : Hid (Lk W b num 3 refs rd wr ino off pp) := hL.below HB.out.1
  have ce := endOfW_any (h.below HB.out.1) (hP.below (by omega) HB.out.1) HL.out
  have l1 := HL.out.c1
  generalize tg P 32 pp = v at *
  clear hW h hP hL
  go_enter Tryz.func58, Tryz.ntmps58
  go_upto_region 1 with fail
  rw [HW.out]
  clear HW
  go_wp2_with fail
  refine ce.mono ?_
  rintro _ V ⟨rfl, hV⟩
  have HV : Hid (Below W.heap.size W V) := hV
  clear hV ce l1
  simp only [enW]
  have HU : Hid (En (V.alloc (.cells #[.pointer v, .int .i64 5, .int .i64 pp, .int .i64 4, .int .i64 pp] 146)) V.heap.size v 5 4 pp ∧ Below W.heap.size W (V.alloc (.cells #[.pointer v, .int .i64 5, .int .i64 pp, .int .i64 4, .int .i64 pp] 146))) := ⟨En.new V v 5 4 pp, HV.out.alloc HV.out.size _⟩
  go_upto_region 3 with fail
  generalize V.alloc (.cells #[.pointer v, .int .i64 5, .int .i64 pp, .int .i64 4, .int .i64 pp] 146) = U at *
  generalize V.heap.size = z at *
  have HY : Hid (Wy U w.heap.size .nilFunc .nilFunc .nilFunc) := HB.out.2.2.keep (HU.out.2.block _ (by have := HB.out.2.1; omega))
  have e0 := HU.out.1.c0
  have e1 := HU.out.1.c1
  have e2 := HU.out.1.c2
  have e3 := HU.out.1.c3
  have e4 := HU.out.1.c4
  have y0 := HY.out.c0
  have y1 := HY.out.c1
  have y2 := HY.out.c2
  have f0 := HY.out.f 0
  have f1 := HY.out.f 1
  have f2 := HY.out.f 2
  go_wp2
  refine ret_cells (V := U) (z := w.heap.size) [.func (.func 76) #[(.agg #[.pointer v, .int .i64 5, .int .i64 pp, .int .i64 4, .int .i64 pp])] #[], .func (.func 77) #[(.agg #[.pointer v, .int .i64 5, .int .i64 pp, .int .i64 4, .int .i64 pp])] #[], .func (.func 78) #[(.agg #[.pointer v, .int .i64 5, .int .i64 pp, .int .i64 4, .int .i64 pp])] #[]] rfl rfl HY.out.there (fun W h => run_loadVar_mid (P := Tryz.prog) W _ 0 110 _ _ h Tryz.underlying110 rfl (by kernel_rfl)) rfl ?_
  intro X hX
  have bb : Below w.heap.size w U := HB.out.1.trans (HU.out.2.mono (by have := HB.out.2.1; omega))
  exact ⟨rfl, bb.trans (hX.toBelow (Nat.le_refl _) bb.size)⟩
end Go.Proofs.YthdlefbaegbldaaGreatDoor
