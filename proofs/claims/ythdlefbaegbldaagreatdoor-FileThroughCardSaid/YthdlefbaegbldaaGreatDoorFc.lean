import Derived.Test.YthdlefbaegbldaaGreatDoorFb
import Derived.Deep.RegionHeld3
namespace Go.Proofs.YthdlefbaegbldaaGreatDoor
open Go.RowKit
set_option linter.unusedVariables false
set_option linter.unusedSimpArgs false
set_option maxRecDepth 100000
/-- The table of open files: what it stands on, and where its two tables lie. -/
structure Fls (w : World) (s t c fb pb : Nat) : Prop where
  c0 : w.cell? ⟨s, 0, .none⟩ = some (.pointer (some ⟨t, 0, .none⟩))
  c1 : w.cell? ⟨s, 1, .none⟩ = some (.pointer (some ⟨c, 0, .none⟩))
  c2 : w.cell? ⟨s, 2, .none⟩ = some (.slice (some ⟨fb, 0, .none⟩) 100 100)
  c3 : w.cell? ⟨s, 3, .none⟩ = some (.slice (some ⟨pb, 0, .none⟩) 32 32)
theorem Fls.keep {w w' : World} {s t c fb pb : Nat} (h : Fls w s t c fb pb) (hb : w'.heap[s]? = w.heap[s]?) : Fls w' s t c fb pb :=
  ⟨(World.cell?_of_block hb).trans h.c0, (World.cell?_of_block hb).trans h.c1, (World.cell?_of_block hb).trans h.c2, (World.cell?_of_block hb).trans h.c3⟩
theorem Fls.lt {w : World} {s t c fb pb : Nat} (h : Fls w s t c fb pb) : s < w.heap.size := lt_cell h.c0
theorem Fls.below {w w' : World} {s t c fb pb : Nat} (h : Fls w s t c fb pb) (hb : Below w.heap.size w w') : Fls w' s t c fb pb := h.keep (hb.block s h.lt)
theorem isMadeF_any {w : World} {s t c fb pb : Nat} (h : Fls w s t c fb pb) : Calls Tryz.prog 26 #[.pointer (some ⟨s, 0, .none⟩)] w fun e w' => e = .returned (.bool true) ∧ w' = w := by
  have c0 := h.c0
  go_enter Tryz.func26, Tryz.ntmps26
  go_wp2
  go_ret
  exact ⟨rfl, rfl⟩
theorem getF_some {w : World} {s t c fb pb : Nat} {F : Nat → Option Nat} (h : Fls w s t c fb pb) (hT : Tab w fb 100 F) (k b : Nat) (hk : k < 100) (hF : F k = some b) :
    Calls Tryz.prog 30 #[.pointer (some ⟨s, 0, .none⟩), .int .i64 k] w fun e w' => e = .returned (.tuple #[.pointer (some ⟨b, 0, .none⟩), .int .i64 0]) ∧ Below w.heap.size w w' := by
  have a0 := isMadeF_any h
  have a1 := tgetF_any hT (by omega) k
  have e : tg F 100 (k : Int) = some ⟨b, 0, .none⟩ := by rw [tg, if_pos (by omega), Int.toNat_natCast, opt_some hF]
  rw [e] at a1
  have c2 := h.c2
  clear e
  go_enter Tryz.func30, Tryz.ntmps30
  go_wp2_with fail
  refine a0.mono ?_
  rintro _ w1 ⟨rfl, hw1⟩
  obtain rfl : w = w1 := hw1.symm
  go_wp2_with fail
  refine a1.mono ?_
  rintro _ w1 ⟨rfl, hw1⟩
  have HB : Hid (Below w.heap.size w w1) := hw1
  clear hw1 a1 a0
  go_wp2
  go_ret2
  exact ⟨rfl, HB.out⟩
theorem getF_none {w : World} {s t c fb pb : Nat} {F : Nat → Option Nat} (h : Fls w s t c fb pb) (hT : Tab w fb 100 F) (k : Int) (hF : tg F 100 k = none) :
    Calls Tryz.prog 30 #[.pointer (some ⟨s, 0, .none⟩), .int .i64 k] w fun e w' => e = .returned (.tuple #[.pointer .none, .int .i64 240]) ∧ Below w.heap.size w w' := by
  have a0 := isMadeF_any h
  have a1 := tgetF_any hT (by omega) k
  rw [hF] at a1
  have c2 := h.c2
  clear hF
  go_enter Tryz.func30, Tryz.ntmps30
  go_wp2_with fail
  refine a0.mono ?_
  rintro _ w1 ⟨rfl, hw1⟩
  obtain rfl : w = w1 := hw1.symm
  go_wp2_with fail
  refine a1.mono ?_
  rintro _ w1 ⟨rfl, hw1⟩
  have HB : Hid (Below w.heap.size w w1) := hw1
  clear hw1 a1 a0
  go_wp2
  go_ret2
  exact ⟨rfl, HB.out⟩
/-- How many are free: both calls in either order. -/
theorem leftF_any {w : World} {s t c fb pb : Nat} {F P : Nat → Option Nat} (h : Fls w s t c fb pb) (hT : Tab w fb 100 F) (hP : Tab w pb 32 P) :
    Calls Tryz.prog 19 #[.pointer (some ⟨s, 0, .none⟩)] w fun e w' => e = .returned (.tuple #[.int .i64 (lft F 100), .int .i64 (lft P 32)]) ∧ Below w.heap.size w w' := by
  have a0 := isMadeF_any h
  have HC : Hid (∀ U, Below w.heap.size w U → (U.cell? ⟨s, 2, .none⟩ = some (.slice (some ⟨fb, 0, .none⟩) 100 100) ∧ U.cell? ⟨s, 3, .none⟩ = some (.slice (some ⟨pb, 0, .none⟩) 32 32)) ∧ Tab U fb 100 F ∧ Tab U pb 32 P) := fun U hU => ⟨⟨(h.below hU).c2, (h.below hU).c3⟩, hT.below (by omega) hU, hP.below (by omega) hU⟩
  have s1 : ∀ U, (U.cell? ⟨s, 2, .none⟩ = some (.slice (some ⟨fb, 0, .none⟩) 100 100) ∧ U.cell? ⟨s, 3, .none⟩ = some (.slice (some ⟨pb, 0, .none⟩) 32 32) ∧ Below w.heap.size w U) → Calls Tryz.prog 39 #[.agg #[.slice (some ⟨fb, 0, .none⟩) 100 100]] U fun e U' => e = .returned (.int .i64 (lft F 100)) ∧ (U'.cell? ⟨s, 2, .none⟩ = some (.slice (some ⟨fb, 0, .none⟩) 100 100) ∧ U'.cell? ⟨s, 3, .none⟩ = some (.slice (some ⟨pb, 0, .none⟩) 32 32) ∧ Below w.heap.size w U') := fun U hU => by
    refine (tleftF_any (HC.out U hU.2.2).2.1 (by omega) (by omega)).mono ?_
    rintro e U' ⟨he, hb⟩
    have hb' := hU.2.2.trans (hb.mono hU.2.2.size)
    exact ⟨he, (HC.out U' hb').1.1, (HC.out U' hb').1.2, hb'⟩
  have s2 : ∀ U, (U.cell? ⟨s, 2, .none⟩ = some (.slice (some ⟨fb, 0, .none⟩) 100 100) ∧ U.cell? ⟨s, 3, .none⟩ = some (.slice (some ⟨pb, 0, .none⟩) 32 32) ∧ Below w.heap.size w U) → Calls Tryz.prog 41 #[.agg #[.slice (some ⟨pb, 0, .none⟩) 32 32]] U fun e U' => e = .returned (.int .i64 (lft P 32)) ∧ (U'.cell? ⟨s, 2, .none⟩ = some (.slice (some ⟨fb, 0, .none⟩) 100 100) ∧ U'.cell? ⟨s, 3, .none⟩ = some (.slice (some ⟨pb, 0, .none⟩) 32 32) ∧ Below w.heap.size w U') := fun U hU => by
    refine (tleftP_any (HC.out U hU.2.2).2.2 (by omega) (by omega)).mono ?_
    rintro e U' ⟨he, hb⟩
    have hb' := hU.2.2.trans (hb.mono hU.2.2.size)
    exact ⟨he, (HC.out U' hb').1.1, (HC.out U' hb').1.2, hb'⟩
  have hd : Below w.heap.size w w.drew := (Below.refl _ _).drew
  have j0 : w.drew.cell? ⟨s, 2, .none⟩ = some (.slice (some ⟨fb, 0, .none⟩) 100 100) ∧ w.drew.cell? ⟨s, 3, .none⟩ = some (.slice (some ⟨pb, 0, .none⟩) 32 32) ∧ Below w.heap.size w w.drew := ⟨h.c2, h.c3, hd⟩
  clear hd h hT hP
  go_enter Tryz.func19, Tryz.ntmps19
  go_wp2_with fail
  refine a0.mono ?_
  rintro _ w1 ⟨rfl, hw1⟩
  obtain rfl : w = w1 := hw1.symm
  clear a0
  go_upto_region 3 with fail
  go_region_held3 (fun U => U.cell? ⟨s, 2, .none⟩ = some (.slice (some ⟨fb, 0, .none⟩) 100 100) ∧ U.cell? ⟨s, 3, .none⟩ = some (.slice (some ⟨pb, 0, .none⟩) 32 32) ∧ Below w.heap.size w U) (first | assumption | exact j0) (first | (go_at_call 39; refine (s1 _ (by assumption)).mono ?_; rintro _ V ⟨rfl, hS⟩) | (go_at_call 41; refine (s2 _ (by assumption)).mono ?_; rintro _ V ⟨rfl, hS⟩))
  all_goals go_wp2
  all_goals go_ret2
  all_goals exact ⟨rfl, by first | exact hS.2.2 | assumption⟩
end Go.Proofs.YthdlefbaegbldaaGreatDoor
