import Derived.Test.YtcjkedgoinbofaaGreatSWalk
import Derived.Laws.Cover3
import Derived.Deep.QuietTactic
import Derived.BigQuiet
import Derived.Deep.RegionLawGrows
import Derived.Deep.RegionHeld3
namespace Go.Proofs.YtcjkedgoinbofaaGreat
open Go.RowKit
set_option linter.unusedVariables false
set_option linter.unusedSimpArgs false
theorem blw_drewN (B : Nat) (w : World) (n : Nat) : Below B w (w.drewN n) := ⟨rfl, rfl, rfl, Nat.le_refl _, fun _ _ => rfl⟩
theorem spn_pos (l : Int) : 0 < spn l := by unfold spn; split <;> (try split) <;> (try split) <;> omega
theorem mod_le {a b : Int} (ha : 0 ≤ a) (hb : 0 < b) : 0 ≤ a % b ∧ a % b ≤ a := ⟨Int.emod_nonneg _ (by omega), by have := Int.mul_ediv_add_emod a b; have := Int.mul_nonneg (Int.le_of_lt hb) (Int.ediv_nonneg ha (Int.le_of_lt hb)); omega⟩
section
variable {w : World} {v : Value}
/-- The cells of a tour. -/
structure Tour (w : World) (T : Nat) (v : Value) (root va : Int) (m : Value) : Prop where
  c0 : w.cell? ⟨T, 0, .none⟩ = some v
  c1 : w.cell? ⟨T, 1, .none⟩ = some (.int .u64 root)
  c2 : w.cell? ⟨T, 2, .none⟩ = some (.int .u64 va)
  c3 : w.cell? ⟨T, 3, .none⟩ = some m
  f2 : w.frozen? ⟨T, 2, .none⟩ = false
theorem Tour.below {w w' : World} {T : Nat} {v : Value} {root va : Int} {m : Value} (h : Tour w T v root va m) (b : Below w.heap.size w w') : Tour w' T v root va m := by
  have hT : T < w.heap.size := lt_of_cell h.c0
  exact ⟨(b.cell hT).trans h.c0, (b.cell hT).trans h.c1, (b.cell hT).trans h.c2, (b.cell hT).trans h.c3, (b.frozen hT).trans h.f2⟩
theorem Tour.set {w : World} {T : Nat} {v : Value} {root va : Int} {m : Value} (h : Tour w T v root va m) (x : Int) : Tour (w.setCell ⟨T, 2, .none⟩ (.int .u64 x)) T v root x m :=
  ⟨(World.cell?_setCell_other _ _ _ _ (by simp)).trans h.c0, (World.cell?_setCell_other _ _ _ _ (by simp)).trans h.c1, World.cell?_setCell_same' _ _ _ (by rw [h.c2]; rfl), (World.cell?_setCell_other _ _ _ _ (by simp)).trans h.c3, by rw [World.frozen?_setCell]; exact h.f2⟩
end
end Go.Proofs.YtcjkedgoinbofaaGreat
