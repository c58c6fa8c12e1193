import Derived.Test.YthdlefbaegbldaaGreatDoorFr
namespace Go.Proofs.YthdlefbaegbldaaGreatDoor
open Go.RowKit
set_option linter.unusedVariables false
set_option linter.unusedSimpArgs false
set_option maxRecDepth 100000
/-- Where a whole block begins, if there is one. -/
def opt (o : Option Nat) : Option Addr := o.map fun b => ⟨b, 0, .none⟩
/-- A table of places. -/
structure Tab (w : World) (g n : Nat) (F : Nat → Option Nat) : Prop where
  c : ∀ i, i < n → w.cell? ⟨g, i, .none⟩ = some (.pointer (opt (F i)))
  f : ∀ i, i < n → w.frozen? ⟨g, i, .none⟩ = false
theorem Tab.keep {w w' : World} {g n : Nat} {F : Nat → Option Nat} (h : Tab w g n F) (hb : w'.heap[g]? = w.heap[g]?) : Tab w' g n F :=
  ⟨fun i hi => (World.cell?_of_block hb).trans (h.c i hi), fun i hi => (World.frozen?_of_block hb).trans (h.f i hi)⟩
theorem Tab.lt {w : World} {g n : Nat} {F : Nat → Option Nat} (h : Tab w g n F) (hn : 0 < n) : g < w.heap.size := lt_cell (h.c 0 hn)
theorem Tab.below {w w' : World} {g n : Nat} {F : Nat → Option Nat} (h : Tab w g n F) (hn : 0 < n) (hb : Below w.heap.size w w') : Tab w' g n F := h.keep (hb.block g (h.lt hn))
def tg (F : Nat → Option Nat) (n : Nat) (k : Int) : Option Addr := if 0 ≤ k ∧ k < n then opt (F k.toNat) else none

theorem tgetF_any {w : World} {g n : Nat} {F : Nat → Option Nat} (h : Tab w g n F) (hn : n < 1000000) (k : Int) : Calls Tryz.prog 57 #[.agg #[.slice (some ⟨g, 0, .none⟩) n n], .int .i64 k] w fun e w' => e = .returned (.pointer (tg F n k)) ∧ Below w.heap.size w w' := by
  by_cases k0 : k < 0
  · have e : tg F n k = none := by rw [tg, if_neg (by omega)]
    rw [e]
    go_enter Tryz.func57, Tryz.ntmps57
    go_wp2
    go_ret
    exact ⟨rfl, (Below.refl _ _).alloc (Nat.le_refl _) _⟩
  · by_cases k1 : (n : Int) ≤ k
    · have e : tg F n k = none := by rw [tg, if_neg (by omega)]
      rw [e]
      have k2 : k ≥ (n : Int) := k1
      go_enter Tryz.func57, Tryz.ntmps57
      go_wp2
      go_ret
      exact ⟨rfl, (Below.refl _ _).alloc (Nat.le_refl _) _⟩
    · obtain ⟨i, rfl⟩ := Int.eq_ofNat_of_zero_le (by omega : 0 ≤ k)
      have hi : i < n := by omega
      have e : tg F n (i : Int) = opt (F i) := by rw [tg, if_pos (by omega)]; simp
      rw [e]
      have c1 : (w.alloc (.cells #[.slice (some ⟨g, 0, .none⟩) n n] 61)).cell? ⟨g, i, .none⟩ = some (.pointer (opt (F i))) := by
        rw [World.cell?_alloc_past _ _ _ (by have := h.lt (by omega); exact this)]; exact h.c i hi
      have c2 : (w.alloc (.cells #[.slice (some ⟨g, 0, .none⟩) n n] 61)).cell? ⟨w.heap.size, 0, .none⟩ = some (.slice (some ⟨g, 0, .none⟩) n n) := by
        rw [World.cell?_alloc_at _ _ _ _ rfl]; rfl
      have hb : Below w.heap.size w (w.alloc (.cells #[.slice (some ⟨g, 0, .none⟩) n n] 61)) := (Below.refl _ _).alloc (Nat.le_refl _) _
      generalize opt (F i) = v at *
      go_enter Tryz.func57, Tryz.ntmps57
      go_upto_region 1 with fail
      generalize (w.alloc (.cells #[.slice (some ⟨g, 0, .none⟩) n n] 61)) = W at *
      go_wp2
      go_ret
      exact ⟨rfl, hb⟩

theorem tgetP_any {w : World} {g n : Nat} {F : Nat → Option Nat} (h : Tab w g n F) (hn : n < 1000000) (k : Int) : Calls Tryz.prog 36 #[.agg #[.slice (some ⟨g, 0, .none⟩) n n], .int .i64 k] w fun e w' => e = .returned (.pointer (tg F n k)) ∧ Below w.heap.size w w' := by
  by_cases k0 : k < 0
  · have e : tg F n k = none := by rw [tg, if_neg (by omega)]
    rw [e]
    go_enter Tryz.func36, Tryz.ntmps36
    go_wp2
    go_ret
    exact ⟨rfl, (Below.refl _ _).alloc (Nat.le_refl _) _⟩
  · by_cases k1 : (n : Int) ≤ k
    · have e : tg F n k = none := by rw [tg, if_neg (by omega)]
      rw [e]
      have k2 : k ≥ (n : Int) := k1
      go_enter Tryz.func36, Tryz.ntmps36
      go_wp2
      go_ret
      exact ⟨rfl, (Below.refl _ _).alloc (Nat.le_refl _) _⟩
    · obtain ⟨i, rfl⟩ := Int.eq_ofNat_of_zero_le (by omega : 0 ≤ k)
      have hi : i < n := by omega
      have e : tg F n (i : Int) = opt (F i) := by rw [tg, if_pos (by omega)]; simp
      rw [e]
      have c1 : (w.alloc (.cells #[.slice (some ⟨g, 0, .none⟩) n n] 64)).cell? ⟨g, i, .none⟩ = some (.pointer (opt (F i))) := by
        rw [World.cell?_alloc_past _ _ _ (by have := h.lt (by omega); exact this)]; exact h.c i hi
      have c2 : (w.alloc (.cells #[.slice (some ⟨g, 0, .none⟩) n n] 64)).cell? ⟨w.heap.size, 0, .none⟩ = some (.slice (some ⟨g, 0, .none⟩) n n) := by
        rw [World.cell?_alloc_at _ _ _ _ rfl]; rfl
      have hb : Below w.heap.size w (w.alloc (.cells #[.slice (some ⟨g, 0, .none⟩) n n] 64)) := (Below.refl _ _).alloc (Nat.le_refl _) _
      generalize opt (F i) = v at *
      go_enter Tryz.func36, Tryz.ntmps36
      go_upto_region 1 with fail
      generalize (w.alloc (.cells #[.slice (some ⟨g, 0, .none⟩) n n] 64)) = W at *
      go_wp2
      go_ret
      exact ⟨rfl, hb⟩
end Go.Proofs.YthdlefbaegbldaaGreatDoor
