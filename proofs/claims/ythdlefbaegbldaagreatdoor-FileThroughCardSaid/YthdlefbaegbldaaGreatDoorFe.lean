import Derived.Test.YthdlefbaegbldaaGreatDoorFd
namespace Go.Proofs.YthdlefbaegbldaaGreatDoor
open Go.RowKit
set_option linter.unusedVariables false
set_option linter.unusedSimpArgs false
set_option maxRecDepth 100000
/-- No channel, or just one. -/
def Ch1 (w : World) (base : Nat) (v : Value) (yes : Bool) (l pp : Int) : Prop :=
  (yes = false ∧ v = .slice none 0 0) ∨ (yes = true ∧ ∃ g, base ≤ g ∧ v = .slice (some ⟨g, 0, .none⟩) 1 1 ∧ w.cell? ⟨g, 0, .none⟩ = some (.int .i64 l) ∧ w.cell? ⟨g, 1, .none⟩ = some (.int .i64 pp))
theorem Ch1.trn {w w' : World} {b base : Nat} {v : Value} {yes : Bool} {l pp : Int} (h : Ch1 w base v yes l pp) (ht : Trn b w w') (hb : b < base) : Ch1 w' base v yes l pp := by
  rcases h with h | ⟨h1, g, h2, h3, h4, h5⟩
  · exact .inl h
  · have hk := ht.block g (lt_cell h4) (by omega)
    exact .inr ⟨h1, g, h2, h3, (World.cell?_of_block hk).trans h4, (World.cell?_of_block hk).trans h5⟩
theorem Ch1.below {w w' : World} {base : Nat} {v : Value} {yes : Bool} {l pp : Int} (h : Ch1 w base v yes l pp) (hb : Below w.heap.size w w') : Ch1 w' base v yes l pp := by
  rcases h with h | ⟨h1, g, h2, h3, h4, h5⟩
  · exact .inl h
  · exact .inr ⟨h1, g, h2, h3, (hb.cell (p := ⟨g, 0, .none⟩) (lt_cell h4)).trans h4, (hb.cell (p := ⟨g, 1, .none⟩) (lt_cell h5)).trans h5⟩
theorem Ch1.mono {w : World} {base base' : Nat} {v : Value} {yes : Bool} {l pp : Int} (h : Ch1 w base v yes l pp) (hb : base' ≤ base) : Ch1 w base' v yes l pp := by
  rcases h with h | ⟨h1, g, h2, h3⟩
  · exact .inl h
  · exact .inr ⟨h1, g, Nat.le_trans hb h2, h3⟩
def enV (q : Option Addr) (k l pp : Int) : Value := .agg #[.pointer q, .int .i64 k, .int .i64 pp, .int .i64 l, .int .i64 pp]
theorem enR_V (q : Option Addr) (pp : Int) : enR q pp = enV q 4 5 pp := rfl
theorem enW_V (q : Option Addr) (pp : Int) : enW q pp = enV q 5 4 pp := rfl
theorem En.new (w : World) (q : Option Addr) (k l pp : Int) : En (w.alloc (.cells #[.pointer q, .int .i64 k, .int .i64 pp, .int .i64 l, .int .i64 pp] 146)) w.heap.size q k l pp :=
  ⟨by rw [World.cell?_alloc_at _ _ _ _ rfl]; rfl, by rw [World.cell?_alloc_at _ _ _ _ rfl]; rfl, by rw [World.cell?_alloc_at _ _ _ _ rfl]; rfl, by rw [World.cell?_alloc_at _ _ _ _ rfl]; rfl, by rw [World.cell?_alloc_at _ _ _ _ rfl]; rfl, fun i => froz_new _ _ _ _⟩
theorem wakeFor_any (w : World) (q : Option Addr) (k l pp : Int) (n : Nat) :
    Calls Tryz.prog 98 #[.agg #[.pointer q, .int .i64 k, .int .i64 pp, .int .i64 l, .int .i64 pp], .int .i64 n] w fun e w' => ∃ v, e = .returned v ∧ (∃ p n c, v = .slice p n c) ∧ Ch1 w' w.heap.size v (n != 0) l pp ∧ Below w.heap.size w w' := by
  obtain ⟨W, hW⟩ : ∃ W, W = w.alloc (.cells #[.pointer q, .int .i64 k, .int .i64 pp, .int .i64 l, .int .i64 pp] 146) := ⟨_, rfl⟩
  have HB : Hid (Below w.heap.size w W ∧ w.heap.size ≤ W.heap.size) := by rw [hW]; exact ⟨(Below.refl _ _).alloc (Nat.le_refl _) _, by simp⟩
  have HE : Hid (En W w.heap.size q k l pp) := by rw [hW]; exact En.new w q k l pp
  have HW : Hid (w.alloc (.cells #[.pointer q, .int .i64 k, .int .i64 pp, .int .i64 l, .int .i64 pp] 146) = W) := hW.symm
  clear hW
  have e3 := HE.out.c3
  have e4 := HE.out.c4
  by_cases h0 : n = 0
  · subst h0
    go_enter Tryz.func98, Tryz.ntmps98
    go_wp2
    go_ret
    rw [HW.out]
    exact ⟨_, rfl, ⟨_, _, _, rfl⟩, .inl ⟨rfl, rfl⟩, HB.out.1⟩
  · have i0 : ((n : Int) == 0) = false := by simp; omega
    go_enter Tryz.func98, Tryz.ntmps98
    go_upto_region 1 with fail
    rw [HW.out]
    go_wp2
    go_ret
    refine ⟨_, rfl, ⟨_, _, _, rfl⟩, .inr ⟨by simp [h0], W.heap.size, HB.out.2, rfl, ?_, ?_⟩, HB.out.1.alloc HB.out.2 _⟩
    · rw [World.cell?_alloc_at _ _ _ _ rfl]; rfl
    · rw [World.cell?_alloc_at _ _ _ _ rfl]; rfl
end Go.Proofs.YthdlefbaegbldaaGreatDoor
