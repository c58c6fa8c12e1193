import Derived.Test.YtpdlcjcigeegjaaDoorRd9
namespace Go.Proofs.YtpdlcjcigeegjaaDoor
open Go.RowKit
set_option linter.unusedVariables false
set_option linter.unusedSimpArgs false
set_option maxHeartbeats 1000000 in
theorem prog_nil {W0 w : World} {rb : Nat} (h : w.cell? ⟨rb, 0, .none⟩ = some (.slice .none 0 0)) (hb : Below W0.heap.size W0 w) :
    Calls Tryd.prog 17 #[.pointer (some ⟨rb, 0, .none⟩)] w fun e w' => UpX W0 0 140 e w' := by
  have k : Below w.heap.size w (w.alloc (.cells #[.int .u64 0, .slice .none 0 0] 30)) := (Below.refl _ _).alloc (Nat.le_refl _) _
  have hc := (k.cell (lt_of_cell h)).trans h
  have HB : Hid (Below W0.heap.size W0 (w.alloc (.cells #[.int .u64 0, .slice .none 0 0] 30))) := hb.trans (k.mono hb.size)
  clear k
  go_enter Tryd.func17, Tryd.ntmps17
  go_wp2_with fail
  generalize w.alloc (.cells #[.int .u64 0, .slice .none 0 0] 30) = W1 at *
  refine (length_lo rb 0 0 _ W1 hc (by omega)).mono ?_
  intro e w0 hu
  obtain ⟨v, rfl, hu2⟩ := id hu
  exact ⟨rfl, hu.x HB.out⟩
set_option maxHeartbeats 1000000 in
theorem read_nil (W : World) :
    Calls Tryd.prog 7 #[.slice .none 0 0] W fun e w' => ∃ v, e = .returned (.tuple #[.agg #[.int .u64 0, .slice .none 0 0], v]) ∧ FaultIn w' 0 v 0 140 ∧ Below W.heap.size W w' := by
  have hz0 : ((W.alloc (.cells #[.int .u64 0, .slice .none 0 0] 30)).alloc (.cells #[.nilIface] 24)).heap.size = W.heap.size + 1 + 1 := by simp only [World.size_alloc]
  have HB0 : Hid (Below W.heap.size W ((W.alloc (.cells #[.int .u64 0, .slice .none 0 0] 30)).alloc (.cells #[.nilIface] 24))) := ((Below.refl _ _).alloc (Nat.le_refl _) _).alloc (by simp only [World.size_alloc]; omega) _
  have HE : Hid (((W.alloc (.cells #[.int .u64 0, .slice .none 0 0] 30)).alloc (.cells #[.nilIface] 24)).heap[W.heap.size]? = some (.cells #[.int .u64 0, .slice .none 0 0] 30 (0, 0)) ∧ ((W.alloc (.cells #[.int .u64 0, .slice .none 0 0] 30)).alloc (.cells #[.nilIface] 24)).heap[W.heap.size + 1]? = some (.cells #[.nilIface] 24 (0, 0))) := by
    constructor
    · rw [Below.heap_alloc _ _ _ (by simp only [World.size_alloc]; omega)]
      exact heap_new _ _
    · have := heap_new (W.alloc (.cells #[.int .u64 0, .slice .none 0 0] 30)) (.cells #[.nilIface] 24)
      rwa [World.size_alloc] at this
  go_enter_defers Tryd.func7, Tryd.ntmps7
  go_wp2_with fail
  generalize hW0 : ((W.alloc (.cells #[.int .u64 0, .slice .none 0 0] 30)).alloc (.cells #[.nilIface] 24)) = W0 at *
  clear hW0
  have hp := prog_nil (W0 := W0) (w := W0.alloc (.cells #[.slice .none 0 0, .slice .none 0 0] 51)) (rb := W0.heap.size) (World.cell?_alloc_at _ _ _ _ rfl) ((Below.refl _ _).alloc (Nat.le_refl _) _)
  rw [hz0] at hp
  refine hp.mono ?_
  clear hp
  intro e V hP
  obtain ⟨v, rfl, hf, hbV⟩ := hP
  obtain ⟨fb, _, hfl, rfl, f0, f1, f2⟩ := hf
  have q0 := (hbV.block W.heap.size (by omega)).trans HE.out.1
  have q1 := (hbV.block (W.heap.size + 1) (by omega)).trans HE.out.2
  have r0 : V.cell? ⟨W.heap.size, 0, .none⟩ = some (.int .u64 0) := by simp [World.cell?, q0]
  have r1 : V.cell? ⟨W.heap.size, 1, .none⟩ = some (.slice .none 0 0) := by simp [World.cell?, q0]
  have r2 : V.cell? ⟨W.heap.size + 1, 0, .none⟩ = some .nilIface := by simp [World.cell?, q1]
  have z0 : V.frozen? ⟨W.heap.size, 0, .none⟩ = false := by simp [World.frozen?, q0]
  have z1 : V.frozen? ⟨W.heap.size, 1, .none⟩ = false := by simp [World.frozen?, q0]
  have z2 : V.frozen? ⟨W.heap.size + 1, 0, .none⟩ = false := by simp [World.frozen?, q1]
  refine leaves_cons (f := 16) (args := #[.pointer (some ⟨W.heap.size, 0, .none⟩), .pointer (some ⟨W.heap.size + 1, 0, .none⟩)]) (by simp) (by simp [go_sem]) ?_
  refine (catch_up W.heap.size (W.heap.size + 1) (some ⟨fb, 0, .none⟩) [] V _ _ _ r0 r1 r2 z0 z1 z2 (by omega)).mono ?_
  rintro e u' w'' ⟨rfl, rfl, rfl⟩
  have s0 : (((V.setCell ⟨W.heap.size, 0, .none⟩ (.int .u64 0)).setCell ⟨W.heap.size, 1, .none⟩ (.slice .none 0 0)).setCell ⟨W.heap.size + 1, 0, .none⟩ (.iface 45 (.pointer (some ⟨fb, 0, .none⟩)))).cell? ⟨W.heap.size, 0, .none⟩ = some (.int .u64 0) := by
    rw [World.cell?_setCell_other _ _ _ _ (by simp), World.cell?_setCell_other _ _ _ _ (by simp)]
    exact World.cell?_setCell_same' _ _ _ (by rw [r0]; rfl)
  have s1 : (((V.setCell ⟨W.heap.size, 0, .none⟩ (.int .u64 0)).setCell ⟨W.heap.size, 1, .none⟩ (.slice .none 0 0)).setCell ⟨W.heap.size + 1, 0, .none⟩ (.iface 45 (.pointer (some ⟨fb, 0, .none⟩)))).cell? ⟨W.heap.size, 1, .none⟩ = some (.slice .none 0 0) := by
    rw [World.cell?_setCell_other _ _ _ _ (by simp)]
    exact World.cell?_setCell_same' _ _ _ (by rw [World.cell?_setCell_other _ _ _ _ (by simp), r1]; rfl)
  have s2 : (((V.setCell ⟨W.heap.size, 0, .none⟩ (.int .u64 0)).setCell ⟨W.heap.size, 1, .none⟩ (.slice .none 0 0)).setCell ⟨W.heap.size + 1, 0, .none⟩ (.iface 45 (.pointer (some ⟨fb, 0, .none⟩)))).cell? ⟨W.heap.size + 1, 0, .none⟩ = some (.iface 45 (.pointer (some ⟨fb, 0, .none⟩))) := World.cell?_setCell_same' _ _ _ (by rw [World.cell?_setCell_other _ _ _ _ (by simp), World.cell?_setCell_other _ _ _ _ (by simp), r2]; rfl)
  have bq : Below W.heap.size W (((V.setCell ⟨W.heap.size, 0, .none⟩ (.int .u64 0)).setCell ⟨W.heap.size, 1, .none⟩ (.slice .none 0 0)).setCell ⟨W.heap.size + 1, 0, .none⟩ (.iface 45 (.pointer (some ⟨fb, 0, .none⟩)))) := (((HB0.out.trans (hbV.mono HB0.out.size)).setCell (p := ⟨W.heap.size, 0, .none⟩) (Nat.le_refl _) _).setCell (p := ⟨W.heap.size, 1, .none⟩) (Nat.le_refl _) _).setCell (p := ⟨W.heap.size + 1, 0, .none⟩) (Nat.le_succ _) _
  have hne : ∀ k : Nat, fb ≠ W.heap.size ∧ fb ≠ W.heap.size + 1 := fun _ => by
    constructor
    · intro e
      rw [e] at f0
      rw [r0] at f0
      cases f0
    · intro e
      rw [e] at f0
      rw [r2] at f0
      cases f0
  have so : ∀ k : Nat, (((V.setCell ⟨W.heap.size, 0, .none⟩ (.int .u64 0)).setCell ⟨W.heap.size, 1, .none⟩ (.slice .none 0 0)).setCell ⟨W.heap.size + 1, 0, .none⟩ (.iface 45 (.pointer (some ⟨fb, 0, .none⟩)))).cell? ⟨fb, k, .none⟩ = V.cell? ⟨fb, k, .none⟩ := fun k => by
    have h9 := hne 0
    rw [World.cell?_setCell_other _ _ _ _ (by simp only [ne_eq, Addr.mk.injEq, not_and]; intro e; omega), World.cell?_setCell_other _ _ _ _ (by simp only [ne_eq, Addr.mk.injEq, not_and]; intro e; omega), World.cell?_setCell_other _ _ _ _ (by simp only [ne_eq, Addr.mk.injEq, not_and]; intro e; omega)]
  have hfl' : fb < (((V.setCell ⟨W.heap.size, 0, .none⟩ (.int .u64 0)).setCell ⟨W.heap.size, 1, .none⟩ (.slice .none 0 0)).setCell ⟨W.heap.size + 1, 0, .none⟩ (.iface 45 (.pointer (some ⟨fb, 0, .none⟩)))).heap.size := lt_of_cell (x := ⟨fb, 0, .none⟩) ((so 0).trans f0)
  have g0 := (so 0).trans f0
  have g1 := (so 1).trans f1
  have g2 := (so 2).trans f2
  generalize (((V.setCell ⟨W.heap.size, 0, .none⟩ (.int .u64 0)).setCell ⟨W.heap.size, 1, .none⟩ (.slice .none 0 0)).setCell ⟨W.heap.size + 1, 0, .none⟩ (.iface 45 (.pointer (some ⟨fb, 0, .none⟩)))) = W9 at *
  have l0 : W.heap.size < W9.heap.size := lt_of_cell (x := ⟨W.heap.size, 0, .none⟩) s0
  have l1 : W.heap.size + 1 < W9.heap.size := lt_of_cell (x := ⟨W.heap.size + 1, 0, .none⟩) s2
  exact ⟨.tuple #[.agg #[.int .u64 0, .slice .none 0 0], .iface 45 (.pointer (some ⟨fb, 0, .none⟩))], by simp [results, Tryd.results7, go_sem, s0, s1, s2, l0, l1], ⟨_, rfl, ⟨fb, Nat.zero_le _, hfl', rfl, g0, g1, g2⟩, bq⟩⟩
end Go.Proofs.YtpdlcjcigeegjaaDoor
