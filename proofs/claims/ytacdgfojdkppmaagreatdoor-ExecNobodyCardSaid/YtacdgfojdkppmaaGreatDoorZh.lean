import Derived.Test.YtacdgfojdkppmaaGreatDoorXg
namespace Go.Proofs.YtacdgfojdkppmaaGreatDoor
open Go.RowKit
set_option linter.unusedVariables false
set_option linter.unusedSimpArgs false
set_option maxHeartbeats 1000000 in
theorem prog_nil {w : World} {rb c : Nat} {fp : Option Addr} (h : w.cell? ⟨rb, 0, .none⟩ = some (.slice fp 0 c)) : Calls Tryz.prog 99 #[.pointer (some ⟨rb, 0, .none⟩)] w fun e w' => Up w 0 140 e w' := by
  have b1 : Below w.heap.size w (w.alloc (.cells #[.int .u64 0, .slice .none 0 0] 64)) := (Below.refl _ _).alloc (Nat.le_refl _) _
  have h1 : (w.alloc (.cells #[.int .u64 0, .slice .none 0 0] 64)).cell? ⟨rb, 0, .none⟩ = some (.slice fp 0 c) := (b1.cell (lt_of_cell h)).trans h
  have HB : Hid (Below w.heap.size w (w.alloc (.cells #[.int .u64 0, .slice .none 0 0] 64)) ∧ (w.alloc (.cells #[.int .u64 0, .slice .none 0 0] 64)).cell? ⟨rb, 0, .none⟩ = some (.slice fp 0 c)) := ⟨b1, h1⟩
  clear b1 h1
  go_enter Tryz.func99, Tryz.ntmps99
  go_wp2_with fail
  generalize hRB : w.heap.size = rs at *
  generalize w.alloc (.cells #[.int .u64 0, .slice .none 0 0] 64) = W1 at *
  refine (length_lo rb 0 c _ W1 HB.out.2 (by omega)).mono ?_
  intro e w0 hu
  obtain ⟨v, rfl, hu2⟩ := id hu
  refine ⟨rfl, ?_⟩
  exact hu.back (by rw [hRB]; exact HB.out.1)
set_option maxHeartbeats 1000000 in
theorem read_nil {W : World} {c : Nat} {fp : Option Addr} :
    Calls Tryz.prog 53 #[.slice fp 0 c] W fun e w' => ∃ v, e = .returned (.tuple #[.agg #[.int .u64 0, .slice .none 0 0], v]) ∧ FaultIn w' 0 v 0 140 ∧ Below W.heap.size W w' := by
  have hz0 : ((W.alloc (.cells #[.int .u64 0, .slice .none 0 0] 64)).alloc (.cells #[.nilIface] 56)).heap.size = W.heap.size + 1 + 1 := by simp only [World.size_alloc]
  have HB0 : Hid (Below W.heap.size W ((W.alloc (.cells #[.int .u64 0, .slice .none 0 0] 64)).alloc (.cells #[.nilIface] 56))) := ((Below.refl _ _).alloc (Nat.le_refl _) _).alloc (by simp only [World.size_alloc]; omega) _
  have HE : Hid (((W.alloc (.cells #[.int .u64 0, .slice .none 0 0] 64)).alloc (.cells #[.nilIface] 56)).heap[W.heap.size]? = some (.cells #[.int .u64 0, .slice .none 0 0] 64 (0, 0)) ∧ ((W.alloc (.cells #[.int .u64 0, .slice .none 0 0] 64)).alloc (.cells #[.nilIface] 56)).heap[W.heap.size + 1]? = some (.cells #[.nilIface] 56 (0, 0))) := by
    constructor
    · rw [Below.heap_alloc _ _ _ (by simp only [World.size_alloc]; omega)]
      exact heap_new _ _
    · have := heap_new (W.alloc (.cells #[.int .u64 0, .slice .none 0 0] 64)) (.cells #[.nilIface] 56)
      rwa [World.size_alloc] at this
  go_enter_defers Tryz.func53, Tryz.ntmps53
  go_wp2_with fail
  generalize hW0 : ((W.alloc (.cells #[.int .u64 0, .slice .none 0 0] 64)).alloc (.cells #[.nilIface] 56)) = W0 at *
  clear hW0
  have hk : Below W0.heap.size W0 (W0.alloc (.cells #[.slice fp 0 c, .slice .none 0 0] 157)) := (Below.refl _ _).alloc (Nat.le_refl _) _
  have hp := (prog_nil (w := W0.alloc (.cells #[.slice fp 0 c, .slice .none 0 0] 157)) (rb := W0.heap.size) (c := c) (fp := fp) (World.cell?_alloc_at _ _ _ _ rfl)).mono fun e w' h => h.back hk
  rw [hz0] at hp
  refine hp.mono ?_
  clear hk hp
  intro e V hP
  obtain ⟨v, rfl, hf, hbV⟩ := hP
  · obtain ⟨fb, _, hfl, rfl, f0, f1, f2⟩ := hf
    have q0 := (hbV.block W.heap.size (by omega)).trans HE.out.1
    have q1 := (hbV.block (W.heap.size + 1) (by omega)).trans HE.out.2
    have r0 : V.cell? ⟨W.heap.size, 0, .none⟩ = some (.int .u64 0) := by simp [World.cell?, q0]
    have r1 : V.cell? ⟨W.heap.size, 1, .none⟩ = some (.slice .none 0 0) := by simp [World.cell?, q0]
    have r2 : V.cell? ⟨W.heap.size + 1, 0, .none⟩ = some .nilIface := by simp [World.cell?, q1]
    have z0 : V.frozen? ⟨W.heap.size, 0, .none⟩ = false := by simp [World.frozen?, q0]
    have z1 : V.frozen? ⟨W.heap.size, 1, .none⟩ = false := by simp [World.frozen?, q0]
    have z2 : V.frozen? ⟨W.heap.size + 1, 0, .none⟩ = false := by simp [World.frozen?, q1]
    refine leaves_cons (f := 98) (args := #[.pointer (some ⟨W.heap.size, 0, .none⟩), .pointer (some ⟨W.heap.size + 1, 0, .none⟩)]) (by simp) (by simp [go_sem]) ?_
    refine (catch_up W.heap.size (W.heap.size + 1) (some ⟨fb, 0, .none⟩) [] V _ _ _ r0 r1 r2 z0 z1 z2 (by omega)).mono ?_
    rintro e u' w'' ⟨rfl, rfl, rfl⟩
    have s0 : (((V.setCell ⟨W.heap.size, 0, .none⟩ (.int .u64 0)).setCell ⟨W.heap.size, 1, .none⟩ (.slice .none 0 0)).setCell ⟨W.heap.size + 1, 0, .none⟩ (.iface 107 (.pointer (some ⟨fb, 0, .none⟩)))).cell? ⟨W.heap.size, 0, .none⟩ = some (.int .u64 0) := by
      rw [World.cell?_setCell_other _ _ _ _ (by simp), World.cell?_setCell_other _ _ _ _ (by simp)]
      exact World.cell?_setCell_same' _ _ _ (by rw [r0]; rfl)
    have s1 : (((V.setCell ⟨W.heap.size, 0, .none⟩ (.int .u64 0)).setCell ⟨W.heap.size, 1, .none⟩ (.slice .none 0 0)).setCell ⟨W.heap.size + 1, 0, .none⟩ (.iface 107 (.pointer (some ⟨fb, 0, .none⟩)))).cell? ⟨W.heap.size, 1, .none⟩ = some (.slice .none 0 0) := by
      rw [World.cell?_setCell_other _ _ _ _ (by simp)]
      exact World.cell?_setCell_same' _ _ _ (by rw [World.cell?_setCell_other _ _ _ _ (by simp), r1]; rfl)
    have s2 : (((V.setCell ⟨W.heap.size, 0, .none⟩ (.int .u64 0)).setCell ⟨W.heap.size, 1, .none⟩ (.slice .none 0 0)).setCell ⟨W.heap.size + 1, 0, .none⟩ (.iface 107 (.pointer (some ⟨fb, 0, .none⟩)))).cell? ⟨W.heap.size + 1, 0, .none⟩ = some (.iface 107 (.pointer (some ⟨fb, 0, .none⟩))) := World.cell?_setCell_same' _ _ _ (by rw [World.cell?_setCell_other _ _ _ _ (by simp), World.cell?_setCell_other _ _ _ _ (by simp), r2]; rfl)
    have bq : Below W.heap.size W (((V.setCell ⟨W.heap.size, 0, .none⟩ (.int .u64 0)).setCell ⟨W.heap.size, 1, .none⟩ (.slice .none 0 0)).setCell ⟨W.heap.size + 1, 0, .none⟩ (.iface 107 (.pointer (some ⟨fb, 0, .none⟩)))) := (((HB0.out.trans (hbV.mono HB0.out.size)).setCell (p := ⟨W.heap.size, 0, .none⟩) (Nat.le_refl _) _).setCell (p := ⟨W.heap.size, 1, .none⟩) (Nat.le_refl _) _).setCell (p := ⟨W.heap.size + 1, 0, .none⟩) (Nat.le_succ _) _
    have hne : ∀ k : Nat, fb ≠ W.heap.size ∧ fb ≠ W.heap.size + 1 := fun _ => by
      constructor
      · intro e
        rw [e] at f0
        rw [r0] at f0
        cases f0
      · intro e
        rw [e] at f0
        rw [r2] at f0
        cases f0
    have so : ∀ k : Nat, (((V.setCell ⟨W.heap.size, 0, .none⟩ (.int .u64 0)).setCell ⟨W.heap.size, 1, .none⟩ (.slice .none 0 0)).setCell ⟨W.heap.size + 1, 0, .none⟩ (.iface 107 (.pointer (some ⟨fb, 0, .none⟩)))).cell? ⟨fb, k, .none⟩ = V.cell? ⟨fb, k, .none⟩ := fun k => by
      have h9 := hne 0
      rw [World.cell?_setCell_other _ _ _ _ (by simp only [ne_eq, Addr.mk.injEq, not_and]; intro e; omega), World.cell?_setCell_other _ _ _ _ (by simp only [ne_eq, Addr.mk.injEq, not_and]; intro e; omega), World.cell?_setCell_other _ _ _ _ (by simp only [ne_eq, Addr.mk.injEq, not_and]; intro e; omega)]
    have hfl' : fb < (((V.setCell ⟨W.heap.size, 0, .none⟩ (.int .u64 0)).setCell ⟨W.heap.size, 1, .none⟩ (.slice .none 0 0)).setCell ⟨W.heap.size + 1, 0, .none⟩ (.iface 107 (.pointer (some ⟨fb, 0, .none⟩)))).heap.size := lt_of_cell (x := ⟨fb, 0, .none⟩) ((so 0).trans f0)
    have g0 := (so 0).trans f0
    have g1 := (so 1).trans f1
    have g2 := (so 2).trans f2
    generalize (((V.setCell ⟨W.heap.size, 0, .none⟩ (.int .u64 0)).setCell ⟨W.heap.size, 1, .none⟩ (.slice .none 0 0)).setCell ⟨W.heap.size + 1, 0, .none⟩ (.iface 107 (.pointer (some ⟨fb, 0, .none⟩)))) = W9 at *
    have l0 : W.heap.size < W9.heap.size := lt_of_cell (x := ⟨W.heap.size, 0, .none⟩) s0
    have l1 : W.heap.size + 1 < W9.heap.size := lt_of_cell (x := ⟨W.heap.size + 1, 0, .none⟩) s2
    exact ⟨.tuple #[.agg #[.int .u64 0, .slice .none 0 0], .iface 107 (.pointer (some ⟨fb, 0, .none⟩))], by simp [results, Tryz.results53, go_sem, s0, s1, s2, l0, l1], ⟨_, rfl, ⟨fb, Nat.zero_le _, hfl', rfl, g0, g1, g2⟩, bq⟩⟩
set_option maxRecDepth 10000 in
set_option maxHeartbeats 4000000 in
theorem planOf_nil {W : World} {fc : Nat} {fp : Option Addr} {p : Option Addr} {n c : Nat} {xs : List Bs} (hA : Arg W p n c xs) (S : List Sg) :
    Calls Tryz.prog 24 #[.slice fp 0 fc, .slice p n c] W (PlP W 140 S xs) := by
  obtain ⟨W1, hW1⟩ : ∃ W1, W1 = W.alloc (.cells #[.int .u64 0, .slice .none 0 0, .slice .none 0 0, .int .u64 0] 75) := ⟨_, rfl⟩
  have b1 : Below W.heap.size W W1 := by rw [hW1]; exact (Below.refl _ _).alloc (Nat.le_refl _) _
  have z1 : W1.heap.size = W.heap.size + 1 := by rw [hW1]; simp
  have k1 : C4 W1 W.heap.size (.int .u64 0) (.slice .none 0 0) (.slice .none 0 0) (.int .u64 0) := by
    rw [hW1]
    exact C4.new _ _ _ _ _ _
  have cR := read_nil (W := W1) (c := fc) (fp := fp)
  have HW : Hid (Below W.heap.size W W1 ∧ C4 W1 W.heap.size (.int .u64 0) (.slice .none 0 0) (.slice .none 0 0) (.int .u64 0) ∧ Arg W p n c xs) := ⟨b1, k1, hA⟩
  have hlen : xs.length = n := hA.tex.1
  have hn1 : n ≤ c ∧ c ≤ 9223372036854775807 := ⟨hA.tex.2.1, hA.tex.2.2.1⟩
  have hfew := hA.few
  have HLn : Hid (xs.length = n) := hlen
  clear hA b1 k1 hlen
  have h0 : (140 : Int) ≠ 0 := by decide
  go_enter Tryz.func24, Tryz.ntmps24
  go_upto_region 1 with fail
  rw [← hW1]
  clear hW1
  go_upto_region 2 with (go_at_call 53; refine cR.mono ?_; rintro _ w2 ⟨v, rfl, hv, b2⟩; obtain ⟨fb, rfl⟩ : ∃ fb, v = .iface 107 (.pointer (some ⟨fb, 0, .none⟩)) := (by obtain ⟨fb, _, _, e, _⟩ := hv; exact ⟨fb, e⟩); have H2 : Hid (Below W.heap.size W w2 ∧ C4 w2 W.heap.size (.int .u64 0) (.slice .none 0 0) (.slice .none 0 0) (.int .u64 0)) := ⟨HW.out.1.trans (b2.mono (by omega)), HW.out.2.1.below b2⟩; clear hv b2 cR)
  obtain ⟨w3, hw3⟩ : ∃ w3, w3 = w2.alloc (.cells #[.int .u64 0, .slice .none 0 0] 64) := ⟨_, rfl⟩
  have b3 : Below w2.heap.size w2 w3 := by rw [hw3]; exact (Below.refl _ _).alloc (Nat.le_refl _) _
  have H3 : Hid (Below W.heap.size W w3 ∧ C4 w3 W.heap.size (.int .u64 0) (.slice .none 0 0) (.slice .none 0 0) (.int .u64 0)) := ⟨H2.out.1.trans (b3.mono H2.out.1.size), H2.out.2.below b3⟩
  rw [← hw3]
  clear hw3 b3 H2
  have k0 := H3.out.2.a
  have k1 := H3.out.2.b
  have k2 := H3.out.2.c
  have k3 := H3.out.2.d
  have kf0 := H3.out.2.f 0
  have kf1 := H3.out.2.f 1
  have kf2 := H3.out.2.f 2
  have kf3 := H3.out.2.f 3
  go_wp2_with fail
  obtain ⟨s0, s1, s2, s3, _⟩ := H3.out.2.set (.int .u64 0) (.slice .none 0 0) (.slice .none 0 0) (.int .u64 0)
  refine bodyPost_ret (v := .tuple #[.agg #[.int .u64 0, .slice .none 0 0, .slice .none 0 0, .int .u64 0], .int .i64 280]) (by simp [results, Tryz.results24, go_sem, s0, s1, s2, s3]) rfl ⟨?_, .inl ⟨?_, ?_⟩⟩
  · exact (((H3.out.1.setCell (Nat.le_refl _) _).setCell (Nat.le_refl _) _).setCell (Nat.le_refl _) _).setCell (Nat.le_refl _) _
  · rw [dm_file h0]; decide
  · rw [dm_file h0]
/-- A file as it is handed in: bytes with a place, or none. -/
def Fp (W : World) (fp : Option Addr) (fn : Nat) (B : Nat → Int) : Prop := (∃ b o, fp = some ⟨b, o, .none⟩ ∧ Row W b o fn B ∧ b < W.heap.size) ∨ fn = 0
theorem planF_any {W : World} {fp : Option Addr} {fn fc : Nat} {B : Nat → Int} (hL : Laid W) (hF : Fp W fp fn B) (hB : ∀ i, 0 ≤ B i ∧ B i < 256) (hc : fn ≤ fc ∧ fc ≤ 9223372036854775807) (ha hr : Int) (hH : Hd B ha hr)
    {p : Option Addr} {n c : Nat} {xs : List Bs} (hA : Arg W p n c xs) :
    Calls Tryz.prog 24 #[.slice fp fn fc, .slice p n c] W (PlP W (rdF fn B ha hr).1.2 (sgO fn B ha hr) xs) := by
  rcases hF with ⟨b, o, rfl, h1, h2⟩ | rfl
  · exact planOf_any hL h1 h2 hB hc ha hr hH hA
  · have : (rdF 0 B ha hr).1.2 = 140 := rfl
    rw [this]
    exact planOf_nil hA _
end Go.Proofs.YtacdgfojdkppmaaGreatDoor
