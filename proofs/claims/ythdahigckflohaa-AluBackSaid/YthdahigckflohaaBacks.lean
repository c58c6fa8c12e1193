import Derived.Test.YthdahigckflohaaWides
import Derived.Test.YthdahigckflohaaMovesW
namespace Go.Proofs.Ythdahigckflohaa
open Go.RowKit
set_option linter.unusedVariables false
set_option linter.unusedSimpArgs false
theorem errIn_zero {w : World} {x : Value} (h : ErrIn w x 0) : x = .nilIface := by
  rcases h with ⟨_, h⟩ | ⟨h, _⟩
  · exact h
  · exact absurd rfl h
theorem keep_ok (k : Nat) (hk : k < 4) (v : Int) (w : World) (hv : W64 v) :
    Calls Try.prog 10 #[.int .i64 (18 + k), .int .u64 v] w fun e w' => e = .returned (.tuple #[.int .u64 (kpv k v), .nilIface]) ∧ Below w.heap.size w w' := by
  refine (keep_hit k hk v w hv).mono ?_
  rintro e w' ⟨⟨x, rfl, hx⟩, hb⟩
  rw [errIn_zero hx]
  exact ⟨rfl, hb⟩
theorem extend_ok (k : Nat) (hk : k < 7) (v : Int) (w : World) (hv : W64 v) :
    Calls Try.prog 11 #[.int .i64 (11 + k), .int .u64 v] w fun e w' => e = .returned (.tuple #[.int .u64 (exv k v), .nilIface]) ∧ Below w.heap.size w w' := by
  refine (extend_hit k hk v w hv).mono ?_
  rintro e w' ⟨⟨x, rfl, hx⟩, hb⟩
  rw [errIn_zero hx]
  exact ⟨rfl, hb⟩
theorem kpv_w (k : Nat) (hk : k < 4) (v : Int) : W64 (kpv k v) := by
  have hN : k = 0 ∨ k = 1 ∨ k = 2 ∨ k = 3 := by omega
  rcases hN with rfl | rfl | rfl | rfl <;> exact ⟨by simp [kpv]; omega, by simp [kpv]; omega⟩
theorem again (k : Nat) (hk : k < 4) (v : Int) : exv k (kpv k v) = exv k v := by
  have hN : k = 0 ∨ k = 1 ∨ k = 2 ∨ k = 3 := by omega
  rcases hN with rfl | rfl | rfl | rfl <;> simp [kpv, exv, wid] <;> omega
theorem bare_again (k : Nat) (hk : k < 3) (v : Int) : exv (k + 4) (kpv k v) = kpv k v := by
  have hN : k = 0 ∨ k = 1 ∨ k = 2 := by omega
  rcases hN with rfl | rfl | rfl <;> simp [kpv, exv]
theorem bare_last (v : Int) : exv 3 (kpv 3 v) = kpv 3 v := by simp [kpv, exv, wid]
/-- A round: the three lists' blocks are as they were. -/
def bk (w : World) : World := ((w.alloc (.cells #[.int .i64 18, .int .i64 19, .int .i64 20, .int .i64 21] 3)).alloc (.cells #[.int .i64 11, .int .i64 12, .int .i64 13, .int .i64 14] 3)).alloc (.cells #[.int .i64 15, .int .i64 16, .int .i64 17, .int .i64 14] 3)
theorem bk_size (w : World) : (bk w).heap.size = w.heap.size + 3 := by simp [bk]
theorem bk0 (w : World) (i : Nat) : (bk w).cell? ⟨w.heap.size, i, .none⟩ = (#[.int .i64 18, .int .i64 19, .int .i64 20, .int .i64 21] : Array Value)[i]? := by
  unfold bk
  rw [World.cell?_alloc_past _ _ _ (by simp only [World.size_alloc]; omega), World.cell?_alloc_past _ _ _ (by simp), World.cell?_alloc_at _ _ _ _ rfl]
theorem bk1 (w : World) (i : Nat) : (bk w).cell? ⟨w.heap.size + 1, i, .none⟩ = (#[.int .i64 11, .int .i64 12, .int .i64 13, .int .i64 14] : Array Value)[i]? := by
  unfold bk
  rw [World.cell?_alloc_past _ _ _ (by simp only [World.size_alloc]; omega), World.cell?_alloc_at _ _ _ _ (by simp)]
theorem bk2 (w : World) (i : Nat) : (bk w).cell? ⟨w.heap.size + 2, i, .none⟩ = (#[.int .i64 15, .int .i64 16, .int .i64 17, .int .i64 14] : Array Value)[i]? := by
  unfold bk
  rw [World.cell?_alloc_at _ _ _ _ (by simp only [World.size_alloc])]
set_option maxHeartbeats 4000000 in
set_option maxRecDepth 100000 in
theorem back_walk (v a b : Int) (w : World) (hv : W64 v) (ha : W64 a) (hb : W64 b) :
    Calls Try.prog 4 #[.int .u64 v, .int .u64 a, .int .u64 b] w fun e w' => e = .returned (.bool true) ∧ Below w.heap.size w w' := by
  go_enter Try.func4, Try.ntmps4
  go_wp2
  go_loopw [10] (fun k wr => ∃ n : Nat, n ≤ 4 ∧ k = .int .i64 n ∧ Below (w.heap.size + 3) (bk w) wr) (fun k _ => 4 - (intOf k).toNat)
  case atStart => exact ⟨0, by omega, rfl, Below.refl _ _⟩
  case round =>
    obtain ⟨n, hn, rfl, hB⟩ := hrel
    have hz : w.heap.size + 3 ≤ wr.heap.size := by have := hB.size; rw [bk_size] at this; exact this
    have kk0 : Hid (∀ i : Nat, wr.cell? ⟨w.heap.size, i, .none⟩ = (bk w).cell? ⟨w.heap.size, i, .none⟩) := fun i => hB.cell (by show w.heap.size < _; omega)
    have kk1 : Hid (∀ i : Nat, wr.cell? ⟨w.heap.size + 1, i, .none⟩ = (bk w).cell? ⟨w.heap.size + 1, i, .none⟩) := fun i => hB.cell (by show w.heap.size + 1 < _; omega)
    have kk2 : Hid (∀ i : Nat, wr.cell? ⟨w.heap.size + 2, i, .none⟩ = (bk w).cell? ⟨w.heap.size + 2, i, .none⟩) := fun i => hB.cell (by show w.heap.size + 2 < _; omega)
    have hW : Below w.heap.size w wr := (((below_past _ _).alloc (by simp) _).alloc (by simp only [World.size_alloc]; omega) _).trans (hB.mono (by omega))
    have hN : n = 0 ∨ n = 1 ∨ n = 2 ∨ n = 3 ∨ n = 4 := by omega
    rcases hN with rfl | rfl | rfl | rfl | rfl
    · have e1 := again 0 (by decide) v
      have e2 := bare_again 0 (by decide) v
      have c1 : ∀ w : World, Calls Try.prog 10 #[.int .i64 18, .int .u64 v] w fun e w' => e = .returned (.tuple #[.int .u64 (kpv 0 v), .nilIface]) ∧ Below w.heap.size w w' := fun w => keep_ok 0 (by decide) v w hv
      have c2 : ∀ w : World, Calls Try.prog 11 #[.int .i64 11, .int .u64 (kpv 0 v)] w fun e w' => e = .returned (.tuple #[.int .u64 (exv 0 (kpv 0 v)), .nilIface]) ∧ Below w.heap.size w w' := fun w => extend_ok 0 (by decide) _ w (kpv_w 0 (by decide) v)
      have c3 : ∀ w : World, Calls Try.prog 11 #[.int .i64 11, .int .u64 v] w fun e w' => e = .returned (.tuple #[.int .u64 (exv 0 v), .nilIface]) ∧ Below w.heap.size w w' := fun w => extend_ok 0 (by decide) v w hv
      have c4 : ∀ w : World, Calls Try.prog 11 #[.int .i64 15, .int .u64 (kpv 0 v)] w fun e w' => e = .returned (.tuple #[.int .u64 (exv 4 (kpv 0 v)), .nilIface]) ∧ Below w.heap.size w w' := fun w => extend_ok 4 (by decide) _ w (kpv_w 0 (by decide) v)
      rw [e1] at c2
      rw [e2] at c4
      clear e1 e2
      generalize kpv 0 v = K at *
      generalize exv 0 v = X at *
      have k0 : wr.cell? ⟨w.heap.size, 0, .none⟩ = some (.int .i64 18) := (kk0.out 0).trans (bk0 w 0)
      have z0 : w.heap.size < wr.heap.size := by omega
      go_wp2_with fail
      refine (c1 _).mono ?_; rintro e w1 ⟨rfl, hb1⟩
      clear c1 k0
      have z1 := hb1.size
      have k1 : w1.cell? ⟨w.heap.size + 1, 0, .none⟩ = some (.int .i64 11) := (((hb1.cell (p := ⟨w.heap.size + 1, 0, .none⟩) (by show w.heap.size + 1 < _; omega)).trans (kk1.out 0)).trans (bk1 w 0))
      have y1 : w.heap.size + 1 < w1.heap.size := by omega
      go_wp2_with fail
      refine (c2 _).mono ?_; rintro e w2 ⟨rfl, hb2⟩
      clear c2 k1
      have z2 := hb2.size
      have hb12 := bseq hb1 hb2
      have k1 : w2.cell? ⟨w.heap.size + 1, 0, .none⟩ = some (.int .i64 11) := (((hb12.cell (p := ⟨w.heap.size + 1, 0, .none⟩) (by show w.heap.size + 1 < _; omega)).trans (kk1.out 0)).trans (bk1 w 0))
      have y2 : w.heap.size + 1 < w2.heap.size := by omega
      go_wp2_with fail
      refine (c3 _).mono ?_; rintro e w3 ⟨rfl, hb3⟩
      clear c3 k1
      have z3 := hb3.size
      have hb123 := bseq hb12 hb3
      have k2 : w3.cell? ⟨w.heap.size + 1 + 1, 0, .none⟩ = some (.int .i64 15) := (((hb123.cell (p := ⟨w.heap.size + 2, 0, .none⟩) (by show w.heap.size + 2 < _; omega)).trans (kk2.out 0)).trans (bk2 w 0))
      have y3 : w.heap.size + 1 + 1 < w3.heap.size := by omega
      go_wp2_with fail
      refine (c4 _).mono ?_; rintro e w4 ⟨rfl, hb4⟩
      clear c4 k2
      have z4 := hb4.size
      have hb14 := bseq hb123 hb4
      have k0 : w4.cell? ⟨w.heap.size, 0, .none⟩ = some (.int .i64 18) := (((hb14.cell (p := ⟨w.heap.size, 0, .none⟩) (by show w.heap.size < _; omega)).trans (kk0.out 0)).trans (bk0 w 0))
      have y4 : w.heap.size < w4.heap.size := by omega
      go_wp2_with fail
      refine (bytes_as 18 1 _ _ _ _ acc7).mono ?_; rintro e w5 ⟨rfl, hb5⟩
      clear k0
      have z5 := hb5.size
      have hb15 := bseq hb14 hb5
      have k1 : w5.cell? ⟨w.heap.size + 1, 0, .none⟩ = some (.int .i64 11) := (((hb15.cell (p := ⟨w.heap.size + 1, 0, .none⟩) (by show w.heap.size + 1 < _; omega)).trans (kk1.out 0)).trans (bk1 w 0))
      have y5 : w.heap.size + 1 < w5.heap.size := by omega
      go_wp2_with fail
      refine (bytes_as 11 1 _ _ _ _ acc0).mono ?_; rintro e w6 ⟨rfl, hb6⟩
      clear k1
      go_wp2
      exact ⟨⟨1, by omega, rfl, hB.trans ((bseq hb15 hb6).mono (by omega))⟩, by simp [intOf]⟩
    · have e1 := again 1 (by decide) v
      have e2 := bare_again 1 (by decide) v
      have c1 : ∀ w : World, Calls Try.prog 10 #[.int .i64 19, .int .u64 v] w fun e w' => e = .returned (.tuple #[.int .u64 (kpv 1 v), .nilIface]) ∧ Below w.heap.size w w' := fun w => keep_ok 1 (by decide) v w hv
      have c2 : ∀ w : World, Calls Try.prog 11 #[.int .i64 12, .int .u64 (kpv 1 v)] w fun e w' => e = .returned (.tuple #[.int .u64 (exv 1 (kpv 1 v)), .nilIface]) ∧ Below w.heap.size w w' := fun w => extend_ok 1 (by decide) _ w (kpv_w 1 (by decide) v)
      have c3 : ∀ w : World, Calls Try.prog 11 #[.int .i64 12, .int .u64 v] w fun e w' => e = .returned (.tuple #[.int .u64 (exv 1 v), .nilIface]) ∧ Below w.heap.size w w' := fun w => extend_ok 1 (by decide) v w hv
      have c4 : ∀ w : World, Calls Try.prog 11 #[.int .i64 16, .int .u64 (kpv 1 v)] w fun e w' => e = .returned (.tuple #[.int .u64 (exv 5 (kpv 1 v)), .nilIface]) ∧ Below w.heap.size w w' := fun w => extend_ok 5 (by decide) _ w (kpv_w 1 (by decide) v)
      rw [e1] at c2
      rw [e2] at c4
      clear e1 e2
      generalize kpv 1 v = K at *
      generalize exv 1 v = X at *
      have k0 : wr.cell? ⟨w.heap.size, 1, .none⟩ = some (.int .i64 19) := (kk0.out 1).trans (bk0 w 1)
      have z0 : w.heap.size < wr.heap.size := by omega
      go_wp2_with fail
      refine (c1 _).mono ?_; rintro e w1 ⟨rfl, hb1⟩
      clear c1 k0
      have z1 := hb1.size
      have k1 : w1.cell? ⟨w.heap.size + 1, 1, .none⟩ = some (.int .i64 12) := (((hb1.cell (p := ⟨w.heap.size + 1, 1, .none⟩) (by show w.heap.size + 1 < _; omega)).trans (kk1.out 1)).trans (bk1 w 1))
      have y1 : w.heap.size + 1 < w1.heap.size := by omega
      go_wp2_with fail
      refine (c2 _).mono ?_; rintro e w2 ⟨rfl, hb2⟩
      clear c2 k1
      have z2 := hb2.size
      have hb12 := bseq hb1 hb2
      have k1 : w2.cell? ⟨w.heap.size + 1, 1, .none⟩ = some (.int .i64 12) := (((hb12.cell (p := ⟨w.heap.size + 1, 1, .none⟩) (by show w.heap.size + 1 < _; omega)).trans (kk1.out 1)).trans (bk1 w 1))
      have y2 : w.heap.size + 1 < w2.heap.size := by omega
      go_wp2_with fail
      refine (c3 _).mono ?_; rintro e w3 ⟨rfl, hb3⟩
      clear c3 k1
      have z3 := hb3.size
      have hb123 := bseq hb12 hb3
      have k2 : w3.cell? ⟨w.heap.size + 1 + 1, 1, .none⟩ = some (.int .i64 16) := (((hb123.cell (p := ⟨w.heap.size + 2, 1, .none⟩) (by show w.heap.size + 2 < _; omega)).trans (kk2.out 1)).trans (bk2 w 1))
      have y3 : w.heap.size + 1 + 1 < w3.heap.size := by omega
      go_wp2_with fail
      refine (c4 _).mono ?_; rintro e w4 ⟨rfl, hb4⟩
      clear c4 k2
      have z4 := hb4.size
      have hb14 := bseq hb123 hb4
      have k0 : w4.cell? ⟨w.heap.size, 1, .none⟩ = some (.int .i64 19) := (((hb14.cell (p := ⟨w.heap.size, 1, .none⟩) (by show w.heap.size < _; omega)).trans (kk0.out 1)).trans (bk0 w 1))
      have y4 : w.heap.size < w4.heap.size := by omega
      go_wp2_with fail
      refine (bytes_as 19 2 _ _ _ _ acc8).mono ?_; rintro e w5 ⟨rfl, hb5⟩
      clear k0
      have z5 := hb5.size
      have hb15 := bseq hb14 hb5
      have k1 : w5.cell? ⟨w.heap.size + 1, 1, .none⟩ = some (.int .i64 12) := (((hb15.cell (p := ⟨w.heap.size + 1, 1, .none⟩) (by show w.heap.size + 1 < _; omega)).trans (kk1.out 1)).trans (bk1 w 1))
      have y5 : w.heap.size + 1 < w5.heap.size := by omega
      go_wp2_with fail
      refine (bytes_as 12 2 _ _ _ _ acc1).mono ?_; rintro e w6 ⟨rfl, hb6⟩
      clear k1
      go_wp2
      exact ⟨⟨2, by omega, rfl, hB.trans ((bseq hb15 hb6).mono (by omega))⟩, by simp [intOf]⟩
    · have e1 := again 2 (by decide) v
      have e2 := bare_again 2 (by decide) v
      have c1 : ∀ w : World, Calls Try.prog 10 #[.int .i64 20, .int .u64 v] w fun e w' => e = .returned (.tuple #[.int .u64 (kpv 2 v), .nilIface]) ∧ Below w.heap.size w w' := fun w => keep_ok 2 (by decide) v w hv
      have c2 : ∀ w : World, Calls Try.prog 11 #[.int .i64 13, .int .u64 (kpv 2 v)] w fun e w' => e = .returned (.tuple #[.int .u64 (exv 2 (kpv 2 v)), .nilIface]) ∧ Below w.heap.size w w' := fun w => extend_ok 2 (by decide) _ w (kpv_w 2 (by decide) v)
      have c3 : ∀ w : World, Calls Try.prog 11 #[.int .i64 13, .int .u64 v] w fun e w' => e = .returned (.tuple #[.int .u64 (exv 2 v), .nilIface]) ∧ Below w.heap.size w w' := fun w => extend_ok 2 (by decide) v w hv
      have c4 : ∀ w : World, Calls Try.prog 11 #[.int .i64 17, .int .u64 (kpv 2 v)] w fun e w' => e = .returned (.tuple #[.int .u64 (exv 6 (kpv 2 v)), .nilIface]) ∧ Below w.heap.size w w' := fun w => extend_ok 6 (by decide) _ w (kpv_w 2 (by decide) v)
      rw [e1] at c2
      rw [e2] at c4
      clear e1 e2
      generalize kpv 2 v = K at *
      generalize exv 2 v = X at *
      have k0 : wr.cell? ⟨w.heap.size, 2, .none⟩ = some (.int .i64 20) := (kk0.out 2).trans (bk0 w 2)
      have z0 : w.heap.size < wr.heap.size := by omega
      go_wp2_with fail
      refine (c1 _).mono ?_; rintro e w1 ⟨rfl, hb1⟩
      clear c1 k0
      have z1 := hb1.size
      have k1 : w1.cell? ⟨w.heap.size + 1, 2, .none⟩ = some (.int .i64 13) := (((hb1.cell (p := ⟨w.heap.size + 1, 2, .none⟩) (by show w.heap.size + 1 < _; omega)).trans (kk1.out 2)).trans (bk1 w 2))
      have y1 : w.heap.size + 1 < w1.heap.size := by omega
      go_wp2_with fail
      refine (c2 _).mono ?_; rintro e w2 ⟨rfl, hb2⟩
      clear c2 k1
      have z2 := hb2.size
      have hb12 := bseq hb1 hb2
      have k1 : w2.cell? ⟨w.heap.size + 1, 2, .none⟩ = some (.int .i64 13) := (((hb12.cell (p := ⟨w.heap.size + 1, 2, .none⟩) (by show w.heap.size + 1 < _; omega)).trans (kk1.out 2)).trans (bk1 w 2))
      have y2 : w.heap.size + 1 < w2.heap.size := by omega
      go_wp2_with fail
      refine (c3 _).mono ?_; rintro e w3 ⟨rfl, hb3⟩
      clear c3 k1
      have z3 := hb3.size
      have hb123 := bseq hb12 hb3
      have k2 : w3.cell? ⟨w.heap.size + 1 + 1, 2, .none⟩ = some (.int .i64 17) := (((hb123.cell (p := ⟨w.heap.size + 2, 2, .none⟩) (by show w.heap.size + 2 < _; omega)).trans (kk2.out 2)).trans (bk2 w 2))
      have y3 : w.heap.size + 1 + 1 < w3.heap.size := by omega
      go_wp2_with fail
      refine (c4 _).mono ?_; rintro e w4 ⟨rfl, hb4⟩
      clear c4 k2
      have z4 := hb4.size
      have hb14 := bseq hb123 hb4
      have k0 : w4.cell? ⟨w.heap.size, 2, .none⟩ = some (.int .i64 20) := (((hb14.cell (p := ⟨w.heap.size, 2, .none⟩) (by show w.heap.size < _; omega)).trans (kk0.out 2)).trans (bk0 w 2))
      have y4 : w.heap.size < w4.heap.size := by omega
      go_wp2_with fail
      refine (bytes_as 20 4 _ _ _ _ acc9).mono ?_; rintro e w5 ⟨rfl, hb5⟩
      clear k0
      have z5 := hb5.size
      have hb15 := bseq hb14 hb5
      have k1 : w5.cell? ⟨w.heap.size + 1, 2, .none⟩ = some (.int .i64 13) := (((hb15.cell (p := ⟨w.heap.size + 1, 2, .none⟩) (by show w.heap.size + 1 < _; omega)).trans (kk1.out 2)).trans (bk1 w 2))
      have y5 : w.heap.size + 1 < w5.heap.size := by omega
      go_wp2_with fail
      refine (bytes_as 13 4 _ _ _ _ acc2).mono ?_; rintro e w6 ⟨rfl, hb6⟩
      clear k1
      go_wp2
      exact ⟨⟨3, by omega, rfl, hB.trans ((bseq hb15 hb6).mono (by omega))⟩, by simp [intOf]⟩
    · have e1 := again 3 (by decide) v
      have e2 := bare_last v
      have c1 : ∀ w : World, Calls Try.prog 10 #[.int .i64 21, .int .u64 v] w fun e w' => e = .returned (.tuple #[.int .u64 (kpv 3 v), .nilIface]) ∧ Below w.heap.size w w' := fun w => keep_ok 3 (by decide) v w hv
      have c2 : ∀ w : World, Calls Try.prog 11 #[.int .i64 14, .int .u64 (kpv 3 v)] w fun e w' => e = .returned (.tuple #[.int .u64 (exv 3 (kpv 3 v)), .nilIface]) ∧ Below w.heap.size w w' := fun w => extend_ok 3 (by decide) _ w (kpv_w 3 (by decide) v)
      have c3 : ∀ w : World, Calls Try.prog 11 #[.int .i64 14, .int .u64 v] w fun e w' => e = .returned (.tuple #[.int .u64 (exv 3 v), .nilIface]) ∧ Below w.heap.size w w' := fun w => extend_ok 3 (by decide) v w hv
      have c4 : ∀ w : World, Calls Try.prog 11 #[.int .i64 14, .int .u64 (kpv 3 v)] w fun e w' => e = .returned (.tuple #[.int .u64 (exv 3 (kpv 3 v)), .nilIface]) ∧ Below w.heap.size w w' := fun w => extend_ok 3 (by decide) _ w (kpv_w 3 (by decide) v)
      rw [e1] at c2
      rw [e2] at c4
      clear e1 e2
      generalize kpv 3 v = K at *
      generalize exv 3 v = X at *
      have k0 : wr.cell? ⟨w.heap.size, 3, .none⟩ = some (.int .i64 21) := (kk0.out 3).trans (bk0 w 3)
      have z0 : w.heap.size < wr.heap.size := by omega
      go_wp2_with fail
      refine (c1 _).mono ?_; rintro e w1 ⟨rfl, hb1⟩
      clear c1 k0
      have z1 := hb1.size
      have k1 : w1.cell? ⟨w.heap.size + 1, 3, .none⟩ = some (.int .i64 14) := (((hb1.cell (p := ⟨w.heap.size + 1, 3, .none⟩) (by show w.heap.size + 1 < _; omega)).trans (kk1.out 3)).trans (bk1 w 3))
      have y1 : w.heap.size + 1 < w1.heap.size := by omega
      go_wp2_with fail
      refine (c2 _).mono ?_; rintro e w2 ⟨rfl, hb2⟩
      clear c2 k1
      have z2 := hb2.size
      have hb12 := bseq hb1 hb2
      have k1 : w2.cell? ⟨w.heap.size + 1, 3, .none⟩ = some (.int .i64 14) := (((hb12.cell (p := ⟨w.heap.size + 1, 3, .none⟩) (by show w.heap.size + 1 < _; omega)).trans (kk1.out 3)).trans (bk1 w 3))
      have y2 : w.heap.size + 1 < w2.heap.size := by omega
      go_wp2_with fail
      refine (c3 _).mono ?_; rintro e w3 ⟨rfl, hb3⟩
      clear c3 k1
      have z3 := hb3.size
      have hb123 := bseq hb12 hb3
      have k2 : w3.cell? ⟨w.heap.size + 1 + 1, 3, .none⟩ = some (.int .i64 14) := (((hb123.cell (p := ⟨w.heap.size + 2, 3, .none⟩) (by show w.heap.size + 2 < _; omega)).trans (kk2.out 3)).trans (bk2 w 3))
      have y3 : w.heap.size + 1 + 1 < w3.heap.size := by omega
      go_wp2_with fail
      refine (c4 _).mono ?_; rintro e w4 ⟨rfl, hb4⟩
      clear c4 k2
      have z4 := hb4.size
      have hb14 := bseq hb123 hb4
      have k0 : w4.cell? ⟨w.heap.size, 3, .none⟩ = some (.int .i64 21) := (((hb14.cell (p := ⟨w.heap.size, 3, .none⟩) (by show w.heap.size < _; omega)).trans (kk0.out 3)).trans (bk0 w 3))
      have y4 : w.heap.size < w4.heap.size := by omega
      go_wp2_with fail
      refine (bytes_as 21 8 _ _ _ _ acc10).mono ?_; rintro e w5 ⟨rfl, hb5⟩
      clear k0
      have z5 := hb5.size
      have hb15 := bseq hb14 hb5
      have k1 : w5.cell? ⟨w.heap.size + 1, 3, .none⟩ = some (.int .i64 14) := (((hb15.cell (p := ⟨w.heap.size + 1, 3, .none⟩) (by show w.heap.size + 1 < _; omega)).trans (kk1.out 3)).trans (bk1 w 3))
      have y5 : w.heap.size + 1 < w5.heap.size := by omega
      go_wp2_with fail
      refine (bytes_as 14 8 _ _ _ _ acc3).mono ?_; rintro e w6 ⟨rfl, hb6⟩
      clear k1
      go_wp2
      exact ⟨⟨4, by omega, rfl, hB.trans ((bseq hb15 hb6).mono (by omega))⟩, by simp [intOf]⟩
    · clear kk0 kk1 kk2
      by_cases hb0 : b = 0
      · subst hb0
        have c := fun w => divide_no 0 a 0 w (Int.le_refl _)
        go_wp2_with fail
        refine (c _).mono ?_; rintro e w1 ⟨⟨x, rfl, B, _, _, rfl, _⟩, hb1⟩
        clear c
        go_wp2
        go_ret
        exact ⟨rfl, bseq hW hb1⟩
      · have g : (b == 0) = false := by rw [beq_eq_false_iff_ne]; exact hb0
        have b1 : 0 < b := by have := hb.1; omega
        have hp : 0 ≤ a * b := Int.mul_nonneg ha.1 hb.1
        have c := fun w => mulW_any a b w ha hb
        have hlt : a * b / 18446744073709551616 < b := by
          refine (Int.ediv_lt_iff_lt_mul (by decide)).2 ?_
          have := Int.mul_lt_mul_of_pos_right ha.2 b1
          omega
        have d := fun w => divide_yes (a * b / 18446744073709551616) (a * b % 18446744073709551616) b w (Int.ediv_nonneg hp (by decide)) hlt hb.2 (mod_bd _)
        have e0 : a * b / 18446744073709551616 * 18446744073709551616 + a * b % 18446744073709551616 = a * b := by omega
        rw [e0, Int.mul_ediv_cancel _ hb0, Int.mul_emod_left] at d
        clear e0 hlt hp hb0 b1
        generalize a * b / 18446744073709551616 = H at *
        generalize a * b % 18446744073709551616 = L at *
        go_wp2_with fail
        refine (c _).mono ?_; rintro e w1 ⟨rfl, hb1⟩
        clear c
        go_wp2_with fail
        refine (d _).mono ?_; rintro e w2 ⟨rfl, hb2⟩
        clear d
        go_wp2
        go_ret
        exact ⟨rfl, bseq (bseq hW hb1) hb2⟩
end Go.Proofs.Ythdahigckflohaa
