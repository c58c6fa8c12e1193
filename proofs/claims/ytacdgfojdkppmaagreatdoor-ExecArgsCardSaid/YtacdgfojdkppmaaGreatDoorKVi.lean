import Derived.Test.YtacdgfojdkppmaaGreatDoorYa
import Derived.Test.YtacdgfojdkppmaaGreatDoorKEa
import Derived.Deep.RegionHeld3
import Derived.Test.YtacdgfojdkppmaaGreatDoorYn
import Derived.Test.YtacdgfojdkppmaaGreatDoorYj
namespace Go.Proofs.YtacdgfojdkppmaaGreatDoor.Rm
open Go Go.RowKit
set_option linter.unusedVariables false
set_option linter.unusedSimpArgs false
theorem forUser_any (s : Nat) (a : Int) (w : World) : Calls Tryz.prog 37 #[.pointer (some ⟨s, 0, .none⟩), .int .i64 a] w fun e w' => e = .returned (.func (.func 78) #[] #[.pointer (some ⟨w.heap.size, 0, .none⟩), .pointer (some ⟨w.heap.size + 1, 0, .none⟩)]) ∧ w' = (w.alloc (.cells #[.pointer (some ⟨s, 0, .none⟩)] 32)).alloc (.cells #[.int .i64 a] 98) := by
 go_enter Tryz.func37, Tryz.ntmps37
 go_wp2
 go_ret
 exact ⟨rfl, rfl⟩
set_option maxHeartbeats 1000000 in
/-- forUser's own function: what Translate tells. -/
theorem user_any {w : World} {s p u1 u2 : Nat} {root size : Int} (hS : Sp w s p root size) (va a x : Int) (y : Bool) (h1 : w.cell? ⟨u1, 0, .none⟩ = some (.pointer (some ⟨s, 0, .none⟩))) (h2 : w.cell? ⟨u2, 0, .none⟩ = some (.int .i64 a))
  (c66 : ∀ W, Below w.heap.size w W → Calls Tryz.prog 79 #[.pointer (some ⟨p, 0, .none⟩), .int .u64 root, .int .u64 va, .int .i64 a] W fun e w' => e = .returned (.tuple #[.int .u64 x, .bool y]) ∧ Below W.heap.size W w') :
  Calls Tryz.prog 78 #[.int .u64 va, .pointer (some ⟨u1, 0, .none⟩), .pointer (some ⟨u2, 0, .none⟩)] w fun e w' => e = .returned (.tuple #[.int .u64 x, .bool y]) ∧ Below w.heap.size w w' := by
 have k0 := hS.c0
 have k1 := hS.c1
 have HC : Hid (∀ W, Below w.heap.size w W → Calls Tryz.prog 79 #[.pointer (some ⟨p, 0, .none⟩), .int .u64 root, .int .u64 va, .int .i64 a] W fun e w' => e = .returned (.tuple #[.int .u64 x, .bool y]) ∧ Below W.heap.size W w') := c66
 clear hS c66
 have kS : Below w.heap.size w w.drew := (Below.refl _ _).drew
 have b0 := lt_of_cell k0
 have b1 := lt_of_cell h1
 have b2 := lt_of_cell h2
 simp only at b0 b1 b2
 go_enter Tryz.func78, Tryz.ntmps78
 go_upto_region 1 with fail
 refine wp_region_held_drew (S := fun U => Below w.heap.size w U) (by kernel_rfl) kS (fun hHeld => ?_)
 refine wpAnyH_take (i := 0) (v := (.pointer (some ⟨s, 0, .none⟩))) rfl (by kernel_rfl) (by kernel_rfl) (by kernel_rfl) (fun _ _ _ h => h) (Or.inl ⟨by rfl, fun ww hSw => by (try dsimp only at hSw); have q0 := (Below.cell hSw (p := ⟨u1, 0, .none⟩) (by simp only; omega)).trans h1; go_simp⟩) (by assumption) ?_
 simp only [Act.put, List.setIfInBounds_toArray, List.set_cons_zero, List.set_cons_succ, List.getElem_toArray, List.getElem_cons_succ, List.getElem_cons_zero]
 refine wpAnyH_take (i := 1) (v := (.pointer (some ⟨s, 0, .none⟩))) rfl (by kernel_rfl) (by kernel_rfl) (by kernel_rfl) (fun _ _ _ h => h) (Or.inl ⟨by rfl, fun ww hSw => by (try dsimp only at hSw); go_simp⟩) (by assumption) ?_
 simp only [Act.put, List.setIfInBounds_toArray, List.set_cons_zero, List.set_cons_succ, List.getElem_toArray, List.getElem_cons_succ, List.getElem_cons_zero]
 refine wpAnyH_take (i := 2) (v := (.pointer (some ⟨s, 0, .none⟩))) rfl (by kernel_rfl) (by kernel_rfl) (by kernel_rfl) (fun _ _ _ h => h) (Or.inl ⟨by rfl, fun ww hSw => by (try dsimp only at hSw); go_simp⟩) (by assumption) ?_
 simp only [Act.put, List.setIfInBounds_toArray, List.set_cons_zero, List.set_cons_succ, List.getElem_toArray, List.getElem_cons_succ, List.getElem_cons_zero]
 refine wpAnyH_take (i := 3) (v := (.pointer (some ⟨s, 0, .none⟩))) rfl (by kernel_rfl) (by kernel_rfl) (by kernel_rfl) (fun _ _ _ h => h) (Or.inl ⟨by rfl, fun ww hSw => by (try dsimp only at hSw); go_simp⟩) (by assumption) ?_
 simp only [Act.put, List.setIfInBounds_toArray, List.set_cons_zero, List.set_cons_succ, List.getElem_toArray, List.getElem_cons_succ, List.getElem_cons_zero]
 refine wpAnyH_take (i := 4) (v := (.pointer (some ⟨p, 0, .none⟩))) rfl (by kernel_rfl) (by kernel_rfl) (by kernel_rfl) (fun _ _ _ h => h) (Or.inl ⟨by rfl, fun ww hSw => by (try dsimp only at hSw); have q0 := (Below.cell hSw (p := ⟨s, 0, .none⟩) (by simp only; omega)).trans k0; go_simp⟩) (by assumption) ?_
 simp only [Act.put, List.setIfInBounds_toArray, List.set_cons_zero, List.set_cons_succ, List.getElem_toArray, List.getElem_cons_succ, List.getElem_cons_zero]
 refine wpAnyH_take (i := 5) (v := (.pointer (some ⟨s, 0, .none⟩))) rfl (by kernel_rfl) (by kernel_rfl) (by kernel_rfl) (fun _ _ _ h => h) (Or.inl ⟨by rfl, fun ww hSw => by (try dsimp only at hSw); have q0 := (Below.cell hSw (p := ⟨u1, 0, .none⟩) (by simp only; omega)).trans h1; go_simp⟩) (by assumption) ?_
 simp only [Act.put, List.setIfInBounds_toArray, List.set_cons_zero, List.set_cons_succ, List.getElem_toArray, List.getElem_cons_succ, List.getElem_cons_zero]
 refine wpAnyH_take (i := 6) (v := (.pointer (some ⟨s, 0, .none⟩))) rfl (by kernel_rfl) (by kernel_rfl) (by kernel_rfl) (fun _ _ _ h => h) (Or.inl ⟨by rfl, fun ww hSw => by (try dsimp only at hSw); go_simp⟩) (by assumption) ?_
 simp only [Act.put, List.setIfInBounds_toArray, List.set_cons_zero, List.set_cons_succ, List.getElem_toArray, List.getElem_cons_succ, List.getElem_cons_zero]
 refine wpAnyH_take (i := 7) (v := (.pointer (some ⟨s, 0, .none⟩))) rfl (by kernel_rfl) (by kernel_rfl) (by kernel_rfl) (fun _ _ _ h => h) (Or.inl ⟨by rfl, fun ww hSw => by (try dsimp only at hSw); go_simp⟩) (by assumption) ?_
 simp only [Act.put, List.setIfInBounds_toArray, List.set_cons_zero, List.set_cons_succ, List.getElem_toArray, List.getElem_cons_succ, List.getElem_cons_zero]
 refine wpAnyH_take (i := 8) (v := (.pointer (some ⟨s, 1, .none⟩))) rfl (by kernel_rfl) (by kernel_rfl) (by kernel_rfl) (fun _ _ _ h => h) (Or.inl ⟨by rfl, fun ww hSw => by (try dsimp only at hSw); go_simp⟩) (by assumption) ?_
 simp only [Act.put, List.setIfInBounds_toArray, List.set_cons_zero, List.set_cons_succ, List.getElem_toArray, List.getElem_cons_succ, List.getElem_cons_zero]
 refine wpAnyH_take (i := 9) (v := (.int .u64 root)) rfl (by kernel_rfl) (by kernel_rfl) (by kernel_rfl) (fun _ _ _ h => h) (Or.inl ⟨by rfl, fun ww hSw => by (try dsimp only at hSw); have q0 := (Below.cell hSw (p := ⟨s, 1, .none⟩) (by simp only; omega)).trans k1; go_simp⟩) (by assumption) ?_
 simp only [Act.put, List.setIfInBounds_toArray, List.set_cons_zero, List.set_cons_succ, List.getElem_toArray, List.getElem_cons_succ, List.getElem_cons_zero]
 refine wpAnyH_take (i := 10) (v := (.int .u64 va)) rfl (by kernel_rfl) (by kernel_rfl) (by kernel_rfl) (fun _ _ _ h => h) (Or.inl ⟨by rfl, fun ww hSw => by (try dsimp only at hSw); go_simp⟩) (by assumption) ?_
 simp only [Act.put, List.setIfInBounds_toArray, List.set_cons_zero, List.set_cons_succ, List.getElem_toArray, List.getElem_cons_succ, List.getElem_cons_zero]
 refine wpAnyH_take (i := 11) (v := (.int .i64 a)) rfl (by kernel_rfl) (by kernel_rfl) (by kernel_rfl) (fun _ _ _ h => h) (Or.inl ⟨by rfl, fun ww hSw => by (try dsimp only at hSw); have q0 := (Below.cell hSw (p := ⟨u2, 0, .none⟩) (by simp only; omega)).trans h2; go_simp⟩) (by assumption) ?_
 simp only [Act.put, List.setIfInBounds_toArray, List.set_cons_zero, List.set_cons_succ, List.getElem_toArray, List.getElem_cons_succ, List.getElem_cons_zero]
 refine wpAnyH_ready (rs := [12]) (by kernel_rfl) (by simp) ?_
 refine AllReadyH.cons rfl (fun K hK => ?_) AllReadyH.nil
 go_simp
 go_at_call 79
 refine (HC.out _ hHeld).mono ?_
 rintro _ w2 ⟨rfl, b9⟩
 have k9 : Below w.heap.size w w2 := hHeld.trans (b9.mono hHeld.size)
 clear hHeld b9
 refine hK.out _ _ k9 (fun hHeld => ?_)
 clear hK K
 try simp only [Act.put, List.setIfInBounds_toArray, List.set_cons_zero, List.set_cons_succ, List.getElem_toArray, List.getElem_cons_succ, List.getElem_cons_zero]
 refine wpAnyH_take (i := 13) (v := (.int .u64 x)) rfl (by kernel_rfl) (by kernel_rfl) (by kernel_rfl) (fun _ _ _ h => h) (Or.inl ⟨by rfl, fun ww hSw => by (try dsimp only at hSw); go_simp⟩) (by assumption) ?_
 simp only [Act.put, List.setIfInBounds_toArray, List.set_cons_zero, List.set_cons_succ, List.getElem_toArray, List.getElem_cons_succ, List.getElem_cons_zero]
 refine wpAnyH_take (i := 14) (v := (.bool y)) rfl (by kernel_rfl) (by kernel_rfl) (by kernel_rfl) (fun _ _ _ h => h) (Or.inl ⟨by rfl, fun ww hSw => by (try dsimp only at hSw); go_simp⟩) (by assumption) ?_
 simp only [Act.put, List.setIfInBounds_toArray, List.set_cons_zero, List.set_cons_succ, List.getElem_toArray, List.getElem_cons_succ, List.getElem_cons_zero]
 refine wpAnyH_take (i := 15) (v := (.int .u64 x)) rfl (by kernel_rfl) (by kernel_rfl) (by kernel_rfl) (fun _ _ _ h => h) (Or.inl ⟨by rfl, fun ww hSw => by (try dsimp only at hSw); go_simp⟩) (by assumption) ?_
 simp only [Act.put, List.setIfInBounds_toArray, List.set_cons_zero, List.set_cons_succ, List.getElem_toArray, List.getElem_cons_succ, List.getElem_cons_zero]
 refine wpAnyH_take (i := 16) (v := (.bool y)) rfl (by kernel_rfl) (by kernel_rfl) (by kernel_rfl) (fun _ _ _ h => h) (Or.inl ⟨by rfl, fun ww hSw => by (try dsimp only at hSw); go_simp⟩) (by assumption) ?_
 simp only [Act.put, List.setIfInBounds_toArray, List.set_cons_zero, List.set_cons_succ, List.getElem_toArray, List.getElem_cons_succ, List.getElem_cons_zero]
 refine wpAnyH_done (by kernel_rfl) ?_ _
 go_wp2_with fail
 refine bodyPost_ret (v := .tuple #[.int .u64 x, .bool y]) (by simp [results, Tryz.results78, go_sem]) rfl ⟨rfl, hHeld⟩
end Go.Proofs.YtacdgfojdkppmaaGreatDoor.Rm
namespace Go.Proofs.YtacdgfojdkppmaaGreatDoor.Rm
open Go Go.RowKit
set_option linter.unusedVariables false
set_option linter.unusedSimpArgs false
/-- The bytes of a piece. -/
def pcB (B : Nat → Int) (o n : Nat) : List Value := (List.range n).map fun i => .int .u8 (B (o + i))
theorem pcB_len (B : Nat → Int) (o n : Nat) : (pcB B o n).length = n := by simp [pcB]
def I1P (W : World) (A d2 k n T : Nat) (bs : List Value) (e : Ending) (w' : World) : Prop := e = .returned (.bool true) ∧ ∃ W2 q', Below W.heap.size W W2 ∧ w' = (W2.setCells A k bs).setCell ⟨d2, 0, .none⟩ (.slice q' (T - n : Nat) (T - n : Nat)) ∧ (n < T → q' = some ⟨A, k + n, .none⟩)
set_option maxRecDepth 100000 in
set_option maxHeartbeats 2000000 in
theorem in1_any {W : World} {s p b m N : Nat} {B : Nat → Int} {L : List Nat} {root size : Int} (hS : Sp W s p root size) (hR : Ram W p b m N B L) (q o n : Nat) (hq : q < N ∧ q ∉ L) (hn : 1 ≤ n) (ho : o + n ≤ 4096) (d1 d2 A k T : Nat)
  (h1 : W.cell? ⟨d1, 0, .none⟩ = some (.pointer (some ⟨s, 0, .none⟩))) (h2 : W.cell? ⟨d2, 0, .none⟩ = some (.slice (some ⟨A, k, .none⟩) T T)) (f2 : W.frozen? ⟨d2, 0, .none⟩ = false) (hnT : n ≤ T ∧ T ≤ 9223372036854775807) (hA : ∀ j, j < T → (W.cell? ⟨A, k + j, .none⟩).isSome = true) (fA : ∀ j, j < T → W.frozen? ⟨A, k + j, .none⟩ = false) (hne : d2 ≠ A) :
  Calls Tryz.prog 38 #[.int .u64 (ad q + o), .int .i64 n, .pointer (some ⟨d1, 0, .none⟩), .pointer (some ⟨d2, 0, .none⟩)] W (I1P W A d2 k n T (pcB B (q * 4096 + o) n)) := by
 have k0 := hS.c0
 have hN := hR.mem.n2
 have c55 : Calls Tryz.prog 39 #[.pointer (some ⟨p, 0, .none⟩), .int .u64 (ad q + o), .int .i64 n] W fun e w' => ReadP W n (fun i => B (q * 4096 + o + i)) e w' := by
  have := read_ok hR.mem (q * 4096 + o) n hn (by omega) (fun f e1 e2 => by
   obtain rfl : f = q := by omega
   rw [hdL_in hq.1]
   simpa using hq.2)
  have e : ad q + o = 2147483648 + ((q * 4096 + o : Nat) : Int) := by unfold ad; omega
  rw [e]
  exact this
 clear hS hR
 have hAl : A < W.heap.size := by
  have := hA 0 (by omega)
  obtain ⟨v, hv⟩ := Option.isSome_iff_exists.1 this
  exact lt_of_cell hv
 have hdl := lt_of_cell h2
 simp only at hdl
 go_enter Tryz.func38, Tryz.ntmps38
 go_wp2_with fail
 refine c55.mono ?_
 rintro _ W2 ⟨g, g1, g2, rfl, g3, g4, b2⟩
 clear c55
 have z2 := (b2.cell (p := ⟨d2, 0, .none⟩) hdl).trans h2
 have zf := (b2.frozen (p := ⟨d2, 0, .none⟩) hdl).trans f2
 have hcp : ∀ (X : World) ty, Below W2.heap.size W2 X → (Builtin.copy_ #[22, 22] ty #[.slice (some ⟨A, k, .none⟩) T T, .slice (some ⟨g, 0, .none⟩) n n]).run Tryz.prog X = .ok (.int .i64 n) (X.setCells A k (pcB B (q * 4096 + o) n)) := fun X ty bX => by
  have := run_copy_cells (P := Tryz.prog) X 22 22 ty 5 A k T T ⟨g, 0, .none⟩ n n (pcB B (q * 4096 + o) n) (by kernel_rfl) (by kernel_rfl) (by rw [pcB_len]; exact (Nat.min_eq_left hnT.1).symm) (fun j v hj => ?_) (fun j hj => ?_) (fun j hj => ?_) (fun v hv => ?_)
  ·rw [pcB_len] at this
   exact this
  ·have hjn : j < n := by
    rcases Nat.lt_or_ge j n with h | h
    ·exact h
    ·rw [List.getElem?_eq_none (by rw [pcB_len]; exact h)] at hj
     cases hj
   have e : v = .int .u8 (B (q * 4096 + o + j)) := by
    unfold pcB at hj
    rw [List.getElem?_map, List.getElem?_range hjn] at hj
    simpa using hj.symm
   rw [e]
   have hadd : (⟨g, 0, .none⟩ : Addr).add j = ⟨g, j, .none⟩ := by unfold Addr.add; split <;> simp_all
   rw [hadd]
   exact (bX.cell (p := ⟨g, j, .none⟩) g2).trans (g3 j hjn)
  ·rw [pcB_len] at hj
   rw [bX.cell (p := ⟨A, k + j, .none⟩) (by simp only; have := b2.size; omega), b2.cell (p := ⟨A, k + j, .none⟩) hAl]
   exact hA j (by omega)
  ·rw [pcB_len] at hj
   rw [bX.frozen (p := ⟨A, k + j, .none⟩) (by simp only; have := b2.size; omega), b2.frozen (p := ⟨A, k + j, .none⟩) hAl]
   exact fA j (by omega)
  ·unfold pcB at hv
   obtain ⟨_, _, rfl⟩ := List.mem_map.1 hv
   rfl
 have HCP : Hid (∀ (X : World) ty, Below W2.heap.size W2 X → (Builtin.copy_ #[22, 22] ty #[.slice (some ⟨A, k, .none⟩) T T, .slice (some ⟨g, 0, .none⟩) n n]).run Tryz.prog X = .ok (.int .i64 n) (X.setCells A k (pcB B (q * 4096 + o) n))) := hcp
 have HB2 : Hid (Below W.heap.size W W2) := b2
 clear hcp g1 g2 g3 g4 b2 hA fA h2 f2 h1 k0
 obtain ⟨q', hq'⟩ : ∃ q', q' = if T = n then some (⟨A, k, .none⟩ : Addr) else some ⟨A, k + n, .none⟩ := ⟨_, rfl⟩
 have hsl : ∀ X : World, (Instr.slice 22 (.slice (some ⟨A, k, .none⟩) T T) (some (.int .i64 n)) none none).run Tryz.prog X = .ok (.slice q' (T - n : Nat) (T - n : Nat)) X := fun X => by
  rw [run_slice_l X 22 (some ⟨A, k, .none⟩) T T (by kernel_rfl) .i64 n (by omega) (by omega), elemU8, hq']
  have hadd : (⟨A, k, .none⟩ : Addr).add n = ⟨A, k + n, .none⟩ := by unfold Addr.add; split <;> simp_all
  by_cases e : T = n
  ·simp [Result.andThen, sliced, e]
  ·simp [Result.andThen, sliced, e, hadd]
 have HQ : Hid (n < T → q' = some ⟨A, k + n, .none⟩) := fun h => by rw [hq', if_neg (by omega)]
 clear hq'
 go_upto_region 2 with fail
 have y2 : W2.drew.cell? ⟨d2, 0, .none⟩ = some (.slice (some ⟨A, k, .none⟩) T T) := z2
 have yf : W2.drew.frozen? ⟨d2, 0, .none⟩ = false := zf
 have hc8 := fun ty => HCP.out W2.drew ty (Below.refl _ _).drew
 obtain ⟨X, hX⟩ : ∃ X, X = W2.drew.setCells A k (pcB B (q * 4096 + o) n) := ⟨_, rfl⟩
 rw [← hX] at hc8
 have k8 : X.cell? ⟨d2, 0, .none⟩ = some (.slice (some ⟨A, k, .none⟩) T T) := by rw [hX]; exact (World.cell?_setCells_out A _ k W2.drew ⟨d2, 0, .none⟩ (fun e => absurd e hne)).trans z2
 have k7 : X.frozen? ⟨d2, 0, .none⟩ = false := by rw [hX]; exact (World.frozen?_setCells A _ k W2.drew ⟨d2, 0, .none⟩).trans zf
 have HX : Hid (X = W2.drew.setCells A k (pcB B (q * 4096 + o) n)) := hX
 clear hX z2 zf
 go_region
 all_goals
  go_wp2_with fail
  go_ret
  refine ⟨rfl, W2.drew, q', HB2.out.drew, ?_, HQ.out⟩
  rw [HX.out]
end Go.Proofs.YtacdgfojdkppmaaGreatDoor.Rm
namespace Go.Proofs.YtacdgfojdkppmaaGreatDoor.Rm
open Go Go.RowKit Go.Shelf
set_option linter.unusedVariables false
set_option linter.unusedSimpArgs false
/-- What an access asks of a page's permissions. -/
def wnt (t : Nat) : Nat := if t = 0 then 88 else if t = 1 then 82 else 212
set_option maxRecDepth 100000 in
theorem lts_bits : ∀ c : Fin 256, c.val % 2 = 0 → ∀ t : Fin 3, (((c.val + 1) &&& 80 == 80) && ((c.val + 1) &&& (if t.val = 0 then 8 else if t.val = 1 then 2 else 132) == (if t.val = 0 then 8 else if t.val = 1 then 2 else 132))) = (c.val &&& wnt t.val == wnt t.val) := by decide
theorem hs_low (c : Int) (hc : 0 ≤ c ∧ c < 256) (d : Nat) (hd : d < 1024) : hs c d = (c.toNat &&& d == d) := by
 unfold hs
 rw [and_low c (by omega) d hd, show c % 1024 = c by omega]
 cases h : (c.toNat &&& d == d)
 ·rw [beq_eq_false_iff_ne] at h ⊢
  omega
 ·rw [beq_iff_eq] at h ⊢
  omega
theorem congrArg2 {a b c d : Bool} (h1 : a = c) (h2 : b = d) : (a && b) = (c && d) := by rw [h1, h2]
theorem lts_toP (pa c : Int) (hp : 0 ≤ pa ∧ pa < 72057594037927936) (hc : 0 ≤ c ∧ c < 256) (he : c % 2 = 0) (t : Nat) (ht : t < 3) : lts (toP pa c) (1 + t) = hs c (wnt t) := by
 have key := lts_bits ⟨c.toNat, by omega⟩ (by simp only; omega) ⟨t, ht⟩
 simp only at key
 have cv : ∀ d : Nat, d < 1024 → hs (toP pa c) d = ((c.toNat + 1) &&& d == d) := fun d hd => by
  rw [hs_toP pa c hp (by omega) he d hd, show (c + 1).toNat = c.toNat + 1 by omega]
  cases h : ((c.toNat + 1) &&& d == d)
  ·rw [beq_eq_false_iff_ne] at h ⊢
   omega
  ·rw [beq_iff_eq] at h ⊢
   omega
 have h80 := cv 80 (by omega)
 have h8 := cv 8 (by omega)
 have h2 := cv 2 (by omega)
 have h132 := cv 132 (by omega)
 rw [hs_low c hc (wnt t) (by unfold wnt; split <;> (try split) <;> omega), ← key]
 unfold lts
 obtain rfl | rfl | rfl : t = 0 ∨ t = 1 ∨ t = 2 := by omega
 ·rw [if_pos (by omega)]; simp only [if_true]; exact congrArg2 h80 h8
 ·rw [if_neg (by omega), if_pos (by omega)]; simp only [if_true, if_false, Nat.one_ne_zero]; exact congrArg2 h80 h2
 ·rw [if_neg (by omega), if_neg (by omega), if_pos (by omega)]; exact congrArg2 h80 h132
theorem y_off (va o : Int) (hv : 0 ≤ va ∧ va < 274877906944 ∧ va % 4096 = 0) (ho : 0 ≤ o ∧ o < 4096) : y0 (va + o) = y0 va ∧ i0 (va + o) = i0 va := by
 have h1 : ix (va + o) 0 = ix va 0 := by unfold ix; rw [spn0]; omega
 have h2 : ix (va + o) 1 = ix va 1 := by unfold ix; rw [spn1]; omega
 have h3 : ix (va + o) 2 = ix va 2 := by unfold ix; rw [show spn 2 = 1073741824 from rfl]; omega
 constructor
 ·unfold y0 y1 i1 i2
  rw [h2, h3]
 ·unfold i0
  rw [h1]
section
variable {w : World} {p b m N r : Nat} {B : Nat → Int} {L : List Nat} {F : Nat → Option Nat} {lf : Nat → Nat → Int}
theorem PT.way (h : PT N L B F lf) (va : Int) (hl : lf (y0 va) (i0 va) ≠ 0) : ∃ g q, F (y1 va) = some g ∧ F (y0 va) = some q := by
 have h0 : F (y0 va) ≠ none := fun e => hl (h.ln _ e _)
 have h1 : F (y1 va) ≠ none := h.up (y1 va) (i1 va) (y1_le va).1 (i1_lt va) h0
 cases e1 : F (y1 va) with
 | none => exact absurd e1 h1
 | some g =>
  cases e0 : F (y0 va) with
  | none => exact absurd e0 h0
  | some q => exact ⟨g, q, rfl, rfl⟩
theorem look_full (h : PT N L B F lf) (hN : N ≤ 4096) {r : Nat} (hr : F 0 = some r) (va : Int) (hz : lf (y0 va) (i0 va) ≠ 0) : (look N L B (ad r) va).k = 2 ∧ (look N L B (ad r) va).l = 0 ∧ (look N L B (ad r) va).e = lf (y0 va) (i0 va) := by
 obtain ⟨g, q, h1, h0⟩ := h.way va hz
 rw [look_0 h hN hr va h1 h0]
 refine ⟨?_, rfl, rfl⟩
 rcases h.lv (y0 va) (i0 va) with h2 | h2
 ·exact absurd h2 hz
 ·exact h2.1
theorem tra_some (hR : Ram w p b m N B L) (hP : PT N L B F lf) (hr : F 0 = some r) (va o pa c : Int) (t : Nat) (ht : t < 3) (hv : 0 ≤ va ∧ va < 274877906944 ∧ va % 4096 = 0) (ho : 0 ≤ o ∧ o < 4096) (hp : 0 ≤ pa ∧ pa < 72057594037927936 ∧ pa % 4096 = 0) (hc : 0 ≤ c ∧ c < 256 ∧ c % 2 = 0) (hz : lf (y0 va) (i0 va) = toP pa c) (hne : toP pa c ≠ 0) :
  Calls Tryz.prog 79 #[.pointer (some ⟨p, 0, .none⟩), .int .u64 (ad r), .int .u64 (va + o), .int .i64 (1 + t)] w fun e w' => e = .returned (.tuple #[.int .u64 (if hs c (wnt t) then pa + o else 0), .bool (hs c (wnt t))]) ∧ Below w.heap.size w w' := by
 have hN := hR.mem.n2
 have hrb : 0 ≤ ad r ∧ ad r < 18446744073709551616 := by have h1 := hP.held 0 r hr; unfold ad; omega
 obtain ⟨e1, e2⟩ := y_off va o hv ho
 obtain ⟨hk, hl, he⟩ := look_full hP hN hr (va + o) (by rw [e1, e2, hz]; exact hne)
 rw [e1, e2, hz] at he
 have hA : trA (look N L B (ad r) (va + o)) (va + o) (1 + t) = hs c (wnt t) := by
  unfold trA finds
  rw [hk, he, ext_low _ (by omega), lts_toP pa c ⟨hp.1, hp.2.1⟩ ⟨hc.1, hc.2.1⟩ hc.2.2 t ht]
  simp
 have hB : trP (look N L B (ad r) (va + o)) (va + o) = pa + o := by
  unfold trP
  rw [he, hl, adE_toP pa c ⟨hp.1, hp.2.1⟩ hp.2.2 (by omega) hc.2.2, spn0]
  omega
 have := translate_any hR (ad r) (va + o) (1 + t) hrb (by omega)
 rw [hA, hB] at this
 exact this
end
end Go.Proofs.YtacdgfojdkppmaaGreatDoor.Rm
