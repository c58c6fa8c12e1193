import Derived.Test.YtabnipbdbnmmpaaGreatDoorTw01
import Derived.Test.YtabnipbdbnmmpaaGreatDoorTw10
import Derived.Deep.RegionHeld3
import Derived.Test.YtabnipbdbnmmpaaGreatDoorTw14
set_option linter.unusedVariables false
set_option linter.unusedSimpArgs false
namespace Go.Proofs.YtabnipbdbnmmpaaGreatDoor.Rm
open Go Go.RowKit
def pce (va : Int) (n k : Nat) : Nat := min (n - k) (4096 - ((va + k) % 4096).toNat)
theorem pce_b (va : Int) (n k : Nat) (h : k < n) : 1 ≤ pce va n k ∧ k + pce va n k ≤ n ∧ ((va + k) % 4096).toNat + pce va n k ≤ 4096 := by
 unfold pce
 omega
def EaP (n : Nat) (J : Nat → World → Prop) (Jf : World → Prop) (e : Ending) (w' : World) : Prop := (e = .returned (.bool true) ∧ J n w') ∨ (e = .returned (.bool false) ∧ Jf w')
set_option maxHeartbeats 2000000 in
theorem each_rd {w : World} {s : Nat} {u1 u2 d1 d2 : Nat} (va : Int) (n : Nat) (hv : 0 ≤ va ∧ va + n ≤ 274877906944) (J : Nat → World → Prop) (Jf : World → Prop) (pa : Nat → Int) (ok dok : Nat → Bool)
  (hat : ∀ k W, k < n → J k W → Calls Tryz.prog 100 #[.int .u64 (va + k), .pointer (some ⟨u1, 0, .none⟩), .pointer (some ⟨u2, 0, .none⟩)] W fun e W' => e = .returned (.tuple #[.int .u64 (pa k), .bool (ok k)]) ∧ J k W')
  (hno : ∀ k W, k < n → ok k = false → J k W → Jf W)
  (hdo : ∀ k W, k < n → ok k = true → J k W → Calls Tryz.prog 51 #[.int .u64 (pa k), .int .i64 (pce va n k), .pointer (some ⟨d1, 0, .none⟩), .pointer (some ⟨d2, 0, .none⟩)] W fun e W' => e = .returned (.bool (dok k)) ∧ (dok k = true → J (k + pce va n k) W') ∧ (dok k = false → Jf W')) (h0 : J 0 w) :
  Calls Tryz.prog 49 #[.pointer (some ⟨s, 0, .none⟩), .int .u64 va, .int .i64 n, .func (.func 100) #[] #[.pointer (some ⟨u1, 0, .none⟩), .pointer (some ⟨u2, 0, .none⟩)], .func (.func 51) #[] #[.pointer (some ⟨d1, 0, .none⟩), .pointer (some ⟨d2, 0, .none⟩)]] w (EaP n J Jf) := by
 have HA : Hid (∀ k W, k < n → J k W → Calls Tryz.prog 100 #[.int .u64 (va + k), .pointer (some ⟨u1, 0, .none⟩), .pointer (some ⟨u2, 0, .none⟩)] W fun e W' => e = .returned (.tuple #[.int .u64 (pa k), .bool (ok k)]) ∧ J k W') := hat
 have HN : Hid (∀ k W, k < n → ok k = false → J k W → Jf W) := hno
 have HD : Hid (∀ k W, k < n → ok k = true → J k W → Calls Tryz.prog 51 #[.int .u64 (pa k), .int .i64 (pce va n k), .pointer (some ⟨d1, 0, .none⟩), .pointer (some ⟨d2, 0, .none⟩)] W fun e W' => e = .returned (.bool (dok k)) ∧ (dok k = true → J (k + pce va n k) W') ∧ (dok k = false → Jf W')) := hdo
 have H0 : Hid (J 0 w) := h0
 clear hat hno hdo h0
 go_enter Tryz.func49, Tryz.ntmps49
 go_wp2_with fail
 go_loopw [1, 2] (fun v j wr => ∃ k : Nat, k ≤ n ∧ v = .int .u64 (va + k) ∧ j = .int .i64 (n - k) ∧ Hid (J k wr)) (fun _ j _ => (intOf j).toNat)
 case atStart => exact ⟨0, by omega, by simp, by simp, H0⟩
 case round =>
  clear H0
  obtain ⟨k, hk, rfl, rfl, HJ⟩ := hrel
  by_cases hkn : k < n
  ·have hpos : (0 : Int) < n - k := by omega
   have ca := HA.out k wr hkn HJ.out
   have hb := pce_b va n k hkn
   have hrem : IntKind.u64.wrap ((va + k).tmod 4096) = (va + k) % 4096 := by rw [Int.tmod_eq_emod_of_nonneg (by omega), IntKind.wrap_u64]; omega
   have hsub : IntKind.u64.wrap (4096 - (va + k) % 4096) = 4096 - (va + k) % 4096 := by rw [IntKind.wrap_u64]; omega
   have hcv : IntKind.i64.wrap (4096 - (va + k) % 4096) = 4096 - (va + k) % 4096 := by rw [IntKind.wrap_i64]; omega
   have hpu : IntKind.u64.wrap (pce va n k : Int) = pce va n k := by rw [IntKind.wrap_u64]; omega
   have hva2 : IntKind.u64.wrap (va + k + pce va n k) = va + k + pce va n k := by rw [IntKind.wrap_u64]; omega
   by_cases hm : (n : Int) - k ≤ 4096 - (va + k) % 4096
   ·have hm2 : ¬ 4096 - (va + k) % 4096 < (n : Int) - k := by omega
    obtain ⟨pc, hpc⟩ : ∃ pc, pc = pce va n k := ⟨_, rfl⟩
    have e9 : (n : Int) - k = (pc : Int) := by rw [hpc]; unfold pce; omega
    rw [← hpc] at hb hpu hva2
    have HPC : Hid (pc = pce va n k) := hpc
    clear hpc
    have hnx : IntKind.i64.wrap ((n : Int) - k - pc) = n - k - pc := by rw [IntKind.wrap_i64]; omega
    go_wp2_with fail
    refine ca.mono ?_
    rintro _ w1 ⟨rfl, j1⟩
    have HJ1 : Hid (J k w1) := j1
    clear j1 ca HJ
    cases hok : ok k
    ·have HF : Hid (Jf w1) := HN.out k w1 hkn hok HJ1.out
     go_wp2_with fail
     go_ret
     exact .inr ⟨rfl, HF.out⟩
    ·have cd := HD.out k w1 hkn hok HJ1.out
     rw [← HPC.out] at cd
     cases hdk : dok k
     ·rw [hdk] at cd
      go_wp2_with fail
      refine cd.mono ?_
      rintro _ w2 ⟨rfl, _, hf⟩
      have HF : Hid (Jf w2) := hf (by first | rfl | trivial)
      clear hf cd
      go_wp2_with fail
      go_ret
      exact .inr ⟨rfl, HF.out⟩
     ·rw [hdk] at cd
      go_wp2_with fail
      refine cd.mono ?_
      rintro _ w2 ⟨rfl, ht, _⟩
      have HT : Hid (J (k + pc) w2) := ht (by first | rfl | trivial)
      clear ht cd
      go_wp2_with fail
      exact ⟨⟨k + pc, by omega, by congr 1; omega, by congr 1; omega, HT⟩, by simp only [intOf]; omega⟩
   ·have hm2 : 4096 - (va + k) % 4096 < (n : Int) - k := by omega
    obtain ⟨pc, hpc⟩ : ∃ pc, pc = pce va n k := ⟨_, rfl⟩
    have e9 : 4096 - (va + k) % 4096 = (pc : Int) := by rw [hpc]; unfold pce; omega
    rw [← hpc] at hb hpu hva2
    have HPC : Hid (pc = pce va n k) := hpc
    clear hpc
    have hnx : IntKind.i64.wrap ((n : Int) - k - pc) = n - k - pc := by rw [IntKind.wrap_i64]; omega
    go_wp2_with fail
    refine ca.mono ?_
    rintro _ w1 ⟨rfl, j1⟩
    have HJ1 : Hid (J k w1) := j1
    clear j1 ca HJ
    cases hok : ok k
    ·have HF : Hid (Jf w1) := HN.out k w1 hkn hok HJ1.out
     go_wp2_with fail
     go_ret
     exact .inr ⟨rfl, HF.out⟩
    ·have cd := HD.out k w1 hkn hok HJ1.out
     rw [← HPC.out] at cd
     cases hdk : dok k
     ·rw [hdk] at cd
      go_wp2_with fail
      refine cd.mono ?_
      rintro _ w2 ⟨rfl, _, hf⟩
      have HF : Hid (Jf w2) := hf (by first | rfl | trivial)
      clear hf cd
      go_wp2_with fail
      go_ret
      exact .inr ⟨rfl, HF.out⟩
     ·rw [hdk] at cd
      go_wp2_with fail
      refine cd.mono ?_
      rintro _ w2 ⟨rfl, ht, _⟩
      have HT : Hid (J (k + pc) w2) := ht (by first | rfl | trivial)
      clear ht cd
      go_wp2_with fail
      exact ⟨⟨k + pc, by omega, by congr 1; omega, by congr 1; omega, HT⟩, by simp only [intOf]; omega⟩
  ·obtain rfl : k = n := by omega
   go_wp2_with fail
   go_ret
   exact .inl ⟨rfl, HJ.out⟩
end Go.Proofs.YtabnipbdbnmmpaaGreatDoor.Rm
namespace Go.Proofs.YtabnipbdbnmmpaaGreatDoor.Rm
open Go Go.RowKit
theorem forUser_any (s : Nat) (a : Int) (w : World) : Calls Tryz.prog 50 #[.pointer (some ⟨s, 0, .none⟩), .int .i64 a] w fun e w' => e = .returned (.func (.func 100) #[] #[.pointer (some ⟨w.heap.size, 0, .none⟩), .pointer (some ⟨w.heap.size + 1, 0, .none⟩)]) ∧ w' = (w.alloc (.cells #[.pointer (some ⟨s, 0, .none⟩)] 42)).alloc (.cells #[.int .i64 a] 59) := by
 go_enter Tryz.func50, Tryz.ntmps50
 go_wp2
 go_ret
 exact ⟨rfl, rfl⟩
set_option maxHeartbeats 1000000 in
theorem user_any {w : World} {s p u1 u2 : Nat} {root size : Int} (hS : Sp w s p root size) (va a x : Int) (y : Bool) (h1 : w.cell? ⟨u1, 0, .none⟩ = some (.pointer (some ⟨s, 0, .none⟩))) (h2 : w.cell? ⟨u2, 0, .none⟩ = some (.int .i64 a))
  (c66 : ∀ W, Below w.heap.size w W → Calls Tryz.prog 18 #[.pointer (some ⟨p, 0, .none⟩), .int .u64 root, .int .u64 va, .int .i64 a] W fun e w' => e = .returned (.tuple #[.int .u64 x, .bool y]) ∧ Below W.heap.size W w') :
  Calls Tryz.prog 100 #[.int .u64 va, .pointer (some ⟨u1, 0, .none⟩), .pointer (some ⟨u2, 0, .none⟩)] w fun e w' => e = .returned (.tuple #[.int .u64 x, .bool y]) ∧ Below w.heap.size w w' := by
 have k0 := hS.c0
 have k1 := hS.c1
 have HC : Hid (∀ W, Below w.heap.size w W → Calls Tryz.prog 18 #[.pointer (some ⟨p, 0, .none⟩), .int .u64 root, .int .u64 va, .int .i64 a] W fun e w' => e = .returned (.tuple #[.int .u64 x, .bool y]) ∧ Below W.heap.size W w') := c66
 clear hS c66
 have kS : Below w.heap.size w w.drew := (Below.refl _ _).drew
 have b0 := lt_of_cell k0
 have b1 := lt_of_cell h1
 have b2 := lt_of_cell h2
 simp only at b0 b1 b2
 go_enter Tryz.func100, Tryz.ntmps100
 go_upto_region 1 with fail
 refine wp_region_held_drew (S := fun U => Below w.heap.size w U) (by kernel_rfl) kS (fun hHeld => ?_)
 refine wpAnyH_take (i := 0) (v := (.pointer (some ⟨s, 0, .none⟩))) rfl (by kernel_rfl) (by kernel_rfl) (by kernel_rfl) (fun _ _ _ h => h) (Or.inl ⟨by rfl, fun ww hSw => by (try dsimp only at hSw); have q0 := (Below.cell hSw (p := ⟨u1, 0, .none⟩) (by simp only; omega)).trans h1; go_simp⟩) (by assumption) ?_
 simp only [Act.put, List.setIfInBounds_toArray, List.set_cons_zero, List.set_cons_succ, List.getElem_toArray, List.getElem_cons_succ, List.getElem_cons_zero]
 refine wpAnyH_take (i := 1) (v := (.pointer (some ⟨s, 0, .none⟩))) rfl (by kernel_rfl) (by kernel_rfl) (by kernel_rfl) (fun _ _ _ h => h) (Or.inl ⟨by rfl, fun ww hSw => by (try dsimp only at hSw); go_simp⟩) (by assumption) ?_
 simp only [Act.put, List.setIfInBounds_toArray, List.set_cons_zero, List.set_cons_succ, List.getElem_toArray, List.getElem_cons_succ, List.getElem_cons_zero]
 refine wpAnyH_take (i := 2) (v := (.pointer (some ⟨s, 0, .none⟩))) rfl (by kernel_rfl) (by kernel_rfl) (by kernel_rfl) (fun _ _ _ h => h) (Or.inl ⟨by rfl, fun ww hSw => by (try dsimp only at hSw); go_simp⟩) (by assumption) ?_
 simp only [Act.put, List.setIfInBounds_toArray, List.set_cons_zero, List.set_cons_succ, List.getElem_toArray, List.getElem_cons_succ, List.getElem_cons_zero]
 refine wpAnyH_take (i := 3) (v := (.pointer (some ⟨s, 0, .none⟩))) rfl (by kernel_rfl) (by kernel_rfl) (by kernel_rfl) (fun _ _ _ h => h) (Or.inl ⟨by rfl, fun ww hSw => by (try dsimp only at hSw); go_simp⟩) (by assumption) ?_
 simp only [Act.put, List.setIfInBounds_toArray, List.set_cons_zero, List.set_cons_succ, List.getElem_toArray, List.getElem_cons_succ, List.getElem_cons_zero]
 refine wpAnyH_take (i := 4) (v := (.pointer (some ⟨p, 0, .none⟩))) rfl (by kernel_rfl) (by kernel_rfl) (by kernel_rfl) (fun _ _ _ h => h) (Or.inl ⟨by rfl, fun ww hSw => by (try dsimp only at hSw); have q0 := (Below.cell hSw (p := ⟨s, 0, .none⟩) (by simp only; omega)).trans k0; go_simp⟩) (by assumption) ?_
 simp only [Act.put, List.setIfInBounds_toArray, List.set_cons_zero, List.set_cons_succ, List.getElem_toArray, List.getElem_cons_succ, List.getElem_cons_zero]
 refine wpAnyH_take (i := 5) (v := (.pointer (some ⟨s, 0, .none⟩))) rfl (by kernel_rfl) (by kernel_rfl) (by kernel_rfl) (fun _ _ _ h => h) (Or.inl ⟨by rfl, fun ww hSw => by (try dsimp only at hSw); have q0 := (Below.cell hSw (p := ⟨u1, 0, .none⟩) (by simp only; omega)).trans h1; go_simp⟩) (by assumption) ?_
 simp only [Act.put, List.setIfInBounds_toArray, List.set_cons_zero, List.set_cons_succ, List.getElem_toArray, List.getElem_cons_succ, List.getElem_cons_zero]
 refine wpAnyH_take (i := 6) (v := (.pointer (some ⟨s, 0, .none⟩))) rfl (by kernel_rfl) (by kernel_rfl) (by kernel_rfl) (fun _ _ _ h => h) (Or.inl ⟨by rfl, fun ww hSw => by (try dsimp only at hSw); go_simp⟩) (by assumption) ?_
 simp only [Act.put, List.setIfInBounds_toArray, List.set_cons_zero, List.set_cons_succ, List.getElem_toArray, List.getElem_cons_succ, List.getElem_cons_zero]
 refine wpAnyH_take (i := 7) (v := (.pointer (some ⟨s, 0, .none⟩))) rfl (by kernel_rfl) (by kernel_rfl) (by kernel_rfl) (fun _ _ _ h => h) (Or.inl ⟨by rfl, fun ww hSw => by (try dsimp only at hSw); go_simp⟩) (by assumption) ?_
 simp only [Act.put, List.setIfInBounds_toArray, List.set_cons_zero, List.set_cons_succ, List.getElem_toArray, List.getElem_cons_succ, List.getElem_cons_zero]
 refine wpAnyH_take (i := 8) (v := (.pointer (some ⟨s, 1, .none⟩))) rfl (by kernel_rfl) (by kernel_rfl) (by kernel_rfl) (fun _ _ _ h => h) (Or.inl ⟨by rfl, fun ww hSw => by (try dsimp only at hSw); go_simp⟩) (by assumption) ?_
 simp only [Act.put, List.setIfInBounds_toArray, List.set_cons_zero, List.set_cons_succ, List.getElem_toArray, List.getElem_cons_succ, List.getElem_cons_zero]
 refine wpAnyH_take (i := 9) (v := (.int .u64 root)) rfl (by kernel_rfl) (by kernel_rfl) (by kernel_rfl) (fun _ _ _ h => h) (Or.inl ⟨by rfl, fun ww hSw => by (try dsimp only at hSw); have q0 := (Below.cell hSw (p := ⟨s, 1, .none⟩) (by simp only; omega)).trans k1; go_simp⟩) (by assumption) ?_
 simp only [Act.put, List.setIfInBounds_toArray, List.set_cons_zero, List.set_cons_succ, List.getElem_toArray, List.getElem_cons_succ, List.getElem_cons_zero]
 refine wpAnyH_take (i := 10) (v := (.int .u64 va)) rfl (by kernel_rfl) (by kernel_rfl) (by kernel_rfl) (fun _ _ _ h => h) (Or.inl ⟨by rfl, fun ww hSw => by (try dsimp only at hSw); go_simp⟩) (by assumption) ?_
 simp only [Act.put, List.setIfInBounds_toArray, List.set_cons_zero, List.set_cons_succ, List.getElem_toArray, List.getElem_cons_succ, List.getElem_cons_zero]
 refine wpAnyH_take (i := 11) (v := (.int .i64 a)) rfl (by kernel_rfl) (by kernel_rfl) (by kernel_rfl) (fun _ _ _ h => h) (Or.inl ⟨by rfl, fun ww hSw => by (try dsimp only at hSw); have q0 := (Below.cell hSw (p := ⟨u2, 0, .none⟩) (by simp only; omega)).trans h2; go_simp⟩) (by assumption) ?_
 simp only [Act.put, List.setIfInBounds_toArray, List.set_cons_zero, List.set_cons_succ, List.getElem_toArray, List.getElem_cons_succ, List.getElem_cons_zero]
 refine wpAnyH_ready (rs := [12]) (by kernel_rfl) (by simp) ?_
 refine AllReadyH.cons rfl (fun K hK => ?_) AllReadyH.nil
 go_simp
 go_at_call 18
 refine (HC.out _ hHeld).mono ?_
 rintro _ w2 ⟨rfl, b9⟩
 have k9 : Below w.heap.size w w2 := hHeld.trans (b9.mono hHeld.size)
 clear hHeld b9
 refine hK.out _ _ k9 (fun hHeld => ?_)
 clear hK K
 try simp only [Act.put, List.setIfInBounds_toArray, List.set_cons_zero, List.set_cons_succ, List.getElem_toArray, List.getElem_cons_succ, List.getElem_cons_zero]
 refine wpAnyH_take (i := 13) (v := (.int .u64 x)) rfl (by kernel_rfl) (by kernel_rfl) (by kernel_rfl) (fun _ _ _ h => h) (Or.inl ⟨by rfl, fun ww hSw => by (try dsimp only at hSw); go_simp⟩) (by assumption) ?_
 simp only [Act.put, List.setIfInBounds_toArray, List.set_cons_zero, List.set_cons_succ, List.getElem_toArray, List.getElem_cons_succ, List.getElem_cons_zero]
 refine wpAnyH_take (i := 14) (v := (.bool y)) rfl (by kernel_rfl) (by kernel_rfl) (by kernel_rfl) (fun _ _ _ h => h) (Or.inl ⟨by rfl, fun ww hSw => by (try dsimp only at hSw); go_simp⟩) (by assumption) ?_
 simp only [Act.put, List.setIfInBounds_toArray, List.set_cons_zero, List.set_cons_succ, List.getElem_toArray, List.getElem_cons_succ, List.getElem_cons_zero]
 refine wpAnyH_take (i := 15) (v := (.int .u64 x)) rfl (by kernel_rfl) (by kernel_rfl) (by kernel_rfl) (fun _ _ _ h => h) (Or.inl ⟨by rfl, fun ww hSw => by (try dsimp only at hSw); go_simp⟩) (by assumption) ?_
 simp only [Act.put, List.setIfInBounds_toArray, List.set_cons_zero, List.set_cons_succ, List.getElem_toArray, List.getElem_cons_succ, List.getElem_cons_zero]
 refine wpAnyH_take (i := 16) (v := (.bool y)) rfl (by kernel_rfl) (by kernel_rfl) (by kernel_rfl) (fun _ _ _ h => h) (Or.inl ⟨by rfl, fun ww hSw => by (try dsimp only at hSw); go_simp⟩) (by assumption) ?_
 simp only [Act.put, List.setIfInBounds_toArray, List.set_cons_zero, List.set_cons_succ, List.getElem_toArray, List.getElem_cons_succ, List.getElem_cons_zero]
 refine wpAnyH_done (by kernel_rfl) ?_ _
 go_wp2_with fail
 refine bodyPost_ret (v := .tuple #[.int .u64 x, .bool y]) (by simp [results, Tryz.results100, go_sem]) rfl ⟨rfl, hHeld⟩
end Go.Proofs.YtabnipbdbnmmpaaGreatDoor.Rm
namespace Go.Proofs.YtabnipbdbnmmpaaGreatDoor.Rm
open Go Go.RowKit
def pcB (B : Nat → Int) (o n : Nat) : List Value := (List.range n).map fun i => .int .u8 (B (o + i))
theorem pcB_len (B : Nat → Int) (o n : Nat) : (pcB B o n).length = n := by simp [pcB]
def I1P (W : World) (A d2 k n T : Nat) (bs : List Value) (e : Ending) (w' : World) : Prop := e = .returned (.bool true) ∧ ∃ W2 q', Below W.heap.size W W2 ∧ w' = (W2.setCells A k bs).setCell ⟨d2, 0, .none⟩ (.slice q' (T - n : Nat) (T - n : Nat)) ∧ (n < T → q' = some ⟨A, k + n, .none⟩)
set_option maxRecDepth 100000 in
set_option maxHeartbeats 2000000 in
theorem in1_any {W : World} {s p b m N : Nat} {B : Nat → Int} {L : List Nat} {root size : Int} (hS : Sp W s p root size) (hR : Ram W p b m N B L) (q o n : Nat) (hq : q < N ∧ q ∉ L) (hn : 1 ≤ n) (ho : o + n ≤ 4096) (d1 d2 A k T : Nat)
  (h1 : W.cell? ⟨d1, 0, .none⟩ = some (.pointer (some ⟨s, 0, .none⟩))) (h2 : W.cell? ⟨d2, 0, .none⟩ = some (.slice (some ⟨A, k, .none⟩) T T)) (f2 : W.frozen? ⟨d2, 0, .none⟩ = false) (hnT : n ≤ T ∧ T ≤ 9223372036854775807) (hA : ∀ j, j < T → (W.cell? ⟨A, k + j, .none⟩).isSome = true) (fA : ∀ j, j < T → W.frozen? ⟨A, k + j, .none⟩ = false) (hne : d2 ≠ A) :
  Calls Tryz.prog 51 #[.int .u64 (ad q + o), .int .i64 n, .pointer (some ⟨d1, 0, .none⟩), .pointer (some ⟨d2, 0, .none⟩)] W (I1P W A d2 k n T (pcB B (q * 4096 + o) n)) := by
 have k0 := hS.c0
 have hN := hR.mem.n2
 have c55 : Calls Tryz.prog 20 #[.pointer (some ⟨p, 0, .none⟩), .int .u64 (ad q + o), .int .i64 n] W fun e w' => ReadP W n (fun i => B (q * 4096 + o + i)) e w' := by
  have := read_ok hR.mem (q * 4096 + o) n hn (by omega) (fun f e1 e2 => by
   obtain rfl : f = q := by omega
   rw [hdL_in hq.1]
   simpa using hq.2)
  have e : ad q + o = 2147483648 + ((q * 4096 + o : Nat) : Int) := by unfold ad; omega
  rw [e]
  exact this
 clear hS hR
 have hAl : A < W.heap.size := by
  have := hA 0 (by omega)
  obtain ⟨v, hv⟩ := Option.isSome_iff_exists.1 this
  exact lt_of_cell hv
 have hdl := lt_of_cell h2
 simp only at hdl
 go_enter Tryz.func51, Tryz.ntmps51
 go_wp2_with fail
 refine c55.mono ?_
 rintro _ W2 ⟨g, g1, g2, rfl, g3, g4, b2⟩
 clear c55
 have z2 := (b2.cell (p := ⟨d2, 0, .none⟩) hdl).trans h2
 have zf := (b2.frozen (p := ⟨d2, 0, .none⟩) hdl).trans f2
 have hcp : ∀ (X : World) ty, Below W2.heap.size W2 X → (Builtin.copy_ #[24, 24] ty #[.slice (some ⟨A, k, .none⟩) T T, .slice (some ⟨g, 0, .none⟩) n n]).run Tryz.prog X = .ok (.int .i64 n) (X.setCells A k (pcB B (q * 4096 + o) n)) := fun X ty bX => by
  have := run_copy_cells (P := Tryz.prog) X 24 24 ty 5 A k T T ⟨g, 0, .none⟩ n n (pcB B (q * 4096 + o) n) (by kernel_rfl) (by kernel_rfl) (by rw [pcB_len]; exact (Nat.min_eq_left hnT.1).symm) (fun j v hj => ?_) (fun j hj => ?_) (fun j hj => ?_) (fun v hv => ?_)
  ·rw [pcB_len] at this
   exact this
  ·have hjn : j < n := by
    rcases Nat.lt_or_ge j n with h | h
    ·exact h
    ·rw [List.getElem?_eq_none (by rw [pcB_len]; exact h)] at hj
     cases hj
   have e : v = .int .u8 (B (q * 4096 + o + j)) := by
    unfold pcB at hj
    rw [List.getElem?_map, List.getElem?_range hjn] at hj
    simpa using hj.symm
   rw [e]
   have hadd : (⟨g, 0, .none⟩ : Addr).add j = ⟨g, j, .none⟩ := by unfold Addr.add; split <;> simp_all
   rw [hadd]
   exact (bX.cell (p := ⟨g, j, .none⟩) g2).trans (g3 j hjn)
  ·rw [pcB_len] at hj
   rw [bX.cell (p := ⟨A, k + j, .none⟩) (by simp only; have := b2.size; omega), b2.cell (p := ⟨A, k + j, .none⟩) hAl]
   exact hA j (by omega)
  ·rw [pcB_len] at hj
   rw [bX.frozen (p := ⟨A, k + j, .none⟩) (by simp only; have := b2.size; omega), b2.frozen (p := ⟨A, k + j, .none⟩) hAl]
   exact fA j (by omega)
  ·unfold pcB at hv
   obtain ⟨_, _, rfl⟩ := List.mem_map.1 hv
   rfl
 have HCP : Hid (∀ (X : World) ty, Below W2.heap.size W2 X → (Builtin.copy_ #[24, 24] ty #[.slice (some ⟨A, k, .none⟩) T T, .slice (some ⟨g, 0, .none⟩) n n]).run Tryz.prog X = .ok (.int .i64 n) (X.setCells A k (pcB B (q * 4096 + o) n))) := hcp
 have HB2 : Hid (Below W.heap.size W W2) := b2
 clear hcp g1 g2 g3 g4 b2 hA fA h2 f2 h1 k0
 obtain ⟨q', hq'⟩ : ∃ q', q' = if T = n then some (⟨A, k, .none⟩ : Addr) else some ⟨A, k + n, .none⟩ := ⟨_, rfl⟩
 have hsl : ∀ X : World, (Instr.slice 24 (.slice (some ⟨A, k, .none⟩) T T) (some (.int .i64 n)) none none).run Tryz.prog X = .ok (.slice q' (T - n : Nat) (T - n : Nat)) X := fun X => by
  rw [run_slice_l X 24 (some ⟨A, k, .none⟩) T T (by kernel_rfl) .i64 n (by omega) (by omega), elemU8, hq']
  have hadd : (⟨A, k, .none⟩ : Addr).add n = ⟨A, k + n, .none⟩ := by unfold Addr.add; split <;> simp_all
  by_cases e : T = n
  ·simp [Result.andThen, sliced, e]
  ·simp [Result.andThen, sliced, e, hadd]
 have HQ : Hid (n < T → q' = some ⟨A, k + n, .none⟩) := fun h => by rw [hq', if_neg (by omega)]
 clear hq'
 go_upto_region 2 with fail
 have y2 : W2.drew.cell? ⟨d2, 0, .none⟩ = some (.slice (some ⟨A, k, .none⟩) T T) := z2
 have yf : W2.drew.frozen? ⟨d2, 0, .none⟩ = false := zf
 have hc8 := fun ty => HCP.out W2.drew ty (Below.refl _ _).drew
 obtain ⟨X, hX⟩ : ∃ X, X = W2.drew.setCells A k (pcB B (q * 4096 + o) n) := ⟨_, rfl⟩
 rw [← hX] at hc8
 have k8 : X.cell? ⟨d2, 0, .none⟩ = some (.slice (some ⟨A, k, .none⟩) T T) := by rw [hX]; exact (World.cell?_setCells_out A _ k W2.drew ⟨d2, 0, .none⟩ (fun e => absurd e hne)).trans z2
 have k7 : X.frozen? ⟨d2, 0, .none⟩ = false := by rw [hX]; exact (World.frozen?_setCells A _ k W2.drew ⟨d2, 0, .none⟩).trans zf
 have HX : Hid (X = W2.drew.setCells A k (pcB B (q * 4096 + o) n)) := hX
 clear hX z2 zf
 go_region
 all_goals
  go_wp2_with fail
  go_ret
  refine ⟨rfl, W2.drew, q', HB2.out.drew, ?_, HQ.out⟩
  rw [HX.out]
end Go.Proofs.YtabnipbdbnmmpaaGreatDoor.Rm
