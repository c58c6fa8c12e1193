import Derived.Test.YtacdgfojdkppmaaGreatDoorYf
namespace Go.Proofs.YtacdgfojdkppmaaGreatDoor.Rm
open Go.RowKit
set_option linter.unusedVariables false
set_option linter.unusedSimpArgs false
def ndP (n : Int) : Int := if n = 0 then 3 else 4 + (n + 511) / 512
theorem ndP_any (n : Int) (h : 0 ≤ n ∧ n ≤ 4096) (w : World) : Calls Tryz.prog 172 #[.int .i64 n] w fun e w' => e = .returned (.int .i64 (ndP n)) ∧ w' = w := by
 unfold ndP
 by_cases h0 : n = 0
 ·subst h0
  go_enter Tryz.func172, Tryz.ntmps172
  go_wp2
  go_ret
  exact ⟨rfl, rfl⟩
 ·rw [if_neg h0, show n + 511 = n + 512 - 1 by omega]
  have h1 : (n == 0) = false := by simpa using h0
  have h2 : 0 < n := by omega
  go_enter Tryz.func172, Tryz.ntmps172
  go_wp2
  go_ret
  exact ⟨rfl, rfl⟩
/-- The rights that a page may have. -/
def rgt (c : Int) : Prop := c = 8 ∨ c = 2 ∨ c = 10 ∨ c = 6 ∨ c = 14
theorem mayS_any (c : Int) (h : rgt c) (w : World) : Calls Tryz.prog 147 #[.int .u64 c] w fun e w' => e = .returned (.bool true) ∧ w' = w := by
 rcases h with rfl | rfl | rfl | rfl | rfl
 all_goals
  go_enter Tryz.func147, Tryz.ntmps147
  go_wp2
  go_ret
  exact ⟨rfl, rfl⟩
theorem rgt_or {c : Int} (h : rgt c) : bits .or .u64 c 16 = c + 16 ∧ bits .or .u64 (c + 16) 64 = c + 80 ∧ bits .or .u64 (c + 80) 128 = c + 208 := by
 rcases h with rfl | rfl | rfl | rfl | rfl <;> decide
theorem rgt_ok {c : Int} (h : rgt c) : (!ho (c + 208) 18446744073709551361 && ho (c + 208) 10 && (!hs (c + 208) 4 || hs (c + 208) 2)) = true := by
 rcases h with rfl | rfl | rfl | rfl | rfl <;> decide
theorem rgt_leaf {c : Int} (h : rgt c) {f N : Nat} (hf : f < N) (hN : N ≤ 4096) : kd (toP (ad f) (c + 208)) 0 = 2 ∧ 0 ≤ toP (ad f) (c + 208) ∧ toP (ad f) (c + 208) < 18446744073709551616 := by
 have hb := ad_b f N hf hN
 rcases h with rfl | rfl | rfl | rfl | rfl <;> exact leaf_b _ _ ⟨hb.1, hb.2.2, hb.2.1⟩ (by decide) (by decide) (by decide) (by decide)
section
variable {w : World} {s p b m N : Nat} {root size : Int} {B : Nat → Int} {L : List Nat}
theorem each_zero (va : Int) (f g : Value) (w : World) (s : Nat) : Calls Tryz.prog 36 #[.pointer (some ⟨s, 0, .none⟩), .int .u64 va, .int .i64 0, f, g] w fun e w' => e = .returned (.bool true) ∧ w' = w := by
 go_enter Tryz.func36, Tryz.ntmps36
 go_wp2_with fail
 go_loopw [2] (fun k wr => k = .int .i64 0 ∧ wr = w) (fun _ _ => 0)
 case atStart => exact ⟨rfl, rfl⟩
 case round =>
  obtain ⟨rfl, rfl⟩ := hrel
  go_wp2
  go_ret
  exact ⟨rfl, rfl⟩
theorem end_any (h : Sp w s p root size) (hs : 0 ≤ size ∧ size ≤ 1099511627776) : Calls Tryz.prog 35 #[.pointer (some ⟨s, 0, .none⟩)] w fun e w' => e = .returned (.int .u64 ((size + 4095) / 4096 * 4096)) ∧ w' = w := by
 have c77 := pages_sp h hs
 have c76 := addrOf_any ((size + 4095) / 4096) (by omega) w
 clear h
 go_enter Tryz.func35, Tryz.ntmps35
 go_wp2_with first | (go_at_call 77; refine c77.mono ?_; rintro _ w1 ⟨rfl, e1⟩; obtain rfl : w = w1 := e1.symm) | (go_at_call 76; refine c76.mono ?_; rintro _ w1 ⟨rfl, e1⟩; obtain rfl : w = w1 := e1.symm)
 go_ret
 exact ⟨rfl, rfl⟩
set_option maxRecDepth 4000 in
theorem room_any (h : Sp w s p root size) (hR : Ram w p b m N B L) (P : Int) (hP : 0 ≤ P ∧ P < 4096) (hs : size = P * 4096) (hd : 1 + ndP (P + 1) - ndP P ≤ L.length) : Calls Tryz.prog 148 #[.pointer (some ⟨s, 0, .none⟩), .int .i64 (P + 1)] w fun e w' => e = .returned (.bool true) ∧ ∃ k, w' = w.drewN k := by
 have c77 := pages_sp h (by omega)
 rw [show (size + 4095) / 4096 = P by omega] at c77
 have c0 := h.c0
 have c10 := count_ram hR
 have d1 := ndP_any (P + 1) (by omega) w
 have d2 := ndP_any P (by omega) w
 have hl := len_le hR
 have n2 := hR.mem.n2
 have hb : 0 ≤ ndP P ∧ ndP P ≤ 100 ∧ 0 ≤ ndP (P + 1) ∧ ndP (P + 1) ≤ 100 := by unfold ndP; split <;> split <;> omega
 generalize ndP P = u at *
 generalize ndP (P + 1) = v at *
 generalize hg : L.length = g at *
 clear hs h hR hg
 have hd' : P + 1 - P + v - u ≤ (g : Int) := by omega
 clear hd
 go_enter Tryz.func148, Tryz.ntmps148
 go_wp2_with (go_at_call 77; refine c77.mono ?_; rintro _ w1 ⟨rfl, e1⟩; obtain rfl : w = w1 := e1.symm)
 refine d1.mono ?_
 rintro _ w1 ⟨rfl, e1⟩
 obtain rfl : w = w1 := e1.symm
 go_wp2_with (go_at_call 77; refine c77.mono ?_; rintro _ w1 ⟨rfl, e1⟩; obtain rfl : w = w1 := e1.symm)
 refine d2.mono ?_
 rintro _ w1 ⟨rfl, e1⟩
 obtain rfl : w = w1 := e1.symm
 go_wp2_with (go_at_call 10; refine c10.mono ?_; rintro _ w1 ⟨rfl, k1, rfl⟩)
 go_ret
 exact ⟨rfl, k1, rfl⟩
end
end Go.Proofs.YtacdgfojdkppmaaGreatDoor.Rm
namespace Go.Proofs.YtacdgfojdkppmaaGreatDoor.Rm
open Go.RowKit
set_option linter.unusedVariables false
set_option linter.unusedSimpArgs false
section
variable {w : World} {s p b m N : Nat} {root size : Int} {B : Nat → Int} {L : List Nat}
set_option maxHeartbeats 1000000 in
theorem tail_zero (h : Sp w s p root size) (hs : 0 ≤ size ∧ size ≤ 1099511627776) (ha : size % 4096 = 0) : Calls Tryz.prog 149 #[.pointer (some ⟨s, 0, .none⟩)] w fun e w' => e = .returned (.tuple #[]) ∧ Below w.heap.size w w' := by
 obtain ⟨X, hX⟩ : ∃ X, X = w.heap.size := ⟨_, rfl⟩
 obtain ⟨w1, hw1⟩ : ∃ w1, w1 = w.alloc (.cells #[.pointer (some ⟨s, 0, .none⟩)] 32) := ⟨_, rfl⟩
 have b1 : Below w.heap.size w w1 := by rw [hw1]; exact (Below.refl _ _).alloc (Nat.le_refl _) _
 have k1 : w1.cell? ⟨X, 0, .none⟩ = some (.pointer (some ⟨s, 0, .none⟩)) := by rw [hw1, hX]; simp
 have h1 := h.below b1
 have hd : (w1.drew).heap.size = w1.heap.size := rfl
 have bd : Below w1.heap.size w1 w1.drew := (Below.refl _ _).drew
 have h2 := h1.below bd
 have kS : w1.drew.cell? ⟨X, 0, .none⟩ = some (.pointer (some ⟨s, 0, .none⟩)) ∧ w1.drew.cell? ⟨s, 2, .none⟩ = some (.int .u64 size) := ⟨k1, h2.c2⟩
 have c35 := end_any h2 hs
 rw [show (size + 4095) / 4096 * 4096 = size by omega] at c35
 have HB : Hid (Below w.heap.size w w1) := b1
 have e0 : IntKind.u64.wrap (size - size) = 0 := by rw [IntKind.wrap_u64]; omega
 have z0 : IntKind.u64.wrap 0 = 0 := by decide
 have z1 : IntKind.i64.wrap 0 = 0 := by decide
 clear h h1 h2 b1 k1 hd bd ha
 go_enter Tryz.func149, Tryz.ntmps149
 go_upto_region 1 with fail
 rw [← hw1, ← hX]
 have HXX : Hid (X = w.heap.size) := hX
 clear hw1 hX
 refine wp_region_held_drew (S := (fun U => U.cell? ⟨X, 0, .none⟩ = some (.pointer (some ⟨s, 0, .none⟩)) ∧ U.cell? ⟨s, 2, .none⟩ = some (.int .u64 size))) (by kernel_rfl) kS (fun hHeld => ?_)
 refine wpAnyH_take (i := 0) (v := (.pointer (some ⟨s, 0, .none⟩))) rfl (by kernel_rfl) (by kernel_rfl) (by kernel_rfl) (fun _ _ _ h => h) (Or.inl ⟨by rfl, fun ww hSw => by (try dsimp only at hSw); go_simp⟩) (by assumption) ?_
 simp only [Act.put, List.setIfInBounds_toArray, List.set_cons_zero, List.set_cons_succ, List.getElem_toArray, List.getElem_cons_succ, List.getElem_cons_zero]
 refine wpAnyH_take (i := 2) (v := (.pointer (some ⟨s, 0, .none⟩))) rfl (by kernel_rfl) (by kernel_rfl) (by kernel_rfl) (fun _ _ _ h => h) (Or.inl ⟨by rfl, fun ww hSw => by (try dsimp only at hSw); go_simp⟩) (by assumption) ?_
 simp only [Act.put, List.setIfInBounds_toArray, List.set_cons_zero, List.set_cons_succ, List.getElem_toArray, List.getElem_cons_succ, List.getElem_cons_zero]
 refine wpAnyH_take (i := 3) (v := (.pointer (some ⟨s, 0, .none⟩))) rfl (by kernel_rfl) (by kernel_rfl) (by kernel_rfl) (fun _ _ _ h => h) (Or.inl ⟨by rfl, fun ww hSw => by (try dsimp only at hSw); go_simp⟩) (by assumption) ?_
 simp only [Act.put, List.setIfInBounds_toArray, List.set_cons_zero, List.set_cons_succ, List.getElem_toArray, List.getElem_cons_succ, List.getElem_cons_zero]
 refine wpAnyH_take (i := 4) (v := (.pointer (some ⟨s, 2, .none⟩))) rfl (by kernel_rfl) (by kernel_rfl) (by kernel_rfl) (fun _ _ _ h => h) (Or.inl ⟨by rfl, fun ww hSw => by (try dsimp only at hSw); go_simp⟩) (by assumption) ?_
 simp only [Act.put, List.setIfInBounds_toArray, List.set_cons_zero, List.set_cons_succ, List.getElem_toArray, List.getElem_cons_succ, List.getElem_cons_zero]
 refine wpAnyH_take (i := 5) (v := (.int .u64 size)) rfl (by kernel_rfl) (by kernel_rfl) (by kernel_rfl) (fun _ _ _ h => h) (Or.inl ⟨by rfl, fun ww hSw => by (try dsimp only at hSw); go_simp⟩) (by assumption) ?_
 simp only [Act.put, List.setIfInBounds_toArray, List.set_cons_zero, List.set_cons_succ, List.getElem_toArray, List.getElem_cons_succ, List.getElem_cons_zero]
 refine wpAnyH_ready (rs := [1]) (by kernel_rfl) (by simp) ?_
 refine AllReadyH.cons rfl (fun K hK => ?_) AllReadyH.nil
 go_simp
 go_at_call 35
 refine c35.mono ?_
 rintro _ w3 ⟨rfl, e3⟩
 obtain rfl : w1.drew = w3 := e3.symm
 refine hK.out _ _ kS (fun hHeld => ?_)
 clear hK K
 try simp only [Act.put, List.setIfInBounds_toArray, List.set_cons_zero, List.set_cons_succ, List.getElem_toArray, List.getElem_cons_succ, List.getElem_cons_zero]
 refine wpAnyH_take (i := 6) (v := (.int .u64 0)) rfl (by kernel_rfl) (by kernel_rfl) (by kernel_rfl) (fun _ _ _ h => h) (Or.inl ⟨by rfl, fun ww hSw => by (try dsimp only at hSw); go_simp⟩) (by assumption) ?_
 simp only [Act.put, List.setIfInBounds_toArray, List.set_cons_zero, List.set_cons_succ, List.getElem_toArray, List.getElem_cons_succ, List.getElem_cons_zero]
 refine wpAnyH_take (i := 7) (v := (.int .i64 0)) rfl (by kernel_rfl) (by kernel_rfl) (by kernel_rfl) (fun _ _ _ h => h) (Or.inl ⟨by rfl, fun ww hSw => by (try dsimp only at hSw); go_simp⟩) (by assumption) ?_
 simp only [Act.put, List.setIfInBounds_toArray, List.set_cons_zero, List.set_cons_succ, List.getElem_toArray, List.getElem_cons_succ, List.getElem_cons_zero]
 refine wpAnyH_take (i := 8) (v := (.int .i64 0)) rfl (by kernel_rfl) (by kernel_rfl) (by kernel_rfl) (fun _ _ _ h => h) (Or.inl ⟨by rfl, fun ww hSw => by (try dsimp only at hSw); go_simp⟩) (by assumption) ?_
 simp only [Act.put, List.setIfInBounds_toArray, List.set_cons_zero, List.set_cons_succ, List.getElem_toArray, List.getElem_cons_succ, List.getElem_cons_zero]
 refine wpAnyH_done (by kernel_rfl) ?_ _
 have kS2 : w1.drew.drew.cell? ⟨X, 0, .none⟩ = some (.pointer (some ⟨s, 0, .none⟩)) ∧ w1.drew.drew.cell? ⟨s, 2, .none⟩ = some (.int .u64 size) := kS
 go_upto_region 2 with fail
 refine wp_region_held_drew (S := (fun U => U.cell? ⟨X, 0, .none⟩ = some (.pointer (some ⟨s, 0, .none⟩)) ∧ U.cell? ⟨s, 2, .none⟩ = some (.int .u64 size))) (by kernel_rfl) kS2 (fun hHeld => ?_)
 refine wpAnyH_take (i := 0) (v := (.pointer (some ⟨s, 0, .none⟩))) rfl (by kernel_rfl) (by kernel_rfl) (by kernel_rfl) (fun _ _ _ h => h) (Or.inl ⟨by rfl, fun ww hSw => by (try dsimp only at hSw); go_simp⟩) (by assumption) ?_
 simp only [Act.put, List.setIfInBounds_toArray, List.set_cons_zero, List.set_cons_succ, List.getElem_toArray, List.getElem_cons_succ, List.getElem_cons_zero]
 refine wpAnyH_take (i := 1) (v := (.pointer (some ⟨s, 0, .none⟩))) rfl (by kernel_rfl) (by kernel_rfl) (by kernel_rfl) (fun _ _ _ h => h) (Or.inl ⟨by rfl, fun ww hSw => by (try dsimp only at hSw); go_simp⟩) (by assumption) ?_
 simp only [Act.put, List.setIfInBounds_toArray, List.set_cons_zero, List.set_cons_succ, List.getElem_toArray, List.getElem_cons_succ, List.getElem_cons_zero]
 refine wpAnyH_take (i := 2) (v := (.pointer (some ⟨s, 0, .none⟩))) rfl (by kernel_rfl) (by kernel_rfl) (by kernel_rfl) (fun _ _ _ h => h) (Or.inl ⟨by rfl, fun ww hSw => by (try dsimp only at hSw); go_simp⟩) (by assumption) ?_
 simp only [Act.put, List.setIfInBounds_toArray, List.set_cons_zero, List.set_cons_succ, List.getElem_toArray, List.getElem_cons_succ, List.getElem_cons_zero]
 refine wpAnyH_take (i := 3) (v := (.pointer (some ⟨s, 2, .none⟩))) rfl (by kernel_rfl) (by kernel_rfl) (by kernel_rfl) (fun _ _ _ h => h) (Or.inl ⟨by rfl, fun ww hSw => by (try dsimp only at hSw); go_simp⟩) (by assumption) ?_
 simp only [Act.put, List.setIfInBounds_toArray, List.set_cons_zero, List.set_cons_succ, List.getElem_toArray, List.getElem_cons_succ, List.getElem_cons_zero]
 refine wpAnyH_take (i := 4) (v := (.int .u64 size)) rfl (by kernel_rfl) (by kernel_rfl) (by kernel_rfl) (fun _ _ _ h => h) (Or.inl ⟨by rfl, fun ww hSw => by (try dsimp only at hSw); go_simp⟩) (by assumption) ?_
 simp only [Act.put, List.setIfInBounds_toArray, List.set_cons_zero, List.set_cons_succ, List.getElem_toArray, List.getElem_cons_succ, List.getElem_cons_zero]
 refine wpAnyH_take (i := 5) (v := (.int .i64 0)) rfl (by kernel_rfl) (by kernel_rfl) (by kernel_rfl) (fun _ _ _ h => h) (Or.inl ⟨by rfl, fun ww hSw => by (try dsimp only at hSw); go_simp⟩) (by assumption) ?_
 simp only [Act.put, List.setIfInBounds_toArray, List.set_cons_zero, List.set_cons_succ, List.getElem_toArray, List.getElem_cons_succ, List.getElem_cons_zero]
 refine wpAnyH_take (i := 6) (v := (.pointer (some ⟨s, 0, .none⟩))) rfl (by kernel_rfl) (by kernel_rfl) (by kernel_rfl) (fun _ _ _ h => h) (Or.inl ⟨by rfl, fun ww hSw => by (try dsimp only at hSw); go_simp⟩) (by assumption) ?_
 simp only [Act.put, List.setIfInBounds_toArray, List.set_cons_zero, List.set_cons_succ, List.getElem_toArray, List.getElem_cons_succ, List.getElem_cons_zero]
 refine wpAnyH_take (i := 7) (v := (.func (.func 111) #[.pointer (some ⟨s, 0, .none⟩)] #[])) rfl (by kernel_rfl) (by kernel_rfl) (by kernel_rfl) (fun _ _ _ h => h) (Or.inl ⟨by rfl, fun ww hSw => by (try dsimp only at hSw); go_simp⟩) (by assumption) ?_
 simp only [Act.put, List.setIfInBounds_toArray, List.set_cons_zero, List.set_cons_succ, List.getElem_toArray, List.getElem_cons_succ, List.getElem_cons_zero]
 refine wpAnyH_take (i := 8) (v := (.func (.func 173) #[] #[.pointer (some ⟨X, 0, .none⟩)])) rfl (by kernel_rfl) (by kernel_rfl) (by kernel_rfl) (fun _ _ _ h => h) (Or.inl ⟨by rfl, fun ww hSw => by (try dsimp only at hSw); go_simp⟩) (by assumption) ?_
 simp only [Act.put, List.setIfInBounds_toArray, List.set_cons_zero, List.set_cons_succ, List.getElem_toArray, List.getElem_cons_succ, List.getElem_cons_zero]
 refine wpAnyH_ready (rs := [9]) (by kernel_rfl) (by simp) ?_
 refine AllReadyH.cons rfl (fun K hK => ?_) AllReadyH.nil
 go_simp
 go_at_call 36
 refine (each_zero _ _ _ _ _).mono ?_
 rintro _ w3 ⟨rfl, e3⟩
 obtain rfl : w1.drew.drew = w3 := e3.symm
 refine hK.out _ _ kS2 (fun hHeld => ?_)
 clear hK K
 try simp only [Act.put, List.setIfInBounds_toArray, List.set_cons_zero, List.set_cons_succ, List.getElem_toArray, List.getElem_cons_succ, List.getElem_cons_zero]
 refine wpAnyH_done (by kernel_rfl) ?_ _
 go_wp2_with fail
 refine bodyPost_end (v := .tuple #[]) (by simp [results, Tryz.results149, go_sem]) rfl ⟨rfl, HB.out.drew.drew⟩
end
end Go.Proofs.YtacdgfojdkppmaaGreatDoor.Rm
namespace Go.Proofs.YtacdgfojdkppmaaGreatDoor.Rm
open Go.RowKit
set_option linter.unusedVariables false
set_option linter.unusedSimpArgs false
/-- What Grow by a page comes to. -/
def GrP (w : World) (s p b m N : Nat) (B : Nat → Int) (f : Nat) (L1 : List Nat) (F : Nat → Option Nat) (lf : Nat → Nat → Int) (r : Nat) (P c : Int) (w' : World) : Prop :=
 Sp w' s p (ad r) ((P + 1) * 4096) ∧ (∃ B' L' F', LP N (P * 4096) (toP (ad f) (c + 208)) L1 (zer B f) F lf L' B' F' ∧ L1 = L1.take (need F (P * 4096)) ++ L' ∧ Ram w' p b m N B' L') ∧
 w.heap.size ≤ w'.heap.size ∧ w'.os = w.os ∧ w'.tape = w.tape ∧ w'.output = w.output ∧ ∀ k, k < w.heap.size → k ≠ p → k ≠ b → k ≠ m → k ≠ s → w'.heap[k]? = w.heap[k]?
def G1 (w : World) (s p b m N : Nat) (B : Nat → Int) (f : Nat) (L1 : List Nat) (F : Nat → Option Nat) (lf : Nat → Nat → Int) (r : Nat) (P c : Int) (w' : World) : Prop :=
 Sp w' s p (ad r) (P * 4096) ∧ Fra p b m w w' ∧ ∃ B' L' F', LP N (P * 4096) (toP (ad f) (c + 208)) L1 (zer B f) F lf L' B' F' ∧ L1 = L1.take (need F (P * 4096)) ++ L' ∧ Ram w' p b m N B' L'
section
variable {w : World} {s p b m N : Nat} {B : Nat → Int} {F : Nat → Option Nat} {lf : Nat → Nat → Int}
set_option maxRecDepth 4000 in
set_option maxHeartbeats 2000000 in
theorem grow_pt {f r : Nat} {L1 : List Nat} {P c : Int} (hS : Sp w s p (ad r) (P * 4096)) (h : Ram w p b m N B (f :: L1)) (hP : PT N (f :: L1) B F lf) (hr : F 0 = some r) (hne : s ≠ p ∧ s ≠ b ∧ s ≠ m) (hPb : 0 ≤ P ∧ P < 4096) (hc : rgt c)
  (hz : lf (y0 (P * 4096)) (i0 (P * 4096)) = 0) (hn : need F (P * 4096) ≤ L1.length) (hd : 1 + ndP (P + 1) - ndP P ≤ (f :: L1).length) :
  Calls Tryz.prog 108 #[.pointer (some ⟨s, 0, .none⟩), .int .u64 ((P + 1) * 4096), .int .u64 c] w fun e w' => e = .returned (.int .i64 0) ∧ GrP w s p b m N B f L1 F lf r P c w' := by
 have hN := h.mem.n2
 have hf := h.lt f (List.mem_cons_self ..)
 have hcb : 0 ≤ c ∧ c < 16 := by rcases hc with rfl | rfl | rfl | rfl | rfl <;> omega
 obtain ⟨o1, o2, o3⟩ := rgt_or hc
 have c33 := fun W (hW : Sp W s p (ad r) (P * 4096)) => made_sp hW
 have c147 := fun W => mayS_any c hc W
 have c119 := fun W => pagesOf_any ((P + 1) * 4096) (by omega) W
 rw [show ((P + 1) * 4096 + 4095) / 4096 = P + 1 by omega] at c119
 have c77 := fun W (hW : Sp W s p (ad r) (P * 4096)) => pages_sp hW (by omega)
 rw [show (P * 4096 + 4095) / 4096 = P by omega] at c77
 have c148 := room_any hS h P hPb rfl hd
 have H0 : Hid (Sp w s p (ad r) (P * 4096) ∧ Ram w p b m N B (f :: L1) ∧ PT N (f :: L1) B F lf ∧ F 0 = some r) := ⟨hS, h, hP, hr⟩
 have HC : Hid (rgt c ∧ f < N ∧ N ≤ 4096) := ⟨hc, hf.2, hN⟩
 have k2 := hS.c2
 have k0 := hS.c0
 have k1 := hS.c1
 have hlt := hS.lt
 clear hS h hP hr hd hc hf
 go_enter Tryz.func108, Tryz.ntmps108
 go_upto_region 7 with first | (go_at_call 33; refine (c33 _ H0.out.1).mono ?_; rintro _ w1 ⟨rfl, e1⟩; obtain rfl : w = w1 := e1.symm) | (go_at_call 147; refine (c147 _).mono ?_; rintro _ w1 ⟨rfl, e1⟩; obtain rfl : w = w1 := e1.symm)
 go_upto_region 9 with first | (go_at_call 119; refine (c119 _).mono ?_; rintro _ w1 ⟨rfl, e1⟩; obtain rfl : w = w1 := e1.symm) | (go_at_call 148; refine c148.mono ?_; rintro _ w1 ⟨rfl, k3, rfl⟩)
 obtain ⟨wa, hwa⟩ : ∃ wa, wa = w.drewN k3 := ⟨_, rfl⟩
 have ba : Below w.heap.size w wa := by rw [hwa]; exact below_dr w k3
 rw [← hwa]
 clear hwa k2 k0 k1
 have Sa := H0.out.1.below ba
 have HA : Hid (Below w.heap.size w wa) := ba
 have k2 := Sa.c2
 have c149 := tail_zero Sa (by omega) (by omega)
 have hgt : P < P + 1 := by omega
 clear ba
 go_upto_region 11 with (go_at_call 149; refine c149.mono ?_; rintro _ wb ⟨rfl, b2⟩; have HBb : Hid (Below w.heap.size w wb) := HA.out.trans (b2.mono HA.out.size); clear b2 c149)
 have Sb := H0.out.1.below HBb.out
 have d77 := c77 wb Sb
 clear Sb Sa k2 HA
 go_wp2_with (go_at_call 77; refine d77.mono ?_; rintro _ w1 ⟨rfl, e1⟩; obtain rfl : wb = w1 := e1.symm)
 go_loopw [7] (fun k wr => (k = .int .i64 P ∧ Hid (Below w.heap.size w wr)) ∨ (k = .int .i64 (P + 1) ∧ Hid (G1 w s p b m N B f L1 F lf r P c wr))) (fun k _ => (P + 1 - intOf k).toNat)
 case atStart => exact .inl ⟨rfl, HBb.out⟩
 case round =>
  rcases hrel with ⟨rfl, HB⟩ | ⟨rfl, HG⟩
  ·have Sr := H0.out.1.below HB.out
   have k0 := Sr.c0
   have k1 := Sr.c1
   have k2 := Sr.c2
   have c150 := lay_pt (H0.out.2.1.below HB.out) H0.out.2.2.1 H0.out.2.2.2 P (c + 208) (by omega) (rgt_ok HC.out.1) (rgt_leaf HC.out.1 HC.out.2.1 HC.out.2.2) hz hn
   unfold LayP at c150
   have HSr : Hid (Sp wr s p (ad r) (P * 4096)) := Sr
   clear Sr
   go_wp2_with first | (go_at_call 119; refine (c119 _).mono ?_; rintro _ w1 ⟨rfl, e1⟩; obtain rfl : wr = w1 := e1.symm) | (go_at_call 150; refine c150.mono ?_; rintro _ w2 ⟨rfl, B', L', F', R, e1, r2, f2⟩; have HG : Hid (G1 w s p b m N B f L1 F lf r P c w2) := ⟨HSr.out.fra f2 hne.1 hne.2.1 hne.2.2, (Fra.below HB.out).trans f2, B', L', F', R, e1, r2⟩; clear R e1 r2 f2 c150)
   exact ⟨.inr ⟨rfl, HG⟩, by simp only [intOf]; omega⟩
  ·have k2 := HG.out.1.c2
   have kf := HG.out.1.fr 2
   go_wp2_with (go_at_call 119; refine (c119 _).mono ?_; rintro _ w1 ⟨rfl, e1⟩; obtain rfl : wr = w1 := e1.symm)
   go_ret
   refine ⟨rfl, ?_⟩
   obtain ⟨g1, g2, B', L', F', g3, g4, g5⟩ := HG.out
   refine ⟨⟨(World.cell?_setCell_other _ _ _ _ (by simp)).trans g1.c0, (World.cell?_setCell_other _ _ _ _ (by simp)).trans g1.c1, World.cell?_setCell_same' _ _ _ (by rw [g1.c2]; rfl), fun k => by rw [World.frozen?_setCell]; exact g1.fr k⟩, ⟨B', L', F', g3, g4, ?_⟩, ?_, g2.os, g2.tape, g2.output, fun k hk h1 h2 h3 h4 => ?_⟩
   ·exact g5.beside ⟨s, 2, .none⟩ _ (fun e => hne.1 e.symm) (fun e => hne.2.1 e.symm) (fun e => hne.2.2 e.symm)
   ·simpa [World.setCell] using g2.size
   ·exact (Below.heap_setCell _ _ _ _ (fun e => h4 e)).trans (g2.block k hk h1 h2 h3)
end
end Go.Proofs.YtacdgfojdkppmaaGreatDoor.Rm
namespace Go.Proofs.YtacdgfojdkppmaaGreatDoor.Rm
open Go.RowKit
set_option linter.unusedVariables false
set_option linter.unusedSimpArgs false
section
variable {w : World} {s p b m N : Nat} {B : Nat → Int} {L : List Nat} {F : Nat → Option Nat} {lf : Nat → Nat → Int}
theorem write_pg (h : Ram w p b m N B L) (q o n : Nat) (hq : q < N ∧ q ∉ L) (hn : 1 ≤ n) (ho : o + n ≤ 4096) (g k c : Nat) (R : Nat → Int) (hR : ∀ i, 0 ≤ R i ∧ R i < 256) (hg : ∀ i, i < n → w.cell? ⟨g, k + i, .none⟩ = some (.int .u8 (R i))) :
  Calls Tryz.prog 92 #[.pointer (some ⟨p, 0, .none⟩), .int .u64 (ad q + o), .slice (some ⟨g, k, .none⟩) n c] w fun e w' => e = .returned (.bool true) ∧ Ram w' p b m N (over B (q * 4096 + o) ((List.range n).map R)) L ∧ Fra p b m w w' := by
 have hc := write_ok h.mem (q * 4096 + o) n hn (by omega) (fun f h1 h2 => by
  have : f = q := by omega
  rw [this, hdL_in hq.1]
  simp [hq.2]) g k c R hR hg
 rw [show (2147483648 + ((q * 4096 + o : Nat) : Int)) = ad q + o by unfold ad; omega] at hc
 refine hc.mono fun e w' ⟨h1, h2, h3⟩ => ⟨h1, h.laid h2 (fun j hj => ?_), h3⟩
 have hjq : j ≠ q := fun e => hq.2 (e ▸ hj)
 simp only [List.length_map, List.length_range]
 rcases Nat.lt_or_gt_of_ne hjq with h | h <;> omega
theorem ext_low (va : Int) (h : 0 ≤ va ∧ va < 274877906944) : ext va = va := by unfold ext; rw [if_pos (by omega)]; omega
/-- The leaf of a page that a table has. -/
theorem leaf_pt (hP : PT N L B F lf) (hN : N ≤ 4096) {r g1 q1 : Nat} (hr : F 0 = some r) (va : Int) (hv : 0 ≤ va ∧ va < 274877906944) (h1 : F (y1 va) = some g1) (h0 : F (y0 va) = some q1) (hk : kd (lf (y0 va) (i0 va)) 0 = 2) :
  (if finds (look N L B (ad r) va) va = true then (look N L B (ad r) va).e else 0) = lf (y0 va) (i0 va) := by
 rw [look_0 hP hN hr va h1 h0]
 have : finds ⟨st (ad q1) va 0, st (ad g1) va 1, st (ad r) va 2, 0, lf (y0 va) (i0 va), kd (lf (y0 va) (i0 va)) 0⟩ va = true := by
  unfold finds
  rw [ext_low va hv]
  simp [hk]
 rw [if_pos this]
/-- A page is there: its way, its leaf, its frame. -/
structure Pag (N : Nat) (L : List Nat) (F : Nat → Option Nat) (lf : Nat → Nat → Int) (va : Int) (q : Nat) (c : Int) : Prop where
 w1 : ∃ g, F (y1 va) = some g
 w0 : ∃ g, F (y0 va) = some g
 l : lf (y0 va) (i0 va) = toP (ad q) c
 k : kd (toP (ad q) c) 0 = 2
 cb : 0 ≤ c ∧ c < 256 ∧ c % 2 = 0
 qb : q < N ∧ q ∉ L
 nn : ∀ x, F x ≠ some q
theorem Pag.val {va : Int} {q : Nat} {c : Int} (h : Pag N L F lf va q c) (hN : N ≤ 4096) : toP (ad q) c = ad q / 4096 * 1024 + c + 1 := by
 have hb := ad_b q N h.qb.1 hN
 exact toP_val _ _ ⟨hb.1, hb.2.1⟩ (by have := h.cb; omega) h.cb.2.2
theorem kern_pt {r q : Nat} {size c : Int} (hS : Sp w s p (ad r) size) (h : Ram w p b m N B L) (hP : PT N L B F lf) (hr : F 0 = some r) (va : Int) (hv : 0 ≤ va ∧ va < 274877906944) (hq : Pag N L F lf va q c) :
  Calls Tryz.prog 111 #[.pointer (some ⟨s, 0, .none⟩), .int .u64 va] w fun e w' => e = .returned (.tuple #[.int .u64 (ad q + va % 4096), .bool true]) ∧ Below w.heap.size w w' := by
 have hN := h.mem.n2
 have hb := ad_b q N hq.qb.1 hN
 have hrb := ad_b r N (hP.held 0 r hr).2.1 hN
 obtain ⟨g1, e1⟩ := hq.w1
 obtain ⟨g0, e0⟩ := hq.w0
 have c151 := leaf_any h (ad r) va ⟨hrb.1, by omega⟩ (by omega)
 rw [leaf_pt hP hN hr va hv e1 e0 (by rw [hq.l]; exact hq.k), hq.l] at c151
 have hval := hq.val hN
 have hcc := hq.cb
 have hbd : 0 ≤ toP (ad q) c ∧ toP (ad q) c < 18014398509481984 := by rw [hval]; omega
 have hfr : toP (ad q) c / 1024 * 4096 = ad q := by rw [hval]; omega
 have hnz : (toP (ad q) c != 0) = true := by
  have : toP (ad q) c ≠ 0 := by rw [hval]; omega
  simpa using this
 have c152 := fun W => frameOf_any (toP (ad q) c) hbd W
 rw [hfr] at c152
 have hwr : IntKind.u64.wrap (ad q + va % 4096) = ad q + va % 4096 := by rw [IntKind.wrap_u64]; omega
 have k0 := hS.c0
 have k1 := hS.c1
 generalize toP (ad q) c = tp at *
 clear h hP hq hval hfr hS e1 e0
 go_enter Tryz.func111, Tryz.ntmps111
 go_wp2_with first | (go_at_call 151; refine c151.mono ?_; rintro _ w1 ⟨rfl, b1⟩) | (go_at_call 152; refine (c152 _).mono ?_; rintro _ w2 ⟨rfl, e2⟩; obtain rfl : w1 = w2 := e2.symm)
 refine bodyPost_ret (v := .tuple #[.int .u64 (ad q + va % 4096), .bool true]) (by simp [results, Tryz.results111, go_sem]) rfl ⟨rfl, b1⟩
end
end Go.Proofs.YtacdgfojdkppmaaGreatDoor.Rm
