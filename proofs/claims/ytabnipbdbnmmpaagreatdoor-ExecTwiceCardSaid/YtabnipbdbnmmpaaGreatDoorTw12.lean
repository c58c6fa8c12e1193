import Derived.Test.YtabnipbdbnmmpaaGreatDoorTw11
set_option linter.unusedVariables false
set_option linter.unusedSimpArgs false
namespace Go.Proofs.YtabnipbdbnmmpaaGreatDoor.Rm
open Go.RowKit
def LayP (w : World) (p b m N : Nat) (B : Nat → Int) (f : Nat) (L1 : List Nat) (F : Nat → Option Nat) (lf : Nat → Nat → Int) (pg perm : Int) (e : Ending) (w' : World) : Prop := e = .returned (.int .u64 (ad f)) ∧ ∃ B' L' F', LP N (pg * 4096) (toP (ad f) perm) L1 (zer B f) F lf L' B' F' ∧ L1 = L1.take (needY F (pg * 4096)) ++ L' ∧ Ram w' p b m N B' L' ∧ Fra p b m w w'
section
variable {w : World} {p b m N : Nat} {B : Nat → Int} {F : Nat → Option Nat} {lf : Nat → Nat → Int}
theorem PT.zero {f : Nat} {L1 : List Nat} (h : PT N (f :: L1) B F lf) : PT N L1 (zer B f) F lf := by
 have hfn : ∀ x q, F x = some q → q ≠ f := fun x q hx e => (h.held x q hx).2.2 (by rw [e]; exact List.mem_cons_self ..)
 exact h.keep (fun x q hx k hk => zer_out _ _ _ (by rcases Nat.lt_or_gt_of_ne (hfn x q hx) with h | h <;> omega)) (fun x q hx hm => (h.held x q hx).2.2 (List.mem_cons_of_mem _ hm))
set_option maxHeartbeats 1000000 in
theorem lay_pt {f : Nat} {L1 : List Nat} (h : Ram w p b m N B (f :: L1)) (hP : PT N (f :: L1) B F lf) {r : Nat} (hr : F 0 = some r) (pg perm : Int) (hpg : 0 ≤ pg ∧ pg < 67108864)
  (hmp : (!ho perm 18446744073709551361 && ho perm 10 && (!hs perm 4 || hs perm 2)) = true) (hk : kd (toP (ad f) perm) 0 = 2 ∧ 0 ≤ toP (ad f) perm ∧ toP (ad f) perm < 18446744073709551616) (hz : lf (y0 (pg * 4096)) (i0 (pg * 4096)) = 0) (hn : needY F (pg * 4096) ≤ L1.length) :
  Calls Tryz.prog 184 #[.agg #[.pointer (some ⟨p, 0, .none⟩), .int .u64 (ad r)], .int .i64 pg, .int .u64 perm] w (LayP w p b m N B f L1 F lf pg perm) := by
 have hN := h.mem.n2
 have hf := h.lt f (List.mem_cons_self ..)
 have hfb := ad_b f N hf.2 hN
 obtain ⟨X, hX⟩ : ∃ X, X = w.heap.size := ⟨_, rfl⟩
 obtain ⟨w1, hw1⟩ : ∃ w1, w1 = w.alloc (.cells #[.pointer (some ⟨p, 0, .none⟩), .int .u64 (ad r)] 105) := ⟨_, rfl⟩
 have b1 : Below w.heap.size w w1 := by rw [hw1]; exact (Below.refl _ _).alloc (Nat.le_refl _) _
 have k1 : C2w w1 X (.pointer (some ⟨p, 0, .none⟩)) (.int .u64 (ad r)) := by
  rw [hw1, hX]
  exact ⟨by simp, by simp, fun k => World.frozen?_alloc_new _ _ _ _⟩
 have hp : p < X := by rw [hX]; exact lt_of_cell h.mem.c0
 have hb : b < X := by rw [hX]; exact lt_of_cell (h.mem.cb 0 (by have := h.mem.n1; omega))
 have hm : m < X := by rw [hX]; exact h.mem.mlt
 have c17 := alloc_some f (h.below b1)
 have HW : Hid (Below w.heap.size w w1 ∧ C2w w1 X (.pointer (some ⟨p, 0, .none⟩)) (.int .u64 (ad r))) := ⟨b1, k1⟩
 have HP : Hid (PT N L1 (zer B f) F lf ∧ F 0 = some r) := ⟨hP.zero, hr⟩
 have kc0 := k1.a
 have kc1 := k1.b
 clear h hP b1 k1 hr
 go_enter Tryz.func184, Tryz.ntmps184
 go_upto_region 1 with fail
 rw [← hw1, ← hX]
 have HXX : Hid (X = w.heap.size) := hX
 clear hw1 hX
 go_upto_region 2 with (go_at_call 9; refine c17.mono ?_; rintro _ w2 ⟨rfl, r2, f2⟩; have H2 : Hid (Ram w2 p b m N (zer B f) L1 ∧ Fra p b m w1 w2) := ⟨r2, f2⟩; clear r2 f2 c17)
 have k2 := HW.out.2.fra H2.out.2 (by omega) (by omega) (by omega)
 have kS : w2.drew.cell? ⟨X, 0, .none⟩ = some (.pointer (some ⟨p, 0, .none⟩)) ∧ w2.drew.cell? ⟨X, 1, .none⟩ = some (.int .u64 (ad r)) := ⟨k2.a, k2.b⟩
 have had : (2147483648 + (f : Int) * 4096) = ad f := rfl
 rw [had]
 clear kc0 kc1 had
 refine wp_region_held_drew (S := (fun U => U.cell? ⟨X, 0, .none⟩ = some (.pointer (some ⟨p, 0, .none⟩)) ∧ U.cell? ⟨X, 1, .none⟩ = some (.int .u64 (ad r)))) (by kernel_rfl) kS (fun hHeld => ?_)
 refine wpAnyH_take (i := 0) (v := (.pointer (some ⟨X, 0, .none⟩))) rfl (by kernel_rfl) (by kernel_rfl) (by kernel_rfl) (fun _ _ _ h => h) (Or.inl ⟨by rfl, fun ww hSw => by (try dsimp only at hSw); go_simp⟩) (by assumption) ?_
 simp only [Act.put, List.setIfInBounds_toArray, List.set_cons_zero, List.set_cons_succ, List.getElem_toArray, List.getElem_cons_succ, List.getElem_cons_zero]
 refine wpAnyH_take (i := 1) (v := (.pointer (some ⟨p, 0, .none⟩))) rfl (by kernel_rfl) (by kernel_rfl) (by kernel_rfl) (fun _ _ _ h => h) (Or.inl ⟨by rfl, fun ww hSw => by (try dsimp only at hSw); go_simp⟩) (by assumption) ?_
 simp only [Act.put, List.setIfInBounds_toArray, List.set_cons_zero, List.set_cons_succ, List.getElem_toArray, List.getElem_cons_succ, List.getElem_cons_zero]
 refine wpAnyH_take (i := 2) (v := (.pointer (some ⟨X, 1, .none⟩))) rfl (by kernel_rfl) (by kernel_rfl) (by kernel_rfl) (fun _ _ _ h => h) (Or.inl ⟨by rfl, fun ww hSw => by (try dsimp only at hSw); go_simp⟩) (by assumption) ?_
 simp only [Act.put, List.setIfInBounds_toArray, List.set_cons_zero, List.set_cons_succ, List.getElem_toArray, List.getElem_cons_succ, List.getElem_cons_zero]
 refine wpAnyH_take (i := 3) (v := (.int .u64 (ad r))) rfl (by kernel_rfl) (by kernel_rfl) (by kernel_rfl) (fun _ _ _ h => h) (Or.inl ⟨by rfl, fun ww hSw => by (try dsimp only at hSw); go_simp⟩) (by assumption) ?_
 simp only [Act.put, List.setIfInBounds_toArray, List.set_cons_zero, List.set_cons_succ, List.getElem_toArray, List.getElem_cons_succ, List.getElem_cons_zero]
 refine wpAnyH_take (i := 4) (v := (.int .i64 pg)) rfl (by kernel_rfl) (by kernel_rfl) (by kernel_rfl) (fun _ _ _ h => h) (Or.inl ⟨by rfl, fun ww hSw => by (try dsimp only at hSw); go_simp⟩) (by assumption) ?_
 simp only [Act.put, List.setIfInBounds_toArray, List.set_cons_zero, List.set_cons_succ, List.getElem_toArray, List.getElem_cons_succ, List.getElem_cons_zero]
 refine wpAnyH_take (i := 6) (v := (.int .u64 (ad f))) rfl (by kernel_rfl) (by kernel_rfl) (by kernel_rfl) (fun _ _ _ h => h) (Or.inl ⟨by rfl, fun ww hSw => by (try dsimp only at hSw); go_simp⟩) (by assumption) ?_
 simp only [Act.put, List.setIfInBounds_toArray, List.set_cons_zero, List.set_cons_succ, List.getElem_toArray, List.getElem_cons_succ, List.getElem_cons_zero]
 refine wpAnyH_take (i := 7) (v := (.int .u64 perm)) rfl (by kernel_rfl) (by kernel_rfl) (by kernel_rfl) (fun _ _ _ h => h) (Or.inl ⟨by rfl, fun ww hSw => by (try dsimp only at hSw); go_simp⟩) (by assumption) ?_
 simp only [Act.put, List.setIfInBounds_toArray, List.set_cons_zero, List.set_cons_succ, List.getElem_toArray, List.getElem_cons_succ, List.getElem_cons_zero]
 refine wpAnyH_ready (rs := [5]) (by kernel_rfl) (by simp) ?_
 refine AllReadyH.cons rfl (fun K hK => ?_) AllReadyH.nil
 go_simp
 go_at_call 98
 refine (addrOf_any pg (by omega) _).mono ?_
 rintro _ w3 ⟨rfl, e3⟩
 obtain rfl : w2.drew = w3 := e3.symm
 refine hK.out _ _ kS (fun hHeld => ?_)
 clear hK K
 try simp only [Act.put, List.setIfInBounds_toArray, List.set_cons_zero, List.set_cons_succ, List.getElem_toArray, List.getElem_cons_succ, List.getElem_cons_zero]
 refine wpAnyH_ready (rs := [8]) (by kernel_rfl) (by simp) ?_
 refine AllReadyH.cons rfl (fun K hK => ?_) AllReadyH.nil
 have c1 := map_pt (w := w2.drew) H2.out.1.drew HP.out.1 HP.out.2 (pg * 4096) (ad f) perm (by omega) (by omega) ⟨hfb.1, hfb.2.2, hfb.2.1⟩ hmp hk hz hn
 go_simp
 go_at_call 145
 refine c1.mono ?_
 rintro _ w3 ⟨rfl, B', L', F', R, e1, r3, f3⟩
 have H3 : Hid (LP N (pg * 4096) (toP (ad f) perm) L1 (zer B f) F lf L' B' F' ∧ L1 = L1.take (needY F (pg * 4096)) ++ L' ∧ Ram w3 p b m N B' L' ∧ Fra p b m w w3) := ⟨R, e1, r3, (Fra.below HW.out.1).trans (H2.out.2.trans ((Fra.below (Below.refl _ _).drew).trans f3))⟩
 have k3 := k2.fra ((Fra.below (Below.refl _ _).drew).trans f3) (by omega) (by omega) (by omega)
 clear R e1 r3 f3 c1
 refine hK.out _ _ ⟨k3.a, k3.b⟩ (fun hHeld => ?_)
 clear hK K
 try simp only [Act.put, List.setIfInBounds_toArray, List.set_cons_zero, List.set_cons_succ, List.getElem_toArray, List.getElem_cons_succ, List.getElem_cons_zero]
 refine wpAnyH_done (by kernel_rfl) ?_ _
 go_wp2_with fail
 go_ret
 exact ⟨rfl, B', L', F', H3.out⟩
end
end Go.Proofs.YtabnipbdbnmmpaaGreatDoor.Rm
namespace Go.Proofs.YtabnipbdbnmmpaaGreatDoor.Rm
open Go.RowKit
def ndP (n : Int) : Int := if n = 0 then 3 else 4 + (n + 511) / 512
theorem ndP_any (n : Int) (h : 0 ≤ n ∧ n ≤ 4096) (w : World) : Calls Tryz.prog 207 #[.int .i64 n] w fun e w' => e = .returned (.int .i64 (ndP n)) ∧ w' = w := by
 unfold ndP
 by_cases h0 : n = 0
 ·subst h0
  go_enter Tryz.func207, Tryz.ntmps207
  go_wp2
  go_ret
  exact ⟨rfl, rfl⟩
 ·rw [if_neg h0, show n + 511 = n + 512 - 1 by omega]
  have h1 : (n == 0) = false := by simpa using h0
  have h2 : 0 < n := by omega
  go_enter Tryz.func207, Tryz.ntmps207
  go_wp2
  go_ret
  exact ⟨rfl, rfl⟩
def rgt (c : Int) : Prop := c = 8 ∨ c = 2 ∨ c = 10 ∨ c = 6 ∨ c = 14
theorem mayS_any (c : Int) (h : rgt c) (w : World) : Calls Tryz.prog 181 #[.int .u64 c] w fun e w' => e = .returned (.bool true) ∧ w' = w := by
 rcases h with rfl | rfl | rfl | rfl | rfl
 all_goals
  go_enter Tryz.func181, Tryz.ntmps181
  go_wp2
  go_ret
  exact ⟨rfl, rfl⟩
theorem rgt_or {c : Int} (h : rgt c) : bits .or .u64 c 16 = c + 16 ∧ bits .or .u64 (c + 16) 64 = c + 80 ∧ bits .or .u64 (c + 80) 128 = c + 208 := by
 rcases h with rfl | rfl | rfl | rfl | rfl <;> decide
theorem rgt_ok {c : Int} (h : rgt c) : (!ho (c + 208) 18446744073709551361 && ho (c + 208) 10 && (!hs (c + 208) 4 || hs (c + 208) 2)) = true := by
 rcases h with rfl | rfl | rfl | rfl | rfl <;> decide
theorem rgt_leaf {c : Int} (h : rgt c) {f N : Nat} (hf : f < N) (hN : N ≤ 4096) : kd (toP (ad f) (c + 208)) 0 = 2 ∧ 0 ≤ toP (ad f) (c + 208) ∧ toP (ad f) (c + 208) < 18446744073709551616 := by
 have hb := ad_b f N hf hN
 rcases h with rfl | rfl | rfl | rfl | rfl <;> exact leaf_b _ _ ⟨hb.1, hb.2.2, hb.2.1⟩ (by decide) (by decide) (by decide) (by decide)
section
variable {w : World} {s p b m N : Nat} {root size : Int} {B : Nat → Int} {L : List Nat}
theorem each_zero (va : Int) (f g : Value) (w : World) (s : Nat) : Calls Tryz.prog 49 #[.pointer (some ⟨s, 0, .none⟩), .int .u64 va, .int .i64 0, f, g] w fun e w' => e = .returned (.bool true) ∧ w' = w := by
 go_enter Tryz.func49, Tryz.ntmps49
 go_wp2_with fail
 go_loopw [2] (fun k wr => k = .int .i64 0 ∧ wr = w) (fun _ _ => 0)
 case atStart => exact ⟨rfl, rfl⟩
 case round =>
  obtain ⟨rfl, rfl⟩ := hrel
  go_wp2
  go_ret
  exact ⟨rfl, rfl⟩
theorem end_any (h : Sp w s p root size) (hs : 0 ≤ size ∧ size ≤ 1099511627776) : Calls Tryz.prog 48 #[.pointer (some ⟨s, 0, .none⟩)] w fun e w' => e = .returned (.int .u64 ((size + 4095) / 4096 * 4096)) ∧ w' = w := by
 have c77 := pages_sp h hs
 have c76 := addrOf_any ((size + 4095) / 4096) (by omega) w
 clear h
 go_enter Tryz.func48, Tryz.ntmps48
 go_wp2_with first | (go_at_call 99; refine c77.mono ?_; rintro _ w1 ⟨rfl, e1⟩; obtain rfl : w = w1 := e1.symm) | (go_at_call 98; refine c76.mono ?_; rintro _ w1 ⟨rfl, e1⟩; obtain rfl : w = w1 := e1.symm)
 go_ret
 exact ⟨rfl, rfl⟩
set_option maxRecDepth 4000 in
theorem room_any (h : Sp w s p root size) (hR : Ram w p b m N B L) (P : Int) (hP : 0 ≤ P ∧ P < 4096) (hs : size = P * 4096) (hd : 1 + ndP (P + 1) - ndP P ≤ L.length) : Calls Tryz.prog 182 #[.pointer (some ⟨s, 0, .none⟩), .int .i64 (P + 1)] w fun e w' => e = .returned (.bool true) ∧ ∃ k, w' = w.drewN k := by
 have c77 := pages_sp h (by omega)
 rw [show (size + 4095) / 4096 = P by omega] at c77
 have c0 := h.c0
 have c10 := count_ram hR
 have d1 := ndP_any (P + 1) (by omega) w
 have d2 := ndP_any P (by omega) w
 have hl := len_le hR
 have n2 := hR.mem.n2
 have hb : 0 ≤ ndP P ∧ ndP P ≤ 100 ∧ 0 ≤ ndP (P + 1) ∧ ndP (P + 1) ≤ 100 := by unfold ndP; split <;> split <;> omega
 generalize ndP P = u at *
 generalize ndP (P + 1) = v at *
 generalize hg : L.length = g at *
 clear hs h hR hg
 have hd' : P + 1 - P + v - u ≤ (g : Int) := by omega
 clear hd
 go_enter Tryz.func182, Tryz.ntmps182
 go_wp2_with (go_at_call 99; refine c77.mono ?_; rintro _ w1 ⟨rfl, e1⟩; obtain rfl : w = w1 := e1.symm)
 refine d1.mono ?_
 rintro _ w1 ⟨rfl, e1⟩
 obtain rfl : w = w1 := e1.symm
 go_wp2_with (go_at_call 99; refine c77.mono ?_; rintro _ w1 ⟨rfl, e1⟩; obtain rfl : w = w1 := e1.symm)
 refine d2.mono ?_
 rintro _ w1 ⟨rfl, e1⟩
 obtain rfl : w = w1 := e1.symm
 go_wp2_with (go_at_call 15; refine c10.mono ?_; rintro _ w1 ⟨rfl, k1, rfl⟩)
 go_ret
 exact ⟨rfl, k1, rfl⟩
end
end Go.Proofs.YtabnipbdbnmmpaaGreatDoor.Rm
namespace Go.Proofs.YtabnipbdbnmmpaaGreatDoor.Rm
open Go.RowKit
section
variable {w : World} {s p b m N : Nat} {root size : Int} {B : Nat → Int} {L : List Nat}
set_option maxHeartbeats 1000000 in
theorem tail_zero (h : Sp w s p root size) (hs : 0 ≤ size ∧ size ≤ 1099511627776) (ha : size % 4096 = 0) : Calls Tryz.prog 183 #[.pointer (some ⟨s, 0, .none⟩)] w fun e w' => e = .returned (.tuple #[]) ∧ Below w.heap.size w w' := by
 obtain ⟨X, hX⟩ : ∃ X, X = w.heap.size := ⟨_, rfl⟩
 obtain ⟨w1, hw1⟩ : ∃ w1, w1 = w.alloc (.cells #[.pointer (some ⟨s, 0, .none⟩)] 42) := ⟨_, rfl⟩
 have b1 : Below w.heap.size w w1 := by rw [hw1]; exact (Below.refl _ _).alloc (Nat.le_refl _) _
 have k1 : w1.cell? ⟨X, 0, .none⟩ = some (.pointer (some ⟨s, 0, .none⟩)) := by rw [hw1, hX]; simp
 have h1 := h.below b1
 have hd : (w1.drew).heap.size = w1.heap.size := rfl
 have bd : Below w1.heap.size w1 w1.drew := (Below.refl _ _).drew
 have h2 := h1.below bd
 have kS : w1.drew.cell? ⟨X, 0, .none⟩ = some (.pointer (some ⟨s, 0, .none⟩)) ∧ w1.drew.cell? ⟨s, 2, .none⟩ = some (.int .u64 size) := ⟨k1, h2.c2⟩
 have c35 := end_any h2 hs
 rw [show (size + 4095) / 4096 * 4096 = size by omega] at c35
 have HB : Hid (Below w.heap.size w w1) := b1
 have e0 : IntKind.u64.wrap (size - size) = 0 := by rw [IntKind.wrap_u64]; omega
 have z0 : IntKind.u64.wrap 0 = 0 := by decide
 have z1 : IntKind.i64.wrap 0 = 0 := by decide
 clear h h1 h2 b1 k1 hd bd ha
 go_enter Tryz.func183, Tryz.ntmps183
 go_upto_region 1 with fail
 rw [← hw1, ← hX]
 have HXX : Hid (X = w.heap.size) := hX
 clear hw1 hX
 refine wp_region_held_drew (S := (fun U => U.cell? ⟨X, 0, .none⟩ = some (.pointer (some ⟨s, 0, .none⟩)) ∧ U.cell? ⟨s, 2, .none⟩ = some (.int .u64 size))) (by kernel_rfl) kS (fun hHeld => ?_)
 refine wpAnyH_take (i := 0) (v := (.pointer (some ⟨s, 0, .none⟩))) rfl (by kernel_rfl) (by kernel_rfl) (by kernel_rfl) (fun _ _ _ h => h) (Or.inl ⟨by rfl, fun ww hSw => by (try dsimp only at hSw); go_simp⟩) (by assumption) ?_
 simp only [Act.put, List.setIfInBounds_toArray, List.set_cons_zero, List.set_cons_succ, List.getElem_toArray, List.getElem_cons_succ, List.getElem_cons_zero]
 refine wpAnyH_take (i := 2) (v := (.pointer (some ⟨s, 0, .none⟩))) rfl (by kernel_rfl) (by kernel_rfl) (by kernel_rfl) (fun _ _ _ h => h) (Or.inl ⟨by rfl, fun ww hSw => by (try dsimp only at hSw); go_simp⟩) (by assumption) ?_
 simp only [Act.put, List.setIfInBounds_toArray, List.set_cons_zero, List.set_cons_succ, List.getElem_toArray, List.getElem_cons_succ, List.getElem_cons_zero]
 refine wpAnyH_take (i := 3) (v := (.pointer (some ⟨s, 0, .none⟩))) rfl (by kernel_rfl) (by kernel_rfl) (by kernel_rfl) (fun _ _ _ h => h) (Or.inl ⟨by rfl, fun ww hSw => by (try dsimp only at hSw); go_simp⟩) (by assumption) ?_
 simp only [Act.put, List.setIfInBounds_toArray, List.set_cons_zero, List.set_cons_succ, List.getElem_toArray, List.getElem_cons_succ, List.getElem_cons_zero]
 refine wpAnyH_take (i := 4) (v := (.pointer (some ⟨s, 2, .none⟩))) rfl (by kernel_rfl) (by kernel_rfl) (by kernel_rfl) (fun _ _ _ h => h) (Or.inl ⟨by rfl, fun ww hSw => by (try dsimp only at hSw); go_simp⟩) (by assumption) ?_
 simp only [Act.put, List.setIfInBounds_toArray, List.set_cons_zero, List.set_cons_succ, List.getElem_toArray, List.getElem_cons_succ, List.getElem_cons_zero]
 refine wpAnyH_take (i := 5) (v := (.int .u64 size)) rfl (by kernel_rfl) (by kernel_rfl) (by kernel_rfl) (fun _ _ _ h => h) (Or.inl ⟨by rfl, fun ww hSw => by (try dsimp only at hSw); go_simp⟩) (by assumption) ?_
 simp only [Act.put, List.setIfInBounds_toArray, List.set_cons_zero, List.set_cons_succ, List.getElem_toArray, List.getElem_cons_succ, List.getElem_cons_zero]
 refine wpAnyH_ready (rs := [1]) (by kernel_rfl) (by simp) ?_
 refine AllReadyH.cons rfl (fun K hK => ?_) AllReadyH.nil
 go_simp
 go_at_call 48
 refine c35.mono ?_
 rintro _ w3 ⟨rfl, e3⟩
 obtain rfl : w1.drew = w3 := e3.symm
 refine hK.out _ _ kS (fun hHeld => ?_)
 clear hK K
 try simp only [Act.put, List.setIfInBounds_toArray, List.set_cons_zero, List.set_cons_succ, List.getElem_toArray, List.getElem_cons_succ, List.getElem_cons_zero]
 refine wpAnyH_take (i := 6) (v := (.int .u64 0)) rfl (by kernel_rfl) (by kernel_rfl) (by kernel_rfl) (fun _ _ _ h => h) (Or.inl ⟨by rfl, fun ww hSw => by (try dsimp only at hSw); go_simp⟩) (by assumption) ?_
 simp only [Act.put, List.setIfInBounds_toArray, List.set_cons_zero, List.set_cons_succ, List.getElem_toArray, List.getElem_cons_succ, List.getElem_cons_zero]
 refine wpAnyH_take (i := 7) (v := (.int .i64 0)) rfl (by kernel_rfl) (by kernel_rfl) (by kernel_rfl) (fun _ _ _ h => h) (Or.inl ⟨by rfl, fun ww hSw => by (try dsimp only at hSw); go_simp⟩) (by assumption) ?_
 simp only [Act.put, List.setIfInBounds_toArray, List.set_cons_zero, List.set_cons_succ, List.getElem_toArray, List.getElem_cons_succ, List.getElem_cons_zero]
 refine wpAnyH_take (i := 8) (v := (.int .i64 0)) rfl (by kernel_rfl) (by kernel_rfl) (by kernel_rfl) (fun _ _ _ h => h) (Or.inl ⟨by rfl, fun ww hSw => by (try dsimp only at hSw); go_simp⟩) (by assumption) ?_
 simp only [Act.put, List.setIfInBounds_toArray, List.set_cons_zero, List.set_cons_succ, List.getElem_toArray, List.getElem_cons_succ, List.getElem_cons_zero]
 refine wpAnyH_done (by kernel_rfl) ?_ _
 have kS2 : w1.drew.drew.cell? ⟨X, 0, .none⟩ = some (.pointer (some ⟨s, 0, .none⟩)) ∧ w1.drew.drew.cell? ⟨s, 2, .none⟩ = some (.int .u64 size) := kS
 go_upto_region 2 with fail
 refine wp_region_held_drew (S := (fun U => U.cell? ⟨X, 0, .none⟩ = some (.pointer (some ⟨s, 0, .none⟩)) ∧ U.cell? ⟨s, 2, .none⟩ = some (.int .u64 size))) (by kernel_rfl) kS2 (fun hHeld => ?_)
 refine wpAnyH_take (i := 0) (v := (.pointer (some ⟨s, 0, .none⟩))) rfl (by kernel_rfl) (by kernel_rfl) (by kernel_rfl) (fun _ _ _ h => h) (Or.inl ⟨by rfl, fun ww hSw => by (try dsimp only at hSw); go_simp⟩) (by assumption) ?_
 simp only [Act.put, List.setIfInBounds_toArray, List.set_cons_zero, List.set_cons_succ, List.getElem_toArray, List.getElem_cons_succ, List.getElem_cons_zero]
 refine wpAnyH_take (i := 1) (v := (.pointer (some ⟨s, 0, .none⟩))) rfl (by kernel_rfl) (by kernel_rfl) (by kernel_rfl) (fun _ _ _ h => h) (Or.inl ⟨by rfl, fun ww hSw => by (try dsimp only at hSw); go_simp⟩) (by assumption) ?_
 simp only [Act.put, List.setIfInBounds_toArray, List.set_cons_zero, List.set_cons_succ, List.getElem_toArray, List.getElem_cons_succ, List.getElem_cons_zero]
 refine wpAnyH_take (i := 2) (v := (.pointer (some ⟨s, 0, .none⟩))) rfl (by kernel_rfl) (by kernel_rfl) (by kernel_rfl) (fun _ _ _ h => h) (Or.inl ⟨by rfl, fun ww hSw => by (try dsimp only at hSw); go_simp⟩) (by assumption) ?_
 simp only [Act.put, List.setIfInBounds_toArray, List.set_cons_zero, List.set_cons_succ, List.getElem_toArray, List.getElem_cons_succ, List.getElem_cons_zero]
 refine wpAnyH_take (i := 3) (v := (.pointer (some ⟨s, 2, .none⟩))) rfl (by kernel_rfl) (by kernel_rfl) (by kernel_rfl) (fun _ _ _ h => h) (Or.inl ⟨by rfl, fun ww hSw => by (try dsimp only at hSw); go_simp⟩) (by assumption) ?_
 simp only [Act.put, List.setIfInBounds_toArray, List.set_cons_zero, List.set_cons_succ, List.getElem_toArray, List.getElem_cons_succ, List.getElem_cons_zero]
 refine wpAnyH_take (i := 4) (v := (.int .u64 size)) rfl (by kernel_rfl) (by kernel_rfl) (by kernel_rfl) (fun _ _ _ h => h) (Or.inl ⟨by rfl, fun ww hSw => by (try dsimp only at hSw); go_simp⟩) (by assumption) ?_
 simp only [Act.put, List.setIfInBounds_toArray, List.set_cons_zero, List.set_cons_succ, List.getElem_toArray, List.getElem_cons_succ, List.getElem_cons_zero]
 refine wpAnyH_take (i := 5) (v := (.int .i64 0)) rfl (by kernel_rfl) (by kernel_rfl) (by kernel_rfl) (fun _ _ _ h => h) (Or.inl ⟨by rfl, fun ww hSw => by (try dsimp only at hSw); go_simp⟩) (by assumption) ?_
 simp only [Act.put, List.setIfInBounds_toArray, List.set_cons_zero, List.set_cons_succ, List.getElem_toArray, List.getElem_cons_succ, List.getElem_cons_zero]
 refine wpAnyH_take (i := 6) (v := (.pointer (some ⟨s, 0, .none⟩))) rfl (by kernel_rfl) (by kernel_rfl) (by kernel_rfl) (fun _ _ _ h => h) (Or.inl ⟨by rfl, fun ww hSw => by (try dsimp only at hSw); go_simp⟩) (by assumption) ?_
 simp only [Act.put, List.setIfInBounds_toArray, List.set_cons_zero, List.set_cons_succ, List.getElem_toArray, List.getElem_cons_succ, List.getElem_cons_zero]
 refine wpAnyH_take (i := 7) (v := (.func (.func 149) #[.pointer (some ⟨s, 0, .none⟩)] #[])) rfl (by kernel_rfl) (by kernel_rfl) (by kernel_rfl) (fun _ _ _ h => h) (Or.inl ⟨by rfl, fun ww hSw => by (try dsimp only at hSw); go_simp⟩) (by assumption) ?_
 simp only [Act.put, List.setIfInBounds_toArray, List.set_cons_zero, List.set_cons_succ, List.getElem_toArray, List.getElem_cons_succ, List.getElem_cons_zero]
 refine wpAnyH_take (i := 8) (v := (.func (.func 208) #[] #[.pointer (some ⟨X, 0, .none⟩)])) rfl (by kernel_rfl) (by kernel_rfl) (by kernel_rfl) (fun _ _ _ h => h) (Or.inl ⟨by rfl, fun ww hSw => by (try dsimp only at hSw); go_simp⟩) (by assumption) ?_
 simp only [Act.put, List.setIfInBounds_toArray, List.set_cons_zero, List.set_cons_succ, List.getElem_toArray, List.getElem_cons_succ, List.getElem_cons_zero]
 refine wpAnyH_ready (rs := [9]) (by kernel_rfl) (by simp) ?_
 refine AllReadyH.cons rfl (fun K hK => ?_) AllReadyH.nil
 go_simp
 go_at_call 49
 refine (each_zero _ _ _ _ _).mono ?_
 rintro _ w3 ⟨rfl, e3⟩
 obtain rfl : w1.drew.drew = w3 := e3.symm
 refine hK.out _ _ kS2 (fun hHeld => ?_)
 clear hK K
 try simp only [Act.put, List.setIfInBounds_toArray, List.set_cons_zero, List.set_cons_succ, List.getElem_toArray, List.getElem_cons_succ, List.getElem_cons_zero]
 refine wpAnyH_done (by kernel_rfl) ?_ _
 go_wp2_with fail
 refine bodyPost_end (v := .tuple #[]) (by simp [results, Tryz.results183, go_sem]) rfl ⟨rfl, HB.out.drew.drew⟩
end
end Go.Proofs.YtabnipbdbnmmpaaGreatDoor.Rm
