import Derived.Test.YtacdgfojdkppmaaGreatDoorYd
namespace Go.Proofs.YtacdgfojdkppmaaGreatDoor.Rm
open Go.RowKit
set_option linter.unusedVariables false
set_option linter.unusedSimpArgs false
section
variable {w : World} {p b m N : Nat} {B : Nat → Int} {L : List Nat}
theorem len_le (h : Ram w p b m N B L) : L.length < N := length_le N L h.mem.n1 h.nd h.lt
theorem count_ram (h : Ram w p b m N B L) : Calls Tryz.prog 10 #[.pointer (some ⟨p, 0, .none⟩)] w fun e w' => e = .returned (.int .i64 L.length) ∧ ∃ k, w' = w.drewN k := by
 have h1 := len_le h
 refine (count_any h.mem (by omega)).mono fun e w' ⟨h2, h3⟩ => ⟨?_, h3⟩
 rw [h2]
 refine congrArg Ending.returned (congrArg (Value.int .i64) ?_)
 omega
theorem below_dr (w : World) (k : Nat) : Below w.heap.size w (w.drewN k) := ⟨rfl, rfl, rfl, Nat.le_refl _, fun _ _ => rfl⟩
/-- New, refused for its frames. -/
theorem spNew_no (h : Ram w p b m N B L) (tr : Int) (ht : 0 ≤ tr ∧ tr < 18446744073709551616) (hno : ¬ (isHd N L tr ∧ isHd N L 2147483648 ∧ tr ≠ 2147483648)) :
  Calls Tryz.prog 27 #[.pointer (some ⟨p, 0, .none⟩), .int .u64 tr, .int .u64 2147483648] w fun e w' => e = .returned (.tuple #[.pointer .none, .int .i64 160]) ∧ Below w.heap.size w w' := by
 obtain ⟨ok, h1, c59⟩ := two_any h tr 2147483648 ht (by omega)
 obtain rfl : ok = false := by
  cases ok
  ·rfl
  ·exact absurd (h1.1 rfl) hno
 have c25 := frames_any h.mem
 have n1 := h.mem.n1
 have hN0 : ((N : Int) == 0) = false := by simp; omega
 clear h h1 hno
 go_enter Tryz.func27, Tryz.ntmps27
 go_wp2_with first | (go_at_call 25; refine c25.mono ?_; rintro _ w1 ⟨rfl, e1⟩; obtain rfl : w = w1 := e1.symm) | (go_at_call 59; refine c59.mono ?_; rintro _ w1 ⟨rfl, b1⟩)
 refine bodyPost_ret (v := .tuple #[.pointer .none, .int .i64 160]) (by simp [results, Tryz.results27, go_sem]) rfl ⟨rfl, b1⟩
set_option maxHeartbeats 1000000 in
theorem spNew_ok {i : Nat} {L1 : List Nat} (h : Ram w p b m N B (i :: L1)) (hl : 2 ≤ L1.length) (ft : Nat) (hft : 1 ≤ ft ∧ ft < N ∧ ft ∉ i :: L1) :
  Calls Tryz.prog 27 #[.pointer (some ⟨p, 0, .none⟩), .int .u64 (ad ft), .int .u64 2147483648] w fun e w' => ∃ s, e = .returned (.tuple #[.pointer (some ⟨s, 0, .none⟩), .int .i64 0]) ∧ w.heap.size ≤ s ∧ Sp w' s p (ad i) 0 ∧ ∃ B' L' F' lf', NT w w' p b m N B i L1 B' L' F' lf' := by
 have hN := h.mem.n2
 have hfb := ad_b ft N hft.2.1 hN
 obtain ⟨ok, h1, c59⟩ := two_any h (ad ft) 2147483648 (by omega) (by omega)
 obtain rfl : ok = true := h1.2 ⟨⟨ft, hft.2.1, hft.2.2, rfl⟩, ⟨0, by have := h.mem.n1; omega, fun e => by have := (h.lt 0 e).1; omega, rfl⟩, by unfold ad; omega⟩
 have c25 := frames_any h.mem
 have n1 := h.mem.n1
 have hN0 : ((N : Int) == 0) = false := by simp; omega
 have HR : Hid (Ram w p b m N B (i :: L1)) := h
 have hp : p < w.heap.size := lt_of_cell h.mem.c0
 have hb : b < w.heap.size := lt_of_cell (h.mem.cb 0 (by omega))
 have hm : m < w.heap.size := h.mem.mlt
 have hlen : ¬ (((i :: L1).length : Int) < 3) := by simp only [List.length_cons]; omega
 clear h h1
 go_enter Tryz.func27, Tryz.ntmps27
 go_upto_region 5 with first | (go_at_call 25; refine c25.mono ?_; rintro _ w1 ⟨rfl, e1⟩; obtain rfl : w = w1 := e1.symm) | (go_at_call 59; refine c59.mono ?_; rintro _ w1 ⟨rfl, b1⟩; have H1 : Hid (Below w.heap.size w w1) := b1; clear b1)
 have c10 := count_ram (HR.out.below H1.out)
 generalize hg : (i :: L1).length = g at c10 hlen
 clear hg
 go_upto_region 7 with (go_at_call 10; refine c10.mono ?_; rintro _ w2 ⟨rfl, k2, rfl⟩)
 have H2 : Hid (Below w.heap.size w (w1.drewN k2)) := H1.out.trans ((below_dr w1 k2).mono H1.out.size)
 have c60 := newTable_any (HR.out.below H2.out) hl ft hft.2.1
 go_wp2_with (go_at_call 60; refine c60.mono ?_; rintro _ w3 ⟨rfl, B', L', F', lf', T⟩)
 refine bodyPost_ret (v := .tuple #[.pointer (some ⟨w3.heap.size, 0, .none⟩), .int .i64 0]) (by simp [results, Tryz.results27, go_sem]) rfl ⟨w3.heap.size, rfl, ?_, ?_, B', L', F', lf', ?_⟩
 ·exact Nat.le_trans H2.out.size T.fra.size
 ·exact ⟨by simp, by simp, by simp, fun k => World.frozen?_alloc_new _ _ _ _⟩
 ·exact ⟨T.ram.below ((Below.refl _ _).alloc (Nat.le_refl _) _), T.pt, T.rt, T.ids, T.own, T.lfs, T.cut, T.byt, (((Fra.below H2.out).trans T.fra)).alloc _⟩
end
end Go.Proofs.YtacdgfojdkppmaaGreatDoor.Rm
namespace Go.Proofs.YtacdgfojdkppmaaGreatDoor.Rm
open Go.RowKit
set_option linter.unusedVariables false
set_option linter.unusedSimpArgs false
def LayP (w : World) (p b m N : Nat) (B : Nat → Int) (f : Nat) (L1 : List Nat) (F : Nat → Option Nat) (lf : Nat → Nat → Int) (pg perm : Int) (e : Ending) (w' : World) : Prop := e = .returned (.int .u64 (ad f)) ∧ ∃ B' L' F', LP N (pg * 4096) (toP (ad f) perm) L1 (zer B f) F lf L' B' F' ∧ L1 = L1.take (need F (pg * 4096)) ++ L' ∧ Ram w' p b m N B' L' ∧ Fra p b m w w'
section
variable {w : World} {p b m N : Nat} {B : Nat → Int} {F : Nat → Option Nat} {lf : Nat → Nat → Int}
/-- A frame that no node has is zeroed: the table stays. -/
theorem PT.zero {f : Nat} {L1 : List Nat} (h : PT N (f :: L1) B F lf) : PT N L1 (zer B f) F lf := by
 have hfn : ∀ x q, F x = some q → q ≠ f := fun x q hx e => (h.held x q hx).2.2 (by rw [e]; exact List.mem_cons_self ..)
 exact h.keep (fun x q hx k hk => zer_out _ _ _ (by rcases Nat.lt_or_gt_of_ne (hfn x q hx) with h | h <;> omega)) (fun x q hx hm => (h.held x q hx).2.2 (List.mem_cons_of_mem _ hm))
set_option maxHeartbeats 1000000 in
/-- lay: a page with a frame of its own. -/
theorem lay_pt {f : Nat} {L1 : List Nat} (h : Ram w p b m N B (f :: L1)) (hP : PT N (f :: L1) B F lf) {r : Nat} (hr : F 0 = some r) (pg perm : Int) (hpg : 0 ≤ pg ∧ pg < 67108864)
  (hmp : (!ho perm 18446744073709551361 && ho perm 10 && (!hs perm 4 || hs perm 2)) = true) (hk : kd (toP (ad f) perm) 0 = 2 ∧ 0 ≤ toP (ad f) perm ∧ toP (ad f) perm < 18446744073709551616) (hz : lf (y0 (pg * 4096)) (i0 (pg * 4096)) = 0) (hn : need F (pg * 4096) ≤ L1.length) :
  Calls Tryz.prog 150 #[.agg #[.pointer (some ⟨p, 0, .none⟩), .int .u64 (ad r)], .int .i64 pg, .int .u64 perm] w (LayP w p b m N B f L1 F lf pg perm) := by
 have hN := h.mem.n2
 have hf := h.lt f (List.mem_cons_self ..)
 have hfb := ad_b f N hf.2 hN
 obtain ⟨X, hX⟩ : ∃ X, X = w.heap.size := ⟨_, rfl⟩
 obtain ⟨w1, hw1⟩ : ∃ w1, w1 = w.alloc (.cells #[.pointer (some ⟨p, 0, .none⟩), .int .u64 (ad r)] 90) := ⟨_, rfl⟩
 have b1 : Below w.heap.size w w1 := by rw [hw1]; exact (Below.refl _ _).alloc (Nat.le_refl _) _
 have k1 : C2w w1 X (.pointer (some ⟨p, 0, .none⟩)) (.int .u64 (ad r)) := by
  rw [hw1, hX]
  exact ⟨by simp, by simp, fun k => World.frozen?_alloc_new _ _ _ _⟩
 have hp : p < X := by rw [hX]; exact lt_of_cell h.mem.c0
 have hb : b < X := by rw [hX]; exact lt_of_cell (h.mem.cb 0 (by have := h.mem.n1; omega))
 have hm : m < X := by rw [hX]; exact h.mem.mlt
 have c17 := alloc_some f (h.below b1)
 have HW : Hid (Below w.heap.size w w1 ∧ C2w w1 X (.pointer (some ⟨p, 0, .none⟩)) (.int .u64 (ad r))) := ⟨b1, k1⟩
 have HP : Hid (PT N L1 (zer B f) F lf ∧ F 0 = some r) := ⟨hP.zero, hr⟩
 have kc0 := k1.a
 have kc1 := k1.b
 clear h hP b1 k1 hr
 go_enter Tryz.func150, Tryz.ntmps150
 go_upto_region 1 with fail
 rw [← hw1, ← hX]
 have HXX : Hid (X = w.heap.size) := hX
 clear hw1 hX
 go_upto_region 2 with (go_at_call 17; refine c17.mono ?_; rintro _ w2 ⟨rfl, r2, f2⟩; have H2 : Hid (Ram w2 p b m N (zer B f) L1 ∧ Fra p b m w1 w2) := ⟨r2, f2⟩; clear r2 f2 c17)
 have k2 := HW.out.2.fra H2.out.2 (by omega) (by omega) (by omega)
 have kS : w2.drew.cell? ⟨X, 0, .none⟩ = some (.pointer (some ⟨p, 0, .none⟩)) ∧ w2.drew.cell? ⟨X, 1, .none⟩ = some (.int .u64 (ad r)) := ⟨k2.a, k2.b⟩
 have had : (2147483648 + (f : Int) * 4096) = ad f := rfl
 rw [had]
 clear kc0 kc1 had
 refine wp_region_held_drew (S := (fun U => U.cell? ⟨X, 0, .none⟩ = some (.pointer (some ⟨p, 0, .none⟩)) ∧ U.cell? ⟨X, 1, .none⟩ = some (.int .u64 (ad r)))) (by kernel_rfl) kS (fun hHeld => ?_)
 refine wpAnyH_take (i := 0) (v := (.pointer (some ⟨X, 0, .none⟩))) rfl (by kernel_rfl) (by kernel_rfl) (by kernel_rfl) (fun _ _ _ h => h) (Or.inl ⟨by rfl, fun ww hSw => by (try dsimp only at hSw); go_simp⟩) (by assumption) ?_
 simp only [Act.put, List.setIfInBounds_toArray, List.set_cons_zero, List.set_cons_succ, List.getElem_toArray, List.getElem_cons_succ, List.getElem_cons_zero]
 refine wpAnyH_take (i := 1) (v := (.pointer (some ⟨p, 0, .none⟩))) rfl (by kernel_rfl) (by kernel_rfl) (by kernel_rfl) (fun _ _ _ h => h) (Or.inl ⟨by rfl, fun ww hSw => by (try dsimp only at hSw); go_simp⟩) (by assumption) ?_
 simp only [Act.put, List.setIfInBounds_toArray, List.set_cons_zero, List.set_cons_succ, List.getElem_toArray, List.getElem_cons_succ, List.getElem_cons_zero]
 refine wpAnyH_take (i := 2) (v := (.pointer (some ⟨X, 1, .none⟩))) rfl (by kernel_rfl) (by kernel_rfl) (by kernel_rfl) (fun _ _ _ h => h) (Or.inl ⟨by rfl, fun ww hSw => by (try dsimp only at hSw); go_simp⟩) (by assumption) ?_
 simp only [Act.put, List.setIfInBounds_toArray, List.set_cons_zero, List.set_cons_succ, List.getElem_toArray, List.getElem_cons_succ, List.getElem_cons_zero]
 refine wpAnyH_take (i := 3) (v := (.int .u64 (ad r))) rfl (by kernel_rfl) (by kernel_rfl) (by kernel_rfl) (fun _ _ _ h => h) (Or.inl ⟨by rfl, fun ww hSw => by (try dsimp only at hSw); go_simp⟩) (by assumption) ?_
 simp only [Act.put, List.setIfInBounds_toArray, List.set_cons_zero, List.set_cons_succ, List.getElem_toArray, List.getElem_cons_succ, List.getElem_cons_zero]
 refine wpAnyH_take (i := 4) (v := (.int .i64 pg)) rfl (by kernel_rfl) (by kernel_rfl) (by kernel_rfl) (fun _ _ _ h => h) (Or.inl ⟨by rfl, fun ww hSw => by (try dsimp only at hSw); go_simp⟩) (by assumption) ?_
 simp only [Act.put, List.setIfInBounds_toArray, List.set_cons_zero, List.set_cons_succ, List.getElem_toArray, List.getElem_cons_succ, List.getElem_cons_zero]
 refine wpAnyH_take (i := 6) (v := (.int .u64 (ad f))) rfl (by kernel_rfl) (by kernel_rfl) (by kernel_rfl) (fun _ _ _ h => h) (Or.inl ⟨by rfl, fun ww hSw => by (try dsimp only at hSw); go_simp⟩) (by assumption) ?_
 simp only [Act.put, List.setIfInBounds_toArray, List.set_cons_zero, List.set_cons_succ, List.getElem_toArray, List.getElem_cons_succ, List.getElem_cons_zero]
 refine wpAnyH_take (i := 7) (v := (.int .u64 perm)) rfl (by kernel_rfl) (by kernel_rfl) (by kernel_rfl) (fun _ _ _ h => h) (Or.inl ⟨by rfl, fun ww hSw => by (try dsimp only at hSw); go_simp⟩) (by assumption) ?_
 simp only [Act.put, List.setIfInBounds_toArray, List.set_cons_zero, List.set_cons_succ, List.getElem_toArray, List.getElem_cons_succ, List.getElem_cons_zero]
 refine wpAnyH_ready (rs := [5]) (by kernel_rfl) (by simp) ?_
 refine AllReadyH.cons rfl (fun K hK => ?_) AllReadyH.nil
 go_simp
 go_at_call 76
 refine (addrOf_any pg (by omega) _).mono ?_
 rintro _ w3 ⟨rfl, e3⟩
 obtain rfl : w2.drew = w3 := e3.symm
 refine hK.out _ _ kS (fun hHeld => ?_)
 clear hK K
 try simp only [Act.put, List.setIfInBounds_toArray, List.set_cons_zero, List.set_cons_succ, List.getElem_toArray, List.getElem_cons_succ, List.getElem_cons_zero]
 refine wpAnyH_ready (rs := [8]) (by kernel_rfl) (by simp) ?_
 refine AllReadyH.cons rfl (fun K hK => ?_) AllReadyH.nil
 have c1 := map_pt (w := w2.drew) H2.out.1.drew HP.out.1 HP.out.2 (pg * 4096) (ad f) perm (by omega) (by omega) ⟨hfb.1, hfb.2.2, hfb.2.1⟩ hmp hk hz hn
 go_simp
 go_at_call 107
 refine c1.mono ?_
 rintro _ w3 ⟨rfl, B', L', F', R, e1, r3, f3⟩
 have H3 : Hid (LP N (pg * 4096) (toP (ad f) perm) L1 (zer B f) F lf L' B' F' ∧ L1 = L1.take (need F (pg * 4096)) ++ L' ∧ Ram w3 p b m N B' L' ∧ Fra p b m w w3) := ⟨R, e1, r3, (Fra.below HW.out.1).trans (H2.out.2.trans ((Fra.below (Below.refl _ _).drew).trans f3))⟩
 have k3 := k2.fra ((Fra.below (Below.refl _ _).drew).trans f3) (by omega) (by omega) (by omega)
 clear R e1 r3 f3 c1
 refine hK.out _ _ ⟨k3.a, k3.b⟩ (fun hHeld => ?_)
 clear hK K
 try simp only [Act.put, List.setIfInBounds_toArray, List.set_cons_zero, List.set_cons_succ, List.getElem_toArray, List.getElem_cons_succ, List.getElem_cons_zero]
 refine wpAnyH_done (by kernel_rfl) ?_ _
 go_wp2_with fail
 go_ret
 exact ⟨rfl, B', L', F', H3.out⟩
end
end Go.Proofs.YtacdgfojdkppmaaGreatDoor.Rm
