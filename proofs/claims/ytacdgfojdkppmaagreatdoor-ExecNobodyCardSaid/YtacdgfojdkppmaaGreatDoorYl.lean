import Derived.Test.YtacdgfojdkppmaaGreatDoorYg
import Derived.Test.YtacdgfojdkppmaaGreatDoorXc
namespace Go.Proofs.YtacdgfojdkppmaaGreatDoor.Rm
open Go.RowKit
set_option linter.unusedVariables false
set_option linter.unusedSimpArgs false
section
variable {w : World} {s p b m N : Nat} {root size : Int} {B : Nat → Int} {L : List Nat}
set_option maxHeartbeats 1000000 in
theorem tail_zero (h : Sp w s p root size) (hs : 0 ≤ size ∧ size ≤ 1099511627776) (ha : size % 4096 = 0) : Calls Tryz.prog 149 #[.pointer (some ⟨s, 0, .none⟩)] w fun e w' => e = .returned (.tuple #[]) ∧ Below w.heap.size w w' := by
  obtain ⟨X, hX⟩ : ∃ X, X = w.heap.size := ⟨_, rfl⟩
  obtain ⟨w1, hw1⟩ : ∃ w1, w1 = w.alloc (.cells #[.pointer (some ⟨s, 0, .none⟩)] 32) := ⟨_, rfl⟩
  have b1 : Below w.heap.size w w1 := by rw [hw1]; exact (Below.refl _ _).alloc (Nat.le_refl _) _
  have k1 : w1.cell? ⟨X, 0, .none⟩ = some (.pointer (some ⟨s, 0, .none⟩)) := by rw [hw1, hX]; simp
  have h1 := h.below b1
  have hd : (w1.drew).heap.size = w1.heap.size := rfl
  have bd : Below w1.heap.size w1 w1.drew := (Below.refl _ _).drew
  have h2 := h1.below bd
  have kS : w1.drew.cell? ⟨X, 0, .none⟩ = some (.pointer (some ⟨s, 0, .none⟩)) ∧ w1.drew.cell? ⟨s, 2, .none⟩ = some (.int .u64 size) := ⟨k1, h2.c2⟩
  have c35 := end_any h2 hs
  rw [show (size + 4095) / 4096 * 4096 = size by omega] at c35
  have HB : Hid (Below w.heap.size w w1) := b1
  have e0 : IntKind.u64.wrap (size - size) = 0 := by rw [IntKind.wrap_u64]; omega
  have z0 : IntKind.u64.wrap 0 = 0 := by decide
  have z1 : IntKind.i64.wrap 0 = 0 := by decide
  clear h h1 h2 b1 k1 hd bd ha
  go_enter Tryz.func149, Tryz.ntmps149
  go_upto_region 1 with fail
  rw [← hw1, ← hX]
  have HXX : Hid (X = w.heap.size) := hX
  clear hw1 hX
  refine wp_region_held_drew (S := (fun U => U.cell? ⟨X, 0, .none⟩ = some (.pointer (some ⟨s, 0, .none⟩)) ∧ U.cell? ⟨s, 2, .none⟩ = some (.int .u64 size))) (by kernel_rfl) kS (fun hHeld => ?_)
  refine wpAnyH_take (i := 0) (v := (.pointer (some ⟨s, 0, .none⟩))) rfl (by kernel_rfl) (by kernel_rfl) (by kernel_rfl) (fun _ _ _ h => h) (Or.inl ⟨by rfl, fun ww hSw => by (try dsimp only at hSw); go_simp⟩) (by assumption) ?_
  simp only [Act.put, List.setIfInBounds_toArray, List.set_cons_zero, List.set_cons_succ, List.getElem_toArray, List.getElem_cons_succ, List.getElem_cons_zero]
  refine wpAnyH_take (i := 2) (v := (.pointer (some ⟨s, 0, .none⟩))) rfl (by kernel_rfl) (by kernel_rfl) (by kernel_rfl) (fun _ _ _ h => h) (Or.inl ⟨by rfl, fun ww hSw => by (try dsimp only at hSw); go_simp⟩) (by assumption) ?_
  simp only [Act.put, List.setIfInBounds_toArray, List.set_cons_zero, List.set_cons_succ, List.getElem_toArray, List.getElem_cons_succ, List.getElem_cons_zero]
  refine wpAnyH_take (i := 3) (v := (.pointer (some ⟨s, 0, .none⟩))) rfl (by kernel_rfl) (by kernel_rfl) (by kernel_rfl) (fun _ _ _ h => h) (Or.inl ⟨by rfl, fun ww hSw => by (try dsimp only at hSw); go_simp⟩) (by assumption) ?_
  simp only [Act.put, List.setIfInBounds_toArray, List.set_cons_zero, List.set_cons_succ, List.getElem_toArray, List.getElem_cons_succ, List.getElem_cons_zero]
  refine wpAnyH_take (i := 4) (v := (.pointer (some ⟨s, 2, .none⟩))) rfl (by kernel_rfl) (by kernel_rfl) (by kernel_rfl) (fun _ _ _ h => h) (Or.inl ⟨by rfl, fun ww hSw => by (try dsimp only at hSw); go_simp⟩) (by assumption) ?_
  simp only [Act.put, List.setIfInBounds_toArray, List.set_cons_zero, List.set_cons_succ, List.getElem_toArray, List.getElem_cons_succ, List.getElem_cons_zero]
  refine wpAnyH_take (i := 5) (v := (.int .u64 size)) rfl (by kernel_rfl) (by kernel_rfl) (by kernel_rfl) (fun _ _ _ h => h) (Or.inl ⟨by rfl, fun ww hSw => by (try dsimp only at hSw); go_simp⟩) (by assumption) ?_
  simp only [Act.put, List.setIfInBounds_toArray, List.set_cons_zero, List.set_cons_succ, List.getElem_toArray, List.getElem_cons_succ, List.getElem_cons_zero]
  refine wpAnyH_ready (rs := [1]) (by kernel_rfl) (by simp) ?_
  refine AllReadyH.cons rfl (fun K hK => ?_) AllReadyH.nil
  go_simp
  go_at_call 35
  refine c35.mono ?_
  rintro _ w3 ⟨rfl, e3⟩
  obtain rfl : w1.drew = w3 := e3.symm
  refine hK.out _ _ kS (fun hHeld => ?_)
  clear hK K
  try simp only [Act.put, List.setIfInBounds_toArray, List.set_cons_zero, List.set_cons_succ, List.getElem_toArray, List.getElem_cons_succ, List.getElem_cons_zero]
  refine wpAnyH_take (i := 6) (v := (.int .u64 0)) rfl (by kernel_rfl) (by kernel_rfl) (by kernel_rfl) (fun _ _ _ h => h) (Or.inl ⟨by rfl, fun ww hSw => by (try dsimp only at hSw); go_simp⟩) (by assumption) ?_
  simp only [Act.put, List.setIfInBounds_toArray, List.set_cons_zero, List.set_cons_succ, List.getElem_toArray, List.getElem_cons_succ, List.getElem_cons_zero]
  refine wpAnyH_take (i := 7) (v := (.int .i64 0)) rfl (by kernel_rfl) (by kernel_rfl) (by kernel_rfl) (fun _ _ _ h => h) (Or.inl ⟨by rfl, fun ww hSw => by (try dsimp only at hSw); go_simp⟩) (by assumption) ?_
  simp only [Act.put, List.setIfInBounds_toArray, List.set_cons_zero, List.set_cons_succ, List.getElem_toArray, List.getElem_cons_succ, List.getElem_cons_zero]
  refine wpAnyH_take (i := 8) (v := (.int .i64 0)) rfl (by kernel_rfl) (by kernel_rfl) (by kernel_rfl) (fun _ _ _ h => h) (Or.inl ⟨by rfl, fun ww hSw => by (try dsimp only at hSw); go_simp⟩) (by assumption) ?_
  simp only [Act.put, List.setIfInBounds_toArray, List.set_cons_zero, List.set_cons_succ, List.getElem_toArray, List.getElem_cons_succ, List.getElem_cons_zero]
  refine wpAnyH_done (by kernel_rfl) ?_ _
  have kS2 : w1.drew.drew.cell? ⟨X, 0, .none⟩ = some (.pointer (some ⟨s, 0, .none⟩)) ∧ w1.drew.drew.cell? ⟨s, 2, .none⟩ = some (.int .u64 size) := kS
  go_upto_region 2 with fail
  refine wp_region_held_drew (S := (fun U => U.cell? ⟨X, 0, .none⟩ = some (.pointer (some ⟨s, 0, .none⟩)) ∧ U.cell? ⟨s, 2, .none⟩ = some (.int .u64 size))) (by kernel_rfl) kS2 (fun hHeld => ?_)
  refine wpAnyH_take (i := 0) (v := (.pointer (some ⟨s, 0, .none⟩))) rfl (by kernel_rfl) (by kernel_rfl) (by kernel_rfl) (fun _ _ _ h => h) (Or.inl ⟨by rfl, fun ww hSw => by (try dsimp only at hSw); go_simp⟩) (by assumption) ?_
  simp only [Act.put, List.setIfInBounds_toArray, List.set_cons_zero, List.set_cons_succ, List.getElem_toArray, List.getElem_cons_succ, List.getElem_cons_zero]
  refine wpAnyH_take (i := 1) (v := (.pointer (some ⟨s, 0, .none⟩))) rfl (by kernel_rfl) (by kernel_rfl) (by kernel_rfl) (fun _ _ _ h => h) (Or.inl ⟨by rfl, fun ww hSw => by (try dsimp only at hSw); go_simp⟩) (by assumption) ?_
  simp only [Act.put, List.setIfInBounds_toArray, List.set_cons_zero, List.set_cons_succ, List.getElem_toArray, List.getElem_cons_succ, List.getElem_cons_zero]
  refine wpAnyH_take (i := 2) (v := (.pointer (some ⟨s, 0, .none⟩))) rfl (by kernel_rfl) (by kernel_rfl) (by kernel_rfl) (fun _ _ _ h => h) (Or.inl ⟨by rfl, fun ww hSw => by (try dsimp only at hSw); go_simp⟩) (by assumption) ?_
  simp only [Act.put, List.setIfInBounds_toArray, List.set_cons_zero, List.set_cons_succ, List.getElem_toArray, List.getElem_cons_succ, List.getElem_cons_zero]
  refine wpAnyH_take (i := 3) (v := (.pointer (some ⟨s, 2, .none⟩))) rfl (by kernel_rfl) (by kernel_rfl) (by kernel_rfl) (fun _ _ _ h => h) (Or.inl ⟨by rfl, fun ww hSw => by (try dsimp only at hSw); go_simp⟩) (by assumption) ?_
  simp only [Act.put, List.setIfInBounds_toArray, List.set_cons_zero, List.set_cons_succ, List.getElem_toArray, List.getElem_cons_succ, List.getElem_cons_zero]
  refine wpAnyH_take (i := 4) (v := (.int .u64 size)) rfl (by kernel_rfl) (by kernel_rfl) (by kernel_rfl) (fun _ _ _ h => h) (Or.inl ⟨by rfl, fun ww hSw => by (try dsimp only at hSw); go_simp⟩) (by assumption) ?_
  simp only [Act.put, List.setIfInBounds_toArray, List.set_cons_zero, List.set_cons_succ, List.getElem_toArray, List.getElem_cons_succ, List.getElem_cons_zero]
  refine wpAnyH_take (i := 5) (v := (.int .i64 0)) rfl (by kernel_rfl) (by kernel_rfl) (by kernel_rfl) (fun _ _ _ h => h) (Or.inl ⟨by rfl, fun ww hSw => by (try dsimp only at hSw); go_simp⟩) (by assumption) ?_
  simp only [Act.put, List.setIfInBounds_toArray, List.set_cons_zero, List.set_cons_succ, List.getElem_toArray, List.getElem_cons_succ, List.getElem_cons_zero]
  refine wpAnyH_take (i := 6) (v := (.pointer (some ⟨s, 0, .none⟩))) rfl (by kernel_rfl) (by kernel_rfl) (by kernel_rfl) (fun _ _ _ h => h) (Or.inl ⟨by rfl, fun ww hSw => by (try dsimp only at hSw); go_simp⟩) (by assumption) ?_
  simp only [Act.put, List.setIfInBounds_toArray, List.set_cons_zero, List.set_cons_succ, List.getElem_toArray, List.getElem_cons_succ, List.getElem_cons_zero]
  refine wpAnyH_take (i := 7) (v := (.func (.func 111) #[.pointer (some ⟨s, 0, .none⟩)] #[])) rfl (by kernel_rfl) (by kernel_rfl) (by kernel_rfl) (fun _ _ _ h => h) (Or.inl ⟨by rfl, fun ww hSw => by (try dsimp only at hSw); go_simp⟩) (by assumption) ?_
  simp only [Act.put, List.setIfInBounds_toArray, List.set_cons_zero, List.set_cons_succ, List.getElem_toArray, List.getElem_cons_succ, List.getElem_cons_zero]
  refine wpAnyH_take (i := 8) (v := (.func (.func 173) #[] #[.pointer (some ⟨X, 0, .none⟩)])) rfl (by kernel_rfl) (by kernel_rfl) (by kernel_rfl) (fun _ _ _ h => h) (Or.inl ⟨by rfl, fun ww hSw => by (try dsimp only at hSw); go_simp⟩) (by assumption) ?_
  simp only [Act.put, List.setIfInBounds_toArray, List.set_cons_zero, List.set_cons_succ, List.getElem_toArray, List.getElem_cons_succ, List.getElem_cons_zero]
  refine wpAnyH_ready (rs := [9]) (by kernel_rfl) (by simp) ?_
  refine AllReadyH.cons rfl (fun K hK => ?_) AllReadyH.nil
  go_simp
  go_at_call 36
  refine (each_zero _ _ _ _ _).mono ?_
  rintro _ w3 ⟨rfl, e3⟩
  obtain rfl : w1.drew.drew = w3 := e3.symm
  refine hK.out _ _ kS2 (fun hHeld => ?_)
  clear hK K
  try simp only [Act.put, List.setIfInBounds_toArray, List.set_cons_zero, List.set_cons_succ, List.getElem_toArray, List.getElem_cons_succ, List.getElem_cons_zero]
  refine wpAnyH_done (by kernel_rfl) ?_ _
  go_wp2_with fail
  refine bodyPost_end (v := .tuple #[]) (by simp [results, Tryz.results149, go_sem]) rfl ⟨rfl, HB.out.drew.drew⟩
end
end Go.Proofs.YtacdgfojdkppmaaGreatDoor.Rm
namespace Go.Proofs.YtacdgfojdkppmaaGreatDoor.Rm
open Go.RowKit
set_option linter.unusedVariables false
set_option linter.unusedSimpArgs false
/-- What Grow by a page comes to. -/
def GrP (w : World) (s p b m N : Nat) (B : Nat → Int) (f : Nat) (L1 : List Nat) (F : Nat → Option Nat) (lf : Nat → Nat → Int) (r : Nat) (P c : Int) (w' : World) : Prop :=
  Sp w' s p (ad r) ((P + 1) * 4096) ∧ (∃ B' L' F', LP N (P * 4096) (toP (ad f) (c + 208)) L1 (zer B f) F lf L' B' F' ∧ L1 = L1.take (need F (P * 4096)) ++ L' ∧ Ram w' p b m N B' L') ∧
  w.heap.size ≤ w'.heap.size ∧ w'.os = w.os ∧ w'.tape = w.tape ∧ w'.output = w.output ∧ ∀ k, k < w.heap.size → k ≠ p → k ≠ b → k ≠ m → k ≠ s → w'.heap[k]? = w.heap[k]?
def G1 (w : World) (s p b m N : Nat) (B : Nat → Int) (f : Nat) (L1 : List Nat) (F : Nat → Option Nat) (lf : Nat → Nat → Int) (r : Nat) (P c : Int) (w' : World) : Prop :=
  Sp w' s p (ad r) (P * 4096) ∧ Fra p b m w w' ∧ ∃ B' L' F', LP N (P * 4096) (toP (ad f) (c + 208)) L1 (zer B f) F lf L' B' F' ∧ L1 = L1.take (need F (P * 4096)) ++ L' ∧ Ram w' p b m N B' L'
section
variable {w : World} {s p b m N : Nat} {B : Nat → Int} {F : Nat → Option Nat} {lf : Nat → Nat → Int}
set_option maxRecDepth 4000 in
set_option maxHeartbeats 2000000 in
theorem grow_pt {f r : Nat} {L1 : List Nat} {P c : Int} (hS : Sp w s p (ad r) (P * 4096)) (h : Ram w p b m N B (f :: L1)) (hP : PT N (f :: L1) B F lf) (hr : F 0 = some r) (hne : s ≠ p ∧ s ≠ b ∧ s ≠ m) (hPb : 0 ≤ P ∧ P < 4096) (hc : rgt c)
    (hz : lf (y0 (P * 4096)) (i0 (P * 4096)) = 0) (hn : need F (P * 4096) ≤ L1.length) (hd : 1 + ndP (P + 1) - ndP P ≤ (f :: L1).length) :
    Calls Tryz.prog 108 #[.pointer (some ⟨s, 0, .none⟩), .int .u64 ((P + 1) * 4096), .int .u64 c] w fun e w' => e = .returned (.int .i64 0) ∧ GrP w s p b m N B f L1 F lf r P c w' := by
  have hN := h.mem.n2
  have hf := h.lt f (List.mem_cons_self ..)
  have hcb : 0 ≤ c ∧ c < 16 := by rcases hc with rfl | rfl | rfl | rfl | rfl <;> omega
  obtain ⟨o1, o2, o3⟩ := rgt_or hc
  have c33 := fun W (hW : Sp W s p (ad r) (P * 4096)) => made_sp hW
  have c147 := fun W => mayS_any c hc W
  have c119 := fun W => pagesOf_any ((P + 1) * 4096) (by omega) W
  rw [show ((P + 1) * 4096 + 4095) / 4096 = P + 1 by omega] at c119
  have c77 := fun W (hW : Sp W s p (ad r) (P * 4096)) => pages_sp hW (by omega)
  rw [show (P * 4096 + 4095) / 4096 = P by omega] at c77
  have c148 := room_any hS h P hPb rfl hd
  have H0 : Hid (Sp w s p (ad r) (P * 4096) ∧ Ram w p b m N B (f :: L1) ∧ PT N (f :: L1) B F lf ∧ F 0 = some r) := ⟨hS, h, hP, hr⟩
  have HC : Hid (rgt c ∧ f < N ∧ N ≤ 4096) := ⟨hc, hf.2, hN⟩
  have k2 := hS.c2
  have k0 := hS.c0
  have k1 := hS.c1
  have hlt := hS.lt
  clear hS h hP hr hd hc hf
  go_enter Tryz.func108, Tryz.ntmps108
  go_upto_region 7 with first | (go_at_call 33; refine (c33 _ H0.out.1).mono ?_; rintro _ w1 ⟨rfl, e1⟩; obtain rfl : w = w1 := e1.symm) | (go_at_call 147; refine (c147 _).mono ?_; rintro _ w1 ⟨rfl, e1⟩; obtain rfl : w = w1 := e1.symm)
  go_upto_region 9 with first | (go_at_call 119; refine (c119 _).mono ?_; rintro _ w1 ⟨rfl, e1⟩; obtain rfl : w = w1 := e1.symm) | (go_at_call 148; refine c148.mono ?_; rintro _ w1 ⟨rfl, k3, rfl⟩)
  obtain ⟨wa, hwa⟩ : ∃ wa, wa = w.drewN k3 := ⟨_, rfl⟩
  have ba : Below w.heap.size w wa := by rw [hwa]; exact below_dr w k3
  rw [← hwa]
  clear hwa k2 k0 k1
  have Sa := H0.out.1.below ba
  have HA : Hid (Below w.heap.size w wa) := ba
  have k2 := Sa.c2
  have c149 := tail_zero Sa (by omega) (by omega)
  have hgt : P < P + 1 := by omega
  clear ba
  go_upto_region 11 with (go_at_call 149; refine c149.mono ?_; rintro _ wb ⟨rfl, b2⟩; have HBb : Hid (Below w.heap.size w wb) := HA.out.trans (b2.mono HA.out.size); clear b2 c149)
  have Sb := H0.out.1.below HBb.out
  have d77 := c77 wb Sb
  clear Sb Sa k2 HA
  go_wp2_with (go_at_call 77; refine d77.mono ?_; rintro _ w1 ⟨rfl, e1⟩; obtain rfl : wb = w1 := e1.symm)
  go_loopw [7] (fun k wr => (k = .int .i64 P ∧ Hid (Below w.heap.size w wr)) ∨ (k = .int .i64 (P + 1) ∧ Hid (G1 w s p b m N B f L1 F lf r P c wr))) (fun k _ => (P + 1 - intOf k).toNat)
  case atStart => exact .inl ⟨rfl, HBb.out⟩
  case round =>
    rcases hrel with ⟨rfl, HB⟩ | ⟨rfl, HG⟩
    · have Sr := H0.out.1.below HB.out
      have k0 := Sr.c0
      have k1 := Sr.c1
      have k2 := Sr.c2
      have c150 := lay_pt (H0.out.2.1.below HB.out) H0.out.2.2.1 H0.out.2.2.2 P (c + 208) (by omega) (rgt_ok HC.out.1) (rgt_leaf HC.out.1 HC.out.2.1 HC.out.2.2) hz hn
      unfold LayP at c150
      have HSr : Hid (Sp wr s p (ad r) (P * 4096)) := Sr
      clear Sr
      go_wp2_with first | (go_at_call 119; refine (c119 _).mono ?_; rintro _ w1 ⟨rfl, e1⟩; obtain rfl : wr = w1 := e1.symm) | (go_at_call 150; refine c150.mono ?_; rintro _ w2 ⟨rfl, B', L', F', R, e1, r2, f2⟩; have HG : Hid (G1 w s p b m N B f L1 F lf r P c w2) := ⟨HSr.out.fra f2 hne.1 hne.2.1 hne.2.2, (Fra.below HB.out).trans f2, B', L', F', R, e1, r2⟩; clear R e1 r2 f2 c150)
      exact ⟨.inr ⟨rfl, HG⟩, by simp only [intOf]; omega⟩
    · have k2 := HG.out.1.c2
      have kf := HG.out.1.fr 2
      go_wp2_with (go_at_call 119; refine (c119 _).mono ?_; rintro _ w1 ⟨rfl, e1⟩; obtain rfl : wr = w1 := e1.symm)
      go_ret
      refine ⟨rfl, ?_⟩
      obtain ⟨g1, g2, B', L', F', g3, g4, g5⟩ := HG.out
      refine ⟨⟨(World.cell?_setCell_other _ _ _ _ (by simp)).trans g1.c0, (World.cell?_setCell_other _ _ _ _ (by simp)).trans g1.c1, World.cell?_setCell_same' _ _ _ (by rw [g1.c2]; rfl), fun k => by rw [World.frozen?_setCell]; exact g1.fr k⟩, ⟨B', L', F', g3, g4, ?_⟩, ?_, g2.os, g2.tape, g2.output, fun k hk h1 h2 h3 h4 => ?_⟩
      · exact g5.beside ⟨s, 2, .none⟩ _ (fun e => hne.1 e.symm) (fun e => hne.2.1 e.symm) (fun e => hne.2.2 e.symm)
      · simpa [World.setCell] using g2.size
      · exact (Below.heap_setCell _ _ _ _ (fun e => h4 e)).trans (g2.block k hk h1 h2 h3)
end
end Go.Proofs.YtacdgfojdkppmaaGreatDoor.Rm
namespace Go.Proofs.YtacdgfojdkppmaaGreatDoor.Rm
open Go.RowKit
set_option linter.unusedVariables false
set_option linter.unusedSimpArgs false
section
variable {w : World} {s p b m N : Nat} {B : Nat → Int} {L : List Nat} {F : Nat → Option Nat} {lf : Nat → Nat → Int}
theorem write_pg (h : Ram w p b m N B L) (q o n : Nat) (hq : q < N ∧ q ∉ L) (hn : 1 ≤ n) (ho : o + n ≤ 4096) (g k c : Nat) (R : Nat → Int) (hR : ∀ i, 0 ≤ R i ∧ R i < 256) (hg : ∀ i, i < n → w.cell? ⟨g, k + i, .none⟩ = some (.int .u8 (R i))) :
    Calls Tryz.prog 92 #[.pointer (some ⟨p, 0, .none⟩), .int .u64 (ad q + o), .slice (some ⟨g, k, .none⟩) n c] w fun e w' => e = .returned (.bool true) ∧ Ram w' p b m N (over B (q * 4096 + o) ((List.range n).map R)) L ∧ Fra p b m w w' := by
  have hc := write_ok h.mem (q * 4096 + o) n hn (by omega) (fun f h1 h2 => by
    have : f = q := by omega
    rw [this, hdL_in hq.1]
    simp [hq.2]) g k c R hR hg
  rw [show (2147483648 + ((q * 4096 + o : Nat) : Int)) = ad q + o by unfold ad; omega] at hc
  refine hc.mono fun e w' ⟨h1, h2, h3⟩ => ⟨h1, h.laid h2 (fun j hj => ?_), h3⟩
  have hjq : j ≠ q := fun e => hq.2 (e ▸ hj)
  simp only [List.length_map, List.length_range]
  rcases Nat.lt_or_gt_of_ne hjq with h | h <;> omega
theorem ext_low (va : Int) (h : 0 ≤ va ∧ va < 274877906944) : ext va = va := by unfold ext; rw [if_pos (by omega)]; omega
/-- The leaf of a page that a table has. -/
theorem leaf_pt (hP : PT N L B F lf) (hN : N ≤ 4096) {r g1 q1 : Nat} (hr : F 0 = some r) (va : Int) (hv : 0 ≤ va ∧ va < 274877906944) (h1 : F (y1 va) = some g1) (h0 : F (y0 va) = some q1) (hk : kd (lf (y0 va) (i0 va)) 0 = 2) :
    (if finds (look N L B (ad r) va) va = true then (look N L B (ad r) va).e else 0) = lf (y0 va) (i0 va) := by
  rw [look_0 hP hN hr va h1 h0]
  have : finds ⟨st (ad q1) va 0, st (ad g1) va 1, st (ad r) va 2, 0, lf (y0 va) (i0 va), kd (lf (y0 va) (i0 va)) 0⟩ va = true := by
    unfold finds
    rw [ext_low va hv]
    simp [hk]
  rw [if_pos this]
/-- A page is there: its way, its leaf, its frame. -/
structure Pag (N : Nat) (L : List Nat) (F : Nat → Option Nat) (lf : Nat → Nat → Int) (va : Int) (q : Nat) (c : Int) : Prop where
  w1 : ∃ g, F (y1 va) = some g
  w0 : ∃ g, F (y0 va) = some g
  l : lf (y0 va) (i0 va) = toP (ad q) c
  k : kd (toP (ad q) c) 0 = 2
  cb : 0 ≤ c ∧ c < 256 ∧ c % 2 = 0
  qb : q < N ∧ q ∉ L
  nn : ∀ x, F x ≠ some q
theorem Pag.val {va : Int} {q : Nat} {c : Int} (h : Pag N L F lf va q c) (hN : N ≤ 4096) : toP (ad q) c = ad q / 4096 * 1024 + c + 1 := by
  have hb := ad_b q N h.qb.1 hN
  exact toP_val _ _ ⟨hb.1, hb.2.1⟩ (by have := h.cb; omega) h.cb.2.2
theorem kern_pt {r q : Nat} {size c : Int} (hS : Sp w s p (ad r) size) (h : Ram w p b m N B L) (hP : PT N L B F lf) (hr : F 0 = some r) (va : Int) (hv : 0 ≤ va ∧ va < 274877906944) (hq : Pag N L F lf va q c) :
    Calls Tryz.prog 111 #[.pointer (some ⟨s, 0, .none⟩), .int .u64 va] w fun e w' => e = .returned (.tuple #[.int .u64 (ad q + va % 4096), .bool true]) ∧ Below w.heap.size w w' := by
  have hN := h.mem.n2
  have hb := ad_b q N hq.qb.1 hN
  have hrb := ad_b r N (hP.held 0 r hr).2.1 hN
  obtain ⟨g1, e1⟩ := hq.w1
  obtain ⟨g0, e0⟩ := hq.w0
  have c151 := leaf_any h (ad r) va ⟨hrb.1, by omega⟩ (by omega)
  rw [leaf_pt hP hN hr va hv e1 e0 (by rw [hq.l]; exact hq.k), hq.l] at c151
  have hval := hq.val hN
  have hcc := hq.cb
  have hbd : 0 ≤ toP (ad q) c ∧ toP (ad q) c < 18014398509481984 := by rw [hval]; omega
  have hfr : toP (ad q) c / 1024 * 4096 = ad q := by rw [hval]; omega
  have hnz : (toP (ad q) c != 0) = true := by
    have : toP (ad q) c ≠ 0 := by rw [hval]; omega
    simpa using this
  have c152 := fun W => frameOf_any (toP (ad q) c) hbd W
  rw [hfr] at c152
  have hwr : IntKind.u64.wrap (ad q + va % 4096) = ad q + va % 4096 := by rw [IntKind.wrap_u64]; omega
  have k0 := hS.c0
  have k1 := hS.c1
  generalize toP (ad q) c = tp at *
  clear h hP hq hval hfr hS e1 e0
  go_enter Tryz.func111, Tryz.ntmps111
  go_wp2_with first | (go_at_call 151; refine c151.mono ?_; rintro _ w1 ⟨rfl, b1⟩) | (go_at_call 152; refine (c152 _).mono ?_; rintro _ w2 ⟨rfl, e2⟩; obtain rfl : w1 = w2 := e2.symm)
  refine bodyPost_ret (v := .tuple #[.int .u64 (ad q + va % 4096), .bool true]) (by simp [results, Tryz.results111, go_sem]) rfl ⟨rfl, b1⟩
end
end Go.Proofs.YtacdgfojdkppmaaGreatDoor.Rm
namespace Go.Proofs.YtacdgfojdkppmaaGreatDoor.Rm
open Go.RowKit
set_option linter.unusedVariables false
set_option linter.unusedSimpArgs false
/-- Four blocks may have turned. -/
structure Tch (p b m x : Nat) (w w' : World) : Prop where
  os : w'.os = w.os
  tape : w'.tape = w.tape
  output : w'.output = w.output
  size : w.heap.size ≤ w'.heap.size
  block : ∀ k, k < w.heap.size → k ≠ p → k ≠ b → k ≠ m → k ≠ x → w'.heap[k]? = w.heap[k]?
theorem Tch.trans {p b m x : Nat} {u v w : World} (h : Tch p b m x u v) (k : Tch p b m x v w) : Tch p b m x u w :=
  ⟨k.os.trans h.os, k.tape.trans h.tape, k.output.trans h.output, Nat.le_trans h.size k.size, fun i hi a c d e => (k.block i (Nat.lt_of_lt_of_le hi h.size) a c d e).trans (h.block i hi a c d e)⟩
theorem Tch.of {p b m x : Nat} {w w' : World} (h : Fra p b m w w') : Tch p b m x w w' := ⟨h.os, h.tape, h.output, h.size, fun k hk a c d _ => h.block k hk a c d⟩
theorem Tch.fra {p b m x : Nat} {w v w' : World} (hv : Fra p b m w v) (h : Tch p b m x v w') (hx : w.heap.size ≤ x) : Fra p b m w w' :=
  ⟨h.os.trans hv.os, h.tape.trans hv.tape, h.output.trans hv.output, Nat.le_trans hv.size h.size, fun k hk a c d => (h.block k (Nat.lt_of_lt_of_le hk hv.size) a c d (by omega)).trans (hv.block k hk a c d)⟩
theorem Tch.set {p b m x : Nat} {w : World} (k : Nat) (v : Value) : Tch p b m x w (w.setCell ⟨x, k, .none⟩ v) := ⟨rfl, rfl, rfl, by simp [World.setCell], fun i hi _ _ _ e => Below.heap_setCell _ _ _ _ (fun h => e h)⟩
theorem elemU8 (W : World) : (sizeOf (Tryz.prog.elem 22)).run Tryz.prog W = .ok 1 W := elem22 W
theorem cutTo (g k n c : Nat) (h : n ≤ c) (W : World) : (Instr.slice 22 (.slice (some ⟨g, k, .none⟩) n c) none (some (.int .i64 n)) none).run Tryz.prog W = .ok (.slice (some ⟨g, k, .none⟩) n c) W := by
  rw [run_slice_h W 22 (some ⟨g, k, .none⟩) n c (by kernel_rfl) .i64 n (by omega) (by omega), elemU8]
  simp [Result.andThen, sliced, Addr.add]
theorem cutFrom (g k n c : Nat) (h : n ≤ c) (W : World) : ∃ q, (Instr.slice 22 (.slice (some ⟨g, k, .none⟩) n c) (some (.int .i64 n)) none none).run Tryz.prog W = .ok (.slice q 0 (c - n)) W := by
  rw [run_slice_l W 22 (some ⟨g, k, .none⟩) n c (by kernel_rfl) .i64 n (by omega) (by omega), elemU8]
  refine ⟨if c = n then some ⟨g, k, .none⟩ else some ((⟨g, k, .none⟩ : Addr).add n), ?_⟩
  simp [Result.andThen, sliced]
  try (split <;> rfl)
section
variable {w : World} {s p b m N : Nat} {B : Nat → Int} {L : List Nat} {F : Nat → Option Nat} {lf : Nat → Nat → Int}
def PuP (w : World) (p b m x N : Nat) (B : Nat → Int) (L : List Nat) (q o n : Nat) (R : Nat → Int) (e : Ending) (w' : World) : Prop := e = .returned (.bool true) ∧ Ram w' p b m N (over B (q * 4096 + o) ((List.range n).map R)) L ∧ Tch p b m x w w'
set_option maxHeartbeats 1000000 in
theorem put1_any {root size : Int} (hS : Sp w s p root size) (h : Ram w p b m N B L) (q o n : Nat) (hq : q < N ∧ q ∉ L) (hn : 1 ≤ n) (ho : o + n ≤ 4096) (g k c : Nat) (hc : n ≤ c ∧ c ≤ 9223372036854775807) (R : Nat → Int) (hR : ∀ i, 0 ≤ R i ∧ R i < 256) (hg : ∀ i, i < n → w.cell? ⟨g, k + i, .none⟩ = some (.int .u8 (R i)))
    (bv sv : Nat) (hb : w.cell? ⟨bv, 0, .none⟩ = some (.slice (some ⟨g, k, .none⟩) n c)) (hbf : w.frozen? ⟨bv, 0, .none⟩ = false) (hs : w.cell? ⟨sv, 0, .none⟩ = some (.pointer (some ⟨s, 0, .none⟩))) (hne : bv ≠ p ∧ bv ≠ b ∧ bv ≠ m ∧ bv ≠ g ∧ bv ≠ s ∧ bv ≠ sv) :
    Calls Tryz.prog 91 #[.int .u64 (ad q + o), .int .i64 n, .pointer (some ⟨bv, 0, .none⟩), .pointer (some ⟨sv, 0, .none⟩)] w (PuP w p b m bv N B L q o n R) := by
  have ct := cutTo g k n c hc.1 w
  obtain ⟨q2, cf⟩ := cutFrom g k n c hc.1 w
  obtain ⟨w1, hw1⟩ : ∃ w1, w1 = w.setCell ⟨bv, 0, .none⟩ (.slice q2 0 (c - n)) := ⟨_, rfl⟩
  have R1 : Ram w1 p b m N B L := by rw [hw1]; exact h.beside ⟨bv, 0, .none⟩ _ (fun e => hne.1 e.symm) (fun e => hne.2.1 e.symm) (fun e => hne.2.2.1 e.symm)
  have g1 : ∀ i, i < n → w1.cell? ⟨g, k + i, .none⟩ = some (.int .u8 (R i)) := fun i hi => by rw [hw1]; exact (World.cell?_setCell_other _ _ _ _ (by simp only [ne_eq, Addr.mk.injEq, not_and]; intro e; exact absurd e hne.2.2.2.1)).trans (hg i hi)
  have c92 := write_pg R1 q o n hq hn ho g k c R hR g1
  have s1 : w1.cell? ⟨sv, 0, .none⟩ = some (.pointer (some ⟨s, 0, .none⟩)) := by rw [hw1]; exact (World.cell?_setCell_other _ _ _ _ (by simp only [ne_eq, Addr.mk.injEq, not_and]; intro e; exact absurd e hne.2.2.2.2.2)).trans hs
  have k0 : w1.cell? ⟨s, 0, .none⟩ = some (.pointer (some ⟨p, 0, .none⟩)) := by rw [hw1]; exact (World.cell?_setCell_other _ _ _ _ (by simp only [ne_eq, Addr.mk.injEq, not_and]; intro e; exact absurd e hne.2.2.2.2.1)).trans hS.c0
  have HT : Hid (Tch p b m bv w w1) := by rw [hw1]; exact Tch.set _ _
  clear h hg g1 R1 hS hR
  go_enter Tryz.func91, Tryz.ntmps91
  go_upto_region 3 with fail
  rw [← hw1]
  clear hw1
  go_wp2_with (go_at_call 92; refine c92.mono ?_; rintro _ w2 ⟨rfl, r2, f2⟩)
  go_ret
  exact ⟨rfl, r2, HT.out.trans (Tch.of f2)⟩
end
end Go.Proofs.YtacdgfojdkppmaaGreatDoor.Rm
namespace Go.Proofs.YtacdgfojdkppmaaGreatDoor.Rm
open Go.RowKit
set_option linter.unusedVariables false
set_option linter.unusedSimpArgs false
section
variable {w : World} {s p b m N : Nat} {B : Nat → Int} {L : List Nat} {F : Nat → Option Nat} {lf : Nat → Nat → Int}
set_option maxRecDepth 4000 in
set_option maxHeartbeats 2000000 in
theorem each_one {r q : Nat} {size cc : Int} (hS : Sp w s p (ad r) size) (h : Ram w p b m N B L) (hP : PT N L B F lf) (hr : F 0 = some r) (va : Int) (hv : 0 ≤ va ∧ va < 274877906944) (hq : Pag N L F lf va q cc)
    (o n : Nat) (hov : va % 4096 = o) (hn : 1 ≤ n) (ho : o + n ≤ 4096) (g k c : Nat) (hc : n ≤ c ∧ c ≤ 9223372036854775807) (R : Nat → Int) (hR : ∀ i, 0 ≤ R i ∧ R i < 256) (hg : ∀ i, i < n → w.cell? ⟨g, k + i, .none⟩ = some (.int .u8 (R i)))
    (bv sv : Nat) (hb : w.cell? ⟨bv, 0, .none⟩ = some (.slice (some ⟨g, k, .none⟩) n c)) (hbf : w.frozen? ⟨bv, 0, .none⟩ = false) (hs : w.cell? ⟨sv, 0, .none⟩ = some (.pointer (some ⟨s, 0, .none⟩))) (hne : bv ≠ p ∧ bv ≠ b ∧ bv ≠ m ∧ bv ≠ g ∧ bv ≠ s ∧ bv ≠ sv) :
    Calls Tryz.prog 36 #[.pointer (some ⟨s, 0, .none⟩), .int .u64 va, .int .i64 n, .func (.func 111) #[.pointer (some ⟨s, 0, .none⟩)] #[], .func (.func 91) #[] #[.pointer (some ⟨bv, 0, .none⟩), .pointer (some ⟨sv, 0, .none⟩)]] w (PuP w p b m bv N B L q o n R) := by
  have c111 := kern_pt hS h hP hr va hv hq
  rw [hov] at c111
  have HQ : Hid (q < N ∧ q ∉ L) := hq.qb
  have c91 : ∀ W, Below w.heap.size w W → Calls Tryz.prog 91 #[.int .u64 (ad q + o), .int .i64 n, .pointer (some ⟨bv, 0, .none⟩), .pointer (some ⟨sv, 0, .none⟩)] W (PuP W p b m bv N B L q o n R) := fun W bW =>
    put1_any (hS.below bW) (h.below bW) q o n hq.qb hn ho g k c hc R hR (fun i hi => (bW.cell (p := ⟨g, k + i, .none⟩) (lt_of_cell (hg i hi))).trans (hg i hi)) bv sv ((bW.cell (p := ⟨bv, 0, .none⟩) (lt_of_cell hb)).trans hb) ((bW.frozen (p := ⟨bv, 0, .none⟩) (lt_of_cell hb)).trans hbf) ((bW.cell (p := ⟨sv, 0, .none⟩) (lt_of_cell hs)).trans hs) hne
  have HC : Hid (∀ W, Below w.heap.size w W → Calls Tryz.prog 91 #[.int .u64 (ad q + o), .int .i64 n, .pointer (some ⟨bv, 0, .none⟩), .pointer (some ⟨sv, 0, .none⟩)] W (PuP W p b m bv N B L q o n R)) := c91
  have hmin : (n : Int) ≤ 4096 - o := by omega
  have hw4 : IntKind.u64.wrap (4096 - (o : Int)) = 4096 - o := by rw [IntKind.wrap_u64]; omega
  have hwn : IntKind.u64.wrap (n : Int) = n := by rw [IntKind.wrap_u64]; omega
  have hwv : IntKind.u64.wrap (va + n) = va + n := by rw [IntKind.wrap_u64]; omega
  have hn0 : (0 : Int) < n := by omega
  clear hS h hP hq hR hg hb hbf hs c91
  go_enter Tryz.func36, Tryz.ntmps36
  go_wp2_with fail
  go_loopw [1, 2] (fun v j wr => (v = .int .u64 va ∧ j = .int .i64 n ∧ wr = w) ∨ (j = .int .i64 0 ∧ ∃ v', v = .int .u64 v' ∧ Hid (PuP w p b m bv N B L q o n R (.returned (.bool true)) wr))) (fun _ j _ => (intOf j).toNat)
  case atStart => exact .inl ⟨rfl, rfl, rfl⟩
  case round =>
    rcases hrel with ⟨rfl, rfl, rfl⟩ | ⟨rfl, v', rfl, HZ⟩
    · go_wp2_with first | (go_at_call 111; refine c111.mono ?_; rintro _ w1 ⟨rfl, b1⟩; have HB1 : Hid (Below wr.heap.size wr w1) := b1; clear b1 c111) | (go_at_call 91; refine (HC.out _ HB1.out).mono ?_; rintro _ w2 ⟨rfl, r2, t2⟩; have HZ : Hid (PuP wr p b m bv N B L q o n R (.returned (.bool true)) w2) := ⟨rfl, r2, (Tch.of (Fra.below HB1.out)).trans t2⟩; clear r2 t2)
      exact ⟨.inr ⟨rfl, _, rfl, HZ⟩, by simp only [intOf]; omega⟩
    · go_wp2_with fail
      go_ret
      exact HZ.out
def PkP (w : World) (p b m N : Nat) (B : Nat → Int) (L : List Nat) (q o n : Nat) (R : Nat → Int) (e : Ending) (w' : World) : Prop := e = .returned (.bool true) ∧ Ram w' p b m N (over B (q * 4096 + o) ((List.range n).map R)) L ∧ Fra p b m w w'
set_option maxHeartbeats 1000000 in
theorem put_any {r q : Nat} {size cc : Int} (hS : Sp w s p (ad r) size) (h : Ram w p b m N B L) (hP : PT N L B F lf) (hr : F 0 = some r) (va : Int) (hv : 0 ≤ va ∧ va < 274877906944) (hq : Pag N L F lf va q cc)
    (o n : Nat) (hov : va % 4096 = o) (hn : 1 ≤ n) (ho : o + n ≤ 4096) (g k c : Nat) (hc : n ≤ c ∧ c ≤ 9223372036854775807) (R : Nat → Int) (hR : ∀ i, 0 ≤ R i ∧ R i < 256) (hg : ∀ i, i < n → w.cell? ⟨g, k + i, .none⟩ = some (.int .u8 (R i))) :
    Calls Tryz.prog 49 #[.pointer (some ⟨s, 0, .none⟩), .int .u64 va, .slice (some ⟨g, k, .none⟩) n c, .func (.func 111) #[.pointer (some ⟨s, 0, .none⟩)] #[]] w (PkP w p b m N B L q o n R) := by
  obtain ⟨w1, hw1⟩ : ∃ w1, w1 = w.alloc (.cells #[.pointer (some ⟨s, 0, .none⟩)] 32) := ⟨_, rfl⟩
  obtain ⟨w2, hw2⟩ : ∃ w2, w2 = w1.alloc (.cells #[.slice (some ⟨g, k, .none⟩) n c] 22) := ⟨_, rfl⟩
  have z1 : w1.heap.size = w.heap.size + 1 := by rw [hw1]; simp
  have b1 : Below w.heap.size w w1 := by rw [hw1]; exact (Below.refl _ _).alloc (Nat.le_refl _) _
  have b12 : Below w1.heap.size w1 w2 := by rw [hw2]; exact (Below.refl _ _).alloc (Nat.le_refl _) _
  have b2 := b1.trans (b12.mono b1.size)
  have ks : w2.cell? ⟨w.heap.size, 0, .none⟩ = some (.pointer (some ⟨s, 0, .none⟩)) := (b12.cell (p := ⟨w.heap.size, 0, .none⟩) (by show w.heap.size < w1.heap.size; omega)).trans (by rw [hw1]; simp)
  have kb : w2.cell? ⟨w.heap.size + 1, 0, .none⟩ = some (.slice (some ⟨g, k, .none⟩) n c) := by rw [← z1, hw2]; simp
  have kf : w2.frozen? ⟨w.heap.size + 1, 0, .none⟩ = false := by rw [← z1, hw2]; exact World.frozen?_alloc_new _ _ _ _
  have hp : p < w.heap.size := lt_of_cell h.mem.c0
  have hbb : b < w.heap.size := lt_of_cell (h.mem.cb 0 (by have := h.mem.n1; omega))
  have hm : m < w.heap.size := h.mem.mlt
  have hgl : g < w.heap.size := lt_of_cell (hg 0 (by omega))
  have hsl := hS.lt
  have c36 := each_one (hS.below b2) (h.below b2) hP hr va hv hq o n hov hn ho g k c hc R hR (fun i hi => (b2.cell (p := ⟨g, k + i, .none⟩) hgl).trans (hg i hi)) (w.heap.size + 1) w.heap.size kb kf ks ⟨by omega, by omega, by omega, by omega, by omega, by omega⟩
  have HB : Hid (Below w.heap.size w w2) := b2
  clear hS h hP hq hR hg b1 b12 b2 z1 kf hr
  go_enter Tryz.func49, Tryz.ntmps49
  go_upto_region 1 with fail
  rw [← hw1, ← hw2]
  clear hw1 hw2
  go_wp2_with (go_at_call 36; refine c36.mono ?_; rintro _ w3 ⟨rfl, r3, t3⟩)
  go_ret
  exact ⟨rfl, r3, Tch.fra (Fra.below HB.out) t3 (by omega)⟩
set_option maxHeartbeats 1000000 in
theorem poke_any {r q : Nat} {size cc : Int} (hS : Sp w s p (ad r) size) (h : Ram w p b m N B L) (hP : PT N L B F lf) (hr : F 0 = some r) (va : Int) (hv : 0 ≤ va ∧ va < 274877906944) (hq : Pag N L F lf va q cc)
    (o n : Nat) (hov : va % 4096 = o) (hn : 1 ≤ n) (ho : o + n ≤ 4096) (g k c : Nat) (hc : n ≤ c ∧ c ≤ 9223372036854775807) (R : Nat → Int) (hR : ∀ i, 0 ≤ R i ∧ R i < 256) (hg : ∀ i, i < n → w.cell? ⟨g, k + i, .none⟩ = some (.int .u8 (R i))) (hsz : va + n ≤ size ∧ size < 18446744073709551616) :
    Calls Tryz.prog 63 #[.pointer (some ⟨s, 0, .none⟩), .int .u64 va, .slice (some ⟨g, k, .none⟩) n c] w (PkP w p b m N B L q o n R) := by
  have c33 := made_sp hS
  have c34 := fits_any va n size (by omega) (by omega) (by omega) (by omega) w
  have c49 := put_any hS h hP hr va hv hq o n hov hn ho g k c hc R hR hg
  have k2 := hS.c2
  clear hS h hP hq hR hg hr
  go_enter Tryz.func63, Tryz.ntmps63
  go_wp2_with first | (go_at_call 33; refine c33.mono ?_; rintro _ w1 ⟨rfl, e1⟩; obtain rfl : w = w1 := e1.symm) | (go_at_call 34; refine c34.mono ?_; rintro _ w1 ⟨rfl, e1⟩; obtain rfl : w = w1 := e1.symm) | (go_at_call 49; refine c49.mono ?_; rintro _ w3 ⟨rfl, r3, t3⟩)
  go_ret
  exact ⟨rfl, r3, t3⟩
end
end Go.Proofs.YtacdgfojdkppmaaGreatDoor.Rm
