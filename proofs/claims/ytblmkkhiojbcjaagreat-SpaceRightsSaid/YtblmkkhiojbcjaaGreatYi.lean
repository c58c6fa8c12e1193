import Derived.Test.YtblmkkhiojbcjaaGreatYg
namespace Go.Proofs.YtblmkkhiojbcjaaGreat
open Go.RowKit
set_option linter.unusedVariables false
set_option linter.unusedSimpArgs false
section
variable {w : World} {s p b m N : Nat} {root size : Int} {B : Nat → Int} {L : List Nat}
set_option maxHeartbeats 1000000 in
theorem tail_zero (h : Sp w s p root size) (hs : 0 ≤ size ∧ size ≤ 1099511627776) (ha : size % 4096 = 0) : Calls Tryz.prog 47 #[.pointer (some ⟨s, 0, .none⟩)] w fun e w' => e = .returned (.tuple #[]) ∧ Below w.heap.size w w' := by
  obtain ⟨X, hX⟩ : ∃ X, X = w.heap.size := ⟨_, rfl⟩
  obtain ⟨w1, hw1⟩ : ∃ w1, w1 = w.alloc (.cells #[.pointer (some ⟨s, 0, .none⟩)] 26) := ⟨_, rfl⟩
  have b1 : Below w.heap.size w w1 := by rw [hw1]; exact (Below.refl _ _).alloc (Nat.le_refl _) _
  have k1 : w1.cell? ⟨X, 0, .none⟩ = some (.pointer (some ⟨s, 0, .none⟩)) := by rw [hw1, hX]; simp
  have h1 := h.below b1
  have hd : (w1.drew).heap.size = w1.heap.size := rfl
  have bd : Below w1.heap.size w1 w1.drew := (Below.refl _ _).drew
  have h2 := h1.below bd
  have kS : w1.drew.cell? ⟨X, 0, .none⟩ = some (.pointer (some ⟨s, 0, .none⟩)) ∧ w1.drew.cell? ⟨s, 2, .none⟩ = some (.int .u64 size) := ⟨k1, h2.c2⟩
  have c35 := end_any h2 hs
  rw [show (size + 4095) / 4096 * 4096 = size by omega] at c35
  have HB : Hid (Below w.heap.size w w1) := b1
  have e0 : IntKind.u64.wrap (size - size) = 0 := by rw [IntKind.wrap_u64]; omega
  have z0 : IntKind.u64.wrap 0 = 0 := by decide
  have z1 : IntKind.i64.wrap 0 = 0 := by decide
  clear h h1 h2 b1 k1 hd bd ha
  go_enter Tryz.func47, Tryz.ntmps47
  go_upto_region 1 with fail
  rw [← hw1, ← hX]
  have HXX : Hid (X = w.heap.size) := hX
  clear hw1 hX
  refine wp_region_held_drew (S := (fun U => U.cell? ⟨X, 0, .none⟩ = some (.pointer (some ⟨s, 0, .none⟩)) ∧ U.cell? ⟨s, 2, .none⟩ = some (.int .u64 size))) (by kernel_rfl) kS (fun hHeld => ?_)
  refine wpAnyH_take (i := 0) (v := (.pointer (some ⟨s, 0, .none⟩))) rfl (by kernel_rfl) (by kernel_rfl) (by kernel_rfl) (fun _ _ _ h => h) (Or.inl ⟨by rfl, fun ww hSw => by (try dsimp only at hSw); go_simp⟩) (by assumption) ?_
  simp only [Act.put, List.setIfInBounds_toArray, List.set_cons_zero, List.set_cons_succ, List.getElem_toArray, List.getElem_cons_succ, List.getElem_cons_zero]
  refine wpAnyH_take (i := 2) (v := (.pointer (some ⟨s, 0, .none⟩))) rfl (by kernel_rfl) (by kernel_rfl) (by kernel_rfl) (fun _ _ _ h => h) (Or.inl ⟨by rfl, fun ww hSw => by (try dsimp only at hSw); go_simp⟩) (by assumption) ?_
  simp only [Act.put, List.setIfInBounds_toArray, List.set_cons_zero, List.set_cons_succ, List.getElem_toArray, List.getElem_cons_succ, List.getElem_cons_zero]
  refine wpAnyH_take (i := 3) (v := (.pointer (some ⟨s, 0, .none⟩))) rfl (by kernel_rfl) (by kernel_rfl) (by kernel_rfl) (fun _ _ _ h => h) (Or.inl ⟨by rfl, fun ww hSw => by (try dsimp only at hSw); go_simp⟩) (by assumption) ?_
  simp only [Act.put, List.setIfInBounds_toArray, List.set_cons_zero, List.set_cons_succ, List.getElem_toArray, List.getElem_cons_succ, List.getElem_cons_zero]
  refine wpAnyH_take (i := 4) (v := (.pointer (some ⟨s, 2, .none⟩))) rfl (by kernel_rfl) (by kernel_rfl) (by kernel_rfl) (fun _ _ _ h => h) (Or.inl ⟨by rfl, fun ww hSw => by (try dsimp only at hSw); go_simp⟩) (by assumption) ?_
  simp only [Act.put, List.setIfInBounds_toArray, List.set_cons_zero, List.set_cons_succ, List.getElem_toArray, List.getElem_cons_succ, List.getElem_cons_zero]
  refine wpAnyH_take (i := 5) (v := (.int .u64 size)) rfl (by kernel_rfl) (by kernel_rfl) (by kernel_rfl) (fun _ _ _ h => h) (Or.inl ⟨by rfl, fun ww hSw => by (try dsimp only at hSw); go_simp⟩) (by assumption) ?_
  simp only [Act.put, List.setIfInBounds_toArray, List.set_cons_zero, List.set_cons_succ, List.getElem_toArray, List.getElem_cons_succ, List.getElem_cons_zero]
  refine wpAnyH_ready (rs := [1]) (by kernel_rfl) (by simp) ?_
  refine AllReadyH.cons rfl (fun K hK => ?_) AllReadyH.nil
  go_simp
  go_at_call 51
  refine c35.mono ?_
  rintro _ w3 ⟨rfl, e3⟩
  obtain rfl : w1.drew = w3 := e3.symm
  refine hK.out _ _ kS (fun hHeld => ?_)
  clear hK K
  try simp only [Act.put, List.setIfInBounds_toArray, List.set_cons_zero, List.set_cons_succ, List.getElem_toArray, List.getElem_cons_succ, List.getElem_cons_zero]
  refine wpAnyH_take (i := 6) (v := (.int .u64 0)) rfl (by kernel_rfl) (by kernel_rfl) (by kernel_rfl) (fun _ _ _ h => h) (Or.inl ⟨by rfl, fun ww hSw => by (try dsimp only at hSw); go_simp⟩) (by assumption) ?_
  simp only [Act.put, List.setIfInBounds_toArray, List.set_cons_zero, List.set_cons_succ, List.getElem_toArray, List.getElem_cons_succ, List.getElem_cons_zero]
  refine wpAnyH_take (i := 7) (v := (.int .i64 0)) rfl (by kernel_rfl) (by kernel_rfl) (by kernel_rfl) (fun _ _ _ h => h) (Or.inl ⟨by rfl, fun ww hSw => by (try dsimp only at hSw); go_simp⟩) (by assumption) ?_
  simp only [Act.put, List.setIfInBounds_toArray, List.set_cons_zero, List.set_cons_succ, List.getElem_toArray, List.getElem_cons_succ, List.getElem_cons_zero]
  refine wpAnyH_take (i := 8) (v := (.int .i64 0)) rfl (by kernel_rfl) (by kernel_rfl) (by kernel_rfl) (fun _ _ _ h => h) (Or.inl ⟨by rfl, fun ww hSw => by (try dsimp only at hSw); go_simp⟩) (by assumption) ?_
  simp only [Act.put, List.setIfInBounds_toArray, List.set_cons_zero, List.set_cons_succ, List.getElem_toArray, List.getElem_cons_succ, List.getElem_cons_zero]
  refine wpAnyH_done (by kernel_rfl) ?_ _
  have kS2 : w1.drew.drew.cell? ⟨X, 0, .none⟩ = some (.pointer (some ⟨s, 0, .none⟩)) ∧ w1.drew.drew.cell? ⟨s, 2, .none⟩ = some (.int .u64 size) := kS
  go_upto_region 2 with fail
  refine wp_region_held_drew (S := (fun U => U.cell? ⟨X, 0, .none⟩ = some (.pointer (some ⟨s, 0, .none⟩)) ∧ U.cell? ⟨s, 2, .none⟩ = some (.int .u64 size))) (by kernel_rfl) kS2 (fun hHeld => ?_)
  refine wpAnyH_take (i := 0) (v := (.pointer (some ⟨s, 0, .none⟩))) rfl (by kernel_rfl) (by kernel_rfl) (by kernel_rfl) (fun _ _ _ h => h) (Or.inl ⟨by rfl, fun ww hSw => by (try dsimp only at hSw); go_simp⟩) (by assumption) ?_
  simp only [Act.put, List.setIfInBounds_toArray, List.set_cons_zero, List.set_cons_succ, List.getElem_toArray, List.getElem_cons_succ, List.getElem_cons_zero]
  refine wpAnyH_take (i := 1) (v := (.pointer (some ⟨s, 0, .none⟩))) rfl (by kernel_rfl) (by kernel_rfl) (by kernel_rfl) (fun _ _ _ h => h) (Or.inl ⟨by rfl, fun ww hSw => by (try dsimp only at hSw); go_simp⟩) (by assumption) ?_
  simp only [Act.put, List.setIfInBounds_toArray, List.set_cons_zero, List.set_cons_succ, List.getElem_toArray, List.getElem_cons_succ, List.getElem_cons_zero]
  refine wpAnyH_take (i := 2) (v := (.pointer (some ⟨s, 0, .none⟩))) rfl (by kernel_rfl) (by kernel_rfl) (by kernel_rfl) (fun _ _ _ h => h) (Or.inl ⟨by rfl, fun ww hSw => by (try dsimp only at hSw); go_simp⟩) (by assumption) ?_
  simp only [Act.put, List.setIfInBounds_toArray, List.set_cons_zero, List.set_cons_succ, List.getElem_toArray, List.getElem_cons_succ, List.getElem_cons_zero]
  refine wpAnyH_take (i := 3) (v := (.pointer (some ⟨s, 2, .none⟩))) rfl (by kernel_rfl) (by kernel_rfl) (by kernel_rfl) (fun _ _ _ h => h) (Or.inl ⟨by rfl, fun ww hSw => by (try dsimp only at hSw); go_simp⟩) (by assumption) ?_
  simp only [Act.put, List.setIfInBounds_toArray, List.set_cons_zero, List.set_cons_succ, List.getElem_toArray, List.getElem_cons_succ, List.getElem_cons_zero]
  refine wpAnyH_take (i := 4) (v := (.int .u64 size)) rfl (by kernel_rfl) (by kernel_rfl) (by kernel_rfl) (fun _ _ _ h => h) (Or.inl ⟨by rfl, fun ww hSw => by (try dsimp only at hSw); go_simp⟩) (by assumption) ?_
  simp only [Act.put, List.setIfInBounds_toArray, List.set_cons_zero, List.set_cons_succ, List.getElem_toArray, List.getElem_cons_succ, List.getElem_cons_zero]
  refine wpAnyH_take (i := 5) (v := (.int .i64 0)) rfl (by kernel_rfl) (by kernel_rfl) (by kernel_rfl) (fun _ _ _ h => h) (Or.inl ⟨by rfl, fun ww hSw => by (try dsimp only at hSw); go_simp⟩) (by assumption) ?_
  simp only [Act.put, List.setIfInBounds_toArray, List.set_cons_zero, List.set_cons_succ, List.getElem_toArray, List.getElem_cons_succ, List.getElem_cons_zero]
  refine wpAnyH_take (i := 6) (v := (.pointer (some ⟨s, 0, .none⟩))) rfl (by kernel_rfl) (by kernel_rfl) (by kernel_rfl) (fun _ _ _ h => h) (Or.inl ⟨by rfl, fun ww hSw => by (try dsimp only at hSw); go_simp⟩) (by assumption) ?_
  simp only [Act.put, List.setIfInBounds_toArray, List.set_cons_zero, List.set_cons_succ, List.getElem_toArray, List.getElem_cons_succ, List.getElem_cons_zero]
  refine wpAnyH_take (i := 7) (v := (.func (.func 58) #[.pointer (some ⟨s, 0, .none⟩)] #[])) rfl (by kernel_rfl) (by kernel_rfl) (by kernel_rfl) (fun _ _ _ h => h) (Or.inl ⟨by rfl, fun ww hSw => by (try dsimp only at hSw); go_simp⟩) (by assumption) ?_
  simp only [Act.put, List.setIfInBounds_toArray, List.set_cons_zero, List.set_cons_succ, List.getElem_toArray, List.getElem_cons_succ, List.getElem_cons_zero]
  refine wpAnyH_take (i := 8) (v := (.func (.func 84) #[] #[.pointer (some ⟨X, 0, .none⟩)])) rfl (by kernel_rfl) (by kernel_rfl) (by kernel_rfl) (fun _ _ _ h => h) (Or.inl ⟨by rfl, fun ww hSw => by (try dsimp only at hSw); go_simp⟩) (by assumption) ?_
  simp only [Act.put, List.setIfInBounds_toArray, List.set_cons_zero, List.set_cons_succ, List.getElem_toArray, List.getElem_cons_succ, List.getElem_cons_zero]
  refine wpAnyH_ready (rs := [9]) (by kernel_rfl) (by simp) ?_
  refine AllReadyH.cons rfl (fun K hK => ?_) AllReadyH.nil
  go_simp
  go_at_call 52
  refine (each_zero _ _ _ _ _).mono ?_
  rintro _ w3 ⟨rfl, e3⟩
  obtain rfl : w1.drew.drew = w3 := e3.symm
  refine hK.out _ _ kS2 (fun hHeld => ?_)
  clear hK K
  try simp only [Act.put, List.setIfInBounds_toArray, List.set_cons_zero, List.set_cons_succ, List.getElem_toArray, List.getElem_cons_succ, List.getElem_cons_zero]
  refine wpAnyH_done (by kernel_rfl) ?_ _
  go_wp2_with fail
  refine bodyPost_end (v := .tuple #[]) (by simp [results, Tryz.results47, go_sem]) rfl ⟨rfl, HB.out.drew.drew⟩
end
end Go.Proofs.YtblmkkhiojbcjaaGreat
namespace Go.Proofs.YtblmkkhiojbcjaaGreat
open Go.RowKit
set_option linter.unusedVariables false
set_option linter.unusedSimpArgs false
/-- What Grow by a page comes to. -/
def GrP (w : World) (s p b m N : Nat) (B : Nat → Int) (f : Nat) (L1 : List Nat) (F : Nat → Option Nat) (lf : Nat → Nat → Int) (r : Nat) (P c : Int) (w' : World) : Prop :=
  Sp w' s p (ad r) ((P + 1) * 4096) ∧ (∃ B' L' F', LP N (P * 4096) (toP (ad f) (c + 208)) L1 (zer B f) F lf L' B' F' ∧ L1 = L1.take (needY F (P * 4096)) ++ L' ∧ Ram w' p b m N B' L') ∧
  w.heap.size ≤ w'.heap.size ∧ w'.os = w.os ∧ w'.tape = w.tape ∧ w'.output = w.output ∧ ∀ k, k < w.heap.size → k ≠ p → k ≠ b → k ≠ m → k ≠ s → w'.heap[k]? = w.heap[k]?
def G1 (w : World) (s p b m N : Nat) (B : Nat → Int) (f : Nat) (L1 : List Nat) (F : Nat → Option Nat) (lf : Nat → Nat → Int) (r : Nat) (P c : Int) (w' : World) : Prop :=
  Sp w' s p (ad r) (P * 4096) ∧ Fra p b m w w' ∧ ∃ B' L' F', LP N (P * 4096) (toP (ad f) (c + 208)) L1 (zer B f) F lf L' B' F' ∧ L1 = L1.take (needY F (P * 4096)) ++ L' ∧ Ram w' p b m N B' L'
section
variable {w : World} {s p b m N : Nat} {B : Nat → Int} {F : Nat → Option Nat} {lf : Nat → Nat → Int}
set_option maxRecDepth 4000 in
set_option maxHeartbeats 2000000 in
theorem grow_pt {f r : Nat} {L1 : List Nat} {P c : Int} (hS : Sp w s p (ad r) (P * 4096)) (h : Ram w p b m N B (f :: L1)) (hP : PT N (f :: L1) B F lf) (hr : F 0 = some r) (hne : s ≠ p ∧ s ≠ b ∧ s ≠ m) (hPb : 0 ≤ P ∧ P < 4096) (hc : rgt c)
    (hz : lf (y0 (P * 4096)) (i0 (P * 4096)) = 0) (hn : needY F (P * 4096) ≤ L1.length) (hd : 1 + ndP (P + 1) - ndP P ≤ (f :: L1).length) :
    Calls Tryz.prog 9 #[.pointer (some ⟨s, 0, .none⟩), .int .u64 ((P + 1) * 4096), .int .u64 c] w fun e w' => e = .returned (.int .i64 0) ∧ GrP w s p b m N B f L1 F lf r P c w' := by
  have hN := h.mem.n2
  have hf := h.lt f (List.mem_cons_self ..)
  have hcb : 0 ≤ c ∧ c < 16 := by rcases hc with rfl | rfl | rfl | rfl | rfl <;> omega
  obtain ⟨o1, o2, o3⟩ := rgt_or hc
  have c33 := fun W (hW : Sp W s p (ad r) (P * 4096)) => made_sp hW
  have c147 := fun W => mayS_any c hc W
  have c119 := fun W => pagesOf_any ((P + 1) * 4096) (by omega) W
  rw [show ((P + 1) * 4096 + 4095) / 4096 = P + 1 by omega] at c119
  have c77 := fun W (hW : Sp W s p (ad r) (P * 4096)) => pages_sp hW (by omega)
  rw [show (P * 4096 + 4095) / 4096 = P by omega] at c77
  have c148 := room_any hS h P hPb rfl hd
  have H0 : Hid (Sp w s p (ad r) (P * 4096) ∧ Ram w p b m N B (f :: L1) ∧ PT N (f :: L1) B F lf ∧ F 0 = some r) := ⟨hS, h, hP, hr⟩
  have HC : Hid (rgt c ∧ f < N ∧ N ≤ 4096) := ⟨hc, hf.2, hN⟩
  have k2 := hS.c2
  have k0 := hS.c0
  have k1 := hS.c1
  have hlt := hS.lt
  clear hS h hP hr hd hc hf
  go_enter Tryz.func9, Tryz.ntmps9
  go_upto_region 7 with first | (go_at_call 43; refine (c33 _ H0.out.1).mono ?_; rintro _ w1 ⟨rfl, e1⟩; obtain rfl : w = w1 := e1.symm) | (go_at_call 44; refine (c147 _).mono ?_; rintro _ w1 ⟨rfl, e1⟩; obtain rfl : w = w1 := e1.symm)
  go_upto_region 9 with first | (go_at_call 46; refine (c119 _).mono ?_; rintro _ w1 ⟨rfl, e1⟩; obtain rfl : w = w1 := e1.symm) | (go_at_call 45; refine c148.mono ?_; rintro _ w1 ⟨rfl, k3, rfl⟩)
  obtain ⟨wa, hwa⟩ : ∃ wa, wa = w.drewN k3 := ⟨_, rfl⟩
  have ba : Below w.heap.size w wa := by rw [hwa]; exact below_dr w k3
  rw [← hwa]
  clear hwa k2 k0 k1
  have Sa := H0.out.1.below ba
  have HA : Hid (Below w.heap.size w wa) := ba
  have k2 := Sa.c2
  have c149 := tail_zero Sa (by omega) (by omega)
  have hgt : P < P + 1 := by omega
  clear ba
  go_upto_region 11 with (go_at_call 47; refine c149.mono ?_; rintro _ wb ⟨rfl, b2⟩; have HBb : Hid (Below w.heap.size w wb) := HA.out.trans (b2.mono HA.out.size); clear b2 c149)
  have Sb := H0.out.1.below HBb.out
  have d77 := c77 wb Sb
  clear Sb Sa k2 HA
  go_wp2_with (go_at_call 19; refine d77.mono ?_; rintro _ w1 ⟨rfl, e1⟩; obtain rfl : wb = w1 := e1.symm)
  go_loopw [7] (fun k wr => (k = .int .i64 P ∧ Hid (Below w.heap.size w wr)) ∨ (k = .int .i64 (P + 1) ∧ Hid (G1 w s p b m N B f L1 F lf r P c wr))) (fun k _ => (P + 1 - intOf k).toNat)
  case atStart => exact .inl ⟨rfl, HBb.out⟩
  case round =>
    rcases hrel with ⟨rfl, HB⟩ | ⟨rfl, HG⟩
    · have Sr := H0.out.1.below HB.out
      have k0 := Sr.c0
      have k1 := Sr.c1
      have k2 := Sr.c2
      have c150 := lay_pt (H0.out.2.1.below HB.out) H0.out.2.2.1 H0.out.2.2.2 P (c + 208) (by omega) (rgt_ok HC.out.1) (rgt_leaf HC.out.1 HC.out.2.1 HC.out.2.2) hz hn
      unfold LayP at c150
      have HSr : Hid (Sp wr s p (ad r) (P * 4096)) := Sr
      clear Sr
      go_wp2_with first | (go_at_call 46; refine (c119 _).mono ?_; rintro _ w1 ⟨rfl, e1⟩; obtain rfl : wr = w1 := e1.symm) | (go_at_call 48; refine c150.mono ?_; rintro _ w2 ⟨rfl, B', L', F', R, e1, r2, f2⟩; have HG : Hid (G1 w s p b m N B f L1 F lf r P c w2) := ⟨HSr.out.fra f2 hne.1 hne.2.1 hne.2.2, (Fra.below HB.out).trans f2, B', L', F', R, e1, r2⟩; clear R e1 r2 f2 c150)
      exact ⟨.inr ⟨rfl, HG⟩, by simp only [intOf]; omega⟩
    · have k2 := HG.out.1.c2
      have kf := HG.out.1.fr 2
      go_wp2_with (go_at_call 46; refine (c119 _).mono ?_; rintro _ w1 ⟨rfl, e1⟩; obtain rfl : wr = w1 := e1.symm)
      go_ret
      refine ⟨rfl, ?_⟩
      obtain ⟨g1, g2, B', L', F', g3, g4, g5⟩ := HG.out
      refine ⟨⟨(World.cell?_setCell_other _ _ _ _ (by simp)).trans g1.c0, (World.cell?_setCell_other _ _ _ _ (by simp)).trans g1.c1, World.cell?_setCell_same' _ _ _ (by rw [g1.c2]; rfl), fun k => by rw [World.frozen?_setCell]; exact g1.fr k⟩, ⟨B', L', F', g3, g4, ?_⟩, ?_, g2.os, g2.tape, g2.output, fun k hk h1 h2 h3 h4 => ?_⟩
      · exact g5.beside ⟨s, 2, .none⟩ _ (fun e => hne.1 e.symm) (fun e => hne.2.1 e.symm) (fun e => hne.2.2 e.symm)
      · simpa [World.setCell] using g2.size
      · exact (Below.heap_setCell _ _ _ _ (fun e => h4 e)).trans (g2.block k hk h1 h2 h3)
end
end Go.Proofs.YtblmkkhiojbcjaaGreat
