import Derived.Test.YtblmkkhiojbcjaaGreatGm
import Derived.Test.YtblmkkhiojbcjaaGreatGj
import Derived.Test.YtblmkkhiojbcjaaGreatEw
import Derived.Deep.DeepCutAuto
namespace Go.Proofs.YtblmkkhiojbcjaaGreat
open Go Go.RowKit Fz
set_option linter.unusedVariables false
set_option linter.unusedSimpArgs false
/-- The pages near a border. -/
def atF (i : Nat) : Nat := [0, 1, 510, 511, 512, 1023, 1024].getD i 0
theorem atF_b (i : Nat) (hi : i < 7) : atF i ≤ 1024 := by
  obtain rfl | rfl | rfl | rfl | rfl | rfl | rfl : i = 0 ∨ i = 1 ∨ i = 2 ∨ i = 3 ∨ i = 4 ∨ i = 5 ∨ i = 6 := by omega
  all_goals decide
theorem atF_ne (i j : Nat) (hi : i < 7) (hj : j < i) : atF j < atF i := by
  obtain rfl | rfl | rfl | rfl | rfl | rfl | rfl : i = 0 ∨ i = 1 ∨ i = 2 ∨ i = 3 ∨ i = 4 ∨ i = 5 ∨ i = 6 := by omega
  all_goals (obtain rfl | rfl | rfl | rfl | rfl | rfl : j = 0 ∨ j = 1 ∨ j = 2 ∨ j = 3 ∨ j = 4 ∨ j = 5 := by omega) <;> first | decide | omega
section
variable {w : World} {s p b m N r P ft : Nat} {size : Int} {B : Nat → Int} {L : List Nat} {F : Nat → Option Nat} {lf : Nat → Nat → Int} {fr : Nat → Nat} {c : Nat → Int}
/-- Bytes beside those that are written. -/
theorem wrU_off (hi : ∀ i j, i < P → j < P → fr i = fr j → i = j) (va : Nat) (R : Nat → Int) (x : Nat) (hx : x < P * 4096) : ∀ n, va + n ≤ P * 4096 → (∀ j, j < n → va + j ≠ x) → btU (wrU B fr va R n) fr x = btU B fr x
  | 0, _, _ => rfl
  | n + 1, hv, hne => by
    have ih := wrU_off hi va R x hx n (by omega) (fun j hj => hne j (by omega))
    unfold btU at ih ⊢
    unfold wrU
    rw [if_neg, ih]
    intro e
    have h1 : fr (x / 4096) = fr ((va + n) / 4096) := by omega
    have h2 := hi _ _ (by omega) (by omega) h1
    exact hne n (by omega) (by omega)
theorem SpT.inj (h : SpT w s p b m N r P ft size B L F lf fr c) : ∀ i j, i < P → j < P → fr i = fr j → i = j := fun i j hi hj e => h.tab.inj i (List.mem_range.2 hi) j (List.mem_range.2 hj) e
theorem acc214 (hc : ∀ i, i < P → c i = 214) (t x : Nat) (hx : x < P * 4096) (ht : t = 1 ∨ t = 2) : accU c t x = true := by
  unfold accU
  rw [hc _ (by omega)]
  rcases ht with rfl | rfl <;> decide
theorem can214 (hc : ∀ i, i < P → c i = 214) (va n : Nat) : canU P c va n ↔ va + n ≤ P * 4096 := ⟨fun h => h.1, fun h => ⟨h, fun j hj => acc214 hc 2 (va + j) (by omega) (.inr rfl)⟩⟩
/-- Two bytes are written at a page's beginning. -/
def OuB (w : World) (s p b m N r P ft : Nat) (size : Int) (L : List Nat) (F : Nat → Option Nat) (lf : Nat → Nat → Int) (fr : Nat → Nat) (c : Nat → Int) (B : Nat → Int) (a : Nat) (x y : Int) (e : Ending) (w' : World) : Prop := e = .returned (.bool (decide (a < P))) ∧ Fra p b m w w' ∧ ∃ B', SpT w' s p b m N r P ft size B' L F lf fr c ∧ (a < P → btU B' fr (4096 * a) = x ∧ btU B' fr (4096 * a + 1) = y) ∧ ∀ z, z < P * 4096 → z ≠ 4096 * a → z ≠ 4096 * a + 1 → btU B' fr z = btU B fr z
theorem out_two (h : SpT w s p b m N r P ft size B L F lf fr c) (hc : ∀ i, i < P → c i = 214) (a : Nat) (ha : a ≤ 4096) (g : Nat) (x y : Int) (hx : 0 ≤ x ∧ x < 256) (hy : 0 ≤ y ∧ y < 256) (k0 : w.cell? ⟨g, 0, .none⟩ = some (.int .u8 x)) (k1 : w.cell? ⟨g, 1, .none⟩ = some (.int .u8 y)) (hg : g ≠ p ∧ g ≠ b ∧ g ≠ m) :
    Calls Tryz.prog 16 #[.pointer (some ⟨s, 0, .none⟩), .int .u64 (4096 * (a : Int)), .slice (some ⟨g, 0, .none⟩) 2 2] w (OuB w s p b m N r P ft size L F lf fr c B a x y) := by
  have cc := out_any h.su (4096 * a) 2 (by omega) ⟨by omega, by omega⟩ g 0 2 ⟨by omega, by omega⟩ (fun i => if i = 0 then x else y) (fun i => by split <;> assumption) (fun i hi => by
    rw [Nat.zero_add]
    obtain e | e : i = 0 ∨ i = 1 := by omega
    · rw [e, if_pos rfl]; exact k0
    · rw [e, if_neg (by omega)]; exact k1) hg
  rw [show (((4096 * a : Nat) : Int)) = 4096 * (a : Int) by omega] at cc
  refine cc.mono fun e w' hh => ?_
  rcases hh with ⟨h1, h2⟩ | ⟨h1, h2, h3⟩
  · have hv := (can214 hc _ _).1 h1
    have hw := h.wr hv h2
    refine ⟨by rw [h2.1, decide_eq_true (by omega)], hw.2.2, _, hw.1, fun _ => ⟨?_, ?_⟩, fun z hz z1 z2 => ?_⟩
    · have := wrU_at B fr (4096 * a) (fun i => if i = 0 then x else y) P h.inj 2 hv 0 (by omega)
      rw [Nat.add_zero] at this
      rw [this, if_pos rfl]
    · have := wrU_at B fr (4096 * a) (fun i => if i = 0 then x else y) P h.inj 2 hv 1 (by omega)
      rw [this, if_neg (by omega)]
    · exact wrU_off h.inj (4096 * a) _ z hz 2 hv (fun j hj e => by
        obtain e2 | e2 : j = 0 ∨ j = 1 := by omega
        · subst e2; exact z1 (by omega)
        · subst e2; exact z2 (by omega))
  · have hv : ¬ a < P := fun h9 => h1 ((can214 hc _ _).2 (by omega))
    exact ⟨by rw [h2, decide_eq_false hv], Fra.below h3, B, h.below h3, fun h9 => absurd h9 hv, fun _ _ _ _ => rfl⟩
/-- Bytes are read where there are pages. -/
def InB (w : World) (P : Nat) (B : Nat → Int) (fr : Nat → Nat) (va n : Nat) (e : Ending) (w' : World) : Prop := Below w.heap.size w w' ∧ ((va + n ≤ P * 4096 ∧ ∃ g, e = .returned (.tuple #[.slice (some ⟨g, 0, .none⟩) n n, .bool true]) ∧ ∀ j, j < n → w'.cell? ⟨g, j, .none⟩ = some (.int .u8 (btU B fr (va + j)))) ∨ (¬ va + n ≤ P * 4096 ∧ e = .returned (.tuple #[.slice none 0 0, .bool false])))
theorem in_two (h : SpT w s p b m N r P ft size B L F lf fr c) (hc : ∀ i, i < P → c i = 214) (va n : Nat) (hn : 1 ≤ n ∧ n ≤ 4096) (hva : va ≤ 16777216) : Calls Tryz.prog 13 #[.pointer (some ⟨s, 0, .none⟩), .int .u64 va, .int .i64 n] w (InB w P B fr va n) := by
  by_cases hf : va + n ≤ P * 4096
  · refine (in_any h.su va n hn.1 hf).mono fun e w' hh => ?_
    obtain ⟨hb, ⟨_, g, h1, h2, h3, h4⟩ | ⟨⟨j, hj, h1⟩, _⟩⟩ := hh
    · exact ⟨hb, .inl ⟨hf, g, h3, h4⟩⟩
    · rw [acc214 hc 1 _ (by omega) (.inl rfl)] at h1
      cases h1
  · exact (in_far h.su va n hn.1 ⟨by omega, by omega⟩ hf).mono fun e w' hh => ⟨hh.2, .inr ⟨hf, hh.1⟩⟩
theorem can_two (h : SpT w s p b m N r P ft size B L F lf fr c) (hc : ∀ i, i < P → c i = 214) (va n : Nat) (hn : 1 ≤ n ∧ n ≤ 4096) (hva : va ≤ 16777216) : Calls Tryz.prog 15 #[.pointer (some ⟨s, 0, .none⟩), .int .u64 va, .int .i64 n] w fun e w' => e = .returned (.bool (decide (va + n ≤ P * 4096))) ∧ Below w.heap.size w w' := by
  refine (can_any h.su va n hn.1 ⟨by omega, by omega⟩).mono fun e w' ⟨v, h1, h2, h3⟩ => ⟨?_, h3⟩
  rw [h1]
  congr 2
  rw [Bool.eq_iff_iff, h2, can214 hc, decide_eq_true_iff]
theorem fin9 {p b m : Nat} {w w1 wr wk w9 w10 : World} (h1 : Below w.heap.size w w1) (h2 : Fra p b m w1 wr) (h3 : Below wr.heap.size wr wk) (h4 : Below wk.heap.size wk w9) (h5 : Below w9.heap.size w9 w10) : Fra p b m w w10 := (Fra.below h1).trans (h2.trans ((Fra.below h3).trans ((Fra.below h4).trans (Fra.below h5))))
/-- In the midst of the first loop. -/
def BoI (w0 : World) (s p b m N r P ft : Nat) (size : Int) (L : List Nat) (F : Nat → Option Nat) (lf : Nat → Nat → Int) (fr : Nat → Nat) (c : Nat → Int) (mk : Int) (i : Nat) (W : World) : Prop := Fra p b m w0 W ∧ ∃ B', SpT W s p b m N r P ft size B' L F lf fr c ∧ ∀ j, j < i → atF j < P → btU B' fr (4096 * atF j) = mk ∧ btU B' fr (4096 * atF j + 1) = j
def BoP (w : World) (s p b m N r P ft : Nat) (size : Int) (L : List Nat) (F : Nat → Option Nat) (lf : Nat → Nat → Int) (fr : Nat → Nat) (c : Nat → Int) (e : Ending) (w' : World) : Prop := e = .returned (.bool true) ∧ Fra p b m w w' ∧ ∃ B', SpT w' s p b m N r P ft size B' L F lf fr c
set_option maxRecDepth 10000 in
set_option maxHeartbeats 2000000 in
theorem borders_any (h : SpT w s p b m N r P ft size B L F lf fr c) (hc : ∀ i, i < P → c i = 214) (mk : Int) (hmk : 0 ≤ mk ∧ mk < 256) : Calls Tryz.prog 38 #[.pointer (some ⟨s, 0, .none⟩), .int .u8 mk] w (BoP w s p b m N r P ft size L F lf fr c) := by
  have hpm := h.pm
  obtain ⟨w1, hw1⟩ : ∃ w1, w1 = w.alloc (.cells #[.int .i64 0, .int .i64 1, .int .i64 510, .int .i64 511, .int .i64 512, .int .i64 1023, .int .i64 1024] 3) := ⟨_, rfl⟩
  obtain ⟨A, hA0⟩ : ∃ A, A = w.heap.size := ⟨_, rfl⟩
  have b1 : Below w.heap.size w w1 := by rw [hw1]; exact below1 _ _
  have kA : ∀ i, i < 7 → w1.cell? ⟨A, i, .none⟩ = some (.int .i64 (atF i)) := fun i hi => by
    rw [hw1, hA0]
    obtain rfl | rfl | rfl | rfl | rfl | rfl | rfl : i = 0 ∨ i = 1 ∨ i = 2 ∨ i = 3 ∨ i = 4 ∨ i = 5 ∨ i = 6 := by omega
    all_goals (simp; rfl)
  have h1 := h.below b1
  have c19 := pages_sp h1.sp (by have := h1.sz; omega)
  rw [h1.sz.2] at c19
  have hA : A ≠ p ∧ A ≠ b ∧ A ≠ m := by rw [hA0]; have := h.ram.mem.plt; have := h.ram.mem.blt; have := h.ram.mem.mlt; omega
  have HW : Hid (SpT w s p b m N r P ft size B L F lf fr c ∧ Below w.heap.size w w1 ∧ (∀ i, i < 7 → w1.cell? ⟨A, i, .none⟩ = some (.int .i64 (atF i))) ∧ ∀ i, i < P → c i = 214) := ⟨h, b1, kA, hc⟩
  have HI0 : Hid (BoI w1 s p b m N r P ft size L F lf fr c mk 0 w1) := ⟨Fra.refl .., B, h1, fun j hj => by omega⟩
  clear h h1 b1 kA hc
  go_enter Tryz.func38, Tryz.ntmps38
  go_upto_region 2 with fail
  rw [← hw1, ← hA0]
  clear hw1 hA0
  go_upto_region 3 with (go_at_call 19; refine c19.mono ?_; rintro _ w2 ⟨rfl, e2⟩; obtain rfl : w1 = w2 := e2.symm)
  go_wp2_with fail
  go_loopw [7] (fun k wr => ∃ i : Nat, i ≤ 7 ∧ k = .int .i64 i ∧ Hid (BoI w1 s p b m N r P ft size L F lf fr c mk i wr)) (fun k _ => (7 - intOf k).toNat)
  case atStart => exact ⟨0, by omega, rfl, HI0⟩
  case round =>
    clear HI0
    obtain ⟨i, hi, rfl, HI⟩ := hrel
    by_cases hi7 : i < 7
    · have hlt : (i : Int) < 7 := by omega
      have hb1 : ¬ (7 : Int) ≤ i := by omega
      have hb2 : ¬ 7 ≤ i := by omega
      obtain ⟨a, ha⟩ : ∃ a, a = atF i := ⟨_, rfl⟩
      have hab : a ≤ 1024 := by rw [ha]; exact atF_b i hi7
      obtain ⟨f1, B1, S1, x1⟩ := HI.out
      have k0 : wr.cell? ⟨A, i, .none⟩ = some (.int .i64 a) := by rw [ha]; exact (f1.cell (x := ⟨A, i, .none⟩) (lt_of_cell (HW.out.2.2.1 i hi7)) hA.1 hA.2.1 hA.2.2).trans (HW.out.2.2.1 i hi7)
      have kS : wr.drew.cell? ⟨A, i, .none⟩ = some (.int .i64 a) := k0
      obtain ⟨w3, hw3⟩ : ∃ w3, w3 = (wr.alloc (.cells #[.int .u8 mk, .int .u8 (i : Int)] 5)).drew := ⟨_, rfl⟩
      have b3 : Below wr.heap.size wr w3 := by rw [hw3]; exact (below1 _ _).drew
      have kS3 : w3.cell? ⟨A, i, .none⟩ = some (.int .i64 a) := (b3.cell (p := ⟨A, i, .none⟩) (lt_of_cell k0)).trans k0
      have q0 : w3.cell? ⟨wr.heap.size, 0, .none⟩ = some (.int .u8 mk) := by rw [hw3]; show (wr.alloc _).cell? _ = _; simp
      have q1 : w3.cell? ⟨wr.heap.size, 1, .none⟩ = some (.int .u8 (i : Int)) := by rw [hw3]; show (wr.alloc _).cell? _ = _; simp
      have c16 := out_two (S1.below b3) HW.out.2.2.2 a (by omega) wr.heap.size mk i hmk (by omega) q0 q1 ⟨by have := S1.ram.mem.plt; omega, by have := S1.ram.mem.blt; omega, by have := S1.ram.mem.mlt; omega⟩
      unfold OuB at c16
      have HW3 : Hid (w3 = (wr.alloc (.cells #[.int .u8 mk, .int .u8 (i : Int)] 5)).drew) := hw3
      have HB3 : Hid (Below wr.heap.size wr w3) := b3
      have HAI : Hid (a = atF i) := ha
      have e5 : IntKind.i64.wrap (4096 * (a : Int)) = 4096 * a := by rw [IntKind.wrap_i64]; omega
      have e6 : IntKind.u64.wrap (4096 * (a : Int)) = 4096 * a := by rw [IntKind.wrap_u64]; omega
      have e9 : IntKind.u8.wrap (i : Int) = i := by rw [IntKind.wrap_u8]; omega
      have HX : Hid (Fra p b m w1 wr ∧ (∀ j, j < i → atF j < P → btU B1 fr (4096 * atF j) = mk ∧ btU B1 fr (4096 * atF j + 1) = j)) := ⟨f1, x1⟩
      clear f1 S1 x1 hw3 b3 q0 q1 ha k0 HI
      go_upto_region 6 with fail
      refine wp_region_held_drew (S := (fun U => U.cell? ⟨A, i, .none⟩ = some (.int .i64 a))) (by kernel_rfl) kS (fun hHeld => ?_)
      refine wpAnyH_take (i := 0) (v := (.pointer (some ⟨s, 0, .none⟩))) rfl (by kernel_rfl) (by kernel_rfl) (by kernel_rfl) (fun _ _ _ h => h) (Or.inl ⟨by rfl, fun ww hSw => by (try dsimp only at hSw); go_simp⟩) (by assumption) ?_
      simp only [Act.put, List.setIfInBounds_toArray, List.set_cons_zero, List.set_cons_succ, List.getElem_toArray, List.getElem_cons_succ, List.getElem_cons_zero]
      refine wpAnyH_take (i := 1) (v := (.slice (some ⟨A, 0, .none⟩) 7 7)) rfl (by kernel_rfl) (by kernel_rfl) (by kernel_rfl) (fun _ _ _ h => h) (Or.inl ⟨by rfl, fun ww hSw => by (try dsimp only at hSw); go_simp⟩) (by assumption) ?_
      simp only [Act.put, List.setIfInBounds_toArray, List.set_cons_zero, List.set_cons_succ, List.getElem_toArray, List.getElem_cons_succ, List.getElem_cons_zero]
      refine wpAnyH_take (i := 2) (v := (.int .i64 i)) rfl (by kernel_rfl) (by kernel_rfl) (by kernel_rfl) (fun _ _ _ h => h) (Or.inl ⟨by rfl, fun ww hSw => by (try dsimp only at hSw); go_simp⟩) (by assumption) ?_
      simp only [Act.put, List.setIfInBounds_toArray, List.set_cons_zero, List.set_cons_succ, List.getElem_toArray, List.getElem_cons_succ, List.getElem_cons_zero]
      refine wpAnyH_take (i := 3) (v := (.pointer (some ⟨A, i, .none⟩))) rfl (by kernel_rfl) (by kernel_rfl) (by kernel_rfl) (fun _ _ _ h => h) (Or.inl ⟨by rfl, fun ww hSw => by (try dsimp only at hSw); go_simp⟩) (by assumption) ?_
      simp only [Act.put, List.setIfInBounds_toArray, List.set_cons_zero, List.set_cons_succ, List.getElem_toArray, List.getElem_cons_succ, List.getElem_cons_zero]
      refine wpAnyH_take (i := 4) (v := (.int .i64 a)) rfl (by kernel_rfl) (by kernel_rfl) (by kernel_rfl) (fun _ _ _ h => h) (Or.inl ⟨by rfl, fun ww hSw => by (try dsimp only at hSw); go_simp⟩) (by assumption) ?_
      simp only [Act.put, List.setIfInBounds_toArray, List.set_cons_zero, List.set_cons_succ, List.getElem_toArray, List.getElem_cons_succ, List.getElem_cons_zero]
      refine wpAnyH_take (i := 5) (v := (.int .i64 (4096 * (a : Int)))) rfl (by kernel_rfl) (by kernel_rfl) (by kernel_rfl) (fun _ _ _ h => h) (Or.inl ⟨by rfl, fun ww hSw => by (try dsimp only at hSw); go_simp⟩) (by assumption) ?_
      simp only [Act.put, List.setIfInBounds_toArray, List.set_cons_zero, List.set_cons_succ, List.getElem_toArray, List.getElem_cons_succ, List.getElem_cons_zero]
      refine wpAnyH_take (i := 6) (v := (.int .u64 (4096 * (a : Int)))) rfl (by kernel_rfl) (by kernel_rfl) (by kernel_rfl) (fun _ _ _ h => h) (Or.inl ⟨by rfl, fun ww hSw => by (try dsimp only at hSw); go_simp⟩) (by assumption) ?_
      simp only [Act.put, List.setIfInBounds_toArray, List.set_cons_zero, List.set_cons_succ, List.getElem_toArray, List.getElem_cons_succ, List.getElem_cons_zero]
      refine wpAnyH_take (i := 7) (v := (.int .u8 mk)) rfl (by kernel_rfl) (by kernel_rfl) (by kernel_rfl) (fun _ _ _ h => h) (Or.inl ⟨by rfl, fun ww hSw => by (try dsimp only at hSw); go_simp⟩) (by assumption) ?_
      simp only [Act.put, List.setIfInBounds_toArray, List.set_cons_zero, List.set_cons_succ, List.getElem_toArray, List.getElem_cons_succ, List.getElem_cons_zero]
      refine wpAnyH_take (i := 8) (v := (.int .i64 i)) rfl (by kernel_rfl) (by kernel_rfl) (by kernel_rfl) (fun _ _ _ h => h) (Or.inl ⟨by rfl, fun ww hSw => by (try dsimp only at hSw); go_simp⟩) (by assumption) ?_
      simp only [Act.put, List.setIfInBounds_toArray, List.set_cons_zero, List.set_cons_succ, List.getElem_toArray, List.getElem_cons_succ, List.getElem_cons_zero]
      refine wpAnyH_take (i := 9) (v := (.int .u8 i)) rfl (by kernel_rfl) (by kernel_rfl) (by kernel_rfl) (fun _ _ _ h => h) (Or.inl ⟨by rfl, fun ww hSw => by (try dsimp only at hSw); go_simp⟩) (by assumption) ?_
      simp only [Act.put, List.setIfInBounds_toArray, List.set_cons_zero, List.set_cons_succ, List.getElem_toArray, List.getElem_cons_succ, List.getElem_cons_zero]
      refine wpAnyH_take (i := 12) (v := (.slice (some ⟨A, 0, .none⟩) 7 7)) rfl (by kernel_rfl) (by kernel_rfl) (by kernel_rfl) (fun _ _ _ h => h) (Or.inl ⟨by rfl, fun ww hSw => by (try dsimp only at hSw); go_simp⟩) (by assumption) ?_
      simp only [Act.put, List.setIfInBounds_toArray, List.set_cons_zero, List.set_cons_succ, List.getElem_toArray, List.getElem_cons_succ, List.getElem_cons_zero]
      refine wpAnyH_take (i := 13) (v := (.int .i64 i)) rfl (by kernel_rfl) (by kernel_rfl) (by kernel_rfl) (fun _ _ _ h => h) (Or.inl ⟨by rfl, fun ww hSw => by (try dsimp only at hSw); go_simp⟩) (by assumption) ?_
      simp only [Act.put, List.setIfInBounds_toArray, List.set_cons_zero, List.set_cons_succ, List.getElem_toArray, List.getElem_cons_succ, List.getElem_cons_zero]
      refine wpAnyH_take (i := 14) (v := (.pointer (some ⟨A, i, .none⟩))) rfl (by kernel_rfl) (by kernel_rfl) (by kernel_rfl) (fun _ _ _ h => h) (Or.inl ⟨by rfl, fun ww hSw => by (try dsimp only at hSw); go_simp⟩) (by assumption) ?_
      simp only [Act.put, List.setIfInBounds_toArray, List.set_cons_zero, List.set_cons_succ, List.getElem_toArray, List.getElem_cons_succ, List.getElem_cons_zero]
      refine wpAnyH_take (i := 15) (v := (.int .i64 a)) rfl (by kernel_rfl) (by kernel_rfl) (by kernel_rfl) (fun _ _ _ h => h) (Or.inl ⟨by rfl, fun ww hSw => by (try dsimp only at hSw); go_simp⟩) (by assumption) ?_
      simp only [Act.put, List.setIfInBounds_toArray, List.set_cons_zero, List.set_cons_succ, List.getElem_toArray, List.getElem_cons_succ, List.getElem_cons_zero]
      refine wpAnyH_take (i := 16) (v := (.int .i64 P)) rfl (by kernel_rfl) (by kernel_rfl) (by kernel_rfl) (fun _ _ _ h => h) (Or.inl ⟨by rfl, fun ww hSw => by (try dsimp only at hSw); go_simp⟩) (by assumption) ?_
      simp only [Act.put, List.setIfInBounds_toArray, List.set_cons_zero, List.set_cons_succ, List.getElem_toArray, List.getElem_cons_succ, List.getElem_cons_zero]
      refine wpAnyH_take (i := 17) (v := (.bool (decide (a < P)))) rfl (by kernel_rfl) (by kernel_rfl) (by kernel_rfl) (fun _ _ _ h => h) (Or.inl ⟨by rfl, fun ww hSw => by (try dsimp only at hSw); go_simp⟩) (by assumption) ?_
      simp only [Act.put, List.setIfInBounds_toArray, List.set_cons_zero, List.set_cons_succ, List.getElem_toArray, List.getElem_cons_succ, List.getElem_cons_zero]
      refine wpAnyH_ready (rs := [10]) (by kernel_rfl) (by simp) ?_
      refine AllReadyH.cons rfl (fun K hK => ?_) AllReadyH.nil
      go_simp
      rw [← HW3.out]
      refine hK.out _ _ kS3 (fun hHeld => ?_)
      clear hK K
      try simp only [Act.put, List.setIfInBounds_toArray, List.set_cons_zero, List.set_cons_succ, List.getElem_toArray, List.getElem_cons_succ, List.getElem_cons_zero]
      refine wpAnyH_ready (rs := [11]) (by kernel_rfl) (by simp) ?_
      refine AllReadyH.cons rfl (fun K hK => ?_) AllReadyH.nil
      go_simp
      go_at_call 16
      refine (c16).mono ?_
      rintro _ w4 ⟨rfl, f4, B4, S4, x4, y4⟩
      have kS4 : w4.cell? ⟨A, i, .none⟩ = some (.int .i64 a) := (f4.cell (x := ⟨A, i, .none⟩) (lt_of_cell kS3) hA.1 hA.2.1 hA.2.2).trans kS3
      have H4 : Hid (Fra p b m w3 w4 ∧ SpT w4 s p b m N r P ft size B4 L F lf fr c ∧ (a < P → btU B4 fr (4096 * a) = mk ∧ btU B4 fr (4096 * a + 1) = i) ∧ ∀ z, z < P * 4096 → z ≠ 4096 * a → z ≠ 4096 * a + 1 → btU B4 fr z = btU B1 fr z) := ⟨f4, S4, x4, y4⟩
      clear f4 S4 x4 y4 c16
      refine hK.out _ _ kS4 (fun hHeld => ?_)
      clear hK K
      try simp only [Act.put, List.setIfInBounds_toArray, List.set_cons_zero, List.set_cons_succ, List.getElem_toArray, List.getElem_cons_succ, List.getElem_cons_zero]
      refine wpAnyH_take (i := 18) (v := (.bool false)) rfl (by kernel_rfl) (by kernel_rfl) (by kernel_rfl) (fun _ _ _ h => h) (Or.inl ⟨by rfl, fun ww hSw => by (try dsimp only at hSw); go_simp⟩) (by assumption) ?_
      simp only [Act.put, List.setIfInBounds_toArray, List.set_cons_zero, List.set_cons_succ, List.getElem_toArray, List.getElem_cons_succ, List.getElem_cons_zero]
      refine wpAnyH_done (by kernel_rfl) ?_ _
      go_wp2_with fail
      refine ⟨⟨i + 1, by omega, by simp, ?_⟩, by simp only [intOf]; omega⟩
      obtain ⟨f4, S4, x4, y4⟩ := H4.out
      have hai := HAI.out
      refine ⟨HX.out.1.trans ((Fra.below HB3.out).trans f4), B4, S4, fun j hj hjP => ?_⟩
      by_cases e : j = i
      · subst e
        rw [hai] at x4
        exact x4 hjP
      · have h1 := atF_ne i j hi7 (by omega)
        have h2 := HX.out.2 j (by omega) hjP
        rw [hai] at y4
        exact ⟨(y4 _ (by omega) (by omega) (by omega)).trans h2.1, (y4 _ (by omega) (by omega) (by omega)).trans h2.2⟩
    · have hlt : ¬ (i : Int) < 7 := by omega
      obtain ⟨f1, B1, S1, x1⟩ := HI.out
      have HE : Hid (Fra p b m w1 wr ∧ SpT wr s p b m N r P ft size B1 L F lf fr c ∧ ∀ j, j < 7 → atF j < P → btU B1 fr (4096 * atF j) = mk ∧ btU B1 fr (4096 * atF j + 1) = j) := ⟨f1, S1, fun j hj => x1 j (by omega)⟩
      clear f1 S1 x1 HI
      go_wp2_with fail
      go_loopw [8] (fun k wk => ∃ i : Nat, i ≤ 7 ∧ k = .int .i64 i ∧ Hid (Below wr.heap.size wr wk)) (fun k _ => (7 - intOf k).toNat)
      case atStart => exact ⟨0, by omega, rfl, Below.refl _ _⟩
      case round =>
        rename World => wk
        obtain ⟨j, hj, rfl, HK⟩ := hrel
        have Sk := HE.out.2.1.below HK.out
        by_cases hj7 : j < 7
        · have hlt2 : (j : Int) < 7 := by omega
          have hb1 : ¬ (7 : Int) ≤ j := by omega
          have hb2 : ¬ 7 ≤ j := by omega
          obtain ⟨a, ha⟩ : ∃ a, a = atF j := ⟨_, rfl⟩
          have hab : a ≤ 1024 := by rw [ha]; exact atF_b j hj7
          have kz : ∀ W, Below wk.heap.size wk W → W.cell? ⟨A, j, .none⟩ = some (.int .i64 a) := fun W hW => by
            have k0 := (HE.out.1.cell (x := ⟨A, j, .none⟩) (lt_of_cell (HW.out.2.2.1 j hj7)) hA.1 hA.2.1 hA.2.2).trans (HW.out.2.2.1 j hj7)
            have k1 := (HK.out.cell (p := ⟨A, j, .none⟩) (lt_of_cell k0)).trans k0
            rw [ha]
            exact (hW.cell (p := ⟨A, j, .none⟩) (lt_of_cell k1)).trans k1
          have k0 := kz wk (Below.refl _ _)
          have c13 := in_two Sk HW.out.2.2.2 (4096 * a) 2 (by omega) (by omega)
          unfold InB at c13
          rw [show ((4096 * a : Nat) : Int) = 4096 * (a : Int) by omega] at c13
          have e5 : IntKind.i64.wrap (4096 * (a : Int)) = 4096 * a := by rw [IntKind.wrap_i64]; omega
          have e6 : IntKind.u64.wrap (4096 * (a : Int)) = 4096 * a := by rw [IntKind.wrap_u64]; omega
          have e9 : IntKind.u8.wrap (j : Int) = j := by rw [IntKind.wrap_u8]; omega
          have HKZ : Hid (∀ W, Below wk.heap.size wk W → W.cell? ⟨A, j, .none⟩ = some (.int .i64 a)) := kz
          have HAI : Hid (a = atF j) := ha
          clear Sk kz ha
          go_upto_region 12 with (go_at_call 13; refine c13.mono ?_; rintro e9 w9 ⟨b9, z9⟩; have H9 : Hid (Below wk.heap.size wk w9) := b9; have k9 := HKZ.out w9 b9; clear c13 b9; rcases z9 with ⟨hv, g9, rfl, c9⟩ | ⟨hv, rfl⟩)
          · have haP : a < P := by omega
            have hlP : (a : Int) < P := by omega
            have hx := HE.out.2.2 j hj7 (by rw [← HAI.out]; exact haP)
            rw [← HAI.out] at hx
            have q0 : w9.cell? ⟨g9, 0, .none⟩ = some (.int .u8 mk) := by rw [c9 0 (by omega), Nat.add_zero, hx.1]
            have q1 : w9.cell? ⟨g9, 1, .none⟩ = some (.int .u8 (j : Int)) := by rw [c9 1 (by omega), hx.2]
            clear hx c9 hv
            go_wp2_with fail
            exact ⟨⟨j + 1, by omega, by simp, HK.out.trans (H9.out.mono HK.out.size)⟩, by simp only [intOf]; omega⟩
          · have haP : ¬ a < P := by omega
            have hlP : ¬ (a : Int) < P := by omega
            clear hv
            go_wp2_with fail
            exact ⟨⟨j + 1, by omega, by simp, HK.out.trans (H9.out.mono HK.out.size)⟩, by simp only [intOf]; omega⟩
        · have hlt2 : ¬ (j : Int) < 7 := by omega
          have c13 := in_two Sk HW.out.2.2.2 2097056 200 (by omega) (by omega)
          unfold InB at c13
          have HSk : Hid (SpT wk s p b m N r P ft size B1 L F lf fr c) := Sk
          clear Sk
          go_upto_region 15 with (go_at_call 13; refine c13.mono ?_; rintro e9 w9 ⟨b9, z9⟩; have H9 : Hid (Below wk.heap.size wk w9) := b9; have c15 := can_two (HSk.out.below b9) HW.out.2.2.2 4194208 200 (by omega) (by omega); clear c13 b9; rcases z9 with ⟨hv, g9, rfl, c9⟩ | ⟨hv, rfl⟩)
          · have h512 : (512 : Int) < P := by omega
            clear c9 hv
            by_cases h1024 : 4194208 + 200 ≤ P * 4096
            · have h1 : (1024 : Int) < P := by omega
              rw [decide_eq_true h1024] at c15
              clear h1024
              go_wp2_with (go_at_call 15; refine c15.mono ?_; rintro _ w10 ⟨rfl, b10⟩; have H10 : Hid (Below w9.heap.size w9 w10) := b10; clear b10 c15)
              go_ret
              exact ⟨rfl, fin9 HW.out.2.1 HE.out.1 HK.out H9.out H10.out, _, ((HSk.out.below H9.out).below H10.out)⟩
            · have h1 : ¬ (1024 : Int) < P := by omega
              rw [decide_eq_false h1024] at c15
              clear h1024
              go_wp2_with (go_at_call 15; refine c15.mono ?_; rintro _ w10 ⟨rfl, b10⟩; have H10 : Hid (Below w9.heap.size w9 w10) := b10; clear b10 c15)
              go_ret
              exact ⟨(by simp; omega), fin9 HW.out.2.1 HE.out.1 HK.out H9.out H10.out, _, ((HSk.out.below H9.out).below H10.out)⟩
          · have h512 : ¬ (512 : Int) < P := by omega
            have h1 : ¬ (1024 : Int) < P := by omega
            rw [decide_eq_false (by omega)] at c15
            clear hv
            go_wp2_with (go_at_call 15; refine c15.mono ?_; rintro _ w10 ⟨rfl, b10⟩; have H10 : Hid (Below w9.heap.size w9 w10) := b10; clear b10 c15)
            go_ret
            exact ⟨(by simp; omega), fin9 HW.out.2.1 HE.out.1 HK.out H9.out H10.out, _, ((HSk.out.below H9.out).below H10.out)⟩
end
end Go.Proofs.YtblmkkhiojbcjaaGreat
