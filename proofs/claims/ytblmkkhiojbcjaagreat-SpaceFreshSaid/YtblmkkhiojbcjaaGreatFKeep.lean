import Derived.Test.YtblmkkhiojbcjaaGreatUk
import Derived.Laws.AppendOwn
import Derived.Laws.OwnMore
import Derived.WalkKit
import Derived.Below
namespace Go.Proofs.YtblmkkhiojbcjaaGreat
open Go Go.RowKit
set_option linter.unusedVariables false
set_option linter.unusedSimpArgs false
theorem nan_any (a : Int) (w : World) : Calls Tryz.prog 153 #[.int .u64 a] w fun e w' => e = .returned (.bool false) ∧ w' = w := by
  have h : (a != a) = false := by simp
  go_enter Tryz.func153, Tryz.ntmps153
  go_wp2_with fail
  go_ret
  exact ⟨rfl, rfl⟩
theorem less_any (a b : Int) (w : World) : Calls Tryz.prog 128 #[.int .u64 a, .int .u64 b] w fun e w' => e = .returned (.bool (decide (a < b))) ∧ w' = w := by
  have c153 := fun W => nan_any a W
  go_enter Tryz.func128, Tryz.ntmps128
  go_wp2_with (go_at_call 153; refine (c153 _).mono ?_; rintro _ w1 ⟨rfl, e1⟩; obtain rfl : w = w1 := e1.symm)
  go_ret
  exact ⟨rfl, rfl⟩
/-- A row of numbers that is being sorted. -/
structure SrI (w : World) (X g n c : Nat) (ys : List Int) (W : World) : Prop where
  own : W.ownsRow X 23 1 (.slice (some ⟨g, 0, .none⟩) n c) n (wv ys)
  os : W.os = w.os
  tape : W.tape = w.tape
  output : W.output = w.output
  size : w.heap.size ≤ W.heap.size
  block : ∀ k, k < w.heap.size → k ≠ g → W.heap[k]? = w.heap[k]?
theorem SrI.drew {w W : World} {X g n c : Nat} {ys : List Int} (h : SrI w X g n c ys W) : SrI w X g n c ys W.drew := ⟨h.own.drew, h.os, h.tape, h.output, h.size, h.block⟩
theorem SrI.set {w W : World} {X g n c : Nat} {ys zs : List Int} (h : SrI w X g n c ys W) (j : Nat) (u : Int) (hz : (wv ys).set j (.int .u64 u) = wv zs) : SrI w X g n c zs (W.setCell ⟨g, j, .none⟩ (.int .u64 u)) := by
  have hs := h.own.stored j (.int .u64 u)
  rw [hz] at hs
  refine ⟨hs.1, h.os, h.tape, h.output, ?_, fun k hk hne => ?_⟩
  · have := h.size
    simpa [World.setCell] using this
  · rw [← h.block k hk hne]
    exact Below.heap_setCell _ _ _ _ (fun e => hne e)
theorem set_at (A R : List Int) (y u : Int) : (wv (A ++ y :: R)).set A.length (.int .u64 u) = wv (A ++ u :: R) := by
  unfold wv
  rw [List.map_append, List.map_append, List.set_append_right _ _ (by simp)]
  simp
theorem get_at (A R : List Int) (y : Int) : (wv (A ++ y :: R))[A.length]? = some (.int .u64 y) := by
  unfold wv
  rw [List.map_append, List.getElem?_append_right (by simp)]
  simp
def InS (w : World) (X g n c : Nat) (xs : List Int) (i j : Nat) (W : World) : Prop := ∃ A D C x, A.length = j ∧ D.length + j = i ∧ (A ++ D).Pairwise (· ≤ ·) ∧ (∀ d ∈ D, x < d) ∧ (A ++ x :: (D ++ C)).Perm xs ∧ SrI w X g n c (A ++ x :: (D ++ C)) W
def OuS (w : World) (X g n c : Nat) (xs : List Int) (i : Nat) (W : World) : Prop := ∃ S C, S.length = i ∧ S.Pairwise (· ≤ ·) ∧ (S ++ C).Perm xs ∧ SrI w X g n c (S ++ C) W
def SoP (w : World) (X g n c : Nat) (xs : List Int) (e : Ending) (w' : World) : Prop := e = .returned (.tuple #[]) ∧ ∃ ys, ys.Perm xs ∧ ys.Pairwise (· ≤ ·) ∧ SrI w X g n c ys w'
theorem OuS.drew {w W : World} {X g n c i : Nat} {xs : List Int} (h : OuS w X g n c xs i W) : OuS w X g n c xs i W.drew := by
  obtain ⟨S, C, h1, h2, h3, h4⟩ := h
  exact ⟨S, C, h1, h2, h3, h4.drew⟩
theorem OuS.inner {w W : World} {X g n c i : Nat} {xs : List Int} (h : OuS w X g n c xs i W) (hl : xs.length = n) (hi : i < n) : InS w X g n c xs i i W := by
  obtain ⟨S, C, h1, h2, h3, h4⟩ := h
  cases C with
  | nil => have := h3.length_eq; simp at this; omega
  | cons x C => exact ⟨S, [], C, x, h1, (by simp), (by simpa using h2), (fun d hd => (by cases hd)), (by simpa using h3), (by simpa using h4)⟩
theorem InS.done {w W : World} {X g n c i j : Nat} {xs : List Int} (A D C : List Int) (x : Int) (h1 : A.length = j) (h2 : D.length + j = i) (h3 : (A ++ D).Pairwise (· ≤ ·)) (h4 : ∀ d ∈ D, x < d) (h5 : (A ++ x :: (D ++ C)).Perm xs) (h6 : SrI w X g n c (A ++ x :: (D ++ C)) W) (hx : ∀ a ∈ A, a ≤ x) : OuS w X g n c xs (i + 1) W := by
  refine ⟨A ++ x :: D, C, by simp; omega, ?_, by simpa using h5, by simpa using h6⟩
  rw [List.pairwise_append] at h3 ⊢
  refine ⟨h3.1, List.pairwise_cons.2 ⟨fun d hd => by have := h4 d hd; omega, h3.2.1⟩, fun a ha b hb => ?_⟩
  rcases List.mem_cons.1 hb with rfl | hb
  · exact hx a ha
  · exact h3.2.2 a ha b hb
set_option maxHeartbeats 2000000 in
theorem insert_any {w : World} {X g n c : Nat} {xs : List Int} (hl : xs.length = n) (hn : 1 ≤ n ∧ n ≤ 1000000) (h : w.ownsRow X 23 1 (.slice (some ⟨g, 0, .none⟩) n c) n (wv xs)) : Calls Tryz.prog 122 #[.slice (some ⟨g, 0, .none⟩) n c, .int .i64 0, .int .i64 n] w (SoP w X g n c xs) := by
  have H0 : Hid (OuS w X g n c xs 1 w) := by
    cases xs with
    | nil => simp at hl; omega
    | cons x xs => exact ⟨[x], xs, rfl, List.pairwise_singleton _ _, List.Perm.refl _, h, rfl, rfl, rfl, Nat.le_refl _, fun _ _ _ => rfl⟩
  have HL : Hid (xs.length = n) := hl
  clear h hl
  go_enter Tryz.func122, Tryz.ntmps122
  go_wp2_with fail
  go_loopw [6] (fun v wr => ∃ i : Nat, i ≤ n ∧ 1 ≤ i ∧ v = .int .i64 i ∧ Hid (OuS w X g n c xs i wr)) (fun v _ => (n - intOf v).toNat)
  case atStart => exact ⟨1, by omega, by omega, rfl, H0⟩
  case round =>
    obtain ⟨i, hi, hi1, rfl, HO⟩ := hrel
    by_cases hin : i < n
    · have hlt : (i : Int) < n := by omega
      have HI : Hid (InS w X g n c xs i i wr) := HO.out.inner HL.out hin
      clear HO
      go_wp2_with fail
      go_loopw [7] (fun v wi => ∃ j : Nat, j ≤ i ∧ v = .int .i64 j ∧ Hid (InS w X g n c xs i j wi)) (fun v _ => (intOf v).toNat)
      case atStart => exact ⟨i, Nat.le_refl _, rfl, HI⟩
      case round =>
        rename_i wi0
        obtain ⟨j0, hj, rfl, HJ⟩ := hrel
        obtain ⟨A, D, C, x, h1, h2, h3, h4, h5, h6⟩ := HJ.out
        rcases List.eq_nil_or_concat A with rfl | ⟨A, a, rfl⟩
        · simp only [List.length_nil] at h1
          subst h1
          have HD : Hid (OuS w X g n c xs (i + 1) wr) := InS.done [] D C x rfl h2 h3 h4 h5 h6 (fun a ha => (by cases ha))
          clear h2 h3 h4 h5 h6 HJ
          go_upto_region 4 with fail
          refine wp_region_held_drew (S := (fun _ => True)) (by kernel_rfl) trivial (fun hHeld => ?_)
          refine wpAnyH_take (i := 0) (v := (.int .i64 ((0 : Nat) : Int))) rfl (by kernel_rfl) (by kernel_rfl) (by kernel_rfl) (fun _ _ _ h => h) (Or.inl ⟨by rfl, fun ww hSw => by (try dsimp only at hSw); go_simp⟩) (by assumption) ?_
          simp only [Act.put, List.setIfInBounds_toArray, List.set_cons_zero, List.set_cons_succ, List.getElem_toArray, List.getElem_cons_succ, List.getElem_cons_zero]
          refine wpAnyH_take (i := 1) (v := (.int .i64 0)) rfl (by kernel_rfl) (by kernel_rfl) (by kernel_rfl) (fun _ _ _ h => h) (Or.inl ⟨by rfl, fun ww hSw => by (try dsimp only at hSw); go_simp⟩) (by assumption) ?_
          simp only [Act.put, List.setIfInBounds_toArray, List.set_cons_zero, List.set_cons_succ, List.getElem_toArray, List.getElem_cons_succ, List.getElem_cons_zero]
          refine wpAnyH_take (i := 2) (v := (.bool false)) rfl (by kernel_rfl) (by kernel_rfl) (by kernel_rfl) (fun _ _ _ h => h) (Or.inl ⟨by rfl, fun ww hSw => by (try dsimp only at hSw); go_simp⟩) (by assumption) ?_
          simp only [Act.put, List.setIfInBounds_toArray, List.set_cons_zero, List.set_cons_succ, List.getElem_toArray, List.getElem_cons_succ, List.getElem_cons_zero]
          refine wpAnyH_take (i := 3) (v := (.bool false)) rfl (by kernel_rfl) (by kernel_rfl) (by kernel_rfl) (fun _ _ _ h => h) (Or.inl ⟨by rfl, fun ww hSw => by (try dsimp only at hSw); go_simp⟩) (by assumption) ?_
          simp only [Act.put, List.setIfInBounds_toArray, List.set_cons_zero, List.set_cons_succ, List.getElem_toArray, List.getElem_cons_succ, List.getElem_cons_zero]
          refine wpAnyH_take (i := 4) (v := undef) rfl (by kernel_rfl) (by kernel_rfl) (by kernel_rfl) (fun _ _ _ h => h) (Or.inr ⟨by rfl, rfl⟩) (by assumption) ?_
          simp only [Act.put, List.setIfInBounds_toArray, List.set_cons_zero, List.set_cons_succ, List.getElem_toArray, List.getElem_cons_succ, List.getElem_cons_zero]
          refine wpAnyH_take (i := 5) (v := undef) rfl (by kernel_rfl) (by kernel_rfl) (by kernel_rfl) (fun _ _ _ h => h) (Or.inr ⟨by rfl, rfl⟩) (by assumption) ?_
          simp only [Act.put, List.setIfInBounds_toArray, List.set_cons_zero, List.set_cons_succ, List.getElem_toArray, List.getElem_cons_succ, List.getElem_cons_zero]
          refine wpAnyH_take (i := 6) (v := undef) rfl (by kernel_rfl) (by kernel_rfl) (by kernel_rfl) (fun _ _ _ h => h) (Or.inr ⟨by rfl, rfl⟩) (by assumption) ?_
          simp only [Act.put, List.setIfInBounds_toArray, List.set_cons_zero, List.set_cons_succ, List.getElem_toArray, List.getElem_cons_succ, List.getElem_cons_zero]
          refine wpAnyH_take (i := 7) (v := undef) rfl (by kernel_rfl) (by kernel_rfl) (by kernel_rfl) (fun _ _ _ h => h) (Or.inr ⟨by rfl, rfl⟩) (by assumption) ?_
          simp only [Act.put, List.setIfInBounds_toArray, List.set_cons_zero, List.set_cons_succ, List.getElem_toArray, List.getElem_cons_succ, List.getElem_cons_zero]
          refine wpAnyH_take (i := 8) (v := undef) rfl (by kernel_rfl) (by kernel_rfl) (by kernel_rfl) (fun _ _ _ h => h) (Or.inr ⟨by rfl, rfl⟩) (by assumption) ?_
          simp only [Act.put, List.setIfInBounds_toArray, List.set_cons_zero, List.set_cons_succ, List.getElem_toArray, List.getElem_cons_succ, List.getElem_cons_zero]
          refine wpAnyH_take (i := 9) (v := undef) rfl (by kernel_rfl) (by kernel_rfl) (by kernel_rfl) (fun _ _ _ h => h) (Or.inr ⟨by rfl, rfl⟩) (by assumption) ?_
          simp only [Act.put, List.setIfInBounds_toArray, List.set_cons_zero, List.set_cons_succ, List.getElem_toArray, List.getElem_cons_succ, List.getElem_cons_zero]
          refine wpAnyH_take (i := 10) (v := undef) rfl (by kernel_rfl) (by kernel_rfl) (by kernel_rfl) (fun _ _ _ h => h) (Or.inr ⟨by rfl, rfl⟩) (by assumption) ?_
          simp only [Act.put, List.setIfInBounds_toArray, List.set_cons_zero, List.set_cons_succ, List.getElem_toArray, List.getElem_cons_succ, List.getElem_cons_zero]
          refine wpAnyH_take (i := 11) (v := undef) rfl (by kernel_rfl) (by kernel_rfl) (by kernel_rfl) (fun _ _ _ h => h) (Or.inr ⟨by rfl, rfl⟩) (by assumption) ?_
          simp only [Act.put, List.setIfInBounds_toArray, List.set_cons_zero, List.set_cons_succ, List.getElem_toArray, List.getElem_cons_succ, List.getElem_cons_zero]
          refine wpAnyH_take (i := 12) (v := undef) rfl (by kernel_rfl) (by kernel_rfl) (by kernel_rfl) (fun _ _ _ h => h) (Or.inr ⟨by rfl, rfl⟩) (by assumption) ?_
          simp only [Act.put, List.setIfInBounds_toArray, List.set_cons_zero, List.set_cons_succ, List.getElem_toArray, List.getElem_cons_succ, List.getElem_cons_zero]
          refine wpAnyH_take (i := 13) (v := undef) rfl (by kernel_rfl) (by kernel_rfl) (by kernel_rfl) (fun _ _ _ h => h) (Or.inr ⟨by rfl, rfl⟩) (by assumption) ?_
          simp only [Act.put, List.setIfInBounds_toArray, List.set_cons_zero, List.set_cons_succ, List.getElem_toArray, List.getElem_cons_succ, List.getElem_cons_zero]
          refine wpAnyH_take (i := 14) (v := (.bool false)) rfl (by kernel_rfl) (by kernel_rfl) (by kernel_rfl) (fun _ _ _ h => h) (Or.inl ⟨by rfl, fun ww hSw => by (try dsimp only at hSw); go_simp⟩) (by assumption) ?_
          simp only [Act.put, List.setIfInBounds_toArray, List.set_cons_zero, List.set_cons_succ, List.getElem_toArray, List.getElem_cons_succ, List.getElem_cons_zero]
          refine wpAnyH_done (by kernel_rfl) ?_ _
          go_wp2_with fail
          exact ⟨⟨i + 1, by omega, by omega, by simp, HD.out.drew⟩, by simp only [intOf]; omega⟩
        · simp only [List.concat_eq_append, List.length_append, List.length_singleton] at h1
          obtain ⟨j, rfl⟩ : ∃ j, j0 = j + 1 := ⟨A.length, h1.symm⟩
          have hAj : A.length = j := by omega
          have hjn : j + 1 < n := by omega
          have kx0 : wr.cell? ⟨g, j + 1, .none⟩ = some (.int .u64 x) := by
            rw [h6.own.cellAt (j + 1) (by omega), ← h1]
            have := get_at (A ++ [a]) (D ++ C) x
            simpa using this
          have ka0 : wr.cell? ⟨g, j, .none⟩ = some (.int .u64 a) := by
            rw [h6.own.cellAt j (by omega), ← hAj]
            have := get_at A (x :: (D ++ C)) a
            simpa using this
          have f1 := h6.own.frozenAt (j + 1)
          have f0 := h6.own.frozenAt j
          have hpos : (0 : Int) < ((j + 1 : Nat) : Int) := by omega
          have hsub : ((j + 1 : Nat) : Int) - 1 = j := by omega
          have hjn1 : ((j + 1 : Nat) : Int) < n := by omega
          have hjn0 : (j : Int) < n := by omega
          have hb1 : ¬ (n : Int) ≤ (j : Int) + 1 := by omega
          have hb0 : ¬ (n : Int) ≤ (j : Int) := by omega
          have hp1 : (0 : Int) ≤ (j : Int) + 1 := by omega
          have hp0 : (0 : Int) ≤ (j : Int) := by omega
          have hwj : IntKind.i64.wrap (j : Int) = j := by rw [IntKind.wrap_i64]; omega
          have HA : Hid (A.length = j ∧ D.length + (j + 1) = i ∧ (A ++ [a] ++ D).Pairwise (· ≤ ·) ∧ (∀ d ∈ D, x < d) ∧ (A ++ [a] ++ x :: (D ++ C)).Perm xs ∧ SrI w X g n c (A ++ [a] ++ x :: (D ++ C)) wr) := by
            simp only [List.concat_eq_append] at h3 h5 h6
            exact ⟨hAj, h2, h3, h4, h5, h6⟩
          clear h1 h2 h3 h4 h5 h6 HJ hAj
          go_upto_region 4 with fail
          have kx : wr.drew.cell? ⟨g, j + 1, .none⟩ = some (.int .u64 x) := kx0
          have ka : wr.drew.cell? ⟨g, j, .none⟩ = some (.int .u64 a) := ka0
          refine wp_region_held_drew (S := (fun U => U.cell? ⟨g, j + 1, .none⟩ = some (.int .u64 x) ∧ U.cell? ⟨g, j, .none⟩ = some (.int .u64 a))) (by kernel_rfl) ⟨kx, ka⟩ (fun hHeld => ?_)
          refine wpAnyH_take (i := 0) (v := (.int .i64 ((j + 1 : Nat) : Int))) rfl (by kernel_rfl) (by kernel_rfl) (by kernel_rfl) (fun _ _ _ h => h) (Or.inl ⟨by rfl, fun ww hSw => by (try dsimp only at hSw); go_simp⟩) (by assumption) ?_
          simp only [Act.put, List.setIfInBounds_toArray, List.set_cons_zero, List.set_cons_succ, List.getElem_toArray, List.getElem_cons_succ, List.getElem_cons_zero]
          refine wpAnyH_take (i := 1) (v := (.int .i64 0)) rfl (by kernel_rfl) (by kernel_rfl) (by kernel_rfl) (fun _ _ _ h => h) (Or.inl ⟨by rfl, fun ww hSw => by (try dsimp only at hSw); go_simp⟩) (by assumption) ?_
          simp only [Act.put, List.setIfInBounds_toArray, List.set_cons_zero, List.set_cons_succ, List.getElem_toArray, List.getElem_cons_succ, List.getElem_cons_zero]
          refine wpAnyH_take (i := 2) (v := (.bool true)) rfl (by kernel_rfl) (by kernel_rfl) (by kernel_rfl) (fun _ _ _ h => h) (Or.inl ⟨by rfl, fun ww hSw => by (try dsimp only at hSw); go_simp⟩) (by assumption) ?_
          simp only [Act.put, List.setIfInBounds_toArray, List.set_cons_zero, List.set_cons_succ, List.getElem_toArray, List.getElem_cons_succ, List.getElem_cons_zero]
          refine wpAnyH_take (i := 3) (v := (.bool true)) rfl (by kernel_rfl) (by kernel_rfl) (by kernel_rfl) (fun _ _ _ h => h) (Or.inl ⟨by rfl, fun ww hSw => by (try dsimp only at hSw); go_simp⟩) (by assumption) ?_
          simp only [Act.put, List.setIfInBounds_toArray, List.set_cons_zero, List.set_cons_succ, List.getElem_toArray, List.getElem_cons_succ, List.getElem_cons_zero]
          refine wpAnyH_take (i := 4) (v := (.slice (some ⟨g, 0, .none⟩) n c)) rfl (by kernel_rfl) (by kernel_rfl) (by kernel_rfl) (fun _ _ _ h => h) (Or.inl ⟨by rfl, fun ww hSw => by (try dsimp only at hSw); go_simp⟩) (by assumption) ?_
          simp only [Act.put, List.setIfInBounds_toArray, List.set_cons_zero, List.set_cons_succ, List.getElem_toArray, List.getElem_cons_succ, List.getElem_cons_zero]
          refine wpAnyH_take (i := 5) (v := (.int .i64 ((j + 1 : Nat) : Int))) rfl (by kernel_rfl) (by kernel_rfl) (by kernel_rfl) (fun _ _ _ h => h) (Or.inl ⟨by rfl, fun ww hSw => by (try dsimp only at hSw); go_simp⟩) (by assumption) ?_
          simp only [Act.put, List.setIfInBounds_toArray, List.set_cons_zero, List.set_cons_succ, List.getElem_toArray, List.getElem_cons_succ, List.getElem_cons_zero]
          refine wpAnyH_take (i := 6) (v := (.pointer (some ⟨g, j + 1, .none⟩))) rfl (by kernel_rfl) (by kernel_rfl) (by kernel_rfl) (fun _ _ _ h => h) (Or.inl ⟨by rfl, fun ww hSw => by (try dsimp only at hSw); go_simp⟩) (by assumption) ?_
          simp only [Act.put, List.setIfInBounds_toArray, List.set_cons_zero, List.set_cons_succ, List.getElem_toArray, List.getElem_cons_succ, List.getElem_cons_zero]
          refine wpAnyH_take (i := 7) (v := (.int .u64 x)) rfl (by kernel_rfl) (by kernel_rfl) (by kernel_rfl) (fun _ _ _ h => h) (Or.inl ⟨by rfl, fun ww hSw => by (try dsimp only at hSw); go_simp⟩) (by assumption) ?_
          simp only [Act.put, List.setIfInBounds_toArray, List.set_cons_zero, List.set_cons_succ, List.getElem_toArray, List.getElem_cons_succ, List.getElem_cons_zero]
          refine wpAnyH_take (i := 8) (v := (.slice (some ⟨g, 0, .none⟩) n c)) rfl (by kernel_rfl) (by kernel_rfl) (by kernel_rfl) (fun _ _ _ h => h) (Or.inl ⟨by rfl, fun ww hSw => by (try dsimp only at hSw); go_simp⟩) (by assumption) ?_
          simp only [Act.put, List.setIfInBounds_toArray, List.set_cons_zero, List.set_cons_succ, List.getElem_toArray, List.getElem_cons_succ, List.getElem_cons_zero]
          refine wpAnyH_take (i := 9) (v := (.int .i64 ((j + 1 : Nat) : Int))) rfl (by kernel_rfl) (by kernel_rfl) (by kernel_rfl) (fun _ _ _ h => h) (Or.inl ⟨by rfl, fun ww hSw => by (try dsimp only at hSw); go_simp⟩) (by assumption) ?_
          simp only [Act.put, List.setIfInBounds_toArray, List.set_cons_zero, List.set_cons_succ, List.getElem_toArray, List.getElem_cons_succ, List.getElem_cons_zero]
          refine wpAnyH_take (i := 10) (v := (.int .i64 j)) rfl (by kernel_rfl) (by kernel_rfl) (by kernel_rfl) (fun _ _ _ h => h) (Or.inl ⟨by rfl, fun ww hSw => by (try dsimp only at hSw); go_simp⟩) (by assumption) ?_
          simp only [Act.put, List.setIfInBounds_toArray, List.set_cons_zero, List.set_cons_succ, List.getElem_toArray, List.getElem_cons_succ, List.getElem_cons_zero]
          refine wpAnyH_take (i := 11) (v := (.pointer (some ⟨g, j, .none⟩))) rfl (by kernel_rfl) (by kernel_rfl) (by kernel_rfl) (fun _ _ _ h => h) (Or.inl ⟨by rfl, fun ww hSw => by (try dsimp only at hSw); go_simp⟩) (by assumption) ?_
          simp only [Act.put, List.setIfInBounds_toArray, List.set_cons_zero, List.set_cons_succ, List.getElem_toArray, List.getElem_cons_succ, List.getElem_cons_zero]
          refine wpAnyH_take (i := 12) (v := (.int .u64 a)) rfl (by kernel_rfl) (by kernel_rfl) (by kernel_rfl) (fun _ _ _ h => h) (Or.inl ⟨by rfl, fun ww hSw => by (try dsimp only at hSw); go_simp⟩) (by assumption) ?_
          simp only [Act.put, List.setIfInBounds_toArray, List.set_cons_zero, List.set_cons_succ, List.getElem_toArray, List.getElem_cons_succ, List.getElem_cons_zero]
          refine wpAnyH_ready (rs := [13]) (by kernel_rfl) (by simp) ?_
          refine AllReadyH.cons rfl (fun K hK => ?_) AllReadyH.nil
          go_simp
          go_at_call 128
          refine (less_any x a _).mono ?_
          rintro _ w3 ⟨rfl, e3⟩
          obtain rfl : w3 = wr.drew := e3
          refine hK.out _ _ ⟨kx, ka⟩ (fun hHeld => ?_)
          clear hK K
          try simp only [Act.put, List.setIfInBounds_toArray, List.set_cons_zero, List.set_cons_succ, List.getElem_toArray, List.getElem_cons_succ, List.getElem_cons_zero]
          refine wpAnyH_take (i := 14) (v := (.bool (decide (x < a)))) rfl (by kernel_rfl) (by kernel_rfl) (by kernel_rfl) (fun _ _ _ h => h) (Or.inl ⟨by rfl, fun ww hSw => by (try dsimp only at hSw); go_simp⟩) (by assumption) ?_
          simp only [Act.put, List.setIfInBounds_toArray, List.set_cons_zero, List.set_cons_succ, List.getElem_toArray, List.getElem_cons_succ, List.getElem_cons_zero]
          refine wpAnyH_done (by kernel_rfl) ?_ _
          by_cases hxa : x < a
          · go_upto_region 6 with fail
            go_region
            have HS : Hid (InS w X g n c xs i j ((wr.setCell ⟨g, j + 1, .none⟩ (.int .u64 a)).setCell ⟨g, j, .none⟩ (.int .u64 x)).drew.drew) := by
              obtain ⟨q1, q2, q3, q4, q5, q6⟩ := HA.out
              refine ⟨A, a :: D, C, x, q1, by simp; omega, by simpa using q3, fun d hd => ?_, ?_, ?_⟩
              · rcases List.mem_cons.1 hd with rfl | hd
                · exact hxa
                · exact q4 d hd
              · refine List.Perm.trans ?_ q5
                rw [List.append_assoc]
                exact List.Perm.append_left A (List.Perm.swap a x _)
              · have e1 := set_at (A ++ [a]) (D ++ C) x a
                rw [List.length_append, List.length_singleton, q1] at e1
                have e2 := set_at A (a :: (D ++ C)) a x
                rw [q1] at e2
                exact (((q6.set (j + 1) a (zs := A ++ a :: a :: (D ++ C)) (by rw [e1]; simp)).set j x (zs := A ++ x :: (a :: D ++ C)) (by rw [e2]; simp)).drew).drew
            go_wp2_with fail
            exact ⟨⟨j, by omega, by simp, HS⟩, by simp only [intOf]; omega⟩
          · have HD : Hid (OuS w X g n c xs (i + 1) wr) := by
              obtain ⟨q1, q2, q3, q4, q5, q6⟩ := HA.out
              refine InS.done (A ++ [a]) D C x (by simp; omega) q2 q3 q4 q5 q6 (fun b hb => ?_)
              rw [List.append_assoc, List.pairwise_append] at q3
              rcases List.mem_append.1 hb with hb | hb
              · have := q3.2.2 b hb a (by simp)
                omega
              · rw [List.mem_singleton.1 hb]
                omega
            go_wp2_with fail
            exact ⟨⟨i + 1, by omega, by omega, by simp, HD.out.drew⟩, by simp only [intOf]; omega⟩
    · have hlt : ¬ (i : Int) < n := by omega
      go_wp2_with fail
      obtain ⟨S, C, h1, h2, h3, h4⟩ := HO.out
      have e : C = [] := by
        have := h3.length_eq
        have := HL.out
        simp at *
        exact List.eq_nil_of_length_eq_zero (by omega)
      subst e
      rw [List.append_nil] at h3 h4
      exact bodyPost_end (v := .tuple #[]) (by simp [results, Tryz.results122, go_sem]) rfl ⟨rfl, S, h3, h2, h4⟩
/-- A number that is told. -/
def LnP (w : World) (e : Ending) (w' : World) : Prop := (∃ v : Int, e = .returned (.int .i64 v)) ∧ w' = w
set_option maxRecDepth 100000 in
theorem len_small (n : Nat) (h : 1 ≤ n ∧ n ≤ 12) (w : World) : Calls Tryz.prog 110 #[.int .u64 n] w (LnP w) := by
  obtain rfl | rfl | rfl | rfl | rfl | rfl | rfl | rfl | rfl | rfl | rfl | rfl : n = 1 ∨ n = 2 ∨ n = 3 ∨ n = 4 ∨ n = 5 ∨ n = 6 ∨ n = 7 ∨ n = 8 ∨ n = 9 ∨ n = 10 ∨ n = 11 ∨ n = 12 := by omega
  all_goals
    go_enter Tryz.func110, Tryz.ntmps110
    go_wp2_with fail
    go_ret
    exact ⟨⟨_, rfl⟩, rfl⟩
theorem blen_small (n : Nat) (h : 1 ≤ n ∧ n ≤ 12) (w : World) : Calls Tryz.prog 97 #[.int .u64 n] w (LnP w) := by
  have c110 := len_small n h w
  go_enter Tryz.func97, Tryz.ntmps97
  go_wp2_with (go_at_call 110; refine c110.mono ?_; rintro _ w1 ⟨⟨v, rfl⟩, e1⟩; obtain rfl : w = w1 := e1.symm)
  go_ret
  exact ⟨⟨v, rfl⟩, rfl⟩
theorem pdq_small {w : World} {X g n c : Nat} {xs : List Int} (hl : xs.length = n) (hn : 1 ≤ n ∧ n ≤ 12) (h : w.ownsRow X 23 1 (.slice (some ⟨g, 0, .none⟩) n c) n (wv xs)) (v : Int) : Calls Tryz.prog 96 #[.slice (some ⟨g, 0, .none⟩) n c, .int .i64 0, .int .i64 n, .int .i64 v] w (SoP w X g n c xs) := by
  have c122 := insert_any hl (by omega) h
  unfold SoP at c122
  have hle : (n : Int) ≤ 12 := by omega
  clear h hl
  go_enter Tryz.func96, Tryz.ntmps96
  go_wp2_with fail
  go_loopw [1, 2] (fun a b wr => a = .int .i64 0 ∧ b = .int .i64 n ∧ Hid (wr = w)) (fun _ _ _ => 0)
  case atStart => exact ⟨rfl, rfl, rfl⟩
  case round =>
    obtain ⟨rfl, rfl, HE⟩ := hrel
    obtain rfl : w = wr := HE.out.symm
    go_wp2_with (go_at_call 122; refine c122.mono ?_; rintro _ w1 ⟨rfl, Z⟩; have HZ : Hid (∃ ys, ys.Perm xs ∧ ys.Pairwise (· ≤ ·) ∧ SrI w X g n c ys w1) := Z; clear Z c122)
    exact bodyPost_ret (v := .tuple #[]) (by simp [results, Tryz.results96, go_sem]) rfl ⟨rfl, HZ.out⟩
theorem sort_small {w : World} {X g n c : Nat} {xs : List Int} (hl : xs.length = n) (hn : 1 ≤ n ∧ n ≤ 12) (h : w.ownsRow X 23 1 (.slice (some ⟨g, 0, .none⟩) n c) n (wv xs)) : Calls Tryz.prog 60 #[.slice (some ⟨g, 0, .none⟩) n c] w (SoP w X g n c xs) := by
  have c97 := blen_small n hn w
  have c96 := fun v => pdq_small hl hn h v
  unfold SoP at c96
  have hcv : IntKind.u64.wrap (n : Int) = n := by rw [IntKind.wrap_u64]; omega
  clear h hl
  go_enter Tryz.func60, Tryz.ntmps60
  go_wp2_with first | (go_at_call 97; refine c97.mono ?_; rintro _ w1 ⟨⟨v, rfl⟩, e1⟩; obtain rfl : w = w1 := e1.symm) | (go_at_call 96; refine (c96 v).mono ?_; rintro _ w1 ⟨rfl, Z⟩; have HZ : Hid (∃ ys, ys.Perm xs ∧ ys.Pairwise (· ≤ ·) ∧ SrI w X g n c ys w1) := Z; clear Z c96)
  exact bodyPost_end (v := .tuple #[]) (by simp [results, Tryz.results60, go_sem]) rfl ⟨rfl, HZ.out⟩
end Go.Proofs.YtblmkkhiojbcjaaGreat
namespace Go.Proofs.YtblmkkhiojbcjaaGreat.Fz
open Go
set_option linter.unusedVariables false
/-- An append to a row of the call's own, and what else stays: every row that is no longer than the part that was there. -/
theorem run_append_keep (P : Program) (w : World) (base : Nat) (t ty e : TypeId) (i : TypeInfo) (z : Value) (bytes : Nat) (ht : P.underlying t = some (.slice e)) (hi : P.info? e = some i) (hz : i.zero = some z)
    (hsize : i.size = 1) (hby : i.bytes = bytes) (hzs : z.cells.size = 1) (v : Value) (n : Nat) (xs : List Value) (hown : w.ownsRow base e 1 v n xs)
    (a : Addr) (c : Nat) (u : Value) (hnews : w.cell? a = some u) (ha : a.add 0 = a) (h1 : u.oneCell' = true) (h63 : n + 1 ≤ maxLen) (hbytes : (n + 1) * bytes ≤ 140737488355328) (hbase : base ≤ w.heap.size) :
    ∃ v' w', (Builtin.append_ #[t, t] ty #[v, .slice (some a) 1 c]).run P w = .ok v' w' ∧ w'.ownsRow base e 1 v' (n + 1) (xs ++ [u]) ∧ w.grownBy w' v.ownBlock ∧
      (∀ v0 n0 xs0, (v0.ownBlock = v.ownBlock → n0 ≤ n) → w.ownsRow base e 1 v0 n0 xs0 → w'.ownsRow base e 1 v0 n0 xs0) ∧ (∃ b, v'.ownBlock = some b ∧ (v.ownBlock = some b ∨ w.heap.size ≤ b)) := by
  have hnews' : ∀ j u', [u][j]? = some u' → w.cell? (a.add j) = some u' := by
    intro j u' hj
    match j, hj with
    | 0, hj => simp only [List.getElem?_cons_zero, Option.some.injEq] at hj; subst hj; rw [ha]; exact hnews
  have h1' : ∀ u' ∈ [u], u'.oneCell' = true := by intro u' hu; simp only [List.mem_singleton] at hu; subst hu; exact h1
  have h63' : n + 1 ≤ 9223372036854775807 := by simp only [maxLen] at h63; omega
  obtain ⟨v', w', hr, h2, h3, h4⟩ := run_append_own (P := P) w base t ty e i z 1 bytes ht hi hz hsize hby hzs (by decide) v n xs hown a 1 c [u] rfl hnews' h1' h63 hbytes hbase
  refine ⟨v', w', hr, h2, h3, ?_, ?_⟩
  · rcases hown.2 with ⟨rfl, rfl⟩ | ⟨g, cap, cur, rfl, hbg, hg, hnc, hcm, hcs, htake⟩
    · intro v0 n0 xs0 hn0 h0
      exact h0.kept h3 (by cases v0.ownBlock <;> simp [Value.ownBlock])
    · intro v0 n0 xs0 hn0 h0
      by_cases hroom : n + 1 ≤ cap
      · have hr' := run_append_room (P := P) w t ty e i ht hi g n cap cur hg a 1 c [u] (by rw [hsize]; rfl) hnews' h1' hroom (by rw [hsize, hcs]; simp; omega)
        rw [hr] at hr'
        simp only [Result.ok.injEq] at hr'
        obtain ⟨rfl, rfl⟩ := hr'
        rcases h0.2 with ⟨rfl, rfl⟩ | ⟨g0, cap0, cur0, rfl, hb0, hg0, hn0', hc0, hs0, ht0⟩
        · exact ⟨h0.1, .inl ⟨rfl, rfl⟩⟩
        · by_cases hgg : g0 = g
          · subst hgg
            have hn0 := hn0 rfl
            have hcc : cur0 = cur := by
              have e := hg0.symm.trans hg
              simp only [Option.some.injEq, Obj.cells.injEq] at e
              exact e.1
            subst hcc
            refine ⟨h0.1, .inr ⟨g0, cap0, _, rfl, hb0, setRow_heap w g0 cur0 _ e _ hg, hn0', hc0, ?_, ?_⟩⟩
            · simp only [List.size_toArray, List.length_append, List.length_take, List.length_drop, Array.length_toList, hsize, List.length_singleton]
              omega
            · rw [hsize, Nat.mul_one, Nat.mul_one] at *
              simp only [List.append_assoc]
              rw [List.take_append_of_le_length (by simp only [List.length_take, Array.length_toList]; omega), List.take_take, Nat.min_eq_left hn0]
              exact ht0
          · exact h0.kept h3 (.inr (by simp [Value.ownBlock, hgg]))
      · have hr' := run_append_grow (P := P) w t ty e i z ht hi hz ⟨g, 0, none⟩ n cap xs (by rw [hsize]; exact hown.1) (hown.cells (g := g) rfl) a 1 c [u] (by rw [hsize]; rfl) hnews' (by omega) (by omega) (growslice_fits (by omega) (by rw [hby]; exact hbytes))
        rw [hr] at hr'
        simp only [Result.ok.injEq] at hr'
        obtain ⟨rfl, rfl⟩ := hr'
        exact h0.kept (row := none) ⟨rfl, rfl, rfl, by simp, fun k hk _ => RowKit.Below.heap_alloc w.drew _ k hk⟩ (by cases v0.ownBlock <;> simp)
  · rcases hown.2 with ⟨rfl, rfl⟩ | ⟨g, cap, cur, rfl, hbg, hg, hnc, hcm, hcs, htake⟩
    · have hr' := run_append_nil (P := P) w t ty e i z ht hi hz a 1 c [u] (by rw [hsize]; rfl) hnews' (by omega) (by omega) (by have := hbytes; rw [hby]; omega)
      rw [hr] at hr'
      simp only [Result.ok.injEq] at hr'
      obtain ⟨rfl, rfl⟩ := hr'
      exact ⟨_, rfl, .inr (Nat.le_refl _)⟩
    · by_cases hroom : n + 1 ≤ cap
      · have hr' := run_append_room (P := P) w t ty e i ht hi g n cap cur hg a 1 c [u] (by rw [hsize]; rfl) hnews' h1' hroom (by rw [hsize, hcs]; simp; omega)
        rw [hr] at hr'
        simp only [Result.ok.injEq] at hr'
        obtain ⟨rfl, rfl⟩ := hr'
        exact ⟨_, rfl, .inl rfl⟩
      · have hr' := run_append_grow (P := P) w t ty e i z ht hi hz ⟨g, 0, none⟩ n cap xs (by rw [hsize]; exact hown.1) (hown.cells (g := g) rfl) a 1 c [u] (by rw [hsize]; rfl) hnews' (by omega) (by omega) (growslice_fits (by omega) (by rw [hby]; exact hbytes))
        rw [hr] at hr'
        simp only [Result.ok.injEq] at hr'
        obtain ⟨rfl, rfl⟩ := hr'
        exact ⟨_, rfl, .inr (Nat.le_refl _)⟩
theorem wpList_append_keep {P : Program} (w : World) {ops : Array Oper} {rest : List Oper} {o : Oper} {a : Act} {Q : Exit → Act → World → Prop} (hgd : o.guard = none) (s x : Operand) (t : TypeId)
    (ho : o.op = .call { callee := .builtin .append, args := #[s, x], argTypes := #[t, t] })
    (base : Nat) (e : TypeId) (i : TypeInfo) (z : Value) (bytes : Nat) (ht : P.underlying t = some (.slice e)) (hi : P.info? e = some i) (hz : i.zero = some z)
    (hsize : i.size = 1) (hby : i.bytes = bytes) (hzs : z.cells.size = 1) (v : Value) (n : Nat) (xs : List Value) (hs : a.eval s = v) (hown : w.ownsRow base e 1 v n xs)
    (ad : Addr) (c : Nat) (u : Value) (hx : a.eval x = .slice (some ad) 1 c) (hnews : w.cell? ad = some u) (ha : ad.add 0 = ad) (h1 : u.oneCell' = true)
    (h63 : n + 1 ≤ maxLen) (hbytes : (n + 1) * bytes ≤ 140737488355328) (hbase : base ≤ w.heap.size)
    (h : ∀ v' w', w'.ownsRow base e 1 v' (n + 1) (xs ++ [u]) → w.grownBy w' v.ownBlock → (∀ v0 n0 xs0, (v0.ownBlock = v.ownBlock → n0 ≤ n) → w.ownsRow base e 1 v0 n0 xs0 → w'.ownsRow base e 1 v0 n0 xs0) →
      (∃ b, v'.ownBlock = some b ∧ (v.ownBlock = some b ∨ w.heap.size ≤ b)) → wpList P ops Q rest (a.put o.dst v') w') : wpList P ops Q (o :: rest) a w := by
  obtain ⟨v', w', hr, h2, h3, h4, h5⟩ := run_append_keep P w base t o.type e i z bytes ht hi hz hsize hby hzs v n xs hown ad c u hnews ha h1 h63 hbytes hbase
  refine wpList_plain hgd fun K hK => ?_
  unfold Oper.wp execOp
  simp only [ho, resolve, invoke, builtin, Sem.run_bind, Sem.run_pure, Result.andThen_ok, List.map_toArray, List.map_cons, List.map_nil, hs, hx, hr]
  exact hK _ _ (h v' w' h2 h3 h4 h5)
end Go.Proofs.YtblmkkhiojbcjaaGreat.Fz
