import Derived.Test.YthdlefbaegbldaaGreatDoorFa
namespace Go.Proofs.YthdlefbaegbldaaGreatDoor
open Go.RowKit
set_option linter.unusedVariables false
set_option linter.unusedSimpArgs false
set_option maxRecDepth 100000
/-- How many of the first k places are free. -/
def lft (F : Nat → Option Nat) : Nat → Nat
  | 0 => 0
  | k + 1 => lft F k + (if F k = none then 1 else 0)
theorem lft_le (F : Nat → Option Nat) : ∀ k, lft F k ≤ k
  | 0 => Nat.le_refl _
  | k + 1 => by have := lft_le F k; simp only [lft]; split <;> omega
theorem opt_none {o : Option Nat} (h : o = none) : opt o = none := by subst h; rfl
theorem opt_some {o : Option Nat} {b : Nat} (h : o = some b) : opt o = some ⟨b, 0, .none⟩ := by subst h; rfl
/-- A place is written over. -/
def setF (F : Nat → Option Nat) (k : Nat) (v : Option Nat) : Nat → Option Nat := fun i => if i = k then v else F i
theorem Tab.set {w : World} {g n : Nat} {F : Nat → Option Nat} (h : Tab w g n F) (k : Nat) (v : Option Nat) : Tab (w.setCell ⟨g, k, .none⟩ (.pointer (opt v))) g n (setF F k v) :=
  ⟨fun i hi => by
    by_cases e : i = k
    · subst e
      rw [World.cell?_setCell_same _ _ _ (h.c i hi), setF, if_pos rfl]
    · rw [World.cell?_setCell_other _ _ _ _ (by intro hh; injection hh with _ hh; omega), setF, if_neg e]
      exact h.c i hi, fun i hi => by rw [World.frozen?_setCell]; exact h.f i hi⟩

set_option maxHeartbeats 1000000 in
theorem tleftF_any {w : World} {g n : Nat} {F : Nat → Option Nat} (h : Tab w g n F) (hn : n < 1000000) (h0 : 0 < n) : Calls Tryz.prog 39 #[.agg #[.slice (some ⟨g, 0, .none⟩) n n]] w fun e w' => e = .returned (.int .i64 (lft F n)) ∧ Below w.heap.size w w' := by
  have hb : Below w.heap.size w (w.alloc (.cells #[.slice (some ⟨g, 0, .none⟩) n n] 61)) := (Below.refl _ _).alloc (Nat.le_refl _) _
  have HT : Hid (Tab (w.alloc (.cells #[.slice (some ⟨g, 0, .none⟩) n n] 61)) g n F) := h.below h0 hb
  have c2 : (w.alloc (.cells #[.slice (some ⟨g, 0, .none⟩) n n] 61)).cell? ⟨w.heap.size, 0, .none⟩ = some (.slice (some ⟨g, 0, .none⟩) n n) := by
    rw [World.cell?_alloc_at _ _ _ _ rfl]; rfl
  go_enter Tryz.func39, Tryz.ntmps39
  go_upto_region 1 with fail
  generalize (w.alloc (.cells #[.slice (some ⟨g, 0, .none⟩) n n] 61)) = W at *
  go_wp2
  go_loopw [3, 5, 9] (fun v u k wr => ∃ i : Nat, i ≤ n ∧ k = .int .i64 i ∧ v = .int .i64 (lft F i) ∧ wr = W) (fun _ _ k _ => (n - intOf k).toNat)
  case atStart => exact ⟨0, by omega, rfl, rfl, rfl⟩
  case round =>
    obtain ⟨i, hi, rfl, rfl, rfl⟩ := hrel
    have hl := lft_le F i
    by_cases hlt : i < n
    · have g0 : (i : Int) < n := by omega
      have ci := HT.out.c i hlt
      cases hF : F i with
      | none =>
        rw [opt_none hF] at ci
        have HE : Hid (lft F (i + 1) = lft F i + 1) := by show lft F (i + 1) = _; simp only [lft, hF, if_true]
        clear hF
        go_wp2
        exact ⟨⟨i + 1, by omega, rfl, by rw [HE.out]; rfl, trivial⟩, by simp only [intOf]; omega⟩
      | some q =>
        rw [opt_some hF] at ci
        have HE : Hid (lft F (i + 1) = lft F i) := by show lft F (i + 1) = _; simp [lft, hF]
        clear hF
        go_wp2
        exact ⟨⟨i + 1, by omega, rfl, by rw [HE.out], trivial⟩, by simp only [intOf]; omega⟩
    · obtain rfl : i = n := by omega
      go_wp2
      go_ret
      exact ⟨rfl, hb⟩

set_option maxHeartbeats 1000000 in
/-- The lowest free place. -/
theorem taddF_any {w : World} {g n : Nat} {F : Nat → Option Nat} (h : Tab w g n F) (hn : n < 1000000) (h0 : 0 < n) (k : Nat) (hk : k < n) (hF : ∀ i, i < k → F i ≠ none) (hN : F k = none) (b : Nat) (hlt : g < w.heap.size) : Calls Tryz.prog 56 #[.agg #[.slice (some ⟨g, 0, .none⟩) n n], .pointer (some ⟨b, 0, .none⟩)] w fun e w' => e = .returned (.int .i64 k) ∧ Tab w' g n (setF F k (some b)) ∧ Trn g w w' := by
  have hb : Below w.heap.size w (w.alloc (.cells #[.slice (some ⟨g, 0, .none⟩) n n] 61)) := (Below.refl _ _).alloc (Nat.le_refl _) _
  have HT : Hid (Tab (w.alloc (.cells #[.slice (some ⟨g, 0, .none⟩) n n] 61)) g n F) := h.below h0 hb
  have HB : Hid (Below w.heap.size w (w.alloc (.cells #[.slice (some ⟨g, 0, .none⟩) n n] 61))) := hb
  have c2 : (w.alloc (.cells #[.slice (some ⟨g, 0, .none⟩) n n] 61)).cell? ⟨w.heap.size, 0, .none⟩ = some (.slice (some ⟨g, 0, .none⟩) n n) := by
    rw [World.cell?_alloc_at _ _ _ _ rfl]; rfl
  have HF : Hid (∀ i, i < k → F i ≠ none) := hF
  have HN : Hid (F k = none) := hN
  clear hb hF hN
  go_enter Tryz.func56, Tryz.ntmps56
  go_upto_region 1 with fail
  generalize (w.alloc (.cells #[.slice (some ⟨g, 0, .none⟩) n n] 61)) = W at *
  go_wp2
  go_loopw [5, 6, 10] (fun u v kk wr => ∃ i : Nat, i ≤ k ∧ kk = .int .i64 i ∧ wr = W) (fun _ _ kk _ => (k - intOf kk).toNat)
  case atStart => exact ⟨0, by omega, rfl, rfl⟩
  case round =>
    obtain ⟨i, hi, rfl, rfl⟩ := hrel
    have g0 : (i : Int) < n := by omega
    have hin : i < n := by omega
    have ci := HT.out.c i hin
    by_cases hlk : i < k
    · cases hF : F i with
      | none => exact absurd hF (HF.out i hlk)
      | some q =>
        rw [opt_some hF] at ci
        clear hF
        go_wp2
        exact ⟨⟨i + 1, by omega, rfl, trivial⟩, by simp only [intOf]; omega⟩
    · obtain rfl : i = k := by omega
      rw [opt_none HN.out] at ci
      have cf := HT.out.f i hin
      go_wp2
      go_ret
      exact ⟨rfl, HT.out.set i (some b), (Trn.ofBelow HB.out).trans (Trn.setCell _ _ _ _)⟩

theorem tfreeF_any {w : World} {g n : Nat} {F : Nat → Option Nat} (h : Tab w g n F) (hn : n < 1000000) (h0 : 0 < n) (k : Nat) (hk : k < n) : Calls Tryz.prog 33 #[.agg #[.slice (some ⟨g, 0, .none⟩) n n], .int .i64 k] w fun e w' => (∃ v, e = .returned v) ∧ Tab w' g n (setF F k none) ∧ Trn g w w' := by
  have hb : Below w.heap.size w (w.alloc (.cells #[.slice (some ⟨g, 0, .none⟩) n n] 61)) := (Below.refl _ _).alloc (Nat.le_refl _) _
  have HT : Hid (Tab (w.alloc (.cells #[.slice (some ⟨g, 0, .none⟩) n n] 61)) g n F) := h.below h0 hb
  have HB : Hid (Below w.heap.size w (w.alloc (.cells #[.slice (some ⟨g, 0, .none⟩) n n] 61))) := hb
  have c2 : (w.alloc (.cells #[.slice (some ⟨g, 0, .none⟩) n n] 61)).cell? ⟨w.heap.size, 0, .none⟩ = some (.slice (some ⟨g, 0, .none⟩) n n) := by
    rw [World.cell?_alloc_at _ _ _ _ rfl]; rfl
  clear hb
  have ci := HT.out.c k hk
  have cf := HT.out.f k hk
  go_enter Tryz.func33, Tryz.ntmps33
  go_upto_region 1 with fail
  generalize (w.alloc (.cells #[.slice (some ⟨g, 0, .none⟩) n n] 61)) = W at *
  go_wp2
  go_end0
  exact ⟨⟨_, rfl⟩, HT.out.set k none, (Trn.ofBelow HB.out).trans (Trn.setCell _ _ _ _)⟩

set_option maxHeartbeats 1000000 in
theorem tleftP_any {w : World} {g n : Nat} {F : Nat → Option Nat} (h : Tab w g n F) (hn : n < 1000000) (h0 : 0 < n) : Calls Tryz.prog 41 #[.agg #[.slice (some ⟨g, 0, .none⟩) n n]] w fun e w' => e = .returned (.int .i64 (lft F n)) ∧ Below w.heap.size w w' := by
  have hb : Below w.heap.size w (w.alloc (.cells #[.slice (some ⟨g, 0, .none⟩) n n] 64)) := (Below.refl _ _).alloc (Nat.le_refl _) _
  have HT : Hid (Tab (w.alloc (.cells #[.slice (some ⟨g, 0, .none⟩) n n] 64)) g n F) := h.below h0 hb
  have c2 : (w.alloc (.cells #[.slice (some ⟨g, 0, .none⟩) n n] 64)).cell? ⟨w.heap.size, 0, .none⟩ = some (.slice (some ⟨g, 0, .none⟩) n n) := by
    rw [World.cell?_alloc_at _ _ _ _ rfl]; rfl
  go_enter Tryz.func41, Tryz.ntmps41
  go_upto_region 1 with fail
  generalize (w.alloc (.cells #[.slice (some ⟨g, 0, .none⟩) n n] 64)) = W at *
  go_wp2
  go_loopw [3, 5, 9] (fun v u k wr => ∃ i : Nat, i ≤ n ∧ k = .int .i64 i ∧ v = .int .i64 (lft F i) ∧ wr = W) (fun _ _ k _ => (n - intOf k).toNat)
  case atStart => exact ⟨0, by omega, rfl, rfl, rfl⟩
  case round =>
    obtain ⟨i, hi, rfl, rfl, rfl⟩ := hrel
    have hl := lft_le F i
    by_cases hlt : i < n
    · have g0 : (i : Int) < n := by omega
      have ci := HT.out.c i hlt
      cases hF : F i with
      | none =>
        rw [opt_none hF] at ci
        have HE : Hid (lft F (i + 1) = lft F i + 1) := by show lft F (i + 1) = _; simp only [lft, hF, if_true]
        clear hF
        go_wp2
        exact ⟨⟨i + 1, by omega, rfl, by rw [HE.out]; rfl, trivial⟩, by simp only [intOf]; omega⟩
      | some q =>
        rw [opt_some hF] at ci
        have HE : Hid (lft F (i + 1) = lft F i) := by show lft F (i + 1) = _; simp [lft, hF]
        clear hF
        go_wp2
        exact ⟨⟨i + 1, by omega, rfl, by rw [HE.out], trivial⟩, by simp only [intOf]; omega⟩
    · obtain rfl : i = n := by omega
      go_wp2
      go_ret
      exact ⟨rfl, hb⟩

set_option maxHeartbeats 1000000 in
/-- The lowest free place. -/
theorem taddP_any {w : World} {g n : Nat} {F : Nat → Option Nat} (h : Tab w g n F) (hn : n < 1000000) (h0 : 0 < n) (k : Nat) (hk : k < n) (hF : ∀ i, i < k → F i ≠ none) (hN : F k = none) (b : Nat) (hlt : g < w.heap.size) : Calls Tryz.prog 27 #[.agg #[.slice (some ⟨g, 0, .none⟩) n n], .pointer (some ⟨b, 0, .none⟩)] w fun e w' => e = .returned (.int .i64 k) ∧ Tab w' g n (setF F k (some b)) ∧ Trn g w w' := by
  have hb : Below w.heap.size w (w.alloc (.cells #[.slice (some ⟨g, 0, .none⟩) n n] 64)) := (Below.refl _ _).alloc (Nat.le_refl _) _
  have HT : Hid (Tab (w.alloc (.cells #[.slice (some ⟨g, 0, .none⟩) n n] 64)) g n F) := h.below h0 hb
  have HB : Hid (Below w.heap.size w (w.alloc (.cells #[.slice (some ⟨g, 0, .none⟩) n n] 64))) := hb
  have c2 : (w.alloc (.cells #[.slice (some ⟨g, 0, .none⟩) n n] 64)).cell? ⟨w.heap.size, 0, .none⟩ = some (.slice (some ⟨g, 0, .none⟩) n n) := by
    rw [World.cell?_alloc_at _ _ _ _ rfl]; rfl
  have HF : Hid (∀ i, i < k → F i ≠ none) := hF
  have HN : Hid (F k = none) := hN
  clear hb hF hN
  go_enter Tryz.func27, Tryz.ntmps27
  go_upto_region 1 with fail
  generalize (w.alloc (.cells #[.slice (some ⟨g, 0, .none⟩) n n] 64)) = W at *
  go_wp2
  go_loopw [5, 6, 10] (fun u v kk wr => ∃ i : Nat, i ≤ k ∧ kk = .int .i64 i ∧ wr = W) (fun _ _ kk _ => (k - intOf kk).toNat)
  case atStart => exact ⟨0, by omega, rfl, rfl⟩
  case round =>
    obtain ⟨i, hi, rfl, rfl⟩ := hrel
    have g0 : (i : Int) < n := by omega
    have hin : i < n := by omega
    have ci := HT.out.c i hin
    by_cases hlk : i < k
    · cases hF : F i with
      | none => exact absurd hF (HF.out i hlk)
      | some q =>
        rw [opt_some hF] at ci
        clear hF
        go_wp2
        exact ⟨⟨i + 1, by omega, rfl, trivial⟩, by simp only [intOf]; omega⟩
    · obtain rfl : i = k := by omega
      rw [opt_none HN.out] at ci
      have cf := HT.out.f i hin
      go_wp2
      go_ret
      exact ⟨rfl, HT.out.set i (some b), (Trn.ofBelow HB.out).trans (Trn.setCell _ _ _ _)⟩

theorem tfreeP_any {w : World} {g n : Nat} {F : Nat → Option Nat} (h : Tab w g n F) (hn : n < 1000000) (h0 : 0 < n) (k : Nat) (hk : k < n) : Calls Tryz.prog 63 #[.agg #[.slice (some ⟨g, 0, .none⟩) n n], .int .i64 k] w fun e w' => (∃ v, e = .returned v) ∧ Tab w' g n (setF F k none) ∧ Trn g w w' := by
  have hb : Below w.heap.size w (w.alloc (.cells #[.slice (some ⟨g, 0, .none⟩) n n] 64)) := (Below.refl _ _).alloc (Nat.le_refl _) _
  have HT : Hid (Tab (w.alloc (.cells #[.slice (some ⟨g, 0, .none⟩) n n] 64)) g n F) := h.below h0 hb
  have HB : Hid (Below w.heap.size w (w.alloc (.cells #[.slice (some ⟨g, 0, .none⟩) n n] 64))) := hb
  have c2 : (w.alloc (.cells #[.slice (some ⟨g, 0, .none⟩) n n] 64)).cell? ⟨w.heap.size, 0, .none⟩ = some (.slice (some ⟨g, 0, .none⟩) n n) := by
    rw [World.cell?_alloc_at _ _ _ _ rfl]; rfl
  clear hb
  have ci := HT.out.c k hk
  have cf := HT.out.f k hk
  go_enter Tryz.func63, Tryz.ntmps63
  go_upto_region 1 with fail
  generalize (w.alloc (.cells #[.slice (some ⟨g, 0, .none⟩) n n] 64)) = W at *
  go_wp2
  go_end0
  exact ⟨⟨_, rfl⟩, HT.out.set k none, (Trn.ofBelow HB.out).trans (Trn.setCell _ _ _ _)⟩
end Go.Proofs.YthdlefbaegbldaaGreatDoor
