import Derived.Test.YtnlbomggadflmabPa
namespace Go.Proofs.Ytnlbomggadflmab
open Go.RowKit
set_option linter.unusedVariables false
set_option linter.unusedSimpArgs false
set_option maxRecDepth 100000
/-- Going once round from a place on: the first of which it is so. -/
def rnd (q : Nat → Bool) (f : Nat) : Option Nat := ((List.range 64).map fun k => (f + k) % 64).find? q
theorem rnd_none {q : Nat → Bool} {f : Nat} : rnd q f = none ↔ ∀ k, k < 64 → q ((f + k) % 64) = false := by
  simp [rnd]
theorem find_range (g : Nat → Bool) (n k : Nat) (hk : k < n) (h1 : ∀ j, j < k → g j = false) (h2 : g k = true) : (List.range n).find? g = some k := by
  rw [List.find?_eq_some_iff_getElem]
  refine ⟨h2, k, by simpa using hk, by simp, fun j hj => by simp [h1 j hj]⟩
theorem rnd_at {q : Nat → Bool} {f k : Nat} (hk : k < 64) (h1 : ∀ j, j < k → q ((f + j) % 64) = false) (h2 : q ((f + k) % 64) = true) : rnd q f = some ((f + k) % 64) := by
  rw [rnd, List.find?_map, find_range (q ∘ fun k => (f + k) % 64) 64 k hk h1 h2]
  rfl
theorem rnd_some {q : Nat → Bool} {f n : Nat} (h : rnd q f = some n) : ∃ k, k < 64 ∧ (∀ j, j < k → q ((f + j) % 64) = false) ∧ q n = true ∧ n = (f + k) % 64 := by
  rw [rnd, List.find?_map] at h
  cases h1 : (List.range 64).find? (q ∘ fun k => (f + k) % 64) with
  | none => rw [h1] at h; cases h
  | some k =>
    rw [h1] at h
    simp only [Option.map_some, Option.some.injEq] at h
    rw [List.find?_eq_some_iff_getElem] at h1
    obtain ⟨h2, i, hi, hk, h3⟩ := h1
    simp only [List.length_range] at hi
    simp only [List.getElem_range] at hk
    subst hk
    refine ⟨i, hi, fun j hj => ?_, by rw [← h]; exact h2, h.symm⟩
    have := h3 j hj
    simpa using this
def rnI : Option Nat → Int
  | none => -1
  | some n => n
def Enters (f : Nat) : Prop := ∀ (args : Array Value) (w : World), (callFunc f args).run Try.prog w = .ok (.enter f args) w
section
variable {w : World} {b : Nat} {P : Nat → Pr} {nx : Int}
set_option maxHeartbeats 2000000 in
theorem goRound_any (h : Tb w b P nx) (f : Nat) (hf : f ≤ 64) (F : Nat) (hE : Enters F) (cap : List Value) (q : Pr → Bool) (S : World → Prop) (hS : S w) (hK : ∀ W W', S W → Below w.heap.size W W' → S W')
    (hA : ∀ (p : Pr) (W : World), S W → Calls Try.prog F (.agg p.l.toArray :: cap).toArray W fun e w' => e = .returned (.bool (q p)) ∧ Below W.heap.size W w') :
    Calls Try.prog 48 #[.pointer (some ⟨b, 0, .none⟩), .int .i64 (f : Int), .func (.func F) #[] cap.toArray] w fun e w' => e = .returned (.tuple #[.int .i64 (rnI (rnd (fun i => q (P i)) f)), .bool (rnd (fun i => q (P i)) f).isSome]) ∧ Below w.heap.size w w' := by
  unfold Enters at hE
  have H : Hid (Tb w b P nx) := h
  have HS : Hid (S w) := hS
  have hb := h.lt
  clear h hS
  go_enter Try.func48, Try.ntmps48
  go_wp2
  go_loopw [10] (fun k wr => ∃ i : Nat, i ≤ 64 ∧ k = .int .i64 i ∧ Hid ((∀ j, j < i → q (P ((f + j) % 64)) = false) ∧ Below w.heap.size w wr)) (fun k _ => (64 - intOf k).toNat)
  case atStart => exact ⟨0, by omega, rfl, ⟨fun j hj => by omega, Below.refl _ _⟩⟩
  case round =>
    obtain ⟨i, hi, rfl, HO⟩ := hrel
    by_cases hlt : i < 64
    · have g0 : (i : Int) < 64 := by omega
      have gm : ((f : Int) + (i : Int)).tmod 64 = (((f + i) % 64 : Nat) : Int) := by
        rw [Int.tmod_eq_emod_of_nonneg (by omega)]; omega
      have hs : (f + i) % 64 < 64 := Nat.mod_lt _ (by omega)
      obtain ⟨c0, c1, c2, c3, c4, c5, c6⟩ := (H.out.below HO.out.2 hb).cells ((f + i) % 64) hs
      have k := hA (P ((f + i) % 64)) wr (hK _ _ HS.out HO.out.2)
      rw [Pr.l] at k
      have HQ : Hid (∃ t, t = q (P ((f + i) % 64))) := ⟨_, rfl⟩
      obtain ⟨t, ht⟩ := HQ.out
      have HT : Hid (t = q (P ((f + i) % 64))) := ht
      rw [← ht] at k
      clear ht HQ
      go_wp2_with fail
      refine k.mono ?_
      rintro e w1 ⟨rfl, hb1⟩
      have HB : Hid (Below w.heap.size w w1) := HO.out.2.trans (hb1.mono HO.out.2.size)
      clear k hb1
      cases t
      · have HF : Hid (∀ j, j < i + 1 → q (P ((f + j) % 64)) = false) := fun j hj => by
          by_cases e : j = i
          · rw [e]; exact HT.out.symm
          · exact HO.out.1 j (by omega)
        go_wp2
        exact ⟨⟨i + 1, by omega, rfl, HF.out, HB.out⟩, by simp only [intOf]; omega⟩
      · have HR : Hid (rnd (fun i => q (P i)) f = some ((f + i) % 64)) := rnd_at hlt HO.out.1 HT.out.symm
        go_wp2
        go_ret2
        refine ⟨?_, HB.out⟩
        rw [HR.out]
        simp [rnI]
    · obtain rfl : i = 64 := by omega
      have HR : Hid (rnd (fun i => q (P i)) f = none) := rnd_none.2 HO.out.1
      go_wp2
      go_ret2
      refine ⟨?_, HO.out.2⟩
      rw [HR.out]
      rfl
set_option maxHeartbeats 2000000 in
theorem least_any (h : Tb w b P nx) (F : Nat) (hE : Enters F) (cap : List Value) (q : Pr → Bool) (S : World → Prop) (hS : S w) (hK : ∀ W W', S W → Below w.heap.size W W' → S W')
    (hA : ∀ (p : Pr) (W : World), S W → Calls Try.prog F (.agg p.l.toArray :: cap).toArray W fun e w' => e = .returned (.bool (q p)) ∧ Below W.heap.size W w') :
    Calls Try.prog 40 #[.pointer (some ⟨b, 0, .none⟩), .func (.func F) #[] cap.toArray] w fun e w' => e = .returned (.tuple #[.int .i64 (rnI (rnd (fun i => q (P i)) 0)), .bool (rnd (fun i => q (P i)) 0).isSome]) ∧ Below w.heap.size w w' := by
  have k := goRound_any h 0 (by omega) F hE cap q S hS hK hA
  generalize rnI (rnd (fun i => q (P i)) 0) = r at *
  generalize (rnd (fun i => q (P i)) 0).isSome = t at *
  clear hA hS hK hE h
  go_enter Try.func40, Try.ntmps40
  go_wp2_with fail
  refine k.mono ?_
  rintro e w1 ⟨rfl, hb1⟩
  go_wp2
  go_ret2
  exact ⟨rfl, hb1⟩
theorem least_free (h : Tb w b P nx) : Calls Try.prog 40 #[.pointer (some ⟨b, 0, .none⟩), .func (.func 44) #[] #[]] w fun e w' => e = .returned (.tuple #[.int .i64 (rnI (rnd (fun i => (P i).st == 0) 0)), .bool (rnd (fun i => (P i).st == 0) 0).isSome]) ∧ Below w.heap.size w w' :=
  least_any h 44 (fun args w => by kernel_rfl) [] (fun p => p.st == 0) (fun _ => True) trivial (fun _ _ _ _ => trivial) (fun p W _ => isFree_any p W)
theorem least_proc (h : Tb w b P nx) : Calls Try.prog 40 #[.pointer (some ⟨b, 0, .none⟩), .func (.func 41) #[] #[]] w fun e w' => e = .returned (.tuple #[.int .i64 (rnI (rnd (fun i => !((P i).st == 0)) 0)), .bool (rnd (fun i => !((P i).st == 0)) 0).isSome]) ∧ Below w.heap.size w w' :=
  least_any h 41 (fun args w => by kernel_rfl) [] (fun p => !(p.st == 0)) (fun _ => True) trivial (fun _ _ _ _ => trivial) (fun p W _ => isProcess_any p W)
theorem round_run (h : Tb w b P nx) (f : Nat) (hf : f ≤ 64) : Calls Try.prog 48 #[.pointer (some ⟨b, 0, .none⟩), .int .i64 (f : Int), .func (.func 49) #[] #[]] w fun e w' => e = .returned (.tuple #[.int .i64 (rnI (rnd (fun i => (P i).st == 1) f)), .bool (rnd (fun i => (P i).st == 1) f).isSome]) ∧ Below w.heap.size w w' :=
  goRound_any h f hf 49 (fun args w => by kernel_rfl) [] (fun p => p.st == 1) (fun _ => True) trivial (fun _ _ _ _ => trivial) (fun p W _ => canRun_any p W)
/-- Where Pick begins. -/
def pkF (l : Int) : Nat := if 0 ≤ l ∧ l < 64 then l.toNat + 1 else 0
set_option maxHeartbeats 2000000 in
theorem pick_any (h : Tb w b P nx) (hn : 1 ≤ nx) (l : Int) : Calls Try.prog 16 #[.pointer (some ⟨b, 0, .none⟩), .int .i64 l] w fun e w' => e = .returned (.tuple #[.int .i64 (rnI (rnd (fun i => (P i).st == 1) (pkF l))), .bool (rnd (fun i => (P i).st == 1) (pkF l)).isSome]) ∧ Below w.heap.size w w' := by
  have k1 := isMade_any h hn
  by_cases hl : 0 ≤ l ∧ l < 64
  · obtain ⟨n, rfl⟩ : ∃ n : Nat, l = n := ⟨l.toNat, by omega⟩
    have e : pkF (n : Int) = n + 1 := by rw [pkF, if_pos hl, Int.toNat_natCast]
    have k2 := at_in b n (by omega) w
    have k3 := round_run h (n + 1) (by omega)
    rw [e]
    rw [Int.natCast_add, Int.natCast_one] at k3
    have g : n < 64 := by omega
    clear h hl e
    generalize rnI (rnd (fun i => (P i).st == 1) (n + 1)) = r at *
    generalize (rnd (fun i => (P i).st == 1) (n + 1)).isSome = t at *
    go_enter Try.func16, Try.ntmps16
    go_wp2_with fail
    refine k1.mono ?_
    rintro e w1 ⟨rfl, hw⟩
    obtain rfl : w = w1 := hw.symm
    go_wp2_with fail
    refine k2.mono ?_
    rintro e w1 ⟨rfl, hw⟩
    obtain rfl : w = w1 := hw.symm
    go_wp2_with fail
    refine k3.mono ?_
    rintro e w1 ⟨rfl, hb⟩
    go_wp2
    go_ret2
    exact ⟨rfl, hb⟩
  · have e : pkF l = 0 := by rw [pkF, if_neg hl]
    have k2 := at_out b l (by omega) w
    have k3 := round_run h 0 (by omega)
    rw [e]
    clear h hl e
    generalize rnI (rnd (fun i => (P i).st == 1) 0) = r at *
    generalize (rnd (fun i => (P i).st == 1) 0).isSome = t at *
    go_enter Try.func16, Try.ntmps16
    go_wp2_with fail
    refine k1.mono ?_
    rintro e w1 ⟨rfl, hw⟩
    obtain rfl : w = w1 := hw.symm
    go_wp2_with fail
    refine k2.mono ?_
    rintro e w1 ⟨rfl, hw⟩
    obtain rfl : w = w1 := hw.symm
    go_wp2_with fail
    refine k3.mono ?_
    rintro e w1 ⟨rfl, hb⟩
    go_wp2
    go_ret2
    exact ⟨rfl, hb⟩
set_option maxHeartbeats 2000000 in
theorem room_any (h : Tb w b P nx) (hn : 1 ≤ nx) : Calls Try.prog 34 #[.pointer (some ⟨b, 0, .none⟩)] w fun e w' => e = .returned (.bool ((rnd (fun i => (P i).st == 0) 0).isSome && decide (nx ≤ 2147483647))) ∧ Below w.heap.size w w' := by
  have k1 := isMade_any h hn
  have k2 := least_free h
  have k3 : ∀ W, Below w.heap.size w W → Calls Try.prog 43 #[.pointer (some ⟨b, 0, .none⟩)] W fun e w' => e = .returned (.bool (decide (nx ≤ 2147483647))) ∧ w' = W := fun W hW => hasPid_any (h.bel hW)
  generalize rnI (rnd (fun i => (P i).st == 0) 0) = r at *
  generalize (rnd (fun i => (P i).st == 0) 0).isSome = t at *
  generalize decide (nx ≤ 2147483647) = u at *
  clear h
  go_enter Try.func34, Try.ntmps34
  go_wp2_with fail
  refine k1.mono ?_
  rintro e w1 ⟨rfl, hw⟩
  obtain rfl : w = w1 := hw.symm
  go_wp2_with fail
  refine k2.mono ?_
  rintro e w1 ⟨rfl, hb⟩
  have k3 := k3 w1 hb
  cases t
  · go_wp2
    go_ret
    exact ⟨rfl, hb⟩
  · go_wp2_with fail
    refine k3.mono ?_
    rintro e w2 ⟨rfl, hw⟩
    obtain rfl : w1 = w2 := hw.symm
    go_wp2
    go_ret
    exact ⟨by simp, hb⟩
end
end Go.Proofs.Ytnlbomggadflmab
