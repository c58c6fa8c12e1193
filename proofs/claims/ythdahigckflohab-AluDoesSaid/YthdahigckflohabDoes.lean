import Derived.Test.YthdahigckflohabRHalf
namespace Go.Proofs.Ythdahigckflohab
open Go.RowKit
set_option linter.unusedVariables false
set_option linter.unusedSimpArgs false
theorem rw_all (m : Nat) (hm : m < 18) (a b : Int) (w : World) (ha : W64 a) (hb : W64 b) : Calls Try.prog 22 #[.int .i64 (wnum m), .int .u64 a, .int .u64 b] w fun e w' => e = .returned (.tuple #[.int .u64 (wres m a b), .bool true]) ∧ Below w.heap.size w w' := by
  have hN : m = 0 ∨ m = 1 ∨ m = 2 ∨ m = 3 ∨ m = 4 ∨ m = 5 ∨ m = 6 ∨ m = 7 ∨ m = 8 ∨ m = 9 ∨ m = 10 ∨ m = 11 ∨ m = 12 ∨ m = 13 ∨ m = 14 ∨ m = 15 ∨ m = 16 ∨ m = 17 := by omega
  rcases hN with rfl | rfl | rfl | rfl | rfl | rfl | rfl | rfl | rfl | rfl | rfl | rfl | rfl | rfl | rfl | rfl | rfl | rfl
  · exact rw0 a b w ha hb
  · exact rw1 a b w ha hb
  · exact rw2 a b w ha hb
  · exact rw3 a b w ha hb
  · exact rw4 a b w ha hb
  · exact rw5 a b w ha hb
  · exact rw6 a b w ha hb
  · exact rw7 a b w ha hb
  · exact rw8 a b w ha hb
  · exact rw9 a b w ha hb
  · exact rw10 a b w ha hb
  · exact rw11 a b w ha hb
  · exact rw12 a b w ha hb
  · exact rw13 a b w ha hb
  · exact rw14 a b w ha hb
  · exact rw15 a b w ha hb
  · exact rw16 a b w ha hb
  · exact rw17 a b w ha hb
theorem rh_all (m : Nat) (hm : m < 10) (u v : Int) (w : World) (u0 : 0 ≤ u) (u1 : u < 4294967296) (v0 : 0 ≤ v) (v1 : v < 4294967296) : Calls Try.prog 23 #[.int .i64 (hnum m), .int .u64 u, .int .u64 v] w fun e w' => e = .returned (.tuple #[.int .u64 (hres m u v), .bool true]) ∧ Below w.heap.size w w' := by
  have hN : m = 0 ∨ m = 1 ∨ m = 2 ∨ m = 3 ∨ m = 4 ∨ m = 5 ∨ m = 6 ∨ m = 7 ∨ m = 8 ∨ m = 9 := by omega
  rcases hN with rfl | rfl | rfl | rfl | rfl | rfl | rfl | rfl | rfl | rfl
  · exact rh0 u v w u0 u1 v0 v1
  · exact rh1 u v w u0 u1 v0 v1
  · exact rh2 u v w u0 u1 v0 v1
  · exact rh3 u v w u0 u1 v0 v1
  · exact rh4 u v w u0 u1 v0 v1
  · exact rh5 u v w u0 u1 v0 v1
  · exact rh6 u v w u0 u1 v0 v1
  · exact rh7 u v w u0 u1 v0 v1
  · exact rh8 u v w u0 u1 v0 v1
  · exact rh9 u v w u0 u1 v0 v1
theorem rw_no (op a b : Int) (w : World) (h : ∀ n : Nat, n < 18 → (wnum n == op) = false) : Calls Try.prog 22 #[.int .i64 op, .int .u64 a, .int .u64 b] w fun e w' => e = .returned (.tuple #[.int .u64 0, .bool false]) ∧ Below w.heap.size w w' := by
  have q : ∀ n : Nat, n < 18 → op ≠ wnum n := fun n hn e => by have := h n hn; rw [beq_eq_false_iff_ne] at this; exact this e.symm
  exact rw_miss op a b w (q 0 (by decide)) (q 1 (by decide)) (q 2 (by decide)) (q 3 (by decide)) (q 4 (by decide)) (q 5 (by decide)) (q 6 (by decide)) (q 7 (by decide)) (q 8 (by decide)) (q 9 (by decide)) (q 10 (by decide)) (q 11 (by decide)) (q 12 (by decide)) (q 13 (by decide)) (q 14 (by decide)) (q 15 (by decide)) (q 16 (by decide)) (q 17 (by decide))
theorem rh_no (op a b : Int) (w : World) (h : ∀ n : Nat, n < 10 → (hnum n == op) = false) : Calls Try.prog 23 #[.int .i64 op, .int .u64 a, .int .u64 b] w fun e w' => e = .returned (.tuple #[.int .u64 0, .bool false]) ∧ Below w.heap.size w w' := by
  have q : ∀ n : Nat, n < 10 → op ≠ hnum n := fun n hn e => by have := h n hn; rw [beq_eq_false_iff_ne] at this; exact this e.symm
  exact rh_miss op a b w (q 0 (by decide)) (q 1 (by decide)) (q 2 (by decide)) (q 3 (by decide)) (q 4 (by decide)) (q 5 (by decide)) (q 6 (by decide)) (q 7 (by decide)) (q 8 (by decide)) (q 9 (by decide))
set_option maxHeartbeats 1000000 in
theorem rdo_w (op a b V : Int) (w : World) (c : ∀ w, Calls Try.prog 22 #[.int .i64 op, .int .u64 a, .int .u64 b] w fun e w' => e = .returned (.tuple #[.int .u64 V, .bool true]) ∧ Below w.heap.size w w') :
    Calls Try.prog 15 #[.int .i64 op, .int .u64 a, .int .u64 b] w fun e w' => (∃ p l c, e = .returned (.tuple #[.int .u64 V, .agg #[.slice p l c, .int .i64 0]]) ∧ RefIn w' p l c 0) ∧ Below w.heap.size w w' := by
  go_enter Try.func15, Try.ntmps15
  go_wp2_with fail
  refine (c _).mono ?_; rintro e w1 ⟨rfl, HB⟩
  clear c
  have q := row2_keep HB (by simp) (row2_new w (.slice .none 0 0) (.int .i64 0) 41)
  have fr : ∀ o : Nat, w1.frozen? ⟨w.heap.size, o, .none⟩ = false := fun o => (HB.frozen (p := ⟨w.heap.size, o, .none⟩) (by simp)).trans (by simp)
  have hz := HB.size
  simp only [World.size_alloc] at hz
  have hW : Below w.heap.size w w1 := (below_past _ _).trans (HB.mono (by simp only [World.size_alloc]; omega))
  go_wp2_with fail
  refine (none_any _).mono ?_; rintro e w9 ⟨rfl, rfl⟩
  have hp := below_past w1 (.cells #[.slice .none 0 0, .int .i64 0] 41)
  obtain ⟨k0, k1⟩ := row2_keep hp (by omega) q
  have f0 := (hp.frozen (p := ⟨w.heap.size, 0, .none⟩) (by show w.heap.size < _; omega)).trans (fr 0)
  have f1 := (hp.frozen (p := ⟨w.heap.size, 1, .none⟩) (by show w.heap.size < _; omega)).trans (fr 1)
  have y : w.heap.size < (w1.alloc (.cells #[.slice .none 0 0, .int .i64 0] 41)).heap.size := by simp only [World.size_alloc]; omega
  have hW2 := bseq hW hp
  clear hp q fr
  generalize (w1.alloc (.cells #[.slice .none 0 0, .int .i64 0] 41)) = w8 at *
  go_wp2
  exact bodyPost_ret (v := .tuple #[.int .u64 V, .agg #[.slice .none 0 0, .int .i64 0]]) (by simp [results, Try.results15, go_sem, y, k0, k1]) rfl ⟨⟨_, _, _, rfl, .inl ⟨rfl, rfl, rfl, rfl⟩⟩, (hW2.setCell (Nat.le_refl _) _).setCell (Nat.le_refl _) _⟩
set_option maxHeartbeats 1000000 in
theorem rdo_h (op a b V : Int) (w : World) (c : ∀ w, Calls Try.prog 22 #[.int .i64 op, .int .u64 a, .int .u64 b] w fun e w' => e = .returned (.tuple #[.int .u64 0, .bool false]) ∧ Below w.heap.size w w')
    (d : ∀ w, Calls Try.prog 23 #[.int .i64 op, .int .u64 (bits .and .u64 a 4294967295), .int .u64 (bits .and .u64 b 4294967295)] w fun e w' => e = .returned (.tuple #[.int .u64 V, .bool true]) ∧ Below w.heap.size w w') :
    Calls Try.prog 15 #[.int .i64 op, .int .u64 a, .int .u64 b] w fun e w' => (∃ p l c, e = .returned (.tuple #[.int .u64 V, .agg #[.slice p l c, .int .i64 0]]) ∧ RefIn w' p l c 0) ∧ Below w.heap.size w w' := by
  go_enter Try.func15, Try.ntmps15
  go_wp2_with fail
  refine (c _).mono ?_; rintro e w0 ⟨rfl, hb0⟩
  clear c
  go_wp2_with fail
  refine (d _).mono ?_; rintro e w1 ⟨rfl, hb1⟩
  clear d
  have HB := bseq hb0 hb1
  have q := row2_keep HB (by simp) (row2_new w (.slice .none 0 0) (.int .i64 0) 41)
  have fr : ∀ o : Nat, w1.frozen? ⟨w.heap.size, o, .none⟩ = false := fun o => (HB.frozen (p := ⟨w.heap.size, o, .none⟩) (by simp)).trans (by simp)
  have hz := HB.size
  simp only [World.size_alloc] at hz
  have hW : Below w.heap.size w w1 := (below_past _ _).trans (HB.mono (by simp only [World.size_alloc]; omega))
  go_wp2_with fail
  refine (none_any _).mono ?_; rintro e w9 ⟨rfl, rfl⟩
  have hp := below_past w1 (.cells #[.slice .none 0 0, .int .i64 0] 41)
  obtain ⟨k0, k1⟩ := row2_keep hp (by omega) q
  have f0 := (hp.frozen (p := ⟨w.heap.size, 0, .none⟩) (by show w.heap.size < _; omega)).trans (fr 0)
  have f1 := (hp.frozen (p := ⟨w.heap.size, 1, .none⟩) (by show w.heap.size < _; omega)).trans (fr 1)
  have y : w.heap.size < (w1.alloc (.cells #[.slice .none 0 0, .int .i64 0] 41)).heap.size := by simp only [World.size_alloc]; omega
  have hW2 := bseq hW hp
  clear hp q fr
  generalize (w1.alloc (.cells #[.slice .none 0 0, .int .i64 0] 41)) = w8 at *
  go_wp2
  exact bodyPost_ret (v := .tuple #[.int .u64 V, .agg #[.slice .none 0 0, .int .i64 0]]) (by simp [results, Try.results15, go_sem, y, k0, k1]) rfl ⟨⟨_, _, _, rfl, .inl ⟨rfl, rfl, rfl, rfl⟩⟩, (hW2.setCell (Nat.le_refl _) _).setCell (Nat.le_refl _) _⟩
set_option maxHeartbeats 1000000 in
theorem rdo_no (op a b : Int) (w : World) (c : ∀ w, Calls Try.prog 22 #[.int .i64 op, .int .u64 a, .int .u64 b] w fun e w' => e = .returned (.tuple #[.int .u64 0, .bool false]) ∧ Below w.heap.size w w')
    (d : ∀ w, Calls Try.prog 23 #[.int .i64 op, .int .u64 (bits .and .u64 a 4294967295), .int .u64 (bits .and .u64 b 4294967295)] w fun e w' => e = .returned (.tuple #[.int .u64 0, .bool false]) ∧ Below w.heap.size w w') :
    Calls Try.prog 15 #[.int .i64 op, .int .u64 a, .int .u64 b] w fun e w' => (∃ p l c, e = .returned (.tuple #[.int .u64 0, .agg #[.slice p l c, .int .i64 40]]) ∧ RefIn w' p l c 40) ∧ Below w.heap.size w w' := by
  go_enter Try.func15, Try.ntmps15
  go_wp2_with fail
  refine (c _).mono ?_; rintro e w0 ⟨rfl, hb0⟩
  clear c
  go_wp2_with fail
  refine (d _).mono ?_; rintro e w2 ⟨rfl, hb1⟩
  clear d
  go_wp2_with fail
  refine (no_any 40 _).mono ?_; rintro e w1 ⟨⟨B, hB0, hB1, rfl, c0, c1⟩, hb2⟩
  have HB := bseq (bseq hb0 hb1) hb2
  have hz0 := hb0.size
  have hz1 := hb1.size
  have hz2 := hb2.size
  simp only [World.size_alloc] at hz0
  have hy : w.heap.size < w1.heap.size := by omega
  obtain ⟨k0, k1⟩ := row2_keep HB (by simp) (row2_new w (.slice .none 0 0) (.int .i64 0) 41)
  have f0 : w1.frozen? ⟨w.heap.size, 0, .none⟩ = false := (HB.frozen (p := ⟨w.heap.size, 0, .none⟩) (by simp)).trans (by simp)
  have f1 : w1.frozen? ⟨w.heap.size, 1, .none⟩ = false := (HB.frozen (p := ⟨w.heap.size, 1, .none⟩) (by simp)).trans (by simp)
  have hW : Below w.heap.size w w1 := (below_past _ _).trans (HB.mono (by simp only [World.size_alloc]; omega))
  go_wp2
  refine bodyPost_ret (v := .tuple #[.int .u64 0, .agg #[.slice (some ⟨B, 0, .none⟩) 1 1, .int .i64 40]]) (by simp [results, Try.results15, go_sem, hy, k0, k1]) rfl ⟨⟨_, _, _, rfl, .inr ⟨by decide, B, rfl, rfl, rfl, ?_, ?_, ?_⟩⟩, (hW.setCell (Nat.le_refl _) _).setCell (Nat.le_refl _) _⟩
  · simpa using hB1
  · rw [set_other _ _ _ _ _ _ (by omega), set_other _ _ _ _ _ _ (by omega)]; exact c0
  · rw [set_other _ _ _ _ _ _ (by omega), set_other _ _ _ _ _ _ (by omega)]; exact c1
set_option maxHeartbeats 1000000 in
theorem aludoes_as (op a b V r : Int) (w : World)
    (c : ∀ w, Calls Try.prog 14 #[.int .i64 op, .int .u64 a, .int .u64 b] w fun e w' => (∃ x, e = .returned (.tuple #[.int .u64 V, x]) ∧ ErrIn w' x r) ∧ Below w.heap.size w w')
    (d : ∀ w, Calls Try.prog 15 #[.int .i64 op, .int .u64 a, .int .u64 b] w fun e w' => (∃ p l c, e = .returned (.tuple #[.int .u64 V, .agg #[.slice p l c, .int .i64 r]]) ∧ RefIn w' p l c r) ∧ Below w.heap.size w w') :
    Calls Try.prog 7 #[.int .i64 op, .int .u64 a, .int .u64 b] w fun e w' => e = .returned (.bool true) ∧ Below w.heap.size w w' := by
  go_enter Try.func7, Try.ntmps7
  go_wp2_with fail
  refine (c _).mono ?_; rintro e w1 ⟨⟨x, rfl, E⟩, hb1⟩
  clear c
  go_wp2_with fail
  refine (d _).mono ?_; rintro e w2 ⟨⟨p, l, k, rfl, R⟩, hb2⟩
  clear d
  have hp := below_past w2 (.cells #[.slice p l k, .int .i64 r] 41)
  have I := is_agree x p l k r _ (errIn_keep (bseq hb2 hp) E) (refIn_keep hp R)
  have hB := bseq (bseq hb1 hb2) hp
  clear E R hp
  go_wp2_with fail
  refine I.mono ?_; rintro e w3 ⟨rfl, hb3⟩
  clear I
  go_wp2
  go_ret
  exact ⟨rfl, bseq hB hb3⟩
theorem err_ok {f : Nat} {args : Array Value} {w : World} {V : Int} (h : Calls Try.prog f args w fun e w' => e = .returned (.tuple #[.int .u64 V, .nilIface]) ∧ Below w.heap.size w w') : Calls Try.prog f args w fun e w' => (∃ x, e = .returned (.tuple #[.int .u64 V, x]) ∧ ErrIn w' x 0) ∧ Below w.heap.size w w' :=
  h.mono fun e w' ⟨he, hb⟩ => ⟨⟨_, he, .inl ⟨rfl, rfl⟩⟩, hb⟩
theorem aludoes_walk (op a b : Int) (w : World) (ha : W64 a) (hb : W64 b) :
    Calls Try.prog 7 #[.int .i64 op, .int .u64 a, .int .u64 b] w fun e w' => e = .returned (.bool true) ∧ Below w.heap.size w w' := by
  by_cases h : ∃ m : Nat, m < 18 ∧ wnum m = op
  · obtain ⟨m, hm, rfl⟩ := h
    exact aludoes_as _ a b _ 0 w (fun w => err_ok (do_word m hm a b w ha hb)) (fun w => rdo_w _ a b _ w (fun w => rw_all m hm a b w ha hb))
  · have h1 : ∀ n : Nat, n < 18 → (wnum n == op) = false := fun n hn => by rw [beq_eq_false_iff_ne]; exact fun e => h ⟨n, hn, e⟩
    by_cases k : ∃ m : Nat, m < 10 ∧ hnum m = op
    · obtain ⟨m, hm, rfl⟩ := k
      have e : hres m (bits .and .u64 a 4294967295) (bits .and .u64 b 4294967295) = hres m a b := by
        rw [and32 a ha, and32 b hb]
        exact hres_low m a b _ _ (by omega) (by omega)
      have d := fun w => rh_all m hm (bits .and .u64 a 4294967295) (bits .and .u64 b 4294967295) w (by rw [and32 a ha]; omega) (by rw [and32 a ha]; omega) (by rw [and32 b hb]; omega) (by rw [and32 b hb]; omega)
      rw [e] at d
      exact aludoes_as _ a b _ 0 w (fun w => err_ok (do_half m hm a b w ha hb)) (fun w => rdo_h _ a b _ w (fun w => rw_no _ a b w h1) d)
    · have h2 : ∀ n : Nat, n < 10 → (hnum n == op) = false := fun n hn => by rw [beq_eq_false_iff_ne]; exact fun e => k ⟨n, hn, e⟩
      exact aludoes_as op a b 0 40 w (fun w => do_no op a b w h1 h2) (fun w => rdo_no op a b w (fun w => rw_no op a b w h1) (fun w => rh_no op _ _ w h2))
end Go.Proofs.Ythdahigckflohab
