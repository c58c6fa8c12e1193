import Derived.Test.YtbpgdepgplmpnaaWidths
import Derived.Test.YtbpgdepgplmpnaaEIsA
namespace Go.Proofs.Ytbpgdepgplmpnaa
open Go.RowKit
set_option linter.unusedVariables false
set_option linter.unusedSimpArgs false
theorem fault_any (a r : Int) (w : World) :
    Calls Try.prog 40 #[.int .i64 a, .int .i64 r] w fun e w' => (∃ v, e = .returned v ∧ FaultIn w' w.heap.size v a r) ∧ Below w.heap.size w w' := by
  go_enter Try.func40, Try.ntmps40
  go_wp2
  go_ret
  exact ⟨⟨_, rfl, faultIn_new w w.heap.size a r (Nat.le_refl _)⟩, below_past _ _⟩
/-- The document's fault, with a place. -/
def LFault (w : World) (v : Value) (a r : Int) : Prop := ∃ B, B < w.heap.size ∧ v = .agg #[.slice (some ⟨B, 0, .none⟩) 1 1, .int .i64 r] ∧ w.cell? ⟨B, 0, .none⟩ = some (.string ramB) ∧ w.cell? ⟨B, 1, .none⟩ = some (.int .i64 a)
theorem LFault.below {W w' : World} {v : Value} {a r : Int} (h : Below W.heap.size W w') (k : LFault W v a r) : LFault w' v a r := by
  obtain ⟨B, hB, e, c0, c1⟩ := k
  exact ⟨B, Nat.lt_of_lt_of_le hB h.size, e, (h.cell hB).trans c0, (h.cell hB).trans c1⟩
theorem FaultIn.below {W w' : World} {k : Nat} {v : Value} {a r : Int} (h : Below W.heap.size W w') (f : FaultIn W k v a r) : FaultIn w' k v a r := by
  obtain ⟨b, h1, h2, rfl, c0, c1, c2⟩ := f
  exact ⟨b, h1, Nat.lt_of_lt_of_le h2 h.size, rfl, (h.cell h2).trans c0, (h.cell h2).trans c1, (h.cell h2).trans c2⟩
set_option maxHeartbeats 1000000 in
theorem lfault_any (a r : Int) (hr : r ≠ 0) (w : World) :
    Calls Try.prog 16 #[.int .i64 a, .int .i64 r] w fun e w' => (∃ v, e = .returned v ∧ LFault w' v a r) ∧ Below w.heap.size w w' := by
  have hr' : (r == 0) = false := by simpa using hr
  have c := rnew_any ramB a r (w.alloc (.cells #[.slice .none 0 0, .int .i64 0] 42))
  go_enter Try.func16, Try.ntmps16
  go_wp2_with fail
  refine c.mono ?_
  rintro e w1 ⟨rfl, rfl⟩
  go_wp2
  refine bodyPost_ret (v := .agg #[.slice (some ⟨w.heap.size + 1 + 1, 0, .none⟩) 1 1, .int .i64 r]) (by simp [results, Try.results16, go_sem]) rfl ⟨⟨_, rfl, w.heap.size + 1 + 1, ?_, rfl, ?_, ?_⟩, ?_⟩
  · simp
  · simp [World.cell?_alloc_at]
  · simp [World.cell?_alloc_at]
  · exact ((below_past _ _).alloc (by simp only [World.size_alloc]; omega) _).alloc (by simp only [World.size_alloc]; omega) _
/-- What the code tells and what the document tells, held against each other. -/
theorem is_both (v g : Value) (a r : Int) (hr : r ≠ 0) (w : World) {k : Nat} (hF : FaultIn w k v a r) (hL : LFault w g a r) : Calls Try.prog 15 #[v, g] w fun e w' => e = .returned (.bool true) ∧ Below w.heap.size w w' := by
  obtain ⟨B, hB, rfl, b0, b1⟩ := hL
  obtain ⟨b, h1, h2⟩ := hF
  exact is_fault v B 1 a r w ⟨b, Nat.zero_le _, h2⟩ hr hB b0 b1
set_option maxHeartbeats 1000000 in
theorem new_bad (n : Int) (h : ¬ (1 ≤ n ∧ n ≤ 4096)) (w : World) : Calls Try.prog 9 #[.int .i64 n] w fun e w' => (∃ v, e = .returned (.tuple #[.pointer .none, v]) ∧ FaultIn w' w.heap.size v 0 60) ∧ Below w.heap.size w w' := by
  have c := mayHave_any n w
  rw [show decide (1 ≤ n ∧ n ≤ 4096) = false by simpa using h] at c
  have c1 := fault_any 0 60 w
  go_enter Try.func9, Try.ntmps9
  go_wp2_with (first | (go_at_call 39; refine c.mono ?_; rintro e w0 ⟨rfl, rfl⟩) | (go_at_call 40; refine c1.mono ?_; rintro e w1 ⟨⟨v, rfl, hF⟩, hB⟩))
  go_ret2
  exact ⟨⟨v, rfl, hF⟩, hB⟩
theorem num_congr (B B' : Nat → Int) (o : Nat) : ∀ n, (∀ k, k < n → B (o + k) = B' (o + k)) → num B o n = num B' o n
  | 0, _ => rfl
  | n + 1, h => by
    simp only [num]
    rw [num_congr B B' o n (fun k hk => h k (by omega)), h n (by omega)]
theorem newB_tramp (k : Nat) : num (newB k) 0 4 = 270532723 := by
  rw [num_congr (newB k) (newB 0) 0 4 (fun j hj => newB_first k _ (by omega))]
  exact (num_le (fun _ => 0) 0 270532723 4 4 (by omega)).trans rfl
theorem newB_zero (k : Nat) : num (newB k) 4 8 = 0 := by
  rw [num_congr (newB k) (fun _ => 0) 4 8 (fun j hj => (newB_first k _ (by omega)).trans (over_out _ _ _ _ (by rw [le_len]; omega)))]
  rfl
set_option maxHeartbeats 2000000 in
theorem news_bad (n : Int) (h : ¬ (1 ≤ n ∧ n ≤ 4096)) (w : World) : Calls Try.prog 4 #[.int .i64 n] w fun e w' => e = .returned (.bool true) ∧ Below w.heap.size w w' := by
  have c := new_bad n h w
  have h2 : n < 1 ∨ 4096 < n := by omega
  have key : ∀ (v : Value) (w1 : World), FaultIn w1 w.heap.size v 0 60 → Below w.heap.size w w1 → Calls Try.prog 16 #[.int .i64 0, .int .i64 60] w1 fun e w2 => ∃ g, e = .returned g ∧ (Calls Try.prog 15 #[v, g] w2 fun e w' => e = .returned (.bool true) ∧ Below w.heap.size w w') := fun v w1 hF hB => by
    refine (lfault_any 0 60 (by decide) w1).mono ?_
    rintro e w2 ⟨⟨g, rfl, hg⟩, hB2⟩
    refine ⟨g, rfl, (is_both v g 0 60 (by decide) w2 (hF.below hB2) hg).mono ?_⟩
    rintro e w3 ⟨rfl, hB3⟩
    exact ⟨rfl, (hB.trans (hB2.mono hB.size)).trans (hB3.mono (Nat.le_trans hB.size hB2.size))⟩
  rcases h2 with h2 | h2
  all_goals
    go_enter Try.func4, Try.ntmps4
    go_wp2_with fail
    refine c.mono ?_
    rintro e w1 ⟨⟨v, rfl, hF⟩, hB⟩
    have c2 := key v w1 hF hB
    clear hF hB key c
    go_wp2_with fail
    refine c2.mono ?_
    rintro e w2 ⟨g, rfl, c3⟩
    clear c2
    go_wp2_with (go_at_call 15; refine c3.mono ?_; rintro e w3 ⟨rfl, hB3⟩)
    go_ret
    exact ⟨rfl, hB3⟩
set_option maxHeartbeats 4000000 in
theorem news_ok (n : Nat) (h1 : 1 ≤ n) (h2 : n ≤ 4096) (w : World) : Calls Try.prog 4 #[.int .i64 n] w fun e w' => e = .returned (.bool true) ∧ Below w.heap.size w w' := by
  have c := new_any n h1 h2 w
  have i1 : ¬ ((n : Int) < 1) := by omega
  have i2 : ¬ ((4096 : Int) < n) := by omega
  go_enter Try.func4, Try.ntmps4
  go_wp2_with fail
  refine c.mono ?_
  rintro e w1 ⟨p, b, m, hp, hb, hm, rfl, R1, B1⟩
  clear c
  have c1 := frames_any R1.mem
  have c2 := count_any R1.mem (by omega)
  rw [down_len, show ((n - (n - 1) : Nat) : Int) = 1 by omega] at c2
  have HB1 : Hid (Below w.heap.size w w1) := B1
  have HR1 : Hid (Ram w1 p b m n (newB (n - 1)) (down (n - 1))) := R1
  clear R1 B1
  go_wp2_with (first | (go_at_call 17; refine c1.mono ?_; rintro e w0 ⟨rfl, rfl⟩) | (go_at_call 18; refine c2.mono ?_; rintro e w2 ⟨rfl, k, hw2⟩; have HR2 : Hid (Mem w2 p b m n (newB (n - 1)) (adr (down (n - 1))) (hdL n (down (n - 1))) (n - (down (n - 1)).length)) := hw2 ▸ HR1.out.mem.drewN k; have HB2 : Hid (Below w.heap.size w w2) := hw2 ▸ below_drewN HB1.out k; clear hw2) | fail)
  have hh : ∀ o k, o + k ≤ 4096 → ∀ f : Nat, o / 4096 ≤ f → f * 4096 < o + k → hdL n (down (n - 1)) (2147483648 + f * 4096) = true := fun o k hk => hdL_ok n _ o k (fun f _ hf => ⟨by omega, fun h => by have := (down_mem _ _).1 h; omega⟩)
  have c3 := load_ok HR2.out 0 4 (by omega) (by omega) (hh 0 4 (by omega))
  rw [newB_tramp] at c3
  rw [show (2147483648 + ((0 : Nat) : Int)) = 2147483648 from rfl, show ((4 : Nat) : Int) = 4 from rfl] at c3
  have Hhh : Hid (∀ o k, o + k ≤ 4096 → ∀ f : Nat, o / 4096 ≤ f → f * 4096 < o + k → hdL n (down (n - 1)) (2147483648 + f * 4096) = true) := hh
  clear c1 c2 hh
  go_wp2_with fail
  refine c3.mono ?_
  rintro e w3 ⟨rfl, hb3⟩
  clear c3
  have HR3 : Hid (Mem w3 p b m n (newB (n - 1)) (adr (down (n - 1))) (hdL n (down (n - 1))) (n - (down (n - 1)).length)) := HR2.out.below hb3
  have HB3 : Hid (Below w.heap.size w w3) := HB2.out.trans (hb3.mono HB2.out.size)
  have c4 := load_ok HR3.out 4 8 (by omega) (by omega) (Hhh.out 4 8 (by omega))
  rw [newB_zero, show (2147483648 + ((4 : Nat) : Int)) = 2147483652 from rfl, show ((8 : Nat) : Int) = 8 from rfl] at c4
  clear hb3
  go_wp2_with fail
  refine c4.mono ?_
  rintro e w4 ⟨rfl, hb4⟩
  clear c4
  have R4 : Ram w4 p b m n (newB (n - 1)) (down (n - 1)) := ⟨HR3.out.below hb4, HR1.out.nd, HR1.out.lt, HR1.out.thr⟩
  have HB4 : Hid (Below w.heap.size w w4) := HB3.out.trans (hb4.mono HB3.out.size)
  clear hb4
  by_cases hn : n = 1
  · subst hn
    have c5 := alloc_none R4
    clear R4
    go_wp2_with (go_at_call 10; refine c5.mono ?_; rintro e w5 ⟨rfl, h5⟩; have HB5 : Hid (Below w.heap.size w w5) := h5 ▸ HB4.out; clear h5)
    go_ret
    exact ⟨rfl, HB5.out⟩
  · have ed : down (n - 1) = (n - 1) :: down (n - 2) := by
      obtain ⟨q, rfl⟩ : ∃ q, n = q + 2 := ⟨n - 2, by omega⟩
      rfl
    rw [ed] at R4
    have c5 := alloc_some (n - 1) R4
    rw [show ((n - 1 : Nat) : Int) = (n : Int) - 1 by omega] at c5
    clear R4 ed
    have i3 : (1 : Int) < (n : Int) := by omega
    generalize hX : 2147483648 + ((n : Int) - 1) * 4096 = X at *
    have e5 : 2147483648 + 4096 * ((n : Int) - 1) = X := by omega
    have HX : Hid (2147483648 + ((n : Int) - 1) * 4096 = X) := hX
    clear hX
    go_wp2_with (go_at_call 10; refine c5.mono ?_; rintro e w5 ⟨rfl, R5, F5⟩; have HB5 : Hid (Below w.heap.size w w5) := HB4.out.trans (F5.toBelow HB4.out.size hp hb hm); clear R5 F5)
    go_ret
    exact ⟨rfl, HB5.out⟩
theorem news_walk (n : Int) (w : World) : Calls Try.prog 4 #[.int .i64 n] w fun e w' => e = .returned (.bool true) ∧ Below w.heap.size w w' := by
  by_cases h : 1 ≤ n ∧ n ≤ 4096
  · obtain ⟨k, rfl⟩ := Int.eq_ofNat_of_zero_le (show 0 ≤ n by omega)
    exact news_ok k (by omega) (by omega) w
  · exact news_bad n h w
end Go.Proofs.Ytbpgdepgplmpnaa
