import Derived.Test.YtnghcadhilfgnaaFiC
import Derived.Test.YtnghcadhilfgnaaHoldM
namespace Go.Proofs.Ytnghcadhilfgnaa
open Go.RowKit
set_option linter.unusedVariables false
set_option linter.unusedSimpArgs false
/-- What is to be said of an image: the place and the number of what is wrong with it; 0 and 0: nothing. -/
def Verd (F : Nat → Int) (nf : Nat) (PA : Nat → Int) (L : Nat → Nat) (nh : Nat) (n : Int) (at_ num_ : Int) : Prop :=
  (¬ (1 ≤ n ∧ n ≤ 4096) ∧ at_ = 0 ∧ num_ = 60) ∨ ((1 ≤ n ∧ n ≤ 4096) ∧ Wrong F nf PA L nh n at_ ∧ at_ ≠ 0 ∧ num_ = 63) ∨ ((1 ≤ n ∧ n ≤ 4096) ∧ Wrong F nf PA L nh n 0 ∧ at_ = 0 ∧ num_ = 0)
theorem wrong_one {F : Nat → Int} {nf : Nat} {PA : Nat → Int} {L : Nat → Nat} {nh : Nat} {n a a' : Int} (h : Wrong F nf PA L nh n a) (h' : Wrong F nf PA L nh n a') : a = a' := by
  obtain ⟨r1, h1, h2⟩ := h
  obtain ⟨r1', h1', h2'⟩ := h'
  obtain rfl := first1_one h1 h1'
  rcases h2 with ⟨e1, e2⟩ | ⟨e1, r2, h3, h4⟩
  · rcases h2' with ⟨f1, f2⟩ | ⟨f1, _⟩
    · omega
    · omega
  · rcases h2' with ⟨f1, f2⟩ | ⟨_, r2', h3', h4'⟩
    · omega
    · obtain rfl := first2_one h3 h3'
      rcases h4 with ⟨a1, a2⟩ | ⟨a1, a2⟩ <;> rcases h4' with ⟨b1, b2⟩ | ⟨b1, b2⟩ <;> omega
theorem verd_one {F : Nat → Int} {nf : Nat} {PA : Nat → Int} {L : Nat → Nat} {nh : Nat} {n a a' b b' : Int} (h : Verd F nf PA L nh n a b) (h' : Verd F nf PA L nh n a' b') : a = a' ∧ b = b' := by
  rcases h with ⟨h0, h1, h2⟩ | ⟨h0, h1, h2, h3⟩ | ⟨h0, h1, h2, h3⟩ <;> rcases h' with ⟨g0, g1, g2⟩ | ⟨g0, g1, g2, g3⟩ | ⟨g0, g1, g2, g3⟩
  · omega
  · exact absurd g0 h0
  · exact absurd g0 h0
  · exact absurd h0 g0
  · have := wrong_one h1 g1; omega
  · have := wrong_one h1 g1; omega
  · exact absurd h0 g0
  · have := wrong_one h1 g1; omega
  · omega
/-- A refusal. -/
def NoP (W : World) (a r : Int) (e : Ending) (w' : World) : Prop := ∃ v, e = .returned (.tuple #[.pointer none, v]) ∧ FaultIn w' W.heap.size v a r ∧ Below W.heap.size W w'
theorem faultIn_mono {w : World} {k k' : Nat} {v : Value} {a r : Int} (h : FaultIn w k v a r) (hk : k' ≤ k) : FaultIn w k' v a r := by
  obtain ⟨b, h1, h2⟩ := h
  exact ⟨b, by omega, h2⟩
set_option maxHeartbeats 4000000 in
set_option maxRecDepth 100000 in
theorem from_size (W : World) (nf cf nh ch : Nat) (n : Int) (qf qh : Option Addr) (hn : ¬ (1 ≤ n ∧ n ≤ 4096)) :
    Calls Try.prog 59 #[.agg #[.int .i64 n, .slice qf nf cf, .slice qh nh ch]] W fun e w' => NoP W 0 60 e w' := by
  have c13 := fun w => mayHave_any n w
  rw [decide_eq_false hn] at c13
  have bA : Below W.heap.size W (W.alloc (.cells #[.int .i64 n, .slice qf nf cf, .slice qh nh ch] 40)) := (Below.refl _ _).alloc (Nat.le_refl _) _
  have c14 := fault_any 0 60 (W.alloc (.cells #[.int .i64 n, .slice qf nf cf, .slice qh nh ch] 40))
  refine (callsIn_wide (n := 3)).1 ?_
  refine callsIn_of_wp_marks Try.func59 rfl trivial ?_ rfl
  simp only [Try.ntmps59, List.size_toArray, List.length_cons, List.length_nil, Nat.reduceAdd, Nat.reduceSub, Array.replicate_succ, Array.replicate_zero, List.push_toArray, List.append_toArray, List.nil_append, List.cons_append]
  refine wpIn_wide.2 ?_
  go_wp2_with (first | (go_at_call 39; refine (c13 _).mono ?_; rintro e w1 ⟨rfl, rfl⟩) | (go_at_call 40; refine c14.mono ?_; rintro e w2 ⟨⟨v, rfl, fv⟩, b2⟩; have HB : Hid (FaultIn w2 W.heap.size v 0 60 ∧ Below W.heap.size W w2) := ⟨faultIn_mono fv (by simp), bA.trans (b2.mono (by simp))⟩; clear fv b2) | fail)
  exact ⟨.tuple #[.pointer none, v], by simp [results, Try.results59, go_sem], v, rfl, HB.out⟩
set_option maxHeartbeats 4000000 in
set_option maxRecDepth 100000 in
theorem from_wrong (W : World) (nf cf nh ch n : Nat) (qf qh : Option Addr) (F PA : Nat → Int) (P : Nat → Option Addr) (L C : Nat → Nat) (hf : Fs W qf nf F) (hF : ∀ i, 0 ≤ F i ∧ F i < 18446744073709551616) (hcf : nf ≤ cf) (hcfm : cf ≤ 9223372036854775807) (hH : Hs W qh nh PA P L C) (hP : ∀ i, 0 ≤ PA i ∧ PA i < 18446744073709551616) (hc : nh ≤ ch) (hcm : ch ≤ 9223372036854775807) (hl : ∀ i, L i ≤ 9223372036854775807) (h1 : 1 ≤ n) (h2 : n ≤ 4096) (hs : nf ≤ 281474976710656 ∧ nh ≤ 281474976710656) (hbad : ¬ Wrong F nf PA L nh n 0) :
    Calls Try.prog 59 #[.agg #[.int .i64 n, .slice qf nf cf, .slice qh nh ch]] W fun e w' => ∃ at_, Wrong F nf PA L nh n at_ ∧ at_ ≠ 0 ∧ NoP W at_ 63 e w' := by
  have c13 := fun w => mayHave_any (n : Int) w
  rw [show decide (1 ≤ (n : Int) ∧ (n : Int) ≤ 4096) = true by simp; omega] at c13
  have bA : Below W.heap.size W (W.alloc (.cells #[.int .i64 n, .slice qf nf cf, .slice qh nh ch] 40)) := (Below.refl _ _).alloc (Nat.le_refl _) _
  have c15 := wrong_any (W.alloc (.cells #[.int .i64 n, .slice qf nf cf, .slice qh nh ch] 40)) nf cf nh ch qf qh F PA P L C n (fs_keep hf bA (Nat.le_refl _)) hF hcf hcfm (hH.keep bA (Nat.le_refl _)) hP hc hcm hl (by omega) (by omega) hs
  have HB0 : Hid (¬ Wrong F nf PA L nh n 0) := hbad
  clear hf hH hbad
  refine (callsIn_wide (n := 3)).1 ?_
  refine callsIn_of_wp_marks Try.func59 rfl trivial ?_ rfl
  simp only [Try.ntmps59, List.size_toArray, List.length_cons, List.length_nil, Nat.reduceAdd, Nat.reduceSub, Array.replicate_succ, Array.replicate_zero, List.push_toArray, List.append_toArray, List.nil_append, List.cons_append]
  refine wpIn_wide.2 ?_
  go_wp2_with (first | (go_at_call 39; refine (c13 _).mono ?_; rintro e w1 ⟨rfl, rfl⟩) | fail)
  refine c15.mono ?_
  rintro e W2 ⟨at_, rfl, hw, b2⟩
  have hne : at_ ≠ 0 := fun e => HB0.out (e ▸ hw)
  have hne' : (at_ == 0) = false := by rw [beq_eq_false_iff_ne]; exact hne
  have HW : Hid (Wrong F nf PA L nh n at_ ∧ at_ ≠ 0) := ⟨hw, hne⟩
  have HB2 : Hid (Below W.heap.size W W2) := bA.trans (b2.mono (by simp))
  have c14 := fault_any at_ 63 W2
  clear c15 hw c13 b2 bA hne
  go_wp2_with (first | (go_at_call 40; refine c14.mono ?_; rintro e w2 ⟨⟨v, rfl, fv⟩, b2⟩; have HB : Hid (FaultIn w2 W.heap.size v at_ 63 ∧ Below W.heap.size W w2) := ⟨faultIn_mono fv HB2.out.size, HB2.out.trans (b2.mono HB2.out.size)⟩; clear fv b2) | fail)
  exact ⟨.tuple #[.pointer none, v], by simp [results, Try.results59, go_sem], at_, HW.out.1, HW.out.2, v, rfl, HB.out⟩
/-- ram.FromImage, of whatever image. -/
theorem from_any (W : World) (nf cf nh ch : Nat) (n : Int) (qf qh : Option Addr) (F PA : Nat → Int) (P : Nat → Option Addr) (L C : Nat → Nat) (D : Nat → Nat → Int) (hf : Fs W qf nf F) (hF : ∀ i, 0 ≤ F i ∧ F i < 18446744073709551616) (hcf : nf ≤ cf) (hcfm : cf ≤ 9223372036854775807) (hH : Hs W qh nh PA P L C) (hP : ∀ i, 0 ≤ PA i ∧ PA i < 18446744073709551616) (hc : nh ≤ ch) (hcm : ch ≤ 9223372036854775807) (hl : ∀ i, L i ≤ 9223372036854775807) (hD : Ds W nh P L D) (hDb : ∀ i j, 0 ≤ D i j ∧ D i j < 256) (hs : nf ≤ 281474976710656 ∧ nh ≤ 281474976710656) :
    Calls Try.prog 59 #[.agg #[.int .i64 n, .slice qf nf cf, .slice qh nh ch]] W fun e w' => ∃ a r, Verd F nf PA L nh n a r ∧ ((r ≠ 0 ∧ NoP W a r e w') ∨ (r = 0 ∧ a = 0 ∧ ∃ N : Nat, n = N ∧ 1 ≤ N ∧ N ≤ 4096 ∧ Fine F nf PA L nh N ∧ FrP W F nf PA D nh N e w')) := by
  by_cases hn : 1 ≤ n ∧ n ≤ 4096
  · obtain ⟨N, rfl⟩ := Int.eq_ofNat_of_zero_le (show 0 ≤ n by omega)
    by_cases hw : Wrong F nf PA L nh N 0
    · refine (from_ok W nf cf nh ch N qf qh F PA P L C D hf hF hcf hcfm hH hP hc hcm hl hD hDb (by omega) (by omega) hs (Fine.of_zero hw)).mono fun e w' h => ?_
      exact ⟨0, 0, .inr (.inr ⟨hn, hw, rfl, rfl⟩), .inr ⟨rfl, rfl, N, rfl, by omega, by omega, Fine.of_zero hw, h⟩⟩
    · refine (from_wrong W nf cf nh ch N qf qh F PA P L C hf hF hcf hcfm hH hP hc hcm hl (by omega) (by omega) hs hw).mono fun e w' ⟨a, h1, h2, h3⟩ => ?_
      exact ⟨a, 63, .inr (.inl ⟨hn, h1, h2, rfl⟩), .inl ⟨by decide, h3⟩⟩
  · refine (from_size W nf cf nh ch n qf qh hn).mono fun e w' h => ?_
    exact ⟨0, 60, .inl ⟨hn, rfl, rfl⟩, .inl ⟨by decide, h⟩⟩
end Go.Proofs.Ytnghcadhilfgnaa
