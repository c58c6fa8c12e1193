import Derived.Test.YthdahigckflohaaDivi
import Derived.Test.YthdahigckflohaaRMul
import Derived.Test.YthdahigckflohaaMoves
namespace Go.Proofs.Ythdahigckflohaa
open Go.RowKit
set_option linter.unusedVariables false
set_option linter.unusedSimpArgs false
theorem divide_err (H L d Q R r : Int) (w : World) (h0 : 0 ≤ H) (hd : d < 18446744073709551616) (hL : W64 L)
    (h : (H < d ∧ Q = (H * 18446744073709551616 + L) / d ∧ R = (H * 18446744073709551616 + L) % d ∧ r = 0) ∨ (d ≤ H ∧ Q = 0 ∧ R = 0 ∧ r = 41)) :
    Calls Try.prog 12 #[.agg #[.int .u64 H, .int .u64 L], .int .u64 d] w fun e w' => (∃ v, e = .returned (.tuple #[.int .u64 Q, .int .u64 R, v]) ∧ ErrIn w' v r) ∧ Below w.heap.size w w' := by
  rcases h with ⟨h1, rfl, rfl, rfl⟩ | ⟨h1, rfl, rfl, rfl⟩
  · refine (divide_yes H L d w h0 h1 hd hL).mono ?_
    rintro e w' ⟨rfl, hb⟩
    exact ⟨⟨_, rfl, .inl ⟨rfl, rfl⟩⟩, hb⟩
  · refine (divide_no H L d w h1).mono ?_
    rintro e w' ⟨⟨v, rfl, hF⟩, hb⟩
    exact ⟨⟨_, rfl, .inr ⟨by decide, hF⟩⟩, hb⟩
set_option maxHeartbeats 1000000 in
theorem rdivide_err (H L d Q R r : Int) (w : World) (h0 : 0 ≤ H) (hd0 : 0 ≤ d) (hd : d < 18446744073709551616) (hL : W64 L)
    (h : (H < d ∧ Q = (H * 18446744073709551616 + L) / d ∧ R = (H * 18446744073709551616 + L) % d ∧ r = 0) ∨ (d ≤ H ∧ Q = 0 ∧ R = 0 ∧ r = 41)) :
    Calls Try.prog 17 #[.agg #[.int .u64 H, .int .u64 L], .int .u64 d] w fun e w' => (∃ p l c, e = .returned (.tuple #[.int .u64 Q, .int .u64 R, .agg #[.slice p l c, .int .i64 r]]) ∧ RefIn w' p l c r) ∧ Below w.heap.size w w' := by
  rcases h with ⟨h1, hQ, hR, rfl⟩ | ⟨h1, rfl, rfl, rfl⟩
  · have c := fun w => long_any H L d w h0 h1 hd hL
    rw [← hQ, ← hR] at c
    clear hQ hR hL
    have g1 : (d == 0) = false := by rw [beq_eq_false_iff_ne]; omega
    have g2 : decide (d ≤ H) = false := by rw [decide_eq_false_iff_not]; omega
    go_enter Try.func17, Try.ntmps17
    go_wp2_with fail
    refine (c _).mono ?_; rintro e w1 ⟨rfl, hb⟩
    clear c
    have hz := hb.size
    simp only [World.size_alloc] at hz
    go_wp2_with fail
    refine (none_any _).mono ?_; rintro e w2 ⟨rfl, rfl⟩
    have hp := below_past w1 (.cells #[.slice .none 0 0, .int .i64 0] 41)
    have k := row2_keep (bseq hb hp) (by simp) (row2_new (w.alloc (.cells #[.int .u64 H, .int .u64 L] 34)) (.slice .none 0 0) (.int .i64 0) 41)
    have f0 : (w1.alloc (.cells #[.slice .none 0 0, .int .i64 0] 41)).frozen? ⟨w.heap.size + 1, 0, .none⟩ = false := ((bseq hb hp).frozen (p := ⟨w.heap.size + 1, 0, .none⟩) (by simp)).trans (by simp)
    have f1 : (w1.alloc (.cells #[.slice .none 0 0, .int .i64 0] 41)).frozen? ⟨w.heap.size + 1, 1, .none⟩ = false := ((bseq hb hp).frozen (p := ⟨w.heap.size + 1, 1, .none⟩) (by simp)).trans (by simp)
    have hW : Below w.heap.size w (w1.alloc (.cells #[.slice .none 0 0, .int .i64 0] 41)) := ((below_past _ _).alloc (by simp) _).trans ((bseq hb hp).mono (by simp only [World.size_alloc]; omega))
    have y : w.heap.size + 1 < (w1.alloc (.cells #[.slice .none 0 0, .int .i64 0] 41)).heap.size := by simp only [World.size_alloc]; omega
    simp only [World.size_alloc] at k
    obtain ⟨k0, k1⟩ := k
    generalize (w1.alloc (.cells #[.slice .none 0 0, .int .i64 0] 41)) = w3 at *
    go_wp2
    exact bodyPost_ret (v := .tuple #[.int .u64 Q, .int .u64 R, .agg #[.slice .none 0 0, .int .i64 0]]) (by simp [results, Try.results17, go_sem, y, k0, k1]) rfl ⟨⟨_, _, _, rfl, .inl ⟨rfl, rfl, rfl, rfl⟩⟩, (hW.setCell (by show w.heap.size ≤ w.heap.size + 1; omega) _).setCell (by show w.heap.size ≤ w.heap.size + 1; omega) _⟩
  · have g2 : decide (d ≤ H) = true := by rw [decide_eq_true_eq]; omega
    have hg : (d == 0) = true ∨ (d == 0) = false := by cases (d == 0) <;> simp
    rcases hg with g1 | g1
    all_goals
      go_enter Try.func17, Try.ntmps17
      go_wp2_with fail
      refine (no_any 41 _).mono ?_; rintro e w1 ⟨⟨B, hB0, hB1, rfl, c0, c1⟩, hb⟩
      have hz := hb.size
      simp only [World.size_alloc] at hz hB0
      have hy : w.heap.size + 1 < w1.heap.size := by omega
      have k := row2_keep hb (by simp) (row2_new (w.alloc (.cells #[.int .u64 H, .int .u64 L] 34)) (.slice .none 0 0) (.int .i64 0) 41)
      simp only [World.size_alloc] at k
      obtain ⟨k0, k1⟩ := k
      have f0 : w1.frozen? ⟨w.heap.size + 1, 0, .none⟩ = false := (hb.frozen (p := ⟨w.heap.size + 1, 0, .none⟩) (by simp)).trans (by simp)
      have f1 : w1.frozen? ⟨w.heap.size + 1, 1, .none⟩ = false := (hb.frozen (p := ⟨w.heap.size + 1, 1, .none⟩) (by simp)).trans (by simp)
      have hW : Below w.heap.size w w1 := ((below_past _ _).alloc (by simp) _).trans (hb.mono (by simp only [World.size_alloc]; omega))
      go_wp2
      refine bodyPost_ret (v := .tuple #[.int .u64 0, .int .u64 0, .agg #[.slice (some ⟨B, 0, .none⟩) 1 1, .int .i64 41]]) (by simp [results, Try.results17, go_sem, hy, k0, k1]) rfl ⟨⟨_, _, _, rfl, .inr ⟨by decide, B, rfl, rfl, rfl, ?_, ?_, ?_⟩⟩, (hW.setCell (by show w.heap.size ≤ w.heap.size + 1; omega) _).setCell (by show w.heap.size ≤ w.heap.size + 1; omega) _⟩
      · simpa using hB1
      · rw [set_other _ _ _ _ _ _ (by omega), set_other _ _ _ _ _ _ (by omega)]; exact c0
      · rw [set_other _ _ _ _ _ _ (by omega), set_other _ _ _ _ _ _ (by omega)]; exact c1
theorem fields34 : ∃ f g : Field, (Try.prog.fieldsOf 34).toList = [f, g] ∧ f.name ≠ "_" ∧ f.type = 24 ∧ f.offset = 0 ∧ g.name ≠ "_" ∧ g.type = 24 ∧ g.offset = 1 := by
  have h : (Try.prog.fieldsOf 34).toList.map (fun f => (f.name, f.type, f.offset)) = [("High", 24, 0), ("Low", 24, 1)] := by kernel_rfl
  generalize (Try.prog.fieldsOf 34).toList = L at h
  cases L with
  | nil => cases h
  | cons f L =>
    cases L with
    | nil => simp at h
    | cons g L =>
      cases L with
      | cons _ _ => simp at h
      | nil =>
        simp only [List.map_cons, List.map_nil, List.cons.injEq, Prod.mk.injEq, and_true] at h
        obtain ⟨⟨a1, a2, a3⟩, b1, b2, b3⟩ := h
        exact ⟨f, g, rfl, by rw [a1]; decide, a2, a3, by rw [b1]; decide, b2, b3⟩
theorem eq_wide (h l : Int) (w : World) : (binOp .eql 34 (.agg #[.int .u64 h, .int .u64 l]) (.agg #[.int .u64 h, .int .u64 l])).run Try.prog w = .ok (.bool true) w := by
  obtain ⟨f, g, e, a1, a2, a3, b1, b2, b3⟩ := fields34
  have p0 : ∀ w : World, (part 24 #[.int .u64 h, .int .u64 l] 0).run Try.prog w = .ok (.int .u64 h) w := fun w => by kernel_rfl
  have p1 : ∀ w : World, (part 24 #[.int .u64 h, .int .u64 l] 1).run Try.prog w = .ok (.int .u64 l) w := fun w => by kernel_rfl
  rw [run_eql_struct, show (10000 : Nat) = 9999 + 1 from rfl, run_equalIn_struct w 9999 34 _ _ (by kernel_rfl) (by kernel_rfl), e]
  simp [Op.eqFields, a1, a2, a3, b1, b2, b3, p0, p1, run_equalIn_int _ 9998 24 _ _ _ _ Try.underlying24]
theorem guard_wide (x y : Operand) (h l h' l' : Int) (w : World) : (eqGuard .eql 34 x y (.agg #[.int .u64 h, .int .u64 l]) (.agg #[.int .u64 h', .int .u64 l'])).run Try.prog w = .ok () w := by kernel_rfl
attribute [local go_sem] eq_wide guard_wide
set_option maxHeartbeats 1000000 in
theorem wides_as (a b H L d Q R r h l : Int) (w : World)
    (c1 : ∀ w, Calls Try.prog 12 #[.agg #[.int .u64 H, .int .u64 L], .int .u64 d] w fun e w' => (∃ v, e = .returned (.tuple #[.int .u64 Q, .int .u64 R, v]) ∧ ErrIn w' v r) ∧ Below w.heap.size w w')
    (c2 : ∀ w, Calls Try.prog 17 #[.agg #[.int .u64 H, .int .u64 L], .int .u64 d] w fun e w' => (∃ p l c, e = .returned (.tuple #[.int .u64 Q, .int .u64 R, .agg #[.slice p l c, .int .i64 r]]) ∧ RefIn w' p l c r) ∧ Below w.heap.size w w')
    (c3 : ∀ w, Calls Try.prog 13 #[.int .u64 a, .int .u64 b] w fun e w' => e = .returned (.agg #[.int .u64 h, .int .u64 l]) ∧ Below w.heap.size w w')
    (c4 : ∀ w, Calls Try.prog 18 #[.int .u64 a, .int .u64 b] w fun e w' => e = .returned (.agg #[.int .u64 h, .int .u64 l]) ∧ Below w.heap.size w w') :
    Calls Try.prog 6 #[.int .u64 a, .int .u64 b, .agg #[.int .u64 H, .int .u64 L], .int .u64 d] w fun e w' => e = .returned (.bool true) ∧ Below w.heap.size w w' := by
  go_enter Try.func6, Try.ntmps6
  go_wp2_with fail
  refine (c1 _).mono ?_; rintro e w1 ⟨⟨x1, rfl, E1⟩, hb1⟩
  clear c1
  have z1 := hb1.size
  simp only [World.size_alloc] at z1
  have y1 : w.heap.size < w1.heap.size := by omega
  obtain ⟨k0, k1⟩ := row2_keep hb1 (by simp) (row2_new w (.int .u64 H) (.int .u64 L) 34)
  have hB1 : Below w.heap.size w w1 := (below_past _ _).trans (hb1.mono (by simp only [World.size_alloc]; omega))
  have HE : Hid (ErrIn w1 x1 r) := E1
  clear E1
  go_wp2_with fail
  refine (c2 _).mono ?_; rintro e w2 ⟨⟨p1, l1, q1, rfl, R1⟩, hb2⟩
  clear c2 k0 k1
  have z2 := hb2.size
  have hp := below_past w2 (.cells #[.slice p1 l1 q1, .int .i64 r] 41)
  have HE2 : Hid (ErrIn (w2.alloc (.cells #[.slice p1 l1 q1, .int .i64 r] 41)) x1 r) := errIn_keep (bseq hb2 hp) HE.out
  have HR2 : Hid (RefIn (w2.alloc (.cells #[.slice p1 l1 q1, .int .i64 r] 41)) p1 l1 q1 r) := refIn_keep hp R1
  clear HE R1
  have HQ : Hid (Row2 (w2.alloc (.cells #[.slice p1 l1 q1, .int .i64 r] 41)) w2.heap.size (.slice p1 l1 q1) (.int .i64 r)) := row2_new w2 _ _ _
  have hB2 := bseq (bseq hB1 hb2) hp
  have y2 : w2.heap.size < (w2.alloc (.cells #[.slice p1 l1 q1, .int .i64 r] 41)).heap.size := by simp only [World.size_alloc]; omega
  clear hp
  go_wp2_with fail
  generalize (w2.alloc (.cells #[.slice p1 l1 q1, .int .i64 r] 41)) = w3 at *
  refine (c3 _).mono ?_; rintro e w4 ⟨rfl, hb3⟩
  clear c3
  go_wp2_with fail
  refine (c4 _).mono ?_; rintro e w5 ⟨rfl, hb4⟩
  clear c4
  have hB3 := bseq hb3 hb4
  have z5 := hB3.size
  have I := is_agree x1 p1 l1 q1 r w5 (errIn_keep hB3 HE2.out) (refIn_keep hB3 HR2.out)
  obtain ⟨k0, k1⟩ := row2_keep hB3 y2 HQ.out
  have y5 : w2.heap.size < w5.heap.size := by omega
  clear HE2 HR2 HQ
  go_wp2_with fail
  refine I.mono ?_; rintro e w6 ⟨rfl, hb6⟩
  clear I
  go_wp2
  go_ret
  exact ⟨rfl, bseq (bseq hB2 hB3) hb6⟩
theorem wides_walk (a b H L d : Int) (w : World) (ha : W64 a) (hb : W64 b) (hH : W64 H) (hL : W64 L) (hd : W64 d) :
    Calls Try.prog 6 #[.int .u64 a, .int .u64 b, .agg #[.int .u64 H, .int .u64 L], .int .u64 d] w fun e w' => e = .returned (.bool true) ∧ Below w.heap.size w w' := by
  by_cases h : H < d
  · exact wides_as a b H L d _ _ _ _ _ w (fun w => divide_err H L d _ _ _ w hH.1 hd.2 hL (.inl ⟨h, rfl, rfl, rfl⟩)) (fun w => rdivide_err H L d _ _ _ w hH.1 hd.1 hd.2 hL (.inl ⟨h, rfl, rfl, rfl⟩)) (fun w => mulW_any a b w ha hb) (fun w => rmul_any a b w ha hb)
  · exact wides_as a b H L d _ _ _ _ _ w (fun w => divide_err H L d _ _ _ w hH.1 hd.2 hL (.inr ⟨by omega, rfl, rfl, rfl⟩)) (fun w => rdivide_err H L d _ _ _ w hH.1 hd.1 hd.2 hL (.inr ⟨by omega, rfl, rfl, rfl⟩)) (fun w => mulW_any a b w ha hb) (fun w => rmul_any a b w ha hb)
end Go.Proofs.Ythdahigckflohaa
