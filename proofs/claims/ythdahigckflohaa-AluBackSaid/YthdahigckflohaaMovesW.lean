import Derived.Test.YthdahigckflohaaMoves
namespace Go.Proofs.Ythdahigckflohaa
open Go.RowKit
set_option linter.unusedVariables false
set_option maxHeartbeats 4000000 in
theorem moves_as (op v V1 V2 r1 r2 n : Int) (w : World)
    (c1 : ∀ w, Calls Try.prog 11 #[.int .i64 op, .int .u64 v] w fun e w' => (∃ x, e = .returned (.tuple #[.int .u64 V1, x]) ∧ ErrIn w' x r1) ∧ Below w.heap.size w w')
    (c2 : ∀ w, Calls Try.prog 19 #[.int .i64 op, .int .u64 v] w fun e w' => (∃ p l c, e = .returned (.tuple #[.int .u64 V1, .agg #[.slice p l c, .int .i64 r1]]) ∧ RefIn w' p l c r1) ∧ Below w.heap.size w w')
    (c3 : ∀ w, Calls Try.prog 10 #[.int .i64 op, .int .u64 v] w fun e w' => (∃ x, e = .returned (.tuple #[.int .u64 V2, x]) ∧ ErrIn w' x r2) ∧ Below w.heap.size w w')
    (c4 : ∀ w, Calls Try.prog 20 #[.int .i64 op, .int .u64 v] w fun e w' => (∃ p l c, e = .returned (.tuple #[.int .u64 V2, .agg #[.slice p l c, .int .i64 r2]]) ∧ RefIn w' p l c r2) ∧ Below w.heap.size w w')
    (c5 : ∀ w, Calls Try.prog 9 #[.int .i64 op] w fun e w' => e = .returned (.int .i64 n) ∧ Below w.heap.size w w')
    (c6 : ∀ w, Calls Try.prog 21 #[.int .i64 op] w fun e w' => e = .returned (.int .i64 n) ∧ Below w.heap.size w w') :
    Calls Try.prog 7 #[.int .i64 op, .int .u64 v] w fun e w' => e = .returned (.bool true) ∧ Below w.heap.size w w' := by
  go_enter Try.func7, Try.ntmps7
  go_wp2_with fail
  refine (c1 _).mono ?_; rintro e w1 ⟨⟨x1, rfl, E1⟩, hb1⟩
  clear c1
  go_wp2_with fail
  refine (c2 _).mono ?_; rintro e w2 ⟨⟨p1, l1, k1, rfl, R1⟩, hb2⟩
  clear c2
  have z1 := hb1.size
  have z2 := hb2.size
  have hp1 := below_past w2 (.cells #[.slice p1 l1 k1, .int .i64 r1] 41)
  have E1 := errIn_keep (bseq hb2 hp1) E1
  have R1 := refIn_keep hp1 R1
  have q1 := row2_new w2 (.slice p1 l1 k1) (.int .i64 r1) 41
  have hB1 : Below w.heap.size w (w2.alloc (.cells #[.slice p1 l1 k1, .int .i64 r1] 41)) := bseq (bseq hb1 hb2) hp1
  have y1 : w2.heap.size < (w2.alloc (.cells #[.slice p1 l1 k1, .int .i64 r1] 41)).heap.size := by simp only [World.size_alloc]; omega
  clear hp1 hb1 hb2
  have HE1 : Hid (ErrIn (w2.alloc (.cells #[.slice p1 l1 k1, .int .i64 r1] 41)) x1 r1) := E1
  have HR1 : Hid (RefIn (w2.alloc (.cells #[.slice p1 l1 k1, .int .i64 r1] 41)) p1 l1 k1 r1) := R1
  clear E1 R1
  go_wp2_with fail
  generalize (w2.alloc (.cells #[.slice p1 l1 k1, .int .i64 r1] 41)) = w3 at *
  refine (c3 _).mono ?_; rintro e w4 ⟨⟨x2, rfl, E2⟩, hb3⟩
  clear c3
  go_wp2_with fail
  refine (c4 _).mono ?_; rintro e w5 ⟨⟨p2, l2, k2, rfl, R2⟩, hb4⟩
  clear c4
  have z3 := hb3.size
  have z4 := hb4.size
  have hp2 := below_past w5 (.cells #[.slice p2 l2 k2, .int .i64 r2] 41)
  have E2 := errIn_keep (bseq hb4 hp2) E2
  have R2 := refIn_keep hp2 R2
  have q2 := row2_new w5 (.slice p2 l2 k2) (.int .i64 r2) 41
  have hB2 : Below w3.heap.size w3 (w5.alloc (.cells #[.slice p2 l2 k2, .int .i64 r2] 41)) := bseq (bseq hb3 hb4) hp2
  have y2 : w5.heap.size < (w5.alloc (.cells #[.slice p2 l2 k2, .int .i64 r2] 41)).heap.size := by simp only [World.size_alloc]; omega
  clear hp2 hb3 hb4
  have HE2 : Hid (ErrIn (w5.alloc (.cells #[.slice p2 l2 k2, .int .i64 r2] 41)) x2 r2) := E2
  have HR2 : Hid (RefIn (w5.alloc (.cells #[.slice p2 l2 k2, .int .i64 r2] 41)) p2 l2 k2 r2) := R2
  clear E2 R2
  go_wp2_with fail
  generalize (w5.alloc (.cells #[.slice p2 l2 k2, .int .i64 r2] 41)) = w6 at *
  have z6 := hB2.size
  refine (c5 _).mono ?_; rintro e w7 ⟨rfl, hb5⟩
  clear c5
  go_wp2_with fail
  refine (c6 _).mono ?_; rintro e w8 ⟨rfl, hb6⟩
  clear c6
  have z7 := hb5.size
  have z8 := hb6.size
  have HB8 : Below w6.heap.size w6 w8 := bseq hb5 hb6
  have Q1 := row2_keep (bseq hB2 HB8) y1 q1
  have Q2 := row2_keep HB8 y2 q2
  have HE1' := errIn_keep (bseq hB2 HB8) HE1.out
  have HR1' := refIn_keep (bseq hB2 HB8) HR1.out
  have I1 := is_agree x1 p1 l1 k1 r1 w8 HE1' HR1'
  clear HE1 HR1 HE1' HR1'
  obtain ⟨Qa, Qb⟩ := Q1
  have u1 : w2.heap.size < w8.heap.size := by omega
  have u2 : w5.heap.size < w8.heap.size := by omega
  have q2' : Hid (Row2 w8 w5.heap.size (.slice p2 l2 k2) (.int .i64 r2)) := Q2
  clear q1 q2 Q2
  go_wp2_with fail
  refine I1.mono ?_; rintro e w9 ⟨rfl, hb9⟩
  clear I1 Qa Qb
  have Q2 := row2_keep hb9 u2 q2'.out
  have HE2' := errIn_keep (bseq HB8 hb9) HE2.out
  have HR2' := refIn_keep (bseq HB8 hb9) HR2.out
  have I2 := is_agree x2 p2 l2 k2 r2 w9 HE2' HR2'
  clear HE2 HR2 HE2' HR2' q2'
  obtain ⟨Qa, Qb⟩ := Q2
  have z9 := hb9.size
  have u3 : w5.heap.size < w9.heap.size := by omega
  go_wp2_with fail
  refine I2.mono ?_; rintro e w10 ⟨rfl, hb10⟩
  clear I2 Qa Qb
  go_wp2
  go_ret
  exact ⟨rfl, bseq (bseq (bseq (bseq hB1 hB2) HB8) hb9) hb10⟩
theorem moves_walk (op v : Int) (w : World) (hv : W64 v) :
    Calls Try.prog 7 #[.int .i64 op, .int .u64 v] w fun e w' => e = .returned (.bool true) ∧ Below w.heap.size w w' := by
  have hN : op = 11 ∨ op = 12 ∨ op = 13 ∨ op = 14 ∨ op = 15 ∨ op = 16 ∨ op = 17 ∨ op = 18 ∨ op = 19 ∨ op = 20 ∨ op = 21 ∨ (op < 11 ∨ 21 < op) := by omega
  rcases hN with rfl | rfl | rfl | rfl | rfl | rfl | rfl | rfl | rfl | rfl | rfl | h
  · exact moves_as 11 v _ _ _ _ _ w (fun w => extend_hit 0 (by decide) v w hv) (fun w => rext0 v w hv) (fun w => keep_miss 11 v w (by decide)) (fun w => rkeep_miss 11 v w (by decide)) (fun w => bytes_as 11 1 _ _ _ w acc0) (fun w => rbytes0 w)
  · exact moves_as 12 v _ _ _ _ _ w (fun w => extend_hit 1 (by decide) v w hv) (fun w => rext1 v w hv) (fun w => keep_miss 12 v w (by decide)) (fun w => rkeep_miss 12 v w (by decide)) (fun w => bytes_as 12 2 _ _ _ w acc1) (fun w => rbytes1 w)
  · exact moves_as 13 v _ _ _ _ _ w (fun w => extend_hit 2 (by decide) v w hv) (fun w => rext2 v w hv) (fun w => keep_miss 13 v w (by decide)) (fun w => rkeep_miss 13 v w (by decide)) (fun w => bytes_as 13 4 _ _ _ w acc2) (fun w => rbytes2 w)
  · exact moves_as 14 v _ _ _ _ _ w (fun w => extend_hit 3 (by decide) v w hv) (fun w => rext3 v w hv) (fun w => keep_miss 14 v w (by decide)) (fun w => rkeep_miss 14 v w (by decide)) (fun w => bytes_as 14 8 _ _ _ w acc3) (fun w => rbytes3 w)
  · exact moves_as 15 v _ _ _ _ _ w (fun w => extend_hit 4 (by decide) v w hv) (fun w => rext4 v w hv) (fun w => keep_miss 15 v w (by decide)) (fun w => rkeep_miss 15 v w (by decide)) (fun w => bytes_as 15 1 _ _ _ w acc4) (fun w => rbytes4 w)
  · exact moves_as 16 v _ _ _ _ _ w (fun w => extend_hit 5 (by decide) v w hv) (fun w => rext5 v w hv) (fun w => keep_miss 16 v w (by decide)) (fun w => rkeep_miss 16 v w (by decide)) (fun w => bytes_as 16 2 _ _ _ w acc5) (fun w => rbytes5 w)
  · exact moves_as 17 v _ _ _ _ _ w (fun w => extend_hit 6 (by decide) v w hv) (fun w => rext6 v w hv) (fun w => keep_miss 17 v w (by decide)) (fun w => rkeep_miss 17 v w (by decide)) (fun w => bytes_as 17 4 _ _ _ w acc6) (fun w => rbytes6 w)
  · exact moves_as 18 v _ _ _ _ _ w (fun w => extend_miss 18 v w (by decide)) (fun w => rext_miss 18 v w (by decide)) (fun w => keep_hit 0 (by decide) v w hv) (fun w => rkeep0 v w hv) (fun w => bytes_as 18 1 _ _ _ w acc7) (fun w => rbytes7 w)
  · exact moves_as 19 v _ _ _ _ _ w (fun w => extend_miss 19 v w (by decide)) (fun w => rext_miss 19 v w (by decide)) (fun w => keep_hit 1 (by decide) v w hv) (fun w => rkeep1 v w hv) (fun w => bytes_as 19 2 _ _ _ w acc8) (fun w => rbytes8 w)
  · exact moves_as 20 v _ _ _ _ _ w (fun w => extend_miss 20 v w (by decide)) (fun w => rext_miss 20 v w (by decide)) (fun w => keep_hit 2 (by decide) v w hv) (fun w => rkeep2 v w hv) (fun w => bytes_as 20 4 _ _ _ w acc9) (fun w => rbytes9 w)
  · exact moves_as 21 v _ _ _ _ _ w (fun w => extend_miss 21 v w (by decide)) (fun w => rext_miss 21 v w (by decide)) (fun w => keep_hit 3 (by decide) v w hv) (fun w => rkeep3 v w hv) (fun w => bytes_as 21 8 _ _ _ w acc10) (fun w => rbytes10 w)
  · exact moves_as op v _ _ _ _ _ w (fun w => extend_miss op v w (by omega)) (fun w => rext_miss op v w (by omega)) (fun w => keep_miss op v w (by omega)) (fun w => rkeep_miss op v w (by omega)) (fun w => bytes_as op 0 _ _ _ w (acc_miss op h)) (fun w => rbytes_miss op w h)
end Go.Proofs.Ythdahigckflohaa
