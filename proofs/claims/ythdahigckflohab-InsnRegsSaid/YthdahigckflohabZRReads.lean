import Derived.Test.YthdahigckflohabZReads
namespace Go.Proofs.Ythdahigckflohab
open Go.RowKit
set_option linter.unusedVariables false
set_option linter.unusedSimpArgs false
theorem cell_keep {B : Nat} {W w' : World} {b o : Nat} {v : Value} (h : Below B W w') (hb : b < B) (k : W.cell? ⟨b, o, .none⟩ = some v) : w'.cell? ⟨b, o, .none⟩ = some v := (h.cell hb).trans k
set_option maxHeartbeats 2000000 in
set_option maxRecDepth 100000 in
theorem rreads_n (op rd rs1 rs2 imm csr x s : Int) (nm : ByteArray) (f1 f2 f3 f4 : Int) (ok q1 q4 q5 : Bool) (w : World)
    (c1 : ∀ w, Calls Try.prog 72 #[.agg #[.int .i64 op, .int .i64 rd, .int .i64 rs1, .int .i64 rs2, .int .i64 imm, .int .i64 csr]] w fun e w' => e = .returned (.tuple #[.int .i64 x, .int .i64 0]) ∧ Below w.heap.size w w')
    (c2 : ∀ w, Calls Try.prog 73 #[.int .i64 op] w fun e w' => e = .returned (.tuple #[.agg #[.string nm, .int .i64 s, .int .i64 f1, .int .i64 f2, .int .i64 f3, .int .u32 f4], .bool ok]) ∧ Below w.heap.size w w')
    (c3 : ∀ w, Calls Try.prog 74 #[.int .i64 s] w fun e w' => e = .returned (.agg #[.bool q1, .bool false, .bool false, .bool q4, .bool q5]) ∧ Below w.heap.size w w')  :
    Calls Try.prog 28 #[.agg #[.int .i64 op, .int .i64 rd, .int .i64 rs1, .int .i64 rs2, .int .i64 imm, .int .i64 csr]] w fun e w' => Gives w w' e [] := by
  obtain ⟨i3, z3', hi3, hz3, hs3, hb3, hzs3⟩ := int_info
  have HI : Hid (Try.prog.info? 3 = some i3 ∧ i3.zero = some z3' ∧ i3.size = 1 ∧ i3.bytes = 8 ∧ z3'.cells.size = 1) := ⟨hi3, hz3, hs3, hb3, hzs3⟩
  clear hi3 hz3 hs3 hb3 hzs3
  go_enter Try.func28, Try.ntmps28
  go_wp2_with fail
  refine (c1 _).mono ?_
  rintro e w1 ⟨rfl, hb1⟩
  clear c1
  have z1 := hb1.size
  simp only [World.size_alloc] at z1
  have K1 : Hid (Row6 w1 w.heap.size (.int .i64 op) (.int .i64 rd) (.int .i64 rs1) (.int .i64 rs2) (.int .i64 imm) (.int .i64 csr)) := row6_keep hb1 (by simp only [World.size_alloc]; omega) (row6_new w (.int .i64 op) (.int .i64 rd) (.int .i64 rs1) (.int .i64 rs2) (.int .i64 imm) (.int .i64 csr) 49)
  have HB1 : Hid (Below w.heap.size w w1) := (below_past _ _).trans (hb1.mono (by simp only [World.size_alloc]; omega))
  have y1 : w.heap.size < w1.heap.size := by omega
  have k0 := K1.out.1
  clear hb1
  go_wp2_with fail
  clear k0
  refine (c2 _).mono ?_
  rintro e w2 ⟨rfl, hb2⟩
  clear c2
  have z2 := hb2.size
  have K2 : Hid (Row6 w2 w.heap.size (.int .i64 op) (.int .i64 rd) (.int .i64 rs1) (.int .i64 rs2) (.int .i64 imm) (.int .i64 csr)) := row6_keep hb2 y1 K1.out
  have HB2 : Hid (Below w.heap.size w w2) := bseq HB1.out hb2
  clear hb2 K1 HB1
  go_wp2_with fail
  refine (c3 _).mono ?_
  rintro e w3 ⟨rfl, hb3⟩
  clear c3
  have z3 := hb3.size
  simp only [World.size_alloc] at z3
  have ks := cell_keep hb3 (by simp only [World.size_alloc]; omega) (show (w2.alloc (.cells #[.string nm, .int .i64 s, .int .i64 f1, .int .i64 f2, .int .i64 f3, .int .u32 f4] 94)).cell? ⟨w2.heap.size, 1, .none⟩ = some (.int .i64 s) by simp)
  have kp := below_past w2 (.cells #[.string nm, .int .i64 s, .int .i64 f1, .int .i64 f2, .int .i64 f3, .int .u32 f4] 94)
  obtain ⟨m0, m1, m2, m3, m4, m5⟩ := row6_keep (bseq kp hb3) (by omega) K2.out
  have HB3 : Hid (Below w.heap.size w (w3.alloc (.cells #[.bool q1, .bool false, .bool false, .bool q4, .bool q5] 98))) := (bseq HB2.out (bseq kp hb3)).alloc (by omega) _
  have y3 : w.heap.size < w3.heap.size := by omega
  have x3 : w2.heap.size < w3.heap.size := by omega
  clear hb3 K2 HB2 kp
  go_wp2
  go_ret
  exact ⟨⟨_, _, rfl, World.ownsRow_nil _ _ _ _⟩, HB3.out⟩
set_option maxHeartbeats 2000000 in
set_option maxRecDepth 100000 in
theorem rreads_f (op rd rs1 rs2 imm csr x s : Int) (nm : ByteArray) (f1 f2 f3 f4 : Int) (ok q1 q4 q5 : Bool) (w : World)
    (c1 : ∀ w, Calls Try.prog 72 #[.agg #[.int .i64 op, .int .i64 rd, .int .i64 rs1, .int .i64 rs2, .int .i64 imm, .int .i64 csr]] w fun e w' => e = .returned (.tuple #[.int .i64 x, .int .i64 0]) ∧ Below w.heap.size w w')
    (c2 : ∀ w, Calls Try.prog 73 #[.int .i64 op] w fun e w' => e = .returned (.tuple #[.agg #[.string nm, .int .i64 s, .int .i64 f1, .int .i64 f2, .int .i64 f3, .int .u32 f4], .bool ok]) ∧ Below w.heap.size w w')
    (c3 : ∀ w, Calls Try.prog 74 #[.int .i64 s] w fun e w' => e = .returned (.agg #[.bool q1, .bool true, .bool false, .bool q4, .bool q5]) ∧ Below w.heap.size w w') (hs : s = 10) :
    Calls Try.prog 28 #[.agg #[.int .i64 op, .int .i64 rd, .int .i64 rs1, .int .i64 rs2, .int .i64 imm, .int .i64 csr]] w fun e w' => Gives w w' e [] := by
  subst hs
  obtain ⟨i3, z3', hi3, hz3, hs3, hb3, hzs3⟩ := int_info
  have HI : Hid (Try.prog.info? 3 = some i3 ∧ i3.zero = some z3' ∧ i3.size = 1 ∧ i3.bytes = 8 ∧ z3'.cells.size = 1) := ⟨hi3, hz3, hs3, hb3, hzs3⟩
  clear hi3 hz3 hs3 hb3 hzs3
  go_enter Try.func28, Try.ntmps28
  go_wp2_with fail
  refine (c1 _).mono ?_
  rintro e w1 ⟨rfl, hb1⟩
  clear c1
  have z1 := hb1.size
  simp only [World.size_alloc] at z1
  have K1 : Hid (Row6 w1 w.heap.size (.int .i64 op) (.int .i64 rd) (.int .i64 rs1) (.int .i64 rs2) (.int .i64 imm) (.int .i64 csr)) := row6_keep hb1 (by simp only [World.size_alloc]; omega) (row6_new w (.int .i64 op) (.int .i64 rd) (.int .i64 rs1) (.int .i64 rs2) (.int .i64 imm) (.int .i64 csr) 49)
  have HB1 : Hid (Below w.heap.size w w1) := (below_past _ _).trans (hb1.mono (by simp only [World.size_alloc]; omega))
  have y1 : w.heap.size < w1.heap.size := by omega
  have k0 := K1.out.1
  clear hb1
  go_wp2_with fail
  clear k0
  refine (c2 _).mono ?_
  rintro e w2 ⟨rfl, hb2⟩
  clear c2
  have z2 := hb2.size
  have K2 : Hid (Row6 w2 w.heap.size (.int .i64 op) (.int .i64 rd) (.int .i64 rs1) (.int .i64 rs2) (.int .i64 imm) (.int .i64 csr)) := row6_keep hb2 y1 K1.out
  have HB2 : Hid (Below w.heap.size w w2) := bseq HB1.out hb2
  clear hb2 K1 HB1
  go_wp2_with fail
  refine (c3 _).mono ?_
  rintro e w3 ⟨rfl, hb3⟩
  clear c3
  have z3 := hb3.size
  simp only [World.size_alloc] at z3
  have ks := cell_keep hb3 (by simp only [World.size_alloc]; omega) (show (w2.alloc (.cells #[.string nm, .int .i64 10, .int .i64 f1, .int .i64 f2, .int .i64 f3, .int .u32 f4] 94)).cell? ⟨w2.heap.size, 1, .none⟩ = some (.int .i64 10) by simp)
  have kp := below_past w2 (.cells #[.string nm, .int .i64 10, .int .i64 f1, .int .i64 f2, .int .i64 f3, .int .u32 f4] 94)
  obtain ⟨m0, m1, m2, m3, m4, m5⟩ := row6_keep (bseq kp hb3) (by omega) K2.out
  have HB3 : Hid (Below w.heap.size w (w3.alloc (.cells #[.bool q1, .bool true, .bool false, .bool q4, .bool q5] 98))) := (bseq HB2.out (bseq kp hb3)).alloc (by omega) _
  have y3 : w.heap.size < w3.heap.size := by omega
  have x3 : w2.heap.size < w3.heap.size := by omega
  clear hb3 K2 HB2 kp
  go_wp2
  go_ret
  exact ⟨⟨_, _, rfl, World.ownsRow_nil _ _ _ _⟩, HB3.out⟩
set_option maxHeartbeats 2000000 in
set_option maxRecDepth 100000 in
theorem rreads_a0 (op rd rs1 rs2 imm csr x s : Int) (nm : ByteArray) (f1 f2 f3 f4 : Int) (ok q1 q4 q5 : Bool) (w : World)
    (c1 : ∀ w, Calls Try.prog 72 #[.agg #[.int .i64 op, .int .i64 rd, .int .i64 rs1, .int .i64 rs2, .int .i64 imm, .int .i64 csr]] w fun e w' => e = .returned (.tuple #[.int .i64 x, .int .i64 0]) ∧ Below w.heap.size w w')
    (c2 : ∀ w, Calls Try.prog 73 #[.int .i64 op] w fun e w' => e = .returned (.tuple #[.agg #[.string nm, .int .i64 s, .int .i64 f1, .int .i64 f2, .int .i64 f3, .int .u32 f4], .bool ok]) ∧ Below w.heap.size w w')
    (c3 : ∀ w, Calls Try.prog 74 #[.int .i64 s] w fun e w' => e = .returned (.agg #[.bool q1, .bool true, .bool false, .bool q4, .bool q5]) ∧ Below w.heap.size w w') (hs : s ≠ 10) (h1 : rs1 = 0) :
    Calls Try.prog 28 #[.agg #[.int .i64 op, .int .i64 rd, .int .i64 rs1, .int .i64 rs2, .int .i64 imm, .int .i64 csr]] w fun e w' => Gives w w' e [] := by
  subst h1
  have gs : (s != 10) = true := by rw [bne_iff_ne]; exact hs
  clear hs
  obtain ⟨i3, z3', hi3, hz3, hs3, hb3, hzs3⟩ := int_info
  have HI : Hid (Try.prog.info? 3 = some i3 ∧ i3.zero = some z3' ∧ i3.size = 1 ∧ i3.bytes = 8 ∧ z3'.cells.size = 1) := ⟨hi3, hz3, hs3, hb3, hzs3⟩
  clear hi3 hz3 hs3 hb3 hzs3
  go_enter Try.func28, Try.ntmps28
  go_wp2_with fail
  refine (c1 _).mono ?_
  rintro e w1 ⟨rfl, hb1⟩
  clear c1
  have z1 := hb1.size
  simp only [World.size_alloc] at z1
  have K1 : Hid (Row6 w1 w.heap.size (.int .i64 op) (.int .i64 rd) (.int .i64 0) (.int .i64 rs2) (.int .i64 imm) (.int .i64 csr)) := row6_keep hb1 (by simp only [World.size_alloc]; omega) (row6_new w (.int .i64 op) (.int .i64 rd) (.int .i64 0) (.int .i64 rs2) (.int .i64 imm) (.int .i64 csr) 49)
  have HB1 : Hid (Below w.heap.size w w1) := (below_past _ _).trans (hb1.mono (by simp only [World.size_alloc]; omega))
  have y1 : w.heap.size < w1.heap.size := by omega
  have k0 := K1.out.1
  clear hb1
  go_wp2_with fail
  clear k0
  refine (c2 _).mono ?_
  rintro e w2 ⟨rfl, hb2⟩
  clear c2
  have z2 := hb2.size
  have K2 : Hid (Row6 w2 w.heap.size (.int .i64 op) (.int .i64 rd) (.int .i64 0) (.int .i64 rs2) (.int .i64 imm) (.int .i64 csr)) := row6_keep hb2 y1 K1.out
  have HB2 : Hid (Below w.heap.size w w2) := bseq HB1.out hb2
  clear hb2 K1 HB1
  go_wp2_with fail
  refine (c3 _).mono ?_
  rintro e w3 ⟨rfl, hb3⟩
  clear c3
  have z3 := hb3.size
  simp only [World.size_alloc] at z3
  have ks := cell_keep hb3 (by simp only [World.size_alloc]; omega) (show (w2.alloc (.cells #[.string nm, .int .i64 s, .int .i64 f1, .int .i64 f2, .int .i64 f3, .int .u32 f4] 94)).cell? ⟨w2.heap.size, 1, .none⟩ = some (.int .i64 s) by simp)
  have kp := below_past w2 (.cells #[.string nm, .int .i64 s, .int .i64 f1, .int .i64 f2, .int .i64 f3, .int .u32 f4] 94)
  obtain ⟨m0, m1, m2, m3, m4, m5⟩ := row6_keep (bseq kp hb3) (by omega) K2.out
  have HB3 : Hid (Below w.heap.size w (w3.alloc (.cells #[.bool q1, .bool true, .bool false, .bool q4, .bool q5] 98))) := (bseq HB2.out (bseq kp hb3)).alloc (by omega) _
  have y3 : w.heap.size < w3.heap.size := by omega
  have x3 : w2.heap.size < w3.heap.size := by omega
  clear hb3 K2 HB2 kp
  go_wp2
  go_ret
  exact ⟨⟨_, _, rfl, World.ownsRow_nil _ _ _ _⟩, HB3.out⟩
set_option maxHeartbeats 2000000 in
set_option maxRecDepth 100000 in
theorem rreads_a1 (op rd rs1 rs2 imm csr x s : Int) (nm : ByteArray) (f1 f2 f3 f4 : Int) (ok q1 q4 q5 : Bool) (w : World)
    (c1 : ∀ w, Calls Try.prog 72 #[.agg #[.int .i64 op, .int .i64 rd, .int .i64 rs1, .int .i64 rs2, .int .i64 imm, .int .i64 csr]] w fun e w' => e = .returned (.tuple #[.int .i64 x, .int .i64 0]) ∧ Below w.heap.size w w')
    (c2 : ∀ w, Calls Try.prog 73 #[.int .i64 op] w fun e w' => e = .returned (.tuple #[.agg #[.string nm, .int .i64 s, .int .i64 f1, .int .i64 f2, .int .i64 f3, .int .u32 f4], .bool ok]) ∧ Below w.heap.size w w')
    (c3 : ∀ w, Calls Try.prog 74 #[.int .i64 s] w fun e w' => e = .returned (.agg #[.bool q1, .bool true, .bool false, .bool q4, .bool q5]) ∧ Below w.heap.size w w') (hs : s ≠ 10) (h1 : 0 < rs1) :
    Calls Try.prog 28 #[.agg #[.int .i64 op, .int .i64 rd, .int .i64 rs1, .int .i64 rs2, .int .i64 imm, .int .i64 csr]] w fun e w' => Gives w w' e [rs1] := by
  have g1 : decide (0 < rs1) = true := by rw [decide_eq_true_eq]; exact h1
  have g3 : (rs1 != 0) = true := by rw [bne_iff_ne]; omega
  have gs : (s != 10) = true := by rw [bne_iff_ne]; exact hs
  clear hs
  obtain ⟨i3, z3', hi3, hz3, hs3, hb3, hzs3⟩ := int_info
  have HI : Hid (Try.prog.info? 3 = some i3 ∧ i3.zero = some z3' ∧ i3.size = 1 ∧ i3.bytes = 8 ∧ z3'.cells.size = 1) := ⟨hi3, hz3, hs3, hb3, hzs3⟩
  clear hi3 hz3 hs3 hb3 hzs3
  go_enter Try.func28, Try.ntmps28
  go_wp2_with fail
  refine (c1 _).mono ?_
  rintro e w1 ⟨rfl, hb1⟩
  clear c1
  have z1 := hb1.size
  simp only [World.size_alloc] at z1
  have K1 : Hid (Row6 w1 w.heap.size (.int .i64 op) (.int .i64 rd) (.int .i64 rs1) (.int .i64 rs2) (.int .i64 imm) (.int .i64 csr)) := row6_keep hb1 (by simp only [World.size_alloc]; omega) (row6_new w (.int .i64 op) (.int .i64 rd) (.int .i64 rs1) (.int .i64 rs2) (.int .i64 imm) (.int .i64 csr) 49)
  have HB1 : Hid (Below w.heap.size w w1) := (below_past _ _).trans (hb1.mono (by simp only [World.size_alloc]; omega))
  have y1 : w.heap.size < w1.heap.size := by omega
  have k0 := K1.out.1
  clear hb1
  go_wp2_with fail
  clear k0
  refine (c2 _).mono ?_
  rintro e w2 ⟨rfl, hb2⟩
  clear c2
  have z2 := hb2.size
  have K2 : Hid (Row6 w2 w.heap.size (.int .i64 op) (.int .i64 rd) (.int .i64 rs1) (.int .i64 rs2) (.int .i64 imm) (.int .i64 csr)) := row6_keep hb2 y1 K1.out
  have HB2 : Hid (Below w.heap.size w w2) := bseq HB1.out hb2
  clear hb2 K1 HB1
  go_wp2_with fail
  refine (c3 _).mono ?_
  rintro e w3 ⟨rfl, hb3⟩
  clear c3
  have z3 := hb3.size
  simp only [World.size_alloc] at z3
  have ks := cell_keep hb3 (by simp only [World.size_alloc]; omega) (show (w2.alloc (.cells #[.string nm, .int .i64 s, .int .i64 f1, .int .i64 f2, .int .i64 f3, .int .u32 f4] 94)).cell? ⟨w2.heap.size, 1, .none⟩ = some (.int .i64 s) by simp)
  have kp := below_past w2 (.cells #[.string nm, .int .i64 s, .int .i64 f1, .int .i64 f2, .int .i64 f3, .int .u32 f4] 94)
  obtain ⟨m0, m1, m2, m3, m4, m5⟩ := row6_keep (bseq kp hb3) (by omega) K2.out
  have HB3 : Hid (Below w.heap.size w (w3.alloc (.cells #[.bool q1, .bool true, .bool false, .bool q4, .bool q5] 98))) := (bseq HB2.out (bseq kp hb3)).alloc (by omega) _
  have y3 : w.heap.size < w3.heap.size := by omega
  have x3 : w2.heap.size < w3.heap.size := by omega
  clear hb3 K2 HB2 kp
  go_wp2_with (first
    | (at_builtin; refine wpList_append_keep _ rfl _ _ 29 rfl w.heap.size 3 i3 z3' 8 Try.underlying29 HI.out.1 HI.out.2.1 HI.out.2.2.1 HI.out.2.2.2.1 HI.out.2.2.2.2 _ 0 [] rfl (World.ownsRow_nil _ _ _ _) ⟨w3.heap.size + 1, 0, .none⟩ 1 (.int .i64 rs1) rfl ?c1 ?c2 ?c3 ?c4 ?c5 ?c6 ?_)
    | go_in)
  case c1 => first | exact World.cell?_alloc_at _ _ _ _ (by simp only [World.size_alloc]) | simp
  case c2 => rfl
  case c3 => rfl
  case c4 => decide
  case c5 => decide
  case c6 => simp only [World.size_alloc]; omega
  · intro v' w5 own' grow keep b fb fc
    clear fb fc keep
    obtain ⟨p, c, rfl⟩ := one_slice own'
    have HW : Hid (w5.ownsRow w.heap.size 3 1 (.slice p (0 + 1) c) (0 + 1) ([] ++ [.int .i64 rs1]) ∧ Below w.heap.size w w5) := ⟨own', below_append HB3.out _ grow (by simp only [World.size_alloc]; omega) (fun k hk => by cases hk)⟩
    clear own' grow
    go_wp2
    go_ret
    exact ⟨⟨p, c, rfl, HW.out.1⟩, HW.out.2⟩
set_option maxHeartbeats 2000000 in
set_option maxRecDepth 100000 in
theorem rreads_b1 (op rd rs1 rs2 imm csr x s : Int) (nm : ByteArray) (f1 f2 f3 f4 : Int) (ok q1 q4 q5 : Bool) (w : World)
    (c1 : ∀ w, Calls Try.prog 72 #[.agg #[.int .i64 op, .int .i64 rd, .int .i64 rs1, .int .i64 rs2, .int .i64 imm, .int .i64 csr]] w fun e w' => e = .returned (.tuple #[.int .i64 x, .int .i64 0]) ∧ Below w.heap.size w w')
    (c2 : ∀ w, Calls Try.prog 73 #[.int .i64 op] w fun e w' => e = .returned (.tuple #[.agg #[.string nm, .int .i64 s, .int .i64 f1, .int .i64 f2, .int .i64 f3, .int .u32 f4], .bool ok]) ∧ Below w.heap.size w w')
    (c3 : ∀ w, Calls Try.prog 74 #[.int .i64 s] w fun e w' => e = .returned (.agg #[.bool q1, .bool true, .bool true, .bool q4, .bool q5]) ∧ Below w.heap.size w w') (hs : s ≠ 10) (p1 : 0 ≤ rs1) (p2 : 0 ≤ rs2) (h1 : rs1 < rs2) (h2 : rs1 = 0) :
    Calls Try.prog 28 #[.agg #[.int .i64 op, .int .i64 rd, .int .i64 rs1, .int .i64 rs2, .int .i64 imm, .int .i64 csr]] w fun e w' => Gives w w' e [rs2] := by
  have g1 : decide (rs2 < rs1) = false := by rw [decide_eq_false_iff_not]; omega
  have g2 : (rs1 != 0) = false := by rw [bne_eq_false_iff_eq]; exact h2
  have g4 : (rs1 != rs2) = true := by rw [bne_iff_ne]; omega
  have g3 : (rs2 != 0) = true := by rw [bne_iff_ne]; omega
  clear h2
  have gs : (s != 10) = true := by rw [bne_iff_ne]; exact hs
  clear hs
  obtain ⟨i3, z3', hi3, hz3, hs3, hb3, hzs3⟩ := int_info
  have HI : Hid (Try.prog.info? 3 = some i3 ∧ i3.zero = some z3' ∧ i3.size = 1 ∧ i3.bytes = 8 ∧ z3'.cells.size = 1) := ⟨hi3, hz3, hs3, hb3, hzs3⟩
  clear hi3 hz3 hs3 hb3 hzs3
  go_enter Try.func28, Try.ntmps28
  go_wp2_with fail
  refine (c1 _).mono ?_
  rintro e w1 ⟨rfl, hb1⟩
  clear c1
  have z1 := hb1.size
  simp only [World.size_alloc] at z1
  have K1 : Hid (Row6 w1 w.heap.size (.int .i64 op) (.int .i64 rd) (.int .i64 rs1) (.int .i64 rs2) (.int .i64 imm) (.int .i64 csr)) := row6_keep hb1 (by simp only [World.size_alloc]; omega) (row6_new w (.int .i64 op) (.int .i64 rd) (.int .i64 rs1) (.int .i64 rs2) (.int .i64 imm) (.int .i64 csr) 49)
  have HB1 : Hid (Below w.heap.size w w1) := (below_past _ _).trans (hb1.mono (by simp only [World.size_alloc]; omega))
  have y1 : w.heap.size < w1.heap.size := by omega
  have k0 := K1.out.1
  clear hb1
  go_wp2_with fail
  clear k0
  refine (c2 _).mono ?_
  rintro e w2 ⟨rfl, hb2⟩
  clear c2
  have z2 := hb2.size
  have K2 : Hid (Row6 w2 w.heap.size (.int .i64 op) (.int .i64 rd) (.int .i64 rs1) (.int .i64 rs2) (.int .i64 imm) (.int .i64 csr)) := row6_keep hb2 y1 K1.out
  have HB2 : Hid (Below w.heap.size w w2) := bseq HB1.out hb2
  clear hb2 K1 HB1
  go_wp2_with fail
  refine (c3 _).mono ?_
  rintro e w3 ⟨rfl, hb3⟩
  clear c3
  have z3 := hb3.size
  simp only [World.size_alloc] at z3
  have ks := cell_keep hb3 (by simp only [World.size_alloc]; omega) (show (w2.alloc (.cells #[.string nm, .int .i64 s, .int .i64 f1, .int .i64 f2, .int .i64 f3, .int .u32 f4] 94)).cell? ⟨w2.heap.size, 1, .none⟩ = some (.int .i64 s) by simp)
  have kp := below_past w2 (.cells #[.string nm, .int .i64 s, .int .i64 f1, .int .i64 f2, .int .i64 f3, .int .u32 f4] 94)
  obtain ⟨m0, m1, m2, m3, m4, m5⟩ := row6_keep (bseq kp hb3) (by omega) K2.out
  have HB3 : Hid (Below w.heap.size w (w3.alloc (.cells #[.bool q1, .bool true, .bool true, .bool q4, .bool q5] 98))) := (bseq HB2.out (bseq kp hb3)).alloc (by omega) _
  have y3 : w.heap.size < w3.heap.size := by omega
  have x3 : w2.heap.size < w3.heap.size := by omega
  clear hb3 K2 HB2 kp
  go_wp2_with (first
    | (at_builtin; refine wpList_append_keep _ rfl _ _ 29 rfl w.heap.size 3 i3 z3' 8 Try.underlying29 HI.out.1 HI.out.2.1 HI.out.2.2.1 HI.out.2.2.2.1 HI.out.2.2.2.2 _ 0 [] rfl (World.ownsRow_nil _ _ _ _) ⟨w3.heap.size + 1, 0, .none⟩ 1 (.int .i64 rs2) rfl ?c1 ?c2 ?c3 ?c4 ?c5 ?c6 ?_)
    | go_in)
  case c1 => first | exact World.cell?_alloc_at _ _ _ _ (by simp only [World.size_alloc]) | simp
  case c2 => rfl
  case c3 => rfl
  case c4 => decide
  case c5 => decide
  case c6 => simp only [World.size_alloc]; omega
  · intro v' w5 own' grow keep b fb fc
    clear fb fc keep
    obtain ⟨p, c, rfl⟩ := one_slice own'
    have HW : Hid (w5.ownsRow w.heap.size 3 1 (.slice p (0 + 1) c) (0 + 1) ([] ++ [.int .i64 rs2]) ∧ Below w.heap.size w w5) := ⟨own', below_append HB3.out _ grow (by simp only [World.size_alloc]; omega) (fun k hk => by cases hk)⟩
    clear own' grow
    go_wp2
    go_ret
    exact ⟨⟨p, c, rfl, HW.out.1⟩, HW.out.2⟩
set_option maxHeartbeats 2000000 in
set_option maxRecDepth 100000 in
theorem rreads_b2 (op rd rs1 rs2 imm csr x s : Int) (nm : ByteArray) (f1 f2 f3 f4 : Int) (ok q1 q4 q5 : Bool) (w : World)
    (c1 : ∀ w, Calls Try.prog 72 #[.agg #[.int .i64 op, .int .i64 rd, .int .i64 rs1, .int .i64 rs2, .int .i64 imm, .int .i64 csr]] w fun e w' => e = .returned (.tuple #[.int .i64 x, .int .i64 0]) ∧ Below w.heap.size w w')
    (c2 : ∀ w, Calls Try.prog 73 #[.int .i64 op] w fun e w' => e = .returned (.tuple #[.agg #[.string nm, .int .i64 s, .int .i64 f1, .int .i64 f2, .int .i64 f3, .int .u32 f4], .bool ok]) ∧ Below w.heap.size w w')
    (c3 : ∀ w, Calls Try.prog 74 #[.int .i64 s] w fun e w' => e = .returned (.agg #[.bool q1, .bool true, .bool true, .bool q4, .bool q5]) ∧ Below w.heap.size w w') (hs : s ≠ 10) (p1 : 0 ≤ rs1) (p2 : 0 ≤ rs2) (h1 : rs1 < rs2) (h2 : rs1 ≠ 0) :
    Calls Try.prog 28 #[.agg #[.int .i64 op, .int .i64 rd, .int .i64 rs1, .int .i64 rs2, .int .i64 imm, .int .i64 csr]] w fun e w' => Gives w w' e [rs1, rs2] := by
  have g1 : decide (rs2 < rs1) = false := by rw [decide_eq_false_iff_not]; omega
  have g2 : (rs1 != 0) = true := by rw [bne_iff_ne]; exact h2
  have g4 : (rs1 != rs2) = true := by rw [bne_iff_ne]; omega
  have g3 : (rs2 != 0) = true := by rw [bne_iff_ne]; omega
  have gs : (s != 10) = true := by rw [bne_iff_ne]; exact hs
  clear hs
  obtain ⟨i3, z3', hi3, hz3, hs3, hb3, hzs3⟩ := int_info
  have HI : Hid (Try.prog.info? 3 = some i3 ∧ i3.zero = some z3' ∧ i3.size = 1 ∧ i3.bytes = 8 ∧ z3'.cells.size = 1) := ⟨hi3, hz3, hs3, hb3, hzs3⟩
  clear hi3 hz3 hs3 hb3 hzs3
  go_enter Try.func28, Try.ntmps28
  go_wp2_with fail
  refine (c1 _).mono ?_
  rintro e w1 ⟨rfl, hb1⟩
  clear c1
  have z1 := hb1.size
  simp only [World.size_alloc] at z1
  have K1 : Hid (Row6 w1 w.heap.size (.int .i64 op) (.int .i64 rd) (.int .i64 rs1) (.int .i64 rs2) (.int .i64 imm) (.int .i64 csr)) := row6_keep hb1 (by simp only [World.size_alloc]; omega) (row6_new w (.int .i64 op) (.int .i64 rd) (.int .i64 rs1) (.int .i64 rs2) (.int .i64 imm) (.int .i64 csr) 49)
  have HB1 : Hid (Below w.heap.size w w1) := (below_past _ _).trans (hb1.mono (by simp only [World.size_alloc]; omega))
  have y1 : w.heap.size < w1.heap.size := by omega
  have k0 := K1.out.1
  clear hb1
  go_wp2_with fail
  clear k0
  refine (c2 _).mono ?_
  rintro e w2 ⟨rfl, hb2⟩
  clear c2
  have z2 := hb2.size
  have K2 : Hid (Row6 w2 w.heap.size (.int .i64 op) (.int .i64 rd) (.int .i64 rs1) (.int .i64 rs2) (.int .i64 imm) (.int .i64 csr)) := row6_keep hb2 y1 K1.out
  have HB2 : Hid (Below w.heap.size w w2) := bseq HB1.out hb2
  clear hb2 K1 HB1
  go_wp2_with fail
  refine (c3 _).mono ?_
  rintro e w3 ⟨rfl, hb3⟩
  clear c3
  have z3 := hb3.size
  simp only [World.size_alloc] at z3
  have ks := cell_keep hb3 (by simp only [World.size_alloc]; omega) (show (w2.alloc (.cells #[.string nm, .int .i64 s, .int .i64 f1, .int .i64 f2, .int .i64 f3, .int .u32 f4] 94)).cell? ⟨w2.heap.size, 1, .none⟩ = some (.int .i64 s) by simp)
  have kp := below_past w2 (.cells #[.string nm, .int .i64 s, .int .i64 f1, .int .i64 f2, .int .i64 f3, .int .u32 f4] 94)
  obtain ⟨m0, m1, m2, m3, m4, m5⟩ := row6_keep (bseq kp hb3) (by omega) K2.out
  have HB3 : Hid (Below w.heap.size w (w3.alloc (.cells #[.bool q1, .bool true, .bool true, .bool q4, .bool q5] 98))) := (bseq HB2.out (bseq kp hb3)).alloc (by omega) _
  have y3 : w.heap.size < w3.heap.size := by omega
  have x3 : w2.heap.size < w3.heap.size := by omega
  clear hb3 K2 HB2 kp
  go_wp2_with (first
    | (at_builtin; refine wpList_append_keep _ rfl _ _ 29 rfl w.heap.size 3 i3 z3' 8 Try.underlying29 HI.out.1 HI.out.2.1 HI.out.2.2.1 HI.out.2.2.2.1 HI.out.2.2.2.2 _ 0 [] rfl (World.ownsRow_nil _ _ _ _) ⟨w3.heap.size + 1, 0, .none⟩ 1 (.int .i64 rs1) rfl ?c1 ?c2 ?c3 ?c4 ?c5 ?c6 ?_)
    | go_in)
  case c1 => first | exact World.cell?_alloc_at _ _ _ _ (by simp only [World.size_alloc]) | simp
  case c2 => rfl
  case c3 => rfl
  case c4 => decide
  case c5 => decide
  case c6 => simp only [World.size_alloc]; omega
  · intro v' w5 own' grow keep b fb fc
    clear fb fc keep
    obtain ⟨p, c, rfl⟩ := one_slice own'
    obtain ⟨g, rfl, hg0, hg1⟩ := row_shape own' (by decide)
    have HW : Hid (w5.ownsRow w.heap.size 3 1 (.slice (some ⟨g, 0, .none⟩) (0 + 1) c) (0 + 1) ([] ++ [.int .i64 rs1]) ∧ Below w.heap.size w w5) := ⟨own', below_append HB3.out _ grow (by simp only [World.size_alloc]; omega) (fun k hk => by cases hk)⟩
    have z5 : w.heap.size ≤ w5.heap.size := HW.out.2.size
    clear own' grow m0 m1 m2 m3 m4 m5 ks
    go_wp2_with (first
      | (at_builtin; refine wpList_append_keep _ rfl _ _ 29 rfl w.heap.size 3 i3 z3' 8 Try.underlying29 HI.out.1 HI.out.2.1 HI.out.2.2.1 HI.out.2.2.2.1 HI.out.2.2.2.2 _ (0 + 1) ([] ++ [.int .i64 rs1]) rfl (HW.out.1.alloc _) ⟨w5.heap.size, 0, .none⟩ 1 (.int .i64 rs2) rfl ?c1 ?c2 ?c3 ?c4 ?c5 ?c6 ?_)
      | go_in)
    case c1 => first | exact World.cell?_alloc_at _ _ _ _ (by simp only [World.size_alloc]) | simp
    case c2 => rfl
    case c3 => rfl
    case c4 => decide
    case c5 => decide
    case c6 => simp only [World.size_alloc]; omega
    · intro v' w6 own' grow keep b fb fc
      clear fb fc keep
      obtain ⟨p, c', rfl⟩ := one_slice own'
      have HV : Hid (w6.ownsRow w.heap.size 3 1 (.slice p (0 + 1 + 1) c') (0 + 1 + 1) ([] ++ [.int .i64 rs1] ++ [.int .i64 rs2]) ∧ Below w.heap.size w w6) := ⟨own', below_append HW.out.2 _ grow z5 (fun k hk => by simp only [Value.ownBlock, Option.some.injEq] at hk; omega)⟩
      clear own' grow
      go_wp2
      go_ret
      exact ⟨⟨p, c', rfl, HV.out.1⟩, HV.out.2⟩
set_option maxHeartbeats 2000000 in
set_option maxRecDepth 100000 in
theorem rreads_b3 (op rd rs1 rs2 imm csr x s : Int) (nm : ByteArray) (f1 f2 f3 f4 : Int) (ok q1 q4 q5 : Bool) (w : World)
    (c1 : ∀ w, Calls Try.prog 72 #[.agg #[.int .i64 op, .int .i64 rd, .int .i64 rs1, .int .i64 rs2, .int .i64 imm, .int .i64 csr]] w fun e w' => e = .returned (.tuple #[.int .i64 x, .int .i64 0]) ∧ Below w.heap.size w w')
    (c2 : ∀ w, Calls Try.prog 73 #[.int .i64 op] w fun e w' => e = .returned (.tuple #[.agg #[.string nm, .int .i64 s, .int .i64 f1, .int .i64 f2, .int .i64 f3, .int .u32 f4], .bool ok]) ∧ Below w.heap.size w w')
    (c3 : ∀ w, Calls Try.prog 74 #[.int .i64 s] w fun e w' => e = .returned (.agg #[.bool q1, .bool true, .bool true, .bool q4, .bool q5]) ∧ Below w.heap.size w w') (hs : s ≠ 10) (p1 : 0 ≤ rs1) (p2 : 0 ≤ rs2) (h1 : rs1 = rs2) (h2 : rs1 = 0) :
    Calls Try.prog 28 #[.agg #[.int .i64 op, .int .i64 rd, .int .i64 rs1, .int .i64 rs2, .int .i64 imm, .int .i64 csr]] w fun e w' => Gives w w' e [] := by
  subst h1
  subst h2
  have gs : (s != 10) = true := by rw [bne_iff_ne]; exact hs
  clear hs
  obtain ⟨i3, z3', hi3, hz3, hs3, hb3, hzs3⟩ := int_info
  have HI : Hid (Try.prog.info? 3 = some i3 ∧ i3.zero = some z3' ∧ i3.size = 1 ∧ i3.bytes = 8 ∧ z3'.cells.size = 1) := ⟨hi3, hz3, hs3, hb3, hzs3⟩
  clear hi3 hz3 hs3 hb3 hzs3
  go_enter Try.func28, Try.ntmps28
  go_wp2_with fail
  refine (c1 _).mono ?_
  rintro e w1 ⟨rfl, hb1⟩
  clear c1
  have z1 := hb1.size
  simp only [World.size_alloc] at z1
  have K1 : Hid (Row6 w1 w.heap.size (.int .i64 op) (.int .i64 rd) (.int .i64 0) (.int .i64 0) (.int .i64 imm) (.int .i64 csr)) := row6_keep hb1 (by simp only [World.size_alloc]; omega) (row6_new w (.int .i64 op) (.int .i64 rd) (.int .i64 0) (.int .i64 0) (.int .i64 imm) (.int .i64 csr) 49)
  have HB1 : Hid (Below w.heap.size w w1) := (below_past _ _).trans (hb1.mono (by simp only [World.size_alloc]; omega))
  have y1 : w.heap.size < w1.heap.size := by omega
  have k0 := K1.out.1
  clear hb1
  go_wp2_with fail
  clear k0
  refine (c2 _).mono ?_
  rintro e w2 ⟨rfl, hb2⟩
  clear c2
  have z2 := hb2.size
  have K2 : Hid (Row6 w2 w.heap.size (.int .i64 op) (.int .i64 rd) (.int .i64 0) (.int .i64 0) (.int .i64 imm) (.int .i64 csr)) := row6_keep hb2 y1 K1.out
  have HB2 : Hid (Below w.heap.size w w2) := bseq HB1.out hb2
  clear hb2 K1 HB1
  go_wp2_with fail
  refine (c3 _).mono ?_
  rintro e w3 ⟨rfl, hb3⟩
  clear c3
  have z3 := hb3.size
  simp only [World.size_alloc] at z3
  have ks := cell_keep hb3 (by simp only [World.size_alloc]; omega) (show (w2.alloc (.cells #[.string nm, .int .i64 s, .int .i64 f1, .int .i64 f2, .int .i64 f3, .int .u32 f4] 94)).cell? ⟨w2.heap.size, 1, .none⟩ = some (.int .i64 s) by simp)
  have kp := below_past w2 (.cells #[.string nm, .int .i64 s, .int .i64 f1, .int .i64 f2, .int .i64 f3, .int .u32 f4] 94)
  obtain ⟨m0, m1, m2, m3, m4, m5⟩ := row6_keep (bseq kp hb3) (by omega) K2.out
  have HB3 : Hid (Below w.heap.size w (w3.alloc (.cells #[.bool q1, .bool true, .bool true, .bool q4, .bool q5] 98))) := (bseq HB2.out (bseq kp hb3)).alloc (by omega) _
  have y3 : w.heap.size < w3.heap.size := by omega
  have x3 : w2.heap.size < w3.heap.size := by omega
  clear hb3 K2 HB2 kp
  go_wp2
  go_ret
  exact ⟨⟨_, _, rfl, World.ownsRow_nil _ _ _ _⟩, HB3.out⟩
set_option maxHeartbeats 2000000 in
set_option maxRecDepth 100000 in
theorem rreads_b4 (op rd rs1 rs2 imm csr x s : Int) (nm : ByteArray) (f1 f2 f3 f4 : Int) (ok q1 q4 q5 : Bool) (w : World)
    (c1 : ∀ w, Calls Try.prog 72 #[.agg #[.int .i64 op, .int .i64 rd, .int .i64 rs1, .int .i64 rs2, .int .i64 imm, .int .i64 csr]] w fun e w' => e = .returned (.tuple #[.int .i64 x, .int .i64 0]) ∧ Below w.heap.size w w')
    (c2 : ∀ w, Calls Try.prog 73 #[.int .i64 op] w fun e w' => e = .returned (.tuple #[.agg #[.string nm, .int .i64 s, .int .i64 f1, .int .i64 f2, .int .i64 f3, .int .u32 f4], .bool ok]) ∧ Below w.heap.size w w')
    (c3 : ∀ w, Calls Try.prog 74 #[.int .i64 s] w fun e w' => e = .returned (.agg #[.bool q1, .bool true, .bool true, .bool q4, .bool q5]) ∧ Below w.heap.size w w') (hs : s ≠ 10) (p1 : 0 ≤ rs1) (p2 : 0 ≤ rs2) (h1 : rs1 = rs2) (h2 : rs1 ≠ 0) :
    Calls Try.prog 28 #[.agg #[.int .i64 op, .int .i64 rd, .int .i64 rs1, .int .i64 rs2, .int .i64 imm, .int .i64 csr]] w fun e w' => Gives w w' e [rs1] := by
  subst h1
  have g3 : (rs1 != 0) = true := by rw [bne_iff_ne]; exact h2
  have g2 : (rs1 != rs1) = false := by rw [bne_eq_false_iff_eq]
  have g1 : decide (rs1 < rs1) = false := by rw [decide_eq_false_iff_not]; omega
  have gs : (s != 10) = true := by rw [bne_iff_ne]; exact hs
  clear hs
  obtain ⟨i3, z3', hi3, hz3, hs3, hb3, hzs3⟩ := int_info
  have HI : Hid (Try.prog.info? 3 = some i3 ∧ i3.zero = some z3' ∧ i3.size = 1 ∧ i3.bytes = 8 ∧ z3'.cells.size = 1) := ⟨hi3, hz3, hs3, hb3, hzs3⟩
  clear hi3 hz3 hs3 hb3 hzs3
  go_enter Try.func28, Try.ntmps28
  go_wp2_with fail
  refine (c1 _).mono ?_
  rintro e w1 ⟨rfl, hb1⟩
  clear c1
  have z1 := hb1.size
  simp only [World.size_alloc] at z1
  have K1 : Hid (Row6 w1 w.heap.size (.int .i64 op) (.int .i64 rd) (.int .i64 rs1) (.int .i64 rs1) (.int .i64 imm) (.int .i64 csr)) := row6_keep hb1 (by simp only [World.size_alloc]; omega) (row6_new w (.int .i64 op) (.int .i64 rd) (.int .i64 rs1) (.int .i64 rs1) (.int .i64 imm) (.int .i64 csr) 49)
  have HB1 : Hid (Below w.heap.size w w1) := (below_past _ _).trans (hb1.mono (by simp only [World.size_alloc]; omega))
  have y1 : w.heap.size < w1.heap.size := by omega
  have k0 := K1.out.1
  clear hb1
  go_wp2_with fail
  clear k0
  refine (c2 _).mono ?_
  rintro e w2 ⟨rfl, hb2⟩
  clear c2
  have z2 := hb2.size
  have K2 : Hid (Row6 w2 w.heap.size (.int .i64 op) (.int .i64 rd) (.int .i64 rs1) (.int .i64 rs1) (.int .i64 imm) (.int .i64 csr)) := row6_keep hb2 y1 K1.out
  have HB2 : Hid (Below w.heap.size w w2) := bseq HB1.out hb2
  clear hb2 K1 HB1
  go_wp2_with fail
  refine (c3 _).mono ?_
  rintro e w3 ⟨rfl, hb3⟩
  clear c3
  have z3 := hb3.size
  simp only [World.size_alloc] at z3
  have ks := cell_keep hb3 (by simp only [World.size_alloc]; omega) (show (w2.alloc (.cells #[.string nm, .int .i64 s, .int .i64 f1, .int .i64 f2, .int .i64 f3, .int .u32 f4] 94)).cell? ⟨w2.heap.size, 1, .none⟩ = some (.int .i64 s) by simp)
  have kp := below_past w2 (.cells #[.string nm, .int .i64 s, .int .i64 f1, .int .i64 f2, .int .i64 f3, .int .u32 f4] 94)
  obtain ⟨m0, m1, m2, m3, m4, m5⟩ := row6_keep (bseq kp hb3) (by omega) K2.out
  have HB3 : Hid (Below w.heap.size w (w3.alloc (.cells #[.bool q1, .bool true, .bool true, .bool q4, .bool q5] 98))) := (bseq HB2.out (bseq kp hb3)).alloc (by omega) _
  have y3 : w.heap.size < w3.heap.size := by omega
  have x3 : w2.heap.size < w3.heap.size := by omega
  clear hb3 K2 HB2 kp
  go_wp2_with (first
    | (at_builtin; refine wpList_append_keep _ rfl _ _ 29 rfl w.heap.size 3 i3 z3' 8 Try.underlying29 HI.out.1 HI.out.2.1 HI.out.2.2.1 HI.out.2.2.2.1 HI.out.2.2.2.2 _ 0 [] rfl (World.ownsRow_nil _ _ _ _) ⟨w3.heap.size + 1, 0, .none⟩ 1 (.int .i64 rs1) rfl ?c1 ?c2 ?c3 ?c4 ?c5 ?c6 ?_)
    | go_in)
  case c1 => first | exact World.cell?_alloc_at _ _ _ _ (by simp only [World.size_alloc]) | simp
  case c2 => rfl
  case c3 => rfl
  case c4 => decide
  case c5 => decide
  case c6 => simp only [World.size_alloc]; omega
  · intro v' w5 own' grow keep b fb fc
    clear fb fc keep
    obtain ⟨p, c, rfl⟩ := one_slice own'
    have HW : Hid (w5.ownsRow w.heap.size 3 1 (.slice p (0 + 1) c) (0 + 1) ([] ++ [.int .i64 rs1]) ∧ Below w.heap.size w w5) := ⟨own', below_append HB3.out _ grow (by simp only [World.size_alloc]; omega) (fun k hk => by cases hk)⟩
    clear own' grow
    go_wp2
    go_ret
    exact ⟨⟨p, c, rfl, HW.out.1⟩, HW.out.2⟩
set_option maxHeartbeats 2000000 in
set_option maxRecDepth 100000 in
theorem rreads_b5 (op rd rs1 rs2 imm csr x s : Int) (nm : ByteArray) (f1 f2 f3 f4 : Int) (ok q1 q4 q5 : Bool) (w : World)
    (c1 : ∀ w, Calls Try.prog 72 #[.agg #[.int .i64 op, .int .i64 rd, .int .i64 rs1, .int .i64 rs2, .int .i64 imm, .int .i64 csr]] w fun e w' => e = .returned (.tuple #[.int .i64 x, .int .i64 0]) ∧ Below w.heap.size w w')
    (c2 : ∀ w, Calls Try.prog 73 #[.int .i64 op] w fun e w' => e = .returned (.tuple #[.agg #[.string nm, .int .i64 s, .int .i64 f1, .int .i64 f2, .int .i64 f3, .int .u32 f4], .bool ok]) ∧ Below w.heap.size w w')
    (c3 : ∀ w, Calls Try.prog 74 #[.int .i64 s] w fun e w' => e = .returned (.agg #[.bool q1, .bool true, .bool true, .bool q4, .bool q5]) ∧ Below w.heap.size w w') (hs : s ≠ 10) (p1 : 0 ≤ rs1) (p2 : 0 ≤ rs2) (h1 : rs2 < rs1) (h2 : rs2 = 0) :
    Calls Try.prog 28 #[.agg #[.int .i64 op, .int .i64 rd, .int .i64 rs1, .int .i64 rs2, .int .i64 imm, .int .i64 csr]] w fun e w' => Gives w w' e [rs1] := by
  have g1 : decide (rs2 < rs1) = true := by rw [decide_eq_true_eq]; omega
  have g2 : (rs2 != 0) = false := by rw [bne_eq_false_iff_eq]; exact h2
  have g4 : (rs2 != rs1) = true := by rw [bne_iff_ne]; omega
  have g3 : (rs1 != 0) = true := by rw [bne_iff_ne]; omega
  clear h2
  have gs : (s != 10) = true := by rw [bne_iff_ne]; exact hs
  clear hs
  obtain ⟨i3, z3', hi3, hz3, hs3, hb3, hzs3⟩ := int_info
  have HI : Hid (Try.prog.info? 3 = some i3 ∧ i3.zero = some z3' ∧ i3.size = 1 ∧ i3.bytes = 8 ∧ z3'.cells.size = 1) := ⟨hi3, hz3, hs3, hb3, hzs3⟩
  clear hi3 hz3 hs3 hb3 hzs3
  go_enter Try.func28, Try.ntmps28
  go_wp2_with fail
  refine (c1 _).mono ?_
  rintro e w1 ⟨rfl, hb1⟩
  clear c1
  have z1 := hb1.size
  simp only [World.size_alloc] at z1
  have K1 : Hid (Row6 w1 w.heap.size (.int .i64 op) (.int .i64 rd) (.int .i64 rs1) (.int .i64 rs2) (.int .i64 imm) (.int .i64 csr)) := row6_keep hb1 (by simp only [World.size_alloc]; omega) (row6_new w (.int .i64 op) (.int .i64 rd) (.int .i64 rs1) (.int .i64 rs2) (.int .i64 imm) (.int .i64 csr) 49)
  have HB1 : Hid (Below w.heap.size w w1) := (below_past _ _).trans (hb1.mono (by simp only [World.size_alloc]; omega))
  have y1 : w.heap.size < w1.heap.size := by omega
  have k0 := K1.out.1
  clear hb1
  go_wp2_with fail
  clear k0
  refine (c2 _).mono ?_
  rintro e w2 ⟨rfl, hb2⟩
  clear c2
  have z2 := hb2.size
  have K2 : Hid (Row6 w2 w.heap.size (.int .i64 op) (.int .i64 rd) (.int .i64 rs1) (.int .i64 rs2) (.int .i64 imm) (.int .i64 csr)) := row6_keep hb2 y1 K1.out
  have HB2 : Hid (Below w.heap.size w w2) := bseq HB1.out hb2
  clear hb2 K1 HB1
  go_wp2_with fail
  refine (c3 _).mono ?_
  rintro e w3 ⟨rfl, hb3⟩
  clear c3
  have z3 := hb3.size
  simp only [World.size_alloc] at z3
  have ks := cell_keep hb3 (by simp only [World.size_alloc]; omega) (show (w2.alloc (.cells #[.string nm, .int .i64 s, .int .i64 f1, .int .i64 f2, .int .i64 f3, .int .u32 f4] 94)).cell? ⟨w2.heap.size, 1, .none⟩ = some (.int .i64 s) by simp)
  have kp := below_past w2 (.cells #[.string nm, .int .i64 s, .int .i64 f1, .int .i64 f2, .int .i64 f3, .int .u32 f4] 94)
  obtain ⟨m0, m1, m2, m3, m4, m5⟩ := row6_keep (bseq kp hb3) (by omega) K2.out
  have HB3 : Hid (Below w.heap.size w (w3.alloc (.cells #[.bool q1, .bool true, .bool true, .bool q4, .bool q5] 98))) := (bseq HB2.out (bseq kp hb3)).alloc (by omega) _
  have y3 : w.heap.size < w3.heap.size := by omega
  have x3 : w2.heap.size < w3.heap.size := by omega
  clear hb3 K2 HB2 kp
  go_wp2_with (first
    | (at_builtin; refine wpList_append_keep _ rfl _ _ 29 rfl w.heap.size 3 i3 z3' 8 Try.underlying29 HI.out.1 HI.out.2.1 HI.out.2.2.1 HI.out.2.2.2.1 HI.out.2.2.2.2 _ 0 [] rfl (World.ownsRow_nil _ _ _ _) ⟨w3.heap.size + 1, 0, .none⟩ 1 (.int .i64 rs1) rfl ?c1 ?c2 ?c3 ?c4 ?c5 ?c6 ?_)
    | go_in)
  case c1 => first | exact World.cell?_alloc_at _ _ _ _ (by simp only [World.size_alloc]) | simp
  case c2 => rfl
  case c3 => rfl
  case c4 => decide
  case c5 => decide
  case c6 => simp only [World.size_alloc]; omega
  · intro v' w5 own' grow keep b fb fc
    clear fb fc keep
    obtain ⟨p, c, rfl⟩ := one_slice own'
    have HW : Hid (w5.ownsRow w.heap.size 3 1 (.slice p (0 + 1) c) (0 + 1) ([] ++ [.int .i64 rs1]) ∧ Below w.heap.size w w5) := ⟨own', below_append HB3.out _ grow (by simp only [World.size_alloc]; omega) (fun k hk => by cases hk)⟩
    clear own' grow
    go_wp2
    go_ret
    exact ⟨⟨p, c, rfl, HW.out.1⟩, HW.out.2⟩
set_option maxHeartbeats 2000000 in
set_option maxRecDepth 100000 in
theorem rreads_b6 (op rd rs1 rs2 imm csr x s : Int) (nm : ByteArray) (f1 f2 f3 f4 : Int) (ok q1 q4 q5 : Bool) (w : World)
    (c1 : ∀ w, Calls Try.prog 72 #[.agg #[.int .i64 op, .int .i64 rd, .int .i64 rs1, .int .i64 rs2, .int .i64 imm, .int .i64 csr]] w fun e w' => e = .returned (.tuple #[.int .i64 x, .int .i64 0]) ∧ Below w.heap.size w w')
    (c2 : ∀ w, Calls Try.prog 73 #[.int .i64 op] w fun e w' => e = .returned (.tuple #[.agg #[.string nm, .int .i64 s, .int .i64 f1, .int .i64 f2, .int .i64 f3, .int .u32 f4], .bool ok]) ∧ Below w.heap.size w w')
    (c3 : ∀ w, Calls Try.prog 74 #[.int .i64 s] w fun e w' => e = .returned (.agg #[.bool q1, .bool true, .bool true, .bool q4, .bool q5]) ∧ Below w.heap.size w w') (hs : s ≠ 10) (p1 : 0 ≤ rs1) (p2 : 0 ≤ rs2) (h1 : rs2 < rs1) (h2 : rs2 ≠ 0) :
    Calls Try.prog 28 #[.agg #[.int .i64 op, .int .i64 rd, .int .i64 rs1, .int .i64 rs2, .int .i64 imm, .int .i64 csr]] w fun e w' => Gives w w' e [rs2, rs1] := by
  have g1 : decide (rs2 < rs1) = true := by rw [decide_eq_true_eq]; omega
  have g2 : (rs2 != 0) = true := by rw [bne_iff_ne]; exact h2
  have g4 : (rs2 != rs1) = true := by rw [bne_iff_ne]; omega
  have g3 : (rs1 != 0) = true := by rw [bne_iff_ne]; omega
  have gs : (s != 10) = true := by rw [bne_iff_ne]; exact hs
  clear hs
  obtain ⟨i3, z3', hi3, hz3, hs3, hb3, hzs3⟩ := int_info
  have HI : Hid (Try.prog.info? 3 = some i3 ∧ i3.zero = some z3' ∧ i3.size = 1 ∧ i3.bytes = 8 ∧ z3'.cells.size = 1) := ⟨hi3, hz3, hs3, hb3, hzs3⟩
  clear hi3 hz3 hs3 hb3 hzs3
  go_enter Try.func28, Try.ntmps28
  go_wp2_with fail
  refine (c1 _).mono ?_
  rintro e w1 ⟨rfl, hb1⟩
  clear c1
  have z1 := hb1.size
  simp only [World.size_alloc] at z1
  have K1 : Hid (Row6 w1 w.heap.size (.int .i64 op) (.int .i64 rd) (.int .i64 rs1) (.int .i64 rs2) (.int .i64 imm) (.int .i64 csr)) := row6_keep hb1 (by simp only [World.size_alloc]; omega) (row6_new w (.int .i64 op) (.int .i64 rd) (.int .i64 rs1) (.int .i64 rs2) (.int .i64 imm) (.int .i64 csr) 49)
  have HB1 : Hid (Below w.heap.size w w1) := (below_past _ _).trans (hb1.mono (by simp only [World.size_alloc]; omega))
  have y1 : w.heap.size < w1.heap.size := by omega
  have k0 := K1.out.1
  clear hb1
  go_wp2_with fail
  clear k0
  refine (c2 _).mono ?_
  rintro e w2 ⟨rfl, hb2⟩
  clear c2
  have z2 := hb2.size
  have K2 : Hid (Row6 w2 w.heap.size (.int .i64 op) (.int .i64 rd) (.int .i64 rs1) (.int .i64 rs2) (.int .i64 imm) (.int .i64 csr)) := row6_keep hb2 y1 K1.out
  have HB2 : Hid (Below w.heap.size w w2) := bseq HB1.out hb2
  clear hb2 K1 HB1
  go_wp2_with fail
  refine (c3 _).mono ?_
  rintro e w3 ⟨rfl, hb3⟩
  clear c3
  have z3 := hb3.size
  simp only [World.size_alloc] at z3
  have ks := cell_keep hb3 (by simp only [World.size_alloc]; omega) (show (w2.alloc (.cells #[.string nm, .int .i64 s, .int .i64 f1, .int .i64 f2, .int .i64 f3, .int .u32 f4] 94)).cell? ⟨w2.heap.size, 1, .none⟩ = some (.int .i64 s) by simp)
  have kp := below_past w2 (.cells #[.string nm, .int .i64 s, .int .i64 f1, .int .i64 f2, .int .i64 f3, .int .u32 f4] 94)
  obtain ⟨m0, m1, m2, m3, m4, m5⟩ := row6_keep (bseq kp hb3) (by omega) K2.out
  have HB3 : Hid (Below w.heap.size w (w3.alloc (.cells #[.bool q1, .bool true, .bool true, .bool q4, .bool q5] 98))) := (bseq HB2.out (bseq kp hb3)).alloc (by omega) _
  have y3 : w.heap.size < w3.heap.size := by omega
  have x3 : w2.heap.size < w3.heap.size := by omega
  clear hb3 K2 HB2 kp
  go_wp2_with (first
    | (at_builtin; refine wpList_append_keep _ rfl _ _ 29 rfl w.heap.size 3 i3 z3' 8 Try.underlying29 HI.out.1 HI.out.2.1 HI.out.2.2.1 HI.out.2.2.2.1 HI.out.2.2.2.2 _ 0 [] rfl (World.ownsRow_nil _ _ _ _) ⟨w3.heap.size + 1, 0, .none⟩ 1 (.int .i64 rs2) rfl ?c1 ?c2 ?c3 ?c4 ?c5 ?c6 ?_)
    | go_in)
  case c1 => first | exact World.cell?_alloc_at _ _ _ _ (by simp only [World.size_alloc]) | simp
  case c2 => rfl
  case c3 => rfl
  case c4 => decide
  case c5 => decide
  case c6 => simp only [World.size_alloc]; omega
  · intro v' w5 own' grow keep b fb fc
    clear fb fc keep
    obtain ⟨p, c, rfl⟩ := one_slice own'
    obtain ⟨g, rfl, hg0, hg1⟩ := row_shape own' (by decide)
    have HW : Hid (w5.ownsRow w.heap.size 3 1 (.slice (some ⟨g, 0, .none⟩) (0 + 1) c) (0 + 1) ([] ++ [.int .i64 rs2]) ∧ Below w.heap.size w w5) := ⟨own', below_append HB3.out _ grow (by simp only [World.size_alloc]; omega) (fun k hk => by cases hk)⟩
    have z5 : w.heap.size ≤ w5.heap.size := HW.out.2.size
    clear own' grow m0 m1 m2 m3 m4 m5 ks
    go_wp2_with (first
      | (at_builtin; refine wpList_append_keep _ rfl _ _ 29 rfl w.heap.size 3 i3 z3' 8 Try.underlying29 HI.out.1 HI.out.2.1 HI.out.2.2.1 HI.out.2.2.2.1 HI.out.2.2.2.2 _ (0 + 1) ([] ++ [.int .i64 rs2]) rfl (HW.out.1.alloc _) ⟨w5.heap.size, 0, .none⟩ 1 (.int .i64 rs1) rfl ?c1 ?c2 ?c3 ?c4 ?c5 ?c6 ?_)
      | go_in)
    case c1 => first | exact World.cell?_alloc_at _ _ _ _ (by simp only [World.size_alloc]) | simp
    case c2 => rfl
    case c3 => rfl
    case c4 => decide
    case c5 => decide
    case c6 => simp only [World.size_alloc]; omega
    · intro v' w6 own' grow keep b fb fc
      clear fb fc keep
      obtain ⟨p, c', rfl⟩ := one_slice own'
      have HV : Hid (w6.ownsRow w.heap.size 3 1 (.slice p (0 + 1 + 1) c') (0 + 1 + 1) ([] ++ [.int .i64 rs2] ++ [.int .i64 rs1]) ∧ Below w.heap.size w w6) := ⟨own', below_append HW.out.2 _ grow z5 (fun k hk => by simp only [Value.ownBlock, Option.some.injEq] at hk; omega)⟩
      clear own' grow
      go_wp2
      go_ret
      exact ⟨⟨p, c', rfl, HV.out.1⟩, HV.out.2⟩
end Go.Proofs.Ythdahigckflohab
