import Derived.Test.YtfafinjbobmafaaDoorThere
import Derived.Test.YtfafinjbobmafaaDoorMapW
namespace Go.Proofs.YtfafinjbobmafaaDoor
open Go.RowKit
set_option linter.unusedVariables false
set_option maxHeartbeats 4000000 in
set_option maxRecDepth 100000 in
theorem back_nyyy (op rd rs1 rs2 imm csr word q r o d1 d2 d3 d4 d5 t : Int) (s s2 : ByteArray) (w : World)
    (cA : ∀ w, Calls Tryd.prog 5 #[.agg #[.int .i64 op, .int .i64 rd, .int .i64 rs1, .int .i64 rs2, .int .i64 imm, .int .i64 csr]] w fun e w' => (∃ b : Nat, e = .returned (.tuple #[.int .u32 0, .iface 74 (.pointer (some ⟨b, 0, .none⟩))])) ∧ Below w.heap.size w w')
    (cB : ∀ w, Calls Tryd.prog 6 #[.int .u32 word] w fun e w' => e = .returned (.tuple #[.agg #[.int .i64 o, .int .i64 d1, .int .i64 d2, .int .i64 d3, .int .i64 d4, .int .i64 d5], .nilIface]) ∧ Below w.heap.size w w')
    (cB2 : ∀ w, Calls Tryd.prog 5 #[.agg #[.int .i64 o, .int .i64 d1, .int .i64 d2, .int .i64 d3, .int .i64 d4, .int .i64 d5]] w fun e w' => e = .returned (.tuple #[.int .u32 word, .nilIface]) ∧ Below w.heap.size w w')
    (o1 : 1 ≤ o)
    (o2 : o ≤ 76)
    (g3 : bits .and .u32 word 3 = 3)
    (q1 : 1 ≤ q)
    (q2 : q ≤ 76)
    (cC : ∀ w, Calls Tryd.prog 8 #[.int .i64 q] w fun e w' => e = .returned (.string s) ∧ Below w.heap.size w w')
    (cC2 : ∀ w, Calls Tryd.prog 7 #[.string s] w fun e w' => e = .returned (.tuple #[.int .i64 q, .bool true]) ∧ Below w.heap.size w w')
    (cC3 : ∀ w, Calls Tryd.prog 9 #[.int .i64 q] w fun e w' => e = .returned (.int .i64 t) ∧ Below w.heap.size w w')
    (t1 : 1 ≤ t)
    (t2 : t ≤ 14)
    (r1 : 0 ≤ r)
    (r2 : r < 32)
    (cD : ∀ w, Calls Tryd.prog 10 #[.int .i64 r] w fun e w' => e = .returned (.string s2) ∧ Below w.heap.size w w')
    (cD2 : ∀ w, Calls Tryd.prog 11 #[.string s2] w fun e w' => e = .returned (.tuple #[.int .i64 r, .nilIface]) ∧ Below w.heap.size w w') :
    Calls Tryd.prog 3 #[.agg #[.int .i64 op, .int .i64 rd, .int .i64 rs1, .int .i64 rs2, .int .i64 imm, .int .i64 csr], .int .u32 word, .int .i64 q, .int .i64 r] w fun e w' => e = .returned (.bool true) ∧ Below w.heap.size w w' := by
  go_enter Tryd.func3, Tryd.ntmps3
  go_wp2_with fail
  refine (cA _).mono ?_
  rintro e w1 ⟨⟨b1, rfl⟩, hb1⟩
  clear cA
  have z1 := hb1.size
  simp only [World.size_alloc] at z1
  have hB1 : Below w.heap.size w w1 := (below_past _ _).trans (hb1.mono (by simp only [World.size_alloc]; omega))
  clear hb1
  go_wp2_with fail
  refine (cB _).mono ?_
  rintro e w3 ⟨rfl, hb3⟩
  clear cB
  have hB3 := bseq hB1 hb3
  have z3 := hb3.size
  have y3 : w.heap.size < w3.heap.size := by omega
  clear hb3 hB1
  go_wp2_with fail
  refine (cB2 _).mono ?_
  rintro e w4 ⟨rfl, hb4⟩
  clear cB2
  have z4 := hb4.size
  simp only [World.size_alloc] at z4
  have y4 : w3.heap.size < w4.heap.size := by omega
  obtain ⟨l0, l1, l2, l3, l4, l5⟩ := row6_keep hb4 (by simp only [World.size_alloc]; omega) (row6_new w3 (.int .i64 o) (.int .i64 d1) (.int .i64 d2) (.int .i64 d3) (.int .i64 d4) (.int .i64 d5) 23)
  have hB4 := bseq (hB3.alloc (by omega) _) hb4
  clear hb4 hB3
  go_wp2_with fail
  clear l0 l1 l2 l3 l4 l5
  refine (cC _).mono ?_
  rintro e w5 ⟨rfl, hb5⟩
  have hB5 := bseq hB4 hb5
  clear hb5 cC
  go_wp2_with fail
  refine (cC2 _).mono ?_
  rintro e w6 ⟨rfl, hb6⟩
  have hB6 := bseq hB5 hb6
  clear hb6 cC2 hB5
  go_wp2_with fail
  refine (cC3 _).mono ?_
  rintro e w7 ⟨rfl, hb7⟩
  have hB7 := bseq hB6 hb7
  clear hb7 hB6
  go_wp2_with fail
  refine (cC3 _).mono ?_
  rintro e w8 ⟨rfl, hb8⟩
  have hB8 := bseq hB7 hb8
  clear hb8 hB7 cC3
  go_wp2_with fail
  refine (cD _).mono ?_
  rintro e w9 ⟨rfl, hb9⟩
  have hB9 := bseq hB8 hb9
  clear hb9 hB8 cD
  go_wp2_with fail
  refine (cD2 _).mono ?_
  rintro e w10 ⟨rfl, hb10⟩
  have hB10 := bseq hB9 hb10
  clear hb10 hB9 cD2
  go_wp2
  go_ret
  exact ⟨rfl, hB10⟩
set_option maxHeartbeats 4000000 in
set_option maxRecDepth 100000 in
theorem back_nyyn (op rd rs1 rs2 imm csr word q r o d1 d2 d3 d4 d5 t : Int) (s : ByteArray) (w : World)
    (cA : ∀ w, Calls Tryd.prog 5 #[.agg #[.int .i64 op, .int .i64 rd, .int .i64 rs1, .int .i64 rs2, .int .i64 imm, .int .i64 csr]] w fun e w' => (∃ b : Nat, e = .returned (.tuple #[.int .u32 0, .iface 74 (.pointer (some ⟨b, 0, .none⟩))])) ∧ Below w.heap.size w w')
    (cB : ∀ w, Calls Tryd.prog 6 #[.int .u32 word] w fun e w' => e = .returned (.tuple #[.agg #[.int .i64 o, .int .i64 d1, .int .i64 d2, .int .i64 d3, .int .i64 d4, .int .i64 d5], .nilIface]) ∧ Below w.heap.size w w')
    (cB2 : ∀ w, Calls Tryd.prog 5 #[.agg #[.int .i64 o, .int .i64 d1, .int .i64 d2, .int .i64 d3, .int .i64 d4, .int .i64 d5]] w fun e w' => e = .returned (.tuple #[.int .u32 word, .nilIface]) ∧ Below w.heap.size w w')
    (o1 : 1 ≤ o)
    (o2 : o ≤ 76)
    (g3 : bits .and .u32 word 3 = 3)
    (q1 : 1 ≤ q)
    (q2 : q ≤ 76)
    (cC : ∀ w, Calls Tryd.prog 8 #[.int .i64 q] w fun e w' => e = .returned (.string s) ∧ Below w.heap.size w w')
    (cC2 : ∀ w, Calls Tryd.prog 7 #[.string s] w fun e w' => e = .returned (.tuple #[.int .i64 q, .bool true]) ∧ Below w.heap.size w w')
    (cC3 : ∀ w, Calls Tryd.prog 9 #[.int .i64 q] w fun e w' => e = .returned (.int .i64 t) ∧ Below w.heap.size w w')
    (t1 : 1 ≤ t)
    (t2 : t ≤ 14)
    (r1 : r < 0 ∨ 32 ≤ r)
    (cD : ∀ w, Calls Tryd.prog 10 #[.int .i64 r] w fun e w' => e = .returned (.string ⟨#[]⟩) ∧ Below w.heap.size w w') :
    Calls Tryd.prog 3 #[.agg #[.int .i64 op, .int .i64 rd, .int .i64 rs1, .int .i64 rs2, .int .i64 imm, .int .i64 csr], .int .u32 word, .int .i64 q, .int .i64 r] w fun e w' => e = .returned (.bool true) ∧ Below w.heap.size w w' := by
  go_enter Tryd.func3, Tryd.ntmps3
  go_wp2_with fail
  refine (cA _).mono ?_
  rintro e w1 ⟨⟨b1, rfl⟩, hb1⟩
  clear cA
  have z1 := hb1.size
  simp only [World.size_alloc] at z1
  have hB1 : Below w.heap.size w w1 := (below_past _ _).trans (hb1.mono (by simp only [World.size_alloc]; omega))
  clear hb1
  go_wp2_with fail
  refine (cB _).mono ?_
  rintro e w3 ⟨rfl, hb3⟩
  clear cB
  have hB3 := bseq hB1 hb3
  have z3 := hb3.size
  have y3 : w.heap.size < w3.heap.size := by omega
  clear hb3 hB1
  go_wp2_with fail
  refine (cB2 _).mono ?_
  rintro e w4 ⟨rfl, hb4⟩
  clear cB2
  have z4 := hb4.size
  simp only [World.size_alloc] at z4
  have y4 : w3.heap.size < w4.heap.size := by omega
  obtain ⟨l0, l1, l2, l3, l4, l5⟩ := row6_keep hb4 (by simp only [World.size_alloc]; omega) (row6_new w3 (.int .i64 o) (.int .i64 d1) (.int .i64 d2) (.int .i64 d3) (.int .i64 d4) (.int .i64 d5) 23)
  have hB4 := bseq (hB3.alloc (by omega) _) hb4
  clear hb4 hB3
  go_wp2_with fail
  clear l0 l1 l2 l3 l4 l5
  refine (cC _).mono ?_
  rintro e w5 ⟨rfl, hb5⟩
  have hB5 := bseq hB4 hb5
  clear hb5 cC
  go_wp2_with fail
  refine (cC2 _).mono ?_
  rintro e w6 ⟨rfl, hb6⟩
  have hB6 := bseq hB5 hb6
  clear hb6 cC2 hB5
  go_wp2_with fail
  refine (cC3 _).mono ?_
  rintro e w7 ⟨rfl, hb7⟩
  have hB7 := bseq hB6 hb7
  clear hb7 hB6
  go_wp2_with fail
  refine (cC3 _).mono ?_
  rintro e w8 ⟨rfl, hb8⟩
  have hB8 := bseq hB7 hb8
  clear hb8 hB7 cC3
  rcases r1 with r1 | r1 <;> (
  go_wp2_with fail
  refine (cD _).mono ?_
  rintro e w9 ⟨rfl, hb9⟩
  have hB9 := bseq hB8 hb9
  clear hb9 hB8 cD
  go_wp2
  go_ret
  exact ⟨rfl, hB9⟩)
set_option maxHeartbeats 4000000 in
set_option maxRecDepth 100000 in
theorem back_nyny (op rd rs1 rs2 imm csr word q r o d1 d2 d3 d4 d5 : Int) (s2 : ByteArray) (w : World)
    (cA : ∀ w, Calls Tryd.prog 5 #[.agg #[.int .i64 op, .int .i64 rd, .int .i64 rs1, .int .i64 rs2, .int .i64 imm, .int .i64 csr]] w fun e w' => (∃ b : Nat, e = .returned (.tuple #[.int .u32 0, .iface 74 (.pointer (some ⟨b, 0, .none⟩))])) ∧ Below w.heap.size w w')
    (cB : ∀ w, Calls Tryd.prog 6 #[.int .u32 word] w fun e w' => e = .returned (.tuple #[.agg #[.int .i64 o, .int .i64 d1, .int .i64 d2, .int .i64 d3, .int .i64 d4, .int .i64 d5], .nilIface]) ∧ Below w.heap.size w w')
    (cB2 : ∀ w, Calls Tryd.prog 5 #[.agg #[.int .i64 o, .int .i64 d1, .int .i64 d2, .int .i64 d3, .int .i64 d4, .int .i64 d5]] w fun e w' => e = .returned (.tuple #[.int .u32 word, .nilIface]) ∧ Below w.heap.size w w')
    (o1 : 1 ≤ o)
    (o2 : o ≤ 76)
    (g3 : bits .and .u32 word 3 = 3)
    (q1 : q < 1 ∨ 77 ≤ q)
    (cC : ∀ w, Calls Tryd.prog 8 #[.int .i64 q] w fun e w' => e = .returned (.string ⟨#[]⟩) ∧ Below w.heap.size w w')
    (cC3 : ∀ w, Calls Tryd.prog 9 #[.int .i64 q] w fun e w' => e = .returned (.int .i64 0) ∧ Below w.heap.size w w')
    (r1 : 0 ≤ r)
    (r2 : r < 32)
    (cD : ∀ w, Calls Tryd.prog 10 #[.int .i64 r] w fun e w' => e = .returned (.string s2) ∧ Below w.heap.size w w')
    (cD2 : ∀ w, Calls Tryd.prog 11 #[.string s2] w fun e w' => e = .returned (.tuple #[.int .i64 r, .nilIface]) ∧ Below w.heap.size w w') :
    Calls Tryd.prog 3 #[.agg #[.int .i64 op, .int .i64 rd, .int .i64 rs1, .int .i64 rs2, .int .i64 imm, .int .i64 csr], .int .u32 word, .int .i64 q, .int .i64 r] w fun e w' => e = .returned (.bool true) ∧ Below w.heap.size w w' := by
  go_enter Tryd.func3, Tryd.ntmps3
  go_wp2_with fail
  refine (cA _).mono ?_
  rintro e w1 ⟨⟨b1, rfl⟩, hb1⟩
  clear cA
  have z1 := hb1.size
  simp only [World.size_alloc] at z1
  have hB1 : Below w.heap.size w w1 := (below_past _ _).trans (hb1.mono (by simp only [World.size_alloc]; omega))
  clear hb1
  go_wp2_with fail
  refine (cB _).mono ?_
  rintro e w3 ⟨rfl, hb3⟩
  clear cB
  have hB3 := bseq hB1 hb3
  have z3 := hb3.size
  have y3 : w.heap.size < w3.heap.size := by omega
  clear hb3 hB1
  go_wp2_with fail
  refine (cB2 _).mono ?_
  rintro e w4 ⟨rfl, hb4⟩
  clear cB2
  have z4 := hb4.size
  simp only [World.size_alloc] at z4
  have y4 : w3.heap.size < w4.heap.size := by omega
  obtain ⟨l0, l1, l2, l3, l4, l5⟩ := row6_keep hb4 (by simp only [World.size_alloc]; omega) (row6_new w3 (.int .i64 o) (.int .i64 d1) (.int .i64 d2) (.int .i64 d3) (.int .i64 d4) (.int .i64 d5) 23)
  have hB4 := bseq (hB3.alloc (by omega) _) hb4
  clear hb4 hB3
  rcases q1 with q1 | q1 <;> (
  go_wp2_with fail
  clear l0 l1 l2 l3 l4 l5
  refine (cC _).mono ?_
  rintro e w5 ⟨rfl, hb5⟩
  have hB5 := bseq hB4 hb5
  clear hb5 cC
  go_wp2_with fail
  refine (cC3 _).mono ?_
  rintro e w8 ⟨rfl, hb8⟩
  have hB8 := bseq hB5 hb8
  clear hb8 hB5 cC3
  go_wp2_with fail
  refine (cD _).mono ?_
  rintro e w9 ⟨rfl, hb9⟩
  have hB9 := bseq hB8 hb9
  clear hb9 hB8 cD
  go_wp2_with fail
  refine (cD2 _).mono ?_
  rintro e w10 ⟨rfl, hb10⟩
  have hB10 := bseq hB9 hb10
  clear hb10 hB9 cD2
  go_wp2
  go_ret
  exact ⟨rfl, hB10⟩)
set_option maxHeartbeats 4000000 in
set_option maxRecDepth 100000 in
theorem back_nynn (op rd rs1 rs2 imm csr word q r o d1 d2 d3 d4 d5 : Int) (w : World)
    (cA : ∀ w, Calls Tryd.prog 5 #[.agg #[.int .i64 op, .int .i64 rd, .int .i64 rs1, .int .i64 rs2, .int .i64 imm, .int .i64 csr]] w fun e w' => (∃ b : Nat, e = .returned (.tuple #[.int .u32 0, .iface 74 (.pointer (some ⟨b, 0, .none⟩))])) ∧ Below w.heap.size w w')
    (cB : ∀ w, Calls Tryd.prog 6 #[.int .u32 word] w fun e w' => e = .returned (.tuple #[.agg #[.int .i64 o, .int .i64 d1, .int .i64 d2, .int .i64 d3, .int .i64 d4, .int .i64 d5], .nilIface]) ∧ Below w.heap.size w w')
    (cB2 : ∀ w, Calls Tryd.prog 5 #[.agg #[.int .i64 o, .int .i64 d1, .int .i64 d2, .int .i64 d3, .int .i64 d4, .int .i64 d5]] w fun e w' => e = .returned (.tuple #[.int .u32 word, .nilIface]) ∧ Below w.heap.size w w')
    (o1 : 1 ≤ o)
    (o2 : o ≤ 76)
    (g3 : bits .and .u32 word 3 = 3)
    (q1 : q < 1 ∨ 77 ≤ q)
    (cC : ∀ w, Calls Tryd.prog 8 #[.int .i64 q] w fun e w' => e = .returned (.string ⟨#[]⟩) ∧ Below w.heap.size w w')
    (cC3 : ∀ w, Calls Tryd.prog 9 #[.int .i64 q] w fun e w' => e = .returned (.int .i64 0) ∧ Below w.heap.size w w')
    (r1 : r < 0 ∨ 32 ≤ r)
    (cD : ∀ w, Calls Tryd.prog 10 #[.int .i64 r] w fun e w' => e = .returned (.string ⟨#[]⟩) ∧ Below w.heap.size w w') :
    Calls Tryd.prog 3 #[.agg #[.int .i64 op, .int .i64 rd, .int .i64 rs1, .int .i64 rs2, .int .i64 imm, .int .i64 csr], .int .u32 word, .int .i64 q, .int .i64 r] w fun e w' => e = .returned (.bool true) ∧ Below w.heap.size w w' := by
  go_enter Tryd.func3, Tryd.ntmps3
  go_wp2_with fail
  refine (cA _).mono ?_
  rintro e w1 ⟨⟨b1, rfl⟩, hb1⟩
  clear cA
  have z1 := hb1.size
  simp only [World.size_alloc] at z1
  have hB1 : Below w.heap.size w w1 := (below_past _ _).trans (hb1.mono (by simp only [World.size_alloc]; omega))
  clear hb1
  go_wp2_with fail
  refine (cB _).mono ?_
  rintro e w3 ⟨rfl, hb3⟩
  clear cB
  have hB3 := bseq hB1 hb3
  have z3 := hb3.size
  have y3 : w.heap.size < w3.heap.size := by omega
  clear hb3 hB1
  go_wp2_with fail
  refine (cB2 _).mono ?_
  rintro e w4 ⟨rfl, hb4⟩
  clear cB2
  have z4 := hb4.size
  simp only [World.size_alloc] at z4
  have y4 : w3.heap.size < w4.heap.size := by omega
  obtain ⟨l0, l1, l2, l3, l4, l5⟩ := row6_keep hb4 (by simp only [World.size_alloc]; omega) (row6_new w3 (.int .i64 o) (.int .i64 d1) (.int .i64 d2) (.int .i64 d3) (.int .i64 d4) (.int .i64 d5) 23)
  have hB4 := bseq (hB3.alloc (by omega) _) hb4
  clear hb4 hB3
  rcases q1 with q1 | q1 <;> (
  go_wp2_with fail
  clear l0 l1 l2 l3 l4 l5
  refine (cC _).mono ?_
  rintro e w5 ⟨rfl, hb5⟩
  have hB5 := bseq hB4 hb5
  clear hb5 cC
  go_wp2_with fail
  refine (cC3 _).mono ?_
  rintro e w8 ⟨rfl, hb8⟩
  have hB8 := bseq hB5 hb8
  clear hb8 hB5 cC3
  rcases r1 with r1 | r1 <;> (
  go_wp2_with fail
  refine (cD _).mono ?_
  rintro e w9 ⟨rfl, hb9⟩
  have hB9 := bseq hB8 hb9
  clear hb9 hB8 cD
  go_wp2
  go_ret
  exact ⟨rfl, hB9⟩))
end Go.Proofs.YtfafinjbobmafaaDoor
