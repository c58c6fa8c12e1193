import Derived.Test.YthdahigckflohabZUses
import Derived.Test.YthdahigckflohabFree
import Derived.RegionTactic
import Derived.BigRegion
namespace Go.Proofs.Ythdahigckflohab
open Go.RowKit
set_option linter.unusedVariables false
set_option linter.unusedSimpArgs false
/-- A call has handed back a row of its own with these numbers. -/
def Gives (w w' : World) (e : Ending) (L : List Int) : Prop := (∃ p c, e = .returned (.slice p L.length c) ∧ w'.ownsRow w.heap.size 3 1 (.slice p L.length c) L.length (L.map (.int .i64))) ∧ Below w.heap.size w w'
/-- The registers that are read: in order, none twice, no x0. -/
def rl (a b : Int) : List Int := if a < b then (if a = 0 then [b] else [a, b]) else if a = b then (if a = 0 then [] else [a]) else (if b = 0 then [a] else [b, a])
theorem below_append {B : Nat} {a w w' : World} {row : Option Nat} (h : Below B a w) (o : Obj) (hg : (w.alloc o).grownBy w' row) (hB : B ≤ w.heap.size) (hr : ∀ k, row = some k → B ≤ k) : Below B a w' :=
  (h.alloc hB o).grown hg (by simp only [World.size_alloc]; omega) hr
set_option maxHeartbeats 2000000 in
set_option maxRecDepth 100000 in
theorem reads1 (op rd rs1 rs2 imm csr : Int) (w : World) (hu : uses op rd rs1 rs2 imm csr = true) (h1 : rs1 < rs2) (h2 : rs1 = 0) :
    Calls Try.prog 29 #[.agg #[.int .i64 op, .int .i64 rd, .int .i64 rs1, .int .i64 rs2, .int .i64 imm, .int .i64 csr]] w fun e w' => Gives w w' e [rs2] := by
  have g2 : (rs1 != 0) = false := by rw [bne_eq_false_iff_eq]; exact h2
  clear h2
  have g3 : (rs2 != rs1) = true := by rw [bne_iff_ne]; omega
  have q1 : rs1 ≤ rs2 := by omega
  have c1 := uses_any op rd rs1 rs2 imm csr
  rw [hu] at c1
  clear hu
  obtain ⟨i3, z3, hi3, hz3, hs3, hb3, hzs3⟩ := int_info
  have HI : Hid (Try.prog.info? 3 = some i3 ∧ i3.zero = some z3 ∧ i3.size = 1 ∧ i3.bytes = 8 ∧ z3.cells.size = 1) := ⟨hi3, hz3, hs3, hb3, hzs3⟩
  clear hi3 hz3 hs3 hb3 hzs3
  go_enter Try.func29, Try.ntmps29
  go_wp2_with fail
  refine (c1 _).mono ?_
  rintro e w1 ⟨rfl, hb1⟩
  have z1 := hb1.size
  simp only [World.size_alloc] at z1
  obtain ⟨k0, k1, k2, k3, k4, k5⟩ := row6_keep hb1 (by simp only [World.size_alloc]; omega) (row6_new w (.int .i64 op) (.int .i64 rd) (.int .i64 rs1) (.int .i64 rs2) (.int .i64 imm) (.int .i64 csr) 49)
  have HB1 : Hid (Below w.heap.size w w1.drew) := ((below_past _ _).trans (hb1.mono (by simp only [World.size_alloc]; omega))).drew
  have y1 : w.heap.size < w1.heap.size := by omega
  clear hb1 c1
  go_wp2
  go_region
  go_wp2_with (first
    | (at_builtin; refine wpList_append_keep _ rfl _ _ 29 rfl w.heap.size 3 i3 z3 8 Try.underlying29 HI.out.1 HI.out.2.1 HI.out.2.2.1 HI.out.2.2.2.1 HI.out.2.2.2.2 _ 0 [] rfl (World.ownsRow_nil _ _ _ _) ⟨w1.heap.size, 0, .none⟩ 1 (.int .i64 rs2) rfl ?c1 ?c2 ?c3 ?c4 ?c5 ?c6 ?_)
    | go_in)
  case c1 => first | exact World.cell?_alloc_at _ _ _ _ rfl | simp
  case c2 => rfl
  case c3 => rfl
  case c4 => decide
  case c5 => decide
  case c6 => first | omega | (show w.heap.size ≤ (World.alloc _ _).heap.size; simp only [World.size_alloc]; omega)
  · intro v' w2 own' grow keep b fb fc
    clear fb fc keep
    obtain ⟨p, c, rfl⟩ := one_slice own'
    have HW : Hid (w2.ownsRow w.heap.size 3 1 (.slice p (0 + 1) c) (0 + 1) ([] ++ [.int .i64 rs2]) ∧ Below w.heap.size w w2) := ⟨own', below_append HB1.out _ grow (by show w.heap.size ≤ w1.heap.size; omega) (fun k hk => by cases hk)⟩
    clear own' grow
    go_wp2
    go_ret
    exact ⟨⟨p, c, rfl, HW.out.1⟩, HW.out.2⟩
set_option maxHeartbeats 2000000 in
set_option maxRecDepth 100000 in
theorem reads2 (op rd rs1 rs2 imm csr : Int) (w : World) (hu : uses op rd rs1 rs2 imm csr = true) (h1 : rs1 < rs2) (h2 : rs1 ≠ 0) :
    Calls Try.prog 29 #[.agg #[.int .i64 op, .int .i64 rd, .int .i64 rs1, .int .i64 rs2, .int .i64 imm, .int .i64 csr]] w fun e w' => Gives w w' e [rs1, rs2] := by
  have g2 : (rs1 != 0) = true := by rw [bne_iff_ne]; exact h2
  have g3 : (rs2 != rs1) = true := by rw [bne_iff_ne]; omega
  have q1 : rs1 ≤ rs2 := by omega
  have c1 := uses_any op rd rs1 rs2 imm csr
  rw [hu] at c1
  clear hu
  obtain ⟨i3, z3, hi3, hz3, hs3, hb3, hzs3⟩ := int_info
  have HI : Hid (Try.prog.info? 3 = some i3 ∧ i3.zero = some z3 ∧ i3.size = 1 ∧ i3.bytes = 8 ∧ z3.cells.size = 1) := ⟨hi3, hz3, hs3, hb3, hzs3⟩
  clear hi3 hz3 hs3 hb3 hzs3
  go_enter Try.func29, Try.ntmps29
  go_wp2_with fail
  refine (c1 _).mono ?_
  rintro e w1 ⟨rfl, hb1⟩
  have z1 := hb1.size
  simp only [World.size_alloc] at z1
  obtain ⟨k0, k1, k2, k3, k4, k5⟩ := row6_keep hb1 (by simp only [World.size_alloc]; omega) (row6_new w (.int .i64 op) (.int .i64 rd) (.int .i64 rs1) (.int .i64 rs2) (.int .i64 imm) (.int .i64 csr) 49)
  have HB1 : Hid (Below w.heap.size w w1.drew) := ((below_past _ _).trans (hb1.mono (by simp only [World.size_alloc]; omega))).drew
  have y1 : w.heap.size < w1.heap.size := by omega
  clear hb1 c1
  go_wp2
  go_region
  go_wp2_with (first
    | (at_builtin; refine wpList_append_keep _ rfl _ _ 29 rfl w.heap.size 3 i3 z3 8 Try.underlying29 HI.out.1 HI.out.2.1 HI.out.2.2.1 HI.out.2.2.2.1 HI.out.2.2.2.2 _ 0 [] rfl (World.ownsRow_nil _ _ _ _) ⟨w1.heap.size, 0, .none⟩ 1 (.int .i64 rs1) rfl ?c1 ?c2 ?c3 ?c4 ?c5 ?c6 ?_)
    | go_in)
  case c1 => first | exact World.cell?_alloc_at _ _ _ _ rfl | simp
  case c2 => rfl
  case c3 => rfl
  case c4 => decide
  case c5 => decide
  case c6 => first | omega | (show w.heap.size ≤ (World.alloc _ _).heap.size; simp only [World.size_alloc]; omega)
  · intro v' w2 own' grow keep b fb fc
    clear fb fc keep
    obtain ⟨p, c, rfl⟩ := one_slice own'
    obtain ⟨g, rfl, hg0, hg1⟩ := row_shape own' (by decide)
    have HW : Hid (w2.ownsRow w.heap.size 3 1 (.slice (some ⟨g, 0, .none⟩) (0 + 1) c) (0 + 1) ([] ++ [.int .i64 rs1]) ∧ Below w.heap.size w w2) := ⟨own', below_append HB1.out _ grow (by show w.heap.size ≤ w1.heap.size; omega) (fun k hk => by cases hk)⟩
    have z2 : w.heap.size ≤ w2.heap.size := HW.out.2.size
    clear own' grow
    go_wp2_with (first
      | (at_builtin; refine wpList_append_keep _ rfl _ _ 29 rfl w.heap.size 3 i3 z3 8 Try.underlying29 HI.out.1 HI.out.2.1 HI.out.2.2.1 HI.out.2.2.2.1 HI.out.2.2.2.2 _ (0 + 1) ([] ++ [.int .i64 rs1]) rfl (HW.out.1.alloc _) ⟨w2.heap.size, 0, .none⟩ 1 (.int .i64 rs2) rfl ?c1 ?c2 ?c3 ?c4 ?c5 ?c6 ?_)
      | go_in)
    case c1 => first | exact World.cell?_alloc_at _ _ _ _ rfl | simp
    case c2 => rfl
    case c3 => rfl
    case c4 => decide
    case c5 => decide
    case c6 => first | omega | (show w.heap.size ≤ (World.alloc _ _).heap.size; simp only [World.size_alloc]; omega)
    · intro v' w3 own' grow keep b fb fc
      clear fb fc keep
      obtain ⟨p, c', rfl⟩ := one_slice own'
      have HV : Hid (w3.ownsRow w.heap.size 3 1 (.slice p (0 + 1 + 1) c') (0 + 1 + 1) ([] ++ [.int .i64 rs1] ++ [.int .i64 rs2]) ∧ Below w.heap.size w w3) := ⟨own', below_append HW.out.2 _ grow z2 (fun k hk => by simp only [Value.ownBlock, Option.some.injEq] at hk; omega)⟩
      clear own' grow
      go_wp2
      go_ret
      exact ⟨⟨p, c', rfl, HV.out.1⟩, HV.out.2⟩
set_option maxHeartbeats 2000000 in
set_option maxRecDepth 100000 in
theorem reads3 (op rd rs1 rs2 imm csr : Int) (w : World) (hu : uses op rd rs1 rs2 imm csr = true) (h1 : rs1 = rs2) (h2 : rs1 = 0) :
    Calls Try.prog 29 #[.agg #[.int .i64 op, .int .i64 rd, .int .i64 rs1, .int .i64 rs2, .int .i64 imm, .int .i64 csr]] w fun e w' => Gives w w' e [] := by
  subst h1
  subst h2
  have c1 := uses_any op rd 0 0 imm csr
  rw [hu] at c1
  clear hu
  obtain ⟨i3, z3, hi3, hz3, hs3, hb3, hzs3⟩ := int_info
  have HI : Hid (Try.prog.info? 3 = some i3 ∧ i3.zero = some z3 ∧ i3.size = 1 ∧ i3.bytes = 8 ∧ z3.cells.size = 1) := ⟨hi3, hz3, hs3, hb3, hzs3⟩
  clear hi3 hz3 hs3 hb3 hzs3
  go_enter Try.func29, Try.ntmps29
  go_wp2_with fail
  refine (c1 _).mono ?_
  rintro e w1 ⟨rfl, hb1⟩
  have z1 := hb1.size
  simp only [World.size_alloc] at z1
  obtain ⟨k0, k1, k2, k3, k4, k5⟩ := row6_keep hb1 (by simp only [World.size_alloc]; omega) (row6_new w (.int .i64 op) (.int .i64 rd) (.int .i64 0) (.int .i64 0) (.int .i64 imm) (.int .i64 csr) 49)
  have HB1 : Hid (Below w.heap.size w w1.drew) := ((below_past _ _).trans (hb1.mono (by simp only [World.size_alloc]; omega))).drew
  have y1 : w.heap.size < w1.heap.size := by omega
  clear hb1 c1
  go_wp2
  go_region
  go_wp2
  go_ret
  exact ⟨⟨_, _, rfl, World.ownsRow_nil _ _ _ _⟩, HB1.out⟩
set_option maxHeartbeats 2000000 in
set_option maxRecDepth 100000 in
theorem reads4 (op rd rs1 rs2 imm csr : Int) (w : World) (hu : uses op rd rs1 rs2 imm csr = true) (h1 : rs1 = rs2) (h2 : rs1 ≠ 0) :
    Calls Try.prog 29 #[.agg #[.int .i64 op, .int .i64 rd, .int .i64 rs1, .int .i64 rs2, .int .i64 imm, .int .i64 csr]] w fun e w' => Gives w w' e [rs1] := by
  subst h1
  have g2 : (rs1 != 0) = true := by rw [bne_iff_ne]; exact h2
  have c1 := uses_any op rd rs1 rs1 imm csr
  rw [hu] at c1
  clear hu
  obtain ⟨i3, z3, hi3, hz3, hs3, hb3, hzs3⟩ := int_info
  have HI : Hid (Try.prog.info? 3 = some i3 ∧ i3.zero = some z3 ∧ i3.size = 1 ∧ i3.bytes = 8 ∧ z3.cells.size = 1) := ⟨hi3, hz3, hs3, hb3, hzs3⟩
  clear hi3 hz3 hs3 hb3 hzs3
  go_enter Try.func29, Try.ntmps29
  go_wp2_with fail
  refine (c1 _).mono ?_
  rintro e w1 ⟨rfl, hb1⟩
  have z1 := hb1.size
  simp only [World.size_alloc] at z1
  obtain ⟨k0, k1, k2, k3, k4, k5⟩ := row6_keep hb1 (by simp only [World.size_alloc]; omega) (row6_new w (.int .i64 op) (.int .i64 rd) (.int .i64 rs1) (.int .i64 rs1) (.int .i64 imm) (.int .i64 csr) 49)
  have HB1 : Hid (Below w.heap.size w w1.drew) := ((below_past _ _).trans (hb1.mono (by simp only [World.size_alloc]; omega))).drew
  have y1 : w.heap.size < w1.heap.size := by omega
  clear hb1 c1
  go_wp2
  go_region
  go_wp2_with (first
    | (at_builtin; refine wpList_append_keep _ rfl _ _ 29 rfl w.heap.size 3 i3 z3 8 Try.underlying29 HI.out.1 HI.out.2.1 HI.out.2.2.1 HI.out.2.2.2.1 HI.out.2.2.2.2 _ 0 [] rfl (World.ownsRow_nil _ _ _ _) ⟨w1.heap.size, 0, .none⟩ 1 (.int .i64 rs1) rfl ?c1 ?c2 ?c3 ?c4 ?c5 ?c6 ?_)
    | go_in)
  case c1 => first | exact World.cell?_alloc_at _ _ _ _ rfl | simp
  case c2 => rfl
  case c3 => rfl
  case c4 => decide
  case c5 => decide
  case c6 => first | omega | (show w.heap.size ≤ (World.alloc _ _).heap.size; simp only [World.size_alloc]; omega)
  · intro v' w2 own' grow keep b fb fc
    clear fb fc keep
    obtain ⟨p, c, rfl⟩ := one_slice own'
    have HW : Hid (w2.ownsRow w.heap.size 3 1 (.slice p (0 + 1) c) (0 + 1) ([] ++ [.int .i64 rs1]) ∧ Below w.heap.size w w2) := ⟨own', below_append HB1.out _ grow (by show w.heap.size ≤ w1.heap.size; omega) (fun k hk => by cases hk)⟩
    clear own' grow
    go_wp2
    go_ret
    exact ⟨⟨p, c, rfl, HW.out.1⟩, HW.out.2⟩
set_option maxHeartbeats 2000000 in
set_option maxRecDepth 100000 in
theorem reads5 (op rd rs1 rs2 imm csr : Int) (w : World) (hu : uses op rd rs1 rs2 imm csr = true) (h1 : rs2 < rs1) (h2 : rs2 = 0) :
    Calls Try.prog 29 #[.agg #[.int .i64 op, .int .i64 rd, .int .i64 rs1, .int .i64 rs2, .int .i64 imm, .int .i64 csr]] w fun e w' => Gives w w' e [rs1] := by
  have g2 : (rs2 != 0) = false := by rw [bne_eq_false_iff_eq]; exact h2
  clear h2
  have g3 : (rs1 != rs2) = true := by rw [bne_iff_ne]; omega
  have q1 : ¬ rs1 < rs2 := by omega
  have c1 := uses_any op rd rs1 rs2 imm csr
  rw [hu] at c1
  clear hu
  obtain ⟨i3, z3, hi3, hz3, hs3, hb3, hzs3⟩ := int_info
  have HI : Hid (Try.prog.info? 3 = some i3 ∧ i3.zero = some z3 ∧ i3.size = 1 ∧ i3.bytes = 8 ∧ z3.cells.size = 1) := ⟨hi3, hz3, hs3, hb3, hzs3⟩
  clear hi3 hz3 hs3 hb3 hzs3
  go_enter Try.func29, Try.ntmps29
  go_wp2_with fail
  refine (c1 _).mono ?_
  rintro e w1 ⟨rfl, hb1⟩
  have z1 := hb1.size
  simp only [World.size_alloc] at z1
  obtain ⟨k0, k1, k2, k3, k4, k5⟩ := row6_keep hb1 (by simp only [World.size_alloc]; omega) (row6_new w (.int .i64 op) (.int .i64 rd) (.int .i64 rs1) (.int .i64 rs2) (.int .i64 imm) (.int .i64 csr) 49)
  have HB1 : Hid (Below w.heap.size w w1.drew) := ((below_past _ _).trans (hb1.mono (by simp only [World.size_alloc]; omega))).drew
  have y1 : w.heap.size < w1.heap.size := by omega
  clear hb1 c1
  go_wp2
  go_region
  go_wp2_with (first
    | (at_builtin; refine wpList_append_keep _ rfl _ _ 29 rfl w.heap.size 3 i3 z3 8 Try.underlying29 HI.out.1 HI.out.2.1 HI.out.2.2.1 HI.out.2.2.2.1 HI.out.2.2.2.2 _ 0 [] rfl (World.ownsRow_nil _ _ _ _) ⟨w1.heap.size, 0, .none⟩ 1 (.int .i64 rs1) rfl ?c1 ?c2 ?c3 ?c4 ?c5 ?c6 ?_)
    | go_in)
  case c1 => first | exact World.cell?_alloc_at _ _ _ _ rfl | simp
  case c2 => rfl
  case c3 => rfl
  case c4 => decide
  case c5 => decide
  case c6 => first | omega | (show w.heap.size ≤ (World.alloc _ _).heap.size; simp only [World.size_alloc]; omega)
  · intro v' w2 own' grow keep b fb fc
    clear fb fc keep
    obtain ⟨p, c, rfl⟩ := one_slice own'
    have HW : Hid (w2.ownsRow w.heap.size 3 1 (.slice p (0 + 1) c) (0 + 1) ([] ++ [.int .i64 rs1]) ∧ Below w.heap.size w w2) := ⟨own', below_append HB1.out _ grow (by show w.heap.size ≤ w1.heap.size; omega) (fun k hk => by cases hk)⟩
    clear own' grow
    go_wp2
    go_ret
    exact ⟨⟨p, c, rfl, HW.out.1⟩, HW.out.2⟩
set_option maxHeartbeats 2000000 in
set_option maxRecDepth 100000 in
theorem reads6 (op rd rs1 rs2 imm csr : Int) (w : World) (hu : uses op rd rs1 rs2 imm csr = true) (h1 : rs2 < rs1) (h2 : rs2 ≠ 0) :
    Calls Try.prog 29 #[.agg #[.int .i64 op, .int .i64 rd, .int .i64 rs1, .int .i64 rs2, .int .i64 imm, .int .i64 csr]] w fun e w' => Gives w w' e [rs2, rs1] := by
  have g2 : (rs2 != 0) = true := by rw [bne_iff_ne]; exact h2
  have g3 : (rs1 != rs2) = true := by rw [bne_iff_ne]; omega
  have q1 : ¬ rs1 < rs2 := by omega
  have c1 := uses_any op rd rs1 rs2 imm csr
  rw [hu] at c1
  clear hu
  obtain ⟨i3, z3, hi3, hz3, hs3, hb3, hzs3⟩ := int_info
  have HI : Hid (Try.prog.info? 3 = some i3 ∧ i3.zero = some z3 ∧ i3.size = 1 ∧ i3.bytes = 8 ∧ z3.cells.size = 1) := ⟨hi3, hz3, hs3, hb3, hzs3⟩
  clear hi3 hz3 hs3 hb3 hzs3
  go_enter Try.func29, Try.ntmps29
  go_wp2_with fail
  refine (c1 _).mono ?_
  rintro e w1 ⟨rfl, hb1⟩
  have z1 := hb1.size
  simp only [World.size_alloc] at z1
  obtain ⟨k0, k1, k2, k3, k4, k5⟩ := row6_keep hb1 (by simp only [World.size_alloc]; omega) (row6_new w (.int .i64 op) (.int .i64 rd) (.int .i64 rs1) (.int .i64 rs2) (.int .i64 imm) (.int .i64 csr) 49)
  have HB1 : Hid (Below w.heap.size w w1.drew) := ((below_past _ _).trans (hb1.mono (by simp only [World.size_alloc]; omega))).drew
  have y1 : w.heap.size < w1.heap.size := by omega
  clear hb1 c1
  go_wp2
  go_region
  go_wp2_with (first
    | (at_builtin; refine wpList_append_keep _ rfl _ _ 29 rfl w.heap.size 3 i3 z3 8 Try.underlying29 HI.out.1 HI.out.2.1 HI.out.2.2.1 HI.out.2.2.2.1 HI.out.2.2.2.2 _ 0 [] rfl (World.ownsRow_nil _ _ _ _) ⟨w1.heap.size, 0, .none⟩ 1 (.int .i64 rs2) rfl ?c1 ?c2 ?c3 ?c4 ?c5 ?c6 ?_)
    | go_in)
  case c1 => first | exact World.cell?_alloc_at _ _ _ _ rfl | simp
  case c2 => rfl
  case c3 => rfl
  case c4 => decide
  case c5 => decide
  case c6 => first | omega | (show w.heap.size ≤ (World.alloc _ _).heap.size; simp only [World.size_alloc]; omega)
  · intro v' w2 own' grow keep b fb fc
    clear fb fc keep
    obtain ⟨p, c, rfl⟩ := one_slice own'
    obtain ⟨g, rfl, hg0, hg1⟩ := row_shape own' (by decide)
    have HW : Hid (w2.ownsRow w.heap.size 3 1 (.slice (some ⟨g, 0, .none⟩) (0 + 1) c) (0 + 1) ([] ++ [.int .i64 rs2]) ∧ Below w.heap.size w w2) := ⟨own', below_append HB1.out _ grow (by show w.heap.size ≤ w1.heap.size; omega) (fun k hk => by cases hk)⟩
    have z2 : w.heap.size ≤ w2.heap.size := HW.out.2.size
    clear own' grow
    go_wp2_with (first
      | (at_builtin; refine wpList_append_keep _ rfl _ _ 29 rfl w.heap.size 3 i3 z3 8 Try.underlying29 HI.out.1 HI.out.2.1 HI.out.2.2.1 HI.out.2.2.2.1 HI.out.2.2.2.2 _ (0 + 1) ([] ++ [.int .i64 rs2]) rfl (HW.out.1.alloc _) ⟨w2.heap.size, 0, .none⟩ 1 (.int .i64 rs1) rfl ?c1 ?c2 ?c3 ?c4 ?c5 ?c6 ?_)
      | go_in)
    case c1 => first | exact World.cell?_alloc_at _ _ _ _ rfl | simp
    case c2 => rfl
    case c3 => rfl
    case c4 => decide
    case c5 => decide
    case c6 => first | omega | (show w.heap.size ≤ (World.alloc _ _).heap.size; simp only [World.size_alloc]; omega)
    · intro v' w3 own' grow keep b fb fc
      clear fb fc keep
      obtain ⟨p, c', rfl⟩ := one_slice own'
      have HV : Hid (w3.ownsRow w.heap.size 3 1 (.slice p (0 + 1 + 1) c') (0 + 1 + 1) ([] ++ [.int .i64 rs2] ++ [.int .i64 rs1]) ∧ Below w.heap.size w w3) := ⟨own', below_append HW.out.2 _ grow z2 (fun k hk => by simp only [Value.ownBlock, Option.some.injEq] at hk; omega)⟩
      clear own' grow
      go_wp2
      go_ret
      exact ⟨⟨p, c', rfl, HV.out.1⟩, HV.out.2⟩
set_option maxHeartbeats 1000000 in
theorem reads0 (op rd rs1 rs2 imm csr : Int) (w : World) (hu : uses op rd rs1 rs2 imm csr = false) :
    Calls Try.prog 29 #[.agg #[.int .i64 op, .int .i64 rd, .int .i64 rs1, .int .i64 rs2, .int .i64 imm, .int .i64 csr]] w fun e w' => Gives w w' e [] := by
  have c1 := uses_any op rd rs1 rs2 imm csr
  rw [hu] at c1
  clear hu
  go_enter Try.func29, Try.ntmps29
  go_wp2_with fail
  refine (c1 _).mono ?_
  rintro e w1 ⟨rfl, hb1⟩
  have HB1 : Hid (Below w.heap.size w w1) := (below_past _ _).trans (hb1.mono (by simp only [World.size_alloc]; omega))
  clear hb1 c1
  go_wp2
  go_ret
  exact ⟨⟨_, _, rfl, World.ownsRow_nil _ _ _ _⟩, HB1.out⟩
theorem reads_any (op rd rs1 rs2 imm csr : Int) (w : World) :
    Calls Try.prog 29 #[.agg #[.int .i64 op, .int .i64 rd, .int .i64 rs1, .int .i64 rs2, .int .i64 imm, .int .i64 csr]] w fun e w' => Gives w w' e (if uses op rd rs1 rs2 imm csr then rl rs1 rs2 else []) := by
  cases hu : uses op rd rs1 rs2 imm csr with
  | false => exact reads0 _ _ _ _ _ _ w hu
  | true =>
    simp only [if_true]
    unfold rl
    by_cases h1 : rs1 < rs2
    · rw [if_pos h1]
      by_cases h2 : rs1 = 0
      · rw [if_pos h2]; exact reads1 _ _ _ _ _ _ w hu h1 h2
      · rw [if_neg h2]; exact reads2 _ _ _ _ _ _ w hu h1 h2
    · rw [if_neg h1]
      by_cases h3 : rs1 = rs2
      · rw [if_pos h3]
        by_cases h2 : rs1 = 0
        · rw [if_pos h2]; exact reads3 _ _ _ _ _ _ w hu h3 h2
        · rw [if_neg h2]; exact reads4 _ _ _ _ _ _ w hu h3 h2
      · rw [if_neg h3]
        by_cases h2 : rs2 = 0
        · rw [if_pos h2]; exact reads5 _ _ _ _ _ _ w hu (by omega) h2
        · rw [if_neg h2]; exact reads6 _ _ _ _ _ _ w hu (by omega) h2
end Go.Proofs.Ythdahigckflohab
