import Derived.Test.YtfafinjbobmafaaDoorWalkA
import Derived.Test.YtfafinjbobmafaaDoorWalkB
import Derived.Test.YtfafinjbobmafaaDoorWalkC
import Derived.Test.YtfafinjbobmafaaDoorWalkD
namespace Go.Proofs.YtfafinjbobmafaaDoor
open Go.RowKit
set_option linter.unusedVariables false
theorem decode_bad (x : Int) (hx : 0 ≤ x ∧ x < 4294967296) (hF : First x 77) (w : World) :
    Calls Tryd.prog 6 #[.int .u32 x] w fun e w' => (∃ b : Nat, e = .returned (.tuple #[.agg #[.int .i64 0, .int .i64 0, .int .i64 0, .int .i64 0, .int .i64 0, .int .i64 0], .iface 74 (.pointer (some ⟨b, 0, .none⟩))])) ∧ Below w.heap.size w w' :=
  (decode_none x w hx.1 hx.2 hF).mono fun e w' ⟨⟨v, he, b, _, _, hv, _⟩, hb⟩ => ⟨⟨b, by rw [he, hv]⟩, hb⟩
theorem byName_nm (q : Int) (h1 : 1 ≤ q) (h2 : q ≤ 76) (w : World) :
    Calls Tryd.prog 7 #[.string (nm q)] w fun e w' => e = .returned (.tuple #[.int .i64 q, .bool true]) ∧ Below w.heap.size w w' := by
  have hz : (nm q).size ≤ maxLen := by
    have := nm_size (q - 1).toNat (by omega)
    rwa [show ((q - 1).toNat : Int) + 1 = q by omega] at this
  have hit := opM_hit q h1 h2
  refine (byName_any (nm q) hz w).mono fun e w' ⟨⟨c, he, hf⟩, hb⟩ => ⟨?_, hb⟩
  have hc : c = q := by
    have := hf.symm.trans (hit.2 _)
    simpa using this
  rw [he, hc, hit.1]
theorem reg_rgn (r : Int) (h0 : 0 ≤ r) (h1 : r < 32) (w : World) :
    Calls Tryd.prog 11 #[.string (rgn r)] w fun e w' => e = .returned (.tuple #[.int .i64 r, .nilIface]) ∧ Below w.heap.size w w' := by
  have hz : (rgn r).size ≤ maxLen := by
    have := (rn_size r.toNat (by omega)).1
    rwa [show (r.toNat : Int) = r by omega] at this
  have hit := regM_hit r h0 h1
  refine (reg_yes (rgn r) hz hit.1 w).mono fun e w' ⟨⟨c, he, hf⟩, hb⟩ => ⟨?_, hb⟩
  have hc : c = r := by
    have := hf.symm.trans (hit.2 _)
    simpa using this
  rw [he, hc]
theorem name_none (q : Int) (h : q < 1 ∨ 77 ≤ q) (w : World) : Calls Tryd.prog 8 #[.int .i64 q] w fun e w' => e = .returned (.string ⟨#[]⟩) ∧ Below w.heap.size w w' := by
  have := name_any q w
  rwa [nm_out q h] at this
theorem shape_none (q : Int) (h : q < 1 ∨ 77 ≤ q) (w : World) : Calls Tryd.prog 9 #[.int .i64 q] w fun e w' => e = .returned (.int .i64 0) ∧ Below w.heap.size w w' := by
  have := shape_any q w
  rwa [sh_out q h] at this
theorem regName_yes (r : Int) (h0 : 0 ≤ r) (h1 : r < 32) (w : World) : Calls Tryd.prog 10 #[.int .i64 r] w fun e w' => e = .returned (.string (rgn r)) ∧ Below w.heap.size w w' := by
  have := regName_all r w
  rwa [show rgn' r = rgn r from if_pos ⟨h0, h1⟩] at this
theorem regName_none (r : Int) (h : r < 0 ∨ 32 ≤ r) (w : World) : Calls Tryd.prog 10 #[.int .i64 r] w fun e w' => e = .returned (.string ⟨#[]⟩) ∧ Below w.heap.size w w' := by
  have := regName_all r w
  rwa [show rgn' r = ⟨#[]⟩ from if_neg (by omega)] at this
theorem insnBack_any (op rd rs1 rs2 imm csr word q r : Int) (w : World) (hx : 0 ≤ word ∧ word < 4294967296) :
    Calls Tryd.prog 3 #[.agg #[.int .i64 op, .int .i64 rd, .int .i64 rs1, .int .i64 rs2, .int .i64 imm, .int .i64 csr], .int .u32 word, .int .i64 q, .int .i64 r] w fun e w' => e = .returned (.bool true) ∧ Below w.heap.size w w' := by
  obtain ⟨op0, hF⟩ := first_exists word
  have bt := fun (h1 : 1 ≤ q) (h2 : q ≤ 76) => (⟨by have := sh_ne q h1 h2; have := sh_bd q; omega, (sh_bd q).2⟩ : 1 ≤ sh q ∧ sh q ≤ 14)
  by_cases a : (refuse op rd rs1 rs2 imm csr).2 = 0
  · by_cases b : op0 ≤ 76
    · obtain ⟨d1, d2, d3, d4, d5, o1, g3, cB, cB2⟩ := back word op0 hx hF b
      by_cases c : 1 ≤ q ∧ q ≤ 76
      · by_cases d : 0 ≤ r ∧ r < 32
        · exact back_yyyy (w := w) (cA := fun w => enc_yes _ _ _ _ _ _ w a) (cA2 := fun w => there _ _ _ _ _ _ a w) (cB := cB) (cB2 := cB2) (o1 := o1) (o2 := b) (g3 := g3) (q1 := c.1) (q2 := c.2) (cC := name_any q) (cC2 := byName_nm q c.1 c.2) (cC3 := shape_any q) (t1 := (bt c.1 c.2).1) (t2 := (bt c.1 c.2).2) (r1 := d.1) (r2 := d.2) (cD := regName_yes r d.1 d.2) (cD2 := reg_rgn r d.1 d.2)
        · exact back_yyyn (w := w) (cA := fun w => enc_yes _ _ _ _ _ _ w a) (cA2 := fun w => there _ _ _ _ _ _ a w) (cB := cB) (cB2 := cB2) (o1 := o1) (o2 := b) (g3 := g3) (q1 := c.1) (q2 := c.2) (cC := name_any q) (cC2 := byName_nm q c.1 c.2) (cC3 := shape_any q) (t1 := (bt c.1 c.2).1) (t2 := (bt c.1 c.2).2) (r1 := by omega) (cD := regName_none r (by omega))
      · by_cases d : 0 ≤ r ∧ r < 32
        · exact back_yyny (w := w) (cA := fun w => enc_yes _ _ _ _ _ _ w a) (cA2 := fun w => there _ _ _ _ _ _ a w) (cB := cB) (cB2 := cB2) (o1 := o1) (o2 := b) (g3 := g3) (q1 := by omega) (cC := name_none q (by omega)) (cC3 := shape_none q (by omega)) (r1 := d.1) (r2 := d.2) (cD := regName_yes r d.1 d.2) (cD2 := reg_rgn r d.1 d.2)
        · exact back_yynn (w := w) (cA := fun w => enc_yes _ _ _ _ _ _ w a) (cA2 := fun w => there _ _ _ _ _ _ a w) (cB := cB) (cB2 := cB2) (o1 := o1) (o2 := b) (g3 := g3) (q1 := by omega) (cC := name_none q (by omega)) (cC3 := shape_none q (by omega)) (r1 := by omega) (cD := regName_none r (by omega))
    · obtain rfl : op0 = 77 := by have := hF.2.1; omega
      have cB := fun w => decode_bad word hx hF w
      by_cases c : 1 ≤ q ∧ q ≤ 76
      · by_cases d : 0 ≤ r ∧ r < 32
        · exact back_ynyy (w := w) (cA := fun w => enc_yes _ _ _ _ _ _ w a) (cA2 := fun w => there _ _ _ _ _ _ a w) (cB := cB) (q1 := c.1) (q2 := c.2) (cC := name_any q) (cC2 := byName_nm q c.1 c.2) (cC3 := shape_any q) (t1 := (bt c.1 c.2).1) (t2 := (bt c.1 c.2).2) (r1 := d.1) (r2 := d.2) (cD := regName_yes r d.1 d.2) (cD2 := reg_rgn r d.1 d.2)
        · exact back_ynyn (w := w) (cA := fun w => enc_yes _ _ _ _ _ _ w a) (cA2 := fun w => there _ _ _ _ _ _ a w) (cB := cB) (q1 := c.1) (q2 := c.2) (cC := name_any q) (cC2 := byName_nm q c.1 c.2) (cC3 := shape_any q) (t1 := (bt c.1 c.2).1) (t2 := (bt c.1 c.2).2) (r1 := by omega) (cD := regName_none r (by omega))
      · by_cases d : 0 ≤ r ∧ r < 32
        · exact back_ynny (w := w) (cA := fun w => enc_yes _ _ _ _ _ _ w a) (cA2 := fun w => there _ _ _ _ _ _ a w) (cB := cB) (q1 := by omega) (cC := name_none q (by omega)) (cC3 := shape_none q (by omega)) (r1 := d.1) (r2 := d.2) (cD := regName_yes r d.1 d.2) (cD2 := reg_rgn r d.1 d.2)
        · exact back_ynnn (w := w) (cA := fun w => enc_yes _ _ _ _ _ _ w a) (cA2 := fun w => there _ _ _ _ _ _ a w) (cB := cB) (q1 := by omega) (cC := name_none q (by omega)) (cC3 := shape_none q (by omega)) (r1 := by omega) (cD := regName_none r (by omega))
  · by_cases b : op0 ≤ 76
    · obtain ⟨d1, d2, d3, d4, d5, o1, g3, cB, cB2⟩ := back word op0 hx hF b
      by_cases c : 1 ≤ q ∧ q ≤ 76
      · by_cases d : 0 ≤ r ∧ r < 32
        · exact back_nyyy (w := w) (cA := fun w => enc_bad _ _ _ _ _ _ w a) (cB := cB) (cB2 := cB2) (o1 := o1) (o2 := b) (g3 := g3) (q1 := c.1) (q2 := c.2) (cC := name_any q) (cC2 := byName_nm q c.1 c.2) (cC3 := shape_any q) (t1 := (bt c.1 c.2).1) (t2 := (bt c.1 c.2).2) (r1 := d.1) (r2 := d.2) (cD := regName_yes r d.1 d.2) (cD2 := reg_rgn r d.1 d.2)
        · exact back_nyyn (w := w) (cA := fun w => enc_bad _ _ _ _ _ _ w a) (cB := cB) (cB2 := cB2) (o1 := o1) (o2 := b) (g3 := g3) (q1 := c.1) (q2 := c.2) (cC := name_any q) (cC2 := byName_nm q c.1 c.2) (cC3 := shape_any q) (t1 := (bt c.1 c.2).1) (t2 := (bt c.1 c.2).2) (r1 := by omega) (cD := regName_none r (by omega))
      · by_cases d : 0 ≤ r ∧ r < 32
        · exact back_nyny (w := w) (cA := fun w => enc_bad _ _ _ _ _ _ w a) (cB := cB) (cB2 := cB2) (o1 := o1) (o2 := b) (g3 := g3) (q1 := by omega) (cC := name_none q (by omega)) (cC3 := shape_none q (by omega)) (r1 := d.1) (r2 := d.2) (cD := regName_yes r d.1 d.2) (cD2 := reg_rgn r d.1 d.2)
        · exact back_nynn (w := w) (cA := fun w => enc_bad _ _ _ _ _ _ w a) (cB := cB) (cB2 := cB2) (o1 := o1) (o2 := b) (g3 := g3) (q1 := by omega) (cC := name_none q (by omega)) (cC3 := shape_none q (by omega)) (r1 := by omega) (cD := regName_none r (by omega))
    · obtain rfl : op0 = 77 := by have := hF.2.1; omega
      have cB := fun w => decode_bad word hx hF w
      by_cases c : 1 ≤ q ∧ q ≤ 76
      · by_cases d : 0 ≤ r ∧ r < 32
        · exact back_nnyy (w := w) (cA := fun w => enc_bad _ _ _ _ _ _ w a) (cB := cB) (q1 := c.1) (q2 := c.2) (cC := name_any q) (cC2 := byName_nm q c.1 c.2) (cC3 := shape_any q) (t1 := (bt c.1 c.2).1) (t2 := (bt c.1 c.2).2) (r1 := d.1) (r2 := d.2) (cD := regName_yes r d.1 d.2) (cD2 := reg_rgn r d.1 d.2)
        · exact back_nnyn (w := w) (cA := fun w => enc_bad _ _ _ _ _ _ w a) (cB := cB) (q1 := c.1) (q2 := c.2) (cC := name_any q) (cC2 := byName_nm q c.1 c.2) (cC3 := shape_any q) (t1 := (bt c.1 c.2).1) (t2 := (bt c.1 c.2).2) (r1 := by omega) (cD := regName_none r (by omega))
      · by_cases d : 0 ≤ r ∧ r < 32
        · exact back_nnny (w := w) (cA := fun w => enc_bad _ _ _ _ _ _ w a) (cB := cB) (q1 := by omega) (cC := name_none q (by omega)) (cC3 := shape_none q (by omega)) (r1 := d.1) (r2 := d.2) (cD := regName_yes r d.1 d.2) (cD2 := reg_rgn r d.1 d.2)
        · exact back_nnnn (w := w) (cA := fun w => enc_bad _ _ _ _ _ _ w a) (cB := cB) (q1 := by omega) (cC := name_none q (by omega)) (cC3 := shape_none q (by omega)) (r1 := by omega) (cD := regName_none r (by omega))
end Go.Proofs.YtfafinjbobmafaaDoor
