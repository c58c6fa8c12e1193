import Derived.Test.YtnlbomggadflmabFr
import Derived.Test.YtnlbomggadflmabEIsA
namespace Go.Proofs.Ytnlbomggadflmab
open Go.RowKit
set_option linter.unusedVariables false
set_option linter.unusedSimpArgs false
set_option maxRecDepth 100000
section
variable {w : World} {b : Nat} {P : Nat → Pr} {nx : Int}
/-- May the slot have what it has? -/
def cH (P : Nat → Pr) (nx : Int) (i : Nat) : Bool := if (P i).st = 0 then pEq (P i) zP && (!((i : Int) == 0) || nx == 1) else cP P nx i && cR P i && fS (P i)
set_option maxHeartbeats 4000000 in
theorem canHave_any (h : Tb w b P nx) (i : Nat) (hi : i < 64) : Calls Try.prog 62 #[.pointer (some ⟨b, 0, .none⟩), .int .i64 (i : Int)] w fun e w' => e = .returned (.bool (cH P nx i)) ∧ Below w.heap.size w w' := by
  have gi : (i : Int) < 64 := by omega
  obtain ⟨c0, c1, c2, c3, c4, c5, c6⟩ := h.cells i hi
  have HB : Hid (Below w.heap.size w (w.alloc (.cells (P i).l.toArray 33))) := below1 _ _
  have hcs := bx_cells w (P i) 33
  have HT : Hid (Tb (w.alloc (.cells (P i).l.toArray 33)) b P nx) := h.bel (below1 _ _)
  have hsz : w.heap.size < (w.alloc (.cells (P i).l.toArray 33)).heap.size := by simp
  have KB : Hid (∀ W, Below (w.alloc (.cells (P i).l.toArray 33)).heap.size (w.alloc (.cells (P i).l.toArray 33)) W → Tb W b P nx ∧ Below w.heap.size w W ∧ ∀ (j : Nat) (v : Value), (P i).l[j]? = some v → W.cell? ⟨w.heap.size, j, .none⟩ = some v) := fun W hW =>
    ⟨Tb.bel HT.out hW, HB.out.trans (hW.mono HB.out.size), fun j v hj => (hW.cell (p := ⟨w.heap.size, j, .none⟩) hsz).trans (hcs j v hj)⟩
  have k1 := isFree_any (P i) (w.alloc (.cells (P i).l.toArray 33))
  rw [Pr.l] at k1
  have eW : w.alloc (.cells #[.int .i64 (P i).pid, .int .i64 (P i).st, .int .i64 (P i).par, .int .i64 (P i).ck, .int .i64 (P i).cn, .bool (P i).kil, .int .i32 (P i).sta] 33) = w.alloc (.cells (P i).l.toArray 33) := rfl
  have d0 := hcs 0 _ rfl
  have d1 := hcs 1 _ rfl
  have d2 := hcs 2 _ rfl
  have d3 := hcs 3 _ rfl
  have d4 := hcs 4 _ rfl
  have d5 := hcs 5 _ rfl
  have d6 := hcs 6 _ rfl
  clear hcs HT hsz h
  have H0 : Hid (cH P nx i = cH P nx i) := rfl
  go_enter Try.func62, Try.ntmps62
  go_upto_region 2 with fail
  clear eW c0 c1 c2 c3 c4 c5 c6
  have HX : Hid (∃ y, y = w.heap.size) := ⟨_, rfl⟩
  obtain ⟨y, hy⟩ := HX.out
  have HY : Hid (y = w.heap.size) := hy
  rw [← hy] at d0 d1 d2 d3 d4 d5 d6 KB HB ⊢
  clear hy HX
  rw [← Pr.l] at k1
  generalize w.alloc (.cells (P i).l.toArray 33) = w1 at *
  rw [Pr.l] at k1
  go_wp2_with fail
  refine k1.mono ?_
  rintro e w2 ⟨rfl, hb2⟩
  obtain ⟨hT, hB, hcs⟩ := KB.out w2 hb2
  have HT : Hid (Tb w2 b P nx) := hT
  have HB2 : Hid (Below y w w2) := hB
  have HL : Hid (y < w2.heap.size) := lt_cell (hcs 0 _ rfl)
  have HCC : Hid (∀ (j : Nat) (v : Value), (P i).l[j]? = some v → w2.cell? ⟨y, j, .none⟩ = some v) := hcs
  clear k1 hb2 KB d0 d1 d2 d3 d4 d5 d6 HB hT hB hcs
  by_cases hs : (P i).st = 0
  · have HE : Hid (cH P nx i = (pEq (P i) zP && (!((i : Int) == 0) || nx == 1))) := by rw [Hid, cH, if_pos hs]
    have gs : ((P i).st == 0) = true := by simpa using hs
    rw [gs]
    have d0 := HCC.out 0 _ rfl
    have d1 := HCC.out 1 _ rfl
    have d2 := HCC.out 2 _ rfl
    have d3 := HCC.out 3 _ rfl
    have d4 := HCC.out 4 _ rfl
    have d5 := HCC.out 5 _ rfl
    have d6 := HCC.out 6 _ rfl
    have cn := HT.out.cn
    have heq : ∀ W, (binOp .eql 33 (.agg #[.int .i64 (P i).pid, .int .i64 (P i).st, .int .i64 (P i).par, .int .i64 (P i).ck, .int .i64 (P i).cn, .bool (P i).kil, .int .i32 (P i).sta]) (.agg #[.int .i64 0, .int .i64 0, .int .i64 0, .int .i64 0, .int .i64 0, .bool false, .int .i32 0])).run Try.prog W = .ok (.bool (pEq (P i) zP)) W := fun W => eqlp (P i) zP W
    clear hs gs
    obtain ⟨t, ht⟩ : ∃ t, t = pEq (P i) zP := ⟨_, rfl⟩
    rw [← ht] at heq
    have HTT : Hid (t = pEq (P i) zP) := ht
    clear ht
    generalize P i = pp at *
    cases t
    · go_wp2
      go_ret
      exact ⟨by rw [HE.out, ← HTT.out]; simp, by rw [← HY.out]; exact HB2.out⟩
    · by_cases i0 : i = 0
      · have g0 : ((i : Int) == 0) = true := by simpa using i0
        have g1 : ((i : Int) != 0) = false := by simpa using i0
        have G0 : Hid (((i : Int) == 0) = true) := g0
        clear i0
        go_wp2
        go_ret
        exact ⟨by rw [HE.out, ← HTT.out, G0.out]; simp, by rw [← HY.out]; exact HB2.out⟩
      · have g0 : ((i : Int) == 0) = false := by simpa using i0
        have g1 : ((i : Int) != 0) = true := by simpa using i0
        have G0 : Hid (((i : Int) == 0) = false) := g0
        clear i0
        go_wp2
        go_ret
        exact ⟨by rw [HE.out, ← HTT.out, G0.out]; simp, by rw [← HY.out]; exact HB2.out⟩
  · have HE : Hid (cH P nx i = (cP P nx i && cR P i && fS (P i))) := by rw [Hid, cH, if_neg hs]
    have gs : ((P i).st == 0) = false := by simpa using hs
    rw [gs]
    clear hs gs
    have k2 := canHavePid_any HT.out i hi
    go_wp2_with fail
    refine k2.mono ?_
    rintro e w3 ⟨rfl, hb3⟩
    have HT3 : Hid (Tb w3 b P nx) := HT.out.bel hb3
    have HB3 : Hid (Below y w w3) := HB2.out.trans (hb3.mono (by have := HL.out; omega))
    have HC3 : Hid (∀ (j : Nat) (v : Value), (P i).l[j]? = some v → w3.cell? ⟨y, j, .none⟩ = some v) := fun j v hj => (hb3.cell (p := ⟨y, j, .none⟩) HL.out).trans (HCC.out j v hj)
    have HL3 : Hid (y < w3.heap.size) := Nat.lt_of_lt_of_le HL.out hb3.size
    clear k2 hb3 HT HB2 HCC HL
    cases h1 : cP P nx i
    · rw [h1] at HE
      go_wp2
      go_ret
      exact ⟨by rw [HE.out]; simp, by rw [← HY.out]; exact HB3.out⟩
    · rw [h1] at HE
      have k3 := canHaveParent_any HT3.out i hi
      go_wp2_with fail
      refine k3.mono ?_
      rintro e w4 ⟨rfl, hb4⟩
      have HB4 : Hid (Below y w w4) := HB3.out.trans (hb4.mono (by have := HL3.out; omega))
      have HC4 : Hid (∀ (j : Nat) (v : Value), (P i).l[j]? = some v → w4.cell? ⟨y, j, .none⟩ = some v) := fun j v hj => (hb4.cell (p := ⟨y, j, .none⟩) HL3.out).trans (HC3.out j v hj)
      have HL4 : Hid (y ≤ w4.heap.size) := by have h1 := HL3.out; have h2 := hb4.size; show y ≤ w4.heap.size; omega
      clear k3 hb4 HT3 HB3 HC3 HL3
      cases h2 : cR P i
      · rw [h2] at HE
        go_wp2
        go_ret
        exact ⟨by rw [HE.out]; simp, by rw [← HY.out]; exact HB4.out⟩
      · rw [h2] at HE
        have d0 := HC4.out 0 _ rfl
        have d1 := HC4.out 1 _ rfl
        have d2 := HC4.out 2 _ rfl
        have d3 := HC4.out 3 _ rfl
        have d4 := HC4.out 4 _ rfl
        have d5 := HC4.out 5 _ rfl
        have d6 := HC4.out 6 _ rfl
        have k4 := fitsState_any (P i) w4
        rw [Pr.l] at k4
        go_wp2_with fail
        refine k4.mono ?_
        rintro e w5 ⟨rfl, hb5⟩
        have HB5 : Hid (Below y w w5) := HB4.out.trans (hb5.mono HL4.out)
        clear k4 hb5 d0 d1 d2 d3 d4 d5 d6
        go_wp2
        go_ret
        exact ⟨by rw [HE.out]; simp, by rw [← HY.out]; exact HB5.out⟩
theorem wrongAt_any (a : Int) (w : World) : Calls Try.prog 61 #[.int .i64 a] w fun e w' => (∃ v, e = .returned v ∧ FaultIn w' 0 v a 4) ∧ Below w.heap.size w w' := by
  go_enter Try.func61, Try.ntmps61
  go_wp2
  go_ret
  exact ⟨⟨_, rfl, faultIn_new w 0 a 4 (Nat.zero_le _)⟩, below1 _ _⟩
/-- Where the first fault is. -/
def frm (P : Nat → Pr) (nx : Int) : Option Nat := if cN P nx = true then (List.range 64).find? (fun i => !cH P nx i) else some 64
/-- What From gives. -/
def FrP (P : Nat → Pr) (nx : Int) (w : World) (e : Ending) (w' : World) : Prop := Below w.heap.size w w' ∧ match frm P nx with
  | none => ∃ d, e = .returned (.tuple #[.pointer (some ⟨d, 0, .none⟩), .nilIface]) ∧ Tb w' d P nx ∧ w.heap.size ≤ d
  | some a => ∃ v, e = .returned (.tuple #[.pointer none, v]) ∧ FaultIn w' 0 v (a : Int) 4
theorem wpl_build2 {ops : Array Oper} {rest : List Oper} {o : Oper} {a : Act} {w : World} {Q : Exit → Act → World → Prop} (hg : o.guard = none) (t : TypeId) (parts : Array (Nat × Operand)) (ho : o.op = .build t parts) (cells : Array Value) (hb : Try.prog.built t (parts.map fun (i, x) => (i, a.eval x)).toList = some cells)
    (h : wpList Try.prog ops Q rest (a.put o.dst (.agg cells)) w) : wpList Try.prog ops Q (o :: rest) a w := by
  refine wpList_plain hg fun K hK => ?_
  unfold Oper.wp execOp
  simp only [ho, Sem.run_bind, run_build w t _ cells hb, Sem.run_pure, Result.andThen_ok]
  exact hK _ _ h
theorem built_tab (P : Nat → Pr) (nx : Int) : Try.prog.built 51 [(0, .agg (sl P).toArray), (1, .int .i64 nx)] = some (tl P nx).toArray := by kernel_rfl
theorem info_sl : (Try.prog.info? 34).map (·.size) = some 448 := by kernel_rfl
section
attribute [local irreducible] sl tl
set_option maxHeartbeats 4000000 in
theorem from_any (P : Nat → Pr) (nx : Int) (w : World) : Calls Try.prog 36 #[.agg (tl P nx).toArray] w (FrP P nx w) := by
  obtain ⟨T, hTT⟩ : ∃ T, T = (tl P nx).toArray := ⟨_, rfl⟩
  rw [← hTT]
  have HTT : Hid (T = (tl P nx).toArray) := hTT
  clear hTT
  go_enter Try.func36, Try.ntmps36
  go_upto_region 0 with fail
  refine wp_region_lit ?_
  refine wpList_boxed (P := P) (nx := nx) 1 0 _ rfl rfl rfl (congrArg Value.agg HTT.out) ?_
  intro w1 hT1 hb1
  simp only [Act.put, List.setIfInBounds_toArray, List.set_cons_zero, List.set_cons_succ]
  obtain ⟨x, hx⟩ : ∃ x, x = w.heap.size := ⟨_, rfl⟩
  rw [← hx] at hT1 hb1 ⊢
  have HX : Hid (x = w.heap.size) := hx
  have cn := hT1.cn
  have hle : x < w1.heap.size := hT1.lt
  have HH : Hid (Tb w1 x P nx ∧ Below x w w1) := ⟨hT1, hb1⟩
  clear hT1 hb1 hx HTT
  go_upto_region 1 with fail
  refine wp_region_lit ?_
  refine wpList_read rfl (.pointer (some ⟨x, 0, .none⟩)) (by go_simp) ?_
  simp only [Act.put, List.setIfInBounds_toArray, List.set_cons_zero, List.set_cons_succ]
  refine wpList_load_mid rfl 34 (.tmp 6) rfl x 0 rfl (sl P) _ (sl_range HH.out.1) Try.underlying34 rfl (by rw [sl_len]; exact info_sl) ?_
  simp only [Act.put, List.setIfInBounds_toArray, List.set_cons_zero, List.set_cons_succ]
  refine wpList_read rfl (.pointer (some ⟨x, 448, .none⟩)) (by go_simp) ?_
  simp only [Act.put, List.setIfInBounds_toArray, List.set_cons_zero, List.set_cons_succ]
  refine wpList_read rfl (.int .i64 nx) (by go_simp) ?_
  simp only [Act.put, List.setIfInBounds_toArray, List.set_cons_zero, List.set_cons_succ]
  refine wpl_build2 rfl 51 #[(0, .tmp 7), (1, .tmp 9)] rfl (tl P nx).toArray (by rw [List.map_toArray]; exact built_tab P nx) ?_
  simp only [Act.put, List.setIfInBounds_toArray, List.set_cons_zero, List.set_cons_succ]
  refine Great.wpList_boxTo rfl 51 (.tmp 10) rfl _ rfl w1.heap.size rfl (tl P nx).toArray rfl ?_
  simp only [Act.put, List.setIfInBounds_toArray, List.set_cons_zero, List.set_cons_succ]
  have H2 : Hid (Tb (w1.alloc (.cells (tl P nx).toArray 51)) w1.heap.size P nx ∧ Below x w (w1.alloc (.cells (tl P nx).toArray 51)) ∧ x ≤ w1.heap.size) := ⟨tb_new w1 P nx _, HH.out.2.trans ((below1 _ _).mono (by omega)), by omega⟩
  clear HH cn
  generalize w1.alloc (.cells (tl P nx).toArray 51) = w2 at *
  generalize w1.heap.size = d at *
  obtain ⟨S1, hS1⟩ : ∃ S, S = (sl P).toArray := ⟨_, rfl⟩
  obtain ⟨T1, hT1⟩ : ∃ T, T = (tl P nx).toArray := ⟨_, rfl⟩
  rw [← hS1, ← hT1]
  clear hS1 hT1
  have k1 := canBeNext_any H2.out.1
  go_wp2_with fail
  refine k1.mono ?_
  rintro e w3 ⟨rfl, hb3⟩
  have H3 : Hid (Tb w3 d P nx ∧ Below x w w3 ∧ x ≤ d ∧ d < w3.heap.size) := ⟨H2.out.1.bel hb3, H2.out.2.1.trans (hb3.mono (by have := H2.out.1.lt; have := H2.out.2.2; omega)), H2.out.2.2, (H2.out.1.bel hb3).lt⟩
  clear k1 hb3 H2
  cases hN : cN P nx with
  | false =>
    have HF : Hid (frm P nx = some 64) := by rw [Hid, frm, hN]; rfl
    have k2 := wrongAt_any 64 w3
    go_wp2_with fail
    refine k2.mono ?_
    rintro e w4 ⟨⟨v, rfl, hF⟩, hb4⟩
    have HF4 : Hid (FaultIn w4 0 v 64 4 ∧ Below x w w4) := ⟨hF, H3.out.2.1.trans (hb4.mono (by have := H3.out; omega))⟩
    clear k2 hF hb4
    go_wp2
    go_ret2
    refine ⟨by rw [← HX.out]; exact HF4.out.2, ?_⟩
    rw [HF.out]
    exact ⟨v, rfl, HF4.out.1⟩
  | true =>
    have HN : Hid (cN P nx = true) := hN
    clear hN
    go_wp2
    go_loopw [16] (fun i wr => ∃ n : Nat, n ≤ 64 ∧ i = .int .i64 n ∧ Hid ((∀ j, j < n → cH P nx j = true) ∧ Tb wr d P nx ∧ Below x w wr ∧ x ≤ d)) (fun i _ => (64 - intOf i).toNat)
    case atStart => exact ⟨0, by omega, rfl, fun j hj => by omega, H3.out.1, H3.out.2.1, H3.out.2.2.1⟩
    case round =>
      clear H3
      obtain ⟨n, hn, rfl, HV⟩ := hrel
      by_cases hl : n < 64
      · have g0 : (n : Int) < 64 := by omega
        have k2 := canHave_any HV.out.2.1 n hl
        go_wp2_with fail
        refine k2.mono ?_
        rintro e w4 ⟨rfl, hb4⟩
        have H4 : Hid ((∀ j, j < n → cH P nx j = true) ∧ Tb w4 d P nx ∧ Below x w w4 ∧ x ≤ d) := ⟨HV.out.1, HV.out.2.1.bel hb4, HV.out.2.2.1.trans (hb4.mono (by have := HV.out.2.1.lt; have := HV.out.2.2.2; omega)), HV.out.2.2.2⟩
        clear k2 hb4 HV
        cases hc : cH P nx n with
        | true =>
          have HC : Hid (∀ j, j < n + 1 → cH P nx j = true) := fun j hj => by
            by_cases e : j = n
            · rw [e]; exact hc
            · exact H4.out.1 j (by omega)
          clear hc
          go_wp2
          exact ⟨⟨n + 1, by omega, rfl, HC.out, H4.out.2⟩, by simp only [intOf]; omega⟩
        | false =>
          have HF : Hid (frm P nx = some n) := by
            rw [Hid, frm, if_pos HN.out]
            exact find_range _ 64 n hl (fun j hj => by simp [H4.out.1 j hj]) (by simp [hc])
          clear hc
          have k3 := wrongAt_any (n : Int) w4
          go_wp2_with fail
          refine k3.mono ?_
          rintro e w5 ⟨⟨v, rfl, hF⟩, hb5⟩
          have HF4 : Hid (FaultIn w5 0 v (n : Int) 4 ∧ Below x w w5) := ⟨hF, H4.out.2.2.1.trans (hb5.mono (by have := H4.out.2.1.lt; have := H4.out.2.2.2; omega))⟩
          clear k3 hF hb5
          go_wp2
          go_ret2
          refine ⟨by rw [← HX.out]; exact HF4.out.2, ?_⟩
          rw [HF.out]
          exact ⟨v, rfl, HF4.out.1⟩
      · obtain rfl : n = 64 := by omega
        have HF : Hid (frm P nx = none) := by
          rw [Hid, frm, if_pos HN.out, List.find?_eq_none]
          intro j hj
          simp [HV.out.1 j (by simpa using hj)]
        go_wp2
        go_ret2
        refine ⟨by rw [← HX.out]; exact HV.out.2.2.1, ?_⟩
        rw [HF.out]
        exact ⟨d, rfl, HV.out.2.1, by rw [← HX.out]; exact HV.out.2.2.2⟩
end
end
end Go.Proofs.Ytnlbomggadflmab
