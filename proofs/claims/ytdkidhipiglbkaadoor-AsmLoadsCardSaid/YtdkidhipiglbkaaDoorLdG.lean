import Derived.Test.YtdkidhipiglbkaaDoorLdF
import Derived.Laws.StructEq
import Derived.RegionTactic
import Derived.BigRegion
import Derived.BigQuiet
namespace Go.Proofs.YtdkidhipiglbkaaDoor
open Go.RowKit
set_option linter.unusedVariables false
set_option linter.unusedSimpArgs false
theorem ref_any (n : Nat) : ∀ (x v rd : Int) (w : World), wrap64 x = v → 0 ≤ rd → rd < 32 → I64 v → -(1073741824 * 2048 ^ n) ≤ v → v ≤ 1073741824 * 2048 ^ n → n ≤ 3 →
    Calls Tryd.prog 6 #[.int .u64 x, .int .i64 rd] w (Gv rd (ldF n rd v) w) := by
  have hB : ∀ (x v rd : Int) (w : World), wrap64 x = v → 0 ≤ rd → rd < 32 → I64 v → -2147483648 ≤ v ∧ v < 2147483648 → Calls Tryd.prog 6 #[.int .u64 x, .int .i64 rd] w (Gv rd (ldB rd v) w) := by
    intro x v rd w hx r0 r1 hv hm
    by_cases hs : -2048 ≤ v ∧ v < 2048
    · rw [ldB_small rd v hs]
      exact ref_small x v rd w hx r0 r1 hv hs
    · rw [ldB_mid rd v hs]
      exact ref_mid x v _ rd w hx r0 r1 hv (by omega) hm rfl
  induction n with
  | zero =>
    intro x v rd w hx r0 r1 hv b0 b1 _
    exact hB x v rd w hx r0 r1 hv (by omega)
  | succ n ih =>
    intro x v rd w hx r0 r1 hv b0 b1 hn
    simp only [ldF]
    by_cases hm : -2147483648 ≤ v ∧ v < 2147483648
    · rw [if_pos hm]
      exact hB x v rd w hx r0 r1 hv hm
    · rw [if_neg hm]
      have hp : (1 : Int) ≤ 2048 ^ n := by have := Int.pow_pos (n := 2048) (m := n) (by decide); omega
      have ep : (2048 : Int) ^ (n + 1) = 2048 ^ n * 2048 := Int.pow_succ _ _
      rw [ep] at b0 b1
      have o := od_i64 v (1073741824 * 2048 ^ n) hv (by omega) (by omega) (by omega)
      have ll := ldF_len n rd (od 64 (hi v))
      refine ref_big x v _ rd _ (ldF n rd (od 64 (hi v))) w hx r0 r1 hv (by omega) rfl rfl (by omega) ?_
      intro W
      exact ih _ _ rd W (wrap_wrap _ o.1) r0 r1 o.1 (by omega) (by omega) (by omega)
theorem list6 {α : Type} {l : List α} (h : l.length = 6) : ∃ a b c d e f, l = [a, b, c, d, e, f] := by
  match l, h with
  | [a, b, c, d, e, f], _ => exact ⟨a, b, c, d, e, f, rfl⟩
theorem neq_insn (c0 c1 c2 c3 c4 c5 : Int) (w : World) : (binOp .neq 29 (.agg #[.int .i64 c0, .int .i64 c1, .int .i64 c2, .int .i64 c3, .int .i64 c4, .int .i64 c5]) (.agg #[.int .i64 c0, .int .i64 c1, .int .i64 c2, .int .i64 c3, .int .i64 c4, .int .i64 c5])).run Tryd.prog w = .ok (.bool false) w := by
  have h : (Tryd.prog.fieldsOf 29).toList.map (fun f => (f.name, f.type, f.offset)) = [("Op", 3, 0), ("Rd", 3, 1), ("Rs1", 3, 2), ("Rs2", 3, 3), ("Imm", 2, 4), ("Csr", 3, 5)] := by kernel_rfl
  have hl : (Tryd.prog.fieldsOf 29).toList.length = 6 := by
    have := congrArg List.length h
    simpa using this
  obtain ⟨f0, f1, f2, f3, f4, f5, e⟩ := list6 hl
  rw [e] at h
  simp only [List.map_cons, List.map_nil, List.cons.injEq, Prod.mk.injEq, and_true] at h
  obtain ⟨⟨a1, a2, a3⟩, ⟨b1, b2, b3⟩, ⟨d1, d2, d3⟩, ⟨e1, e2, e3⟩, ⟨g1, g2, g3⟩, i1, i2, i3⟩ := h
  have p0 : ∀ w : World, (part 3 #[.int .i64 c0, .int .i64 c1, .int .i64 c2, .int .i64 c3, .int .i64 c4, .int .i64 c5] 0).run Tryd.prog w = .ok (.int .i64 c0) w := fun w => by kernel_rfl
  have p1 : ∀ w : World, (part 3 #[.int .i64 c0, .int .i64 c1, .int .i64 c2, .int .i64 c3, .int .i64 c4, .int .i64 c5] 1).run Tryd.prog w = .ok (.int .i64 c1) w := fun w => by kernel_rfl
  have p2 : ∀ w : World, (part 3 #[.int .i64 c0, .int .i64 c1, .int .i64 c2, .int .i64 c3, .int .i64 c4, .int .i64 c5] 2).run Tryd.prog w = .ok (.int .i64 c2) w := fun w => by kernel_rfl
  have p3 : ∀ w : World, (part 3 #[.int .i64 c0, .int .i64 c1, .int .i64 c2, .int .i64 c3, .int .i64 c4, .int .i64 c5] 3).run Tryd.prog w = .ok (.int .i64 c3) w := fun w => by kernel_rfl
  have p4 : ∀ w : World, (part 2 #[.int .i64 c0, .int .i64 c1, .int .i64 c2, .int .i64 c3, .int .i64 c4, .int .i64 c5] 4).run Tryd.prog w = .ok (.int .i64 c4) w := fun w => by kernel_rfl
  have p5 : ∀ w : World, (part 3 #[.int .i64 c0, .int .i64 c1, .int .i64 c2, .int .i64 c3, .int .i64 c4, .int .i64 c5] 5).run Tryd.prog w = .ok (.int .i64 c5) w := fun w => by kernel_rfl
  rw [run_neq_struct, show (10000 : Nat) = 9999 + 1 from rfl, run_equalIn_struct w 9999 29 _ _ (by kernel_rfl) (by kernel_rfl), e]
  simp [Op.eqFields, a1, a2, a3, b1, b2, b3, d1, d2, d3, e1, e2, e3, g1, g2, g3, i1, i2, i3, p0, p1, p2, p3, p4, p5, run_equalIn_int _ 9998 3 _ _ _ _ Tryd.underlying3, run_equalIn_int _ 9998 2 _ _ _ _ Tryd.underlying2]
theorem guard_insn (op : BinOp) (x y : Operand) (xs ys : Array Value) (w : World) : (eqGuard op 29 x y (.agg xs) (.agg ys)).run Tryd.prog w = .ok () w := run_eqGuard_agg _ _ _ _ _ _ _ (by kernel_rfl)
theorem cs_get (rd : Int) (L : List (Int × Int × Int)) : ∀ (i : Nat) (x : Int × Int × Int) (j : Nat), L[i]? = some x → j < 6 → (cs rd L)[i * 6 + j]? = (ins x.1 rd x.2.1 x.2.2)[j]? := by
  induction L with
  | nil => intro i x j h _; simp at h
  | cons y L ih =>
    intro i x j h hj
    have e : cs rd (y :: L) = ins y.1 rd y.2.1 y.2.2 ++ cs rd L := by simp [cs]
    have l6 : (ins y.1 rd y.2.1 y.2.2).length = 6 := rfl
    rw [e]
    cases i with
    | zero =>
      simp only [List.getElem?_cons_zero, Option.some.injEq] at h
      subst h
      rw [List.getElem?_append_left (by omega), Nat.zero_mul, Nat.zero_add]
    | succ i =>
      simp only [List.getElem?_cons_succ] at h
      rw [List.getElem?_append_right (by omega), l6, ← ih i x j h hj]
      congr 1
      omega
/-- What an element's cells hold. -/
def At6 (w : World) (g i : Nat) (rd : Int) (x : Int × Int × Int) : Prop := w.cell? ⟨g, i * 6, .none⟩ = some (.int .i64 x.1) ∧ w.cell? ⟨g, i * 6 + 1, .none⟩ = some (.int .i64 rd) ∧ w.cell? ⟨g, i * 6 + 2, .none⟩ = some (.int .i64 x.2.1) ∧ w.cell? ⟨g, i * 6 + 3, .none⟩ = some (.int .i64 0) ∧ w.cell? ⟨g, i * 6 + 4, .none⟩ = some (.int .i64 x.2.2) ∧ w.cell? ⟨g, i * 6 + 5, .none⟩ = some (.int .i64 0)
theorem own_at {w : World} {base c : Nat} {rd : Int} {p : Option Addr} {L : List (Int × Int × Int)} (h : w.ownsRow base 29 6 (.slice p L.length c) L.length (cs rd L)) (hL : 0 < L.length) :
    ∃ g, p = some ⟨g, 0, .none⟩ ∧ L.length ≤ c ∧ c ≤ maxLen ∧ ∀ i x, L[i]? = some x → At6 w g i rd x := by
  rcases h.2 with ⟨_, h0⟩ | ⟨g, cap, cur, hv, hb, hg, hn, hm, _⟩
  · omega
  · simp only [Value.slice.injEq, true_and] at hv
    obtain ⟨rfl, rfl⟩ := hv
    refine ⟨g, rfl, hn, hm, fun i x hx => ?_⟩
    have hc := fun (j : Nat) (u : Value) (hj : j < 6) (hu : (ins x.1 rd x.2.1 x.2.2)[j]? = some u) => h.cells (g := g) rfl (i * 6 + j) u ((cs_get rd L i x j hx hj).trans hu)
    simp only [addr_add, Nat.zero_add] at hc
    exact ⟨hc 0 _ (by omega) rfl, hc 1 _ (by omega) rfl, hc 2 _ (by omega) rfl, hc 3 _ (by omega) rfl, hc 4 _ (by omega) rfl, hc 5 _ (by omega) rfl⟩
attribute [local go_sem] neq_insn guard_insn
set_option maxHeartbeats 4000000 in
set_option maxRecDepth 100000 in
theorem same_any (g1 g2 c1 c2 : Nat) (rd : Int) (L : List (Int × Int × Int)) (w : World) (hL : L.length < 100) (k1 : L.length ≤ c1) (k2 : L.length ≤ c2) (m1 : c1 ≤ maxLen) (m2 : c2 ≤ maxLen)
    (h1 : ∀ i x, L[i]? = some x → At6 w g1 i rd x) (h2 : ∀ i x, L[i]? = some x → At6 w g2 i rd x) :
    Calls Tryd.prog 5 #[.slice (some ⟨g1, 0, .none⟩) L.length c1, .slice (some ⟨g2, 0, .none⟩) L.length c2] w fun e w' => e = .returned (.bool true) ∧ ∃ k, w' = w.drewN k := by
  have H1 : Hid (∀ i x, L[i]? = some x → At6 w g1 i rd x) := h1
  have H2 : Hid (∀ i x, L[i]? = some x → At6 w g2 i rd x) := h2
  clear h1 h2
  have m1 : c1 ≤ 9223372036854775807 := m1
  have m2 : c2 ≤ 9223372036854775807 := m2
  generalize hn : L.length = n at *
  have HN : Hid (L.length = n) := hn
  clear hn
  go_enter Tryd.func5, Tryd.ntmps5
  go_wp2
  go_loopw [5] (fun k wr => ∃ i : Nat, i ≤ n ∧ k = .int .i64 i ∧ ∃ j, wr = w.drewN j) (fun k _ => (n - intOf k).toNat)
  case atStart => exact ⟨0, by omega, rfl, 0, rfl⟩
  case round =>
    obtain ⟨i, hi, rfl, j, rfl⟩ := hrel
    by_cases hlt : i < n
    · have g0 : (i : Int) < n := by omega
      have hx : ∃ x, L[i]? = some x := ⟨L[i]'(by rw [HN.out]; exact hlt), by simp⟩
      obtain ⟨x, hx⟩ := hx
      obtain ⟨a0, a1, a2, a3, a4, a5⟩ := H1.out i x hx
      obtain ⟨b0, b1, b2, b3, b4, b5⟩ := H2.out i x hx
      obtain ⟨x0, x1, x2⟩ := x
      simp only at a0 a1 a2 a3 a4 a5 b0 b1 b2 b3 b4 b5
      clear hx
      go_wp2
      go_region
      go_wp2
      exact ⟨⟨i + 1, by omega, rfl, j + 1, rfl⟩, by simp only [intOf]; omega⟩
    · obtain rfl : i = n := by omega
      clear hi hlt
      go_wp2
      go_ret
      exact ⟨rfl, j, rfl⟩
theorem same_nil (w : World) : Calls Tryd.prog 5 #[.slice none 0 0, .slice none 0 0] w fun e w' => e = .returned (.bool true) ∧ w' = w := by
  go_enter Tryd.func5, Tryd.ntmps5
  go_wp2
  go_loopw [5] (fun k wr => k = .int .i64 0 ∧ wr = w) (fun _ _ => 0)
  case atStart => exact ⟨rfl, rfl⟩
  case round =>
    obtain ⟨rfl, rfl⟩ := hrel
    go_wp2
    go_ret
    exact ⟨rfl, rfl⟩
theorem nil23 (w : World) : (binOp .eql 23 (.slice none 0 0) (.slice none 0 0)).run Tryd.prog w = .ok (.bool true) w := by kernel_rfl
theorem gnil23 (x y : Operand) (w : World) : (eqGuard .eql 23 x y (.slice none 0 0) (.slice none 0 0)).run Tryd.prog w = .ok () w := by kernel_rfl
attribute [local go_sem] nil23 gnil23
theorem asm_none (x rd : Int) (w : World) (h : ¬ (0 ≤ rd ∧ rd < 32)) : Calls Tryd.prog 3 #[.int .u64 x, .int .i64 rd] w fun e w' => e = .returned (.bool true) ∧ Below w.heap.size w w' := by
  have c1 := load_none x rd w h
  have c2 := ref_none x rd w h
  have c3 := same_nil w
  clear h
  go_enter Tryd.func3, Tryd.ntmps3
  go_wp2_with fail
  refine c1.mono ?_
  rintro e w1 ⟨rfl, rfl⟩
  go_wp2_with fail
  refine c2.mono ?_
  rintro e w1 ⟨rfl, rfl⟩
  go_wp2_with fail
  refine c3.mono ?_
  rintro e w1 ⟨rfl, rfl⟩
  go_wp2
  go_ret
  exact ⟨rfl, Below.refl _ _⟩
theorem at6_keep {B : Nat} {w w' : World} {g i : Nat} {rd : Int} {x : Int × Int × Int} (h : At6 w g i rd x) (hb : Below B w w') (hg : g < B) : At6 w' g i rd x := by
  obtain ⟨k0, k1, k2, k3, k4, k5⟩ := h
  exact ⟨(hb.cell hg).trans k0, (hb.cell hg).trans k1, (hb.cell hg).trans k2, (hb.cell hg).trans k3, (hb.cell hg).trans k4, (hb.cell hg).trans k5⟩
theorem own_lt {w : World} {base e sz n c g : Nat} {xs : List Value} (h : w.ownsRow base e sz (.slice (some ⟨g, 0, .none⟩) n c) n xs) : g < w.heap.size := by
  rcases h.2 with ⟨hv, _⟩ | ⟨g', cap, cur, hv, hb, hg, _⟩
  · cases hv
  · simp only [Value.slice.injEq, Option.some.injEq, Addr.mk.injEq, and_true, true_and] at hv
    obtain ⟨rfl, rfl⟩ := hv
    exact (Array.getElem?_eq_some_iff.1 hg).1
set_option maxHeartbeats 4000000 in
set_option maxRecDepth 100000 in
theorem asm_some (x rd : Int) (w : World) (L : List (Int × Int × Int)) (hL : L.length ≤ 8) (hp : 0 < L.length) (c1 : Calls Tryd.prog 4 #[.int .u64 x, .int .i64 rd] w (Gv rd L w)) (c2 : ∀ W, Calls Tryd.prog 6 #[.int .u64 x, .int .i64 rd] W (Gv rd L W)) :
    Calls Tryd.prog 3 #[.int .u64 x, .int .i64 rd] w fun e w' => e = .returned (.bool true) ∧ Below w.heap.size w w' := by
  go_enter Tryd.func3, Tryd.ntmps3
  go_wp2_with fail
  refine c1.mono ?_
  rintro e w1 ⟨p1, q1, rfl, o1, b1⟩
  obtain ⟨g1, rfl, m1, n1, A1⟩ := own_at o1 hp
  have l1 := own_lt o1
  have HA1 : Hid (∀ i x, L[i]? = some x → At6 w1 g1 i rd x) := A1
  have HB1 : Hid (Below w.heap.size w w1) := b1
  have HM1 : Hid (L.length ≤ q1 ∧ q1 ≤ maxLen) := ⟨m1, n1⟩
  clear A1 b1 o1 c1 m1 n1
  go_wp2_with fail
  refine (c2 w1).mono ?_
  rintro e w2 ⟨p2, q2, rfl, o2, b2⟩
  obtain ⟨g2, rfl, m2, n2, A2⟩ := own_at o2 hp
  have HA2 : Hid (∀ i x, L[i]? = some x → At6 w2 g2 i rd x) := A2
  have HA3 : Hid (∀ i x, L[i]? = some x → At6 w2 g1 i rd x) := fun i x hx => at6_keep (HA1.out i x hx) b2 l1
  have HB2 : Hid (Below w.heap.size w w2) := HB1.out.trans (b2.mono HB1.out.size)
  have HM2 : Hid (L.length ≤ q2 ∧ q2 ≤ maxLen) := ⟨m2, n2⟩
  clear A2 b2 o2 c2 m2 n2
  go_wp2_with fail
  refine (same_any g1 g2 q1 q2 rd L w2 (by omega) HM1.out.1 HM2.out.1 HM1.out.2 HM2.out.2 HA3.out HA2.out).mono ?_
  rintro e w3 ⟨rfl, k, rfl⟩
  generalize hn : L.length = n at *
  have z1 : (n : Int) ≤ 8 := by omega
  have z2 : 0 < (n : Int) := by omega
  clear hn
  go_wp2
  go_ret
  exact ⟨rfl, below_drewN HB2.out k⟩
theorem asmLoads_any (x rd : Int) (w : World) (hx : W64 x) (hT : Laid w) (h0 : 0 < w.heap.size) : Calls Tryd.prog 3 #[.int .u64 x, .int .i64 rd] w fun e w' => e = .returned (.bool true) ∧ Below w.heap.size w w' := by
  by_cases h : 0 ≤ rd ∧ rd < 32
  · have hv : I64 (wrap64 x) := by unfold I64 wrap64; omega
    have hl := ldF_len 3 rd (wrap64 x)
    have e : (1073741824 : Int) * 2048 ^ 3 = 9223372036854775808 := by decide
    obtain ⟨v0, v1⟩ := hv
    refine asm_some x rd w (ldF 3 rd (wrap64 x)) (by omega) hl.2 (load_any 3 x _ rd w rfl h.1 h.2 ⟨v0, v1⟩ (by omega) (by omega) hT h0 (by omega)) fun W => ref_any 3 x _ rd W rfl h.1 h.2 ⟨v0, v1⟩ (by omega) (by omega) (by omega)
  · exact asm_none x rd w h
end Go.Proofs.YtdkidhipiglbkaaDoor
