import Derived.Test.YtblmkkhiojbcjaaGreatUo
namespace Go.Proofs.YtblmkkhiojbcjaaGreat
open Go Go.RowKit
attribute [local go_sem] Oper.semAt_some
set_option linter.unusedVariables false
set_option linter.unusedSimpArgs false
section
variable {w : World} {p b m N : Nat} {B : Nat → Int} {L : List Nat} {F : Nat → Option Nat} {lf : Nat → Nat → Int}
theorem PT.way (h : PT N L B F lf) (va : Int) (hl : lf (y0 va) (i0 va) ≠ 0) : ∃ g q, F (y1 va) = some g ∧ F (y0 va) = some q := by
  have h0 : F (y0 va) ≠ none := fun e => hl (h.ln _ e _)
  have h1 : F (y1 va) ≠ none := h.up (y1 va) (i1 va) (y1_le va).1 (i1_lt va) h0
  cases e1 : F (y1 va) with
  | none => exact absurd e1 h1
  | some g =>
    cases e0 : F (y0 va) with
    | none => exact absurd e0 h0
    | some q => exact ⟨g, q, rfl, rfl⟩
theorem look_zero (h : PT N L B F lf) (hN : N ≤ 4096) {r : Nat} (hr : F 0 = some r) (va : Int) (hz : lf (y0 va) (i0 va) = 0) : (look N L B (ad r) va).k = 0 := by
  cases h1 : F (y1 va) with
  | none => rw [look_2 h hr va h1]
  | some g =>
    cases h0 : F (y0 va) with
    | none => rw [look_1 h hN hr va h1 h0]
    | some q =>
      rw [look_0 h hN hr va h1 h0, hz]
      exact kd_zero 0
/-- P4.7: what taking a page away comes to. -/
def UnP (w : World) (p b m N : Nat) (L : List Nat) (F : Nat → Option Nat) (lf : Nat → Nat → Int) (va : Int) (e : Ending) (w' : World) : Prop := e = .returned (.tuple #[.int .u64 (lf (y0 va) (i0 va)), .int .i64 0]) ∧ ∃ g q B' L' F' lf', F (y1 va) = some g ∧ F (y0 va) = some q ∧ PT N L' B' F' lf' ∧ PrR L F (setE lf (y0 va) (i0 va) 0) va q g L' F' lf' ∧ Ram w' p b m N B' L' ∧ Fra p b m w w'
set_option maxRecDepth 4000 in
set_option maxHeartbeats 2000000 in
theorem unmap_some {r : Nat} (h : Ram w p b m N B L) (hP : PT N L B F lf) (hr : F 0 = some r) (va : Int) (hv : 0 ≤ va ∧ va < 274877906944 ∧ va % 4096 = 0) (hl : lf (y0 va) (i0 va) ≠ 0) :
    Calls Tryz.prog 88 #[.pointer (some ⟨p, 0, .none⟩), .int .u64 (ad r), .int .u64 va] w (UnP w p b m N L F lf va) := by
  have hN := h.mem.n2
  obtain ⟨g1, q0, e1, e0⟩ := hP.way va hl
  have hrN := hP.held 0 r hr
  have hrb := st_node r va 0 N hrN.2.1 hN
  have hrb2 : 0 ≤ ad r ∧ ad r < 18446744073709551616 := by unfold ad; omega
  have c38 := isMade_any h
  have c40 := userPage_any va ⟨hv.1, by omega⟩ w
  rw [show decide (va % 4096 = 0 ∧ va < 274877906944) = true by simpa using ⟨hv.2.2, hv.2.1⟩] at c40
  have c42 := isNode_any h (ad r) hrb2
  rw [hP.ndB hr] at c42
  have hk2 : kd (lf (y0 va) (i0 va)) 0 = 2 := by
    rcases hP.lv (y0 va) (i0 va) with h1 | h1
    · exact absurd h1 hl
    · exact h1.1
  have c39 : ∀ W, Below w.heap.size w W → Calls Tryz.prog 102 #[.pointer (some ⟨p, 0, .none⟩), .int .u64 (ad r), .int .u64 va, .agg #[]] W fun e w' => e = .returned (.agg #[.int .u64 (st (ad q0) va 0), .int .u64 (st (ad g1) va 1), .int .u64 (st (ad r) va 2), .int .i64 0, .int .u64 (lf (y0 va) (i0 va)), .int .i64 2]) ∧ Below W.heap.size W w' := fun W bW => by
    have := look_any (h.below bW) (ad r) va hrb2 ⟨hv.1, by omega⟩
    rw [look_0 hP hN hr va e1 e0, hk2] at this
    exact this
  have c47 : ∀ W, Below w.heap.size w W → Calls Tryz.prog 116 #[.pointer (some ⟨p, 0, .none⟩), .int .u64 (st (ad q0) va 0), .int .i64 8, .int .u64 0] W fun e w' => e = .returned (.bool true) ∧ Ram w' p b m N (over B (q0 * 4096 + i0 va * 8) (le 0 8)) L ∧ Fra p b m W w' := fun W bW => store_r (h.below bW) q0 va 0 (hP.ndB e0)
  have hP2 := hP.leaf (v := 0) (y0_ge va) e0 (i0_lt va) (.inl rfl)
  have c48 : ∀ W, Ram W p b m N (over B (q0 * 4096 + i0 va * 8) (le 0 8)) L → Calls Tryz.prog 117 #[.pointer (some ⟨p, 0, .none⟩), .agg #[.int .u64 (st (ad q0) va 0), .int .u64 (st (ad g1) va 1), .int .u64 (st (ad r) va 2), .int .i64 0, .int .u64 (lf (y0 va) (i0 va)), .int .i64 2]] W fun x w' => x = .returned (.tuple #[]) ∧ ∃ B' L' F' lf', PT N L' B' F' lf' ∧ PrR L F (setE lf (y0 va) (i0 va) 0) va q0 g1 L' F' lf' ∧ Ram w' p b m N B' L' ∧ Fra p b m W w' := fun W hW => prune_any hW hP2 hr va e1 e0 0 _ 2
  have hp : p < w.heap.size := h.mem.plt
  have hbb : b < w.heap.size := h.mem.blt
  have hm : m < w.heap.size := h.mem.mlt
  have H39 : Hid (∀ W, Below w.heap.size w W → Calls Tryz.prog 102 #[.pointer (some ⟨p, 0, .none⟩), .int .u64 (ad r), .int .u64 va, .agg #[]] W fun e w' => e = .returned (.agg #[.int .u64 (st (ad q0) va 0), .int .u64 (st (ad g1) va 1), .int .u64 (st (ad r) va 2), .int .i64 0, .int .u64 (lf (y0 va) (i0 va)), .int .i64 2]) ∧ Below W.heap.size W w') := c39
  have H47 : Hid (∀ W, Below w.heap.size w W → Calls Tryz.prog 116 #[.pointer (some ⟨p, 0, .none⟩), .int .u64 (st (ad q0) va 0), .int .i64 8, .int .u64 0] W fun e w' => e = .returned (.bool true) ∧ Ram w' p b m N (over B (q0 * 4096 + i0 va * 8) (le 0 8)) L ∧ Fra p b m W w') := c47
  have H48 : Hid (∀ W, Ram W p b m N (over B (q0 * 4096 + i0 va * 8) (le 0 8)) L → Calls Tryz.prog 117 #[.pointer (some ⟨p, 0, .none⟩), .agg #[.int .u64 (st (ad q0) va 0), .int .u64 (st (ad g1) va 1), .int .u64 (st (ad r) va 2), .int .i64 0, .int .u64 (lf (y0 va) (i0 va)), .int .i64 2]] W fun x w' => x = .returned (.tuple #[]) ∧ ∃ B' L' F' lf', PT N L' B' F' lf' ∧ PrR L F (setE lf (y0 va) (i0 va) 0) va q0 g1 L' F' lf' ∧ Ram w' p b m N B' L' ∧ Fra p b m W w') := c48
  have HE : Hid (F (y1 va) = some g1 ∧ F (y0 va) = some q0) := ⟨e1, e0⟩
  have HT : Hid (∃ tp, tp = lf (y0 va) (i0 va)) := ⟨_, rfl⟩
  obtain ⟨tp, htp⟩ := HT.out
  have HTP : Hid (tp = lf (y0 va) (i0 va)) := htp
  rw [← htp] at H39 H48
  clear h hP hP2 c39 c47 c48 hrN hrb hrb2 e1 e0 hr hk2 hl htp HT
  generalize st (ad q0) va 0 = a0 at *
  generalize st (ad g1) va 1 = a1 at *
  generalize st (ad r) va 2 = a2 at *
  go_enter Tryz.func88, Tryz.ntmps88
  go_upto_region 7 with first | (go_at_call 111; refine c38.mono ?_; rintro _ w1 ⟨rfl, e1⟩; obtain rfl : w = w1 := e1.symm) | (go_at_call 112; refine c40.mono ?_; rintro _ w1 ⟨rfl, e1⟩; obtain rfl : w = w1 := e1.symm) | (go_at_call 93; refine c42.mono ?_; rintro _ w1 ⟨rfl, b1⟩; have H1 : Hid (Below w.heap.size w w1) := b1; clear b1 c42)
  go_upto_region 8 with (go_at_call 102; refine (H39.out _ H1.out).mono ?_; rintro _ w2 ⟨rfl, b2⟩; have H2 : Hid (Below w.heap.size w w2) := H1.out.trans (b2.mono H1.out.size); clear b2)
  obtain ⟨w3, hw3⟩ : ∃ w3, w3 = w2.alloc (.cells #[.int .u64 a0, .int .u64 a1, .int .u64 a2, .int .i64 0, .int .u64 tp, .int .i64 2] 131) := ⟨_, rfl⟩
  have b3 : Below w2.heap.size w2 w3 := by rw [hw3]; exact below1 _ _
  have P3 : C6 w3 w2.heap.size (.int .u64 a0) (.int .u64 a1) (.int .u64 a2) (.int .i64 0) (.int .u64 tp) (.int .i64 2) := by rw [hw3]; exact C6.new _ _ _ _ _ _ _ _
  have H3 : Hid (Below w.heap.size w w3 ∧ C6 w3 w2.heap.size (.int .u64 a0) (.int .u64 a1) (.int .u64 a2) (.int .i64 0) (.int .u64 tp) (.int .i64 2) ∧ w.heap.size ≤ w2.heap.size) := ⟨H2.out.trans (b3.mono H2.out.size), P3, H2.out.size⟩
  rw [← hw3]
  clear hw3 b3
  have k0 := P3.c0
  have k3 := P3.c3
  have k5 := P3.c5
  clear P3
  go_upto_region 11 with (go_at_call 116; refine (H47.out _ H3.out.1).mono ?_; rintro _ w4 ⟨rfl, r4, f4⟩; have H4 : Hid (Ram w4 p b m N (over B (q0 * 4096 + i0 va * 8) (le 0 8)) L ∧ Fra p b m w w4 ∧ C6 w4 w2.heap.size (.int .u64 a0) (.int .u64 a1) (.int .u64 a2) (.int .i64 0) (.int .u64 tp) (.int .i64 2)) := ⟨r4, (Fra.below H3.out.1).trans f4, H3.out.2.1.fra f4 (by have := H3.out.2.2; omega) (by have := H3.out.2.2; omega) (by have := H3.out.2.2; omega)⟩; clear r4 f4)
  clear k0 k3 k5
  have k0 := H4.out.2.2.c0
  have k1 := H4.out.2.2.c1
  have k2 := H4.out.2.2.c2
  have k3 := H4.out.2.2.c3
  have k4 := H4.out.2.2.c4
  have k5 := H4.out.2.2.c5
  go_upto_region 12 with (go_at_call 117; refine (H48.out _ H4.out.1).mono ?_; rintro _ w5 ⟨rfl, B', L', F', lf', u1, u2, u3, u4⟩; have H5 : Hid (PT N L' B' F' lf' ∧ PrR L F (setE lf (y0 va) (i0 va) 0) va q0 g1 L' F' lf' ∧ Ram w5 p b m N B' L' ∧ Fra p b m w4 w5) := ⟨u1, u2, u3, u4⟩; clear u1 u2 u3 u4)
  clear k0 k1 k2 k3 k4 k5
  have k4 := (H4.out.2.2.fra H5.out.2.2.2 (by have := H3.out.2.2; omega) (by have := H3.out.2.2; omega) (by have := H3.out.2.2; omega)).c4
  go_wp2_with fail
  refine bodyPost_ret (v := .tuple #[.int .u64 tp, .int .i64 0]) (by simp [results, Tryz.results88, go_sem]) rfl ⟨by rw [HTP.out], g1, q0, B', L', F', lf', HE.out.1, HE.out.2, H5.out.1, H5.out.2.1, H5.out.2.2.1, H4.out.2.1.trans H5.out.2.2.2⟩
set_option maxRecDepth 4000 in
set_option maxHeartbeats 2000000 in
theorem unmap_none {r : Nat} (h : Ram w p b m N B L) (hP : PT N L B F lf) (hr : F 0 = some r) (va : Int) (hv : 0 ≤ va ∧ va < 274877906944 ∧ va % 4096 = 0) (hl : lf (y0 va) (i0 va) = 0) :
    Calls Tryz.prog 88 #[.pointer (some ⟨p, 0, .none⟩), .int .u64 (ad r), .int .u64 va] w fun e w' => e = .returned (.tuple #[.int .u64 0, .int .i64 86]) ∧ Below w.heap.size w w' := by
  have hN := h.mem.n2
  have hrN := hP.held 0 r hr
  have hrb2 : 0 ≤ ad r ∧ ad r < 18446744073709551616 := by unfold ad; omega
  have c38 := isMade_any h
  have c40 := userPage_any va ⟨hv.1, by omega⟩ w
  rw [show decide (va % 4096 = 0 ∧ va < 274877906944) = true by simpa using ⟨hv.2.2, hv.2.1⟩] at c40
  have c42 := isNode_any h (ad r) hrb2
  rw [hP.ndB hr] at c42
  have hz := look_zero hP hN hr va hl
  have c39 : ∀ W, Below w.heap.size w W → Calls Tryz.prog 102 #[.pointer (some ⟨p, 0, .none⟩), .int .u64 (ad r), .int .u64 va, .agg #[]] W fun e w' => e = .returned ((look N L B (ad r) va).val) ∧ Below W.heap.size W w' := fun W bW => look_any (h.below bW) (ad r) va hrb2 ⟨hv.1, by omega⟩
  generalize look N L B (ad r) va = pt at *
  obtain ⟨a0, a1, a2, l, e, k⟩ := pt
  simp only at hz
  subst hz
  have H39 : Hid (∀ W, Below w.heap.size w W → Calls Tryz.prog 102 #[.pointer (some ⟨p, 0, .none⟩), .int .u64 (ad r), .int .u64 va, .agg #[]] W fun e' w' => e' = .returned (.agg #[.int .u64 a0, .int .u64 a1, .int .u64 a2, .int .i64 l, .int .u64 e, .int .i64 0]) ∧ Below W.heap.size W w') := c39
  clear h hP c39 hrN hrb2 hr hl
  go_enter Tryz.func88, Tryz.ntmps88
  go_upto_region 7 with first | (go_at_call 111; refine c38.mono ?_; rintro _ w1 ⟨rfl, e1⟩; obtain rfl : w = w1 := e1.symm) | (go_at_call 112; refine c40.mono ?_; rintro _ w1 ⟨rfl, e1⟩; obtain rfl : w = w1 := e1.symm) | (go_at_call 93; refine c42.mono ?_; rintro _ w1 ⟨rfl, b1⟩; have H1 : Hid (Below w.heap.size w w1) := b1; clear b1 c42)
  go_upto_region 8 with (go_at_call 102; refine (H39.out _ H1.out).mono ?_; rintro _ w2 ⟨rfl, b2⟩; have H2 : Hid (Below w.heap.size w w2) := H1.out.trans (b2.mono H1.out.size); clear b2)
  have HB : Hid (Below w.heap.size w (w2.alloc (.cells #[.int .u64 a0, .int .u64 a1, .int .u64 a2, .int .i64 l, .int .u64 e, .int .i64 0] 131))) := H2.out.alloc H2.out.size _
  go_wp2_with fail
  refine bodyPost_ret (v := .tuple #[.int .u64 0, .int .i64 86]) (by simp [results, Tryz.results88, go_sem]) rfl ⟨rfl, HB.out⟩
end
end Go.Proofs.YtblmkkhiojbcjaaGreat
namespace Go.Proofs.YtblmkkhiojbcjaaGreat
open Go Go.RowKit Fz
attribute [local go_sem] Oper.semAt_some
set_option linter.unusedVariables false
set_option linter.unusedSimpArgs false
/-- A row of pages, read. -/
def SeP (w : World) (q : Option Addr) (n : Nat) (V A P : Nat → Int) : Prop := n = 0 ∨ ∃ g, q = some ⟨g, 0, .none⟩ ∧ g < w.heap.size ∧ ∀ i, i < n → w.cell? ⟨g, i * 3, .none⟩ = some (.int .u64 (V i)) ∧ w.cell? ⟨g, i * 3 + 1, .none⟩ = some (.int .u64 (A i)) ∧ w.cell? ⟨g, i * 3 + 2, .none⟩ = some (.int .u64 (P i))
theorem SeP.keep {w w' : World} {q : Option Addr} {n : Nat} {V A P : Nat → Int} (h : SeP w q n V A P) (b : Below w.heap.size w w') : SeP w' q n V A P := by
  rcases h with h | ⟨g, hq, hg, hr⟩
  · exact .inl h
  · exact .inr ⟨g, hq, Nat.lt_of_lt_of_le hg b.size, fun i hi => ⟨(b.cell (p := ⟨g, i * 3, .none⟩) hg).trans (hr i hi).1, (b.cell (p := ⟨g, i * 3 + 1, .none⟩) hg).trans (hr i hi).2.1, (b.cell (p := ⟨g, i * 3 + 2, .none⟩) hg).trans (hr i hi).2.2⟩⟩
/-- The place of a page. -/
def Fnd (V : Nat → Int) (n : Nat) (va k : Int) : Prop := (k = -1 ∧ ∀ i, i < n → V i ≠ va) ∨ ∃ i : Nat, i < n ∧ k = i ∧ V i = va ∧ ∀ j, j < i → V j ≠ va
end Go.Proofs.YtblmkkhiojbcjaaGreat
