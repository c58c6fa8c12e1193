import Derived.Test.YtnghcadhilfgnaaLwD
import Derived.Test.YtnghcadhilfgnaaFiD
import Derived.Test.YtnghcadhilfgnaaRfE
import Derived.Test.YtnghcadhilfgnaaLC
namespace Go.Proofs.Ytnghcadhilfgnaa
open Go.RowKit
set_option linter.unusedVariables false
set_option linter.unusedSimpArgs false
theorem run_append_zero22 (b : Nat) (p : Option Addr) (c : Nat) (ty : TypeId) (w : World) : (Builtin.append_ #[37, 37] ty #[.slice (some ⟨b, 0, .none⟩) 0 0, .slice p 0 c]).run Try.prog w = .ok (.slice (some ⟨b, 0, .none⟩) 0 0) w := by
  obtain ⟨i, hi, _⟩ := info22'
  cases p <;> simp [Builtin.append_, run_underlying Try.underlying37, sizeOf, typeInfo, hi, Builtin.lenOf, Builtin.firstCells, loadCells, loadCellsFrom, storeCells]
theorem wpList_append_zero22 {w : World} {ops : Array Oper} {rest : List Oper} {o : Oper} {a : Act} {Q : Exit → Act → World → Prop} (hgd : o.guard = none) (s x : Operand)
    (ho : o.op = .call { callee := .builtin .append, args := #[s, x], argTypes := #[37, 37] }) (b : Nat) (p : Option Addr) (c : Nat) (hs : a.eval s = .slice (some ⟨b, 0, .none⟩) 0 0) (hx : a.eval x = .slice p 0 c)
    (h : wpList Try.prog ops Q rest (a.put o.dst (.slice (some ⟨b, 0, .none⟩) 0 0)) w) : wpList Try.prog ops Q (o :: rest) a w := by
  refine wpList_plain hgd fun K hK => ?_
  unfold Oper.wp execOp
  simp only [ho, resolve, invoke, builtin, Sem.run_bind, Sem.run_pure, Result.andThen_ok, List.map_toArray, List.map_cons, List.map_nil, hs, hx, run_append_zero22]
  exact hK _ _ h
/-- What is handed in, as the world has it. -/
structure Arg (W : World) (nf cf nh ch : Nat) (qf qh : Option Addr) (F PA : Nat → Int) (P : Nat → Option Addr) (L C : Nat → Nat) (D : Nat → Nat → Int) : Prop where
  fs : Fs W qf nf F
  fb : ∀ i, 0 ≤ F i ∧ F i < 18446744073709551616
  hs : Hs W qh nh PA P L C
  pb : ∀ i, 0 ≤ PA i ∧ PA i < 18446744073709551616
  lc : ∀ i, L i ≤ C i ∧ C i ≤ 9223372036854775807
  lm : ∀ i, L i < 140737488355000
  ds : Ds W nh P L D
  db : ∀ i j, 0 ≤ D i j ∧ D i j < 256
  cf : nf ≤ cf ∧ cf ≤ 9223372036854775807
  ch : nh ≤ ch ∧ ch ≤ 9223372036854775807
  sm : nf * 8 < 140737488355000 ∧ nh * 32 < 140737488355000
theorem see_of {V : World} {q : Option Addr} {nh : Nat} {PA : Nat → Int} {P : Nat → Option Addr} {L C : Nat → Nat} {D : Nat → Nat → Int} (h : Hs V q nh PA P L C) (d : Ds V nh P L D) : SeeH V q nh PA L D := by
  rcases h with h0 | ⟨g, o, e, l, hc⟩
  · exact .inl h0
  · refine .inr ⟨g, o, e, l, fun i hi => ⟨(hc i hi).1, _, _, (hc i hi).2, ?_⟩⟩
    rcases d i hi with h0 | ⟨b, o', e', l', hd⟩
    · exact .inl h0
    · exact .inr ⟨b, o', e', l', hd⟩
theorem SeeH.ext {V : World} {q : Option Addr} {nh : Nat} {PA : Nat → Int} {L L' : Nat → Nat} {D D' : Nat → Nat → Int} (h : SeeH V q nh PA L D) (hL : ∀ i, i < nh → L i = L' i) (hD : ∀ i, i < nh → ∀ t, t < L i → D i t = D' i t) : SeeH V q nh PA L' D' := by
  rcases h with h0 | ⟨g, o, e, l, hc⟩
  · exact .inl h0
  · refine .inr ⟨g, o, e, l, fun i hi => ⟨(hc i hi).1, ?_⟩⟩
    obtain ⟨d, c, h1, h2⟩ := (hc i hi).2
    refine ⟨d, c, by rw [← hL i hi]; exact h1, ?_⟩
    rw [← hL i hi]
    rcases h2 with h0 | ⟨g', o', e', l', h3⟩
    · exact .inl h0
    · exact .inr ⟨g', o', e', l', fun t ht => by rw [← hD i hi t ht]; exact h3 t ht⟩
theorem see_ext {V : World} {k : IntKind} {q : Option Addr} {n : Nat} {R R' : Nat → Int} (h : See V k q n R) (hR : ∀ i, i < n → R i = R' i) : See V k q n R' := by
  rcases h with h0 | ⟨g, o, e, l, hc⟩
  · exact .inl h0
  · exact .inr ⟨g, o, e, l, fun i hi => by rw [← hR i hi]; exact hc i hi⟩
section
variable {W V : World} {n : Int} {nf cf nh ch : Nat} {qf qh : Option Addr} {F PA : Nat → Int} {P : Nat → Option Addr} {L C : Nat → Nat} {D : Nat → Nat → Int}
theorem Ds.keep (h : Ds W nh P L D) (hb : Below W.heap.size W V) : Ds V nh P L D := by
  intro i hi
  rcases h i hi with h0 | ⟨b, o, e, l, hc⟩
  · exact .inl h0
  · exact .inr ⟨b, o, e, Nat.lt_of_lt_of_le l hb.size, fun j hj => (hb.cell (p := ⟨b, o + j, .none⟩) l).trans (hc j hj)⟩
theorem Fs.keep2 (h : Fs W qf nf F) (hb : Below W.heap.size W V) : Fs V qf nf F := by
  rcases h with h0 | ⟨g, o, e, l, hc⟩
  · exact .inl h0
  · exact .inr ⟨g, o, e, Nat.lt_of_lt_of_le l hb.size, fun i hi => (hb.cell (p := ⟨g, o + i, .none⟩) l).trans (hc i hi)⟩
theorem Arg.below (h : Arg W nf cf nh ch qf qh F PA P L C D) (hb : Below W.heap.size W V) : Arg V nf cf nh ch qf qh F PA P L C D :=
  ⟨h.fs.keep2 hb, h.fb, h.hs.keep hb (Nat.le_refl _), h.pb, h.lc, h.lm, h.ds.keep hb, h.db, h.cf, h.ch, h.sm⟩
theorem Arg.see (h : Arg W nf cf nh ch qf qh F PA P L C D) : See W .u64 qf nf F ∧ SeeH W qh nh PA L D := ⟨h.fs, see_of h.hs h.ds⟩
theorem Arg.byt (h : Arg W nf cf nh ch qf qh F PA P L C D) {i : Nat} (hi : i < nh) : Byt W (P i) (L i) (C i) (bl (L i) (D i)) := by
  refine ⟨bl_len _ _, (h.lc i).1, (h.lc i).2, ?_⟩
  rcases h.ds i hi with h0 | ⟨b, o, e, l, hc⟩
  · exact .inl h0
  · refine .inr ⟨b, o, e, l, fun t x hx => ?_⟩
    have ht : t < L i := by
      have := (List.getElem?_eq_some_iff.1 hx).1
      rwa [bl_len] at this
    rw [bl_get _ _ _ ht] at hx
    injection hx with hx
    rw [← hx]
    exact hc t ht
/-- The copy is an argument too. -/
theorem In.arg {F' : Nat → Int} {D' : Nat → Nat → Int} {fq hq : Option Addr} {fc hc : Nat} {gs : List (Nat × Nat)} (h : In W V n nf cf gs.length ch qf qh F' PA L D' fq fc hq hc gs) (a : Arg W nf cf gs.length ch qf qh F PA P L C D) (hF : ∀ i, 0 ≤ F' i ∧ F' i < 18446744073709551616) (hD : ∀ i j, 0 ≤ D' i j ∧ D' i j < 256) :
    Fs V fq nf F' ∧ Hs V hq gs.length PA (fun j => some ⟨(gs.getD j (0, 0)).1, 0, .none⟩) L (fun j => (gs.getD j (0, 0)).2) ∧ Ds V gs.length (fun j => some ⟨(gs.getD j (0, 0)).1, 0, .none⟩) L D' := ⟨h.fs, h.hs, h.ds⟩
/-- The copy begins. -/
theorem in0 {W5 : World} {fq : Option Addr} {fc : Nat} (hp : C3 W5 W.heap.size (.int .i64 n) (.slice qf nf cf) (.slice qh nh ch)) (hc : C3 W5 (W.heap.size + 1) (.int .i64 n) (.slice .none 0 0) (.slice .none 0 0)) (ho : W5.ownsRow (W.heap.size + 1 + 1) 26 1 (.slice fq nf fc) nf ((List.range nf).map fun i => .int .u64 (F i))) (hb : Below W.heap.size W W5) (hx : W.heap.size + 1 + 1 ≤ W5.heap.size) :
    In W (W5.setCell ⟨W.heap.size + 1, 1, .none⟩ (.slice fq nf fc)) n nf cf nh ch qf qh F PA L D fq fc none 0 [] := by
  obtain ⟨a0, a1, a2, z0, z1, z2⟩ := hc
  have so : ∀ x o, (x ≠ W.heap.size + 1 ∨ o ≠ 1) → (W5.setCell ⟨W.heap.size + 1, 1, .none⟩ (.slice fq nf fc)).cell? ⟨x, o, .none⟩ = W5.cell? ⟨x, o, .none⟩ := fun x o hx => World.cell?_setCell_other _ _ _ _ (by simp only [ne_eq, Addr.mk.injEq, and_true, not_and]; intro e1 e2; rcases hx with hx | hx <;> omega)
  exact ⟨hp.other (by show W.heap.size + 1 ≠ W.heap.size; omega) _, ⟨(so _ _ (.inr (by decide))).trans a0, World.cell?_setCell_same' _ _ _ (by rw [a1]; rfl), (so _ _ (.inr (by decide))).trans a2, (World.frozen?_setCell ..).trans z0, (World.frozen?_setCell ..).trans z1, (World.frozen?_setCell ..).trans z2⟩, ownsRow_setCell_below ho (a := ⟨W.heap.size + 1, 1, .none⟩) (by show W.heap.size + 1 < W.heap.size + 1 + 1; omega) _, World.ownsRow_nil _ _ _ _, fun j x hj => by simp at hj, by simp, hb.setCell (p := ⟨W.heap.size + 1, 1, .none⟩) (by show W.heap.size ≤ W.heap.size + 1; omega) _, by rw [World.size_setCell]; exact hx⟩
end
end Go.Proofs.Ytnghcadhilfgnaa
namespace Go.Proofs.Ytnghcadhilfgnaa
open Go.RowKit
set_option linter.unusedVariables false
set_option linter.unusedSimpArgs false
/-- From a place on, all that was there is as it was. -/
def Tl (k : Nat) (w w' : World) : Prop := w.heap.size ≤ w'.heap.size ∧ ∀ x, k ≤ x → x < w.heap.size → w'.heap[x]? = w.heap[x]?
theorem Tl.refl (k : Nat) (w : World) : Tl k w w := ⟨Nat.le_refl _, fun _ _ _ => rfl⟩
theorem Tl.below {k : Nat} {w w' w'' : World} (h : Tl k w w') (b : Below w'.heap.size w' w'') : Tl k w w'' :=
  ⟨Nat.le_trans h.1 b.size, fun x hx hl => (b.block x (Nat.lt_of_lt_of_le hl h.1)).trans (h.2 x hx hl)⟩
theorem Tl.set {k : Nat} {w w' : World} (h : Tl k w w') {a : Addr} (ha : a.block < k) (v : Value) : Tl k w (w'.setCell a v) :=
  ⟨by rw [World.size_setCell]; exact h.1, fun x hx hl => (Below.heap_setCell _ _ _ _ (by omega)).trans (h.2 x hx hl)⟩
theorem Ram.tl {w w' : World} {p b m N k : Nat} {B : Nat → Int} {L : List Nat} (h : Ram w p b m N B L) (hp : k ≤ p) (hb : k ≤ b) (hm : k ≤ m) (t : Tl k w w') : Ram w' p b m N B L :=
  ⟨h.mem.keep (t.2 p hp h.mem.plt) (t.2 b hb h.mem.blt) (t.2 m hm h.mem.mlt), h.nd, h.lt, h.thr⟩
/-- The frames' first bytes, one up, so far. -/
def D2 (D : Nat → Nat → Int) (i : Nat) : Nat → Nat → Int := fun j t => if j < i ∧ t = 0 then IntKind.u8.wrap (D j 0 + 1) else D j t
theorem D2_zero (D : Nat → Nat → Int) : D2 D 0 = D := by
  funext j t
  simp [D2]
theorem D2_at (D : Nat → Nat → Int) (i : Nat) (t : Nat) : D2 D i i t = D i t := by simp [D2]
theorem D2_succ (D : Nat → Nat → Int) (i : Nat) : (fun j t => if j = i then (if t = 0 then IntKind.u8.wrap (D i 0 + 1) else D2 D i j t) else D2 D i j t) = D2 D (i + 1) := by
  funext j t
  by_cases e : j = i
  · subst e
    by_cases h : t = 0
    · simp [D2, h]
    · simp [D2, h]
  · have : (j < i + 1) ↔ (j < i) := by omega
    simp [D2, e, this]
theorem wrap8 (x : Int) : 0 ≤ IntKind.u8.wrap x ∧ IntKind.u8.wrap x < 256 := by
  have e : IntKind.u8.wrap x = x % 256 := by simp [IntKind.wrap, IntKind.signed, IntKind.bits]
  rw [e]
  omega
theorem D2_b {D : Nat → Nat → Int} (h : ∀ i j, 0 ≤ D i j ∧ D i j < 256) (i : Nat) : ∀ a b, 0 ≤ D2 D i a b ∧ D2 D i a b < 256 := by
  intro a b
  unfold D2
  split
  · exact wrap8 _
  · exact h a b
/-- The copied addresses, sevens so far. -/
def F3 (F : Nat → Int) (i : Nat) : Nat → Int := fun k => if k < i then 7 else F k
theorem F3_zero (F : Nat → Int) : F3 F 0 = F := by
  funext k
  simp [F3]
theorem F3_succ (F : Nat → Int) (i : Nat) : (fun k => if k = i then 7 else F3 F i k) = F3 F (i + 1) := by
  funext k
  by_cases e : k = i
  · simp [F3, e]
  · have : (k < i + 1) ↔ (k < i) := by omega
    simp [F3, e, this]
theorem F3_b {F : Nat → Int} (h : ∀ i, 0 ≤ F i ∧ F i < 18446744073709551616) (i : Nat) : ∀ a, 0 ≤ F3 F i a ∧ F3 F i a < 18446744073709551616 := by
  intro a
  unfold F3
  split
  · omega
  · exact h a
theorem own_capN {w : World} {base e sz n c : Nat} {q : Option Addr} {xs : List Value} (h : w.ownsRow base e sz (.slice q n c) n xs) : n ≤ c ∧ c ≤ 9223372036854775807 := by
  rcases h.2 with ⟨hv, h0⟩ | ⟨g', cap, cur, hv, hb, hg, hn, hm, _⟩
  · injection hv with _ h1 h2
    omega
  · injection hv with _ _ h2
    have hm : cap ≤ 9223372036854775807 := hm
    omega
section
variable {W V : World} {n : Int} {nf cf nh ch : Nat} {qf qh : Option Addr} {F PA : Nat → Int} {P : Nat → Option Addr} {L C : Nat → Nat} {D : Nat → Nat → Int} {fq hq : Option Addr} {fc hc : Nat} {gs : List (Nat × Nat)}
theorem from_in (h : In W V n nf cf nh ch qf qh F PA L D fq fc hq hc gs) (hl : gs.length = nh) (hF : ∀ i, 0 ≤ F i ∧ F i < 18446744073709551616) (hP : ∀ i, 0 ≤ PA i ∧ PA i < 18446744073709551616) (hD : ∀ i j, 0 ≤ D i j ∧ D i j < 256) (hL : ∀ i, L i < 140737488355000) (hs : nf * 8 < 140737488355000 ∧ nh * 32 < 140737488355000) :
    Calls Try.prog 59 #[.agg #[.int .i64 n, .slice fq nf fc, .slice hq nh hc]] V fun e w' => ∃ a r, Verd F nf PA L nh n a r ∧ ((r ≠ 0 ∧ NoP V a r e w') ∨ (r = 0 ∧ a = 0 ∧ ∃ N : Nat, n = N ∧ 1 ≤ N ∧ N ≤ 4096 ∧ Fine F nf PA L nh N ∧ FrP V F nf PA D nh N e w')) := by
  subst hl
  exact from_any V nf fc gs.length hc n fq hq F PA _ L _ D h.fs hF (own_capN h.fr).1 (own_capN h.fr).2 h.hs hP (own_capN h.hr).1 (own_capN h.hr).2 (fun i => by have := hL i; omega) h.ds hD ⟨by omega, by omega⟩
theorem ref_in (h : In W V n nf cf nh ch qf qh F PA L D fq fc hq hc gs) (hl : gs.length = nh) (hF : ∀ i, 0 ≤ F i ∧ F i < 18446744073709551616) (hP : ∀ i, 0 ≤ PA i ∧ PA i < 18446744073709551616) (hL : ∀ i, L i < 140737488355000) (hs : nf * 8 < 140737488355000 ∧ nh * 32 < 140737488355000) :
    Calls Try.prog 60 #[.agg #[.int .i64 n, .slice fq nf fc, .slice hq nh hc]] V fun e w' => (∃ a r, Verd F nf PA L nh n a r ∧ ((r ≠ 0 ∧ e = .returned (.tuple #[.pointer none, .int .i64 a, .int .i64 r])) ∨ (r = 0 ∧ a = 0 ∧ ∃ N : Nat, n = N ∧ 1 ≤ N ∧ N ≤ 4096 ∧ Fine F nf PA L nh N ∧ ∃ q, e = .returned (.tuple #[.pointer (some ⟨q, 0, .none⟩), .int .i64 0, .int .i64 0]) ∧ QI V w' q N F nf PA D nh))) ∧ Below V.heap.size V w' := by
  subst hl
  exact ref_any V nf fc gs.length hc n fq hq F PA _ L _ D h.fs hF (own_capN h.fr).1 (own_capN h.fr).2 h.hs hP (own_capN h.hr).1 (own_capN h.hr).2 (fun i => by have := hL i; omega) h.ds ⟨by omega, by omega⟩
theorem ref_arg (h : Arg V nf cf nh ch qf qh F PA P L C D) :
    Calls Try.prog 60 #[.agg #[.int .i64 n, .slice qf nf cf, .slice qh nh ch]] V fun e w' => (∃ a r, Verd F nf PA L nh n a r ∧ ((r ≠ 0 ∧ e = .returned (.tuple #[.pointer none, .int .i64 a, .int .i64 r])) ∨ (r = 0 ∧ a = 0 ∧ ∃ N : Nat, n = N ∧ 1 ≤ N ∧ N ≤ 4096 ∧ Fine F nf PA L nh N ∧ ∃ q, e = .returned (.tuple #[.pointer (some ⟨q, 0, .none⟩), .int .i64 0, .int .i64 0]) ∧ QI V w' q N F nf PA D nh))) ∧ Below V.heap.size V w' := by
  have := h.sm
  exact ref_any V nf cf nh ch n qf qh F PA P L C D h.fs h.fb h.cf.1 h.cf.2 h.hs h.pb h.ch.1 h.ch.2 (fun i => by have := h.lc i; omega) h.ds ⟨by omega, by omega⟩
/-- The copy and what was handed in show the same. -/
theorem images_in (h : In W V n nf cf nh ch qf qh F PA L D fq fc hq hc gs) (hl : gs.length = nh) (a : Arg V nf cf nh ch qf qh F PA P L C D) :
    Calls Try.prog 10 #[.agg #[.int .i64 n, .slice fq nf fc, .slice hq nh hc], .agg #[.int .i64 n, .slice qf nf cf, .slice qh nh ch]] V fun e w' => e = .returned (.bool true) ∧ Below V.heap.size V w' := by
  subst hl
  have := a.sm
  exact images_same (by omega) (by omega) (fun i _ => by have := a.lm i; omega) h.see.1 a.see.1 h.see.2 a.see.2
end
end Go.Proofs.Ytnghcadhilfgnaa
namespace Go.Proofs.Ytnghcadhilfgnaa
open Go.RowKit
set_option linter.unusedVariables false
set_option linter.unusedSimpArgs false
section
variable {W V w : World} {n : Int} {N : Nat} {nf cf nh ch : Nat} {qf qh : Option Addr} {F PA : Nat → Int} {P : Nat → Option Addr} {L C : Nat → Nat} {D : Nat → Nat → Int} {B : Nat → Int} {fq hq : Option Addr} {fc hc : Nat} {gs : List (Nat × Nat)} {e : Ending}
/-- What an image shows. -/
def Shows (w V : World) (N nf nh : Nat) (F PA : Nat → Int) (D : Nat → Nat → Int) (e : Ending) : Prop := ∃ qf cf q2 c2, e = .returned (.agg #[.int .i64 N, .slice qf nf cf, .slice q2 nh c2]) ∧ See V .u64 qf nf F ∧ SeeH V q2 nh PA (fun _ => 4096) D ∧ Below w.heap.size w V
theorem see_imgP (h : ImgP w N B (Lf F nf) e V) (hf : Fine F nf PA L nh N) (hB : ∀ i, i < nh → ∀ j, j < 4096 → B (fi (PA i) * 4096 + j) = D i j) : Shows w V N nf nh F PA D e := by
  obtain ⟨hs, qf, cf, q2, c2, rfl, hm, h1, h2, h3, _, hb⟩ := h
  have h4 := see_free (fun i hi => (hf.free hi).1) h1
  obtain ⟨h5, h6⟩ := see_held (fun i hi => (hf.held hi).1) (hm.trans hf.held_eq) h2 (fun x hx t ht => (h3 x hx).2.1.row t ht) hB
  refine ⟨qf, cf, q2, c2, ?_, h4, h6, hb⟩
  rw [Lf_len, h5]
theorem see_imgQ (h : ImgQ w N B (Lf F nf) e V) (hf : Fine F nf PA L nh N) (hB : ∀ i, i < nh → ∀ j, j < 4096 → B (fi (PA i) * 4096 + j) = D i j) : Shows w V N nf nh F PA D e := by
  obtain ⟨hs, qf, cf, q2, c2, rfl, hm, h1, h2, h3, hb⟩ := h
  have h4 := see_free (fun i hi => (hf.free hi).1) h1
  obtain ⟨h5, h6⟩ := see_held (fun i hi => (hf.held hi).1) (hm.trans hf.held_eq) h2 h3 hB
  refine ⟨qf, cf, q2, c2, ?_, h4, h6, hb⟩
  rw [Lf_len, h5]
theorem In.shows (h : In W V n nf cf nh ch qf qh F PA L D fq fc hq hc gs) (hl : gs.length = nh) (hf : Fine F nf PA L nh N) : See V .u64 fq nf F ∧ SeeH V hq nh PA (fun _ => 4096) D := by
  subst hl
  exact ⟨h.see.1, h.see.2.ext (fun i hi => (hf.held hi).2.1) (fun _ _ _ _ => rfl)⟩
theorem Arg.shows (h : Arg V nf cf nh ch qf qh F PA P L C D) (hf : Fine F nf PA L nh N) : See V .u64 qf nf F ∧ SeeH V qh nh PA (fun _ => 4096) D :=
  ⟨h.see.1, h.see.2.ext (fun i hi => (hf.held hi).2.1) (fun _ _ _ _ => rfl)⟩
theorem images_two {cfa cfb cha chb : Nat} {qfa qfb qha qhb : Option Addr} (sm : nf * 8 < 140737488355000 ∧ nh * 32 < 140737488355000) (a : See V .u64 qfa nf F ∧ SeeH V qha nh PA (fun _ => 4096) D) (b : See V .u64 qfb nf F ∧ SeeH V qhb nh PA (fun _ => 4096) D) :
    Calls Try.prog 10 #[.agg #[.int .i64 n, .slice qfa nf cfa, .slice qha nh cha], .agg #[.int .i64 n, .slice qfb nf cfb, .slice qhb nh chb]] V fun e w' => e = .returned (.bool true) ∧ Below V.heap.size V w' :=
  images_same (by omega) (by omega) (fun i _ => by omega) a.1 b.1 a.2 b.2
end
end Go.Proofs.Ytnghcadhilfgnaa
namespace Go.Proofs.Ytnghcadhilfgnaa
open Go.RowKit
set_option linter.unusedVariables false
set_option linter.unusedSimpArgs false
/-- A memory's image, as functions. -/
def Fo (L : List Nat) (i : Nat) : Int := 2147483648 + (L.getD i 0 : Int) * 4096
def Do (B : Nat → Int) (H : List Nat) (j t : Nat) : Int := B (H.getD j 0 * 4096 + t)
theorem fi_Fo (L : List Nat) (i : Nat) : fi (Fo L i) = L.getD i 0 := by unfold fi Fo; omega
theorem Lf_Fo (L : List Nat) : Lf (Fo L) L.length = L := by
  apply List.ext_getElem
  · simp [Lf]
  · intro i h1 h2
    simp only [Lf, List.getElem_map, List.getElem_range, fi_Fo]
    rw [List.getD_eq_getElem?_getD, List.getElem?_eq_getElem h2]
    rfl
theorem Fo_at (L : List Nat) (i : Nat) (h : i < L.length) : Fo L i = 2147483648 + (L[i] : Int) * 4096 := by
  unfold Fo
  rw [List.getD_eq_getElem?_getD, List.getElem?_eq_getElem h]
  rfl
theorem Fo_bd (L : List Nat) (hL : ∀ x ∈ L, x < 4096) (i : Nat) : 0 ≤ Fo L i ∧ Fo L i < 18446744073709551616 := by
  by_cases h : i < L.length
  · have := hL L[i] (List.getElem_mem h)
    rw [Fo_at L i h]
    omega
  · unfold Fo
    rw [List.getD_eq_getElem?_getD, List.getElem?_eq_none (by omega)]
    simp
theorem held_mem {L : List Nat} {N i : Nat} : i ∈ heldTo L N ↔ i < N ∧ i ∉ L := by simp [heldTo]
theorem held_lt {L : List Nat} {N : Nat} : (heldTo L N).Pairwise (· < ·) := List.pairwise_lt_range.filter _
theorem held_count (L : List Nat) (N : Nat) : N ≤ L.length + (heldTo L N).length := by
  have h1 := List.length_eq_countP_add_countP (fun f => !decide (f ∈ L)) (l := List.range N)
  rw [List.countP_eq_length_filter, List.countP_eq_length_filter, List.length_range] at h1
  have h2 : ((List.range N).filter fun a => decide ¬ (!decide (a ∈ L)) = true).length ≤ L.length := by
    have nd : ((List.range N).filter fun a => decide ¬ (!decide (a ∈ L)) = true).Nodup := List.Pairwise.filter _ List.nodup_range
    have mem : ∀ a ∈ ((List.range N).filter fun a => decide ¬ (!decide (a ∈ L)) = true), a ∈ L := fun a ha => by
      have := (List.mem_filter.1 ha).2
      simpa using this
    generalize ((List.range N).filter fun a => decide ¬ (!decide (a ∈ L)) = true) = K at *
    have := nodup_le L.length (K.map fun a => L.idxOf a) (by
      rw [List.Nodup, List.pairwise_map]
      refine nd.imp_of_mem ?_
      intro a c ha hc hne e
      have e1 := List.getElem_idxOf (List.idxOf_lt_length_of_mem (mem a ha))
      have e2 := List.getElem_idxOf (List.idxOf_lt_length_of_mem (mem c hc))
      apply hne
      rw [← e1, ← e2]
      simp only [e]) (fun i hi => by
      obtain ⟨a, ha, rfl⟩ := List.mem_map.1 hi
      exact List.idxOf_lt_length_of_mem (mem a ha))
    simpa using this
  have h3 : ((List.range N).filter fun f => !decide (f ∈ L)) = heldTo L N := rfl
  rw [h3] at h1
  omega
theorem fine_of {L : List Nat} {N : Nat} (nd : L.Nodup) (rg : ∀ i ∈ L, 1 ≤ i ∧ i < N) : Fine (Fo L) L.length (Fo (heldTo L N)) (fun _ => 4096) (heldTo L N).length N := by
  have amg : ∀ (K : List Nat) (k : Nat) (y : Nat), k ≤ K.length → among (Fo K) k (2147483648 + (y : Int) * 4096) = true → ∃ j, ∃ h : j < K.length, j < k ∧ K[j] = y := fun K k y hk h => by
    obtain ⟨j, hj, e⟩ := (among_iff (Fo K) k _).1 h
    have hj' : j < K.length := by omega
    rw [Fo_at K j hj'] at e
    exact ⟨j, hj', hj, by omega⟩
  refine ⟨fun i hi => ?_, fun i hi => ?_, held_count L N⟩
  · have hm := rg L[i] (List.getElem_mem hi)
    unfold bad1
    rw [Fo_at L i hi, isFr_addr L[i] N hm.2]
    have e1 : (2147483648 + (L[i] : Int) * 4096 == 2147483648) = false := by rw [beq_eq_false_iff_ne]; omega
    have e2 : among (Fo L) i (2147483648 + (L[i] : Int) * 4096) = false := by
      rw [Bool.eq_false_iff]
      intro h
      obtain ⟨j, hj, hlt, e⟩ := amg L i L[i] (by omega) h
      exact absurd e (List.pairwise_iff_getElem.1 nd j i hj hi hlt)
    rw [e1, e2]
    rfl
  · have hm := held_mem.1 (List.getElem_mem (l := heldTo L N) hi)
    unfold bad2
    have e1 : among (Fo L) L.length (Fo (heldTo L N) i) = false := by
      rw [Bool.eq_false_iff, Fo_at _ i hi]
      intro h
      obtain ⟨j, hj, _, e⟩ := amg L L.length _ (Nat.le_refl _) h
      exact hm.2 (e ▸ List.getElem_mem hj)
    have e2 : falls (Fo (heldTo L N)) i = false := by
      unfold falls
      by_cases h0 : i = 0
      · rw [if_pos h0]
      · rw [if_neg h0, decide_eq_false_iff_not, Fo_at _ i hi, Fo_at _ (i - 1) (by omega)]
        have := List.pairwise_iff_getElem.1 (held_lt (L := L) (N := N)) (i - 1) i (by omega) hi (by omega)
        omega
    rw [e1, e2, Fo_at _ i hi, isFr_addr _ N hm.1]
    rfl
end Go.Proofs.Ytnghcadhilfgnaa
namespace Go.Proofs.Ytnghcadhilfgnaa
open Go.RowKit
set_option linter.unusedVariables false
set_option linter.unusedSimpArgs false
/-- What an image of the memory shows, and how long its rows may grow. -/
def ShowC (w V : World) (N : Nat) (B : Nat → Int) (L : List Nat) (e : Ending) : Prop := ∃ qf cf q2 c2, e = .returned (.agg #[.int .i64 N, .slice qf L.length cf, .slice q2 (heldTo L N).length c2]) ∧ See V .u64 qf L.length (Fo L) ∧ SeeH V q2 (heldTo L N).length (Fo (heldTo L N)) (fun _ => 4096) (Do B (heldTo L N)) ∧ Below w.heap.size w V ∧ (L.length ≤ cf ∧ cf ≤ 9223372036854775807) ∧ ((heldTo L N).length ≤ c2 ∧ c2 ≤ 9223372036854775807)
section
variable {w V : World} {N : Nat} {B : Nat → Int} {L : List Nat} {e : Ending}
theorem hB_of (B : Nat → Int) (H : List Nat) : ∀ i, i < H.length → ∀ j, j < 4096 → B (fi (Fo H i) * 4096 + j) = Do B H i j := fun i _ j _ => by rw [fi_Fo]; rfl
theorem show_P (h : ImgP w N B L e V) (nd : L.Nodup) (rg : ∀ i ∈ L, 1 ≤ i ∧ i < N) : ShowC w V N B L e := by
  have hf := fine_of nd rg
  have hl := Lf_Fo L
  have h' := h
  rw [← hl] at h'
  obtain ⟨qf, cf, q2, c2, e1, s1, s2, hb⟩ := see_imgP h' hf (hB_of B (heldTo L N))
  obtain ⟨hs, qf', cf', q2', c2', e2, hm, r1, r2, _⟩ := h
  have e3 := e1.symm.trans e2
  simp only [Ending.returned.injEq, Value.agg.injEq, Array.mk.injEq, List.cons.injEq, Value.slice.injEq, and_true, true_and] at e3
  obtain ⟨⟨a1, a2⟩, a3, a4, a5⟩ := e3
  have c1 := own_capN r1
  have cc := own_capN r2
  rw [← a2] at c1
  rw [← a4, ← a5] at cc
  exact ⟨qf, cf, q2, c2, e1, s1, s2, hb, c1, cc⟩
theorem show_Q (h : ImgQ w N B L e V) (nd : L.Nodup) (rg : ∀ i ∈ L, 1 ≤ i ∧ i < N) : ShowC w V N B L e := by
  have hf := fine_of nd rg
  have hl := Lf_Fo L
  have h' := h
  rw [← hl] at h'
  obtain ⟨qf, cf, q2, c2, e1, s1, s2, hb⟩ := see_imgQ h' hf (hB_of B (heldTo L N))
  obtain ⟨hs, qf', cf', q2', c2', e2, hm, r1, r2, _⟩ := h
  have e3 := e1.symm.trans e2
  simp only [Ending.returned.injEq, Value.agg.injEq, Array.mk.injEq, List.cons.injEq, Value.slice.injEq, and_true, true_and] at e3
  obtain ⟨⟨a1, a2⟩, a3, a4, a5⟩ := e3
  have c1 := own_capN r1
  have cc := own_capN r2
  rw [← a2] at c1
  rw [← a4, ← a5] at cc
  exact ⟨qf, cf, q2, c2, e1, s1, s2, hb, c1, cc⟩
theorem Qm.qv {q hb lb : Nat} {fb : Nat → Nat} (h : Qm w q hb fb lb N B L) : ∃ lv, Qv w q hb N lv B L := by
  obtain ⟨lv, c1, hl⟩ := h.lr
  have ll := nodup_le N L h.nd (fun x hx => (h.rg x hx).2)
  have n2 := h.n2
  exact ⟨lv, h.c0, c1, hl, h.hf, fun i hi hL => ⟨fb i, h.hh i hi hL, h.cb i hi hL⟩, by omega, fun i hi => by have := (h.rg i hi).2; omega, h.n1, h.n2⟩
theorem seeH_hs {q : Option Addr} {nh : Nat} {PA : Nat → Int} {D : Nat → Nat → Int} (h : SeeH V q nh PA (fun _ => 4096) D) : ∃ P C, Hs V q nh PA P (fun _ => 4096) C ∧ Ds V nh P (fun _ => 4096) D := by
  rcases h with h0 | ⟨g, o, e, l, hc⟩
  · exact ⟨fun _ => none, fun _ => 0, .inl h0, fun i hi => by omega⟩
  · have : ∀ i, ∃ dc : Option Addr × Nat, i < nh → V.cell? ⟨g, o + i * 2 + 1, .none⟩ = some (.slice dc.1 4096 dc.2) ∧ See V .u8 dc.1 4096 (D i) := fun i => by
      by_cases hi : i < nh
      · obtain ⟨_, d, c, h1, h2⟩ := hc i hi
        exact ⟨(d, c), fun _ => ⟨h1, h2⟩⟩
      · exact ⟨(none, 0), fun h => absurd h hi⟩
    obtain ⟨f, hf⟩ := Classical.axiomOfChoice this
    exact ⟨fun i => (f i).1, fun i => (f i).2, .inr ⟨g, o, e, l, fun i hi => ⟨(hc i hi).1, (hf i hi).1⟩⟩, fun i hi => (hf i hi).2⟩
end
section
variable {Z : Nat} {W : World} {x p b m q hb lb N : Nat} {fb : Nat → Nat} {B : Nat → Int} {L : List Nat}
theorem img_R (h : Pq Z W x p b m q hb fb lb N B L B L) : Calls Try.prog 11 #[.pointer (some ⟨p, 0, .none⟩)] W fun e V => ShowC W V N B L e := (image_any h.r).mono fun e V hi => show_P hi h.r.nd h.r.lt
theorem img_Q (h : Pq Z W x p b m q hb fb lb N B L B L) : Calls Try.prog 12 #[.pointer (some ⟨q, 0, .none⟩)] W fun e V => ShowC W V N B L e := by
  obtain ⟨lv, hv⟩ := h.qm.qv
  exact (imageQ_any W q hb N lv B L hv).mono fun e V hi => show_Q hi h.qm.nd h.qm.rg
theorem Do_bd (hB : ∀ i, 0 ≤ B i ∧ B i < 256) (H : List Nat) : ∀ i j, 0 ≤ Do B H i j ∧ Do B H i j < 256 := fun i j => hB _
theorem held_bd (L : List Nat) (N : Nat) (hN : N ≤ 4096) : ∀ x ∈ heldTo L N, x < 4096 := fun x hx => by have := (held_mem.1 hx).1; omega
end
/-- The document's memory out of an image. -/
theorem QI.qm {W V : World} {q N : Nat} {B : Nat → Int} {L : List Nat} (h : QI W V q N (Fo L) L.length (Fo (heldTo L N)) (Do B (heldTo L N)) (heldTo L N).length) (nd : L.Nodup) (rg : ∀ i ∈ L, 1 ≤ i ∧ i < N) (n1 : 1 ≤ N) (n2 : N ≤ 4096) (bb : ∀ i, 0 ≤ B i ∧ B i < 256) :
    ∃ hb fb lb, Qm V q hb fb lb N B L ∧ ∀ k, Qb q hb lb N fb L k → W.heap.size ≤ k := by
  obtain ⟨hb, lv, f, h1, h2, c0, c1, g1, own, hz, hd, hr⟩ := h.cells
  rw [Lf_Fo] at own
  have ix : ∀ i, i < N → i ∉ L → (heldTo L N).idxOf i < (heldTo L N).length ∧ fi (Fo (heldTo L N) ((heldTo L N).idxOf i)) = i := fun i hi hL => by
    have hm : i ∈ heldTo L N := held_mem.2 ⟨hi, hL⟩
    have hlt := List.idxOf_lt_length_of_mem hm
    refine ⟨hlt, ?_⟩
    rw [fi_Fo, List.getD_eq_getElem?_getD, List.getElem?_eq_getElem hlt, List.getElem_idxOf hlt]
    rfl
  have dd : ∀ i, i < N → i ∉ L → ∀ k, Do B (heldTo L N) ((heldTo L N).idxOf i) k = B (i * 4096 + k) := fun i hi hL k => by
    have hm : i ∈ heldTo L N := held_mem.2 ⟨hi, hL⟩
    have hlt := List.idxOf_lt_length_of_mem hm
    unfold Do
    rw [List.getD_eq_getElem?_getD, List.getElem?_eq_getElem hlt, List.getElem_idxOf hlt]
    rfl
  have z0 : 0 ∉ L := fun e => by have := rg 0 e; omega
  have zh := (hd _ (ix 0 (by omega) z0).1)
  have inj : ∀ i j, i < N → j < N → i ∉ L → j ∉ L → f ((heldTo L N).idxOf i) = f ((heldTo L N).idxOf j) → i = j := fun i j hi hj hLi hLj e => by
    obtain ⟨a1, a2⟩ := ix i hi hLi
    obtain ⟨b1, b2⟩ := ix j hj hLj
    have : (heldTo L N).idxOf i = (heldTo L N).idxOf j := by
      rcases Nat.lt_trichotomy ((heldTo L N).idxOf i) ((heldTo L N).idxOf j) with hl | hl | hl
      · have := hr _ _ hl b1; omega
      · exact hl
      · have := hr _ _ hl a1; omega
    rw [← a2, ← b2, this]
  have hf' : ∀ i, i < N → i ∈ L → V.cell? ⟨hb, i, .none⟩ = some (.slice .none 0 0) := fun i hi hL => (hz i hi).2 (fun j hj e => by
    have hm := held_mem.1 (List.getElem_mem (l := heldTo L N) hj)
    rw [fi_Fo, List.getD_eq_getElem?_getD, List.getElem?_eq_getElem hj] at e
    exact hm.2 (by rw [← e] at hL; exact hL))
  have hh' : ∀ i, i < N → i ∉ L → V.cell? ⟨hb, i, .none⟩ = some (.slice (some ⟨f ((heldTo L N).idxOf i), 0, .none⟩) 4096 4096) := fun i hi hL => by
    obtain ⟨a1, a2⟩ := ix i hi hL
    have := (hd _ a1).2.1
    rw [a2] at this
    exact this
  have cb' : ∀ i, i < N → i ∉ L → ∀ k, k < 4096 → V.cell? ⟨f ((heldTo L N).idxOf i), k, .none⟩ = some (.int .u8 (B (i * 4096 + k))) := fun i hi hL k hk => by
    have := ((hd _ (ix i hi hL).1).2.2 k hk).1
    rw [dd i hi hL] at this
    exact this
  have gb' : ∀ i, i < N → i ∉ L → ∀ k, k < 4096 → V.frozen? ⟨f ((heldTo L N).idxOf i), k, .none⟩ = false := fun i hi hL k hk => ((hd _ (ix i hi hL).1).2.2 k hk).2
  rcases own.2 with ⟨hv, h0⟩ | ⟨g, cap, cur, hv, hX, hg, hn, hm, hs, ht⟩
  · have hL0 : L = [] := List.length_eq_zero_iff.1 h0
    refine ⟨hb, fun i => f ((heldTo L N).idxOf i), V.heap.size, ⟨c0, ⟨lv, c1, .inl ⟨_, _, hv, hL0⟩⟩, g1, hf', hh', fun i hi => (hz i hi).1, cb', gb', inj, fun e => h2 e.symm, ⟨?_, ?_, fun i hi hL => ?_⟩, nd, rg, n1, n2, bb⟩, fun k hk => ?_⟩
    · have : q < V.heap.size := lt_of_cell c0
      omega
    · have : hb < V.heap.size := lt_of_cell zh.2.1
      omega
    · have : f ((heldTo L N).idxOf i) < V.heap.size := lt_of_cell (cb' i hi hL 0 (by omega))
      omega
    · rcases hk with e | e | ⟨_, e⟩ | ⟨i, hi, hL, e⟩
      · rw [e]; exact h.ge
      · rw [e]; exact h1
      · exact absurd hL0 e
      · rw [e]; exact (hd _ (ix i hi hL).1).1
  · have gc : ∀ j (hj : j < L.length), V.cell? ⟨g, j, .none⟩ = some (.int .i64 (L[j] : Int)) := fun j hj => by
      simp only [World.cell?, hg]
      show cur[j]? = _
      rw [← Array.getElem?_toList, ← List.getElem?_take_of_lt (show j < L.length * 1 by omega), ht, List.getElem?_map, List.getElem?_eq_getElem hj]
      rfl
    by_cases hL0 : L = []
    · rw [show L.length = 0 by rw [hL0]; rfl] at hv
      refine ⟨hb, fun i => f ((heldTo L N).idxOf i), V.heap.size, ⟨c0, ⟨lv, c1, .inl ⟨_, _, hv, hL0⟩⟩, g1, hf', hh', fun i hi => (hz i hi).1, cb', gb', inj, fun e => h2 e.symm, ⟨?_, ?_, fun i hi hL => ?_⟩, nd, rg, n1, n2, bb⟩, fun k hk => ?_⟩
      · have : q < V.heap.size := lt_of_cell c0
        omega
      · have : hb < V.heap.size := lt_of_cell zh.2.1
        omega
      · have : f ((heldTo L N).idxOf i) < V.heap.size := lt_of_cell (cb' i hi hL 0 (by omega))
        omega
      · rcases hk with e | e | ⟨_, e⟩ | ⟨i, hi, hL, e⟩
        · rw [e]; exact h.ge
        · rw [e]; exact h1
        · exact absurd hL0 e
        · rw [e]; exact (hd _ (ix i hi hL).1).1
    · have hl0 : 0 < L.length := List.length_pos_iff.2 hL0
      have gz := gc 0 hl0
      refine ⟨hb, fun i => f ((heldTo L N).idxOf i), g, ⟨c0, ⟨lv, c1, .inr ⟨0, cap, hv, hn, fun j v hj => ?_⟩⟩, g1, hf', hh', fun i hi => (hz i hi).1, cb', gb', inj, fun e => h2 e.symm, ⟨?_, ?_, fun i hi hL => ?_⟩, nd, rg, n1, n2, bb⟩, fun k hk => ?_⟩
      · obtain ⟨hlt, e⟩ := List.getElem?_eq_some_iff.1 hj
        rw [Nat.zero_add, gc j hlt, e]
      · intro e
        rw [e, c0] at gz
        cases gz
      · intro e
        have := hh' 0 (by omega) z0
        rw [e, this] at gz
        cases gz
      · intro e
        have := cb' i hi hL 0 (by omega)
        rw [e, gz] at this
        cases this
      · rcases hk with e | e | ⟨e, _⟩ | ⟨i, hi, hL, e⟩
        · rw [e]; exact h.ge
        · rw [e]; exact h1
        · rw [e]; omega
        · rw [e]; exact (hd _ (ix i hi hL).1).1
end Go.Proofs.Ytnghcadhilfgnaa
namespace Go.Proofs.Ytnghcadhilfgnaa
open Go.RowKit
set_option linter.unusedVariables false
set_option linter.unusedSimpArgs false
section
variable {Z : Nat} {W : World} {x p b m q hb lb N : Nat} {fb : Nat → Nat} {B : Nat → Int} {L : List Nat}
theorem len_le (rg : ∀ i ∈ L, 1 ≤ i ∧ i < N) (nd : L.Nodup) (n2 : N ≤ 4096) : L.length ≤ 4096 ∧ (heldTo L N).length ≤ 4096 := by
  have := nodup_le N L nd (fun x hx => (rg x hx).2)
  have := heldTo_len L N
  omega
/-- FromImage of the memory's own image, on both sides. -/
theorem from_show {V : World} {e : Ending} (h : ShowC W V N B L e) (n1 : 1 ≤ N) (n2 : N ≤ 4096) (nd : L.Nodup) (rg : ∀ i ∈ L, 1 ≤ i ∧ i < N) (bb : ∀ i, 0 ≤ B i ∧ B i < 256) :
    ∃ qf cf q2 c2, e = .returned (.agg #[.int .i64 N, .slice qf L.length cf, .slice q2 (heldTo L N).length c2]) ∧ Below W.heap.size W V ∧
    (Calls Try.prog 59 #[.agg #[.int .i64 N, .slice qf L.length cf, .slice q2 (heldTo L N).length c2]] V fun e' w2 => FrP V (Fo L) L.length (Fo (heldTo L N)) (Do B (heldTo L N)) (heldTo L N).length N e' w2) ∧
    (Calls Try.prog 60 #[.agg #[.int .i64 N, .slice qf L.length cf, .slice q2 (heldTo L N).length c2]] V fun e' w2 => (∃ q', e' = .returned (.tuple #[.pointer (some ⟨q', 0, .none⟩), .int .i64 0, .int .i64 0]) ∧ QI V w2 q' N (Fo L) L.length (Fo (heldTo L N)) (Do B (heldTo L N)) (heldTo L N).length) ∧ Below V.heap.size V w2) := by
  obtain ⟨qf, cf, q2, c2, e1, s1, s2, hb, c1, cc⟩ := h
  obtain ⟨P, C, hs, ds⟩ := seeH_hs s2
  have hf := fine_of nd rg
  have hl := len_le rg nd n2
  have fb1 := Fo_bd L (fun y hy => by have := (rg y hy).2; omega)
  have fb2 := Fo_bd (heldTo L N) (held_bd L N n2)
  refine ⟨qf, cf, q2, c2, e1, hb, from_ok V L.length cf (heldTo L N).length c2 N qf q2 (Fo L) (Fo (heldTo L N)) P (fun _ => 4096) C (Do B (heldTo L N)) s1 fb1 c1.1 c1.2 hs fb2 cc.1 cc.2 (fun _ => by omega) ds (Do_bd bb _) n1 n2 ⟨by omega, by omega⟩ hf, ?_⟩
  refine (ref_from V L.length cf (heldTo L N).length c2 N qf q2 (Fo L) (Fo (heldTo L N)) P (fun _ => 4096) C (Do B (heldTo L N)) s1 fb1 c1.1 c1.2 hs fb2 cc.1 cc.2 (fun _ => by omega) ds n1 n2 ⟨by omega, by omega⟩).mono ?_
  rintro e' w2 ⟨h | ⟨_, q', h1, h2⟩, h3⟩
  · obtain ⟨a, ha, hne, _⟩ := h
    exact absurd (hf.zero ha) hne
  · exact ⟨⟨q', h1, h2⟩, h3⟩
theorem again_end {w w3 w4 : World} (h : Pq Z w x p b m q hb fb lb N B L B L) (hb3 : Below w.heap.size w w3) (hb4 : Below w3.heap.size w3 w4) {p' b' m' q' : Nat} {B' : Nat → Int} (gp : w.heap.size ≤ p' ∧ w.heap.size ≤ b' ∧ w.heap.size ≤ m') (lp : p' < w3.heap.size ∧ b' < w3.heap.size ∧ m' < w3.heap.size) (r : Ram w4 p' b' m' N B' L) (hby : ∀ i, i < (heldTo L N).length → ∀ j, j < 4096 → B' (fi (Fo (heldTo L N) i) * 4096 + j) = Do B (heldTo L N) i j) (qi : QI w3 w4 q' N (Fo L) L.length (Fo (heldTo L N)) (Do B (heldTo L N)) (heldTo L N).length) :
    Pl Z ((w4.setCell ⟨x, 0, .none⟩ (.pointer (some ⟨p', 0, .none⟩))).setCell ⟨x, 1, .none⟩ (.pointer (some ⟨q', 0, .none⟩))) x N ∧ Below Z w ((w4.setCell ⟨x, 0, .none⟩ (.pointer (some ⟨p', 0, .none⟩))).setCell ⟨x, 1, .none⟩ (.pointer (some ⟨q', 0, .none⟩))) := by
  have hb34 := hb3.trans (hb4.mono hb3.size)
  have xl := h.xlt
  have zx := h.zx
  have z3 := hb3.size
  obtain ⟨hb', fb', lb', hq, hge⟩ := qi.qm h.qm.nd h.qm.rg h.qm.n1 h.qm.n2 h.qm.bb
  have hq' : Qm w4 q' hb' fb' lb' N B' L := hq.congr (fun i hi hL k hk => by
    have hm : i ∈ heldTo L N := held_mem.2 ⟨hi, hL⟩
    have hlt := List.idxOf_lt_length_of_mem hm
    have := hby _ hlt k hk
    unfold Do at this
    rw [fi_Fo, List.getD_eq_getElem?_getD, List.getElem?_eq_getElem hlt, List.getElem_idxOf hlt] at this
    exact this) r.mem.bb
  have ho : ∀ k, k ≠ x → ((w4.setCell ⟨x, 0, .none⟩ (.pointer (some ⟨p', 0, .none⟩))).setCell ⟨x, 1, .none⟩ (.pointer (some ⟨q', 0, .none⟩))).heap[k]? = w4.heap[k]? := fun k hk => by
    rw [Below.heap_setCell _ _ _ _ (by show k ≠ x; exact hk), Below.heap_setCell _ _ _ _ (by show k ≠ x; exact hk)]
  have a0 := (hb34.cell xl).trans h.x0
  have a1 := (hb34.cell xl).trans h.x1
  have f0 := (hb34.frozen xl).trans h.f0
  have f1 := (hb34.frozen xl).trans h.f1
  have hsz : ((w4.setCell ⟨x, 0, .none⟩ (.pointer (some ⟨p', 0, .none⟩))).setCell ⟨x, 1, .none⟩ (.pointer (some ⟨q', 0, .none⟩))).heap.size = w4.heap.size := by rw [World.size_setCell, World.size_setCell]
  have b1 : ((w4.setCell ⟨x, 0, .none⟩ (.pointer (some ⟨p', 0, .none⟩))).cell? ⟨x, 1, .none⟩).isSome = true := by
    rw [World.cell?_setCell_other _ _ _ _ (by simp), a1]; rfl
  refine ⟨⟨p', b', m', q', hb', fb', lb', B', L, ?_⟩, ?_⟩
  · refine ⟨r.keep (ho p' (by omega)) (ho b' (by omega)) (ho m' (by omega)), hq'.keep (by rw [hsz]; exact Nat.le_refl _) (fun k _ hk => ho k ?_), fun k hk => ?_, ?_, World.cell?_setCell_same' _ _ _ b1, ?_, ?_, ?_, zx, fun k hk => ?_⟩
    · have := hge k (by rcases hk with e | e | e | e; exact .inl e; exact .inr (.inl e); exact .inr (.inr (.inl e)); exact .inr (.inr (.inr e)))
      omega
    · have := hge k hk
      omega
    · rw [World.cell?_setCell_other _ _ _ _ (by simp)]
      exact World.cell?_setCell_same' _ _ _ (by rw [a0]; rfl)
    · rw [World.frozen?_setCell, World.frozen?_setCell]; exact f0
    · rw [World.frozen?_setCell, World.frozen?_setCell]; exact f1
    · rintro ((e | e | e) | e)
      · omega
      · omega
      · omega
      · have := hge x e; omega
    · rcases hk with (e | e | e) | e
      · omega
      · omega
      · omega
      · have := hge k e; omega
  · exact ((hb34.mono (by omega)).setCell (p := ⟨x, 0, .none⟩) zx _).setCell (p := ⟨x, 1, .none⟩) zx _
set_option maxHeartbeats 2000000 in
theorem again_any {w : World} (h : Pq Z w x p b m q hb fb lb N B L B L) : Calls Try.prog 28 #[.pointer (some ⟨x, 0, .none⟩)] w fun e w' => e = .returned (.bool true) ∧ Pl Z w' x N ∧ Below Z w w' := by
  have n1 := h.qm.n1
  have n2 := h.qm.n2
  have k0 := h.x0
  have c11 := img_R h
  have HP : Hid (Pq Z w x p b m q hb fb lb N B L B L) := h
  clear h
  go_enter Try.func28, Try.ntmps28
  go_wp2_with (first | (go_at_call 11; refine c11.mono ?_; rintro e w1 hs; obtain ⟨qf, cf, q2, c2, rfl, hb1, c59, _⟩ := from_show hs n1 n2 HP.out.qm.nd HP.out.qm.rg HP.out.qm.bb; clear hs c11) | (go_at_call 59; refine c59.mono ?_; rintro e w2 ⟨p', b', m', B', g1, g2, g3, rfl, hr, hby, hb2⟩; rw [Lf_Fo] at hr; have hP2 := (HP.out.below hb1).below hb2; have k2 := hP2.x1; have c12 := img_Q hP2; have HR : Hid (Ram w2 p' b' m' N B' L ∧ (∀ i, i < (heldTo L N).length → ∀ j, j < 4096 → B' (fi (Fo (heldTo L N) i) * 4096 + j) = Do B (heldTo L N) i j) ∧ Below w1.heap.size w1 w2 ∧ Below w.heap.size w w1) := ⟨hr, hby, hb2, hb1⟩; clear hr hby hb2 hb1 c59 hP2 k0) | (go_at_call 12; refine c12.mono ?_; rintro e w3 hs; obtain ⟨qf3, cf3, q23, c23, rfl, hb3, _, c60⟩ := from_show hs n1 n2 HP.out.qm.nd HP.out.qm.rg HP.out.qm.bb; clear hs c12) | (go_at_call 60; refine c60.mono ?_; rintro e w4 ⟨⟨q', rfl, hqi⟩, hb4⟩; have HQ : Hid (QI w3 w4 q' N (Fo L) L.length (Fo (heldTo L N)) (Do B (heldTo L N)) (heldTo L N).length) := hqi; have hP4 := ((((HP.out.below HR.out.2.2.2).below HR.out.2.2.1).below hb3).below hb4); have y0 := hP4.x0; have y1 := hP4.x1; have y2 := hP4.f0; have y3 := hP4.f1; clear c60 hqi hP4) | fail)
  go_ret
  have s1 := HR.out.2.2.2.size
  have b23 := HR.out.2.2.2.trans (HR.out.2.2.1.mono s1)
  have b33 := b23.trans (hb3.mono b23.size)
  have hr4 := (HR.out.1.below hb3).below hb4
  have E := again_end HP.out b33 hb4 ⟨by omega, by omega, by omega⟩ ⟨by have := HR.out.1.mem.plt; have := hb3.size; omega, by have := HR.out.1.mem.blt; have := hb3.size; omega, by have := HR.out.1.mem.mlt; have := hb3.size; omega⟩ hr4 HR.out.2.1 HQ.out
  exact ⟨rfl, E.1, E.2⟩
end
end Go.Proofs.Ytnghcadhilfgnaa
namespace Go.Proofs.Ytnghcadhilfgnaa
open Go.RowKit
set_option linter.unusedVariables false
set_option linter.unusedSimpArgs false
/-- What begin leaves. -/
def BegP (w : World) (e : Ending) (w' : World) : Prop := ∃ x N, e = .returned (.pointer (some ⟨x, 0, .none⟩)) ∧ Pl w.heap.size w' x N ∧ Below w.heap.size w w' ∧ N ≤ 40
theorem beg_end {w w1 w2 : World} {p b m q hb g lb n : Nat} (hp : w.heap.size ≤ p ∧ w.heap.size ≤ b ∧ w.heap.size ≤ m) (hr : Ram w1 p b m n (newB (n - 1)) (down (n - 1))) (hb1 : Below w.heap.size w w1) (hq : w1.heap.size ≤ q ∧ w1.heap.size ≤ hb ∧ w1.heap.size ≤ g ∧ w1.heap.size ≤ lb) (hm : Qm w2 q hb (fun _ => g) lb n (newB (n - 1)) (down (n - 1))) (hb2 : Below w1.heap.size w1 w2) :
    Pl w.heap.size (w2.alloc (.cells #[.pointer (some ⟨p, 0, .none⟩), .pointer (some ⟨q, 0, .none⟩)] 33)) w2.heap.size n ∧ Below w.heap.size w (w2.alloc (.cells #[.pointer (some ⟨p, 0, .none⟩), .pointer (some ⟨q, 0, .none⟩)] 33)) := by
  have s1 := hb1.size
  have s2 := hb2.size
  have b3 := below_past w2 (.cells #[.pointer (some ⟨p, 0, .none⟩), .pointer (some ⟨q, 0, .none⟩)] 33)
  have pl := hr.mem.plt
  have bl := hr.mem.blt
  have ml := hr.mem.mlt
  have qb : ∀ k, Qb q hb lb n (fun _ => g) (down (n - 1)) k → w1.heap.size ≤ k ∧ k < w2.heap.size := fun k hk => by
    rcases hk with e | e | ⟨e, hn⟩ | ⟨i, hi, hL, e⟩
    · exact ⟨by omega, by rw [e]; exact hm.qlt⟩
    · exact ⟨by omega, by rw [e]; exact hm.hlt⟩
    · obtain ⟨lp, lc, _, hc⟩ := hm.list_at
      obtain ⟨lo, _, hc⟩ := hc 0 (List.length_pos_iff.2 hn)
      exact ⟨by omega, by rw [e]; exact lt_of_cell hc⟩
    · exact ⟨by rw [e]; exact hq.2.2.1, by rw [e]; exact hm.flt i hi hL⟩
  refine ⟨⟨p, b, m, q, hb, fun _ => g, lb, newB (n - 1), down (n - 1), ⟨(hr.below hb2).below b3, hm.below b3, fun k hk => ?_, by simp, by simp, World.frozen?_alloc_new _ _ _ _, World.frozen?_alloc_new _ _ _ _, ?_, by omega, fun k hk => ?_⟩⟩, (hb1.trans (hb2.mono s1)).trans (b3.mono (by omega))⟩
  · have := qb k hk
    omega
  · rintro ((e | e | e) | e)
    · omega
    · omega
    · omega
    · have := (qb _ e).2; omega
  · rcases hk with (e | e | e) | e
    · omega
    · omega
    · omega
    · have := (qb _ e).1; omega
set_option maxHeartbeats 1000000 in
theorem begin_any (frames : Int) (w : World) : Calls Try.prog 4 #[.int .i64 frames] w fun e w' => BegP w e w' := by
  by_cases hf : 1 ≤ frames ∧ frames ≤ 40
  · obtain ⟨n, rfl⟩ : ∃ n : Nat, frames = n := ⟨frames.toNat, by omega⟩
    have h1 : 1 ≤ n := by omega
    have h2 : n ≤ 40 := by omega
    have c1 := new_any n h1 (by omega) w
    have y1 : ¬ ((n : Int) < 1) := by omega
    have y2 : ¬ ((40 : Int) < n) := by omega
    clear hf
    go_enter Try.func4, Try.ntmps4
    go_wp2_with (first | (go_at_call 13; refine c1.mono ?_; rintro e w1 ⟨p, b, m, g1, g2, g3, rfl, hr, hb1⟩; have c2 := newQ_any n h1 (by omega) w1; have HR : Hid (Ram w1 p b m n (newB (n - 1)) (down (n - 1)) ∧ Below w.heap.size w w1) := ⟨hr, hb1⟩; clear hr hb1 c1) | (go_at_call 14; refine c2.mono ?_; rintro e w2 ⟨q, hb, g, lb, a1, a2, a3, a4, rfl, hm, hb2⟩; have HQ : Hid (Qm w2 q hb (fun _ => g) lb n (newB (n - 1)) (down (n - 1)) ∧ Below w1.heap.size w1 w2) := ⟨hm, hb2⟩; clear hm hb2 c2) | fail)
    go_ret
    have E := beg_end ⟨g1, g2, g3⟩ HR.out.1 HR.out.2 ⟨a1, a2, a3, a4⟩ HQ.out.1 HQ.out.2
    exact ⟨_, n, rfl, E.1, E.2, h2⟩
  · have c1 := new_any 5 (by omega) (by omega) w
    have y0 : (frames < 1) ∨ ¬ (frames < 1) ∧ 40 < frames := by omega
    clear hf
    rcases y0 with y1 | ⟨y1, y2⟩
    all_goals
      go_enter Try.func4, Try.ntmps4
      go_wp2_with (first | (go_at_call 13; refine c1.mono ?_; rintro e w1 ⟨p, b, m, g1, g2, g3, rfl, hr, hb1⟩; have c2 := newQ_any 5 (by omega) (by omega) w1; have HR : Hid (Ram w1 p b m 5 (newB (5 - 1)) (down (5 - 1)) ∧ Below w.heap.size w w1) := ⟨hr, hb1⟩; clear hr hb1 c1) | (go_at_call 14; refine c2.mono ?_; rintro e w2 ⟨q, hb, g, lb, a1, a2, a3, a4, rfl, hm, hb2⟩; have HQ : Hid (Qm w2 q hb (fun _ => g) lb 5 (newB (5 - 1)) (down (5 - 1)) ∧ Below w1.heap.size w1 w2) := ⟨hm, hb2⟩; clear hm hb2 c2) | fail)
      go_ret
      have E := beg_end ⟨g1, g2, g3⟩ HR.out.1 HR.out.2 ⟨a1, a2, a3, a4⟩ HQ.out.1 HQ.out.2
      exact ⟨_, 5, rfl, E.1, E.2, by omega⟩
end Go.Proofs.Ytnghcadhilfgnaa
