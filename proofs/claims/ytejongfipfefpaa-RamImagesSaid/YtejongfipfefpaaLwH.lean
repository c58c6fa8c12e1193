import Derived.Test.YtejongfipfefpaaLwD
import Derived.Test.YtejongfipfefpaaFiD
import Derived.Test.YtejongfipfefpaaRfE
namespace Go.Proofs.Ytejongfipfefpaa
open Go.RowKit
set_option linter.unusedVariables false
set_option linter.unusedSimpArgs false
theorem run_append_zero22 (b : Nat) (p : Option Addr) (c : Nat) (ty : TypeId) (w : World) : (Builtin.append_ #[22, 22] ty #[.slice (some ⟨b, 0, .none⟩) 0 0, .slice p 0 c]).run Try.prog w = .ok (.slice (some ⟨b, 0, .none⟩) 0 0) w := by
  obtain ⟨i, hi, _⟩ := info22'
  cases p <;> simp [Builtin.append_, run_underlying Try.underlying22, sizeOf, typeInfo, hi, Builtin.lenOf, Builtin.firstCells, loadCells, loadCellsFrom, storeCells]
theorem wpList_append_zero22 {w : World} {ops : Array Oper} {rest : List Oper} {o : Oper} {a : Act} {Q : Exit → Act → World → Prop} (hgd : o.guard = none) (s x : Operand)
    (ho : o.op = .call { callee := .builtin .append, args := #[s, x], argTypes := #[22, 22] }) (b : Nat) (p : Option Addr) (c : Nat) (hs : a.eval s = .slice (some ⟨b, 0, .none⟩) 0 0) (hx : a.eval x = .slice p 0 c)
    (h : wpList Try.prog ops Q rest (a.put o.dst (.slice (some ⟨b, 0, .none⟩) 0 0)) w) : wpList Try.prog ops Q (o :: rest) a w := by
  refine wpList_plain hgd fun K hK => ?_
  unfold Oper.wp execOp
  simp only [ho, resolve, invoke, builtin, Sem.run_bind, Sem.run_pure, Result.andThen_ok, List.map_toArray, List.map_cons, List.map_nil, hs, hx, run_append_zero22]
  exact hK _ _ h
/-- What is handed in, as the world has it. -/
structure Arg (W : World) (nf cf nh ch : Nat) (qf qh : Option Addr) (F PA : Nat → Int) (P : Nat → Option Addr) (L C : Nat → Nat) (D : Nat → Nat → Int) : Prop where
  fs : Fs W qf nf F
  fb : ∀ i, 0 ≤ F i ∧ F i < 18446744073709551616
  hs : Hs W qh nh PA P L C
  pb : ∀ i, 0 ≤ PA i ∧ PA i < 18446744073709551616
  lc : ∀ i, L i ≤ C i ∧ C i ≤ 9223372036854775807
  lm : ∀ i, L i < 140737488355000
  ds : Ds W nh P L D
  db : ∀ i j, 0 ≤ D i j ∧ D i j < 256
  cf : nf ≤ cf ∧ cf ≤ 9223372036854775807
  ch : nh ≤ ch ∧ ch ≤ 9223372036854775807
  sm : nf * 8 < 140737488355000 ∧ nh * 32 < 140737488355000
theorem see_of {V : World} {q : Option Addr} {nh : Nat} {PA : Nat → Int} {P : Nat → Option Addr} {L C : Nat → Nat} {D : Nat → Nat → Int} (h : Hs V q nh PA P L C) (d : Ds V nh P L D) : SeeH V q nh PA L D := by
  rcases h with h0 | ⟨g, o, e, l, hc⟩
  · exact .inl h0
  · refine .inr ⟨g, o, e, l, fun i hi => ⟨(hc i hi).1, _, _, (hc i hi).2, ?_⟩⟩
    rcases d i hi with h0 | ⟨b, o', e', l', hd⟩
    · exact .inl h0
    · exact .inr ⟨b, o', e', l', hd⟩
theorem SeeH.ext {V : World} {q : Option Addr} {nh : Nat} {PA : Nat → Int} {L L' : Nat → Nat} {D D' : Nat → Nat → Int} (h : SeeH V q nh PA L D) (hL : ∀ i, i < nh → L i = L' i) (hD : ∀ i, i < nh → ∀ t, t < L i → D i t = D' i t) : SeeH V q nh PA L' D' := by
  rcases h with h0 | ⟨g, o, e, l, hc⟩
  · exact .inl h0
  · refine .inr ⟨g, o, e, l, fun i hi => ⟨(hc i hi).1, ?_⟩⟩
    obtain ⟨d, c, h1, h2⟩ := (hc i hi).2
    refine ⟨d, c, by rw [← hL i hi]; exact h1, ?_⟩
    rw [← hL i hi]
    rcases h2 with h0 | ⟨g', o', e', l', h3⟩
    · exact .inl h0
    · exact .inr ⟨g', o', e', l', fun t ht => by rw [← hD i hi t ht]; exact h3 t ht⟩
theorem see_ext {V : World} {k : IntKind} {q : Option Addr} {n : Nat} {R R' : Nat → Int} (h : See V k q n R) (hR : ∀ i, i < n → R i = R' i) : See V k q n R' := by
  rcases h with h0 | ⟨g, o, e, l, hc⟩
  · exact .inl h0
  · exact .inr ⟨g, o, e, l, fun i hi => by rw [← hR i hi]; exact hc i hi⟩
section
variable {W V : World} {n : Int} {nf cf nh ch : Nat} {qf qh : Option Addr} {F PA : Nat → Int} {P : Nat → Option Addr} {L C : Nat → Nat} {D : Nat → Nat → Int}
theorem Ds.keep (h : Ds W nh P L D) (hb : Below W.heap.size W V) : Ds V nh P L D := by
  intro i hi
  rcases h i hi with h0 | ⟨b, o, e, l, hc⟩
  · exact .inl h0
  · exact .inr ⟨b, o, e, Nat.lt_of_lt_of_le l hb.size, fun j hj => (hb.cell (p := ⟨b, o + j, .none⟩) l).trans (hc j hj)⟩
theorem Fs.keep2 (h : Fs W qf nf F) (hb : Below W.heap.size W V) : Fs V qf nf F := by
  rcases h with h0 | ⟨g, o, e, l, hc⟩
  · exact .inl h0
  · exact .inr ⟨g, o, e, Nat.lt_of_lt_of_le l hb.size, fun i hi => (hb.cell (p := ⟨g, o + i, .none⟩) l).trans (hc i hi)⟩
theorem Arg.below (h : Arg W nf cf nh ch qf qh F PA P L C D) (hb : Below W.heap.size W V) : Arg V nf cf nh ch qf qh F PA P L C D :=
  ⟨h.fs.keep2 hb, h.fb, h.hs.keep hb (Nat.le_refl _), h.pb, h.lc, h.lm, h.ds.keep hb, h.db, h.cf, h.ch, h.sm⟩
theorem Arg.see (h : Arg W nf cf nh ch qf qh F PA P L C D) : See W .u64 qf nf F ∧ SeeH W qh nh PA L D := ⟨h.fs, see_of h.hs h.ds⟩
theorem Arg.byt (h : Arg W nf cf nh ch qf qh F PA P L C D) {i : Nat} (hi : i < nh) : Byt W (P i) (L i) (C i) (bl (L i) (D i)) := by
  refine ⟨bl_len _ _, (h.lc i).1, (h.lc i).2, ?_⟩
  rcases h.ds i hi with h0 | ⟨b, o, e, l, hc⟩
  · exact .inl h0
  · refine .inr ⟨b, o, e, l, fun t x hx => ?_⟩
    have ht : t < L i := by
      have := (List.getElem?_eq_some_iff.1 hx).1
      rwa [bl_len] at this
    rw [bl_get _ _ _ ht] at hx
    injection hx with hx
    rw [← hx]
    exact hc t ht
/-- The copy is an argument too. -/
theorem In.arg {F' : Nat → Int} {D' : Nat → Nat → Int} {fq hq : Option Addr} {fc hc : Nat} {gs : List (Nat × Nat)} (h : In W V n nf cf gs.length ch qf qh F' PA L D' fq fc hq hc gs) (a : Arg W nf cf gs.length ch qf qh F PA P L C D) (hF : ∀ i, 0 ≤ F' i ∧ F' i < 18446744073709551616) (hD : ∀ i j, 0 ≤ D' i j ∧ D' i j < 256) :
    Fs V fq nf F' ∧ Hs V hq gs.length PA (fun j => some ⟨(gs.getD j (0, 0)).1, 0, .none⟩) L (fun j => (gs.getD j (0, 0)).2) ∧ Ds V gs.length (fun j => some ⟨(gs.getD j (0, 0)).1, 0, .none⟩) L D' := ⟨h.fs, h.hs, h.ds⟩
/-- The copy begins. -/
theorem in0 {W5 : World} {fq : Option Addr} {fc : Nat} (hp : C3 W5 W.heap.size (.int .i64 n) (.slice qf nf cf) (.slice qh nh ch)) (hc : C3 W5 (W.heap.size + 1) (.int .i64 n) (.slice .none 0 0) (.slice .none 0 0)) (ho : W5.ownsRow (W.heap.size + 1 + 1) 26 1 (.slice fq nf fc) nf ((List.range nf).map fun i => .int .u64 (F i))) (hb : Below W.heap.size W W5) (hx : W.heap.size + 1 + 1 ≤ W5.heap.size) :
    In W (W5.setCell ⟨W.heap.size + 1, 1, .none⟩ (.slice fq nf fc)) n nf cf nh ch qf qh F PA L D fq fc none 0 [] := by
  obtain ⟨a0, a1, a2, z0, z1, z2⟩ := hc
  have so : ∀ x o, (x ≠ W.heap.size + 1 ∨ o ≠ 1) → (W5.setCell ⟨W.heap.size + 1, 1, .none⟩ (.slice fq nf fc)).cell? ⟨x, o, .none⟩ = W5.cell? ⟨x, o, .none⟩ := fun x o hx => World.cell?_setCell_other _ _ _ _ (by simp only [ne_eq, Addr.mk.injEq, and_true, not_and]; intro e1 e2; rcases hx with hx | hx <;> omega)
  exact ⟨hp.other (by show W.heap.size + 1 ≠ W.heap.size; omega) _, ⟨(so _ _ (.inr (by decide))).trans a0, World.cell?_setCell_same' _ _ _ (by rw [a1]; rfl), (so _ _ (.inr (by decide))).trans a2, (World.frozen?_setCell ..).trans z0, (World.frozen?_setCell ..).trans z1, (World.frozen?_setCell ..).trans z2⟩, ownsRow_setCell_below ho (a := ⟨W.heap.size + 1, 1, .none⟩) (by show W.heap.size + 1 < W.heap.size + 1 + 1; omega) _, World.ownsRow_nil _ _ _ _, fun j x hj => by simp at hj, by simp, hb.setCell (p := ⟨W.heap.size + 1, 1, .none⟩) (by show W.heap.size ≤ W.heap.size + 1; omega) _, by rw [World.size_setCell]; exact hx⟩
end
end Go.Proofs.Ytejongfipfefpaa
namespace Go.Proofs.Ytejongfipfefpaa
open Go.RowKit
set_option linter.unusedVariables false
set_option linter.unusedSimpArgs false
/-- From a place on, all that was there is as it was. -/
def Tl (k : Nat) (w w' : World) : Prop := w.heap.size ≤ w'.heap.size ∧ ∀ x, k ≤ x → x < w.heap.size → w'.heap[x]? = w.heap[x]?
theorem Tl.refl (k : Nat) (w : World) : Tl k w w := ⟨Nat.le_refl _, fun _ _ _ => rfl⟩
theorem Tl.below {k : Nat} {w w' w'' : World} (h : Tl k w w') (b : Below w'.heap.size w' w'') : Tl k w w'' :=
  ⟨Nat.le_trans h.1 b.size, fun x hx hl => (b.block x (Nat.lt_of_lt_of_le hl h.1)).trans (h.2 x hx hl)⟩
theorem Tl.set {k : Nat} {w w' : World} (h : Tl k w w') {a : Addr} (ha : a.block < k) (v : Value) : Tl k w (w'.setCell a v) :=
  ⟨by rw [World.size_setCell]; exact h.1, fun x hx hl => (Below.heap_setCell _ _ _ _ (by omega)).trans (h.2 x hx hl)⟩
theorem Ram.tl {w w' : World} {p b m N k : Nat} {B : Nat → Int} {L : List Nat} (h : Ram w p b m N B L) (hp : k ≤ p) (hb : k ≤ b) (hm : k ≤ m) (t : Tl k w w') : Ram w' p b m N B L :=
  ⟨h.mem.keep (t.2 p hp h.mem.plt) (t.2 b hb h.mem.blt) (t.2 m hm h.mem.mlt), h.nd, h.lt, h.thr⟩
/-- The frames' first bytes, one up, so far. -/
def D2 (D : Nat → Nat → Int) (i : Nat) : Nat → Nat → Int := fun j t => if j < i ∧ t = 0 then IntKind.u8.wrap (D j 0 + 1) else D j t
theorem D2_zero (D : Nat → Nat → Int) : D2 D 0 = D := by
  funext j t
  simp [D2]
theorem D2_at (D : Nat → Nat → Int) (i : Nat) (t : Nat) : D2 D i i t = D i t := by simp [D2]
theorem D2_succ (D : Nat → Nat → Int) (i : Nat) : (fun j t => if j = i then (if t = 0 then IntKind.u8.wrap (D i 0 + 1) else D2 D i j t) else D2 D i j t) = D2 D (i + 1) := by
  funext j t
  by_cases e : j = i
  · subst e
    by_cases h : t = 0
    · simp [D2, h]
    · simp [D2, h]
  · have : (j < i + 1) ↔ (j < i) := by omega
    simp [D2, e, this]
theorem wrap8 (x : Int) : 0 ≤ IntKind.u8.wrap x ∧ IntKind.u8.wrap x < 256 := by
  have e : IntKind.u8.wrap x = x % 256 := by simp [IntKind.wrap, IntKind.signed, IntKind.bits]
  rw [e]
  omega
theorem D2_b {D : Nat → Nat → Int} (h : ∀ i j, 0 ≤ D i j ∧ D i j < 256) (i : Nat) : ∀ a b, 0 ≤ D2 D i a b ∧ D2 D i a b < 256 := by
  intro a b
  unfold D2
  split
  · exact wrap8 _
  · exact h a b
/-- The copied addresses, sevens so far. -/
def F3 (F : Nat → Int) (i : Nat) : Nat → Int := fun k => if k < i then 7 else F k
theorem F3_zero (F : Nat → Int) : F3 F 0 = F := by
  funext k
  simp [F3]
theorem F3_succ (F : Nat → Int) (i : Nat) : (fun k => if k = i then 7 else F3 F i k) = F3 F (i + 1) := by
  funext k
  by_cases e : k = i
  · simp [F3, e]
  · have : (k < i + 1) ↔ (k < i) := by omega
    simp [F3, e, this]
theorem F3_b {F : Nat → Int} (h : ∀ i, 0 ≤ F i ∧ F i < 18446744073709551616) (i : Nat) : ∀ a, 0 ≤ F3 F i a ∧ F3 F i a < 18446744073709551616 := by
  intro a
  unfold F3
  split
  · omega
  · exact h a
theorem own_capN {w : World} {base e sz n c : Nat} {q : Option Addr} {xs : List Value} (h : w.ownsRow base e sz (.slice q n c) n xs) : n ≤ c ∧ c ≤ 9223372036854775807 := by
  rcases h.2 with ⟨hv, h0⟩ | ⟨g', cap, cur, hv, hb, hg, hn, hm, _⟩
  · injection hv with _ h1 h2
    omega
  · injection hv with _ _ h2
    have hm : cap ≤ 9223372036854775807 := hm
    omega
section
variable {W V : World} {n : Int} {nf cf nh ch : Nat} {qf qh : Option Addr} {F PA : Nat → Int} {P : Nat → Option Addr} {L C : Nat → Nat} {D : Nat → Nat → Int} {fq hq : Option Addr} {fc hc : Nat} {gs : List (Nat × Nat)}
theorem from_in (h : In W V n nf cf nh ch qf qh F PA L D fq fc hq hc gs) (hl : gs.length = nh) (hF : ∀ i, 0 ≤ F i ∧ F i < 18446744073709551616) (hP : ∀ i, 0 ≤ PA i ∧ PA i < 18446744073709551616) (hD : ∀ i j, 0 ≤ D i j ∧ D i j < 256) (hL : ∀ i, L i < 140737488355000) (hs : nf * 8 < 140737488355000 ∧ nh * 32 < 140737488355000) :
    Calls Try.prog 5 #[.agg #[.int .i64 n, .slice fq nf fc, .slice hq nh hc]] V fun e w' => ∃ a r, Verd F nf PA L nh n a r ∧ ((r ≠ 0 ∧ NoP V a r e w') ∨ (r = 0 ∧ a = 0 ∧ ∃ N : Nat, n = N ∧ 1 ≤ N ∧ N ≤ 4096 ∧ Fine F nf PA L nh N ∧ FrP V F nf PA D nh N e w')) := by
  subst hl
  exact from_any V nf fc gs.length hc n fq hq F PA _ L _ D h.fs hF (own_capN h.fr).1 (own_capN h.fr).2 h.hs hP (own_capN h.hr).1 (own_capN h.hr).2 (fun i => by have := hL i; omega) h.ds hD ⟨by omega, by omega⟩
theorem ref_in (h : In W V n nf cf nh ch qf qh F PA L D fq fc hq hc gs) (hl : gs.length = nh) (hF : ∀ i, 0 ≤ F i ∧ F i < 18446744073709551616) (hP : ∀ i, 0 ≤ PA i ∧ PA i < 18446744073709551616) (hL : ∀ i, L i < 140737488355000) (hs : nf * 8 < 140737488355000 ∧ nh * 32 < 140737488355000) :
    Calls Try.prog 6 #[.agg #[.int .i64 n, .slice fq nf fc, .slice hq nh hc]] V fun e w' => (∃ a r, Verd F nf PA L nh n a r ∧ ((r ≠ 0 ∧ e = .returned (.tuple #[.pointer none, .int .i64 a, .int .i64 r])) ∨ (r = 0 ∧ a = 0 ∧ ∃ N : Nat, n = N ∧ 1 ≤ N ∧ N ≤ 4096 ∧ Fine F nf PA L nh N ∧ ∃ q, e = .returned (.tuple #[.pointer (some ⟨q, 0, .none⟩), .int .i64 0, .int .i64 0]) ∧ QI V w' q N F nf PA D nh))) ∧ Below V.heap.size V w' := by
  subst hl
  exact ref_any V nf fc gs.length hc n fq hq F PA _ L _ D h.fs hF (own_capN h.fr).1 (own_capN h.fr).2 h.hs hP (own_capN h.hr).1 (own_capN h.hr).2 (fun i => by have := hL i; omega) h.ds ⟨by omega, by omega⟩
theorem ref_arg (h : Arg V nf cf nh ch qf qh F PA P L C D) :
    Calls Try.prog 6 #[.agg #[.int .i64 n, .slice qf nf cf, .slice qh nh ch]] V fun e w' => (∃ a r, Verd F nf PA L nh n a r ∧ ((r ≠ 0 ∧ e = .returned (.tuple #[.pointer none, .int .i64 a, .int .i64 r])) ∨ (r = 0 ∧ a = 0 ∧ ∃ N : Nat, n = N ∧ 1 ≤ N ∧ N ≤ 4096 ∧ Fine F nf PA L nh N ∧ ∃ q, e = .returned (.tuple #[.pointer (some ⟨q, 0, .none⟩), .int .i64 0, .int .i64 0]) ∧ QI V w' q N F nf PA D nh))) ∧ Below V.heap.size V w' := by
  have := h.sm
  exact ref_any V nf cf nh ch n qf qh F PA P L C D h.fs h.fb h.cf.1 h.cf.2 h.hs h.pb h.ch.1 h.ch.2 (fun i => by have := h.lc i; omega) h.ds ⟨by omega, by omega⟩
/-- The copy and what was handed in show the same. -/
theorem images_in (h : In W V n nf cf nh ch qf qh F PA L D fq fc hq hc gs) (hl : gs.length = nh) (a : Arg V nf cf nh ch qf qh F PA P L C D) :
    Calls Try.prog 9 #[.agg #[.int .i64 n, .slice fq nf fc, .slice hq nh hc], .agg #[.int .i64 n, .slice qf nf cf, .slice qh nh ch]] V fun e w' => e = .returned (.bool true) ∧ Below V.heap.size V w' := by
  subst hl
  have := a.sm
  exact images_same (by omega) (by omega) (fun i _ => by have := a.lm i; omega) h.see.1 a.see.1 h.see.2 a.see.2
end
end Go.Proofs.Ytejongfipfefpaa
namespace Go.Proofs.Ytejongfipfefpaa
open Go.RowKit
set_option linter.unusedVariables false
set_option linter.unusedSimpArgs false
section
variable {W V w : World} {n : Int} {N : Nat} {nf cf nh ch : Nat} {qf qh : Option Addr} {F PA : Nat → Int} {P : Nat → Option Addr} {L C : Nat → Nat} {D : Nat → Nat → Int} {B : Nat → Int} {fq hq : Option Addr} {fc hc : Nat} {gs : List (Nat × Nat)} {e : Ending}
/-- What an image shows. -/
def Shows (w V : World) (N nf nh : Nat) (F PA : Nat → Int) (D : Nat → Nat → Int) (e : Ending) : Prop := ∃ qf cf q2 c2, e = .returned (.agg #[.int .i64 N, .slice qf nf cf, .slice q2 nh c2]) ∧ See V .u64 qf nf F ∧ SeeH V q2 nh PA (fun _ => 4096) D ∧ Below w.heap.size w V
theorem see_imgP (h : ImgP w N B (Lf F nf) e V) (hf : Fine F nf PA L nh N) (hB : ∀ i, i < nh → ∀ j, j < 4096 → B (fi (PA i) * 4096 + j) = D i j) : Shows w V N nf nh F PA D e := by
  obtain ⟨hs, qf, cf, q2, c2, rfl, hm, h1, h2, h3, _, hb⟩ := h
  have h4 := see_free (fun i hi => (hf.free hi).1) h1
  obtain ⟨h5, h6⟩ := see_held (fun i hi => (hf.held hi).1) (hm.trans hf.held_eq) h2 (fun x hx t ht => (h3 x hx).2.1.row t ht) hB
  refine ⟨qf, cf, q2, c2, ?_, h4, h6, hb⟩
  rw [Lf_len, h5]
theorem see_imgQ (h : ImgQ w N B (Lf F nf) e V) (hf : Fine F nf PA L nh N) (hB : ∀ i, i < nh → ∀ j, j < 4096 → B (fi (PA i) * 4096 + j) = D i j) : Shows w V N nf nh F PA D e := by
  obtain ⟨hs, qf, cf, q2, c2, rfl, hm, h1, h2, h3, hb⟩ := h
  have h4 := see_free (fun i hi => (hf.free hi).1) h1
  obtain ⟨h5, h6⟩ := see_held (fun i hi => (hf.held hi).1) (hm.trans hf.held_eq) h2 h3 hB
  refine ⟨qf, cf, q2, c2, ?_, h4, h6, hb⟩
  rw [Lf_len, h5]
theorem In.shows (h : In W V n nf cf nh ch qf qh F PA L D fq fc hq hc gs) (hl : gs.length = nh) (hf : Fine F nf PA L nh N) : See V .u64 fq nf F ∧ SeeH V hq nh PA (fun _ => 4096) D := by
  subst hl
  exact ⟨h.see.1, h.see.2.ext (fun i hi => (hf.held hi).2.1) (fun _ _ _ _ => rfl)⟩
theorem Arg.shows (h : Arg V nf cf nh ch qf qh F PA P L C D) (hf : Fine F nf PA L nh N) : See V .u64 qf nf F ∧ SeeH V qh nh PA (fun _ => 4096) D :=
  ⟨h.see.1, h.see.2.ext (fun i hi => (hf.held hi).2.1) (fun _ _ _ _ => rfl)⟩
theorem images_two {cfa cfb cha chb : Nat} {qfa qfb qha qhb : Option Addr} (sm : nf * 8 < 140737488355000 ∧ nh * 32 < 140737488355000) (a : See V .u64 qfa nf F ∧ SeeH V qha nh PA (fun _ => 4096) D) (b : See V .u64 qfb nf F ∧ SeeH V qhb nh PA (fun _ => 4096) D) :
    Calls Try.prog 9 #[.agg #[.int .i64 n, .slice qfa nf cfa, .slice qha nh cha], .agg #[.int .i64 n, .slice qfb nf cfb, .slice qhb nh chb]] V fun e w' => e = .returned (.bool true) ∧ Below V.heap.size V w' :=
  images_same (by omega) (by omega) (fun i _ => by omega) a.1 b.1 a.2 b.2
end
end Go.Proofs.Ytejongfipfefpaa
