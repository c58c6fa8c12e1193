import Derived.Test.YthopgmmodldljabAd
import Derived.OrdersHeld
import Derived.Deep.MidRow
namespace Go.Proofs.Ythopgmmodldljab
open Go Go.RowKit
set_option linter.unusedVariables false
set_option linter.unusedSimpArgs false
/-- A variable of one struct, as a row. -/
def bx (t k b : Nat) (cs : List Value) : Row := ⟨t, k, 1, .slice (some ⟨b, 0, .none⟩) 1 1, cs⟩
theorem bx_own {w : World} {base t k b : Nat} {cs : List Value} (h : w.heap[b]? = some (.cells cs.toArray t (0, 0))) (hl : cs.length = k) (hb : base ≤ b) : w.ownsRow base t k (.slice (some ⟨b, 0, .none⟩) 1 1) 1 cs :=
 ⟨by rw [hl, Nat.one_mul], .inr ⟨b, 1, cs.toArray, rfl, hb, h, Nat.le_refl _, by decide, by simp [hl], by simp [← hl]⟩⟩
theorem bx_heap {w : World} {base t k b : Nat} {cs : List Value} (h : w.ownsRow base t k (.slice (some ⟨b, 0, .none⟩) 1 1) 1 cs) : w.heap[b]? = some (.cells cs.toArray t (0, 0)) := by
 obtain ⟨h1, h2⟩ := h
 rcases h2 with ⟨h2, _⟩ | ⟨g, cap, cur, hv, _, hg, _, _, hs, ht⟩
 ·cases h2
 ·injection hv with e1 e2 e3
  injection e1 with e1
  injection e1 with e1
  subst e1 e3
  rw [hg]
  have : cur.toList = cs := by
   rw [← ht, List.take_of_length_le (by simp [hs])]
  rw [← this]
theorem Owns.mid {w : World} {base : Nat} {A B : List Row} {r : Row} : Owns w base (A ++ r :: B) ↔ Owns w base (r :: (A ++ B)) :=
 ⟨fun h => h.perm List.perm_middle, fun h => h.perm List.perm_middle.symm⟩
theorem Owns.appAt {w w' : World} {base : Nat} {A B : List Row} {r r' : Row} (h : Owns w base (A ++ r :: B)) (hr : w'.ownsRow base r'.e r'.sz r'.v r'.n r'.xs) (hg : w.grownBy w' r.v.ownBlock) (hv : r'.v.ownBlock = r.v.ownBlock ∨ r'.v.ownBlock = some w.heap.size) : Owns w' base (A ++ r' :: B) :=
 Owns.mid.2 ((Owns.mid.1 h).app hr hg hv)
theorem setCell_grown (w : World) (g j : Nat) (u : Value) : w.grownBy (w.setCell ⟨g, j, .none⟩ u) (some g) := ⟨rfl, rfl, rfl, by simp [World.setCell], fun k _ hk => Below.heap_setCell _ _ _ _ (fun e => hk (by rw [e]))⟩
theorem set_own {w : World} {base e sz n c g j : Nat} {xs : List Value} (h : w.ownsRow base e sz (.slice (some ⟨g, 0, .none⟩) n c) n xs) (u : Value) (hj : j < xs.length) : (w.setCell ⟨g, j, .none⟩ u).ownsRow base e sz (.slice (some ⟨g, 0, .none⟩) n c) n (xs.set j u) := by
 obtain ⟨h1, h2⟩ := h
 refine ⟨by rw [List.length_set]; exact h1, ?_⟩
 rcases h2 with ⟨h2, _⟩ | ⟨g', cap, cur, hv, hb, hg, hc, hm, hs, ht⟩
 ·cases h2
 ·injection hv with e1 e2 e3
  injection e1 with e1
  injection e1 with e1
  subst e1 e3
  refine .inr ⟨g, c, _, rfl, hb, setCell_heap w g j u hg, hc, hm, by simp [hs], ?_⟩
  rw [Array.toList_setIfInBounds, List.take_set, ht]
theorem Owns.setAt {w : World} {base g j n c : Nat} {A B : List Row} {r : Row} (h : Owns w base (A ++ r :: B)) (u : Value) (hv : r.v = .slice (some ⟨g, 0, .none⟩) n c) (hn : r.n = n) (hj : j < r.xs.length) : Owns (w.setCell ⟨g, j, .none⟩ u) base (A ++ ⟨r.e, r.sz, r.n, r.v, r.xs.set j u⟩ :: B) := by
 refine h.appAt ?_ ?_ (.inl rfl)
 ·have := h.own r (by simp)
  rw [hv, hn] at this ⊢
  exact set_own this u hj
 ·rw [hv]
  exact setCell_grown w g j u
theorem Owns.bx {w : World} {base t k b : Nat} {cs : List Value} {R : List Row} (h : Owns w base R) (hr : bx t k b cs ∈ R) : w.heap[b]? = some (.cells cs.toArray t (0, 0)) := bx_heap (h.own _ hr)
theorem Owns.cell {w : World} {base t k b : Nat} {cs : List Value} {R : List Row} (h : Owns w base R) (hr : Go.Proofs.Ythopgmmodldljab.bx t k b cs ∈ R) (j : Nat) : w.cell? ⟨b, j, .none⟩ = cs[j]? ∧ w.frozen? ⟨b, j, .none⟩ = false := by
 have := h.bx hr
 refine ⟨?_, frozen_heap this⟩
 rw [cell_heap this]
 simp
/-- One variable more. -/
theorem Owns.new {w w' : World} {base t k : Nat} {cs : List Value} {R : List Row} (h : Owns w base R) (hW : w'.heap[w.heap.size]? = some (.cells cs.toArray t (0, 0))) (hb : Below w.heap.size w w') (hl : cs.length = k) (hB : base ≤ w.heap.size) : Owns w' base (Go.Proofs.Ythopgmmodldljab.bx t k w.heap.size cs :: R) :=
 h.push hb (bx_own hW hl (Nat.le_refl _)) hB
theorem Owns.alloc {w : World} {base : Nat} {R : List Row} (h : Owns w base R) (o : Obj) : Owns (w.alloc o) base R := h.keep (below1 w o)
/-! The copy of a look. -/
abbrev PE := Pc × Value × Value
def PE.l (e : PE) : List Value := e.1.l e.2.1 e.2.2
def rowN (l : List Int) (v : Value) : Row := ⟨22, 1, l.length, v, l.map (.int .u64)⟩
def rowB (l : List Int) (v : Value) : Row := ⟨5, 1, l.length, v, l.map (.int .u8)⟩
def rowG (l : List Pg) (v : Value) : Row := ⟨65, 3, l.length, v, (l.map Pg.l).flatten⟩
def rowsP (E : List PE) : List Row := E.flatMap fun e => [rowN e.1.nodes e.2.1, rowG e.1.pages e.2.2]
def rowP (E : List PE) (v : Value) : Row := ⟨60, 70, E.length, v, (E.map PE.l).flatten⟩
def rowF (l : List Fi) (v : Value) : Row := ⟨67, 8, l.length, v, (l.map Fi.l).flatten⟩
abbrev IE := In × Value
def IE.l (e : IE) : List Value := e.1.l e.2
def rowsI (E : List IE) : List Row := E.map fun e => rowN e.1.bl e.2
def rowI (E : List IE) (v : Value) : Row := ⟨63, 8, E.length, v, (E.map IE.l).flatten⟩
abbrev QE := Pp × Value
def QE.l (e : QE) : List Value := e.1.l e.2
def rowsQ (E : List QE) : List Row := E.map fun e => rowB e.1.bs e.2
def rowQ (E : List QE) (v : Value) : Row := ⟨72, 6, E.length, v, (E.map QE.l).flatten⟩
theorem info55 : ∃ i z, Try.prog.info? 60 = some i ∧ i.zero = some z ∧ i.size = 70 ∧ i.bytes = 584 ∧ z.cells.size = 70 := info_of 60 70 584 (by kernel_rfl) (by kernel_rfl)
theorem info33 : ∃ i z, Try.prog.info? 31 = some i ∧ i.zero = some z ∧ i.size = 10 ∧ i.bytes = 176 ∧ z.cells.size = 10 := info_of 31 10 176 (by kernel_rfl) (by kernel_rfl)
theorem info81 : ∃ i z, Try.prog.info? 65 = some i ∧ i.zero = some z ∧ i.size = 3 ∧ i.bytes = 24 ∧ z.cells.size = 3 := info_of 65 3 24 (by kernel_rfl) (by kernel_rfl)
theorem info94 : ∃ i z, Try.prog.info? 67 = some i ∧ i.zero = some z ∧ i.size = 8 ∧ i.bytes = 56 ∧ z.cells.size = 8 := info_of 67 8 56 (by kernel_rfl) (by kernel_rfl)
theorem info66 : ∃ i z, Try.prog.info? 63 = some i ∧ i.zero = some z ∧ i.size = 8 ∧ i.bytes = 72 ∧ z.cells.size = 8 := info_of 63 8 72 (by kernel_rfl) (by kernel_rfl)
theorem info98 : ∃ i z, Try.prog.info? 72 = some i ∧ i.zero = some z ∧ i.size = 6 ∧ i.bytes = 48 ∧ z.cells.size = 6 := info_of 72 6 48 (by kernel_rfl) (by kernel_rfl)
theorem pcl_len (p : Pc) (nv gv : Value) : (p.l nv gv).length = 70 := rfl
theorem pcl_one (p : Pc) {nv gv : Value} (h1 : nv.oneCell' = true) (h2 : gv.oneCell' = true) : ∀ v ∈ p.l nv gv, v.oneCell' = true := by
 intro v hv
 simp only [Pc.l, List.mem_cons, List.not_mem_nil, or_false] at hv
 repeat (rcases hv with rfl | hv; first | rfl | exact h1 | exact h2)
 try (subst hv; rfl)
theorem pcl_n (p : Pc) (nv gv u : Value) : (p.l nv gv).set 44 u = p.l u gv := rfl
theorem pcl_g (p : Pc) (nv gv u : Value) : (p.l nv gv).set 45 u = p.l nv u := rfl
theorem lkL_one (t : Int) {pv fv iv qv rv lv : Value} (ti nx fr : Int) (h1 : pv.oneCell' = true) (h2 : fv.oneCell' = true) (h3 : iv.oneCell' = true) (h4 : qv.oneCell' = true) (h5 : rv.oneCell' = true) (h6 : lv.oneCell' = true) : ∀ v ∈ lkL t pv fv iv qv rv lv ti nx fr, v.oneCell' = true := by
 intro v hv
 simp only [lkL, List.mem_cons, List.not_mem_nil, or_false] at hv
 rcases hv with rfl | rfl | rfl | rfl | rfl | rfl | rfl | rfl | rfl | rfl <;> first | rfl | assumption
theorem slice_one (p : Option Addr) (n c : Nat) : (Value.slice p n c).oneCell' = true := rfl
theorem Sl.one {α : Type} {w : World} {X sz : Nat} {Q : α → List Value → Prop} {v : Value} {l : List α} (h : Sl w X sz Q v l) : v.oneCell' = true := by
 obtain ⟨p, c, rfl⟩ := h.form
 rfl
theorem wpList_loadG {w : World} {ops : Array Oper} {rest : List Oper} {o : Oper} {a : Act} {Q : Exit → Act → World → Prop} (t k b : Nat) (hinfo : ∃ i z, Try.prog.info? t = some i ∧ i.zero = some z ∧ i.size = k ∧ i.bytes = b ∧ z.cells.size = k) (d : TypeDesc) (hu : Try.prog.underlying t = some d) (hd : d.isRow = true) (cs : List Value) (hl : cs.length = k) (g f : Nat) (x : Operand) (hgd : o.guard = none) (ho : o.op = .load t x) (hx : a.eval x = .pointer (some ⟨g, f, .none⟩)) (hr : w.rangeAt g f cs) (e : Option Tmp) (he : o.dst = e)
  (h : wpList Try.prog ops Q rest (a.put e (.agg cs.toArray)) w) : wpList Try.prog ops Q (o :: rest) a w := by
 subst he
 obtain ⟨i, z, hi, hz, hs, hb, hzs⟩ := hinfo
 exact wpList_load_mid hgd t x ho g f hx cs d hr hu hd (by rw [hi, Option.map_some, hs, hl]) h
theorem set_bel {w : World} {B g j : Nat} (u : Value) (h : B ≤ g) : Below B w (w.setCell ⟨g, j, .none⟩ u) := (Below.refl _ _).setCell (p := ⟨g, j, .none⟩) h u
/-- 'x = append(x, e)' of one element of k cells. -/
theorem wpList_pushG {w : World} {ops : Array Oper} {rest : List Oper} {o1 o2 : Oper} {a : Act} {Q : Exit → Act → World → Prop} {base : Nat} {A B : List Row} {r : Row} (T E k b : Nat) (hinfo : ∃ i z, Try.prog.info? E = some i ∧ i.zero = some z ∧ i.size = k ∧ i.bytes = b ∧ z.cells.size = k) (hu : Try.prog.underlying T = some (.slice E)) (hk : 0 < k) (hk2 : k ≤ 1000) (hb2 : b ≤ 10000) (O : Owns w base (A ++ r :: B)) (he : r.e = E) (hsz : r.sz = k) (hn : r.n ≤ 10000000) (hbase : base ≤ w.heap.size)
  (cs : List Value) (hl : cs.length = k) (h1c : ∀ u ∈ cs, u.oneCell' = true) (s d1 : Tmp) (m : Operand) (g1 : o1.guard = none) (p1 : o1.op = .buildSlice T 1 #[(0, .tmp s)]) (q1 : o1.dst = some d1) (hs : a.eval (.tmp s) = .agg cs.toArray)
  (g2 : o2.guard = none) (p2 : o2.op = .call { callee := .builtin .append, args := #[m, .tmp d1], argTypes := #[T, T] }) (d2 : Option Tmp) (q2 : o2.dst = d2)
  (hm : (a.put (some d1) (.slice (some ⟨w.heap.size, 0, .none⟩) 1 1)).eval m = r.v) (hx : (a.put (some d1) (.slice (some ⟨w.heap.size, 0, .none⟩) 1 1)).eval (.tmp d1) = .slice (some ⟨w.heap.size, 0, .none⟩) 1 1)
  (h : ∀ v' w', Owns w' base (A ++ ⟨E, k, r.n + 1, v', r.xs ++ cs⟩ :: B) → Below base w w' → wpList Try.prog ops Q rest ((a.put (some d1) (.slice (some ⟨w.heap.size, 0, .none⟩) 1 1)).put d2 v') w') : wpList Try.prog ops Q (o1 :: o2 :: rest) a w := by
 refine wpList_sliceG T E k b hinfo hk hk2 hu cs hl s g1 p1 (some d1) q1 hs ?_
 obtain ⟨i, z, hi, hz, hsz', hb, hzs⟩ := hinfo
 have O' := O.alloc (.cells cs.toArray E)
 have hr := O'.own r (by simp)
 rw [he, hsz] at hr
 have hh : (w.alloc (.cells cs.toArray E)).heap[w.heap.size]? = some (.cells cs.toArray E (0, 0)) := by
  show (w.heap.push _)[w.heap.size]? = _
  simp
 refine wpList_append_own_at _ g2 m (.tmp d1) T p2 base E i z k b hu hi hz hsz' hb hzs hk r.v r.n r.xs hm hr ⟨w.heap.size, 0, .none⟩ 1 1 cs hx (by rw [hl, Nat.one_mul]) (fun j u hj => by rw [Addr.add_mid]; exact range_heap hh j u hj) h1c (by unfold maxLen; omega) ?_ (by simp; omega) ?_
 ·calc (r.n + 1) * b ≤ 10000001 * 10000 := Nat.mul_le_mul (by omega) hb2
   _ ≤ _ := by decide
 intro v' w' hown hg hnil hloc
 rw [q2]
 refine h v' w' (O'.appAt hown hg hloc) ?_
 refine ⟨hg.os, hg.tape, hg.output, Nat.le_trans (by simp) hg.size, fun q hq => ?_⟩
 refine (hg.block q (by simp; omega) (fun e => ?_)).trans (Below.heap_alloc _ _ _ (by omega))
 have := (hr.lt q e.symm).1
 omega
end Go.Proofs.Ythopgmmodldljab
namespace Go.Proofs.Ythopgmmodldljab
open Go
theorem x0 {a : Act} {d : Nat} {v : Value} : a.put (some d) v = { a with tmps := a.tmps.setIfInBounds d v } := rfl
theorem x1 {α : Type} {l : List α} {i : Nat} {a : α} : l.toArray.setIfInBounds i a = (l.set i a).toArray := List.setIfInBounds_toArray ..
theorem x2 {α : Type} {l : List α} {a b : α} : (a :: l).set 0 b = b :: l := List.set_cons_zero ..
theorem x3 {α : Type} {l : List α} {a b : α} {n : Nat} : (a :: l).set (n + 1) b = a :: l.set n b := List.set_cons_succ ..
theorem x4 {α : Type} {l : List α} {i : Nat} (h : i < l.toArray.size) : l.toArray[i] = l[i]'(by simpa using h) := List.getElem_toArray ..
theorem x5 {α : Type} {a : α} {l : List α} {i : Nat} (h : i + 1 < (a :: l).length) : (a :: l)[i + 1] = l[i]'(Nat.lt_of_succ_lt_succ h) := List.getElem_cons_succ ..
theorem x6 {α : Type} {a : α} {l : List α} (h : 0 < (a :: l).length) : (a :: l)[0] = a := List.getElem_cons_zero ..
section
variable {P : Program} {ops : Array Oper} {Q : Exit → Act → World → Prop} {S : World → Prop} {md : Region.Mode}
/-- The first takes, with fewer words. -/
theorem nV {fuel : Nat} {listed : Array Bool} {a : Act} {w : World} {oi : Oper} (i : Nat) (v : Value) (hi : ops[i]? = some oi) (h : wpAnyH P md ops Q S fuel (listed.setIfInBounds i true) (a.put oi.dst v) w) (hy : YieldsIf P ops S oi v a) (hs : Region.noSelect ops = true := by kernel_rfl) (hf : Region.free md ops listed i = true := by kernel_rfl) (hr : (Region.ready md ops listed).contains i = true := by kernel_rfl) (hS : S w := by assumption) (hQ : ∀ c a w, Q (.panic c) (a.put oi.dst v) w → Q (.panic c) a w := by exact fun _ _ _ h => h) : wpAnyH P md ops Q S (fuel + 1) listed a w :=
  wpAnyH_take hi hs hf hr hQ hy hS h
theorem nT {fuel : Nat} {listed : Array Bool} {a : Act} {w : World} {oi : Oper} (i : Nat) (v : Value) (hi : ops[i]? = some oi) (h : wpAnyH P md ops Q S fuel (listed.setIfInBounds i true) (a.put oi.dst v) w) (hy : ∀ ww, S ww → (execOp a.eval oi).run P ww = .ok (.value v) ww := by exact fun ww hSw => by (try dsimp only at hSw); go_simp) (hw : Region.wanted oi (yielded ops a.tmps) = true := by rfl) (hs : Region.noSelect ops = true := by kernel_rfl) (hf : Region.free md ops listed i = true := by kernel_rfl) (hr : (Region.ready md ops listed).contains i = true := by kernel_rfl) (hS : S w := by assumption) (hQ : ∀ c a w, Q (.panic c) (a.put oi.dst v) w → Q (.panic c) a w := by exact fun _ _ _ h => h) : wpAnyH P md ops Q S (fuel + 1) listed a w :=
  wpAnyH_take hi hs hf hr hQ (.inl ⟨hw, hy⟩) hS h
theorem nU {fuel : Nat} {listed : Array Bool} {a : Act} {w : World} {oi : Oper} (i : Nat) (hi : ops[i]? = some oi) (h : wpAnyH P md ops Q S fuel (listed.setIfInBounds i true) (a.put oi.dst undef) w) (hw : Region.wanted oi (yielded ops a.tmps) = false := by rfl) (hs : Region.noSelect ops = true := by kernel_rfl) (hf : Region.free md ops listed i = true := by kernel_rfl) (hr : (Region.ready md ops listed).contains i = true := by kernel_rfl) (hS : S w := by assumption) (hQ : ∀ c a w, Q (.panic c) (a.put oi.dst undef) w → Q (.panic c) a w := by exact fun _ _ _ h => h) : wpAnyH P md ops Q S (fuel + 1) listed a w :=
  wpAnyH_take hi hs hf hr hQ (.inr ⟨hw, rfl⟩) hS h
end
end Go.Proofs.Ythopgmmodldljab
namespace Go.Proofs.Ythopgmmodldljab
open Go
set_option linter.unusedVariables false
/-! A region that draws, whose last operation writes what the others read: S is held up to that operation alone. -/
section
variable {P : Program} {ops : Array Oper} {Q : Exit → Act → World → Prop} {md : Region.Mode} {S : World → Prop} {z : Nat}
/-- Whatever order is picked, and S behind every operation but number z. -/
def wpUpto (P : Program) (md : Region.Mode) (ops : Array Oper) (Q : Exit → Act → World → Prop) (S : World → Prop) (z : Nat) : Nat → Array Bool → Act → World → Prop
 | 0, listed, a, w => Region.ready md ops listed = [] ∧ Q .normal a w
 | n + 1, listed, a, w => (Region.ready md ops listed = [] → Q .normal a w) ∧ ∀ i ∈ Region.ready md ops listed, wpOp P ops Q i (fun a' w' => (i ≠ z → S w') ∧ wpUpto P md ops Q S z n (listed.setIfInBounds i true) a' w') a w
theorem wpUpto.any : ∀ (n : Nat) (listed : Array Bool) (a : Act) (w : World), wpUpto P md ops Q S z n listed a w → wpAny P md ops Q n listed a w
 | 0, _, _, _, h => h
 | n + 1, _, _, _, h => ⟨h.1, fun i hi => wpOp_mono (fun a' w' h' => wpUpto.any n _ a' w' h'.2) (h.2 i hi)⟩
/-- What waits for i can't come up while i has not. -/
theorem waits {i j : Nat} {listed : Array Bool} {oj : Oper} (hj : j ∈ Region.ready md ops listed) (hoj : ops[j]? = some oj) (hi : i ∈ Region.ready md ops listed) : ∀ e ∈ oj.after, Region.binds md e = true → e.on ≠ i := by
 intro e he hb heq
 obtain ⟨_, oj', hoj', hall⟩ := mem_ready.1 hj
 rw [hoj] at hoj'
 cases hoj'
 have h1 := hall e he hb
 have h0 := (mem_ready.1 hi).1
 rw [heq] at h1
 rcases Nat.lt_or_ge i listed.size with h' | h'
 ·simp [h'] at h0 h1
  rw [h0] at h1
  cases h1
 ·simp [Array.getElem?_eq_none h'] at h1
theorem upto_first {i : Nat} {oi oz : Oper} {v : Value} (hi : ops[i]? = some oi) (hz : ops[z]? = some oz) (hw : ∃ e ∈ oz.after, Region.binds md e = true ∧ e.on = i) (hsel : ∀ (j : Nat) (o : Oper) cs b, ops[j]? = some o → o.op ≠ .select cs b) (hQ : ∀ c a w, Q (.panic c) (a.put oi.dst v) w → Q (.panic c) a w) (n : Nat) :
  ∀ (listed : Array Bool) (a : Act) (w : World), (∀ j oj, ops[j]? = some oj → j ≠ i → listed.getD j true = false → (∀ e ∈ oj.after, Region.binds md e = true → e.on ≠ i) → oi.apart ops oj = true) → i ∈ Region.ready md ops listed → YieldsIf P ops S oi v a → S w →
   wpUpto P md ops Q S z n (listed.setIfInBounds i true) (a.put oi.dst v) w → wpUpto P md ops Q S z (n + 1) listed a w := by
 induction n with
 | zero =>
  intro listed a w _ hr hy hS H
  refine ⟨fun h => absurd hr (by rw [h]; simp), fun j hj => ?_⟩
  by_cases hji : j = i
  ·rw [hji]
   exact hy.wpOp hi hS ⟨fun _ => hS, H⟩
  ·exact absurd (ready_mono hj hji) (by rw [H.1]; simp)
 | succ n ih =>
  intro listed a w hfree hr hy hS H
  refine ⟨fun h => absurd hr (by rw [h]; simp), fun j hj => ?_⟩
  by_cases hji : j = i
  ·rw [hji]
   exact hy.wpOp hi hS ⟨fun _ => hS, H⟩
  obtain ⟨hjun, oj, hoj, _⟩ := mem_ready.1 hj
  have hnot := waits hj hoj hr
  have hjz : j ≠ z := by
   rintro rfl
   obtain ⟨e, he, hb, hon⟩ := hw
   rw [hoj] at hz
   cases hz
   exact hnot e he hb hon
  refine wpOp_mono (fun a' w' h3 => ?_) (wpOp_putIf hoj (hfree j oj hoj hji hjun hnot) (fun cs b => hsel i oi cs b hi) (fun cs b => hsel j oj cs b hoj) hQ hy (H.2 j (ready_mono hj hji)))
  obtain ⟨y', s', h4⟩ := h3
  refine ⟨s', ih _ a' w' ?_ (ready_mono hr (Ne.symm hji)) y' (s' hjz) (by rw [Array.setIfInBounds_comm _ _ hji]; exact h4)⟩
  intro k ok hk hki hun hno
  refine hfree k ok hk hki ?_ hno
  by_cases hjk : j = k
  ·rw [← hjk]; exact hjun
  ·rw [getD_set_ne true hjk] at hun; exact hun
theorem upto_take {i : Nat} {oi oz : Oper} {v : Value} {n : Nat} {listed : Array Bool} {a : Act} {w : World} (hi : ops[i]? = some oi) (hz : ops[z]? = some oz) (hw : (oz.after.any fun e => Region.binds md e && e.on == i) = true)
  (hs : Region.noSelect ops = true) (hf : Region.free md ops listed i = true) (hr : (Region.ready md ops listed).contains i = true)
  (hQ : ∀ c a w, Q (.panic c) (a.put oi.dst v) w → Q (.panic c) a w) (hy : YieldsIf P ops S oi v a) (hS : S w)
  (h : wpUpto P md ops Q S z n (listed.setIfInBounds i true) (a.put oi.dst v) w) : wpUpto P md ops Q S z (n + 1) listed a w := by
 refine upto_first hi hz ?_ (Region.noSelect_spec hs) hQ n listed a w (Region.free_spec hi hf) (by simpa using hr) hy hS h
 rw [Array.any_eq_true'] at hw
 obtain ⟨e, he, hb⟩ := hw
 rw [Bool.and_eq_true, beq_iff_eq] at hb
 exact ⟨e, he, hb⟩
theorem uT {oi oz : Oper} {n : Nat} {listed : Array Bool} {a : Act} {w : World} (i : Nat) (v : Value) (hi : ops[i]? = some oi) (hz : ops[z]? = some oz) (hy : ∀ ww, S ww → (execOp a.eval oi).run P ww = .ok (.value v) ww) (hS : S w)
  (h : wpUpto P md ops Q S z n (listed.setIfInBounds i true) (a.put oi.dst v) w) (hwd : Region.wanted oi (yielded ops a.tmps) = true := by rfl) (hw : (oz.after.any fun e => Region.binds md e && e.on == i) = true := by kernel_rfl)
  (hs : Region.noSelect ops = true := by kernel_rfl) (hf : Region.free md ops listed i = true := by kernel_rfl) (hr : (Region.ready md ops listed).contains i = true := by kernel_rfl)
  (hQ : ∀ c a w, Q (.panic c) (a.put oi.dst v) w → Q (.panic c) a w := by exact fun _ _ _ h => h) : wpUpto P md ops Q S z (n + 1) listed a w := upto_take hi hz hw hs hf hr hQ (.inl ⟨hwd, hy⟩) hS h
/-- One alone may come up. -/
theorem upto_only {i n : Nat} {oi : Oper} {listed : Array Bool} {a : Act} {w : World} (hr : Region.ready md ops listed = [i]) (hi : ops[i]? = some oi) (hwd : Region.wanted oi (yielded ops a.tmps) = true)
  (h : oi.wp P a w (fun a' w' => (i ≠ z → S w') ∧ wpUpto P md ops Q S z n (listed.setIfInBounds i true) a' w') Q) : wpUpto P md ops Q S z (n + 1) listed a w := by
 refine ⟨fun h0 => (by rw [hr] at h0; cases h0), fun j hj => ?_⟩
 rw [hr, List.mem_singleton] at hj
 subst hj
 unfold wpOp
 simp only [hi, hwd, if_true]
 exact .inl h
theorem upto_done {n : Nat} {listed : Array Bool} {a : Act} {w : World} (hr : Region.ready md ops listed = []) (h : Q .normal a w) : wpUpto P md ops Q S z n listed a w := by
 cases n with
 | zero => exact ⟨hr, h⟩
 | succ n => exact ⟨fun _ => h, by rw [hr]; simp⟩
theorem region_upto {id : Nat} {a : Act} {w : World} (S : World → Prop) (z : Nat) (hm : P.follows .mixedOrders = true) (h : wpUpto P .any ops Q S z ops.size (Array.replicate ops.size false) a w.drew) : (Code.region id ops true).wp P Q a w :=
 wp_region_any hm (wpUpto.any _ _ _ _ h)
end
end Go.Proofs.Ythopgmmodldljab
namespace Go.Proofs.Ythopgmmodldljab
open Go Go.RowKit
set_option linter.unusedVariables false
set_option linter.unusedSimpArgs false
theorem wp_sliceG {w : World} {o : Oper} {a : Act} {K : Act → World → Prop} {Q : Exit → Act → World → Prop} (t e : TypeId) (k b : Nat) (hinfo : ∃ i z, Try.prog.info? e = some i ∧ i.zero = some z ∧ i.size = k ∧ i.bytes = b ∧ z.cells.size = k) (hk : 0 < k) (hk2 : k ≤ 1000) (hu : Try.prog.underlying t = some (.slice e)) (cs : List Value) (hl : cs.length = k) (s : Tmp) (ho : o.op = .buildSlice t 1 #[(0, .tmp s)]) (hs : a.eval (.tmp s) = .agg cs.toArray)
  (h : K (a.put o.dst (.slice (some ⟨w.heap.size, 0, .none⟩) 1 1)) (w.alloc (.cells cs.toArray e))) : o.wp Try.prog a w K Q := by
 obtain ⟨i, z, hi, hz, hsz, hb, hzs⟩ := hinfo
 refine wp_buildSlice t e 1 _ ho cs.toArray i z hu hi hz (by omega) (by omega) ?_ h
 have e1 : (Array.map (fun (x : Nat × Operand) => (x.1, a.eval x.2)) #[(0, Operand.tmp s)]).toList = [(0, .agg cs.toArray)] := by simp [hs]
 rw [show ((#[(0, Operand.tmp s)] : Array (Nat × Operand)).map fun (i, x) => (i, a.eval x)).toList = [(0, .agg cs.toArray)] from e1, hsz]
 exact fill_one k cs _ hl (by simp)
theorem wp_appG {w : World} {o2 : Oper} {a : Act} {K : Act → World → Prop} {Q : Exit → Act → World → Prop} {base : Nat} {A B : List Row} {r : Row} (T E k b : Nat) (hinfo : ∃ i z, Try.prog.info? E = some i ∧ i.zero = some z ∧ i.size = k ∧ i.bytes = b ∧ z.cells.size = k) (hu : Try.prog.underlying T = some (.slice E)) (hk : 0 < k) (hb2 : b ≤ 10000) (O : Owns w base (A ++ r :: B)) (he : r.e = E) (hsz : r.sz = k) (hn : r.n ≤ 10000000) (hbase : base ≤ w.heap.size)
  (cs : List Value) (hl : cs.length = k) (h1c : ∀ u ∈ cs, u.oneCell' = true) (g : Nat) (hr : w.rangeAt g 0 cs) (m x : Operand) (p2 : o2.op = .call { callee := .builtin .append, args := #[m, x], argTypes := #[T, T] })
  (hm : a.eval m = r.v) (hx : a.eval x = .slice (some ⟨g, 0, .none⟩) 1 1)
  (h : ∀ v' w', Owns w' base (A ++ ⟨E, k, r.n + 1, v', r.xs ++ cs⟩ :: B) → Below base w w' → w.grownBy w' r.v.ownBlock → K (a.put o2.dst v') w') : o2.wp Try.prog a w K Q := by
 obtain ⟨i, z, hi, hz, hsz', hb, hzs⟩ := hinfo
 have ho := O.own r (by simp)
 rw [he, hsz] at ho
 obtain ⟨v', w', hrun, h2, h3, h4, h5⟩ := run_append_own_at (P := Try.prog) w base T o2.type E i z k b hu hi hz hsz' hb hzs hk r.v r.n r.xs ho ⟨g, 0, .none⟩ 1 1 cs (by rw [hl, Nat.one_mul]) (fun j u hj => by rw [Addr.add_mid]; exact hr j u hj) h1c (by unfold maxLen; omega) (by
  calc (r.n + 1) * b ≤ 10000001 * 10000 := Nat.mul_le_mul (by omega) hb2
   _ ≤ _ := by decide) hbase
 unfold Oper.wp execOp
 simp only [p2, resolve, invoke, builtin, Sem.run_bind, Sem.run_pure, Result.andThen_ok, List.map_toArray, List.map_cons, List.map_nil, hm, hx, hrun]
 refine h v' w' (O.appAt h2 h3 h5) ⟨h3.os, h3.tape, h3.output, h3.size, fun q hq => h3.block q (by omega) (fun e => ?_)⟩ h3
 have := (ho.lt q e.symm).1
 omega
theorem range_new (w : World) (cs : List Value) (e : TypeId) : (w.alloc (.cells cs.toArray e)).rangeAt w.heap.size 0 cs := range_heap (t := e) (fr := (0, 0)) (by
 show (w.heap.push _)[w.heap.size]? = _
 simp)
theorem perm2 (a b : Row) (A T : List Row) : (a :: b :: (A ++ T)).Perm (A ++ (b :: a :: T)) := by
 have h1 : ([b, a] ++ A ++ T).Perm (A ++ [b, a] ++ T) := List.perm_append_comm.append_right T
 exact (List.Perm.swap b a _).trans (by simpa using h1)
theorem perm1 (a : Row) (A T : List Row) : (a :: (A ++ T)).Perm (A ++ (a :: T)) := List.perm_middle.symm
theorem results_cell_any {P : Program} {fn : Func} {p : Tmp} {ty : TypeId} (h : fn.results = #[.cell p ty]) (tmps : Array Value) (w : World) (ad : Addr) (v : Value) (hp : tmps.getD p undef = .pointer (some ad)) (hl : (loadVar ty ad).run P w = .ok v w) : (results fn tmps).run P w = .ok v w := by
 have hp' : tmps[p]?.getD undef = .pointer (some ad) := by simpa using hp
 simp [results, h, hp', asAddr, hl]
theorem inl_one (x : In) {bv : Value} (h : bv.oneCell' = true) : ∀ v ∈ x.l bv, v.oneCell' = true := by
 intro v hv
 simp only [In.l, List.mem_cons, List.not_mem_nil, or_false] at hv
 rcases hv with rfl | rfl | rfl | rfl | rfl | rfl | rfl | rfl <;> first | rfl | exact h
theorem ppl_one (x : Pp) {bv : Value} (h : bv.oneCell' = true) : ∀ v ∈ x.l bv, v.oneCell' = true := by
 intro v hv
 simp only [Pp.l, List.mem_cons, List.not_mem_nil, or_false] at hv
 rcases hv with rfl | rfl | rfl | rfl | rfl | rfl <;> first | rfl | exact h
/-- At this operation alone. -/
theorem wpList_is {P : Program} {ops : Array Oper} {Q : Exit → Act → World → Prop} {o : Oper} {rest : List Oper} {a : Act} {w : World} (op : Op) (h : o.op = op) (k : wpList P ops Q (o :: rest) a w) : wpList P ops Q (o :: rest) a w := k
end Go.Proofs.Ythopgmmodldljab
