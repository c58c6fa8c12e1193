import Derived.Test.YtblmkkhiojbcjaaGreatUa
import Derived.Laws.StructEq
namespace Go.Proofs.YtblmkkhiojbcjaaGreat
open Go.RowKit
set_option linter.unusedVariables false
set_option linter.unusedSimpArgs false
/-- The places of a tour: three to a page, for a pointer of level 2, one of level 1, a leaf. -/
def eM : Nat := 402653184
theorem eM_val : eM = 402653184 := rfl
attribute [local irreducible] eM
/-- The numbers of the nodes on the way to a page. -/
def x1 (P : Nat) : Nat := 1 + P / 262144
def x0 (P : Nat) : Nat := 513 + 512 * (P / 262144) + P / 512 % 512
def vaP (P : Nat) : Int := (P : Int) * 4096
theorem vaP_i2 (P : Nat) (h : P < 134217728) : i2 (vaP P) = P / 262144 := by
  unfold i2 vaP ix spn
  simp
  omega
theorem vaP_i1 (P : Nat) (h : P < 134217728) : i1 (vaP P) = P / 512 % 512 := by
  unfold i1 vaP ix spn
  simp
  omega
theorem vaP_i0 (P : Nat) (h : P < 134217728) : i0 (vaP P) = P % 512 := by
  unfold i0 vaP ix spn
  simp
  omega
theorem vaP_y1 (P : Nat) (h : P < 134217728) : y1 (vaP P) = x1 P := by
  unfold y1 ch x1
  rw [vaP_i2 P h]
  simp
theorem vaP_y0 (P : Nat) (h : P < 134217728) : y0 (vaP P) = x0 P := by
  unfold y0
  rw [vaP_y1 P h, vaP_i1 P h]
  unfold ch x1 x0
  rw [if_neg (by omega)]
  omega
/-- What a tour tells: the entry's address and level, and the way to it. -/
structure Ev where
  va : Int
  l : Int
  p : Pt
def rtF (F : Nat → Option Nat) : Nat := (F 0).getD 0
/-- What is told at a place. -/
def ev (F : Nat → Option Nat) (lf : Nat → Nat → Int) (c : Nat) : Option Ev :=
  if c % 3 = 0 then (if c / 3 % 262144 = 0 then (F (x1 (c / 3))).map fun g => ⟨vaP (c / 3), 2, ⟨0, 0, st (ad (rtF F)) (vaP (c / 3)) 2, 2, ptr (some g), 3⟩⟩ else none)
  else if c % 3 = 1 then (if c / 3 % 512 = 0 then (F (x1 (c / 3))).bind fun g => (F (x0 (c / 3))).map fun q => ⟨vaP (c / 3), 1, ⟨0, st (ad g) (vaP (c / 3)) 1, st (ad (rtF F)) (vaP (c / 3)) 2, 1, ptr (some q), 3⟩⟩ else none)
  else (F (x1 (c / 3))).bind fun g => (F (x0 (c / 3))).bind fun q => if lf (x0 (c / 3)) (c / 3 % 512) = 0 then none else some ⟨vaP (c / 3), 0, ⟨st (ad q) (vaP (c / 3)) 0, st (ad g) (vaP (c / 3)) 1, st (ad (rtF F)) (vaP (c / 3)) 2, 0, lf (x0 (c / 3)) (c / 3 % 512), 2⟩⟩
/-- All that is told from a place on. -/
def evs (F : Nat → Option Nat) (lf : Nat → Nat → Int) (c : Nat) : List Ev := (List.range' c (eM - c)).filterMap (ev F lf)
theorem evs_end (F : Nat → Option Nat) (lf : Nat → Nat → Int) (c : Nat) (h : eM ≤ c) : evs F lf c = [] := by
  unfold evs
  rw [show eM - c = 0 by omega]
  rfl
theorem evs_step (F : Nat → Option Nat) (lf : Nat → Nat → Int) (c : Nat) (h : c < eM) : evs F lf c = (ev F lf c).toList ++ evs F lf (c + 1) := by
  unfold evs
  obtain ⟨k, hk⟩ : ∃ k, eM - c = k + 1 := ⟨eM - c - 1, by omega⟩
  rw [hk, List.range'_succ, List.filterMap_cons, show eM - (c + 1) = k by omega]
  cases ev F lf c <;> rfl
theorem evs_none (F : Nat → Option Nat) (lf : Nat → Nat → Int) : ∀ (k c : Nat), c + k ≤ eM → (∀ j, c ≤ j → j < c + k → ev F lf j = none) → evs F lf c = evs F lf (c + k)
  | 0, _, _, _ => rfl
  | k + 1, c, h, hn => by
    rw [evs_step F lf c (by omega), hn c (Nat.le_refl _) (by omega), evs_none F lf k (c + 1) (by omega) (fun j h1 h2 => hn j (by omega) (by omega))]
    rw [show c + 1 + k = c + (k + 1) by omega]
    rfl
theorem evs_skip {F : Nat → Option Nat} {lf : Nat → Nat → Int} {c d : Nat} (h : c ≤ d) (hd : d ≤ eM) (hn : ∀ j, c ≤ j → j < d → ev F lf j = none) : evs F lf c = evs F lf d := by
  obtain ⟨k, rfl⟩ : ∃ k, d = c + k := ⟨d - c, by omega⟩
  exact evs_none F lf k c hd hn
theorem evs_hit {F : Nat → Option Nat} {lf : Nat → Nat → Int} {c d : Nat} {x : Ev} (h : c ≤ d) (hd : d < eM) (hn : ∀ j, c ≤ j → j < d → ev F lf j = none) (hx : ev F lf d = some x) : evs F lf c = x :: evs F lf (d + 1) := by
  rw [evs_skip h (Nat.le_of_lt hd) hn, evs_step F lf d hd, hx]
  rfl
/-- Where no node is, nothing is told. -/
theorem ev_none2 {F : Nat → Option Nat} {lf : Nat → Nat → Int} {j : Nat} (h : F (x1 (j / 3)) = none) : ev F lf j = none := by
  unfold ev
  rw [h]
  split
  · split <;> rfl
  · split
    · split <;> rfl
    · rfl
theorem ev_none1 {F : Nat → Option Nat} {lf : Nat → Nat → Int} {j : Nat} (h : F (x0 (j / 3)) = none) (h3 : j % 3 ≠ 0 ∨ j / 3 % 262144 ≠ 0) : ev F lf j = none := by
  unfold ev
  rw [h]
  split
  · rw [if_neg (by omega)]
  · split
    · split
      · cases F (x1 (j / 3)) <;> rfl
      · rfl
    · cases F (x1 (j / 3)) <;> rfl
theorem ev_none0 {F : Nat → Option Nat} {lf : Nat → Nat → Int} {j : Nat} (h : lf (x0 (j / 3)) (j / 3 % 512) = 0) (h3 : j % 3 = 2 ∨ (j / 3 % 512 ≠ 0)) : ev F lf j = none := by
  unfold ev
  rw [h]
  split
  · rw [if_neg (by omega)]
  · split
    · rw [if_neg (by omega)]
    · cases F (x1 (j / 3)) with
      | none => rfl
      | some g => cases F (x0 (j / 3)) <;> rfl
end Go.Proofs.YtblmkkhiojbcjaaGreat
namespace Go.Proofs.YtblmkkhiojbcjaaGreat
open Go.RowKit
set_option linter.unusedVariables false
set_option linter.unusedSimpArgs false
/-- How a branch reads as a map's element. -/
def brElem : Value → Option (DataW Unit × List MemPlace)
  | .agg cs => match cs.toList with
    | [.int .u64 a, .int .i64 b] => some (.agg [.lit (.int .u64 a), .lit (.int .i64 b)], [])
    | _ => none
  | _ => none
def brD (x : Int × Int) : DataW Unit := .agg [.lit (.int .u64 x.1), .lit (.int .i64 x.2)]
def brV (x : Int × Int) : Value := .agg #[.int .u64 x.1, .int .i64 x.2]
theorem brElem_mk (x : Int × Int) : brElem (brV x) = some (brD x, []) := rfl
theorem brElem_inv {v : Value} {x : Int × Int} {ps : List MemPlace} (h : brElem v = some (brD x, ps)) : v = brV x := by
  unfold brElem at h
  split at h
  · rename_i cs
    split at h
    · rename_i a b hl
      simp only [Option.some.injEq, Prod.mk.injEq, brD, DataW.agg.injEq, List.cons.injEq, DataW.lit.injEq, Lit.int.injEq, true_and, and_true] at h
      obtain ⟨⟨h1, h2⟩, _⟩ := h
      unfold brV
      rw [← h1, ← h2]
      congr 1
      cases cs
      simp only at hl
      rw [hl]
    · cases h
  · cases h
/-- The branches that a tour has told, by their nodes. -/
structure Tm (w : World) (m : Nat) (tm : Int → Option (Int × Int)) (n : Nat) : Prop where
  own : ∃ D : DataW Unit, w.ownsMap Tryz.prog 23 brElem m n D ∧ ∀ a : Int, 0 ≤ a → a < 18446744073709551616 → Maps.has D (.int .u64 a) = (tm a).isSome ∧ D.atKey (.int .u64 a) (brD (0, 0)) = brD ((tm a).getD (0, 0))
theorem zero100 (w : World) : (zeroValue 126).run Tryz.prog w = .ok (brV (0, 0)) w := by kernel_rfl
theorem key28 (a : Int) (h : 0 ≤ a ∧ a < 18446744073709551616) : keyOf Tryz.prog 23 (.int .u64 a) = some (.int .u64 a) := Maps.keyOf_int_mk Tryz.underlying23 (by simp [Lit.wf, IntKind.min, IntKind.max, IntKind.signed, IntKind.bits]; omega)
theorem Tm.below {w w' : World} {m n : Nat} {tm : Int → Option (Int × Int)} (h : Tm w m tm n) (b : Below w.heap.size w w') : Tm w' m tm n := by
  obtain ⟨D, h1, h2⟩ := h.own
  have hl := h1.lt
  obtain ⟨es, cl, hb, r⟩ := h1
  exact ⟨D, ⟨es, cl, (b.block m hl).trans hb, r⟩, h2⟩
theorem Tm.other {w : World} {m n : Nat} {tm : Int → Option (Int × Int)} (h : Tm w m tm n) {a : Addr} (ha : m ≠ a.block) (v : Value) : Tm (w.setCell a v) m tm n := by
  obtain ⟨D, h1, h2⟩ := h.own
  exact ⟨D, h1.setCell ha v, h2⟩
theorem Tm.new (w : World) : Tm (w.alloc (.map #[] 0)) w.heap.size (fun _ => none) 0 :=
  ⟨.map [], World.ownsMap_made w Tryz.prog 23 brElem, fun a _ _ => ⟨rfl, rfl⟩⟩
theorem Tm.look {w : World} {m n : Nat} {tm : Int → Option (Int × Int)} (h : Tm w m tm n) (a : Int) (ha : 0 ≤ a ∧ a < 18446744073709551616) : (Instr.lookup 156 (.map (some m)) (.int .u64 a) false).run Tryz.prog w = .ok (brV ((tm a).getD (0, 0))) w := by
  obtain ⟨D, h1, h2⟩ := h.own
  obtain ⟨v, ps, hr, hv⟩ := h1.lookup law22 Tryz.underlying156 (zero100 w) (brElem_mk (0, 0)) (key28 a ha)
  rw [(h2 a ha.1 ha.2).2] at hv
  rw [hr, brElem_inv hv]
theorem Tm.look2 {w : World} {m n : Nat} {tm : Int → Option (Int × Int)} (h : Tm w m tm n) (a : Int) (ha : 0 ≤ a ∧ a < 18446744073709551616) : (Instr.lookup 156 (.map (some m)) (.int .u64 a) true).run Tryz.prog w = .ok (.tuple #[brV ((tm a).getD (0, 0)), .bool (tm a).isSome]) w := by
  obtain ⟨D, h1, h2⟩ := h.own
  obtain ⟨v, ps, hr, hv⟩ := h1.look_ok law22 Tryz.underlying156 (zero100 w) (brElem_mk (0, 0)) (key28 a ha)
  rw [(h2 a ha.1 ha.2).2] at hv
  rw [hr, brElem_inv hv, (h2 a ha.1 ha.2).1]
def setM (tm : Int → Option (Int × Int)) (a : Int) (x : Int × Int) : Int → Option (Int × Int) := fun b => if b = a then some x else tm b
theorem Tm.put {w : World} {m n : Nat} {tm : Int → Option (Int × Int)} (h : Tm w m tm n) (hn : n < 1000000000) (a : Int) (ha : 0 ≤ a ∧ a < 18446744073709551616) (x : Int × Int) : ∃ w', (Instr.mapUpdate 156 (.map (some m)) (.int .u64 a) (brV x)).run Tryz.prog w = .ok () w' ∧ Tm w' m (setM tm a x) (n + 1) ∧ w.mapTurned w' m := by
  obtain ⟨D, h1, h2⟩ := h.own
  obtain ⟨w', hr, ho, ht⟩ := h1.store law22 Tryz.underlying156 (by simp only [maxLen]; omega) (key28 a ha) (brElem_mk x)
  refine ⟨w', hr, ⟨_, ho, fun b h3 h4 => ?_⟩, ht⟩
  unfold setM
  by_cases e : b = a
  · subst e
    rw [if_pos rfl]
    exact ⟨Maps.has_put_same h1.isMap (isKey _) _, Maps.atKey_put_same h1.isMap (isKey _) _ _⟩
  · rw [if_neg e]
    refine ⟨?_, ?_⟩
    · rw [Maps.has_put_other (ne_lit e)]
      exact (h2 b h3 h4).1
    · rw [Maps.atKey_put_other (ne_lit e)]
      exact (h2 b h3 h4).2
theorem fields100 : ∃ f g : Field, (Tryz.prog.fieldsOf 126).toList = [f, g] ∧ f.name ≠ "_" ∧ f.type = 23 ∧ f.offset = 0 ∧ g.name ≠ "_" ∧ g.type = 3 ∧ g.offset = 1 := by
  have h : (Tryz.prog.fieldsOf 126).toList.map (fun f => (f.name, f.type, f.offset)) = [("va", 23, 0), ("level", 3, 1)] := by kernel_rfl
  generalize (Tryz.prog.fieldsOf 126).toList = L at h
  have hl := congrArg List.length h
  rw [List.length_map] at hl
  obtain ⟨f, g, rfl⟩ : ∃ f g, L = [f, g] := by
    cases L with
    | nil => cases hl
    | cons f L => cases L with
      | nil => cases hl
      | cons g L => cases L with
        | nil => exact ⟨f, g, rfl⟩
        | cons _ _ => simp at hl
  simp only [List.map_cons, List.map_nil, List.cons.injEq, Prod.mk.injEq, and_true] at h
  obtain ⟨⟨a1, a2, a3⟩, b1, b2, b3⟩ := h
  exact ⟨f, g, rfl, by rw [a1]; decide, a2, a3, by rw [b1]; decide, b2, b3⟩
theorem eq_br (a b c d : Int) (w : World) : (binOp .eql 126 (.agg #[.int .u64 a, .int .i64 b]) (.agg #[.int .u64 c, .int .i64 d])).run Tryz.prog w = .ok (.bool (decide ((a, b) = (c, d)))) w := by
  obtain ⟨f, g, e, a1, a2, a3, b1, b2, b3⟩ := fields100
  have p0 : ∀ (x y : Int) (w : World), (part 23 #[.int .u64 x, .int .i64 y] 0).run Tryz.prog w = .ok (.int .u64 x) w := fun x y w => by kernel_rfl
  have p1 : ∀ (x y : Int) (w : World), (part 3 #[.int .u64 x, .int .i64 y] 1).run Tryz.prog w = .ok (.int .i64 y) w := fun x y w => by kernel_rfl
  rw [run_eql_struct, show (10000 : Nat) = 9999 + 1 from rfl, run_equalIn_struct w 9999 126 _ _ (by kernel_rfl) (by kernel_rfl), e]
  simp [Op.eqFields, a1, a2, a3, b1, b2, b3, p0, p1, run_equalIn_int _ 9998 23 _ _ _ _ Tryz.underlying23, run_equalIn_int _ 9998 3 _ _ _ _ Tryz.underlying3]
  by_cases h1 : a = c
  · by_cases h2 : b = d
    · simp [h1, h2]
    · simp [h1, h2]
  · simp [h1]
theorem guard_br (x y : Operand) (a b c d : Int) (w : World) : (eqGuard .eql 126 x y (.agg #[.int .u64 a, .int .i64 b]) (.agg #[.int .u64 c, .int .i64 d])).run Tryz.prog w = .ok () w := by kernel_rfl
/-- Does the tour follow an entry? -/
def folT (tm : Int → Option (Int × Int)) (va l e : Int) : Bool := decide ((tm (adE e)).getD (0, 0) = (va - va % spn l, l))
section
variable {w : World} {v : Value}
attribute [local go_sem] eq_br guard_br
set_option maxRecDepth 10000 in
set_option maxHeartbeats 1000000 in
theorem meetT_any {T m n : Nat} {root va : Int} {tm : Int → Option (Int × Int)} (t : Tour w T v root va (.map (some m))) (h : Tm w m tm n) (hv : 0 ≤ va ∧ va < 18446744073709551616) (l a e : Int) (hl : l = 0 ∨ l = 1 ∨ l = 2) (he : 0 ≤ e ∧ e < 18446744073709551616) :
    Calls Tryz.prog 177 #[.pointer (some ⟨T, 0, .none⟩), .int .i64 l, .int .u64 a, .int .u64 e] w fun r w' => r = .returned (.tuple #[.int .u64 e, .bool (folT tm va l e)]) ∧ Below w.heap.size w w' := by
  have c46 := fun W => address_any e W he
  have had := adE_b e
  have HS : Hid (∀ U, Below w.heap.size w U → Tour U T v root va (.map (some m)) ∧ Tm U m tm n) := fun U b => ⟨t.below b, h.below b⟩
  have kS : Below w.heap.size w w.drew := (Below.refl _ _).drew
  have c82 := fun (U : World) (hU : Below w.heap.size w U) => branch_any T va l (by omega) hv (HS.out U hU).1.c2
  have hf : folT tm va l e = decide ((tm (adE e)).getD (0, 0) = (va - va % spn l, l)) := rfl
  have hlk := fun (U : World) (hU : Below w.heap.size w U) => (HS.out U hU).2.look (adE e) had
  generalize (tm (adE e)).getD (0, 0) = x at hf hlk
  obtain ⟨x1, x2⟩ := x
  rw [hf]
  generalize va - va % spn l = y at c82
  generalize adE e = z at c46 hlk had
  clear t h hf
  simp only [brV] at hlk
  go_enter Tryz.func177, Tryz.ntmps177
  go_upto_region 1 with fail
  refine wp_region_held_drew (S := fun U => Below w.heap.size w U) (by kernel_rfl) kS (fun hHeld => ?_)
  refine wpAnyH_take (i := 0) (v := (.int .u64 e)) rfl (by kernel_rfl) (by kernel_rfl) (by kernel_rfl) (fun _ _ _ h => h) (Or.inl ⟨by rfl, fun ww hSw => by (try dsimp only at hSw); go_simp⟩) (by assumption) ?_
  simp only [Act.put, List.setIfInBounds_toArray, List.set_cons_zero, List.set_cons_succ, List.getElem_toArray, List.getElem_cons_succ, List.getElem_cons_zero]
  refine wpAnyH_take (i := 1) (v := (.pointer (some ⟨T, 0, .none⟩))) rfl (by kernel_rfl) (by kernel_rfl) (by kernel_rfl) (fun _ _ _ h => h) (Or.inl ⟨by rfl, fun ww hSw => by (try dsimp only at hSw); go_simp⟩) (by assumption) ?_
  simp only [Act.put, List.setIfInBounds_toArray, List.set_cons_zero, List.set_cons_succ, List.getElem_toArray, List.getElem_cons_succ, List.getElem_cons_zero]
  refine wpAnyH_take (i := 2) (v := (.pointer (some ⟨T, 0, .none⟩))) rfl (by kernel_rfl) (by kernel_rfl) (by kernel_rfl) (fun _ _ _ h => h) (Or.inl ⟨by rfl, fun ww hSw => by (try dsimp only at hSw); go_simp⟩) (by assumption) ?_
  simp only [Act.put, List.setIfInBounds_toArray, List.set_cons_zero, List.set_cons_succ, List.getElem_toArray, List.getElem_cons_succ, List.getElem_cons_zero]
  refine wpAnyH_take (i := 3) (v := (.pointer (some ⟨T, 3, .none⟩))) rfl (by kernel_rfl) (by kernel_rfl) (by kernel_rfl) (fun _ _ _ h => h) (Or.inl ⟨by rfl, fun ww hSw => by (try dsimp only at hSw); go_simp⟩) (by assumption) ?_
  simp only [Act.put, List.setIfInBounds_toArray, List.set_cons_zero, List.set_cons_succ, List.getElem_toArray, List.getElem_cons_succ, List.getElem_cons_zero]
  refine wpAnyH_take (i := 4) (v := (.map (some m))) rfl (by kernel_rfl) (by kernel_rfl) (by kernel_rfl) (fun _ _ _ h => h) (Or.inl ⟨by rfl, fun ww hSw => by (try dsimp only at hSw); have q3 := (HS.out ww hSw).1.c3; go_simp⟩) (by assumption) ?_
  simp only [Act.put, List.setIfInBounds_toArray, List.set_cons_zero, List.set_cons_succ, List.getElem_toArray, List.getElem_cons_succ, List.getElem_cons_zero]
  refine wpAnyH_take (i := 5) (v := (.int .u64 e)) rfl (by kernel_rfl) (by kernel_rfl) (by kernel_rfl) (fun _ _ _ h => h) (Or.inl ⟨by rfl, fun ww hSw => by (try dsimp only at hSw); go_simp⟩) (by assumption) ?_
  simp only [Act.put, List.setIfInBounds_toArray, List.set_cons_zero, List.set_cons_succ, List.getElem_toArray, List.getElem_cons_succ, List.getElem_cons_zero]
  refine wpAnyH_take (i := 8) (v := (.pointer (some ⟨T, 0, .none⟩))) rfl (by kernel_rfl) (by kernel_rfl) (by kernel_rfl) (fun _ _ _ h => h) (Or.inl ⟨by rfl, fun ww hSw => by (try dsimp only at hSw); go_simp⟩) (by assumption) ?_
  simp only [Act.put, List.setIfInBounds_toArray, List.set_cons_zero, List.set_cons_succ, List.getElem_toArray, List.getElem_cons_succ, List.getElem_cons_zero]
  refine wpAnyH_take (i := 9) (v := (.int .i64 l)) rfl (by kernel_rfl) (by kernel_rfl) (by kernel_rfl) (fun _ _ _ h => h) (Or.inl ⟨by rfl, fun ww hSw => by (try dsimp only at hSw); go_simp⟩) (by assumption) ?_
  simp only [Act.put, List.setIfInBounds_toArray, List.set_cons_zero, List.set_cons_succ, List.getElem_toArray, List.getElem_cons_succ, List.getElem_cons_zero]
  refine wpAnyH_ready (rs := [6]) (by kernel_rfl) (by simp) ?_
  refine AllReadyH.cons rfl (fun K hK => ?_) AllReadyH.nil
  go_simp
  go_at_call 95
  refine (c46 _).mono ?_
  rintro _ w1 ⟨rfl, e1⟩
  refine hK.out _ _ (by rw [e1]; exact kS) (fun hHeld => ?_)
  clear hK K
  try simp only [Act.put, List.setIfInBounds_toArray, List.set_cons_zero, List.set_cons_succ, List.getElem_toArray, List.getElem_cons_succ, List.getElem_cons_zero]
  clear e1
  refine wpAnyH_take (i := 7) (v := (.agg #[.int .u64 x1, .int .i64 x2])) rfl (by kernel_rfl) (by kernel_rfl) (by kernel_rfl) (fun _ _ _ h => h) (Or.inl ⟨by rfl, fun ww hSw => by (try dsimp only at hSw); have q3 := hlk ww hSw; go_simp⟩) (by assumption) ?_
  simp only [Act.put, List.setIfInBounds_toArray, List.set_cons_zero, List.set_cons_succ, List.getElem_toArray, List.getElem_cons_succ, List.getElem_cons_zero]
  have kS1 : Below w.heap.size w w1 := by assumption
  refine wpAnyH_ready (rs := [10]) (by kernel_rfl) (by simp) ?_
  refine AllReadyH.cons rfl (fun K hK => ?_) AllReadyH.nil
  go_simp
  go_at_call 145
  refine (c82 _ kS1).mono ?_
  rintro _ w2 ⟨rfl, b2⟩
  have kS2 : Below w.heap.size w w2 := kS1.trans (b2.mono kS1.size)
  refine hK.out _ _ kS2 (fun hHeld => ?_)
  clear hK K
  try simp only [Act.put, List.setIfInBounds_toArray, List.set_cons_zero, List.set_cons_succ, List.getElem_toArray, List.getElem_cons_succ, List.getElem_cons_zero]
  refine wpAnyH_take (i := 11) (v := (.bool (decide ((x1, x2) = (y, l))))) rfl (by kernel_rfl) (by kernel_rfl) (by kernel_rfl) (fun _ _ _ h => h) (Or.inl ⟨by rfl, fun ww hSw => by (try dsimp only at hSw); go_simp; (by_cases hh1 : x1 = y <;> by_cases hh2 : x2 = l <;> simp [hh1, hh2])⟩) (by assumption) ?_
  simp only [Act.put, List.setIfInBounds_toArray, List.set_cons_zero, List.set_cons_succ, List.getElem_toArray, List.getElem_cons_succ, List.getElem_cons_zero]
  refine wpAnyH_take (i := 12) (v := (.int .u64 e)) rfl (by kernel_rfl) (by kernel_rfl) (by kernel_rfl) (fun _ _ _ h => h) (Or.inl ⟨by rfl, fun ww hSw => by (try dsimp only at hSw); go_simp⟩) (by assumption) ?_
  simp only [Act.put, List.setIfInBounds_toArray, List.set_cons_zero, List.set_cons_succ, List.getElem_toArray, List.getElem_cons_succ, List.getElem_cons_zero]
  refine wpAnyH_take (i := 13) (v := (.bool (decide ((x1, x2) = (y, l))))) rfl (by kernel_rfl) (by kernel_rfl) (by kernel_rfl) (fun _ _ _ h => h) (Or.inl ⟨by rfl, fun ww hSw => by (try dsimp only at hSw); go_simp⟩) (by assumption) ?_
  simp only [Act.put, List.setIfInBounds_toArray, List.set_cons_zero, List.set_cons_succ, List.getElem_toArray, List.getElem_cons_succ, List.getElem_cons_zero]
  refine wpAnyH_done (by kernel_rfl) ?_ _
  go_wp2_with fail
  exact bodyPost_ret (v := .tuple #[.int .u64 e, .bool (decide ((x1, x2) = (y, l)))]) (by simp [results, Tryz.results177, go_sem]) rfl ⟨rfl, kS2⟩
set_option maxRecDepth 10000 in
set_option maxHeartbeats 1000000 in
theorem tells_any {p b mm N T m n : Nat} {B : Nat → Int} {L : List Nat} {root va pa : Int} {tm : Int → Option (Int × Int)} (hR : Ram w p b mm N B L) (t : Tour w T (.pointer (some ⟨p, 0, .none⟩)) root va (.map (some m))) (h : Tm w m tm n) (hp : 0 ≤ pa ∧ pa < 18446744073709551616) (hr : pa ≠ root) (hn : ndB N L pa = true) (hno : tm pa = none) :
    Calls Tryz.prog 146 #[.pointer (some ⟨T, 0, .none⟩), .int .u64 pa] w fun r w' => r = .returned (.bool true) ∧ Below w.heap.size w w' := by
  have c42 := isNode_any hR pa hp
  rw [hn] at c42
  have k0 := t.c0
  have k1 := t.c1
  have hne : (pa == root) = false := by simpa using hr
  have HT : Hid (Tour w T (.pointer (some ⟨p, 0, .none⟩)) root va (.map (some m)) ∧ Tm w m tm n) := ⟨t, h⟩
  clear hR hn hr t h
  go_enter Tryz.func146, Tryz.ntmps146
  go_upto_region 3 with (go_at_call 93; refine c42.mono ?_; rintro _ w1 ⟨rfl, b1⟩; have H1 : Hid (Below w.heap.size w w1) := b1; clear b1 c42)
  have q3 := (HT.out.1.below H1.out).c3
  have ql := (HT.out.2.below H1.out).look2 pa hp
  rw [hno] at ql
  simp only [brV, Option.getD_none, Option.isSome_none] at ql
  go_wp2_with fail
  go_ret
  exact ⟨rfl, H1.out.alloc H1.out.size _⟩
end
end Go.Proofs.YtblmkkhiojbcjaaGreat
