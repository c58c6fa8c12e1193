import Derived.Test.YthopgmmodldljaaEl
namespace Go.Proofs.Ythopgmmodldljaa
open Go Go.RowKit
set_option linter.unusedVariables false
set_option linter.unusedSimpArgs false
/-! A region that draws, taken in its own order: what the orders ask is reckoned once. -/
def pre (n k : Nat) : Array Bool := ((List.range n).map fun j => decide (j < k)).toArray
theorem pre_zero (n : Nat) : pre n 0 = Array.replicate n false := by
  apply Array.toList_inj.1
  apply List.ext_getElem?
  intro j
  by_cases hj : j < n <;> simp [pre, hj]
theorem pre_get (n k j : Nat) (h : j < n) : (pre n k).getD j true = decide (j < k) := by simp [pre, h]
theorem pre_set {n k : Nat} (h : k < n) : (pre n k).setIfInBounds k true = pre n (k + 1) := by
  apply Array.toList_inj.1
  apply List.ext_getElem?
  intro j
  simp only [pre, Array.toList_setIfInBounds, List.getElem?_set, List.length_map, List.length_range, List.getElem?_map]
  by_cases e : k = j
  · subst e
    simp [h]
  · simp only [if_neg e]
    by_cases hj : j < n
    · rw [List.getElem?_range hj]
      simp only [Option.map_some, Option.some.injEq, decide_eq_decide]
      omega
    · rw [List.getElem?_eq_none (by simpa using hj)]
      simp
def goodR (md : Region.Mode) (ops : Array Oper) (z : Nat) : Bool := Region.noSelect ops && decide (z < ops.size) && (List.range z).all fun k => ((ops[z]?).any fun oz => oz.after.any fun e => Region.binds md e && e.on == k) && Region.free md ops (pre ops.size k) k && (Region.ready md ops (pre ops.size k)).contains k
section
variable {P : Program} {ops : Array Oper} {Q : Exit → Act → World → Prop} {S : World → Prop}
abbrev Zl (z : Nat) : Nat → Bool := fun j => decide (z ≤ j) || ([] : List Nat).contains j
theorem region_good {id : Nat} {a : Act} {w : World} (z : Nat) (hg : goodR .any ops z = true) (h : Hid (goodR .any ops z = true) → (Code.region id ops true).wp P Q a w) : (Code.region id ops true).wp P Q a w := h hg
theorem region_one {id : Nat} {a : Act} {w : World} (S : World → Prop) (z : Nat) (hm : P.follows .mixedOrders = true) (h : wpSet P .any ops Q S (Zl z) ops.size (pre ops.size 0) a w.drew) : (Code.region id ops true).wp P Q a w := by
  rw [pre_zero] at h
  exact wp_region_any hm (wpSet.any _ _ _ _ h)
theorem one_take {z k m n : Nat} {oi : Oper} {v : Value} {a : Act} {w : World} (hg : goodR .any ops z = true) (hk : k < z) (hm : ops.size = m) (hz : m = z + 1) (hi : ops[k]? = some oi)
    (hQ : ∀ c a w, Q (.panic c) (a.put oi.dst v) w → Q (.panic c) a w) (hy : YieldsIf P ops S oi v a) (hS : S w)
    (h : wpSet P .any ops Q S (Zl z) n (pre m (k + 1)) (a.put oi.dst v) w) : wpSet P .any ops Q S (Zl z) (n + 1) (pre m k) a w := by
  subst hm
  unfold goodR at hg
  simp only [Bool.and_eq_true, decide_eq_true_eq, List.all_eq_true, List.mem_range] at hg
  obtain ⟨⟨g1, g2⟩, g3⟩ := hg
  obtain ⟨⟨c1, c2⟩, c3⟩ := g3 k hk
  rw [← pre_set (by omega)] at h
  refine set_first (D := (List.range ops.size).map fun j => decide (j = z)) hi ?_ (Region.noSelect_spec g1) hQ n _ a w ?_ ?_ (Region.free_spec hi c2) (by simpa using c3) hy hS h
  · intro j oj hoj hd
    have hj : j < ops.size := (Array.getElem?_eq_some_iff.1 hoj).1
    have e : j = z := by simpa [hj] using hd
    subst e
    rw [hoj] at c1
    simp only [Option.any_some] at c1
    rw [Array.any_eq_true'] at c1
    obtain ⟨e, he, hb⟩ := c1
    simp only [Bool.and_eq_true, beq_iff_eq] at hb
    exact ⟨e, he, hb.1, .inl hb.2⟩
  · intro j oj hoj hzj _
    have hj : j < ops.size := (Array.getElem?_eq_some_iff.1 hoj).1
    simp only [Bool.or_eq_true, decide_eq_true_eq, List.contains_nil, Bool.false_eq_true, or_false] at hzj
    have e : j = z := by omega
    subst e
    simp [hj]
  · intro j hd
    by_cases hj : j < ops.size
    · have e : j = z := by simpa [hj] using hd
      subst e
      rw [pre_get _ _ _ hj]
      exact decide_eq_false (by omega)
    · rw [List.getD_eq_getElem?_getD, List.getElem?_eq_none (by simpa using hj)] at hd
      cases hd
theorem one_only {z k m n : Nat} {oi : Oper} {a : Act} {w : World} (hr : Region.ready .any ops (pre m k) = [k]) (hk : k < m) (hi : ops[k]? = some oi) (hwd : Region.wanted oi (yielded ops a.tmps) = true)
    (h : ∀ K : Act → World → Prop, Hid (∀ a' w', (Zl z k = false → S w') → wpSet P .any ops Q S (Zl z) n (pre m (k + 1)) a' w' → K a' w') → oi.wp P a w K Q) : wpSet P .any ops Q S (Zl z) (n + 1) (pre m k) a w :=
  set_only hr hi hwd (fun K hK => h K (fun a' w' h1 h2 => hK.out a' w' h1 (by rw [pre_set hk]; exact h2)))
/-- The same, with fewer words. -/
theorem oT {z n : Nat} {oi : Oper} {a : Act} {w : World} (k d : Nat) (v : Value) (hg : goodR .any ops z = true) (hS : S w) (hi : ops[k]? = some oi) (hy : ∀ ww, S ww → (execOp a.eval oi).run P ww = .ok (.value v) ww)
    (h : wpSet P .any ops Q S (Zl z) n (pre (z + 1) (k + 1)) (a.put (some d) v) w)
    (hd : oi.dst = some d := by rfl) (hw : Region.wanted oi (yielded ops a.tmps) = true := by rfl) (hk : k < z := by decide) (hm : ops.size = z + 1 := by rfl)
    (hQ : ∀ c a w, Q (.panic c) (a.put oi.dst v) w → Q (.panic c) a w := by exact fun _ _ _ h => h) : wpSet P .any ops Q S (Zl z) (n + 1) (pre (z + 1) k) a w :=
  one_take hg hk hm rfl hi hQ (.inl ⟨hw, hy⟩) hS (by rw [hd]; exact h)
theorem oS {z n : Nat} {oi : Oper} {a : Act} {w : World} (k d : Nat) (hg : goodR .any ops z = true) (hS : S w) (hi : ops[k]? = some oi)
    (h : wpSet P .any ops Q S (Zl z) n (pre (z + 1) (k + 1)) (a.put (some d) undef) w)
    (hd : oi.dst = some d := by rfl) (hw : Region.wanted oi (yielded ops a.tmps) = false := by rfl) (hk : k < z := by decide) (hm : ops.size = z + 1 := by rfl)
    (hQ : ∀ c a w, Q (.panic c) (a.put oi.dst undef) w → Q (.panic c) a w := by exact fun _ _ _ h => h) : wpSet P .any ops Q S (Zl z) (n + 1) (pre (z + 1) k) a w :=
  one_take hg hk hm rfl hi hQ (.inr ⟨hw, rfl⟩) hS (by rw [hd]; exact h)
end
theorem x1 {α : Type} {l : List α} {i : Nat} {a : α} : l.toArray.setIfInBounds i a = (l.set i a).toArray := List.setIfInBounds_toArray ..
theorem x2 {α : Type} {l : List α} {a b : α} : (a :: l).set 0 b = b :: l := List.set_cons_zero ..
theorem x3 {α : Type} {l : List α} {a b : α} {n : Nat} : (a :: l).set (n + 1) b = a :: l.set n b := List.set_cons_succ ..
end Go.Proofs.Ythopgmmodldljaa
