import Derived.Test.YthopgmmodldljabNo
namespace Go.Proofs.Ythopgmmodldljab
open Go Go.RowKit
set_option linter.unusedVariables false
set_option linter.unusedSimpArgs false
/-! Four rows of counts, and four that grow out of them. -/
def fu {α : Type} (f : Nat → α) (i : Nat) (x : α) : Nat → α := fun j => if j = i then x else f j
theorem fu_same {α : Type} (f : Nat → α) (i : Nat) (x : α) : fu f i x i = x := by simp [fu]
theorem fu_ne {α : Type} (f : Nat → α) {i j : Nat} (x : α) (h : j ≠ i) : fu f i x j = f j := by simp [fu, h]
def frow (l : List Ow) : List Value := (l.map owL).flatten
structure LC (w V : World) (v m : Nat → Value) (A B : Nat → List Ow) : Prop where
 ch : Ch (fun k => ∃ i, i < 4 ∧ (v i).ownBlock = some k) w V
 ra : ∀ i, i < 4 → V.ownsRow 0 91 3 (v i) (A i).length (frow (A i))
 rm : ∀ i, i < 4 → V.ownsRow 0 91 3 (m i) (B i).length (frow (B i))
 le : ∀ i, i < 4 → (A i).length ≤ (B i).length
 km : ∀ i, i < 4 → Bk w.heap.size (v i) (m i)
 lt : ∀ i, i < 4 → ∀ g, (v i).ownBlock = some g → g < w.heap.size
 ap : ∀ i j, i < 4 → j < 4 → i ≠ j → ∀ g, (v i).ownBlock = some g → (v j).ownBlock ≠ some g
 am : ∀ i j, i < 4 → j < 4 → i ≠ j → ∀ g, (m i).ownBlock = some g → (m j).ownBlock ≠ some g
section
variable {w V : World} {v m : Nat → Value} {A B : Nat → List Ow}
theorem LC.setA (h : LC w V v v A A) {i g c n k : Nat} (hi : i < 4) (hv : v i = .slice (some ⟨g, 0, .none⟩) n c) (hn : (A i).length = n) (hk : k < n) (o : Ow) : LC w (V.setCells g (k * 3) (owL o)) v v (fu A i ((A i).set k o)) (fu A i ((A i).set k o)) := by
 have hb : (v i).ownBlock = some g := by rw [hv]; rfl
 have hl := flat_len3 (A i)
 have hr : ∀ j, j < 4 → (V.setCells g (k * 3) (owL o)).ownsRow 0 91 3 (v j) (fu A i ((A i).set k o) j).length (frow (fu A i ((A i).set k o) j)) := by
  intro j hj
  by_cases e : j = i
  ·subst e
   rw [fu_same, List.length_set]
   have h1 := h.ra j hj
   rw [hv, hn] at h1
   have h2 := set_own h1 (.int .i64 o.1) (j := k * 3) (by show _ < ((A j).map owL).flatten.length; omega)
   have h3 := set_own h2 (.int .i64 o.2.1) (j := k * 3 + 1) (by rw [List.length_set]; show _ < ((A j).map owL).flatten.length; omega)
   have h4 := set_own h3 (.int .i64 o.2.2) (j := k * 3 + 2) (by rw [List.length_set, List.length_set]; show _ < ((A j).map owL).flatten.length; omega)
   unfold frow at h4 ⊢
   rw [flat_set o (A j) k (by omega)] at h4
   rw [hv, hn]
   exact h4
  ·rw [fu_ne _ _ e]
   exact own_blk (h.ra j hj) (fun g' hg' => setCells_other g _ _ _ g' (fun e2 => h.ap i j hi hj (fun e3 => e e3.symm) g hb (by rw [hg', e2])))
 refine ⟨?_, hr, hr, fun _ _ => Nat.le_refl _, h.km, h.lt, h.ap, h.am⟩
 have hp : ∃ i, i < 4 ∧ (v i).ownBlock = some g := ⟨i, hi, hb⟩
 exact ((h.ch.set _ hp).set _ hp).set _ hp
theorem none_len {V : World} {x : Value} {l : List Ow} (h : V.ownsRow 0 91 3 x l.length (frow l)) (hx : x.ownBlock = none) : l.length = 0 := row_nil_len h hx
theorem LC.push {V' : World} {x' : Value} {ob : Obj} (h : LC w V v m A B) {I : Nat} (hI : I < 4) (o : Ow) (h2 : V'.ownsRow 0 91 3 x' ((B I).length + 1) (frow (B I) ++ owL o)) (h3 : (V.alloc ob).grownBy V' (m I).ownBlock) (h4 : ∀ v0 n0 xs0, (v0.ownBlock = (m I).ownBlock → n0 ≤ (B I).length) → V.ownsRow 0 91 3 v0 n0 xs0 → V'.ownsRow 0 91 3 v0 n0 xs0) (h5 : ∃ b, x'.ownBlock = some b ∧ ((m I).ownBlock = some b ∨ V.heap.size ≤ b)) : LC w V' v (fu m I x') A (fu B I (B I ++ [o])) := by
 have hsz := h.ch.size
 refine ⟨(h.ch.below (below1 _ _)).grown h3 (fun k e hk => ?_), fun i hi => ?_, fun i hi => ?_, fun i hi => ?_, fun i hi => ?_, h.lt, h.ap, ?_⟩
 ·rcases h.km I hI with e1 | ⟨b, e1, e2⟩
  ·exact ⟨I, hI, by rw [← e1, e]⟩
  ·rw [e1] at e; injection e with e; omega
 ·refine h4 _ _ _ (fun e => ?_) (h.ra i hi)
  by_cases ei : i = I
  ·subst ei; exact h.le i hi
  ·cases hu : (v i).ownBlock with
   | none => have := none_len (h.ra i hi) hu; omega
   | some g =>
    rw [hu] at e
    rcases h.km I hI with e1 | ⟨b, e1, e2⟩
    ·exact absurd (by rw [← e1, ← e] : (v I).ownBlock = some g) (h.ap i I hi hI ei g hu)
    ·rw [e1] at e; injection e with e; have := h.lt i hi g hu; omega
 ·by_cases ei : i = I
  ·subst ei
   rw [fu_same, fu_same, List.length_append]
   unfold frow at h2 ⊢
   rw [List.map_append, List.flatten_append]
   simpa using h2
  ·rw [fu_ne _ _ ei, fu_ne _ _ ei]
   refine h4 _ _ _ (fun e => ?_) (h.rm i hi)
   cases hu : (m i).ownBlock with
   | none => have := none_len (h.rm i hi) hu; omega
   | some g =>
    rw [hu] at e
    exact absurd e.symm (h.am i I hi hI ei g hu)
 ·by_cases ei : i = I
  ·subst ei
   rw [fu_same, List.length_append]
   have := h.le i hi
   omega
  ·rw [fu_ne _ _ ei]; exact h.le i hi
 ·by_cases ei : i = I
  ·subst ei
   rw [fu_same]
   obtain ⟨b, e1, e2⟩ := h5
   rcases e2 with e2 | e2
   ·rcases h.km i hi with e3 | ⟨b', e3, e4⟩
    ·exact .inl (by rw [e1, ← e2, e3])
    ·exact .inr ⟨b, e1, by rw [e3] at e2; injection e2 with e2; omega⟩
   ·exact .inr ⟨b, e1, by omega⟩
  ·rw [fu_ne _ _ ei]; exact h.km i hi
 ·obtain ⟨b, e1, e2⟩ := h5
  have key : ∀ j, j < 4 → j ≠ I → (m j).ownBlock ≠ some b := by
   intro j hj hne hjb
   rcases e2 with e2 | e2
   ·exact h.am I j hI hj (fun e => hne e.symm) b e2 hjb
   ·have := ((h.rm j hj).lt b hjb).2; omega
  intro i j hi hj hij g hg
  by_cases ei : i = I
  ·subst ei
   rw [fu_same] at hg
   rw [fu_ne _ _ (fun e => hij e.symm)]
   rw [e1] at hg
   injection hg with hg
   subst hg
   exact key j hj (fun e => hij e.symm)
  ·rw [fu_ne _ _ ei] at hg
   by_cases ej : j = I
   ·subst ej
    rw [fu_same, e1]
    intro e
    injection e with e
    subst e
    exact key i hi ei hg
   ·rw [fu_ne _ _ ej]
    exact h.am i j hi hj hij g hg
theorem kinds {V : World} {e e' sz sz' n n' : Nat} {x y : Value} {xs ys : List Value} (hx : V.ownsRow 0 e sz x n xs) (hy : V.ownsRow 0 e' sz' y n' ys) (hne : e ≠ e') {g : Nat} (h1 : x.ownBlock = some g) : y.ownBlock ≠ some g := by
 intro h2
 rcases hx.2 with ⟨q, _⟩ | ⟨g1, c1, cur1, q, _, a1, _⟩
 ·rw [q] at h1; cases h1
 ·rcases hy.2 with ⟨q2, _⟩ | ⟨g2, c2, cur2, q2, _, a2, _⟩
  ·rw [q2] at h2; cases h2
  ·rw [q] at h1
   rw [q2] at h2
   have e1 : g1 = g := by injection h1
   have e2 : g2 = g := by injection h2
   subst e1
   subst e2
   rw [a1] at a2
   injection a2 with a2
   injection a2 with _ a2
   exact hne a2
/-- The list of the lists grows: nothing of the rows. -/
theorem LC.more {V1 V' : World} (h : LC w V v m A B) (hb : Below V.heap.size V V1) {mo : Value} {k : Nat} {ms : List Value} (hm : V1.ownsRow 0 37 1 mo k ms) (hg : V1.grownBy V' mo.ownBlock) (hw : ∀ g, mo.ownBlock = some g → w.heap.size ≤ g) : LC w V' v m A B := by
 have kp : ∀ {x : Value} {n : Nat} {xs : List Value}, V.ownsRow 0 91 3 x n xs → V'.ownsRow 0 91 3 x n xs := fun {x n xs} hx => by
  have h1 := own_bel hx hb (fun g hg => (hx.lt g hg).2)
  exact h1.kept hg (by
   cases hv : x.ownBlock with
   | none => exact .inl rfl
   | some q => exact .inr (fun e => kinds h1 hm (by decide) hv e.symm))
 exact ⟨(h.ch.below hb).grown hg (fun k e hk => by have := hw k e; omega), fun i hi => kp (h.ra i hi), fun i hi => kp (h.rm i hi), h.le, h.km, h.lt, h.ap, h.am⟩
end
end Go.Proofs.Ythopgmmodldljab
