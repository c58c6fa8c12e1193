import Derived.Test.YtblmkkhiojbcjaaGreatVf
import Derived.Test.YtblmkkhiojbcjaaGreatUz
namespace Go.Proofs.YtblmkkhiojbcjaaGreat
open Go Go.RowKit Go.Shelf
set_option linter.unusedVariables false
set_option linter.unusedSimpArgs false
attribute [local irreducible] eM
theorem ev_leaf {F : Nat → Option Nat} {lf : Nat → Nat → Int} {c : Nat} {x : Ev} (h : ev F lf c = some x) (hk : x.p.k = 2) : c % 3 = 2 ∧ x.va = vaP (c / 3) ∧ x.p.e = lf (x0 (c / 3)) (c / 3 % 512) ∧ x.p.e ≠ 0 := by
  unfold ev at h
  split at h
  · split at h
    · rw [Option.map_eq_some_iff] at h
      obtain ⟨g, hg, rfl⟩ := h
      exact absurd (show (3 : Int) = 2 from hk) (by decide)
    · cases h
  · split at h
    · split at h
      · rw [Option.bind_eq_some_iff] at h
        obtain ⟨g, hg, h⟩ := h
        rw [Option.map_eq_some_iff] at h
        obtain ⟨q, hq, rfl⟩ := h
        exact absurd (show (3 : Int) = 2 from hk) (by decide)
      · cases h
    · rw [Option.bind_eq_some_iff] at h
      obtain ⟨g, hg, h⟩ := h
      rw [Option.bind_eq_some_iff] at h
      obtain ⟨q, hq, h⟩ := h
      split at h
      · cases h
      · rename_i h0 h1 hne
        injection h with h
        subst h
        exact ⟨by omega, rfl, rfl, hne⟩
section
variable {N : Nat} {L : List Nat} {B : Nat → Int} {F : Nat → Option Nat} {lf : Nat → Nat → Int} {l : List Pg}
theorem ev_leaf_at (h : PT N L B F lf) (P : Nat) (hP : P < 134217728) (hl : lf (x0 P) (P % 512) ≠ 0) : ∃ x, ev F lf (3 * P + 2) = some x ∧ x.p.k = 2 ∧ x.va = vaP P ∧ x.p.e = lf (x0 P) (P % 512) := by
  obtain ⟨g, q, h1, h0⟩ := h.way (vaP P) (by rw [vaP_y0 P hP, vaP_i0 P hP]; exact hl)
  rw [vaP_y1 P hP] at h1
  rw [vaP_y0 P hP] at h0
  have e : ev F lf (3 * P + 2) = some ⟨vaP P, 0, ⟨st (ad q) (vaP P) 0, st (ad g) (vaP P) 1, st (ad (rtF F)) (vaP P) 2, 0, lf (x0 P) (P % 512), 2⟩⟩ := by
    unfold ev
    rw [if_neg (by omega), if_neg (by omega), show (3 * P + 2) / 3 = P by omega, h1, h0]
    simp only [Option.bind_some]
    rw [if_neg hl]
  exact ⟨_, e, rfl, rfl, rfl⟩
/-- A page that is met is one of the list. -/
theorem TL.met (h : TL F lf l) (P : Nat) (hl : lf (x0 P) (P % 512) ≠ 0) : ∃ x ∈ l, x.1 = vaP P ∧ lf (x0 P) (P % 512) = toP x.2.1 x.2.2 := by
  obtain ⟨x, hx, h1, h2⟩ := h.only (x0 P) (P % 512) (by unfold x0; omega) (by omega) hl
  refine ⟨x, hx, ?_, by rw [h1, h2]; exact h.leaf x hx⟩
  have hb := (h.ok x hx).1
  rw [y0_val x.1 ⟨hb.1, hb.2.1⟩] at h1
  have e0 : i0 x.1 = (x.1 / 4096 % 512).toNat := by
    unfold i0 ix
    rw [spn0]
  rw [e0] at h2
  unfold x0 at h1
  unfold vaP
  omega
theorem ext_low (va : Int) (h : 0 ≤ va ∧ va < 274877906944) : ext va = va := by
  unfold ext
  rw [if_pos (by omega)]
  omega
/-- What Leaves gives, against the list. -/
structure LvS (l : List Pg) (ll : List (Int × Int)) : Prop where
  len : ll.length = l.length
  mem : ∀ y ∈ ll, ∃ x ∈ l, y = (x.1, toP x.2.1 x.2.2)
  up : ll.Pairwise (fun a b => a.1 < b.1)
theorem cnt_pages (l : List Pg) (hok : ∀ x ∈ l, 0 ≤ x.1 ∧ x.1 < 274877906944 ∧ x.1 % 4096 = 0) (hnd : l.Pairwise (fun a b => a.1 ≠ b.1)) : cnt 402653184 (fun c => decide (∃ x ∈ l, c = 3 * (x.1 / 4096).toNat + 2)) = l.length := by
  induction l with
  | nil =>
    rw [cnt_ext (q := fun _ => false) (fun v _ => by simp), cnt_zero]
    rfl
  | cons x l ih =>
    have hx := hok x (by simp)
    rw [List.pairwise_cons] at hnd
    have := ih (fun y hy => hok y (by simp [hy])) hnd.2
    rw [cnt_add (v0 := 3 * (x.1 / 4096).toNat + 2) (p := fun c => decide (∃ x ∈ l, c = 3 * (x.1 / 4096).toNat + 2)) (by omega) ?_ ?_ ?_, this]
    · rfl
    · refine decide_eq_false ?_
      rintro ⟨y, hy, e⟩
      have hy2 := hok y (by simp [hy])
      exact hnd.1 y hy (by omega)
    · exact decide_eq_true ⟨x, by simp, rfl⟩
    · intro v _ hv
      refine decide_eq_decide.2 ⟨?_, ?_⟩
      · rintro ⟨y, hy, e⟩
        rcases List.mem_cons.1 hy with rfl | hy
        · exact absurd e hv
        · exact ⟨y, hy, e⟩
      · rintro ⟨y, hy, e⟩
        exact ⟨y, by simp [hy], e⟩
def lfo (F : Nat → Option Nat) (lf : Nat → Nat → Int) (c : Nat) : Option (Int × Int) := (ev F lf c).bind lvO
theorem lvl_eq : lvl (evs F lf 0) = (List.range' 0 402653184).filterMap (lfo F lf) := by
  unfold lvl evs
  rw [List.filterMap_filterMap, eM_val]
  rfl
theorem lfo_some {c : Nat} {y : Int × Int} (h : lfo F lf c = some y) : c % 3 = 2 ∧ y = (ext (vaP (c / 3)), lf (x0 (c / 3)) (c / 3 % 512)) ∧ lf (x0 (c / 3)) (c / 3 % 512) ≠ 0 := by
  unfold lfo at h
  rw [Option.bind_eq_some_iff] at h
  obtain ⟨x, hx, h⟩ := h
  unfold lvO at h
  split at h
  · rename_i hk
    injection h with h
    obtain ⟨h1, h2, h3, h4⟩ := ev_leaf hx hk
    rw [h2, h3] at h
    rw [h3] at h4
    exact ⟨h1, h.symm, h4⟩
  · cases h
theorem TL.lfo_iff (h : TL F lf l) (hP : PT N L B F lf) (c : Nat) (hc : c < 402653184) : (lfo F lf c).isSome = true ↔ ∃ x ∈ l, c = 3 * (x.1 / 4096).toNat + 2 := by
  constructor
  · intro hs
    obtain ⟨y, hy⟩ := Option.isSome_iff_exists.1 hs
    obtain ⟨h1, _, h3⟩ := lfo_some hy
    obtain ⟨x, hx, h4, _⟩ := h.met _ h3
    refine ⟨x, hx, ?_⟩
    rw [h4]
    unfold vaP
    omega
  · rintro ⟨x, hx, rfl⟩
    have hb := (h.ok x hx).1
    obtain ⟨P, hPe⟩ : ∃ P, P = (x.1 / 4096).toNat := ⟨_, rfl⟩
    rw [← hPe]
    have hv : vaP P = x.1 := by unfold vaP; omega
    have hPl : P < 134217728 := by omega
    have hl := h.leaf x hx
    rw [← hv, vaP_y0 P hPl, vaP_i0 P hPl] at hl
    obtain ⟨y, hy, hk, _⟩ := ev_leaf_at hP P hPl (by rw [hl]; exact (h.ok x hx).ne)
    unfold lfo
    rw [hy]
    simp [lvO, hk]
theorem TL.leaves (h : TL F lf l) (hP : PT N L B F lf) (hnd : l.Pairwise (fun a b => a.1 ≠ b.1)) : LvS l (lvl (evs F lf 0)) := by
  have key : ∀ c y, lfo F lf c = some y → c % 3 = 2 ∧ y.1 = vaP (c / 3) ∧ ∃ x ∈ l, y = (x.1, toP x.2.1 x.2.2) := fun c y hy => by
    obtain ⟨h1, h2, h3⟩ := lfo_some hy
    obtain ⟨x, hx, h4, h5⟩ := h.met _ h3
    have hb := (h.ok x hx).1
    have e : ext (vaP (c / 3)) = x.1 := by rw [← h4]; exact ext_low _ ⟨hb.1, hb.2.1⟩
    rw [e, h5] at h2
    exact ⟨h1, by rw [h2]; exact h4, x, hx, h2⟩
  refine ⟨?_, fun y hy => ?_, ?_⟩
  · rw [lvl_eq, List.length_filterMap_eq_countP]
    have : List.countP (fun c => (lfo F lf c).isSome) (List.range' 0 402653184) = cnt 402653184 (fun c => decide (∃ x ∈ l, c = 3 * (x.1 / 4096).toNat + 2)) := by
      rw [← cnt_ext (p := fun c => (lfo F lf c).isSome) (fun c hc => ?_)]
      · unfold cnt
        rw [List.range_eq_range']
      · have := h.lfo_iff hP c hc
        by_cases hs : (lfo F lf c).isSome = true
        · rw [hs]; exact (decide_eq_true (this.1 hs)).symm
        · rw [Bool.not_eq_true] at hs
          rw [hs]; exact (decide_eq_false (fun e => by rw [this.2 e] at hs; cases hs)).symm
    rw [this]
    exact cnt_pages l (fun x hx => (h.ok x hx).1) hnd
  · rw [lvl_eq] at hy
    obtain ⟨c, _, hc⟩ := List.mem_filterMap.1 hy
    exact (key c y hc).2.2
  · rw [lvl_eq]
    refine List.Pairwise.filterMap (R := (· < ·)) _ (fun a a' hlt b hb b' hb' => ?_) List.pairwise_lt_range'
    obtain ⟨a1, a2, _⟩ := key a b hb
    obtain ⟨b1, b2, _⟩ := key a' b' hb'
    rw [a2, b2]
    unfold vaP
    omega
end
end Go.Proofs.YtblmkkhiojbcjaaGreat
