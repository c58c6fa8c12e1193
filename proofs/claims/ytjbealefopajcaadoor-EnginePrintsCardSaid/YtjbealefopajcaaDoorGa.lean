import Derived.Test.YtjbealefopajcaaDoorRq1
import Derived.Test.YtjbealefopajcaaDoorLeB
import Derived.Maps.AppendAt
import Derived.OwnWalk
import Derived.Great.BuildSlice
import Derived.Laws.IdiomCopy
import Derived.Deep.MidRow
import Derived.Deep.RegionLaw
import Derived.Deep.RegionHeld
import Derived.Deep.Cut
import Derived.Deep.Upon
import Derived.Laws.AppendOwn
namespace Go.Proofs.YtjbealefopajcaaDoor
open Go Go.RowKit
set_option linter.unusedVariables false
set_option linter.unusedSimpArgs false
section
variable {α : Type}
/-- A slice of elements of sz cells reads as the list l (Q: what an element's cells are). -/
def Sl (w : World) (X sz : Nat) (Q : α → List Value → Prop) (v : Value) (l : List α) : Prop :=
  ∃ p c, v = .slice p l.length c ∧ (l.length ≤ c ∧ c ≤ maxLen) ∧ (l = [] ∨ ∃ b o, p = some ⟨b, o, .none⟩ ∧ b < X ∧ ∀ i x, l[i]? = some x → ∃ cs, Q x cs ∧ cs.length = sz ∧ w.rangeAt b (o + i * sz) cs)
theorem range_keep {w w' : World} {B b o : Nat} {cs : List Value} (h : w.rangeAt b o cs) (hb : Below B w w') (hB : b < B) : w'.rangeAt b o cs := fun j v hj => (hb.cell (p := ⟨b, o + j, .none⟩) hB).trans (h j v hj)
theorem Sl.mono {w w' : World} {X X' sz : Nat} {Q Q' : α → List Value → Prop} {v : Value} {l : List α} (h : Sl w X sz Q v l) (hX : X ≤ X') (hb : Below X w w') (hQ : ∀ x ∈ l, ∀ cs, Q x cs → Q' x cs) : Sl w' X' sz Q' v l := by
  obtain ⟨p, c, hv, hlc, h⟩ := h
  refine ⟨p, c, hv, hlc, h.imp id ?_⟩
  rintro ⟨b, o, hp, hlt, hr⟩
  refine ⟨b, o, hp, by omega, fun i x hx => ?_⟩
  obtain ⟨cs, q, hl, hc⟩ := hr i x hx
  exact ⟨cs, hQ x (List.mem_of_getElem? hx) cs q, hl, range_keep hc hb hlt⟩
theorem Sl.nil (w : World) (X sz : Nat) (Q : α → List Value → Prop) : Sl w X sz Q (.slice none 0 0) [] := ⟨none, 0, rfl, ⟨Nat.le_refl _, by decide⟩, .inl rfl⟩
theorem Sl.form {w : World} {X sz : Nat} {Q : α → List Value → Prop} {v : Value} {l : List α} (h : Sl w X sz Q v l) : ∃ p c, v = .slice p l.length c := by
  obtain ⟨p, c, hv, _⟩ := h
  exact ⟨p, c, hv⟩
theorem Sl.cap {w : World} {X sz n c : Nat} {Q : α → List Value → Prop} {p : Option Addr} {l : List α} (h : Sl w X sz Q (.slice p n c) l) : n = l.length ∧ n ≤ c := by
  obtain ⟨p', c', hv, hlc, h⟩ := h
  cases hv
  exact ⟨rfl, hlc.1⟩
theorem Sl.capm {w : World} {X sz n c : Nat} {Q : α → List Value → Prop} {p : Option Addr} {l : List α} (h : Sl w X sz Q (.slice p n c) l) : c ≤ maxLen := by
  obtain ⟨p', c', hv, hlc, h⟩ := h
  cases hv
  exact hlc.2
theorem Sl.at {w : World} {X sz n c : Nat} {Q : α → List Value → Prop} {p : Option Addr} {l : List α} (h : Sl w X sz Q (.slice p n c) l) {i : Nat} (hi : i < n) : n = l.length ∧ ∃ b o x cs, p = some ⟨b, o, .none⟩ ∧ b < X ∧ l[i]? = some x ∧ Q x cs ∧ cs.length = sz ∧ w.rangeAt b (o + i * sz) cs := by
  obtain ⟨p', c', hv, hlc, h⟩ := h
  cases hv
  refine ⟨rfl, ?_⟩
  rcases h with h | ⟨b, o, hp, hlt, hr⟩
  · rw [h] at hi; simp at hi
  · have hx : l[i]? = some l[i] := List.getElem?_eq_getElem hi
    obtain ⟨cs, q, hl, hc⟩ := hr i _ hx
    exact ⟨b, o, _, cs, hp, hlt, hx, q, hl, hc⟩
/-- An owned row reads as its list. -/
theorem flat_len {sz : Nat} : ∀ {C : List (List Value)}, (∀ c ∈ C, c.length = sz) → C.flatten.length = C.length * sz
  | [], _ => by simp
  | c :: C, h => by
    rw [List.flatten_cons, List.length_append, flat_len (fun c hc => h c (by simp [hc])), h c (by simp), List.length_cons, Nat.add_mul]
    omega
theorem flat_get {sz : Nat} : ∀ {C : List (List Value)}, (∀ c ∈ C, c.length = sz) → ∀ (i : Nat) (cs : List Value), C[i]? = some cs → ∀ j v, cs[j]? = some v → C.flatten[i * sz + j]? = some v
  | [], _, i, cs, h, _, _, _ => by simp at h
  | c :: C, hC, 0, cs, h, j, v, hj => by
    simp only [List.getElem?_cons_zero, Option.some.injEq] at h
    subst h
    rw [List.flatten_cons, Nat.zero_mul, Nat.zero_add, List.getElem?_append_left (List.getElem?_eq_some_iff.1 hj).1]
    exact hj
  | c :: C, hC, i + 1, cs, h, j, v, hj => by
    simp only [List.getElem?_cons_succ] at h
    have hc : c.length = sz := hC c (by simp)
    have := flat_get (fun c hc => hC c (by simp [hc])) i cs h j v hj
    rw [List.flatten_cons, List.getElem?_append_right (by rw [hc, Nat.add_mul]; omega), hc, show (i + 1) * sz + j - sz = i * sz + j by rw [Nat.add_mul]; omega]
    exact this
theorem Sl.ofOwn {w : World} {base e sz n : Nat} {v : Value} {xs : List Value} (h : w.ownsRow base e sz v n xs) {l : List α} {C : List (List Value)} {Q : α → List Value → Prop} (hx : xs = C.flatten) (hC : ∀ c ∈ C, c.length = sz) (hn : l.length = n) (hl : C.length = n)
    (hQ : ∀ (i : Nat) (x : α) (cs : List Value), l[i]? = some x → C[i]? = some cs → Q x cs) : Sl w w.heap.size sz Q v l := by
  rcases h.2 with ⟨rfl, h0⟩ | ⟨g, cap, cur, rfl, hb, hg, hc, hcap, _⟩
  · exact ⟨none, 0, by rw [hn, h0], ⟨by omega, by decide⟩, .inl (List.eq_nil_of_length_eq_zero (by omega))⟩
  · refine ⟨some ⟨g, 0, .none⟩, cap, by rw [hn], ⟨by omega, hcap⟩, .inr ⟨g, 0, rfl, (h.lt g rfl).2, fun i x hi => ?_⟩⟩
    have hil : i < C.length := by have := (List.getElem?_eq_some_iff.1 hi).1; omega
    refine ⟨C[i], hQ i x _ hi (List.getElem?_eq_getElem hil), hC _ (List.getElem_mem hil), fun j u hj => ?_⟩
    have := h.cells (g := g) rfl (i * sz + j) u (by rw [hx]; exact flat_get hC i _ (List.getElem?_eq_getElem hil) j u hj)
    rw [Addr.add_mid] at this
    rw [Nat.zero_add]
    simpa using this
end
def qI (k : IntKind) (x : Int) (cs : List Value) : Prop := cs = [.int k x]
/-- A slice of words, of bytes, of pages. -/
abbrev Wd (w : World) (X : Nat) (v : Value) (l : List Int) : Prop := Sl w X 1 (qI .u64) v l
abbrev Bt (w : World) (X : Nat) (v : Value) (l : List Int) : Prop := Sl w X 1 (qI .u8) v l
theorem Wd.keep {w w' : World} {X X' : Nat} {k : IntKind} {v : Value} {l : List Int} (h : Sl w X 1 (qI k) v l) (hX : X ≤ X') (hb : Below X w w') : Sl w' X' 1 (qI k) v l := Sl.mono h hX hb (fun _ _ _ q => q)
theorem below1 (w : World) (o : Obj) : Below w.heap.size w (w.alloc o) := (Below.refl _ _).alloc (Nat.le_refl _) _
end Go.Proofs.YtjbealefopajcaaDoor
