import Derived.Test.YtloldhcljdmofaaDoorWr3
import Derived.Test.YtloldhcljdmofaaDoorWr4
import Derived.Test.YtloldhcljdmofaaDoorRd5
namespace Go.Proofs.YtloldhcljdmofaaDoor
open Go.RowKit
set_option linter.unusedVariables false
set_option linter.unusedSimpArgs false
/-- A program's segments as rows of their own, not yet looked at. -/
structure Prs (w : World) (X : Nat) (sv : Value) (E : List (Sg × Value)) (B : Nat → Int) : Prop where
  own : w.ownsRow X 54 4 sv E.length (flatE E)
  dat : ∀ x ∈ E, w.ownsRow X 5 1 x.2 x.1.sz (by8 (byt B x.1))
  va : ∀ x ∈ E, 0 ≤ x.1.va ∧ x.1.va < 18446744073709551616
  fl : ∀ x ∈ E, 0 ≤ x.1.fl ∧ x.1.fl < 4294967296
  mem : ∀ x ∈ E, 0 ≤ x.1.mem ∧ x.1.mem < 18446744073709551616
  sz : ∀ x ∈ E, x.1.sz ≤ 400000
theorem Prs.below {w w' : World} {X : Nat} {sv : Value} {E : List (Sg × Value)} {B : Nat → Int} (h : Prs w X sv E B) (b : Below w.heap.size w w') : Prs w' X sv E B :=
  ⟨owns_below h.own b, fun x hx => owns_below (h.dat x hx) b, h.va, h.fl, h.mem, h.sz⟩
theorem flatE_len : ∀ E : List (Sg × Value), (flatE E).length = E.length * 4
  | [] => rfl
  | x :: E => by
    rw [flatE, List.length_append, flatE_len E, List.length_cons]
    simp only [List.length_cons, List.length_nil]
    omega
theorem flatE_take : ∀ (E : List (Sg × Value)) (k : Nat), (flatE E).take (k * 4) = flatE (E.take k)
  | [], k => by simp [flatE]
  | x :: E, 0 => by simp [flatE]
  | x :: E, k + 1 => by
    rw [List.take_succ_cons, flatE, flatE, ← flatE_take E k, show (k + 1) * 4 = k * 4 + 1 + 1 + 1 + 1 by omega]
    rfl
/-- The beginning of a row of one's own. -/
theorem own_prefix {w : World} {X e s n c : Nat} {q : Option Addr} {xs : List Value} (h : w.ownsRow X e s (.slice q n c) n xs) (k : Nat) (hk : k ≤ n) (hn : 0 < n) : w.ownsRow X e s (.slice q k c) k (xs.take (k * s)) := by
  have hl := h.1
  refine ⟨?_, ?_⟩
  · rw [List.length_take, hl]
    exact Nat.min_eq_left (Nat.mul_le_mul_right _ hk)
  · rcases h.2 with ⟨_, h0⟩ | ⟨g, cap, cur, hv, h1, h2, h3, h4, h5, h6⟩
    · omega
    · injection hv with e1 e2 e3
      subst e1 e3
      refine .inr ⟨g, _, cur, rfl, h1, h2, by omega, h4, h5, ?_⟩
      rw [← h6, List.take_take, Nat.min_eq_left (Nat.mul_le_mul_right _ hk)]
theorem Prs.pre {w : World} {X c : Nat} {q : Option Addr} {E : List (Sg × Value)} {B : Nat → Int} (h : Prs w X (.slice q E.length c) E B) (hn : 0 < E.length) (k : Nat) (hk : k ≤ E.length) (hg : ∀ x ∈ E.take k, Gd x.1) : Segs w X (.slice q k c) (E.take k) B := by
  have hl : (E.take k).length = k := by rw [List.length_take]; omega
  refine ⟨?_, fun x hx => h.dat x (List.mem_of_mem_take hx), hg⟩
  rw [hl, ← flatE_take]
  exact own_prefix h.own k hk hn
/-- One segment of a program looked at by itself. -/
def okS (s : Sg) : Bool := ok1 s.va s.fl s.sz s.mem
/-- The first so many segments may be, and rise. -/
def Gk (S : List Sg) (k : Nat) : Prop := ∀ i s, i < k → S[i]? = some s → okS s = true ∧ ris (S.take i) s.va = true
/-- The program may be. -/
def Good (en : Int) (S : List Sg) : Prop := 0 < S.length ∧ S.length ≤ 8 ∧ Gk S S.length ∧ hasE S en = true
theorem Gk.gd {w : World} {X : Nat} {sv : Value} {E : List (Sg × Value)} {B : Nat → Int} (h : Prs w X sv E B) {k : Nat} (hk : k ≤ E.length) (hg : Gk (E.map (·.1)) k) : ∀ x ∈ E.take k, Gd x.1 := by
  intro x hx
  obtain ⟨j, hj, hje⟩ := List.getElem_of_mem hx
  have hj' : j < k := by rw [List.length_take] at hj; omega
  have hm : x ∈ E := List.mem_of_mem_take hx
  have hx2 : E[j]? = some x := by
    rw [← hje, List.getElem_take, List.getElem?_eq_getElem]
  have := (hg j x.1 hj' (by rw [List.getElem?_map, hx2]; rfl)).1
  exact ok1_gd this (h.va x hm).1 (by have := h.sz x hm; omega)
theorem Prs.cells {w : World} {X c : Nat} {q : Option Addr} {E : List (Sg × Value)} {B : Nat → Int} (h : Prs w X (.slice q E.length c) E B) {i : Nat} {x : Sg × Value} (hx : E[i]? = some x) : ∃ g dq dc, q = some ⟨g, 0, .none⟩ ∧ x.2 = .slice dq x.1.sz dc ∧ x.1.sz ≤ dc ∧ dc ≤ 9223372036854775807 ∧ w.cell? ⟨g, i * 4, .none⟩ = some (.int .u64 x.1.va) ∧ w.cell? ⟨g, i * 4 + 1, .none⟩ = some (.int .u32 x.1.fl) ∧ w.cell? ⟨g, i * 4 + 2, .none⟩ = some (.slice dq x.1.sz dc) ∧ w.cell? ⟨g, i * 4 + 3, .none⟩ = some (.int .u64 x.1.mem) := by
  have hlt : i < E.length := (List.getElem?_eq_some_iff.1 hx).1
  obtain ⟨f0, f1, f2, f3⟩ := flatE_get E _ x hx
  obtain ⟨g, rfl, a0⟩ := own_cell h.own f0 (by omega) (by omega)
  obtain ⟨g1, e1, a1⟩ := own_cell h.own f1 (by omega) (by omega)
  obtain ⟨g2, e2, a2⟩ := own_cell h.own f2 (by omega) (by omega)
  obtain ⟨g3, e3, a3⟩ := own_cell h.own f3 (by omega) (by omega)
  simp only [Option.some.injEq, Addr.mk.injEq, and_true] at e1 e2 e3
  subst e1 e2 e3
  obtain ⟨dq, dc, hd, h1, h2, _⟩ := own_form (h.dat x (List.mem_of_getElem? hx))
  rw [hd] at a2
  exact ⟨g, dq, dc, rfl, hd, h1, h2, a0, a1, a2, a3⟩
end Go.Proofs.YtloldhcljdmofaaDoor
