import Derived.Test.YtdkidhipiglbkaaPrD
namespace Go.Proofs.Ytdkidhipiglbkaa
open Go.RowKit
set_option linter.unusedVariables false
set_option linter.unusedSimpArgs false
theorem segc_get (L : List Sg) : ∀ (i : Nat) (s : Sg) (j : Nat), L[i]? = some s → j < 4 → (segc L)[i * 4 + j]? = s.cells[j]? := by
  induction L with
  | nil => intro i s j h _; simp at h
  | cons y L ih =>
    intro i s j h hj
    have e : segc (y :: L) = y.cells ++ segc L := by simp [segc]
    have l4 : y.cells.length = 4 := rfl
    rw [e]
    cases i with
    | zero =>
      simp only [List.getElem?_cons_zero, Option.some.injEq] at h
      subst h
      rw [List.getElem?_append_left (by omega), Nat.zero_mul, Nat.zero_add]
    | succ i =>
      simp only [List.getElem?_cons_succ] at h
      rw [List.getElem?_append_right (by omega), l4, ← ih i s j h hj]
      congr 1
      omega
/-- A segment's cells, in a row of them. -/
def At4 (w : World) (g i : Nat) (s : Sg) : Prop := w.cell? ⟨g, i * 4, .none⟩ = some (.int .u64 s.va) ∧ w.cell? ⟨g, i * 4 + 1, .none⟩ = some (.int .u32 s.fl) ∧ w.cell? ⟨g, i * 4 + 2, .none⟩ = some (.slice s.p s.n s.c) ∧ w.cell? ⟨g, i * 4 + 3, .none⟩ = some (.int .u64 s.mem)
theorem segs_at {w : World} {base n c : Nat} {p : Option Addr} {L : List Sg} (h : Segs w base p n c L) (hn : 0 < n) :
    ∃ g, p = some ⟨g, 0, .none⟩ ∧ n ≤ c ∧ c ≤ maxLen ∧ g < w.heap.size ∧ ∀ i s, L[i]? = some s → At4 w g i s ∧ Byt w s.p s.n s.c s.xs := by
  obtain ⟨h1, h2, h3⟩ := h
  rcases h1.2 with ⟨_, h0⟩ | ⟨g, cap, cur, hv, hb, hg, hn', hm, _⟩
  · omega
  · simp only [Value.slice.injEq, true_and] at hv
    obtain ⟨rfl, rfl⟩ := hv
    refine ⟨g, rfl, hn', hm, (Array.getElem?_eq_some_iff.1 hg).1, fun i s hx => ⟨?_, byt_own (h3 s (List.mem_of_getElem? hx))⟩⟩
    have hc := fun (j : Nat) (u : Value) (hj : j < 4) (hu : s.cells[j]? = some u) => h1.cells (g := g) rfl (i * 4 + j) u ((segc_get L i s j hx hj).trans hu)
    simp only [addr_add, Nat.zero_add] at hc
    exact ⟨hc 0 _ (by omega) rfl, hc 1 _ (by omega) rfl, hc 2 _ (by omega) rfl, hc 3 _ (by omega) rfl⟩
/-- Two rows of segments that say the same, each element with its partner. -/
def Pair (w : World) (g1 g2 n : Nat) (K : List (Int × Int × Int × List Int)) : Prop :=
  ∀ i, i < n → ∃ s t : Sg, At4 w g1 i s ∧ At4 w g2 i t ∧ Byt w s.p s.n s.c s.xs ∧ Byt w t.p t.n t.c t.xs ∧ s.key = t.key ∧ s.n < 1000000
theorem at4_keep {B : Nat} {w w' : World} {g i : Nat} {s : Sg} (h : At4 w g i s) (hb : Below B w w') (hg : g < B) : At4 w' g i s := by
  obtain ⟨k0, k1, k2, k3⟩ := h
  exact ⟨(hb.cell hg).trans k0, (hb.cell hg).trans k1, (hb.cell hg).trans k2, (hb.cell hg).trans k3⟩
def C2 (w : World) (b : Nat) (x y : Value) : Prop := w.cell? ⟨b, 0, .none⟩ = some x ∧ w.cell? ⟨b, 1, .none⟩ = some y
theorem c2_keep {B : Nat} {w w' : World} {b : Nat} {x y : Value} (h : C2 w b x y) (hb : Below B w w') (hB : b < B) : C2 w' b x y := ⟨(hb.cell hB).trans h.1, (hb.cell hB).trans h.2⟩
end Go.Proofs.Ytdkidhipiglbkaa
