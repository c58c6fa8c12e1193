import Derived.Test.YtabhojfdkmeaoaaWk
import Derived.Test.YtabhojfdkmeaoaaLf
namespace Go.Proofs.Ytabhojfdkmeaoaa
open Go.RowKit
set_option linter.unusedVariables false
set_option linter.unusedSimpArgs false
theorem lent_byt {w : World} {base g c : Nat} {xs : List Int} (h : Lent w base g c xs) : Byt w (some ⟨g, 0, .none⟩) xs.length c xs := by
  have h1 := byt_own h
  obtain ⟨h2, h3, h4, h5⟩ := h1
  rcases h5 with h5 | ⟨b, o, e, h6, h7⟩
  · omega
  · injection e with e
    injection e with e1 e2 _
    subst e1 e2
    exact ⟨rfl, by omega, h4, .inr ⟨g, 0, rfl, h6, fun i x hx => h7 i x (by rw [List.getElem?_append_left (by have := (List.getElem?_eq_some_iff.1 hx).1; exact this)]; exact hx)⟩⟩
theorem lent_le {w : World} {base g c : Nat} {xs : List Int} (h : Lent w base g c xs) : base ≤ g := own_block h g rfl
/-- The pipe of the law, and what was there. -/
structure Pl (w wr : World) (b : Nat) (xs : List Int) (r : Int) (rd wt : Bool) : Prop where
  bel : Below w.heap.size w wr
  ge : w.heap.size ≤ b
  pip : Pip wr b xs r rd wt
theorem Pl.below {w wr v : World} {b : Nat} {xs : List Int} {r : Int} {rd wt : Bool} (h : Pl w wr b xs r rd wt) (hb : Below wr.heap.size wr v) : Pl w v b xs r rd wt := ⟨h.bel.trans (hb.mono h.bel.size), h.ge, h.pip.below hb⟩
theorem Pl.turn {w wr v : World} {b : Nat} {xs xs' : List Int} {r r' : Int} {rd wt rd' wt' : Bool} (h : Pl w wr b xs r rd wt) (ht : Trn b wr v) (hp : Pip v b xs' r' rd' wt') : Pl w v b xs' r' rd' wt' := ⟨h.bel.trans (ht.toBelow h.ge h.bel.size), h.ge, hp⟩
/-- Put of what is lent. -/
theorem put_lent {w wr : World} {b : Nat} {xs : List Int} {r : Int} {rd wt : Bool} (h : Pl w wr b xs r rd wt) {g c n : Nat} {ys : List Int} {base : Nat} (hL : Lent wr base g c ys) (hb : b < base) (hy : ∀ y ∈ ys, 0 ≤ y ∧ y < 256) (hn : n = ys.length) :
    Calls Try.prog 10 #[.pointer (some ⟨b, 0, .none⟩), .slice (some ⟨g, 0, .none⟩) n c] wr fun e w' => e = .returned (.tuple #[.int .i64 (putN xs rd ys), .int .i64 (putHow xs rd ys)]) ∧ Pl w w' b (xs ++ ys.take (putN xs rd ys)) r rd wt ∧ Trn b wr w' := by
  subst hn
  have hg := lent_le hL
  refine (put_pip h.pip (lent_byt hL) (fun _ a ha => by injection ha with ha; subst ha; show g ≠ b; omega) hy).mono ?_
  rintro e w' ⟨rfl, hp, ht⟩
  exact ⟨rfl, h.turn ht hp, ht⟩
theorem put2 {xs ys : List Int} {rd : Bool} (h : putHow xs rd ys = 2) : rd = true ∧ putN xs rd ys < ys.length ∧ (xs.length ≤ 512 → xs.length + putN xs rd ys = 512) := by
  unfold putHow at h
  split at h
  · cases h
  · cases rd with
    | false => cases h
    | true =>
      rw [if_pos rfl] at h
      split at h
      · rename_i h1
        refine ⟨rfl, h1, fun hx => ?_⟩
        simp only [putN, if_true] at h1 ⊢
        omega
      · cases h
theorem put_cases (xs ys : List Int) (rd : Bool) : putHow xs rd ys = 1 ∨ putHow xs rd ys = 2 ∨ putHow xs rd ys = 3 := by
  unfold putHow
  split
  · exact .inl rfl
  · split
    · split
      · exact .inr (.inl rfl)
      · exact .inl rfl
    · exact .inr (.inr rfl)
/-- The script's cells, behind whatever was made since. -/
theorem ArgO.cells {w wr : World} {q : Option Addr} {m c : Nat} {O : Nat → Orec} (h : ArgO w q m c O) (hb : Below w.heap.size w wr) (i : Nat) (hi : i < m) : ∃ b o, q = some ⟨b, o, .none⟩ ∧ b < w.heap.size ∧ wr.cell? ⟨b, o + i * 4, .none⟩ = some (.int .i64 (O i).k) ∧ wr.cell? ⟨b, o + i * 4 + 1, .none⟩ = some (.int .i64 (O i).wh) ∧ wr.cell? ⟨b, o + i * 4 + 2, .none⟩ = some (.slice (O i).s (O i).ln (O i).cd) ∧ wr.cell? ⟨b, o + i * 4 + 3, .none⟩ = some (.int .i64 (O i).n) := by
  rcases h.at' with h0 | ⟨b, o, hq, hlt, hc⟩
  · omega
  · obtain ⟨h1, h2, h3, h4⟩ := hc i hi
    exact ⟨b, o, hq, hlt, (hb.cell (p := ⟨b, _, .none⟩) hlt).trans h1, (hb.cell (p := ⟨b, _, .none⟩) hlt).trans h2, (hb.cell (p := ⟨b, _, .none⟩) hlt).trans h3, (hb.cell (p := ⟨b, _, .none⟩) hlt).trans h4⟩
end Go.Proofs.Ytabhojfdkmeaoaa
