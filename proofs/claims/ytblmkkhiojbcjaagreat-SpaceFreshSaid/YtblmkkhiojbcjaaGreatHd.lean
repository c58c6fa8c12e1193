import Derived.Test.YtblmkkhiojbcjaaGreatHc
import Derived.Test.YtblmkkhiojbcjaaGreatEc
import Derived.OneCell
namespace Go.Proofs.YtblmkkhiojbcjaaGreat
open Go Go.RowKit Fz
set_option linter.unusedVariables false
set_option linter.unusedSimpArgs false
set_option maxHeartbeats 1000000 in
theorem psame_any {w : World} {l : List Pg} {n ca cb : Nat} {qa qb : Option Addr} (hln : l.length = n) (hn : n ≤ 1000000) (ha : SeeP w qa l) (hb : SeeP w qb l) : Calls Tryz.prog 26 #[.slice qa n ca, .slice qb n cb] w fun e w' => e = .returned (.bool true) ∧ Below w.heap.size w w' := by
  go_enter Tryz.func26, Tryz.ntmps26
  go_wp2
  go_loopw [5] (fun k wr => ∃ i : Nat, i ≤ n ∧ k = .int .i64 i ∧ Below w.heap.size w wr) (fun k _ => n - (intOf k).toNat)
  case atStart => exact ⟨0, by omega, rfl, Below.refl _ _⟩
  case round =>
    obtain ⟨i, hi, rfl, hB⟩ := hrel
    have HB : Hid (Below w.heap.size w wr) := hB
    by_cases hin : i < n
    · obtain ⟨x, hx⟩ : ∃ x, l[i]? = some x := ⟨l[i]'(by omega), List.getElem?_eq_getElem _⟩
      rcases ha with h | ⟨g1, rfl, hg1, r1⟩
      · rw [h] at hln; simp at hln; omega
      rcases hb with h | ⟨g2, rfl, hg2, r2⟩
      · rw [h] at hln; simp at hln; omega
      have i1 : (i : Int) < n := by omega
      have hb1 : ¬ (n : Int) ≤ i := by omega
      have hb2 : ¬ n ≤ i := by omega
      have k0 := (hB.cell (p := ⟨g1, i * 3, .none⟩) hg1).trans (r1 i x hx).1
      have k1 := (hB.cell (p := ⟨g1, i * 3 + 1, .none⟩) hg1).trans (r1 i x hx).2.1
      have k2 := (hB.cell (p := ⟨g1, i * 3 + 2, .none⟩) hg1).trans (r1 i x hx).2.2
      have h0 := (hB.cell (p := ⟨g2, i * 3, .none⟩) hg2).trans (r2 i x hx).1
      have h1 := (hB.cell (p := ⟨g2, i * 3 + 1, .none⟩) hg2).trans (r2 i x hx).2.1
      have h2 := (hB.cell (p := ⟨g2, i * 3 + 2, .none⟩) hg2).trans (r2 i x hx).2.2
      clear hB r1 r2 hx hln
      generalize x.1 = x0 at *
      generalize x.2.1 = x1 at *
      generalize x.2.2 = x2 at *
      go_wp2
      go_quiet (fail)
      go_wp2
      exact ⟨⟨i + 1, by omega, by simp, below_drewN HB.out _⟩, by simp [intOf]; omega⟩
    · have i1 : ¬ ((i : Int) < n) := by omega
      clear hB ha hb
      go_wp2
      go_ret
      exact ⟨rfl, HB.out⟩
/-- Two rows of pages, each in a block of its own. -/
structure Ln (w W : World) (ga gb n ca cb : Nat) (xa xb : List Value) : Prop where
  a : W.ownsRow 0 99 3 (.slice (some ⟨ga, 0, .none⟩) n ca) n xa
  b : W.ownsRow 0 99 3 (.slice (some ⟨gb, 0, .none⟩) n cb) n xb
  f : Tch ga gb gb gb w W
section
variable {w W W' : World} {ga gb n ca cb : Nat} {xa xb : List Value}
theorem Tch.grown {g : Option Nat} (h : Tch ga gb gb gb w W) (k : W.grownBy W' g) (hg : ∀ x, g = some x → x = ga ∨ x = gb ∨ w.heap.size ≤ x) : Tch ga gb gb gb w W' :=
  ⟨k.os.trans h.os, k.tape.trans h.tape, k.output.trans h.output, Nat.le_trans h.size k.size, fun i hi e1 e2 _ _ => (k.block i (Nat.lt_of_lt_of_le hi h.size) (fun e => by
    rcases hg i e.symm with h1 | h1 | h1
    · exact e1 h1
    · exact e2 h1
    · omega)).trans (h.block i hi e1 e2 e2 e2)⟩
theorem Ln.setA (h : Ln w W ga gb n ca cb xa xb) (hne : ga ≠ gb) (j : Nat) (u : Value) : Ln w (W.setCell ⟨ga, j, .none⟩ u) ga gb n ca cb (xa.set j u) xb := by
  obtain ⟨s1, s2⟩ := h.a.stored j u
  exact ⟨s1, h.b.kept s2 (.inr (by simp [Value.ownBlock]; omega)), h.f.grown s2 (fun x e => .inl (by injection e with e; exact e.symm))⟩
theorem Ln.setB (h : Ln w W ga gb n ca cb xa xb) (hne : ga ≠ gb) (j : Nat) (u : Value) : Ln w (W.setCell ⟨gb, j, .none⟩ u) ga gb n ca cb xa (xb.set j u) := by
  obtain ⟨s1, s2⟩ := h.b.stored j u
  exact ⟨h.a.kept s2 (.inr (by simp [Value.ownBlock]; omega)), s1, h.f.grown s2 (fun x e => .inr (.inl (by injection e with e; exact e.symm)))⟩
/-- The first k pages' middle words are v. -/
def Mid (xs : List Value) (k : Nat) (v : Int) : Prop := ∀ j, j < k → xs[j * 3 + 1]? = some (.int .u64 v)
theorem Mid.set {xs : List Value} {k : Nat} {v : Int} (h : Mid xs k v) (hl : k * 3 + 1 < xs.length) : Mid (xs.set (k * 3 + 1) (.int .u64 v)) (k + 1) v := fun j hj => by
  by_cases e : j = k
  · subst e
    rw [List.getElem?_set_self hl]
  · rw [List.getElem?_set_ne (by omega)]
    exact h j (by omega)
end
end Go.Proofs.YtblmkkhiojbcjaaGreat
