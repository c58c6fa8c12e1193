import Derived.Test.YtblmkkhiojbcjaaGreatHd
namespace Go.Proofs.YtblmkkhiojbcjaaGreat
open Go Go.RowKit Fz
set_option linter.unusedVariables false
set_option linter.unusedSimpArgs false
theorem own_slP {W : World} {base e size n : Nat} {v : Value} {xs : List Value} (h : W.ownsRow base e size v n xs) (hn : 1 ≤ n) : ∃ g cap, v = .slice (some ⟨g, 0, .none⟩) n cap := by
  rcases h.2 with h1 | ⟨g, cap, cur, e1, _⟩
  · exact absurd h1.2 (by omega)
  · exact ⟨g, cap, e1⟩
section
variable {w W W' : World} {ga gb n ca cb : Nat} {xa xb : List Value}
theorem Ln.alloc (h : Ln w W ga gb n ca cb xa xb) (o : Obj) : Ln w (W.alloc o) ga gb n ca cb xa xb := ⟨h.a.alloc o, h.b.alloc o, h.f.trans (Tch.of (Fra.below ((Below.refl _ _).alloc (Nat.le_refl _) _)))⟩
theorem Mid.app {zs : List Value} {k : Nat} {v : Int} (h : Mid zs k v) (hl : zs.length = k * 3) : Mid (zs ++ [.int .u64 0, .int .u64 v, .int .u64 0]) (k + 1) v := fun j hj => by
  by_cases e : j = k
  · subst e
    rw [List.getElem?_append_right (by omega), hl]
    simp
  · rw [List.getElem?_append_left (by omega)]
    exact h j (by omega)
theorem Mid.left {xs zs : List Value} {k : Nat} {v : Int} (h : Mid xs k v) {j : Nat} (hj : j < k) (hl : k * 3 ≤ xs.length) : (xs ++ zs)[j * 3 + 1]? = some (.int .u64 v) := by
  rw [List.getElem?_append_left (by omega)]
  exact h j hj
theorem Mid.right {xs zs : List Value} {n k : Nat} {v : Int} (h : Mid zs k v) {j : Nat} (hj : n ≤ j ∧ j < n + k) (hl : xs.length = n * 3) : (xs ++ zs)[j * 3 + 1]? = some (.int .u64 v) := by
  rw [List.getElem?_append_right (by omega), hl, show j * 3 + 1 - n * 3 = (j - n) * 3 + 1 by omega]
  exact h _ (by omega)
/-- A row that grows, beside the two. -/
structure Lx (w W : World) (ga gb n ca cb : Nat) (xa xb : List Value) (g0 : Nat) (x0 : List Value) (k : Nat) (v : Int) (gx cx : Nat) (zs : List Value) : Prop where
  l : Ln w W ga gb n ca cb xa xb
  x : W.ownsRow 0 99 3 (.slice (some ⟨gx, 0, .none⟩) (n + k) cx) (n + k) (x0 ++ zs)
  m : Mid zs k v
  len : zs.length = k * 3
  pl : gx = g0 ∨ w.heap.size ≤ gx
end
end Go.Proofs.YtblmkkhiojbcjaaGreat
