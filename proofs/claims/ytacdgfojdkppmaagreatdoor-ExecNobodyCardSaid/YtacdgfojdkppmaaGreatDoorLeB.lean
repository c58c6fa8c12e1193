import Derived.Test.YtacdgfojdkppmaaGreatDoorLeA
import Derived.Laws.MakeOwn
namespace Go.Proofs.YtacdgfojdkppmaaGreatDoor
open Go.RowKit
set_option linter.unusedVariables false
set_option linter.unusedSimpArgs false
theorem le_cell1_new (w : World) (x : Int) (t : TypeId) : ∀ j u, (by8 [x])[j]? = some u → (w.alloc (.cells #[.int .u8 x] t)).cell? ((⟨w.heap.size, 0, .none⟩ : Addr).add j) = some u := by
  intro j u hj
  rw [le_addr_add, World.cell?_alloc_at _ _ _ _ rfl, Nat.zero_add]
  simpa [by8] using hj
theorem take_next {xs : List Int} {i : Nat} {x : Int} (h : xs[i]? = some x) : xs.take i ++ [x] = xs.take (i + 1) := by
  rw [List.take_add_one, h]
  rfl
/-- The marks behind what is lent. -/
def marks : List Int := (List.range 64).map fun (i : Nat) => (160 : Int) + (i : Int)
theorem marks_len : marks.length = 64 := by decide
theorem marks_get (i : Nat) (h : i < 64) : marks[i]? = some (160 + (i : Int)) := by simp [marks, h]
/-- What is lent: the bytes, and the marks in the room behind. -/
def Lent (w : World) (base g c : Nat) (xs : List Int) : Prop := w.ownsRow base 5 1 (.slice (some ⟨g, 0, .none⟩) (xs.length + 64) c) (xs.length + 64) (by8 (xs ++ marks))
theorem own_zero (w : World) (n : Nat) (zs : Array Value) (hn : zs.size = n) (hm : n ≤ maxLen) : (w.alloc (.cells zs 5)).ownsRow w.heap.size 5 1 (.slice (some ⟨w.heap.size, 0, .none⟩) 0 n) 0 [] :=
  ⟨rfl, .inr ⟨w.heap.size, n, zs, rfl, Nat.le_refl _, heap_new _ _, Nat.zero_le _, hm, by omega, by simp⟩⟩
theorem own_cap {w : World} {base e sz n c g : Nat} {xs : List Value} (h : w.ownsRow base e sz (.slice (some ⟨g, 0, .none⟩) n c) n xs) : n ≤ c ∧ c ≤ maxLen := by
  rcases h.2 with ⟨hv, _⟩ | ⟨g', cap, cur, hv, hb, hg, hn, hm, _⟩
  · cases hv
  · simp only [Value.slice.injEq, true_and] at hv
    obtain ⟨_, rfl⟩ := hv
    exact ⟨hn, hm⟩
theorem own_lt {w : World} {base e sz n c g : Nat} {xs : List Value} (h : w.ownsRow base e sz (.slice (some ⟨g, 0, .none⟩) n c) n xs) : g < w.heap.size := by
  rcases h.2 with ⟨hv, _⟩ | ⟨g', cap, cur, hv, hb, hg, _⟩
  · cases hv
  · simp only [Value.slice.injEq, Option.some.injEq, Addr.mk.injEq, and_true, true_and] at hv
    obtain ⟨rfl, rfl⟩ := hv
    exact (Array.getElem?_eq_some_iff.1 hg).1
theorem own_some {w : World} {base e sz n c : Nat} {p : Option Addr} {xs : List Value} (h : w.ownsRow base e sz (.slice p (n + 1) c) (n + 1) xs) : ∃ g, p = some ⟨g, 0, .none⟩ := by
  rcases h.2 with ⟨_, h0⟩ | ⟨g, cap, cur, hv, _⟩
  · omega
  · simp only [Value.slice.injEq] at hv
    exact ⟨g, hv.1⟩
end Go.Proofs.YtacdgfojdkppmaaGreatDoor
