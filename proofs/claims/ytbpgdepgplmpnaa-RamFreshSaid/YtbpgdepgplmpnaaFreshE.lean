import Derived.Test.YtbpgdepgplmpnaaFreshD
namespace Go.Proofs.Ytbpgdepgplmpnaa
open Go.RowKit
set_option linter.unusedVariables false
set_option linter.unusedSimpArgs false
def kc5 (n0 : Nat) (kq : Nat → Option Addr) (kc : Nat → Nat) (j : Nat) : List Value := (List.range j).map fun x => .slice (kq x) (nnF n0 x) (kc x)
structure KR (V : World) (K j : Nat) (W : World) (n0 : Nat) (B : Nat → Int) (k : Nat) (kq : Nat → Option Addr) (kc : Nat → Nat) (qk : Option Addr) (ck : Nat) : Prop where
  row : W.ownsRow K 31 1 (.slice qk j ck) j (kc5 n0 kq kc j)
  cp : ∀ x, x < j → W.ownsRow K 5 1 (.slice (kq x) (nnF n0 x) (kc x)) (nnF n0 x) (rowB (nnF n0 x) (RRF B k x))
  be : Below K V W
  xs : K ≤ W.heap.size
theorem KR.zero (V : World) (n0 : Nat) (B : Nat → Int) (k : Nat) : KR V V.heap.size 0 V n0 B k (fun _ => .none) (fun _ => 0) .none 0 :=
  ⟨World.ownsRow_nil _ _ _ _, fun x hx => by omega, Below.refl _ _, Nat.le_refl _⟩
theorem kc5_next (n0 j : Nat) (kq : Nat → Option Addr) (kc : Nat → Nat) (a : Option Addr) (b : Nat) : kc5 n0 (fun x => if x < j then kq x else a) (fun x => if x < j then kc x else b) (j + 1) = kc5 n0 kq kc j ++ [.slice a (nnF n0 j) b] := by
  unfold kc5
  rw [List.range_succ, List.map_append, List.map_singleton]
  congr 1
  · refine List.map_congr_left fun i hi => ?_
    have : i < j := List.mem_range.1 hi
    simp only [if_pos this]
  · simp only [if_neg (Nat.lt_irrefl j)]
theorem KR.next {V W W1 W2 : World} {K j n0 k : Nat} {B : Nat → Int} {kq : Nat → Option Addr} {kc : Nat → Nat} {qk : Option Addr} {ck : Nat} {o : Obj} (h : KR V K j W n0 B k kq kc qk ck) {a : Option Addr} {b : Nat} (b1 : Below W.heap.size W W1) (hr : W1.ownsRow W.heap.size 5 1 (.slice a (nnF n0 j) b) (nnF n0 j) (rowB (nnF n0 j) (RRF B k j)))
    {qk' : Option Addr} {ck' : Nat} (hk : W2.ownsRow K 31 1 (.slice qk' (j + 1) ck') (j + 1) (kc5 n0 kq kc j ++ [.slice a (nnF n0 j) b])) (hg : (W1.alloc o).grownBy W2 (Value.ownBlock (.slice qk j ck))) :
    KR V K (j + 1) W2 n0 B k (fun x => if x < j then kq x else a) (fun x => if x < j then kc x else b) qk' ck' := by
  have b1a : Below W.heap.size W (W1.alloc o) := b1.alloc b1.size o
  have k1 := owns_below h.row b1a
  have be1 : Below K V (W1.alloc o) := h.be.trans (b1a.mono h.xs)
  have s1 : K ≤ (W1.alloc o).heap.size := Nat.le_trans h.xs b1a.size
  refine ⟨by rw [kc5_next]; exact hk, fun x hx => ?_, be1.grown hg s1 (fun r hr => (k1.lt r hr).1), Nat.le_trans s1 hg.size⟩
  by_cases hx2 : x < j
  · simp only [if_pos hx2]
    have c1 := owns_below (h.cp x hx2) b1a
    exact c1.kept hg (kinds_apart c1 k1 (by decide))
  · obtain rfl : x = j := by omega
    simp only [if_neg hx2]
    have c1 := (ownsRow_base hr h.xs).alloc o
    exact c1.kept hg (kinds_apart c1 k1 (by decide))
theorem lc_at (n0 M i : Nat) (q : Nat → Option Addr) (c : Nat → Nat) (h : i < M) : (lc n0 q c M)[i]? = some (.slice (q i) (nnF n0 (i % 5)) (c i)) := by
  simp [lc, List.getElem?_range h]
theorem kc5_at (n0 M i : Nat) (q : Nat → Option Addr) (c : Nat → Nat) (h : i < M) : (kc5 n0 q c M)[i]? = some (.slice (q i) (nnF n0 i) (c i)) := by
  simp [kc5, List.getElem?_range h]
theorem nnF_le (n0 i : Nat) (h : n0 ≤ 4096) : nnF n0 i ≤ 1000000 := by unfold nnF; split <;> omega
end Go.Proofs.Ytbpgdepgplmpnaa
