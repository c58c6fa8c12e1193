import Derived.Test.YtbpgdepgplmpnaaFreshC
namespace Go.Proofs.Ytbpgdepgplmpnaa
open Go.RowKit
set_option linter.unusedVariables false
set_option linter.unusedSimpArgs false
theorem info31 : ∃ i, Try.prog.info? 31 = some i ∧ i.zero = some (.slice .none 0 0) ∧ i.size = 1 ∧ i.bytes = 24 := by
  have h : (Try.prog.info? 31).map (fun i => (i.zero, i.size, i.bytes)) = some (some (.slice .none 0 0), 1, 24) := by kernel_rfl
  cases hq : Try.prog.info? 31 with
  | none => rw [hq] at h; cases h
  | some i =>
    rw [hq] at h
    simp only [Option.map_some, Option.some.injEq, Prod.mk.injEq] at h
    exact ⟨i, rfl, h⟩
theorem info67 : ∃ i, Try.prog.info? 67 = some i ∧ i.zero = some (.agg #[.int .i64 0, .slice .none 0 0, .slice .none 0 0]) ∧ i.size = 3 ∧ i.bytes = 56 := by
  have h : (Try.prog.info? 67).map (fun i => (i.zero, i.size, i.bytes)) = some (some (.agg #[.int .i64 0, .slice .none 0 0, .slice .none 0 0]), 3, 56) := by kernel_rfl
  cases hq : Try.prog.info? 67 with
  | none => rw [hq] at h; cases h
  | some i =>
    rw [hq] at h
    simp only [Option.map_some, Option.some.injEq, Prod.mk.injEq] at h
    exact ⟨i, rfl, h⟩
theorem cells_new (w : World) (xs : List Value) (t : TypeId) : ∀ j u, xs[j]? = some u → (w.alloc (.cells xs.toArray t)).cell? ((⟨w.heap.size, 0, .none⟩ : Addr).add j) = some u := fun j u h => by
  rw [addr_add, World.cell?_alloc_at _ _ _ _ rfl, Nat.zero_add]
  simpa using h
def lc (n0 : Nat) (q : Nat → Option Addr) (c : Nat → Nat) (M : Nat) : List Value := (List.range M).map fun i => .slice (q i) (nnF n0 (i % 5)) (c i)
def tc (fq : Nat → Option Addr) (fc : Nat → Nat) (hq : Nat → Option Addr) (hc : Nat → Nat) : Nat → List Value
  | 0 => []
  | t + 1 => tc fq fc hq hc t ++ [.int .i64 5, .slice (fq t) 3 (fc t), .slice (hq t) 2 (hc t)]
theorem lc_next (n0 t : Nat) (q : Nat → Option Addr) (c : Nat → Nat) (q' : Nat → Option Addr) (c' : Nat → Nat) :
    lc n0 (fun i => if i < 5 * t then q i else q' (i - 5 * t)) (fun i => if i < 5 * t then c i else c' (i - 5 * t)) (5 * (t + 1)) = lc n0 q c (5 * t) ++ [.slice (q' 0) n0 (c' 0), .slice (q' 1) 4096 (c' 1), .slice (q' 2) 4096 (c' 2), .slice (q' 3) 4096 (c' 3), .slice (q' 4) 4096 (c' 4)] := by
  have e : 5 * (t + 1) = 5 * t + 1 + 1 + 1 + 1 + 1 := by omega
  unfold lc
  rw [e, List.range_succ, List.range_succ, List.range_succ, List.range_succ, List.range_succ]
  simp only [List.map_append, List.map_cons, List.map_nil, List.append_assoc]
  have h1 : ∀ j, j < 5 → (5 * t + j) % 5 = j := fun j hj => by omega
  have a0 := h1 0 (by omega)
  have a1 := h1 1 (by omega)
  have a2 := h1 2 (by omega)
  have a3 := h1 3 (by omega)
  have a4 := h1 4 (by omega)
  have b0 : ¬ 5 * t < 5 * t := by omega
  have b1 : ¬ 5 * t + 1 < 5 * t := by omega
  have b2 : ¬ 5 * t + 1 + 1 < 5 * t := by omega
  have b3 : ¬ 5 * t + 1 + 1 + 1 < 5 * t := by omega
  have b4 : ¬ 5 * t + 1 + 1 + 1 + 1 < 5 * t := by omega
  congr 1
  · refine List.map_congr_left fun i hi => ?_
    have : i < 5 * t := List.mem_range.1 hi
    simp only [if_pos this]
  · simp only [if_neg b0, if_neg b1, if_neg b2, if_neg b3, if_neg b4, List.cons_append, List.nil_append]
    rw [show 5 * t - 5 * t = 0 by omega, show 5 * t + 1 - 5 * t = 1 by omega, show 5 * t + 1 + 1 - 5 * t = 2 by omega, show 5 * t + 1 + 1 + 1 - 5 * t = 3 by omega, show 5 * t + 1 + 1 + 1 + 1 - 5 * t = 4 by omega,
      show (5 * t) % 5 = 0 by omega, show (5 * t + 1) % 5 = 1 by omega, show (5 * t + 1 + 1) % 5 = 2 by omega, show (5 * t + 1 + 1 + 1) % 5 = 3 by omega, show (5 * t + 1 + 1 + 1 + 1) % 5 = 4 by omega]
    rfl
theorem tc_congr (fq fc hq hc) (fq' fc' hq' hc') : ∀ t, (∀ j, j < t → fq j = fq' j ∧ fc j = fc' j ∧ hq j = hq' j ∧ hc j = hc' j) → tc fq fc hq hc t = tc fq' fc' hq' hc' t
  | 0, _ => rfl
  | t + 1, h => by
    obtain ⟨h1, h2, h3, h4⟩ := h t (by omega)
    simp only [tc, tc_congr fq fc hq hc fq' fc' hq' hc' t (fun j hj => h j (by omega)), h1, h2, h3, h4]
theorem tc_next (t : Nat) (fq : Nat → Option Addr) (fc : Nat → Nat) (hq : Nat → Option Addr) (hc : Nat → Nat) (a : Option Addr) (b : Nat) (d : Option Addr) (e : Nat) :
    tc (fun j => if j < t then fq j else a) (fun j => if j < t then fc j else b) (fun j => if j < t then hq j else d) (fun j => if j < t then hc j else e) (t + 1) = tc fq fc hq hc t ++ [.int .i64 5, .slice a 3 b, .slice d 2 e] := by
  simp only [tc, if_neg (Nat.lt_irrefl t)]
  rw [tc_congr _ _ _ _ fq fc hq hc t (fun j hj => by simp only [if_pos hj, and_self])]
structure LR (W0 : World) (X t : Nat) (W : World) (n0 : Nat) (B : Nat → Int) (k : Nat) (q : Nat → Option Addr) (c : Nat → Nat) (fq : Nat → Option Addr) (fc : Nat → Nat) (hq : Nat → Option Addr) (hc : Nat → Nat) (ql : Option Addr) (cl : Nat) (qt : Option Addr) (ct : Nat) : Prop where
  rl : Rl X t W (nnF n0) (RRF B k) FF PP q c fq fc hq hc
  l : W.ownsRow X 31 1 (.slice ql (5 * t) cl) (5 * t) (lc n0 q c (5 * t))
  td : W.ownsRow X 67 3 (.slice qt t ct) t (tc fq fc hq hc t)
  be : Below X W0 W
  xs : X ≤ W.heap.size
theorem LR.zero (W0 : World) (n0 : Nat) (B : Nat → Int) (k : Nat) : LR W0 W0.heap.size 0 W0 n0 B k (fun _ => .none) (fun _ => 0) (fun _ => .none) (fun _ => 0) (fun _ => .none) (fun _ => 0) .none 0 .none 0 :=
  ⟨Rl.zero _ _ _ _ _ _, World.ownsRow_nil _ _ _ _, World.ownsRow_nil _ _ _ _, Below.refl _ _, Nat.le_refl _⟩
section
variable {W0 : World} {X t : Nat} {W : World} {n0 : Nat} {B : Nat → Int} {k : Nat} {q : Nat → Option Addr} {c : Nat → Nat} {fq : Nat → Option Addr} {fc : Nat → Nat} {hq : Nat → Option Addr} {hc : Nat → Nat} {ql : Option Addr} {cl : Nat} {qt : Option Addr} {ct : Nat}
theorem LR.below {W' : World} (h : LR W0 X t W n0 B k q c fq fc hq hc ql cl qt ct) (b : Below W.heap.size W W') : LR W0 X t W' n0 B k q c fq fc hq hc ql cl qt ct :=
  ⟨h.rl.below b, owns_below h.l b, owns_below h.td b, h.be.trans (b.mono h.xs), Nat.le_trans h.xs b.size⟩
theorem LR.next (h : LR W0 X t W n0 B k q c fq fc hq hc ql cl qt ct) {W4 W5 W6 W7 : World} {q' : Nat → Option Addr} {c' : Nat → Nat} {fq' : Option Addr} {fc' : Nat} {hq' : Option Addr} {hc' : Nat} {ql' : Option Addr} {cl' : Nat} {qt' : Option Addr} {ct' : Nat} {o o2 : Obj} (b4 : Below W.heap.size W W4) (b5 : Below W4.heap.size W4 W5)
    (hr : ∀ i, i < 5 → W4.ownsRow W.heap.size 5 1 (.slice (q' i) (nnF n0 i) (c' i)) (nnF n0 i) (rowB (nnF n0 i) (RRF B k i))) (ha : Apart 5 (fun i => .slice (q' i) (nnF n0 i) (c' i)))
    (hf : W4.ownsRow W.heap.size 22 1 (.slice fq' 3 fc') 3 [.int .u64 (FF 0), .int .u64 (FF 1), .int .u64 (FF 2)])
    (hh : W4.ownsRow W.heap.size 76 2 (.slice hq' 2 hc') 2 [.int .u64 (PP 0), .slice (q' 3) 4096 (c' 3), .int .u64 (PP 1), .slice (q' 4) 4096 (c' 4)])
    (hl : W6.ownsRow X 31 1 (.slice ql' (5 * t + 5) cl') (5 * t + 5) (lc n0 q c (5 * t) ++ [.slice (q' 0) n0 (c' 0), .slice (q' 1) 4096 (c' 1), .slice (q' 2) 4096 (c' 2), .slice (q' 3) 4096 (c' 3), .slice (q' 4) 4096 (c' 4)])) (g6 : (W5.alloc o).grownBy W6 (Value.ownBlock (.slice ql (5 * t) cl)))
    (ht : W7.ownsRow X 67 3 (.slice qt' (t + 1) ct') (t + 1) (tc fq fc hq hc t ++ [.int .i64 5, .slice fq' 3 fc', .slice hq' 2 hc'])) (g7 : (W6.alloc o2).grownBy W7 (Value.ownBlock (.slice qt t ct))) :
    LR W0 X (t + 1) W7 n0 B k (fun i => if i < 5 * t then q i else q' (i - 5 * t)) (fun i => if i < 5 * t then c i else c' (i - 5 * t)) (fun j => if j < t then fq j else fq') (fun j => if j < t then fc j else fc') (fun j => if j < t then hq j else hq') (fun j => if j < t then hc j else hc') ql' cl' qt' ct' := by
  have b45 : Below W.heap.size W W5 := b4.trans (b5.mono b4.size)
  have b5a : Below W.heap.size W (W5.alloc o) := b45.alloc b45.size o
  have l5 := owns_below h.l b5a
  have t5 := owns_below h.td b5a
  have t6 : W6.ownsRow X 67 3 (.slice qt t ct) t (tc fq fc hq hc t) := t5.kept g6 (kinds_apart t5 l5 (by decide))
  have t6a := t6.alloc o2
  have r4 := h.rl.next h.xs b4 hr ha hf hh
  have r5 := (r4.below b5).below (below_past W5 o)
  have r6 := (r5.grow l5 (by decide) (by decide) (by decide) g6).below (below_past W6 o2)
  have r7 := r6.grow t6a (by decide) (by decide) (by decide) g7
  have l6a := hl.alloc o2
  have l7 := l6a.kept g7 (kinds_apart l6a t6a (by decide))
  have be5 : Below X W0 (W5.alloc o) := h.be.trans (b5a.mono h.xs)
  have s5 : X ≤ (W5.alloc o).heap.size := Nat.le_trans h.xs b5a.size
  have be6 : Below X W0 W6 := be5.grown g6 s5 (fun k hk => (l5.lt k hk).1)
  have s6 : X ≤ W6.heap.size := Nat.le_trans s5 g6.size
  have be6a : Below X W0 (W6.alloc o2) := be6.alloc s6 o2
  have s6a : X ≤ (W6.alloc o2).heap.size := by simp only [World.size_alloc]; omega
  have be7 : Below X W0 W7 := be6a.grown g7 s6a (fun k hk => (t6a.lt k hk).1)
  refine ⟨r7, ?_, ?_, be7, Nat.le_trans s6a g7.size⟩
  · rw [lc_next]; exact l7
  · rw [tc_next]; exact ht
end
end Go.Proofs.Ytbpgdepgplmpnaa
