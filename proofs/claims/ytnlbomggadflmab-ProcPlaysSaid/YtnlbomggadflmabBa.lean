import Derived.Test.YtnlbomggadflmabEPure
import Derived.Test.YtnlbomggadflmabRows
import Derived.WalkKit
import Derived.WalkSpells
import Derived.RowKit3
import Derived.Deep.QuietTactic
import Derived.BigQuiet
import Derived.WalkSmall
import Derived.Below
import Derived.Deep.Heap
import Derived.RegionTactic
import Derived.BigRegion
import Derived.Laws.IdiomCopy
import Derived.Deep.MidRow
import Derived.Deep.RegionLaw
import Derived.Deep.RegionHeld
import Derived.Deep.Cut
import Derived.Deep.Upon
namespace Go.Proofs.Ytnlbomggadflmab
open Go.RowKit
set_option linter.unusedVariables false
set_option linter.unusedSimpArgs false
set_option maxRecDepth 100000
/-- A process as plain data. -/
structure Pr where
  pid : Int
  st : Int
  par : Int
  ck : Int
  cn : Int
  kil : Bool
  sta : Int
/-- A free slot. -/
def zP : Pr := ⟨0, 0, 0, 0, 0, false, 0⟩
def Pr.l (p : Pr) : List Value := [.int .i64 p.pid, .int .i64 p.st, .int .i64 p.par, .int .i64 p.ck, .int .i64 p.cn, .bool p.kil, .int .i32 p.sta]
theorem Pr.len (p : Pr) : p.l.length = 7 := rfl
theorem flat_len (P : Nat → Pr) : ∀ n, ((List.range n).flatMap fun i => (P i).l).length = 7 * n
  | 0 => rfl
  | n + 1 => by rw [List.range_succ, List.flatMap_append, List.length_append, flat_len P n]; simp [Pr.l]; omega
theorem flat_get (P : Nat → Pr) (k : Nat) (hk : k < 7) : ∀ n i, i < n → ((List.range n).flatMap fun i => (P i).l)[i * 7 + k]? = (P i).l[k]?
  | 0, i, h => by omega
  | n + 1, i, h => by
    rw [List.range_succ, List.flatMap_append]
    by_cases e : i < n
    · rw [List.getElem?_append_left (by rw [flat_len]; omega)]
      exact flat_get P k hk n i e
    · obtain rfl : i = n := by omega
      rw [List.getElem?_append_right (by rw [flat_len]; omega), flat_len]
      rw [show i * 7 + k - 7 * i = k by omega]
      simp
/-- The slots' cells. -/
def sl (P : Nat → Pr) : List Value := (List.range 64).flatMap fun i => (P i).l
/-- The table's cells. -/
def tl (P : Nat → Pr) (nx : Int) : List Value := sl P ++ [.int .i64 nx]
theorem sl_len (P : Nat → Pr) : (sl P).length = 448 := flat_len P 64
theorem tl_len (P : Nat → Pr) (nx : Int) : (tl P nx).length = 449 := by rw [tl, List.length_append, sl_len]; rfl
theorem sl_get (P : Nat → Pr) (i k : Nat) (hi : i < 64) (hk : k < 7) : (sl P)[i * 7 + k]? = (P i).l[k]? := flat_get P k hk 64 i hi
theorem tl_get (P : Nat → Pr) (nx : Int) (i k : Nat) (hi : i < 64) (hk : k < 7) : (tl P nx)[i * 7 + k]? = (P i).l[k]? := by
  rw [tl, List.getElem?_append_left (by rw [sl_len]; omega), sl_get P i k hi hk]
theorem tl_nx (P : Nat → Pr) (nx : Int) : (tl P nx)[448]? = some (.int .i64 nx) := by
  rw [tl, List.getElem?_append_right (by rw [sl_len]; omega), sl_len]; rfl
/-- A list of 449 cells is told by its places. -/
theorem tl_ext (P : Nat → Pr) (nx : Int) (L : List Value) (hl : L.length = 449) (h : ∀ i k, i < 64 → k < 7 → L[i * 7 + k]? = (P i).l[k]?) (hn : L[448]? = some (.int .i64 nx)) : L = tl P nx := by
  apply List.ext_getElem?
  intro j
  by_cases h1 : j < 448
  · have := h (j / 7) (j % 7) (by omega) (by omega)
    rw [show j / 7 * 7 + j % 7 = j by omega] at this
    rw [this, ← tl_get P nx (j / 7) (j % 7) (by omega) (by omega), show j / 7 * 7 + j % 7 = j by omega]
  · by_cases h2 : j = 448
    · subst h2; rw [hn, tl_nx]
    · rw [List.getElem?_eq_none (by omega), List.getElem?_eq_none (by rw [tl_len]; omega)]
theorem sl_one (P : Nat → Pr) : ∀ v ∈ sl P, v.oneCell' = true := by
  intro v hv
  simp only [sl, List.mem_flatMap, List.mem_range] at hv
  obtain ⟨i, _, h⟩ := hv
  simp only [Pr.l, List.mem_cons, List.not_mem_nil, or_false] at h
  rcases h with rfl | rfl | rfl | rfl | rfl | rfl | rfl <;> rfl
theorem tl_one (P : Nat → Pr) (nx : Int) : ∀ v ∈ tl P nx, v.oneCell' = true := by
  intro v hv
  simp only [tl, List.mem_append, List.mem_singleton] at hv
  rcases hv with h | rfl
  · exact sl_one P v h
  · rfl
/-- One slot is another one. -/
def up (P : Nat → Pr) (s : Nat) (p : Pr) : Nat → Pr := fun i => if i = s then p else P i
theorem up_same (P : Nat → Pr) (s : Nat) (p : Pr) : up P s p s = p := if_pos rfl
theorem up_other (P : Nat → Pr) (s : Nat) (p : Pr) (i : Nat) (h : i ≠ s) : up P s p i = P i := if_neg h
theorem up_up (P : Nat → Pr) (s : Nat) (p q : Pr) : up (up P s p) s q = up P s q := by
  funext i; simp only [up]; split <;> rfl
/-- The table's cells lie in a block. -/
structure Tb (w : World) (b : Nat) (P : Nat → Pr) (nx : Int) : Prop where
  rg : w.rangeAt b 0 (tl P nx)
  th : w.there b 0 449
section
variable {w : World} {b : Nat} {P : Nat → Pr} {nx : Int}
theorem Tb.cell (h : Tb w b P nx) (i k : Nat) (hi : i < 64) (hk : k < 7) (v : Value) (hv : (P i).l[k]? = some v) : w.cell? ⟨b, i * 7 + k, .none⟩ = some v := by
  have := h.rg (i * 7 + k) v (by rw [tl_get P nx i k hi hk]; exact hv)
  rwa [Nat.zero_add] at this
theorem Tb.cells (h : Tb w b P nx) (i : Nat) (hi : i < 64) : w.cell? ⟨b, i * 7, .none⟩ = some (.int .i64 (P i).pid) ∧ w.cell? ⟨b, i * 7 + 1, .none⟩ = some (.int .i64 (P i).st) ∧ w.cell? ⟨b, i * 7 + 2, .none⟩ = some (.int .i64 (P i).par) ∧ w.cell? ⟨b, i * 7 + 3, .none⟩ = some (.int .i64 (P i).ck) ∧ w.cell? ⟨b, i * 7 + 4, .none⟩ = some (.int .i64 (P i).cn) ∧ w.cell? ⟨b, i * 7 + 5, .none⟩ = some (.bool (P i).kil) ∧ w.cell? ⟨b, i * 7 + 6, .none⟩ = some (.int .i32 (P i).sta) :=
  ⟨h.cell i 0 hi (by omega) _ rfl, h.cell i 1 hi (by omega) _ rfl, h.cell i 2 hi (by omega) _ rfl, h.cell i 3 hi (by omega) _ rfl, h.cell i 4 hi (by omega) _ rfl, h.cell i 5 hi (by omega) _ rfl, h.cell i 6 hi (by omega) _ rfl⟩
theorem Tb.cn (h : Tb w b P nx) : w.cell? ⟨b, 448, .none⟩ = some (.int .i64 nx) := by
  have := h.rg 448 _ (tl_nx P nx)
  rwa [Nat.zero_add] at this
theorem Tb.pr (h : Tb w b P nx) (i : Nat) (hi : i < 64) : w.rangeAt b (i * 7) (P i).l := fun j v hj => by
  have hl : j < 7 := (List.getElem?_eq_some_iff.1 hj).1
  exact h.cell i j hi hl v hj
theorem Tb.fr (h : Tb w b P nx) (o : Nat) (ho : o < 449) : w.frozen? ⟨b, o, .none⟩ = false := by
  have := (h.th o ho).2
  rwa [Nat.zero_add] at this
theorem Tb.lt (h : Tb w b P nx) : b < w.heap.size := World.block_lt_of_cell? w _ h.cn
theorem Tb.keep {w' : World} (h : Tb w b P nx) (hb : w'.heap[b]? = w.heap[b]?) : Tb w' b P nx :=
  ⟨fun j v hj => (World.cell?_of_block (w := w) (a := ⟨b, 0 + j, .none⟩) hb).trans (h.rg j v hj), fun j hj => by
    have := h.th j hj
    rw [World.cell?_of_block (w := w) (a := ⟨b, 0 + j, .none⟩) hb, World.frozen?_of_block (w := w) (a := ⟨b, 0 + j, .none⟩) hb]
    exact this⟩
theorem Tb.below {w' : World} {B : Nat} (h : Tb w b P nx) (k : Below B w w') (hb : b < B) : Tb w' b P nx := h.keep (k.block b hb)
theorem Tb.bel {w' : World} (h : Tb w b P nx) (k : Below w.heap.size w w') : Tb w' b P nx := h.below k h.lt
theorem Tb.set (h : Tb w b P nx) (s k : Nat) (hs : s < 64) (hk : k < 7) (v : Value) (q : Pr) (hq : q.l = (P s).l.set k v) : Tb (w.setCell ⟨b, s * 7 + k, .none⟩ v) b (up P s q) nx := by
  refine ⟨?_, ?_⟩
  · intro j u hj
    have hl : j < 449 := by rw [← tl_len (up P s q) nx]; exact (List.getElem?_eq_some_iff.1 hj).1
    rw [Nat.zero_add]
    by_cases h1 : j = 448
    · subst h1
      rw [tl_nx] at hj
      rw [World.cell?_setCell_other _ _ _ _ (by intro x; have y := congrArg Addr.off x; dsimp only at y; omega), h.cn, ← hj]
    · have e : j = j / 7 * 7 + j % 7 := by omega
      have hi : j / 7 < 64 := by omega
      have hk' : j % 7 < 7 := by omega
      rw [e, tl_get _ _ _ _ hi hk'] at hj
      rw [e]
      generalize j / 7 = i at hi hj
      generalize j % 7 = k' at hk' hj
      by_cases e1 : i = s
      · subst e1
        rw [up_same, hq] at hj
        by_cases e2 : k' = k
        · subst e2
          rw [List.getElem?_set_self (by rw [Pr.len]; exact hk)] at hj
          cases hj
          refine World.cell?_setCell_same' _ _ _ ?_
          have := (h.th (i * 7 + k') (by omega)).1
          rwa [Nat.zero_add] at this
        · rw [List.getElem?_set_ne (fun x => e2 x.symm)] at hj
          rw [World.cell?_setCell_other _ _ _ _ (by intro x; have y := congrArg Addr.off x; dsimp only at y; omega)]
          exact h.cell i k' hi hk' u hj
      · rw [up_other _ _ _ _ e1] at hj
        rw [World.cell?_setCell_other _ _ _ _ (by intro x; have y := congrArg Addr.off x; dsimp only at y; omega)]
        exact h.cell i k' hi hk' u hj
  · intro j hj
    have := h.th j hj
    refine ⟨?_, by rw [World.frozen?_setCell]; exact this.2⟩
    by_cases e : (⟨b, s * 7 + k, .none⟩ : Addr) = ⟨b, 0 + j, .none⟩
    · rw [← e, World.cell?_setCell_same' _ _ _ (by rw [e]; exact this.1)]; rfl
    · rw [World.cell?_setCell_other _ _ _ _ e]; exact this.1
theorem Tb.setN (h : Tb w b P nx) (n : Int) : Tb (w.setCell ⟨b, 448, .none⟩ (.int .i64 n)) b P n := by
  refine ⟨?_, ?_⟩
  · intro j u hj
    have hl : j < 449 := by rw [← tl_len P n]; exact (List.getElem?_eq_some_iff.1 hj).1
    rw [Nat.zero_add]
    by_cases h1 : j = 448
    · subst h1
      rw [tl_nx] at hj
      cases hj
      exact World.cell?_setCell_same' _ _ _ (by rw [h.cn]; rfl)
    · have e : j = j / 7 * 7 + j % 7 := by omega
      rw [e, tl_get _ _ _ _ (by omega) (by omega)] at hj
      rw [World.cell?_setCell_other _ _ _ _ (by intro x; have y := congrArg Addr.off x; dsimp only at y; omega), e]
      exact h.cell _ _ (by omega) (by omega) u hj
  · intro j hj
    have := h.th j hj
    refine ⟨?_, by rw [World.frozen?_setCell]; exact this.2⟩
    by_cases e : (⟨b, 448, .none⟩ : Addr) = ⟨b, 0 + j, .none⟩
    · rw [← e, World.cell?_setCell_same' _ _ _ (by rw [e]; exact this.1)]; rfl
    · rw [World.cell?_setCell_other _ _ _ _ e]; exact this.1
end
/-- One block may have turned; what is new is new. -/
structure Trn (b : Nat) (w w' : World) : Prop where
  os : w'.os = w.os
  tape : w'.tape = w.tape
  output : w'.output = w.output
  size : w.heap.size ≤ w'.heap.size
  block : ∀ k, k < w.heap.size → k ≠ b → w'.heap[k]? = w.heap[k]?
theorem Trn.refl (b : Nat) (w : World) : Trn b w w := ⟨rfl, rfl, rfl, Nat.le_refl _, fun _ _ _ => rfl⟩
theorem Trn.trans {b : Nat} {w v u : World} (h : Trn b w v) (k : Trn b v u) : Trn b w u :=
  ⟨k.os.trans h.os, k.tape.trans h.tape, k.output.trans h.output, Nat.le_trans h.size k.size, fun i hi hb => (k.block i (Nat.lt_of_lt_of_le hi h.size) hb).trans (h.block i hi hb)⟩
theorem Trn.ofBelow {b : Nat} {w v : World} (h : Below w.heap.size w v) : Trn b w v := ⟨h.os, h.tape, h.output, h.size, fun k hk _ => h.block k hk⟩
theorem Trn.toBelow {b B : Nat} {w v : World} (h : Trn b w v) (hb : B ≤ b) (hB : B ≤ w.heap.size) : Below B w v := ⟨h.os, h.tape, h.output, h.size, fun k hk => h.block k (by omega) (by omega)⟩
theorem Trn.cell {b : Nat} {w v : World} (h : Trn b w v) {p : Addr} (hp : p.block < w.heap.size) (hne : p.block ≠ b) : v.cell? p = w.cell? p := World.cell?_of_block (w := w) (h.block p.block hp hne)
theorem Trn.frozen {b : Nat} {w v : World} (h : Trn b w v) {p : Addr} (hp : p.block < w.heap.size) (hne : p.block ≠ b) : v.frozen? p = w.frozen? p := World.frozen?_of_block (w := w) (h.block p.block hp hne)
theorem size_setCells (b : Nat) : ∀ (vs : List Value) (o : Nat) (w : World), (w.setCells b o vs).heap.size = w.heap.size
  | [], _, _ => rfl
  | v :: vs, o, w => by rw [World.setCells, size_setCells b vs]; simp [World.setCell]
theorem tape_setCells (b : Nat) : ∀ (vs : List Value) (o : Nat) (w : World), (w.setCells b o vs).tape = w.tape
  | [], _, _ => rfl
  | v :: vs, o, w => by rw [World.setCells, tape_setCells b vs]; rfl
theorem Trn.setCells (b o : Nat) (vs : List Value) (w : World) : Trn b w (w.setCells b o vs) :=
  ⟨World.os_setCells _ _ _ _, tape_setCells _ _ _ _, World.output_setCells _ _ _ _, Nat.le_of_eq (size_setCells _ _ _ _).symm, fun k hk hne => World.heap_setCells_other _ _ _ _ hk hne⟩
theorem Trn.setCell (b o : Nat) (u : Value) (w : World) : Trn b w (w.setCell ⟨b, o, .none⟩ u) := Trn.setCells b o [u] w
theorem Trn.drew (b : Nat) (w : World) : Trn b w w.drew := ⟨rfl, rfl, rfl, Nat.le_refl _, fun _ _ _ => rfl⟩
theorem Trn.tb {b d : Nat} {w v : World} {P : Nat → Pr} {nx : Int} (h : Trn d w v) (H : Tb w b P nx) (hne : b ≠ d) : Tb v b P nx := H.keep (h.block b H.lt hne)
theorem heap_new (w : World) (o : Obj) : (w.alloc o).heap[w.heap.size]? = some o := by
  rw [World.alloc]
  simp
theorem below1 (w : World) (o : Obj) : Below w.heap.size w (w.alloc o) := (Below.refl _ _).alloc (Nat.le_refl _) _
theorem lt_cell {w : World} {a : Addr} {v : Value} (h : w.cell? a = some v) : a.block < w.heap.size := World.block_lt_of_cell? w _ h
end Go.Proofs.Ytnlbomggadflmab
