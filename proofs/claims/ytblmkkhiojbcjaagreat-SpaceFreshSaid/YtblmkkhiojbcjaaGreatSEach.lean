import Derived.Test.YtblmkkhiojbcjaaGreatSWalk
import Derived.Laws.Cover3
import Derived.Deep.QuietTactic
import Derived.BigQuiet
import Derived.Deep.RegionLawGrows
import Derived.Deep.RegionHeld3
import Derived.RangeFuncNested
import Derived.RangeFuncBound
import Derived.RangeFuncCalls
import Derived.RangeFuncLeaves
import Derived.RangeFuncFrom
import Derived.Shelf.Abstract
import Derived.Shelf.RegionOpen
import Derived.OwnWalkIn
import Derived.TacticsInMore
import Derived.LoopNIn
import Derived.LoopIn
import Derived.Deep.DeepCutAuto
namespace Go.Proofs.YtblmkkhiojbcjaaGreat
open Go.RowKit
set_option linter.unusedVariables false
set_option linter.unusedSimpArgs false
theorem blw_drewN (B : Nat) (w : World) (n : Nat) : Below B w (w.drewN n) := ⟨rfl, rfl, rfl, Nat.le_refl _, fun _ _ => rfl⟩
theorem spn_pos (l : Int) : 0 < spn l := by unfold spn; split <;> (try split) <;> (try split) <;> omega
theorem mod_le {a b : Int} (ha : 0 ≤ a) (hb : 0 < b) : 0 ≤ a % b ∧ a % b ≤ a := ⟨Int.emod_nonneg _ (by omega), by have := Int.mul_ediv_add_emod a b; have := Int.mul_nonneg (Int.le_of_lt hb) (Int.ediv_nonneg ha (Int.le_of_lt hb)); omega⟩
section
variable {w : World} {v : Value}
theorem no_firstTaken (h : Unm w v) (node from_ : Int) (hf : 0 ≤ from_ ∧ from_ ≤ 512) : Calls Tryz.prog 143 #[v, .int .u64 node, .int .u64 from_] w fun e w' => e = .returned (.int .u64 512) ∧ w' = w := by
  have c := fun a n => no_read h a n
  clear h
  go_enter Tryz.func143, Tryz.ntmps143
  go_wp2_with (go_at_call 55; refine (c _ _).mono ?_; rintro e w0 ⟨rfl, rfl⟩)
  refine wp_loop_rounds 1 ?_
  rw [rounds_succ]
  go_wp2
  go_ret
  exact ⟨rfl, rfl⟩
theorem node_any (a0 a1 a2 l e k a : Int) (h : (l = 0 ∧ a = a0) ∨ (l = 1 ∧ a = a1) ∨ (l = 2 ∧ a = a2)) (ha : 0 ≤ a ∧ a < 18446744073709551616) : Calls Tryz.prog 142 #[pth a0 a1 a2 l e k, .int .i64 l] w fun e w' => e = .returned (.int .u64 (a - a % 4096)) ∧ Below w.heap.size w w' := by
  simp only [pth]
  rcases h with ⟨rfl, rfl⟩ | ⟨rfl, rfl⟩ | ⟨rfl, rfl⟩
  all_goals
    go_enter Tryz.func142, Tryz.ntmps142
    go_wp2
    go_quiet (fail)
    go_wp2
    go_ret
    exact ⟨rfl, (below1 _ _).trans (blw_drewN _ _ _)⟩
theorem branch_any (T : Nat) (va l : Int) (hl : l = 0 ∨ l = 1 ∨ l = 2 ∨ l = 3) (hv : 0 ≤ va ∧ va < 18446744073709551616) (ht : w.cell? ⟨T, 2, .none⟩ = some (.int .u64 va)) : Calls Tryz.prog 145 #[.pointer (some ⟨T, 0, .none⟩), .int .i64 l] w fun e w' => e = .returned (.agg #[.int .u64 (va - va % spn l), .int .i64 l]) ∧ Below w.heap.size w w' := by
  have c := inSpan_any va l hv hl
  have hT := lt_of_cell ht
  have hm := mod_le hv.1 (spn_pos l)
  have hw : IntKind.u64.wrap (va - va % spn l) = va - va % spn l := by rw [IntKind.wrap_u64]; omega
  clear hl
  generalize va % spn l = x at *
  go_enter Tryz.func145, Tryz.ntmps145
  go_wp2
  go_region_law (go_simp; go_at_call 101; refine (c _).mono ?_; rintro e W0 ⟨rfl, rfl⟩)
  all_goals
    go_wp2
    refine bodyPost_ret (v := .agg #[.int .u64 (va - x), .int .i64 l]) (by simp [results, Tryz.results145, go_sem]) rfl ⟨rfl, (below1 _ _).trans (Below.refl _ _).drew⟩
/-- The cells of a tour. -/
structure Tour (w : World) (T : Nat) (v : Value) (root va : Int) (m : Value) : Prop where
  c0 : w.cell? ⟨T, 0, .none⟩ = some v
  c1 : w.cell? ⟨T, 1, .none⟩ = some (.int .u64 root)
  c2 : w.cell? ⟨T, 2, .none⟩ = some (.int .u64 va)
  c3 : w.cell? ⟨T, 3, .none⟩ = some m
  f2 : w.frozen? ⟨T, 2, .none⟩ = false
theorem Tour.below {w w' : World} {T : Nat} {v : Value} {root va : Int} {m : Value} (h : Tour w T v root va m) (b : Below w.heap.size w w') : Tour w' T v root va m := by
  have hT : T < w.heap.size := lt_of_cell h.c0
  exact ⟨(b.cell hT).trans h.c0, (b.cell hT).trans h.c1, (b.cell hT).trans h.c2, (b.cell hT).trans h.c3, (b.frozen hT).trans h.f2⟩
theorem Tour.set {w : World} {T : Nat} {v : Value} {root va : Int} {m : Value} (h : Tour w T v root va m) (x : Int) : Tour (w.setCell ⟨T, 2, .none⟩ (.int .u64 x)) T v root x m :=
  ⟨(World.cell?_setCell_other _ _ _ _ (by simp)).trans h.c0, (World.cell?_setCell_other _ _ _ _ (by simp)).trans h.c1, World.cell?_setCell_same' _ _ _ (by rw [h.c2]; rfl), (World.cell?_setCell_other _ _ _ _ (by simp)).trans h.c3, by rw [World.frozen?_setCell]; exact h.f2⟩
theorem field100_0 (a b : Value) (w : World) : (Instr.field 126 (.agg #[a, b]) 0).run Tryz.prog w = .ok a w := by kernel_rfl
attribute [local go_sem] field100_0
set_option maxHeartbeats 4000000 in
theorem pass_any {T : Nat} {root va : Int} {m : Value} (t : Tour w T v root va m) (a0 a1 a2 l e k a nx : Int) (hl : (l = 0 ∧ a = a0) ∨ (l = 1 ∧ a = a1) ∨ (l = 2 ∧ a = a2)) (ha : 0 ≤ a ∧ a < 18446744073709551616) (hva : 0 ≤ va ∧ va < 549755813888) (hn : 0 ≤ nx ∧ nx ≤ 512)
    (c73 : ∀ w', Below w.heap.size w w' → Calls Tryz.prog 143 #[v, .int .u64 (a - a % 4096), .int .u64 (ix va l + 1)] w' fun e w'' => e = .returned (.int .u64 nx) ∧ Below w'.heap.size w' w'') :
    Calls Tryz.prog 147 #[.pointer (some ⟨T, 0, .none⟩), pth a0 a1 a2 l e k] w fun e w' => (∃ u, e = .returned u) ∧ ∃ w1, Below w.heap.size w w1 ∧ w' = w1.setCell ⟨T, 2, .none⟩ (.int .u64 (va - va % spn (l + 1) + nx * spn l)) := by
  have hT : T < w.heap.size := lt_of_cell t.c0
  have hl3 : l = 0 ∨ l = 1 ∨ l = 2 := by omega
  have P : ∀ W, Below (w.alloc (.cells #[.int .u64 a0, .int .u64 a1, .int .u64 a2, .int .i64 l, .int .u64 e, .int .i64 k] 131)).heap.size (w.alloc (.cells #[.int .u64 a0, .int .u64 a1, .int .u64 a2, .int .i64 l, .int .u64 e, .int .i64 k] 131)) W →
      W.cell? ⟨T, 0, .none⟩ = some v ∧ W.cell? ⟨T, 2, .none⟩ = some (.int .u64 va) ∧ W.cell? ⟨w.heap.size, 0, .none⟩ = some (.int .u64 a0) ∧ W.cell? ⟨w.heap.size, 1, .none⟩ = some (.int .u64 a1) ∧ W.cell? ⟨w.heap.size, 2, .none⟩ = some (.int .u64 a2) ∧ W.cell? ⟨w.heap.size, 3, .none⟩ = some (.int .i64 l) ∧ W.cell? ⟨w.heap.size, 4, .none⟩ = some (.int .u64 e) ∧ W.cell? ⟨w.heap.size, 5, .none⟩ = some (.int .i64 k) := by
    intro W hb
    have t1 := (t.below (below1 w (.cells #[.int .u64 a0, .int .u64 a1, .int .u64 a2, .int .i64 l, .int .u64 e, .int .i64 k] 131))).below hb
    have z : w.heap.size < (w.alloc (.cells #[.int .u64 a0, .int .u64 a1, .int .u64 a2, .int .i64 l, .int .u64 e, .int .i64 k] 131)).heap.size := by simp
    exact ⟨t1.c0, t1.c2, (hb.cell z).trans (by simp), (hb.cell z).trans (by simp), (hb.cell z).trans (by simp), (hb.cell z).trans (by simp), (hb.cell z).trans (by simp), (hb.cell z).trans (by simp)⟩
  have hbX := below1 w (.cells #[.int .u64 a0, .int .u64 a1, .int .u64 a2, .int .i64 l, .int .u64 e, .int .i64 k] 131)
  have i1 := ix_b va l
  have i2 : IntKind.u64.wrap (ix va l + 1) = ix va l + 1 := by rw [IntKind.wrap_u64]; omega
  have P0 := P _ (Below.refl _ _)
  have fr : ∀ W, Below (w.alloc (.cells #[.int .u64 a0, .int .u64 a1, .int .u64 a2, .int .i64 l, .int .u64 e, .int .i64 k] 131)).heap.size (w.alloc (.cells #[.int .u64 a0, .int .u64 a1, .int .u64 a2, .int .i64 l, .int .u64 e, .int .i64 k] 131)) W → W.frozen? ⟨T, 2, .none⟩ = false := fun W hb => ((t.below hbX).below hb).f2
  have tr : ∀ W, Below (w.alloc (.cells #[.int .u64 a0, .int .u64 a1, .int .u64 a2, .int .i64 l, .int .u64 e, .int .i64 k] 131)).heap.size (w.alloc (.cells #[.int .u64 a0, .int .u64 a1, .int .u64 a2, .int .i64 l, .int .u64 e, .int .i64 k] 131)) W → Below w.heap.size w W := fun W hb => hbX.trans (hb.mono (by simp))
  have HP : Hid (∀ W, Below (w.alloc (.cells #[.int .u64 a0, .int .u64 a1, .int .u64 a2, .int .i64 l, .int .u64 e, .int .i64 k] 131)).heap.size (w.alloc (.cells #[.int .u64 a0, .int .u64 a1, .int .u64 a2, .int .i64 l, .int .u64 e, .int .i64 k] 131)) W → _) := P
  have HF : Hid (∀ W, Below (w.alloc (.cells #[.int .u64 a0, .int .u64 a1, .int .u64 a2, .int .i64 l, .int .u64 e, .int .i64 k] 131)).heap.size (w.alloc (.cells #[.int .u64 a0, .int .u64 a1, .int .u64 a2, .int .i64 l, .int .u64 e, .int .i64 k] 131)) W → _) := fr
  have HT : Hid (∀ W, Below (w.alloc (.cells #[.int .u64 a0, .int .u64 a1, .int .u64 a2, .int .i64 l, .int .u64 e, .int .i64 k] 131)).heap.size (w.alloc (.cells #[.int .u64 a0, .int .u64 a1, .int .u64 a2, .int .i64 l, .int .u64 e, .int .i64 k] 131)) W → _) := tr
  clear P fr tr hbX t
  simp only [pth]
  go_enter Tryz.func147, Tryz.ntmps147
  go_wp2
  generalize hX : (w.alloc (.cells #[.int .u64 a0, .int .u64 a1, .int .u64 a2, .int .i64 l, .int .u64 e, .int .i64 k] 131)) = X at *
  have HX : Hid (_ = X) := hX
  clear hX
  have HS : Hid (∀ W, Below X.heap.size X W → (W.cell? ⟨T, 0, .none⟩ = some v ∧ W.cell? ⟨T, 2, .none⟩ = some (.int .u64 va) ∧ W.cell? ⟨w.heap.size, 0, .none⟩ = some (.int .u64 a0) ∧ W.cell? ⟨w.heap.size, 1, .none⟩ = some (.int .u64 a1) ∧ W.cell? ⟨w.heap.size, 2, .none⟩ = some (.int .u64 a2) ∧ W.cell? ⟨w.heap.size, 3, .none⟩ = some (.int .i64 l) ∧ W.cell? ⟨w.heap.size, 4, .none⟩ = some (.int .u64 e) ∧ W.cell? ⟨w.heap.size, 5, .none⟩ = some (.int .i64 k) ∧ W.frozen? ⟨T, 2, .none⟩ = false ∧ Below X.heap.size X W)) := fun W hb => by
    obtain ⟨q0, q1, q2, q3, q4, q5, q6, q7⟩ := HP.out W hb
    exact ⟨q0, q1, q2, q3, q4, q5, q6, q7, HF.out W hb, hb⟩
  have s72 : ∀ W, (W.cell? ⟨T, 0, .none⟩ = some v ∧ W.cell? ⟨T, 2, .none⟩ = some (.int .u64 va) ∧ W.cell? ⟨w.heap.size, 0, .none⟩ = some (.int .u64 a0) ∧ W.cell? ⟨w.heap.size, 1, .none⟩ = some (.int .u64 a1) ∧ W.cell? ⟨w.heap.size, 2, .none⟩ = some (.int .u64 a2) ∧ W.cell? ⟨w.heap.size, 3, .none⟩ = some (.int .i64 l) ∧ W.cell? ⟨w.heap.size, 4, .none⟩ = some (.int .u64 e) ∧ W.cell? ⟨w.heap.size, 5, .none⟩ = some (.int .i64 k) ∧ W.frozen? ⟨T, 2, .none⟩ = false ∧ Below X.heap.size X W) → Calls Tryz.prog 142 #[.agg #[.int .u64 a0, .int .u64 a1, .int .u64 a2, .int .i64 l, .int .u64 e, .int .i64 k], .int .i64 l] W fun e_ W' => e_ = .returned (.int .u64 (a - a % 4096)) ∧ (W'.cell? ⟨T, 0, .none⟩ = some v ∧ W'.cell? ⟨T, 2, .none⟩ = some (.int .u64 va) ∧ W'.cell? ⟨w.heap.size, 0, .none⟩ = some (.int .u64 a0) ∧ W'.cell? ⟨w.heap.size, 1, .none⟩ = some (.int .u64 a1) ∧ W'.cell? ⟨w.heap.size, 2, .none⟩ = some (.int .u64 a2) ∧ W'.cell? ⟨w.heap.size, 3, .none⟩ = some (.int .i64 l) ∧ W'.cell? ⟨w.heap.size, 4, .none⟩ = some (.int .u64 e) ∧ W'.cell? ⟨w.heap.size, 5, .none⟩ = some (.int .i64 k) ∧ W'.frozen? ⟨T, 2, .none⟩ = false ∧ Below X.heap.size X W') := fun W hs => by
    have hb := hs.2.2.2.2.2.2.2.2.2
    refine (node_any a0 a1 a2 l e k a hl ha).mono ?_
    rintro e_ W' ⟨he, h1⟩
    exact ⟨he, HS.out W' (hb.trans (h1.mono hb.size))⟩
  have s63 : ∀ W, (W.cell? ⟨T, 0, .none⟩ = some v ∧ W.cell? ⟨T, 2, .none⟩ = some (.int .u64 va) ∧ W.cell? ⟨w.heap.size, 0, .none⟩ = some (.int .u64 a0) ∧ W.cell? ⟨w.heap.size, 1, .none⟩ = some (.int .u64 a1) ∧ W.cell? ⟨w.heap.size, 2, .none⟩ = some (.int .u64 a2) ∧ W.cell? ⟨w.heap.size, 3, .none⟩ = some (.int .i64 l) ∧ W.cell? ⟨w.heap.size, 4, .none⟩ = some (.int .u64 e) ∧ W.cell? ⟨w.heap.size, 5, .none⟩ = some (.int .i64 k) ∧ W.frozen? ⟨T, 2, .none⟩ = false ∧ Below X.heap.size X W) → Calls Tryz.prog 137 #[.int .u64 va, .int .i64 l] W fun e_ W' => e_ = .returned (.int .u64 (ix va l)) ∧ (W'.cell? ⟨T, 0, .none⟩ = some v ∧ W'.cell? ⟨T, 2, .none⟩ = some (.int .u64 va) ∧ W'.cell? ⟨w.heap.size, 0, .none⟩ = some (.int .u64 a0) ∧ W'.cell? ⟨w.heap.size, 1, .none⟩ = some (.int .u64 a1) ∧ W'.cell? ⟨w.heap.size, 2, .none⟩ = some (.int .u64 a2) ∧ W'.cell? ⟨w.heap.size, 3, .none⟩ = some (.int .i64 l) ∧ W'.cell? ⟨w.heap.size, 4, .none⟩ = some (.int .u64 e) ∧ W'.cell? ⟨w.heap.size, 5, .none⟩ = some (.int .i64 k) ∧ W'.frozen? ⟨T, 2, .none⟩ = false ∧ Below X.heap.size X W') := fun W hs => by
    refine (index_any va l (by omega) hl3 W).mono ?_
    rintro e_ W' ⟨he, rfl⟩
    exact ⟨he, hs⟩
  have s73 : ∀ W, (W.cell? ⟨T, 0, .none⟩ = some v ∧ W.cell? ⟨T, 2, .none⟩ = some (.int .u64 va) ∧ W.cell? ⟨w.heap.size, 0, .none⟩ = some (.int .u64 a0) ∧ W.cell? ⟨w.heap.size, 1, .none⟩ = some (.int .u64 a1) ∧ W.cell? ⟨w.heap.size, 2, .none⟩ = some (.int .u64 a2) ∧ W.cell? ⟨w.heap.size, 3, .none⟩ = some (.int .i64 l) ∧ W.cell? ⟨w.heap.size, 4, .none⟩ = some (.int .u64 e) ∧ W.cell? ⟨w.heap.size, 5, .none⟩ = some (.int .i64 k) ∧ W.frozen? ⟨T, 2, .none⟩ = false ∧ Below X.heap.size X W) → Calls Tryz.prog 143 #[v, .int .u64 (a - a % 4096), .int .u64 (ix va l + 1)] W fun e_ W' => e_ = .returned (.int .u64 nx) ∧ (W'.cell? ⟨T, 0, .none⟩ = some v ∧ W'.cell? ⟨T, 2, .none⟩ = some (.int .u64 va) ∧ W'.cell? ⟨w.heap.size, 0, .none⟩ = some (.int .u64 a0) ∧ W'.cell? ⟨w.heap.size, 1, .none⟩ = some (.int .u64 a1) ∧ W'.cell? ⟨w.heap.size, 2, .none⟩ = some (.int .u64 a2) ∧ W'.cell? ⟨w.heap.size, 3, .none⟩ = some (.int .i64 l) ∧ W'.cell? ⟨w.heap.size, 4, .none⟩ = some (.int .u64 e) ∧ W'.cell? ⟨w.heap.size, 5, .none⟩ = some (.int .i64 k) ∧ W'.frozen? ⟨T, 2, .none⟩ = false ∧ Below X.heap.size X W') := fun W hs => by
    have hb := hs.2.2.2.2.2.2.2.2.2
    refine (c73 W (HT.out W hb)).mono ?_
    rintro e_ W' ⟨he, h1⟩
    exact ⟨he, HS.out W' (hb.trans (h1.mono hb.size))⟩
  have s82 : ∀ W, (W.cell? ⟨T, 0, .none⟩ = some v ∧ W.cell? ⟨T, 2, .none⟩ = some (.int .u64 va) ∧ W.cell? ⟨w.heap.size, 0, .none⟩ = some (.int .u64 a0) ∧ W.cell? ⟨w.heap.size, 1, .none⟩ = some (.int .u64 a1) ∧ W.cell? ⟨w.heap.size, 2, .none⟩ = some (.int .u64 a2) ∧ W.cell? ⟨w.heap.size, 3, .none⟩ = some (.int .i64 l) ∧ W.cell? ⟨w.heap.size, 4, .none⟩ = some (.int .u64 e) ∧ W.cell? ⟨w.heap.size, 5, .none⟩ = some (.int .i64 k) ∧ W.frozen? ⟨T, 2, .none⟩ = false ∧ Below X.heap.size X W) → Calls Tryz.prog 145 #[.pointer (some ⟨T, 0, .none⟩), .int .i64 (l + 1)] W fun e_ W' => e_ = .returned (.agg #[.int .u64 (va - va % spn (l + 1)), .int .i64 (l + 1)]) ∧ (W'.cell? ⟨T, 0, .none⟩ = some v ∧ W'.cell? ⟨T, 2, .none⟩ = some (.int .u64 va) ∧ W'.cell? ⟨w.heap.size, 0, .none⟩ = some (.int .u64 a0) ∧ W'.cell? ⟨w.heap.size, 1, .none⟩ = some (.int .u64 a1) ∧ W'.cell? ⟨w.heap.size, 2, .none⟩ = some (.int .u64 a2) ∧ W'.cell? ⟨w.heap.size, 3, .none⟩ = some (.int .i64 l) ∧ W'.cell? ⟨w.heap.size, 4, .none⟩ = some (.int .u64 e) ∧ W'.cell? ⟨w.heap.size, 5, .none⟩ = some (.int .i64 k) ∧ W'.frozen? ⟨T, 2, .none⟩ = false ∧ Below X.heap.size X W') := fun W hs => by
    have hb := hs.2.2.2.2.2.2.2.2.2
    refine (branch_any T va (l + 1) (by omega) (by omega) hs.2.1).mono ?_
    rintro e_ W' ⟨he, h1⟩
    exact ⟨he, HS.out W' (hb.trans (h1.mono hb.size))⟩
  have s78 : ∀ W, (W.cell? ⟨T, 0, .none⟩ = some v ∧ W.cell? ⟨T, 2, .none⟩ = some (.int .u64 va) ∧ W.cell? ⟨w.heap.size, 0, .none⟩ = some (.int .u64 a0) ∧ W.cell? ⟨w.heap.size, 1, .none⟩ = some (.int .u64 a1) ∧ W.cell? ⟨w.heap.size, 2, .none⟩ = some (.int .u64 a2) ∧ W.cell? ⟨w.heap.size, 3, .none⟩ = some (.int .i64 l) ∧ W.cell? ⟨w.heap.size, 4, .none⟩ = some (.int .u64 e) ∧ W.cell? ⟨w.heap.size, 5, .none⟩ = some (.int .i64 k) ∧ W.frozen? ⟨T, 2, .none⟩ = false ∧ Below X.heap.size X W) → Calls Tryz.prog 136 #[.int .i64 l] W fun e_ W' => e_ = .returned (.int .u64 (spn l)) ∧ (W'.cell? ⟨T, 0, .none⟩ = some v ∧ W'.cell? ⟨T, 2, .none⟩ = some (.int .u64 va) ∧ W'.cell? ⟨w.heap.size, 0, .none⟩ = some (.int .u64 a0) ∧ W'.cell? ⟨w.heap.size, 1, .none⟩ = some (.int .u64 a1) ∧ W'.cell? ⟨w.heap.size, 2, .none⟩ = some (.int .u64 a2) ∧ W'.cell? ⟨w.heap.size, 3, .none⟩ = some (.int .i64 l) ∧ W'.cell? ⟨w.heap.size, 4, .none⟩ = some (.int .u64 e) ∧ W'.cell? ⟨w.heap.size, 5, .none⟩ = some (.int .i64 k) ∧ W'.frozen? ⟨T, 2, .none⟩ = false ∧ Below X.heap.size X W') := fun W hs => by
    refine (span_any l (by omega) W).mono ?_
    rintro e_ W' ⟨he, rfl⟩
    exact ⟨he, hs⟩
  have hc78 := fun W => span_any l (by omega) W
  have j0 := HS.out X.drew (Below.refl _ _).drew
  have w1 : IntKind.i64.wrap (l + 1) = l + 1 := by rcases hl3 with rfl | rfl | rfl <;> rfl
  have w2 : IntKind.u64.wrap (nx * spn l) = nx * spn l := by rw [IntKind.wrap_u64]; rcases hl3 with rfl | rfl | rfl <;> simp only [spn0, spn1, spn2] <;> omega
  have w3 : IntKind.u64.wrap (va - va % spn (l + 1) + nx * spn l) = va - va % spn (l + 1) + nx * spn l := by
    have := mod_le hva.1 (spn_pos (l + 1))
    rw [IntKind.wrap_u64]
    rcases hl3 with rfl | rfl | rfl <;> simp only [spn0, spn1, spn2] <;> omega
  clear hl c73 hl3 ha P0 HP HF
  generalize a - a % 4096 = nd at *
  generalize ix va l = ii at *
  generalize hA : va - va % spn (l + 1) = A at *
  have HA : Hid (_ = A) := hA
  clear hA
  generalize hL : spn l = sl at *
  have HL : Hid (_ = sl) := hL
  clear hL
  go_region_held3 (fun W => (W.cell? ⟨T, 0, .none⟩ = some v ∧ W.cell? ⟨T, 2, .none⟩ = some (.int .u64 va) ∧ W.cell? ⟨w.heap.size, 0, .none⟩ = some (.int .u64 a0) ∧ W.cell? ⟨w.heap.size, 1, .none⟩ = some (.int .u64 a1) ∧ W.cell? ⟨w.heap.size, 2, .none⟩ = some (.int .u64 a2) ∧ W.cell? ⟨w.heap.size, 3, .none⟩ = some (.int .i64 l) ∧ W.cell? ⟨w.heap.size, 4, .none⟩ = some (.int .u64 e) ∧ W.cell? ⟨w.heap.size, 5, .none⟩ = some (.int .i64 k) ∧ W.frozen? ⟨T, 2, .none⟩ = false ∧ Below X.heap.size X W)) (first | assumption | exact j0) (first | (go_at_call 142; refine (s72 _ (by assumption)).mono ?_; rintro e_ W1 ⟨rfl, hS1⟩) | (go_at_call 137; refine (s63 _ (by assumption)).mono ?_; rintro e_ W2 ⟨rfl, hS2⟩) | (go_at_call 143; refine (s73 _ (by assumption)).mono ?_; rintro e_ W3 ⟨rfl, hS3⟩))
  rename_i hHeld
  have HS3 : Hid (Below X.heap.size X W3) := hS3.2.2.2.2.2.2.2.2.2
  have j1 := HS.out W3.drew hS3.2.2.2.2.2.2.2.2.2.drew
  clear hS3 hHeld s72 s63 s73 j0 i2
  go_wp2
  obtain ⟨k0, k1, k2, k3, k4, k5, k6, k7, k8, k9⟩ := id j1
  have c78 : ∀ W : World, Calls Tryz.prog 136 #[.int .i64 l] W fun e_ W' => e_ = .returned (.int .u64 sl) ∧ W' = W := hc78
  clear s78 HS3 k0 k2 k3 k4 k6 k7 k9
  go_region_law (first | (go_simp; go_at_call 145; refine (s82 _ (by assumption)).mono ?_; rintro e_ W4 ⟨rfl, hS4⟩; obtain ⟨k10, k11, k12, k13, k14, k15, k16, k17, k18, k19⟩ := id hS4; clear k10 k12 k13 k14 k16 k17 k19) | (go_simp; go_at_call 136; refine (c78 _).mono ?_; rintro e_ W5 ⟨rfl, rfl⟩))
  all_goals
    go_end0
    exact ⟨⟨_, rfl⟩, _, HT.out _ hS4.2.2.2.2.2.2.2.2.2, by rw [HA.out, HL.out]⟩
end
end Go.Proofs.YtblmkkhiojbcjaaGreat
namespace Go.Proofs.YtblmkkhiojbcjaaGreat
open Go.RowKit Go.Shelf
attribute [local go_sem] Oper.semAt_some
set_option linter.unusedVariables false
set_option linter.unusedSimpArgs false
section
variable {w : World} {v : Value}
theorem no_nodes (h : Unm w v) (root : Int) : Calls Tryz.prog 59 #[v, .int .u64 root] w fun e w' => e = .returned (.slice .none 0 0) ∧ w' = w := by
  have c := no_isNode h root
  clear h
  refine (callsIn_wide (n := 3)).1 ?_
  refine callsIn_of_wp_marks Tryz.func59 rfl trivial ?_ rfl
  simp only [Tryz.ntmps59, List.size_toArray, List.length_cons, List.length_nil, Nat.reduceAdd, Nat.reduceSub, Array.replicate_succ, Array.replicate_zero, List.push_toArray, List.append_toArray, List.nil_append, List.cons_append]
  gi_wp2_with (first | (refine ⟨trivial, ?_⟩; gi_at_call 93; refine (callsIn_wide.2 c).mono ?_; rintro e w0 ⟨rfl, rfl⟩))
  exact ⟨.slice .none 0 0, by simp [results, Tryz.results59, go_sem], rfl, rfl⟩
theorem no_free (h : Unm w v) (root : Int) : Calls Tryz.prog 104 #[v, .int .u64 root] w fun e w' => e = .returned (.int .i64 3) ∧ Below w.heap.size w w' := by
  have c := no_isMade (h.alloc (.cells #[.int .i64 0] 29))
  clear h
  refine (callsIn_wide (n := 3)).1 ?_
  refine callsIn_of_wp_marks Tryz.func104 rfl trivial ?_ rfl
  simp only [Tryz.ntmps104, List.size_toArray, List.length_cons, List.length_nil, Nat.reduceAdd, Nat.reduceSub, Array.replicate_succ, Array.replicate_zero, List.push_toArray, List.append_toArray, List.nil_append, List.cons_append]
  gi_wp2_with (first | (refine ⟨trivial, ?_⟩; gi_at_call 111; refine (callsIn_wide.2 c).mono ?_; rintro e w0 ⟨rfl, rfl⟩))
  exact ⟨.int .i64 3, by simp [results, Tryz.results104, go_sem], rfl, below1 _ _⟩
end
end Go.Proofs.YtblmkkhiojbcjaaGreat
namespace Go.Proofs.YtblmkkhiojbcjaaGreat
open Go.RowKit Go.Shelf
set_option linter.unusedVariables false
set_option linter.unusedSimpArgs false
/-- Six cells that may be written. -/
structure C6 (W : World) (P : Nat) (x0 x1 x2 x3 x4 x5 : Value) : Prop where
  c0 : W.cell? ⟨P, 0, .none⟩ = some x0
  c1 : W.cell? ⟨P, 1, .none⟩ = some x1
  c2 : W.cell? ⟨P, 2, .none⟩ = some x2
  c3 : W.cell? ⟨P, 3, .none⟩ = some x3
  c4 : W.cell? ⟨P, 4, .none⟩ = some x4
  c5 : W.cell? ⟨P, 5, .none⟩ = some x5
  f0 : W.frozen? ⟨P, 0, .none⟩ = false
  f1 : W.frozen? ⟨P, 1, .none⟩ = false
  f2 : W.frozen? ⟨P, 2, .none⟩ = false
  f3 : W.frozen? ⟨P, 3, .none⟩ = false
  f4 : W.frozen? ⟨P, 4, .none⟩ = false
  f5 : W.frozen? ⟨P, 5, .none⟩ = false
theorem C6.below {W W' : World} {P : Nat} {x0 x1 x2 x3 x4 x5 : Value} (h : C6 W P x0 x1 x2 x3 x4 x5) (b : Below W.heap.size W W') : C6 W' P x0 x1 x2 x3 x4 x5 := by
  have hP : P < W.heap.size := lt_of_cell h.c0
  exact ⟨(b.cell hP).trans h.c0, (b.cell hP).trans h.c1, (b.cell hP).trans h.c2, (b.cell hP).trans h.c3, (b.cell hP).trans h.c4, (b.cell hP).trans h.c5, (b.frozen hP).trans h.f0, (b.frozen hP).trans h.f1, (b.frozen hP).trans h.f2, (b.frozen hP).trans h.f3, (b.frozen hP).trans h.f4, (b.frozen hP).trans h.f5⟩
theorem C6.new (w : World) (x0 x1 x2 x3 x4 x5 : Value) (t : TypeId) : C6 (w.alloc (.cells #[x0, x1, x2, x3, x4, x5] t)) w.heap.size x0 x1 x2 x3 x4 x5 :=
  ⟨by simp, by simp, by simp, by simp, by simp, by simp, World.frozen?_alloc_new _ _ _ _, World.frozen?_alloc_new _ _ _ _, World.frozen?_alloc_new _ _ _ _, World.frozen?_alloc_new _ _ _ _, World.frozen?_alloc_new _ _ _ _, World.frozen?_alloc_new _ _ _ _⟩
theorem C6.set {W : World} {P : Nat} {x0 x1 x2 x3 x4 x5 : Value} (h : C6 W P x0 x1 x2 x3 x4 x5) (y0 y1 y2 y3 y4 y5 : Value) : C6 ((((((W.setCell ⟨P, 0, .none⟩ y0).setCell ⟨P, 1, .none⟩ y1).setCell ⟨P, 2, .none⟩ y2).setCell ⟨P, 3, .none⟩ y3).setCell ⟨P, 4, .none⟩ y4).setCell ⟨P, 5, .none⟩ y5) P y0 y1 y2 y3 y4 y5 :=
  ⟨(World.cell?_setCell_other _ _ _ _ (by simp)).trans ((World.cell?_setCell_other _ _ _ _ (by simp)).trans ((World.cell?_setCell_other _ _ _ _ (by simp)).trans ((World.cell?_setCell_other _ _ _ _ (by simp)).trans ((World.cell?_setCell_other _ _ _ _ (by simp)).trans (World.cell?_setCell_same' _ _ _ (by rw [h.c0]; rfl)))))), (World.cell?_setCell_other _ _ _ _ (by simp)).trans ((World.cell?_setCell_other _ _ _ _ (by simp)).trans ((World.cell?_setCell_other _ _ _ _ (by simp)).trans ((World.cell?_setCell_other _ _ _ _ (by simp)).trans (World.cell?_setCell_same' _ _ _ (by rw [World.cell?_setCell_other _ _ _ _ (by simp), h.c1]; rfl))))), (World.cell?_setCell_other _ _ _ _ (by simp)).trans ((World.cell?_setCell_other _ _ _ _ (by simp)).trans ((World.cell?_setCell_other _ _ _ _ (by simp)).trans (World.cell?_setCell_same' _ _ _ (by rw [World.cell?_setCell_other _ _ _ _ (by simp), World.cell?_setCell_other _ _ _ _ (by simp), h.c2]; rfl)))), (World.cell?_setCell_other _ _ _ _ (by simp)).trans ((World.cell?_setCell_other _ _ _ _ (by simp)).trans (World.cell?_setCell_same' _ _ _ (by rw [World.cell?_setCell_other _ _ _ _ (by simp), World.cell?_setCell_other _ _ _ _ (by simp), World.cell?_setCell_other _ _ _ _ (by simp), h.c3]; rfl))), (World.cell?_setCell_other _ _ _ _ (by simp)).trans (World.cell?_setCell_same' _ _ _ (by rw [World.cell?_setCell_other _ _ _ _ (by simp), World.cell?_setCell_other _ _ _ _ (by simp), World.cell?_setCell_other _ _ _ _ (by simp), World.cell?_setCell_other _ _ _ _ (by simp), h.c4]; rfl)), World.cell?_setCell_same' _ _ _ (by rw [World.cell?_setCell_other _ _ _ _ (by simp), World.cell?_setCell_other _ _ _ _ (by simp), World.cell?_setCell_other _ _ _ _ (by simp), World.cell?_setCell_other _ _ _ _ (by simp), World.cell?_setCell_other _ _ _ _ (by simp), h.c5]; rfl),
    by rw [World.frozen?_setCell, World.frozen?_setCell, World.frozen?_setCell, World.frozen?_setCell, World.frozen?_setCell, World.frozen?_setCell]; exact h.f0, by rw [World.frozen?_setCell, World.frozen?_setCell, World.frozen?_setCell, World.frozen?_setCell, World.frozen?_setCell, World.frozen?_setCell]; exact h.f1, by rw [World.frozen?_setCell, World.frozen?_setCell, World.frozen?_setCell, World.frozen?_setCell, World.frozen?_setCell, World.frozen?_setCell]; exact h.f2, by rw [World.frozen?_setCell, World.frozen?_setCell, World.frozen?_setCell, World.frozen?_setCell, World.frozen?_setCell, World.frozen?_setCell]; exact h.f3, by rw [World.frozen?_setCell, World.frozen?_setCell, World.frozen?_setCell, World.frozen?_setCell, World.frozen?_setCell, World.frozen?_setCell]; exact h.f4, by rw [World.frozen?_setCell, World.frozen?_setCell, World.frozen?_setCell, World.frozen?_setCell, World.frozen?_setCell, World.frozen?_setCell]; exact h.f5⟩
theorem below6 {B : Nat} {w W : World} (h : Below B w W) {P : Nat} (hP : B ≤ P) (y0 y1 y2 y3 y4 y5 : Value) : Below B w ((((((W.setCell ⟨P, 0, .none⟩ y0).setCell ⟨P, 1, .none⟩ y1).setCell ⟨P, 2, .none⟩ y2).setCell ⟨P, 3, .none⟩ y3).setCell ⟨P, 4, .none⟩ y4).setCell ⟨P, 5, .none⟩ y5) :=
  (((((h.setCell (p := ⟨P, 0, .none⟩) hP _).setCell (p := ⟨P, 1, .none⟩) hP _).setCell (p := ⟨P, 2, .none⟩) hP _).setCell (p := ⟨P, 3, .none⟩) hP _).setCell (p := ⟨P, 4, .none⟩) hP _).setCell (p := ⟨P, 5, .none⟩) hP _
section
variable {w : World} {v : Value}
set_option maxHeartbeats 4000000 in
theorem no_each {T : Nat} {root : Int} {m : Value} (h : Unm w v) (f : Value) (t : Tour w T v root 0 m) : Calls Tryz.prog 121 #[.pointer (some ⟨T, 0, .none⟩), f] w fun e w' => (∃ u, e = .returned u) ∧ ∃ w1, Below w.heap.size w w1 ∧ Below w1.heap.size (w1.setCell ⟨T, 2, .none⟩ (.int .u64 549755813888)) w' := by
  have hT : T < w.heap.size := lt_of_cell t.c0
  have c78 := fun W => span_any 3 (by omega) W
  rw [spn3] at c78
  have k0 := t.c0
  have k1 := t.c1
  have k2 := t.c2
  go_enter Tryz.func121, Tryz.ntmps121
  go_wp2
  refine wp_loop_rounds 2 ?_
  rw [rounds_succ]
  go_wp2
  go_quiet (first | (go_at_call 136; exact Calls.quiet_of_same (c78 _)))
  go_wp2
  have hbw : Below w.heap.size w (w.drewN nq) := blw_drewN _ _ _
  have hz : (w.drewN nq).heap.size = w.heap.size := rfl
  have hu : ∀ W, Below w.heap.size w W → Unm W v := fun W hb => h.below hb
  have t0 := t.below hbw
  clear k0 k1 k2
  generalize w.drewN nq = W0 at *
  have k0 := t0.c0
  have k1 := t0.c1
  have k2 := t0.c2
  have hbq : Below w.heap.size w W0.drew := hbw.drew
  have c81 : Calls Tryz.prog 144 #[v, .int .u64 root, .int .u64 0, .pointer (some ⟨T, 0, .none⟩)] W0.drew fun e W1 => e = .returned (.agg #[.int .u64 0, .int .u64 0, .int .u64 0, .int .i64 2, .int .u64 0, .int .i64 4]) ∧ Hid (Below w.heap.size w W1) := by
    refine (no_walkT (hu _ hbq) root 0 _ (by omega)).mono ?_
    rintro e W1 ⟨he, hb⟩
    exact ⟨he, hbq.trans (hb.mono hbq.size)⟩
  have hbA : Below w.heap.size w (W0.drew.alloc (.cells #[.int .u64 0, .int .u64 0, .int .u64 0, .int .i64 0, .int .u64 0, .int .i64 0] 131)) := hbq.alloc (B := w.heap.size) (by show _ ≤ W0.heap.size; omega) _
  have c81a : Calls Tryz.prog 144 #[v, .int .u64 root, .int .u64 0, .pointer (some ⟨T, 0, .none⟩)] (W0.drew.alloc (.cells #[.int .u64 0, .int .u64 0, .int .u64 0, .int .i64 0, .int .u64 0, .int .i64 0] 131)) fun e W1 => e = .returned (.agg #[.int .u64 0, .int .u64 0, .int .u64 0, .int .i64 2, .int .u64 0, .int .i64 4]) ∧ Hid (Below w.heap.size w W1) ∧ C6 W1 W0.heap.size (.int .u64 0) (.int .u64 0) (.int .u64 0) (.int .i64 0) (.int .u64 0) (.int .i64 0) := by
    refine (no_walkT (hu _ hbA) root 0 _ (by omega)).mono ?_
    rintro e W1 ⟨he, hb⟩
    exact ⟨he, hbA.trans (hb.mono hbA.size), (C6.new W0.drew _ _ _ _ _ _ 131).below hb⟩
  have k0a := (t.below hbA).c0
  have k1a := (t.below hbA).c1
  have k2a := (t.below hbA).c2
  have HZ : Hid (W0.heap.size = w.heap.size) := hz
  have hT0 : T < W0.heap.size := by omega
  have hT1 : ¬ T = W0.heap.size := by omega
  clear hbA hbq hz hbw t0
  go_cut [4] (fun s4 W => ∃ P, s4 = .pointer (some ⟨P, 0, .none⟩) ∧ w.heap.size ≤ P ∧ C6 W P (.int .u64 0) (.int .u64 0) (.int .u64 0) (.int .i64 2) (.int .u64 0) (.int .i64 4) ∧ Below w.heap.size w W)
  case first =>
    refine wp_region_noPanic ?_
    go_region_law (first | (go_simp; go_at_call 144; refine c81a.mono ?_; rintro e W1 ⟨rfl, hB1, C1⟩; obtain ⟨z0, z1, z2, z3, z4, z5, y0, y1, y2, y3, y4, y5⟩ := C1) | (go_simp; go_at_call 144; refine c81.mono ?_; rintro e W1 ⟨rfl, hB1⟩))
    all_goals (refine NoPanic.normal ?_)
    all_goals go_wp2
    all_goals go_meet
    all_goals first
      | exact ⟨_, rfl, hB1.out.size, C6.new W1 _ _ _ _ _ _ 131, hB1.out.alloc (B := w.heap.size) hB1.out.size _⟩
      | exact ⟨_, rfl, Nat.le_of_eq HZ.out.symm, C6.set ⟨z0, z1, z2, z3, z4, z5, y0, y1, y2, y3, y4, y5⟩ _ _ _ _ _ _, below6 hB1.out (Nat.le_of_eq HZ.out.symm) _ _ _ _ _ _⟩
  case rest =>
    obtain ⟨P, rfl, hP, C, hb⟩ := hcut
    clear c81 c81a k0a k1a k2a k0 k1 k2 hT0 hT1
    have tc := t.below hb
    have hcl : w.heap.size ≤ wc.heap.size := hb.size
    have c82 := branch_any T 0 2 (by omega) (by omega) tc.c2
    have HC : Hid (C6 wc P (.int .u64 0) (.int .u64 0) (.int .u64 0) (.int .i64 2) (.int .u64 0) (.int .i64 4)) := C
    obtain ⟨z0, z1, z2, z3, z4, z5, y0, y1, y2, y3, y4, y5⟩ := C
    go_upto_region 4 with (first | (go_at_call 145; refine c82.mono ?_; rintro e W2 ⟨rfl, hb2⟩))
    have hb3 : Below w.heap.size w (W2.alloc (.cells #[.int .u64 0, .int .i64 2] 126)) := (hb.trans (hb2.mono hcl)).alloc (B := w.heap.size) (Nat.le_trans hcl hb2.size) _
    have C3 := HC.out.below (hb2.trans ((below1 W2 (.cells #[.int .u64 0, .int .i64 2] 126)).mono hb2.size))
    clear z0 z1 z2 z3 z4 z5 y0 y1 y2 y3 y4 y5 c82 tc
    generalize W2.alloc (.cells #[.int .u64 0, .int .i64 2] 126) = W3 at *
    have HB3 : Hid (Below w.heap.size w W3) := hb3
    have HC3 : Hid (C6 W3 P (.int .u64 0) (.int .u64 0) (.int .u64 0) (.int .i64 2) (.int .u64 0) (.int .i64 4)) := C3
    obtain ⟨z0, z1, z2, z3, z4, z5, y0, y1, y2, y3, y4, y5⟩ := C3
    clear hb2 hb hb3
    go_upto_region 6 with fail
    go_quiet (fail)
    have hb4 : Below w.heap.size w (W3.drewN nq) := HB3.out.trans (blw_drewN _ _ _)
    have t4 := t.below hb4
    have c84 := pass_any t4 0 0 0 2 0 4 0 512 (by omega) (by omega) (by omega) (by omega) (fun W' hW => by
      refine (no_firstTaken (hu _ (hb4.trans (hW.mono hb4.size))) _ _ (by have := ix_b 0 2; omega)).mono ?_
      rintro e W ⟨he, rfl⟩
      exact ⟨he, Below.refl _ _⟩)
    rw [show (0 : Int) - 0 % spn (2 + 1) + 512 * spn 2 = 549755813888 from rfl] at c84
    simp only [pth] at c84
    have HB4 : Hid (Below w.heap.size w (W3.drewN nq)) := hb4
    have C4 := HC3.out.below (blw_drewN _ W3 nq)
    clear hb4 t4 z0 z1 z2 z3 z4 z5 y0 y1 y2 y3 y4 y5
    generalize W3.drewN nq = W4 at *
    obtain ⟨z0, z1, z2, z3, z4, z5, y0, y1, y2, y3, y4, y5⟩ := C4
    go_wp2_with (first | (go_at_call 147; refine c84.mono ?_; rintro e W5 ⟨⟨u, rfl⟩, W6, hb6, rfl⟩))
    have hb7 : Below w.heap.size w W6 := HB4.out.trans (hb6.mono HB4.out.size)
    have k2 := ((t.below hb7).set 549755813888).c2
    have HB7 : Hid (Below w.heap.size w W6) := hb7
    have hs : (W6.setCell ⟨T, 2, .none⟩ (.int .u64 549755813888)).heap.size = W6.heap.size := by simp
    have HS : Hid ((W6.setCell ⟨T, 2, .none⟩ (.int .u64 549755813888)).heap.size = W6.heap.size) := hs
    clear hb6 hb7 hs z0 z1 z2 z3 z4 z5 y0 y1 y2 y3 y4 y5
    generalize hW7 : W6.setCell ⟨T, 2, .none⟩ (.int .u64 549755813888) = W7 at *
    have HW7 : Hid (_ = W7) := hW7
    clear hW7
    rw [rounds_succ]
    go_wp2
    go_quiet (first | (go_at_call 136; exact Calls.quiet_of_same (c78 _)))
    go_wp2
    go_end0
    refine ⟨⟨_, rfl⟩, W6, HB7.out, ?_⟩
    rw [HW7.out]
    exact blw_drewN _ _ _
end
end Go.Proofs.YtblmkkhiojbcjaaGreat
