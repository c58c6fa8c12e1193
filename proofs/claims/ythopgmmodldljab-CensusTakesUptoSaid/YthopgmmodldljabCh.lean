import Derived.Test.YthopgmmodldljabCka
import Derived.Test.YthopgmmodldljabBb
import Derived.Deep.DeepCutAuto
namespace Go.Proofs.Ythopgmmodldljab
open Go Go.RowKit
set_option linter.unusedVariables false
set_option linter.unusedSimpArgs false
set_option maxHeartbeats 1000000 in
theorem sameBytes_eq {w : World} {X Y : Nat} {u v : Value} {l : List Int} (h1 : Sl w X 1 (qI .u8) u l) (h2 : Sl w Y 1 (qI .u8) v l) (hn : l.length ≤ 10000000) : Calls Try.prog 39 #[u, v] w fun e w' => e = .returned (.bool true) ∧ Below w.heap.size w w' := by
 obtain ⟨p1, c1, rfl⟩ := h1.form
 obtain ⟨p2, c2, rfl⟩ := h2.form
 obtain ⟨n, hnl⟩ : ∃ n, n = l.length := ⟨_, rfl⟩
 rw [← hnl] at h1 h2 hn ⊢
 have H1 : Hid (Sl w X 1 (qI .u8) (.slice p1 n c1) l) := h1
 have H2 : Hid (Sl w Y 1 (qI .u8) (.slice p2 n c2) l) := h2
 clear h1 h2 hnl
 go_enter Try.func39, Try.ntmps39
 go_wp2
 go_loopw [5] (fun k wr => ∃ i : Nat, i ≤ n ∧ k = .int .i64 i ∧ ∃ j, wr = w.drewN j) (fun k _ => (n - intOf k).toNat)
 case atStart => exact ⟨0, by omega, rfl, 0, rfl⟩
 case round =>
  obtain ⟨i, hi, rfl, j, rfl⟩ := hrel
  by_cases hlt : i < n
  ·have g0 : (i : Int) < n := by omega
   obtain ⟨-, b1, o1, x, cs, rfl, _, hx, rfl, _, hr1⟩ := H1.out.at hlt
   obtain ⟨-, b2, o2, x2, cs2, rfl, _, hx2, rfl, _, hr2⟩ := H2.out.at hlt
   rw [hx] at hx2
   injection hx2 with hx2
   subst hx2
   have a0 := hr1 0 _ rfl
   have b0 := hr2 0 _ rfl
   rw [Nat.mul_one, Nat.add_zero] at a0 b0
   clear hx hr1 hr2
   go_wp2
   go_region
   go_wp2
   exact ⟨⟨i + 1, by omega, rfl, j + 1, rfl⟩, by simp only [intOf]; omega⟩
  ·obtain rfl : i = n := by omega
   have g0 : ¬ (i : Int) < i := by omega
   clear hi hlt
   go_wp2
   go_ret
   exact ⟨rfl, below_drewN _ _ _⟩
set_option maxHeartbeats 1000000 in
theorem sameInode_eq (x : In) (p1 p2 : Option Addr) (n c1 c2 : Nat) (w : World) : Calls Try.prog 41 #[.agg (x.l (.slice p1 n c1)).toArray, .agg (x.l (.slice p2 n c2)).toArray] w fun e w' => e = .returned (.bool true) ∧ Below w.heap.size w w' := by
 obtain ⟨x0, x1, x2, x3, x4, x5, x6, x7⟩ := x
 go_enter Try.func41, Try.ntmps41
 go_wp2_with (first
  | (refine wpList_is (.box 63 (.tmp 0)) rfl ?_; refine wpList_boxG 63 [.int .i64 x0, .int .i64 x1, .int .i16 x2, .int .i16 x3, .int .i64 x4, .int .i64 x5, .int .i64 x6, .slice p1 n c1] 2 (.tmp 0) _ rfl rfl rfl rfl ?_; intro W1 hW1 hB1 hs1)
  | (refine wpList_is (.box 63 (.tmp 1)) rfl ?_; refine wpList_boxG 63 [.int .i64 x0, .int .i64 x1, .int .i16 x2, .int .i16 x3, .int .i64 x4, .int .i64 x5, .int .i64 x6, .slice p2 n c2] 3 (.tmp 1) _ rfl rfl rfl rfl ?_; intro W2 hW2 hB2 hs2; rw [hs1] at hW2; have hW3 := (hB2.block _ (by omega)).trans hW1; have d0 := cell_heap (o := 0) hW3; have d1 := cell_heap (o := 1) hW3; have d2 := cell_heap (o := 2) hW3; have d3 := cell_heap (o := 3) hW3; have d4 := cell_heap (o := 4) hW3; have d5 := cell_heap (o := 5) hW3; have d6 := cell_heap (o := 6) hW3; have d7 := cell_heap (o := 7) hW3; have f0 := cell_heap (o := 0) hW2; have f1 := cell_heap (o := 1) hW2; have f2 := cell_heap (o := 2) hW2; have f3 := cell_heap (o := 3) hW2; have f4 := cell_heap (o := 4) hW2; have f5 := cell_heap (o := 5) hW2; have f6 := cell_heap (o := 6) hW2; have f7 := cell_heap (o := 7) hW2)
  | fail)
 go_ret
 exact ⟨rfl, hB1.trans (hB2.mono (by omega))⟩
end Go.Proofs.Ythopgmmodldljab
namespace Go.Proofs.Ythopgmmodldljab
open Go Go.RowKit
set_option linter.unusedVariables false
set_option linter.unusedSimpArgs false
set_option maxHeartbeats 1000000 in
theorem samePipe_eq (x : Pp) (X Y : Nat) (p1 p2 : Option Addr) (n c1 c2 : Nat) (w : World) (h1 : Bt w X (.slice p1 n c1) x.bs) (h2 : Bt w Y (.slice p2 n c2) x.bs) (hX : X ≤ w.heap.size) (hY : Y ≤ w.heap.size) (hn : x.bs.length ≤ 10000000) : Calls Try.prog 42 #[.agg (x.l (.slice p1 n c1)).toArray, .agg (x.l (.slice p2 n c2)).toArray] w fun e w' => e = .returned (.bool true) ∧ Below w.heap.size w w' := by
 obtain ⟨x0, bs, x2, x3, x4, x5⟩ := x
 have H1 : Hid (Bt w X (.slice p1 n c1) bs ∧ Bt w Y (.slice p2 n c2) bs ∧ bs.length ≤ 10000000) := ⟨h1, h2, hn⟩
 clear h1 h2 hn
 go_enter Try.func42, Try.ntmps42
 go_wp2_with (first
  | (refine wpList_is (.box 72 (.tmp 0)) rfl ?_; refine wpList_boxG 72 [.int .i64 x0, .slice p1 n c1, .int .u32 x2, .int .u32 x3, .bool x4, .bool x5] 2 (.tmp 0) _ rfl rfl rfl rfl ?_; intro W1 hW1 hB1 hs1)
  | (refine wpList_is (.box 72 (.tmp 1)) rfl ?_; refine wpList_boxG 72 [.int .i64 x0, .slice p2 n c2, .int .u32 x2, .int .u32 x3, .bool x4, .bool x5] 3 (.tmp 1) _ rfl rfl rfl rfl ?_; intro W2 hW2 hB2 hs2; rw [hs1] at hW2 hs2; have hW3 := (hB2.block _ (by omega)).trans hW1; have d0 := cell_heap (o := 0) hW3; have d1 := cell_heap (o := 1) hW3; have d2 := cell_heap (o := 2) hW3; have d3 := cell_heap (o := 3) hW3; have d4 := cell_heap (o := 4) hW3; have d5 := cell_heap (o := 5) hW3; have f0 := cell_heap (o := 0) hW2; have f1 := cell_heap (o := 1) hW2; have f2 := cell_heap (o := 2) hW2; have f3 := cell_heap (o := 3) hW2; have f4 := cell_heap (o := 4) hW2; have f5 := cell_heap (o := 5) hW2)
  | fail)
 obtain ⟨W4, hW4⟩ : ∃ W4, W4 = (W2.alloc (.cells #[.slice p1 n c1, .int .u32 x2, .int .u32 x3, .bool x4, .bool x5] 70)).alloc (.cells #[.slice p2 n c2, .int .u32 x2, .int .u32 x3, .bool x4, .bool x5] 70) := ⟨_, rfl⟩
 have b4 : Below w.heap.size w W4 := by rw [hW4]; exact (((hB1.trans (hB2.mono (by omega))).alloc (by omega) _).alloc (by simp; omega) _)
 have s4 : W4.heap.size = w.heap.size + 4 := by rw [hW4]; simp; omega
 have k1 : W4.heap[w.heap.size + 1 + 1]? = some (.cells #[.slice p1 n c1, .int .u32 x2, .int .u32 x3, .bool x4, .bool x5] 70) := by
  rw [hW4, Below.heap_alloc _ _ _ (by simp; omega), ← hs2]; show (W2.heap.push _)[W2.heap.size]? = _; simp
 have k2 : W4.heap[w.heap.size + 1 + 1 + 1]? = some (.cells #[.slice p2 n c2, .int .u32 x2, .int .u32 x3, .bool x4, .bool x5] 70) := by
  rw [hW4, ← hs2]; show ((W2.heap.push _).push _)[W2.heap.size + 1]? = _; rw [Array.getElem?_push, if_pos (by simp)]
 rw [← hW4]
 refine (sameBytes_eq (Sl.mono H1.out.1 (X' := X) (by omega) (b4.mono (by omega)) (fun _ _ _ q => q)) (Sl.mono H1.out.2.1 (X' := Y) (by omega) (b4.mono (by omega)) (fun _ _ _ q => q)) H1.out.2.2).mono ?_
 rintro e W5 ⟨rfl, hB5⟩
 have hk1 := (hB5.block _ (by omega)).trans k1
 have hk2 := (hB5.block _ (by omega)).trans k2
 have d6 := cell_heap (o := 1) hk1; have d7 := cell_heap (o := 2) hk1; have d8 := cell_heap (o := 3) hk1; have d9 := cell_heap (o := 4) hk1
 have f6 := cell_heap (o := 1) hk2; have f7 := cell_heap (o := 2) hk2; have f8 := cell_heap (o := 3) hk2; have f9 := cell_heap (o := 4) hk2
 go_wp2
 go_ret
 exact ⟨rfl, b4.trans (hB5.mono (by omega))⟩
end Go.Proofs.Ythopgmmodldljab
namespace Go.Proofs.Ythopgmmodldljab
open Go Go.RowKit
set_option linter.unusedVariables false
set_option linter.unusedSimpArgs false
def chL (c : Nat → Int) : List Value := [.int .i64 (c 4), .int .i64 (c 5)]
def chB (c c1 : Nat → Int) : Bool := ((c 4 == c1 4) && ((c 5 == c1 5) && true))
def rgB (c c1 : Nat → Int) : Bool := (((List.range 32).all fun i => c (8 + i) == c1 (8 + i)) && ((c 40 == c1 40) && true))
def fdB (c c1 : Nat → Int) : Bool := (List.range 16).all fun i => c (46 + i) == c1 (46 + i)
def peB (c c1 : Nat → Int) : Bool := ((c 64 == c1 64) && (((List.range 3).all fun i => c (65 + i) == c1 (65 + i)) && ((c 68 == c1 68) && ((c 69 == c1 69) && true))))
/-- A process's first part, its second part: the same but for frames? -/
def pcB1 (p q : Pc) : Bool := (p.c 0 == q.c 0) && (p.c 1 == q.c 1) && (p.c 2 == q.c 2) && (p.c 3 == q.c 3) && chB p.c q.c && (p.kil == q.kil) && (p.c 7 == q.c 7) && rgB p.c q.c && (p.c 41 == q.c 41)
def pcB2 (p q : Pc) : Bool := fdB p.c q.c && (p.c 62 == q.c 62) && (p.inC == q.inC) && peB p.c q.c && ((p.nodes.length : Int) == q.nodes.length) && ((p.pages.length : Int) == q.pages.length)
def pgB (x y : Pg) : Bool := x.no == y.no && x.pm == y.pm
def pcB (p q : Pc) : Bool := pcB1 p q && pcB2 p q && (List.range p.pages.length).all fun i => pgB (p.pages.getD i ⟨0, 0, 0⟩) (q.pages.getD i ⟨0, 0, 0⟩)
theorem chB_self (c : Nat → Int) : chB c c = true := by simp [chB]
theorem rgB_self (c : Nat → Int) : rgB c c = true := by simp [rgB]
theorem fdB_self (c : Nat → Int) : fdB c c = true := by simp [fdB]
theorem peB_self (c : Nat → Int) : peB c c = true := by simp [peB]
set_option maxRecDepth 100000 in
set_option maxHeartbeats 800000 in
theorem sameProc_eq {w : World} {X Y : Nat} (hX : X ≤ w.heap.size) (hY : Y ≤ w.heap.size) (p : Pc) (np1 gp1 np2 gp2 : Option Addr) (n nc1 g gc1 nc2 gc2 : Nat) (hb : p.pages.length ≤ 10000000) (hG1 : Gs w X (.slice gp1 g gc1) p.pages) (hG2 : Gs w Y (.slice gp2 g gc2) p.pages) : Calls Try.prog 40 #[.agg (p.l (.slice np1 n nc1) (.slice gp1 g gc1)).toArray, .agg (p.l (.slice np2 n nc2) (.slice gp2 g gc2)).toArray] w fun e w' => e = .returned (.bool true) ∧ Below w.heap.size w w' := by
 have HG : Hid (Gs w X (.slice gp1 g gc1) p.pages ∧ Gs w Y (.slice gp2 g gc2) p.pages) := ⟨hG1, hG2⟩
 have hg : g ≤ 10000000 := by obtain ⟨_, _, e⟩ := hG1.form; injection e; omega
 clear hG1 hG2 hb
 have g45 : ∀ op x y xs ys (w : World), (eqGuard op 50 x y (.agg xs) (.agg ys)).run Try.prog w = .ok () w := fun op x y xs ys w => run_eqGuard_agg w op 50 x y xs ys (by kernel_rfl)
 have g48 : ∀ op x y xs ys (w : World), (eqGuard op 53 x y (.agg xs) (.agg ys)).run Try.prog w = .ok () w := fun op x y xs ys w => run_eqGuard_agg w op 53 x y xs ys (by kernel_rfl)
 have g50 : ∀ op x y xs ys (w : World), (eqGuard op 55 x y (.agg xs) (.agg ys)).run Try.prog w = .ok () w := fun op x y xs ys w => run_eqGuard_agg w op 55 x y xs ys (by kernel_rfl)
 have g53 : ∀ op x y xs ys (w : World), (eqGuard op 58 x y (.agg xs) (.agg ys)).run Try.prog w = .ok () w := fun op x y xs ys w => run_eqGuard_agg w op 58 x y xs ys (by kernel_rfl)
 have q45 : ∀ w : World, (binOp .neq 50 (.agg (chL p.c).toArray) (.agg (chL p.c).toArray)).run Try.prog w = .ok (.bool false) w := fun w => by rw [show false = !chB p.c p.c by rw [chB_self]; rfl]; exact eqv_neq (eq_chan 9997 _ _ _ _) w
 have q48 : ∀ w : World, (binOp .neq 53 (.agg (regL p.c).toArray) (.agg (regL p.c).toArray)).run Try.prog w = .ok (.bool false) w := fun w => by rw [show false = !rgB p.c p.c by rw [rgB_self]; rfl]; exact eqv_neq (eq_regs 9997 _ _) w
 have q50 : ∀ w : World, (binOp .neq 55 (.agg (fdL p.c).toArray) (.agg (fdL p.c).toArray)).run Try.prog w = .ok (.bool false) w := fun w => by rw [show false = !fdB p.c p.c by rw [fdB_self]; rfl]; exact eqv_neq (eq_fds 9998 _ _) w
 have q53 : ∀ w : World, (binOp .neq 58 (.agg (penL p.c).toArray) (.agg (penL p.c).toArray)).run Try.prog w = .ok (.bool false) w := fun w => by rw [show false = !peB p.c p.c by rw [peB_self]; rfl]; exact eqv_neq (eq_pend 9997 _ _) w
 obtain ⟨z, hz⟩ : ∃ z, z = w.heap.size := ⟨_, rfl⟩
 obtain ⟨W2, hW2, z1, hz1, k1, k2, hB2⟩ : ∃ W2, W2 = (w.alloc (.cells (p.l (.slice np1 n nc1) (.slice gp1 g gc1)).toArray 60)).alloc (.cells (p.l (.slice np2 n nc2) (.slice gp2 g gc2)).toArray 60) ∧ ∃ z1, z1 = z + 1 ∧ W2.heap[z]? = some (.cells (p.l (.slice np1 n nc1) (.slice gp1 g gc1)).toArray 60 (0, 0)) ∧ W2.heap[z1]? = some (.cells (p.l (.slice np2 n nc2) (.slice gp2 g gc2)).toArray 60 (0, 0)) ∧ Below z w W2 := by
  refine ⟨_, rfl, z + 1, rfl, ?_, ?_, ?_⟩
  ·rw [hz]
   show ((w.heap.push _).push _)[w.heap.size]? = _
   rw [Array.getElem?_push, if_neg (by simp)]
   simp
  ·rw [hz]
   show ((w.heap.push _).push _)[w.heap.size + 1]? = _
   rw [Array.getElem?_push, if_pos (by simp)]
  ·rw [hz]
   exact ((Below.refl _ _).alloc (Nat.le_refl _) _).alloc (by simp) _
 have HW : Hid (W2 = (w.alloc (.cells (p.l (.slice np1 n nc1) (.slice gp1 g gc1)).toArray 60)).alloc (.cells (p.l (.slice np2 n nc2) (.slice gp2 g gc2)).toArray 60) ∧ z1 = z + 1 ∧ z = w.heap.size ∧ Below z w W2) := ⟨hW2, hz1, hz, hB2⟩
 have hrp := range_heap k1
 have hrq := range_heap k2
 have rp4 : W2.rangeAt z 4 (chL p.c) := by have := range_sub (k := 4) hrp (sub_of (s := chL p.c) rfl); simpa using this
 have rq4 : W2.rangeAt z1 4 (chL p.c) := by have := range_sub (k := 4) hrq (sub_of (s := chL p.c) rfl); simpa using this
 have rp8 : W2.rangeAt z 8 (regL p.c) := by have := range_sub (k := 8) hrp (sub_of (s := regL p.c) rfl); simpa using this
 have rq8 : W2.rangeAt z1 8 (regL p.c) := by have := range_sub (k := 8) hrq (sub_of (s := regL p.c) rfl); simpa using this
 have rp46 : W2.rangeAt z 46 (fdL p.c) := by have := range_sub (k := 46) hrp (sub_of (s := fdL p.c) rfl); simpa using this
 have rq46 : W2.rangeAt z1 46 (fdL p.c) := by have := range_sub (k := 46) hrq (sub_of (s := fdL p.c) rfl); simpa using this
 have rp64 : W2.rangeAt z 64 (penL p.c) := by have := range_sub (k := 64) hrp (sub_of (s := penL p.c) rfl); simpa using this
 have rq64 : W2.rangeAt z1 64 (penL p.c) := by have := range_sub (k := 64) hrq (sub_of (s := penL p.c) rfl); simpa using this
 have cp0 : W2.cell? ⟨z, 0, .none⟩ = some (.int .i64 (p.c 0)) := by have := hrp 0 _ rfl; rw [Nat.zero_add] at this; exact this
 have cq0 : W2.cell? ⟨z1, 0, .none⟩ = some (.int .i64 (p.c 0)) := by have := hrq 0 _ rfl; rw [Nat.zero_add] at this; exact this
 have cp1 : W2.cell? ⟨z, 1, .none⟩ = some (.int .i64 (p.c 1)) := by have := hrp 1 _ rfl; rw [Nat.zero_add] at this; exact this
 have cq1 : W2.cell? ⟨z1, 1, .none⟩ = some (.int .i64 (p.c 1)) := by have := hrq 1 _ rfl; rw [Nat.zero_add] at this; exact this
 have cp2 : W2.cell? ⟨z, 2, .none⟩ = some (.int .i64 (p.c 2)) := by have := hrp 2 _ rfl; rw [Nat.zero_add] at this; exact this
 have cq2 : W2.cell? ⟨z1, 2, .none⟩ = some (.int .i64 (p.c 2)) := by have := hrq 2 _ rfl; rw [Nat.zero_add] at this; exact this
 have cp3 : W2.cell? ⟨z, 3, .none⟩ = some (.int .i64 (p.c 3)) := by have := hrp 3 _ rfl; rw [Nat.zero_add] at this; exact this
 have cq3 : W2.cell? ⟨z1, 3, .none⟩ = some (.int .i64 (p.c 3)) := by have := hrq 3 _ rfl; rw [Nat.zero_add] at this; exact this
 have cp6 : W2.cell? ⟨z, 6, .none⟩ = some (.bool p.kil) := by have := hrp 6 _ rfl; rw [Nat.zero_add] at this; exact this
 have cq6 : W2.cell? ⟨z1, 6, .none⟩ = some (.bool p.kil) := by have := hrq 6 _ rfl; rw [Nat.zero_add] at this; exact this
 have cp7 : W2.cell? ⟨z, 7, .none⟩ = some (.int .i32 (p.c 7)) := by have := hrp 7 _ rfl; rw [Nat.zero_add] at this; exact this
 have cq7 : W2.cell? ⟨z1, 7, .none⟩ = some (.int .i32 (p.c 7)) := by have := hrq 7 _ rfl; rw [Nat.zero_add] at this; exact this
 have cp41 : W2.cell? ⟨z, 41, .none⟩ = some (.int .u64 (p.c 41)) := by have := hrp 41 _ rfl; rw [Nat.zero_add] at this; exact this
 have cq41 : W2.cell? ⟨z1, 41, .none⟩ = some (.int .u64 (p.c 41)) := by have := hrq 41 _ rfl; rw [Nat.zero_add] at this; exact this
 have cp44 : W2.cell? ⟨z, 44, .none⟩ = some (.slice np1 n nc1) := by have := hrp 44 _ rfl; rw [Nat.zero_add] at this; exact this
 have cq44 : W2.cell? ⟨z1, 44, .none⟩ = some (.slice np2 n nc2) := by have := hrq 44 _ rfl; rw [Nat.zero_add] at this; exact this
 have cp45 : W2.cell? ⟨z, 45, .none⟩ = some (.slice gp1 g gc1) := by have := hrp 45 _ rfl; rw [Nat.zero_add] at this; exact this
 have cq45 : W2.cell? ⟨z1, 45, .none⟩ = some (.slice gp2 g gc2) := by have := hrq 45 _ rfl; rw [Nat.zero_add] at this; exact this
 have cp62 : W2.cell? ⟨z, 62, .none⟩ = some (.int .i64 (p.c 62)) := by have := hrp 62 _ rfl; rw [Nat.zero_add] at this; exact this
 have cq62 : W2.cell? ⟨z1, 62, .none⟩ = some (.int .i64 (p.c 62)) := by have := hrq 62 _ rfl; rw [Nat.zero_add] at this; exact this
 have cp63 : W2.cell? ⟨z, 63, .none⟩ = some (.bool p.inC) := by have := hrp 63 _ rfl; rw [Nat.zero_add] at this; exact this
 have cq63 : W2.cell? ⟨z1, 63, .none⟩ = some (.bool p.inC) := by have := hrq 63 _ rfl; rw [Nat.zero_add] at this; exact this
 have HRR : Hid (W2.rangeAt z 0 (p.l (.slice np1 n nc1) (.slice gp1 g gc1)) ∧ W2.rangeAt z1 0 (p.l (.slice np2 n nc2) (.slice gp2 g gc2))) := ⟨hrp, hrq⟩
 clear hrp hrq k1 k2 hB2
 have HGW : Hid (Gs W2 X (.slice gp1 g gc1) p.pages ∧ Gs W2 Y (.slice gp2 g gc2) p.pages) := by
  have hb := HW.out.2.2.2
  have hzz := HW.out.2.2.1
  exact ⟨Sl.mono HG.out.1 (Nat.le_refl _) (hb.mono (by omega)) (fun _ _ _ q => q), Sl.mono HG.out.2 (Nat.le_refl _) (hb.mono (by omega)) (fun _ _ _ q => q)⟩
 have HWB : Hid (Below w.heap.size w W2) := by
  have hb := HW.out.2.2.2
  rw [HW.out.2.2.1] at hb
  exact hb
 go_enter Try.func40, Try.ntmps40
 go_upto_region 1 with (first
  | (refine wpList_is (.box 60 (.tmp 0)) rfl ?_; refine Great.wpList_boxTo rfl 60 (.tmp 0) rfl (some 2) rfl z hz.symm (p.l (.slice np1 n nc1) (.slice gp1 g gc1)).toArray rfl ?_)
  | (refine wpList_is (.box 60 (.tmp 1)) rfl ?_; refine Great.wpList_boxTo rfl 60 (.tmp 1) rfl (some 3) rfl z1 (by rw [hz1, hz]; simp) (p.l (.slice np2 n nc2) (.slice gp2 g gc2)).toArray rfl ?_; rw [← hW2]; clear hW2 hz hz1)
  | fail)
 go_cut [66] (fun s wc => s = .bool false ∧ wc = W2)
 case first =>
  go_wp2_with (first
    | (refine wpList_is (.load 50 (.tmp 33)) rfl ?_; refine wpList_loadW 50 _ Try.underlying50 rfl (chL p.c) (by kernel_rfl) z 4 (.tmp 33) rfl rfl rfl rp4 (some 34) rfl ?_)
    | (refine wpList_is (.load 50 (.tmp 35)) rfl ?_; refine wpList_loadW 50 _ Try.underlying50 rfl (chL p.c) (by kernel_rfl) z1 4 (.tmp 35) rfl rfl rfl rq4 (some 36) rfl ?_)
    | (refine wpList_is (.load 53 (.tmp 54)) rfl ?_; refine wpList_loadW 53 _ Try.underlying53 rfl (regL p.c) (by kernel_rfl) z 8 (.tmp 54) rfl rfl rfl rp8 (some 55) rfl ?_)
    | (refine wpList_is (.load 53 (.tmp 56)) rfl ?_; refine wpList_loadW 53 _ Try.underlying53 rfl (regL p.c) (by kernel_rfl) z1 8 (.tmp 56) rfl rfl rfl rq8 (some 57) rfl ?_)
    | fail)
  go_meet
  case rel => exact ⟨rfl, rfl⟩
 case rest =>
  obtain ⟨rfl, hwc⟩ := hcut
  rw [hwc]
  clear hwc
  go_wp2_with (first
    | (refine wpList_is (.load 55 (.tmp 67)) rfl ?_; refine wpList_loadW 55 _ Try.underlying55 rfl (fdL p.c) (by kernel_rfl) z 46 (.tmp 67) rfl rfl rfl rp46 (some 68) rfl ?_)
    | (refine wpList_is (.load 55 (.tmp 69)) rfl ?_; refine wpList_loadW 55 _ Try.underlying55 rfl (fdL p.c) (by kernel_rfl) z1 46 (.tmp 69) rfl rfl rfl rq46 (some 70) rfl ?_)
    | (refine wpList_is (.load 58 (.tmp 87)) rfl ?_; refine wpList_loadW 58 _ Try.underlying58 rfl (penL p.c) (by kernel_rfl) z 64 (.tmp 87) rfl rfl rfl rp64 (some 88) rfl ?_)
    | (refine wpList_is (.load 58 (.tmp 89)) rfl ?_; refine wpList_loadW 58 _ Try.underlying58 rfl (penL p.c) (by kernel_rfl) z1 64 (.tmp 89) rfl rfl rfl rq64 (some 90) rfl ?_)
    | fail)
  go_loopw [5] (fun k wr => ∃ i : Nat, i ≤ g ∧ k = .int .i64 i ∧ ∃ j, wr = W2.drewN j) (fun k _ => (g - intOf k).toNat)
  case atStart => exact ⟨0, by omega, rfl, 0, rfl⟩
  case round =>
   obtain ⟨i, hi, rfl, j, rfl⟩ := hrel
   by_cases hlt : i < g
   ·have g0 : (i : Int) < g := by omega
    obtain ⟨-, b1, o1, x, cs, rfl, _, hx, rfl, _, hr1⟩ := HGW.out.1.at hlt
    obtain ⟨-, b2, o2, x2, cs2, rfl, _, hx2, rfl, _, hr2⟩ := HGW.out.2.at hlt
    rw [hx] at hx2
    injection hx2 with hx2
    subst hx2
    have a0 := hr1 0 _ rfl
    have a2 := hr1 2 _ rfl
    have b0 := hr2 0 _ rfl
    have b2' := hr2 2 _ rfl
    rw [Nat.add_zero] at a0 b0
    clear hx hr1 hr2
    go_wp2
    go_region
    go_wp2
    exact ⟨⟨i + 1, by omega, rfl, j + 1, rfl⟩, by simp only [intOf]; omega⟩
   ·obtain rfl : i = g := by omega
    have g0 : ¬ (i : Int) < i := by omega
    clear hi hlt
    go_wp2
    go_ret
    exact ⟨rfl, HWB.out.trans (below_drewN _ _ _)⟩
end Go.Proofs.Ythopgmmodldljab
