import Derived.Test.YthopgmmodldljaaDa
import Derived.Test.YthopgmmodldljaaAi
import Derived.Test.YthopgmmodldljaaCh
import Derived.Great.BuildSlice
namespace Go.Proofs.Ythopgmmodldljaa
open Go Go.RowKit
set_option linter.unusedVariables false
set_option linter.unusedSimpArgs false
/-! The program's own comparisons. -/
def ppL (p : Pc) (n : Nat) : List Value := [.int .i64 (p.c 0), .int .i64 (p.c 1), .int .i64 (p.c 2), .int .i64 (p.c 3), .int .i64 (p.c 4), .int .i64 (p.c 5), .bool p.kil, .int .i32 (p.c 7), .int .u64 (p.c 8), .int .u64 (p.c 9), .int .u64 (p.c 10), .int .u64 (p.c 11), .int .u64 (p.c 12), .int .u64 (p.c 13), .int .u64 (p.c 14), .int .u64 (p.c 15), .int .u64 (p.c 16), .int .u64 (p.c 17), .int .u64 (p.c 18), .int .u64 (p.c 19), .int .u64 (p.c 20), .int .u64 (p.c 21), .int .u64 (p.c 22), .int .u64 (p.c 23), .int .u64 (p.c 24), .int .u64 (p.c 25), .int .u64 (p.c 26), .int .u64 (p.c 27), .int .u64 (p.c 28), .int .u64 (p.c 29), .int .u64 (p.c 30), .int .u64 (p.c 31), .int .u64 (p.c 32), .int .u64 (p.c 33), .int .u64 (p.c 34), .int .u64 (p.c 35), .int .u64 (p.c 36), .int .u64 (p.c 37), .int .u64 (p.c 38), .int .u64 (p.c 39), .int .u64 (p.c 40), .int .u64 (p.c 41), .int .i64 n, .int .i64 (p.c 46), .int .i64 (p.c 47), .int .i64 (p.c 48), .int .i64 (p.c 49), .int .i64 (p.c 50), .int .i64 (p.c 51), .int .i64 (p.c 52), .int .i64 (p.c 53), .int .i64 (p.c 54), .int .i64 (p.c 55), .int .i64 (p.c 56), .int .i64 (p.c 57), .int .i64 (p.c 58), .int .i64 (p.c 59), .int .i64 (p.c 60), .int .i64 (p.c 61), .int .i64 (p.c 62), .bool p.inC, .int .i64 (p.c 64), .int .u64 (p.c 65), .int .u64 (p.c 66), .int .u64 (p.c 67), .int .i64 (p.c 68), .int .u64 (p.c 69)]
def piL (x : In) (n : Nat) : List Value := [.int .i64 x.ino, .int .i64 x.ty, .int .i16 x.ma, .int .i16 x.mi, .int .i64 x.links, .int .i64 x.refs, .int .i64 x.size, .int .i64 n]
def pqL (x : Pp) : List Value := [.int .i64 x.num, .int .u32 x.rs, .int .u32 x.ws, .bool x.rd, .bool x.wr]
theorem eq_132 (d : Nat) (p q : Pc) (n m : Nat) : EqV (d + 4) 132 (.agg (ppL p n).toArray) (.agg (ppL q m).toArray) ((p.c 0 == q.c 0) && ((p.c 1 == q.c 1) && ((p.c 2 == q.c 2) && ((p.c 3 == q.c 3) && ((chB p.c q.c) && ((p.kil == q.kil) && ((p.c 7 == q.c 7) && ((rgB p.c q.c) && ((p.c 41 == q.c 41) && (((n : Int) == (m : Int)) && ((fdB p.c q.c) && ((p.c 62 == q.c 62) && ((p.inC == q.inC) && ((peB p.c q.c) && true)))))))))))))) :=
  eqv_struct (by kernel_rfl) (by kernel_rfl) (F := [("slot", 3, 0), ("pid", 3, 1), ("state", 3, 2), ("parent", 3, 3), ("channel", 45, 4), ("killed", 4, 6), ("status", 21, 7), ("regs", 48, 8), ("size", 24, 41), ("nodes", 3, 42), ("fds", 50, 43), ("cwd", 3, 59), ("inCall", 4, 60), ("pending", 53, 61)]) (by kernel_rfl) (.cons (by decide) (fun _ => by kernel_rfl) (fun _ => by kernel_rfl) (eqv_int (k := .i64) Try.underlying3 _ _) (.cons (by decide) (fun _ => by kernel_rfl) (fun _ => by kernel_rfl) (eqv_int (k := .i64) Try.underlying3 _ _) (.cons (by decide) (fun _ => by kernel_rfl) (fun _ => by kernel_rfl) (eqv_int (k := .i64) Try.underlying3 _ _) (.cons (by decide) (fun _ => by kernel_rfl) (fun _ => by kernel_rfl) (eqv_int (k := .i64) Try.underlying3 _ _) (.cons (by decide) (fun _ => by kernel_rfl) (fun _ => by kernel_rfl) (eq_chan (d + 0) _ _ _ _) (.cons (by decide) (fun _ => by kernel_rfl) (fun _ => by kernel_rfl) (eqv_bool Try.underlying4 _ _) (.cons (by decide) (fun _ => by kernel_rfl) (fun _ => by kernel_rfl) (eqv_int (k := .i32) Try.underlying21 _ _) (.cons (by decide) (fun _ => by kernel_rfl) (fun _ => by kernel_rfl) (eq_regs (d + 0) _ _) (.cons (by decide) (fun _ => by kernel_rfl) (fun _ => by kernel_rfl) (eqv_int (k := .u64) Try.underlying24 _ _) (.cons (by decide) (fun _ => by kernel_rfl) (fun _ => by kernel_rfl) (eqv_int (k := .i64) Try.underlying3 _ _) (.cons (by decide) (fun _ => by kernel_rfl) (fun _ => by kernel_rfl) (eq_fds (d + 1) _ _) (.cons (by decide) (fun _ => by kernel_rfl) (fun _ => by kernel_rfl) (eqv_int (k := .i64) Try.underlying3 _ _) (.cons (by decide) (fun _ => by kernel_rfl) (fun _ => by kernel_rfl) (eqv_bool Try.underlying4 _ _) (.cons (by decide) (fun _ => by kernel_rfl) (fun _ => by kernel_rfl) (eq_pend (d + 0) _ _) .nil))))))))))))))
theorem eq_137 (d : Nat) (x y : In) (n m : Nat) : EqV (d + 4) 137 (.agg (piL x n).toArray) (.agg (piL y m).toArray) ((x.ino == y.ino) && ((x.ty == y.ty) && ((x.ma == y.ma) && ((x.mi == y.mi) && ((x.links == y.links) && ((x.refs == y.refs) && ((x.size == y.size) && (((n : Int) == (m : Int)) && true)))))))) :=
  eqv_struct (by kernel_rfl) (by kernel_rfl) (F := [("ino", 3, 0), ("kind", 3, 1), ("major", 64, 2), ("minor", 64, 3), ("links", 3, 4), ("refs", 3, 5), ("size", 3, 6), ("blocks", 3, 7)]) (by kernel_rfl) (.cons (by decide) (fun _ => by kernel_rfl) (fun _ => by kernel_rfl) (eqv_int (k := .i64) Try.underlying3 _ _) (.cons (by decide) (fun _ => by kernel_rfl) (fun _ => by kernel_rfl) (eqv_int (k := .i64) Try.underlying3 _ _) (.cons (by decide) (fun _ => by kernel_rfl) (fun _ => by kernel_rfl) (eqv_int (k := .i16) Try.underlying64 _ _) (.cons (by decide) (fun _ => by kernel_rfl) (fun _ => by kernel_rfl) (eqv_int (k := .i16) Try.underlying64 _ _) (.cons (by decide) (fun _ => by kernel_rfl) (fun _ => by kernel_rfl) (eqv_int (k := .i64) Try.underlying3 _ _) (.cons (by decide) (fun _ => by kernel_rfl) (fun _ => by kernel_rfl) (eqv_int (k := .i64) Try.underlying3 _ _) (.cons (by decide) (fun _ => by kernel_rfl) (fun _ => by kernel_rfl) (eqv_int (k := .i64) Try.underlying3 _ _) (.cons (by decide) (fun _ => by kernel_rfl) (fun _ => by kernel_rfl) (eqv_int (k := .i64) Try.underlying3 _ _) .nil))))))))
theorem eq_140 (d : Nat) (x y : Pp) : EqV (d + 4) 140 (.agg (pqL x).toArray) (.agg (pqL y).toArray) ((x.num == y.num) && ((x.rs == y.rs) && ((x.ws == y.ws) && ((x.rd == y.rd) && ((x.wr == y.wr) && true))))) :=
  eqv_struct (by kernel_rfl) (by kernel_rfl) (F := [("num", 3, 0), ("reads", 78, 1), ("writes", 78, 2), ("reader", 4, 3), ("writer", 4, 4)]) (by kernel_rfl) (.cons (by decide) (fun _ => by kernel_rfl) (fun _ => by kernel_rfl) (eqv_int (k := .i64) Try.underlying3 _ _) (.cons (by decide) (fun _ => by kernel_rfl) (fun _ => by kernel_rfl) (eqv_int (k := .u32) Try.underlying78 _ _) (.cons (by decide) (fun _ => by kernel_rfl) (fun _ => by kernel_rfl) (eqv_int (k := .u32) Try.underlying78 _ _) (.cons (by decide) (fun _ => by kernel_rfl) (fun _ => by kernel_rfl) (eqv_bool Try.underlying4 _ _) (.cons (by decide) (fun _ => by kernel_rfl) (fun _ => by kernel_rfl) (eqv_bool Try.underlying4 _ _) .nil)))))
theorem info132 : ∃ i z, Try.prog.info? 132 = some i ∧ i.zero = some z ∧ i.size = 67 ∧ i.bytes = 528 ∧ z.cells.size = 67 := info_of 132 67 528 (by kernel_rfl) (by kernel_rfl)
theorem info137 : ∃ i z, Try.prog.info? 137 = some i ∧ i.zero = some z ∧ i.size = 8 ∧ i.bytes = 56 ∧ z.cells.size = 8 := info_of 137 8 56 (by kernel_rfl) (by kernel_rfl)
theorem info140 : ∃ i z, Try.prog.info? 140 = some i ∧ i.zero = some z ∧ i.size = 5 ∧ i.bytes = 24 ∧ z.cells.size = 5 := info_of 140 5 24 (by kernel_rfl) (by kernel_rfl)
set_option maxRecDepth 100000 in
set_option maxHeartbeats 2000000 in
theorem plainP_any (p : Pc) (np1 gp1 : Option Addr) (n nc1 g gc1 : Nat) (w : World) : Calls Try.prog 60 #[.agg (p.l (.slice np1 n nc1) (.slice gp1 g gc1)).toArray] w fun e w' => e = .returned (.agg (ppL p n).toArray) ∧ Below w.heap.size w w' := by
  go_enter Try.func60, Try.ntmps60
  go_upto_region 1 with (first
    | (refine wpList_is (.box 55 (.tmp 0)) rfl ?_; refine wpList_boxG 55 (p.l (.slice np1 n nc1) (.slice gp1 g gc1)) 1 (.tmp 0) _ rfl rfl rfl rfl ?_; intro W1 hW1 hB1 hs1)
    | (refine wpList_is (.alloc 132) rfl ?_; refine wpList_allocG 132 67 528 info132 2 _ rfl rfl rfl ?_; intro W2 zs hzs hW2 hB2 hs2)
    | fail)
  have hrg : W2.rangeAt w.heap.size 0 (p.l (.slice np1 n nc1) (.slice gp1 g gc1)) := range_keep (range_heap hW1) hB2 (by omega)
  rw [hs1] at hW2 ⊢
  have HB : Hid (Below w.heap.size w W2 ∧ W2.heap.size = w.heap.size + 2) := ⟨hB1.trans (hB2.mono (by omega)), by omega⟩
  have k0 : W2.cell? ⟨w.heap.size, 0, .none⟩ = some (.int .i64 (p.c 0)) := by have := hrg 0 _ rfl; rw [Nat.zero_add] at this; exact this
  have k1 : W2.cell? ⟨w.heap.size, 1, .none⟩ = some (.int .i64 (p.c 1)) := by have := hrg 1 _ rfl; rw [Nat.zero_add] at this; exact this
  have k2 : W2.cell? ⟨w.heap.size, 2, .none⟩ = some (.int .i64 (p.c 2)) := by have := hrg 2 _ rfl; rw [Nat.zero_add] at this; exact this
  have k3 : W2.cell? ⟨w.heap.size, 3, .none⟩ = some (.int .i64 (p.c 3)) := by have := hrg 3 _ rfl; rw [Nat.zero_add] at this; exact this
  have k6 : W2.cell? ⟨w.heap.size, 6, .none⟩ = some (.bool p.kil) := by have := hrg 6 _ rfl; rw [Nat.zero_add] at this; exact this
  have k7 : W2.cell? ⟨w.heap.size, 7, .none⟩ = some (.int .i32 (p.c 7)) := by have := hrg 7 _ rfl; rw [Nat.zero_add] at this; exact this
  have k41 : W2.cell? ⟨w.heap.size, 41, .none⟩ = some (.int .u64 (p.c 41)) := by have := hrg 41 _ rfl; rw [Nat.zero_add] at this; exact this
  have k44 : W2.cell? ⟨w.heap.size, 44, .none⟩ = some (.slice np1 n nc1) := by have := hrg 44 _ rfl; rw [Nat.zero_add] at this; exact this
  have k62 : W2.cell? ⟨w.heap.size, 62, .none⟩ = some (.int .i64 (p.c 62)) := by have := hrg 62 _ rfl; rw [Nat.zero_add] at this; exact this
  have k63 : W2.cell? ⟨w.heap.size, 63, .none⟩ = some (.bool p.inC) := by have := hrg 63 _ rfl; rw [Nat.zero_add] at this; exact this
  have r4 : W2.rangeAt w.heap.size 4 (chL p.c) := by have := range_sub (k := 4) hrg (sub_of (s := (chL p.c)) rfl); simpa using this
  have r8 : W2.rangeAt w.heap.size 8 (regL p.c) := by have := range_sub (k := 8) hrg (sub_of (s := (regL p.c)) rfl); simpa using this
  have r46 : W2.rangeAt w.heap.size 46 (fdL p.c) := by have := range_sub (k := 46) hrg (sub_of (s := (fdL p.c)) rfl); simpa using this
  have r64 : W2.rangeAt w.heap.size 64 (penL p.c) := by have := range_sub (k := 64) hrg (sub_of (s := (penL p.c)) rfl); simpa using this
  clear hrg hW1 hB1 hs1 hB2 hs2
  go_wp2_with (first
    | (refine wpList_is (.load 45 (.tmp 11)) rfl ?_; refine wpList_loadW 45 _ Try.underlying45 rfl (chL p.c) (by kernel_rfl) w.heap.size 4 (.tmp 11) rfl rfl rfl r4 (some 12) rfl ?_)
    | (refine wpList_is (.load 48 (.tmp 17)) rfl ?_; refine wpList_loadW 48 _ Try.underlying48 rfl (regL p.c) (by kernel_rfl) w.heap.size 8 (.tmp 17) rfl rfl rfl r8 (some 18) rfl ?_)
    | (refine wpList_is (.load 50 (.tmp 24)) rfl ?_; refine wpList_loadW 50 _ Try.underlying50 rfl (fdL p.c) (by kernel_rfl) w.heap.size 46 (.tmp 24) rfl rfl rfl r46 (some 25) rfl ?_)
    | (refine wpList_is (.load 53 (.tmp 30)) rfl ?_; refine wpList_loadW 53 _ Try.underlying53 rfl (penL p.c) (by kernel_rfl) w.heap.size 64 (.tmp 30) rfl rfl rfl r64 (some 31) rfl ?_)
    | (refine wpList_is (.build 132 #[(0, .tmp 4), (1, .tmp 6), (2, .tmp 8), (3, .tmp 10), (4, .tmp 12), (5, .tmp 14), (6, .tmp 16), (7, .tmp 18), (8, .tmp 20), (9, .tmp 23), (10, .tmp 25), (11, .tmp 27), (12, .tmp 29), (13, .tmp 31)]) rfl ?_; refine wpList_buildTo rfl 132 _ rfl (some 32) rfl (ppL p n).toArray (by kernel_rfl) ?_)
    | (refine wpList_is (.store 132 (.tmp 2) (.tmp 32)) rfl ?_; refine wpList_storeG 132 67 528 (w.heap.size + 1) info132 (ppL p n) zs rfl hzs (List.all_eq_true.1 (show (ppL p n).all (fun u => u.oneCell') = true from rfl)) (.tmp 2) (.tmp 32) _ rfl rfl rfl rfl rfl hW2 ?_; intro W6 hW6 hg6 hs6)
    | fail)
  refine bodyPost_ret (results_cell_any (p := 2) (ty := 132) rfl _ _ ⟨w.heap.size + 1, 0, .none⟩ _ rfl (run_loadVar_mid (P := Try.prog) _ (w.heap.size + 1) 0 132 (ppL p n) _ (range_heap hW6) Try.underlying132 rfl (by kernel_rfl))) rfl ?_
  exact ⟨rfl, HB.out.1.trans ⟨hg6.os, hg6.tape, hg6.output, hg6.size, fun k hk => hg6.block k (by have := HB.out.2; omega) (by intro e; injection e; omega)⟩⟩
set_option maxRecDepth 100000 in
set_option maxHeartbeats 2000000 in
theorem plainI_any (x : In) (np1 : Option Addr) (n nc1 : Nat) (w : World) : Calls Try.prog 63 #[.agg (x.l (.slice np1 n nc1)).toArray] w fun e w' => e = .returned (.agg (piL x n).toArray) ∧ Below w.heap.size w w' := by
  go_enter Try.func63, Try.ntmps63
  go_upto_region 1 with (first
    | (refine wpList_is (.box 66 (.tmp 0)) rfl ?_; refine wpList_boxG 66 (x.l (.slice np1 n nc1)) 1 (.tmp 0) _ rfl rfl rfl rfl ?_; intro W1 hW1 hB1 hs1)
    | (refine wpList_is (.alloc 137) rfl ?_; refine wpList_allocG 137 8 56 info137 2 _ rfl rfl rfl ?_; intro W2 zs hzs hW2 hB2 hs2)
    | fail)
  have hrg : W2.rangeAt w.heap.size 0 (x.l (.slice np1 n nc1)) := range_keep (range_heap hW1) hB2 (by omega)
  rw [hs1] at hW2 ⊢
  have HB : Hid (Below w.heap.size w W2 ∧ W2.heap.size = w.heap.size + 2) := ⟨hB1.trans (hB2.mono (by omega)), by omega⟩
  have k0 : W2.cell? ⟨w.heap.size, 0, .none⟩ = some (.int .i64 x.ino) := by have := hrg 0 _ rfl; rw [Nat.zero_add] at this; exact this
  have k1 : W2.cell? ⟨w.heap.size, 1, .none⟩ = some (.int .i64 x.ty) := by have := hrg 1 _ rfl; rw [Nat.zero_add] at this; exact this
  have k2 : W2.cell? ⟨w.heap.size, 2, .none⟩ = some (.int .i16 x.ma) := by have := hrg 2 _ rfl; rw [Nat.zero_add] at this; exact this
  have k3 : W2.cell? ⟨w.heap.size, 3, .none⟩ = some (.int .i16 x.mi) := by have := hrg 3 _ rfl; rw [Nat.zero_add] at this; exact this
  have k4 : W2.cell? ⟨w.heap.size, 4, .none⟩ = some (.int .i64 x.links) := by have := hrg 4 _ rfl; rw [Nat.zero_add] at this; exact this
  have k5 : W2.cell? ⟨w.heap.size, 5, .none⟩ = some (.int .i64 x.refs) := by have := hrg 5 _ rfl; rw [Nat.zero_add] at this; exact this
  have k6 : W2.cell? ⟨w.heap.size, 6, .none⟩ = some (.int .i64 x.size) := by have := hrg 6 _ rfl; rw [Nat.zero_add] at this; exact this
  have k7 : W2.cell? ⟨w.heap.size, 7, .none⟩ = some (.slice np1 n nc1) := by have := hrg 7 _ rfl; rw [Nat.zero_add] at this; exact this
  clear hrg hW1 hB1 hs1 hB2 hs2
  go_wp2_with (first
    | (refine wpList_is (.build 137 #[(0, .tmp 4), (1, .tmp 6), (2, .tmp 8), (3, .tmp 10), (4, .tmp 12), (5, .tmp 14), (6, .tmp 16), (7, .tmp 19)]) rfl ?_; refine wpList_buildTo rfl 137 _ rfl (some 20) rfl (piL x n).toArray (by kernel_rfl) ?_)
    | (refine wpList_is (.store 137 (.tmp 2) (.tmp 20)) rfl ?_; refine wpList_storeG 137 8 56 (w.heap.size + 1) info137 (piL x n) zs rfl hzs (List.all_eq_true.1 (show (piL x n).all (fun u => u.oneCell') = true from rfl)) (.tmp 2) (.tmp 20) _ rfl rfl rfl rfl rfl hW2 ?_; intro W6 hW6 hg6 hs6)
    | fail)
  refine bodyPost_ret (results_cell_any (p := 2) (ty := 137) rfl _ _ ⟨w.heap.size + 1, 0, .none⟩ _ rfl (run_loadVar_mid (P := Try.prog) _ (w.heap.size + 1) 0 137 (piL x n) _ (range_heap hW6) Try.underlying137 rfl (by kernel_rfl))) rfl ?_
  exact ⟨rfl, HB.out.1.trans ⟨hg6.os, hg6.tape, hg6.output, hg6.size, fun k hk => hg6.block k (by have := HB.out.2; omega) (by intro e; injection e; omega)⟩⟩
set_option maxRecDepth 100000 in
set_option maxHeartbeats 2000000 in
theorem plainQ_any (x : Pp) (bv : Value) (w : World) : Calls Try.prog 64 #[.agg (x.l bv).toArray] w fun e w' => e = .returned (.agg (pqL x).toArray) ∧ Below w.heap.size w w' := by
  go_enter Try.func64, Try.ntmps64
  go_upto_region 1 with (first
    | (refine wpList_is (.box 98 (.tmp 0)) rfl ?_; refine wpList_boxG 98 (x.l bv) 1 (.tmp 0) _ rfl rfl rfl rfl ?_; intro W1 hW1 hB1 hs1)
    | (refine wpList_is (.alloc 140) rfl ?_; refine wpList_allocG 140 5 24 info140 2 _ rfl rfl rfl ?_; intro W2 zs hzs hW2 hB2 hs2)
    | fail)
  have hrg : W2.rangeAt w.heap.size 0 (x.l bv) := range_keep (range_heap hW1) hB2 (by omega)
  rw [hs1] at hW2 ⊢
  have HB : Hid (Below w.heap.size w W2 ∧ W2.heap.size = w.heap.size + 2) := ⟨hB1.trans (hB2.mono (by omega)), by omega⟩
  have k0 : W2.cell? ⟨w.heap.size, 0, .none⟩ = some (.int .i64 x.num) := by have := hrg 0 _ rfl; rw [Nat.zero_add] at this; exact this
  have k2 : W2.cell? ⟨w.heap.size, 2, .none⟩ = some (.int .u32 x.rs) := by have := hrg 2 _ rfl; rw [Nat.zero_add] at this; exact this
  have k3 : W2.cell? ⟨w.heap.size, 3, .none⟩ = some (.int .u32 x.ws) := by have := hrg 3 _ rfl; rw [Nat.zero_add] at this; exact this
  have k4 : W2.cell? ⟨w.heap.size, 4, .none⟩ = some (.bool x.rd) := by have := hrg 4 _ rfl; rw [Nat.zero_add] at this; exact this
  have k5 : W2.cell? ⟨w.heap.size, 5, .none⟩ = some (.bool x.wr) := by have := hrg 5 _ rfl; rw [Nat.zero_add] at this; exact this
  clear hrg hW1 hB1 hs1 hB2 hs2
  go_wp2_with (first
    | (refine wpList_is (.build 140 #[(0, .tmp 4), (1, .tmp 7), (2, .tmp 10), (3, .tmp 13), (4, .tmp 16)]) rfl ?_; refine wpList_buildTo rfl 140 _ rfl (some 17) rfl (pqL x).toArray (by kernel_rfl) ?_)
    | (refine wpList_is (.store 140 (.tmp 2) (.tmp 17)) rfl ?_; refine wpList_storeG 140 5 24 (w.heap.size + 1) info140 (pqL x) zs rfl hzs (List.all_eq_true.1 (show (pqL x).all (fun u => u.oneCell') = true from rfl)) (.tmp 2) (.tmp 17) _ rfl rfl rfl rfl rfl hW2 ?_; intro W6 hW6 hg6 hs6)
    | fail)
  refine bodyPost_ret (results_cell_any (p := 2) (ty := 140) rfl _ _ ⟨w.heap.size + 1, 0, .none⟩ _ rfl (run_loadVar_mid (P := Try.prog) _ (w.heap.size + 1) 0 140 (pqL x) _ (range_heap hW6) Try.underlying140 rfl (by kernel_rfl))) rfl ?_
  exact ⟨rfl, HB.out.1.trans ⟨hg6.os, hg6.tape, hg6.output, hg6.size, fun k hk => hg6.block k (by have := HB.out.2; omega) (by intro e; injection e; omega)⟩⟩
end Go.Proofs.Ythopgmmodldljaa
