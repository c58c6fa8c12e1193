import Derived.Test.YthdahigckflohabRows
import Derived.Test.YthdahigckflohabZData
import Derived.Test.YthdahigckflohabZPure
import Derived.WalkKit
import Derived.WalkSpells
import Derived.RowKit3
import Derived.Deep.Cut
namespace Go.Proofs.Ythdahigckflohab
open Go.RowKit
def rowCells (r : List UInt8 × Int × Int) : List Value := [.string ⟨r.1.toArray⟩, .int .i64 r.2.1, .int .u32 r.2.2]
def opRow (op : Int) : List UInt8 × Int × Int := opTab.getD op.toNat ([], 0, 0)
def nm (op : Int) : ByteArray := ⟨(opRow op).1.toArray⟩
def sh (op : Int) : Int := (opRow op).2.1
def wd (op : Int) : Int := (opRow op).2.2
def T40 : Array Value := ((opTab.take 50).flatMap rowCells).toArray
def S40 (k : Nat) : Value := .agg (rowCells (opTab.getD (k - 2) ([], 0, 0))).toArray
def T41 : Array Value := ((List.replicate 50 ([], 0, 0) ++ opTab.drop 50).flatMap rowCells).toArray
def S41 (k : Nat) : Value := .agg (rowCells (opTab.getD (k + 47) ([], 0, 0))).toArray
theorem t40_all : (List.range 50).map (fun n => T40.extract (n * 3) (n * 3 + 3)) = (List.range 50).map (fun n => (rowCells (opTab.getD n ([], 0, 0))).toArray) := by kernel_rfl
theorem t40_at (n : Nat) (h : n < 50) : T40.extract (n * 3) (n * 3 + 3) = (rowCells (opTab.getD n ([], 0, 0))).toArray := by
  have := congrArg (fun l => l[n]?) t40_all
  simpa [h] using this
theorem t41_all : (List.range 27).map (fun n => T41.extract ((n + 50) * 3) ((n + 50) * 3 + 3)) = (List.range 27).map (fun n => (rowCells (opTab.getD (n + 50) ([], 0, 0))).toArray) := by kernel_rfl
theorem t41_at (n : Nat) (h0 : 50 ≤ n) (h : n < 77) : T41.extract (n * 3) (n * 3 + 3) = (rowCells (opTab.getD n ([], 0, 0))).toArray := by
  have := congrArg (fun l => l[n - 50]?) t41_all
  simpa [show n - 50 < 27 by omega, show n - 50 + 50 = n by omega] using this
theorem agg46 (w : World) : (isAgg 112).run Try.prog w = .ok true w := by kernel_rfl
set_option maxHeartbeats 1000000 in
set_option maxRecDepth 10000 in
theorem base_any (op : Int) (h0 : 0 ≤ op) (h1 : op < 50) (w : World) :
    Calls Try.prog 97 #[.int .i64 op] w fun e w' => e = .returned (.agg #[.string (nm op), .int .i64 (sh op), .int .u32 (wd op)]) ∧ w' = w.alloc (.cells #[.string (nm op), .int .i64 (sh op), .int .u32 (wd op)] 112) := by
  have hidx : ∀ w : World, (Instr.index 123 (.agg T40) (.int .i64 op)).run Try.prog w = .ok (.agg #[.string (nm op), .int .i64 (sh op), .int .u32 (wd op)]) w := by
    intro w
    rw [run_index_agg w 123 112 50 3 T40 op (by kernel_rfl) (by kernel_rfl) agg46 h0 (by omega), t40_at op.toNat (by omega)]
    rfl
  go_enter Try.func97, Try.ntmps97
  go_upto_region 1 with fail
  refine wp_region_lit ?_
  refine wpList_pure 51 ⟨#[.int .i64 op, undef, .pointer (some ⟨w.heap.size, 0, .none⟩), S40 3, S40 4, S40 5, S40 6, S40 7, S40 8, S40 9, S40 10, S40 11, S40 12, S40 13, S40 14, S40 15, S40 16, S40 17, S40 18, S40 19, S40 20, S40 21, S40 22, S40 23, S40 24, S40 25, S40 26, S40 27, S40 28, S40 29, S40 30, S40 31, S40 32, S40 33, S40 34, S40 35, S40 36, S40 37, S40 38, S40 39, S40 40, S40 41, S40 42, S40 43, S40 44, S40 45, S40 46, S40 47, S40 48, S40 49, S40 50, S40 51, .agg T40, .int .i64 op, undef], []⟩ (by kernel_rfl) ?_
  conv => arg 4; whnf
  refine wpList_indexTo rfl 123 _ _ rfl _ _ rfl rfl _ (hidx _) ⟨#[.int .i64 op, undef, .pointer (some ⟨w.heap.size, 0, .none⟩), S40 3, S40 4, S40 5, S40 6, S40 7, S40 8, S40 9, S40 10, S40 11, S40 12, S40 13, S40 14, S40 15, S40 16, S40 17, S40 18, S40 19, S40 20, S40 21, S40 22, S40 23, S40 24, S40 25, S40 26, S40 27, S40 28, S40 29, S40 30, S40 31, S40 32, S40 33, S40 34, S40 35, S40 36, S40 37, S40 38, S40 39, S40 40, S40 41, S40 42, S40 43, S40 44, S40 45, S40 46, S40 47, S40 48, S40 49, S40 50, S40 51, .agg T40, .int .i64 op, .agg #[.string (nm op), .int .i64 (sh op), .int .u32 (wd op)]], []⟩ (by kernel_rfl) ?_
  go_wp2
  exact bodyPost_ret (v := .agg #[.string (nm op), .int .i64 (sh op), .int .u32 (wd op)]) (by simp [results, Try.results97, go_sem]) rfl ⟨rfl, rfl⟩
set_option maxHeartbeats 1000000 in
set_option maxRecDepth 10000 in
theorem later_any (op : Int) (h0 : 50 ≤ op) (h1 : op < 77) (w : World) :
    Calls Try.prog 98 #[.int .i64 op] w fun e w' => e = .returned (.agg #[.string (nm op), .int .i64 (sh op), .int .u32 (wd op)]) ∧ w' = w.alloc (.cells #[.string (nm op), .int .i64 (sh op), .int .u32 (wd op)] 112) := by
  have hidx : ∀ w : World, (Instr.index 124 (.agg T41) (.int .i64 op)).run Try.prog w = .ok (.agg #[.string (nm op), .int .i64 (sh op), .int .u32 (wd op)]) w := by
    intro w
    rw [run_index_agg w 124 112 77 3 T41 op (by kernel_rfl) (by kernel_rfl) agg46 (by omega) (by omega), t41_at op.toNat (by omega) (by omega)]
    rfl
  go_enter Try.func98, Try.ntmps98
  go_upto_region 1 with fail
  refine wp_region_lit ?_
  refine wpList_pure 29 ⟨#[.int .i64 op, undef, .pointer (some ⟨w.heap.size, 0, .none⟩), S41 3, S41 4, S41 5, S41 6, S41 7, S41 8, S41 9, S41 10, S41 11, S41 12, S41 13, S41 14, S41 15, S41 16, S41 17, S41 18, S41 19, S41 20, S41 21, S41 22, S41 23, S41 24, S41 25, S41 26, S41 27, S41 28, S41 29, .agg T41, .int .i64 op, undef], []⟩ (by kernel_rfl) ?_
  conv => arg 4; whnf
  refine wpList_indexTo rfl 124 _ _ rfl _ _ rfl rfl _ (hidx _) ⟨#[.int .i64 op, undef, .pointer (some ⟨w.heap.size, 0, .none⟩), S41 3, S41 4, S41 5, S41 6, S41 7, S41 8, S41 9, S41 10, S41 11, S41 12, S41 13, S41 14, S41 15, S41 16, S41 17, S41 18, S41 19, S41 20, S41 21, S41 22, S41 23, S41 24, S41 25, S41 26, S41 27, S41 28, S41 29, .agg T41, .int .i64 op, .agg #[.string (nm op), .int .i64 (sh op), .int .u32 (wd op)]], []⟩ (by kernel_rfl) ?_
  go_wp2
  exact bodyPost_ret (v := .agg #[.string (nm op), .int .i64 (sh op), .int .u32 (wd op)]) (by simp [results, Try.results98, go_sem]) rfl ⟨rfl, rfl⟩

def refCells (r : List UInt8 × Int × Int × Int × Int × Int) : List Value := [.string ⟨r.1.toArray⟩, .int .i64 r.2.1, .int .i64 r.2.2.1, .int .i64 r.2.2.2.1, .int .i64 r.2.2.2.2.1, .int .u32 r.2.2.2.2.2]
def zRef : List UInt8 × Int × Int × Int × Int × Int := ([], 0, 0, 0, 0, 0)
def T42 : Array Value := ((refTab.take 40).flatMap refCells).toArray
def S42 (k : Nat) : Value := .agg (refCells (refTab.getD (k - 1) zRef)).toArray
def T43 : Array Value := ((refTab.drop 40).flatMap refCells).toArray
def S43 (k : Nat) : Value := .agg (refCells (refTab.getD (k + 39) zRef)).toArray
set_option maxHeartbeats 1000000 in
set_option maxRecDepth 10000 in
theorem rbase_any (w : World) :
    Calls Try.prog 87 #[] w fun e w' => e = .returned (.slice (some ⟨w.heap.size, 0, .none⟩) 40 40) ∧ w' = w.alloc (.cells T42 94) := by
  go_enter Try.func87, Try.ntmps87
  go_upto_region 1 with fail
  refine wp_region_lit ?_
  refine wpList_pure 40 ⟨#[.slice .none 0 0, S42 1, S42 2, S42 3, S42 4, S42 5, S42 6, S42 7, S42 8, S42 9, S42 10, S42 11, S42 12, S42 13, S42 14, S42 15, S42 16, S42 17, S42 18, S42 19, S42 20, S42 21, S42 22, S42 23, S42 24, S42 25, S42 26, S42 27, S42 28, S42 29, S42 30, S42 31, S42 32, S42 33, S42 34, S42 35, S42 36, S42 37, S42 38, S42 39, S42 40, undef], []⟩ (by kernel_rfl) ?_
  conv => arg 4; whnf
  refine wpList_slice rfl 106 94 40 _ rfl (by kernel_rfl) T42 (by kernel_rfl) ⟨#[.slice .none 0 0, S42 1, S42 2, S42 3, S42 4, S42 5, S42 6, S42 7, S42 8, S42 9, S42 10, S42 11, S42 12, S42 13, S42 14, S42 15, S42 16, S42 17, S42 18, S42 19, S42 20, S42 21, S42 22, S42 23, S42 24, S42 25, S42 26, S42 27, S42 28, S42 29, S42 30, S42 31, S42 32, S42 33, S42 34, S42 35, S42 36, S42 37, S42 38, S42 39, S42 40, .slice (some ⟨w.heap.size, 0, .none⟩) 40 40], []⟩ (by kernel_rfl) ?_
  go_wp2
  go_ret
  exact ⟨rfl, rfl⟩
set_option maxHeartbeats 1000000 in
set_option maxRecDepth 10000 in
theorem rmore_any (w : World) :
    Calls Try.prog 88 #[] w fun e w' => e = .returned (.slice (some ⟨w.heap.size, 0, .none⟩) 36 36) ∧ w' = w.alloc (.cells T43 94) := by
  go_enter Try.func88, Try.ntmps88
  go_upto_region 1 with fail
  refine wp_region_lit ?_
  refine wpList_pure 36 ⟨#[.slice .none 0 0, S43 1, S43 2, S43 3, S43 4, S43 5, S43 6, S43 7, S43 8, S43 9, S43 10, S43 11, S43 12, S43 13, S43 14, S43 15, S43 16, S43 17, S43 18, S43 19, S43 20, S43 21, S43 22, S43 23, S43 24, S43 25, S43 26, S43 27, S43 28, S43 29, S43 30, S43 31, S43 32, S43 33, S43 34, S43 35, S43 36, undef], []⟩ (by kernel_rfl) ?_
  conv => arg 4; whnf
  refine wpList_slice rfl 106 94 36 _ rfl (by kernel_rfl) T43 (by kernel_rfl) ⟨#[.slice .none 0 0, S43 1, S43 2, S43 3, S43 4, S43 5, S43 6, S43 7, S43 8, S43 9, S43 10, S43 11, S43 12, S43 13, S43 14, S43 15, S43 16, S43 17, S43 18, S43 19, S43 20, S43 21, S43 22, S43 23, S43 24, S43 25, S43 26, S43 27, S43 28, S43 29, S43 30, S43 31, S43 32, S43 33, S43 34, S43 35, S43 36, .slice (some ⟨w.heap.size, 0, .none⟩) 36 36], []⟩ (by kernel_rfl) ?_
  go_wp2
  go_ret
  exact ⟨rfl, rfl⟩
def strV (s : List UInt8) : Value := .string ⟨s.toArray⟩
def TReg : Array Value := (regTab.map strV).toArray
def rgn (r : Int) : ByteArray := ⟨(regTab.getD r.toNat []).toArray⟩
theorem treg_all : (List.range 32).map (fun n => TReg[n]?) = (List.range 32).map (fun n => some (Value.string ⟨(regTab.getD n []).toArray⟩)) := by kernel_rfl
theorem treg_at (r : Int) (h0 : 0 ≤ r) (h : r < 32) : TReg[r.toNat]? = some (.string (rgn r)) := by
  have := congrArg (fun l => l[r.toNat]?) treg_all
  have h' : r.toNat < 32 := by omega
  simpa [h', rgn] using this
theorem agg9 (w : World) : (isAgg 9).run Try.prog w = .ok false w := by kernel_rfl
end Go.Proofs.Ythdahigckflohab
