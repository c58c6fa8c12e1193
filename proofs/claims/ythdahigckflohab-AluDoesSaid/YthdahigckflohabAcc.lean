import Derived.Test.YthdahigckflohabRows
import Derived.Test.YthdahigckflohabPure
import Derived.WalkKit
import Derived.WalkSpells
import Derived.RowKit3
import Derived.Deep.Cut
import Derived.LoopTactic
import Derived.Below
import Derived.Laws.NewBlocks
namespace Go.Proofs.Ythdahigckflohab
open Go.RowKit
set_option linter.unusedVariables false
set_option linter.unusedSimpArgs false
theorem bseq {W a b : World} (h : Below W.heap.size W a) (k : Below a.heap.size a b) : Below W.heap.size W b := h.trans (k.mono h.size)
theorem below_past (w : World) (b : Obj) : Below w.heap.size w (w.alloc b) := (Below.refl _ _).alloc (Nat.le_refl _) _
theorem run_store_func (P : Program) (w : World) (a : Addr) (f : Fn) (c d : Array Value) (m : Mode) (hc : (w.cell? a).isSome = true) (hf : w.frozen? a = false) :
    (store a (.func f c d) m).run P w = .ok () (w.setCell a (.func f c d)) := by
  obtain ⟨u, hu⟩ := Option.isSome_iff_exists.1 hc
  rw [run_store P w a (.func f c d) m rfl, hu]
  simp [hf]
theorem run_store_nilFunc (P : Program) (w : World) (a : Addr) (m : Mode) (hc : (w.cell? a).isSome = true) (hf : w.frozen? a = false) :
    (store a .nilFunc m).run P w = .ok () (w.setCell a .nilFunc) := by
  obtain ⟨u, hu⟩ := Option.isSome_iff_exists.1 hc
  rw [run_store P w a .nilFunc m rfl, hu]
  simp [hf]
attribute [local go_sem] run_store_func run_store_nilFunc
theorem bel4 {w wr : World} (h : Below w.heap.size w wr) (a b c d : Value) : Below w.heap.size w ((((wr.setCell ⟨w.heap.size, 0, .none⟩ a).setCell ⟨w.heap.size, 1, .none⟩ b).setCell ⟨w.heap.size, 2, .none⟩ c).setCell ⟨w.heap.size, 3, .none⟩ d) :=
  (((h.setCell (Nat.le_refl _) _).setCell (Nat.le_refl _) _).setCell (Nat.le_refl _) _).setCell (Nat.le_refl _) _
def TA : Array Value := #[.int .i64 11, .int .i64 1, .func (.func 79) #[] #[], .nilFunc, .int .i64 12, .int .i64 2, .func (.func 79) #[] #[], .nilFunc, .int .i64 13, .int .i64 4, .func (.func 79) #[] #[], .nilFunc, .int .i64 14, .int .i64 8, .func (.func 79) #[] #[], .nilFunc, .int .i64 15, .int .i64 1, .func (.func 76) #[] #[], .nilFunc, .int .i64 16, .int .i64 2, .func (.func 76) #[] #[], .nilFunc, .int .i64 17, .int .i64 4, .func (.func 76) #[] #[], .nilFunc, .int .i64 18, .int .i64 1, .nilFunc, .func (.func 76) #[] #[], .int .i64 19, .int .i64 2, .nilFunc, .func (.func 76) #[] #[], .int .i64 20, .int .i64 4, .nilFunc, .func (.func 76) #[] #[], .int .i64 21, .int .i64 8, .nilFunc, .func (.func 76) #[] #[]]
def acc (op : Int) : Array Value :=
  if op = 11 then #[.int .i64 11, .int .i64 1, .func (.func 79) #[] #[], .nilFunc]
  else if op = 12 then #[.int .i64 12, .int .i64 2, .func (.func 79) #[] #[], .nilFunc]
  else if op = 13 then #[.int .i64 13, .int .i64 4, .func (.func 79) #[] #[], .nilFunc]
  else if op = 14 then #[.int .i64 14, .int .i64 8, .func (.func 79) #[] #[], .nilFunc]
  else if op = 15 then #[.int .i64 15, .int .i64 1, .func (.func 76) #[] #[], .nilFunc]
  else if op = 16 then #[.int .i64 16, .int .i64 2, .func (.func 76) #[] #[], .nilFunc]
  else if op = 17 then #[.int .i64 17, .int .i64 4, .func (.func 76) #[] #[], .nilFunc]
  else if op = 18 then #[.int .i64 18, .int .i64 1, .nilFunc, .func (.func 76) #[] #[]]
  else if op = 19 then #[.int .i64 19, .int .i64 2, .nilFunc, .func (.func 76) #[] #[]]
  else if op = 20 then #[.int .i64 20, .int .i64 4, .nilFunc, .func (.func 76) #[] #[]]
  else if op = 21 then #[.int .i64 21, .int .i64 8, .nilFunc, .func (.func 76) #[] #[]]
  else #[.int .i64 0, .int .i64 0, .nilFunc, .nilFunc]
theorem acc0 : acc 11 = #[.int .i64 11, .int .i64 1, .func (.func 79) #[] #[], .nilFunc] := by simp [acc]
theorem acc1 : acc 12 = #[.int .i64 12, .int .i64 2, .func (.func 79) #[] #[], .nilFunc] := by simp [acc]
theorem acc2 : acc 13 = #[.int .i64 13, .int .i64 4, .func (.func 79) #[] #[], .nilFunc] := by simp [acc]
theorem acc3 : acc 14 = #[.int .i64 14, .int .i64 8, .func (.func 79) #[] #[], .nilFunc] := by simp [acc]
theorem acc4 : acc 15 = #[.int .i64 15, .int .i64 1, .func (.func 76) #[] #[], .nilFunc] := by simp [acc]
theorem acc5 : acc 16 = #[.int .i64 16, .int .i64 2, .func (.func 76) #[] #[], .nilFunc] := by simp [acc]
theorem acc6 : acc 17 = #[.int .i64 17, .int .i64 4, .func (.func 76) #[] #[], .nilFunc] := by simp [acc]
theorem acc7 : acc 18 = #[.int .i64 18, .int .i64 1, .nilFunc, .func (.func 76) #[] #[]] := by simp [acc]
theorem acc8 : acc 19 = #[.int .i64 19, .int .i64 2, .nilFunc, .func (.func 76) #[] #[]] := by simp [acc]
theorem acc9 : acc 20 = #[.int .i64 20, .int .i64 4, .nilFunc, .func (.func 76) #[] #[]] := by simp [acc]
theorem acc10 : acc 21 = #[.int .i64 21, .int .i64 8, .nilFunc, .func (.func 76) #[] #[]] := by simp [acc]
theorem acc_out (op : Int) (h0 : op ≠ 11) (h1 : op ≠ 12) (h2 : op ≠ 13) (h3 : op ≠ 14) (h4 : op ≠ 15) (h5 : op ≠ 16) (h6 : op ≠ 17) (h7 : op ≠ 18) (h8 : op ≠ 19) (h9 : op ≠ 20) (h10 : op ≠ 21) : acc op = #[.int .i64 0, .int .i64 0, .nilFunc, .nilFunc] := by simp [acc, h0, h1, h2, h3, h4, h5, h6, h7, h8, h9, h10]
end Go.Proofs.Ythdahigckflohab
