import Derived.Test.YtockhlboeaignaaDoorRows
import Derived.Test.YtockhlboeaignaaDoorSp1
import Derived.Test.YtockhlboeaignaaDoorRt
import Derived.RangeFuncNested
import Derived.RangeFuncBound
import Derived.RangeFuncCalls
import Derived.RangeFuncLeaves
import Derived.Shelf.Abstract
import Derived.Shelf.RegionOpen
import Derived.WalkKit
import Derived.OwnWalkIn
import Derived.TacticsInMore
import Derived.LoopNIn
import Derived.LoopIn
import Derived.WalkSpells
import Derived.RowKit3
import Derived.LoopTactic
import Derived.WalkSmall
import Derived.Laws.Externs
import Derived.Lib.Bytealg
import Derived.Lib.BytesEntry
namespace Go.Proofs.YtockhlboeaignaaDoor
open Go.RowKit Go.Shelf
attribute [local go_sem] Oper.semAt_some
set_option linter.unusedVariables false
set_option linter.unusedSimpArgs false
set_option maxRecDepth 10000
theorem idxS_any (s : ByteArray) (c : Int) (w : World) : Calls Tryd.prog 22 #[.string s, .int .u8 c] w fun e w' => e = .returned (.int .i64 (ix s.data.toList c.toNat.toUInt8)) ∧ w' = w := by
  go_enter Tryd.func22, Tryd.ntmps22
  go_wp2
  rw [run_callFunc_extern Tryd.func25 (by kernel_rfl) (by kernel_rfl) (by kernel_rfl) (e := Extern.BytealgIndexByte.indexByte) (by kernel_rfl), Lib.run_indexByteString]
  simp only [Result.andThen]
  rw [Oper.upon_value]
  go_wp2
  go_ret
  exact ⟨rfl, rfl⟩
theorem indexByte_any (s : ByteArray) (c : Int) (w : World) : Calls Tryd.prog 15 #[.string s, .int .u8 c] w fun e w' => e = .returned (.int .i64 (ix s.data.toList c.toNat.toUInt8)) ∧ w' = w := by
  have c1 := idxS_any s c w
  go_enter Tryd.func15, Tryd.ntmps15
  go_wp2_with (go_at_call 22; refine c1.mono ?_; rintro _ _ ⟨rfl, rfl⟩)
  go_ret
  exact ⟨rfl, rfl⟩
def slash : ByteArray := ⟨#[47]⟩
theorem toList_data (s : ByteArray) : s.toList = s.data.toList := ByteArray.toList_eq s
theorem index31_any (s : ByteArray) (w : World) (hs : s.size < 9223372036854775808) : Calls Tryd.prog 31 #[.string s, .string ⟨#[47]⟩] w fun e w' => e = .returned (.int .i64 (ix s.data.toList 47)) ∧ w' = w := by
  have c1 := idxS_any s 47 w
  by_cases h : s.toList = [47]
  · have h1 : ([47] == s.toList) = true := by rw [h]; rfl
    have h2 : ix s.data.toList 47 = 0 := by rw [← toList_data, h]; rfl
    rw [h2]
    go_enter Tryd.func31, Tryd.ntmps31
    go_wp2
    go_ret
    exact ⟨rfl, rfl⟩
  · have h1 : ([47] == s.toList) = false := by simpa using fun e => h e.symm
    go_enter Tryd.func31, Tryd.ntmps31
    go_wp2_with (go_at_call 22; refine c1.mono ?_; rintro _ _ ⟨rfl, rfl⟩)
    go_ret
    exact ⟨rfl, rfl⟩
theorem index_any (s : ByteArray) (w : World) (hs : s.size < 9223372036854775808) : Calls Tryd.prog 28 #[.string s, .string ⟨#[47]⟩] w fun e w' => e = .returned (.int .i64 (ix s.data.toList 47)) ∧ w' = w := by
  have c1 := index31_any s w hs
  go_enter Tryd.func28, Tryd.ntmps28
  go_wp2_with (go_at_call 31; refine c1.mono ?_; rintro _ _ ⟨rfl, rfl⟩)
  go_ret
  exact ⟨rfl, rfl⟩
theorem splitSeq_any (s t : ByteArray) (w : World) : Calls Tryd.prog 23 #[.string s, .string t, .int .i64 0] w fun e w' => e = .returned (.func (.func 26) #[] #[.pointer (some ⟨w.heap.size + 1, 0, .none⟩), .pointer (some ⟨w.heap.size, 0, .none⟩), .pointer (some ⟨w.heap.size + 1 + 1, 0, .none⟩)]) ∧ w' = ((w.alloc (.cells #[.string s] 9)).alloc (.cells #[.string t] 9)).alloc (.cells #[.int .i64 0] 3) := by
  go_enter Tryd.func23, Tryd.ntmps23
  go_wp2
  go_ret
  exact ⟨rfl, rfl⟩
theorem splits_any (s t : ByteArray) (w : World) : Calls Tryd.prog 16 #[.string s, .string t] w fun e w' => e = .returned (.func (.func 26) #[] #[.pointer (some ⟨w.heap.size + 1, 0, .none⟩), .pointer (some ⟨w.heap.size, 0, .none⟩), .pointer (some ⟨w.heap.size + 1 + 1, 0, .none⟩)]) ∧ w' = ((w.alloc (.cells #[.string s] 9)).alloc (.cells #[.string t] 9)).alloc (.cells #[.int .i64 0] 3) := by
  have c := splitSeq_any s t w
  go_enter Tryd.func16, Tryd.ntmps16
  go_wp2_with (go_at_call 23; refine c.mono ?_; rintro _ _ ⟨rfl, rfl⟩)
  go_ret
  exact ⟨rfl, rfl⟩
end Go.Proofs.YtockhlboeaignaaDoor
