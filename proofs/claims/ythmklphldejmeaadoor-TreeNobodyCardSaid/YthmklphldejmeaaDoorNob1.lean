import Derived.Test.YthmklphldejmeaaDoorRows
import Derived.WalkKit
import Derived.WalkSpells
import Derived.RowKit3
import Derived.LoopTactic
import Derived.Below
import Derived.WalkSmall
import Derived.Laws.Cover3
import Derived.Deep.QuietTactic
import Derived.BigQuiet
namespace Go.Proofs.YthmklphldejmeaaDoor
open Go.RowKit
set_option linter.unusedVariables false
set_option linter.unusedSimpArgs false
set_option maxRecDepth 10000
/-- A tree that nobody made: none, or a plain one. -/
def Uns (w : World) (v : Value) : Prop := v = .pointer .none ∨ ∃ p, v = .pointer (some ⟨p, 0, .none⟩) ∧ p < w.heap.size ∧ w.cell? ⟨p, 0, .none⟩ = some (.pointer .none)
theorem below1 (w : World) (o : Obj) : Below w.heap.size w (w.alloc o) := (Below.refl w.heap.size w).alloc (Nat.le_refl _) o
theorem Uns.below {w w' : World} {v : Value} (h : Uns w v) (b : Below w.heap.size w w') : Uns w' v := by
  rcases h with rfl | ⟨p, rfl, hp, hc⟩
  · exact .inl rfl
  · exact .inr ⟨p, rfl, Nat.lt_of_lt_of_le hp b.size, (b.cell hp).trans hc⟩
theorem get_no {w : World} {v : Value} (h : Uns w v) (i : Int) : Calls Tryd.prog 26 #[v, .int .i64 i] w fun e w' => e = .returned (.tuple #[.pointer .none, .int .i64 3]) ∧ w' = w := by
  rcases h with rfl | ⟨p, rfl, hp, hc⟩
  · go_enter Tryd.func26, Tryd.ntmps26
    go_wp2
    go_ret2
    exact ⟨rfl, rfl⟩
  · go_enter Tryd.func26, Tryd.ntmps26
    go_wp2
    go_ret2
    exact ⟨rfl, rfl⟩
theorem start_no {w : World} {v : Value} (h : Uns w v) (i : Int) (s : ByteArray) : Calls Tryd.prog 18 #[v, .int .i64 i, .string s] w fun e w' => e = .returned (.tuple #[.int .i64 0, .slice .none 0 0, .int .i64 3]) ∧ w' = w := by
  have c := get_no h i
  go_enter Tryd.func18, Tryd.ntmps18
  go_wp2_with (go_at_call 26; refine c.mono ?_; rintro _ _ ⟨rfl, rfl⟩)
  go_ret3
  exact ⟨rfl, rfl⟩
theorem find_no {w : World} {v : Value} (h : Uns w v) (i : Int) (s : ByteArray) : Calls Tryd.prog 4 #[v, .int .i64 i, .string s] w fun e w' => e = .returned (.tuple #[.int .i64 0, .int .i64 3]) ∧ w' = w := by
  have c := start_no h i s
  go_enter Tryd.func4, Tryd.ntmps4
  go_wp2_with (go_at_call 18; refine c.mono ?_; rintro _ _ ⟨rfl, rfl⟩)
  go_ret2
  exact ⟨rfl, rfl⟩
theorem dir_no {w : World} {v : Value} (h : Uns w v) (i : Int) : Calls Tryd.prog 37 #[v, .int .i64 i] w fun e w' => e = .returned (.tuple #[.pointer .none, .int .i64 183]) ∧ w' = w := by
  have c := get_no h i
  go_enter Tryd.func37, Tryd.ntmps37
  go_wp2_with (go_at_call 26; refine c.mono ?_; rintro _ _ ⟨rfl, rfl⟩)
  go_ret2
  exact ⟨rfl, rfl⟩
theorem list_no {w : World} {v : Value} (h : Uns w v) (i : Int) : Calls Tryd.prog 15 #[v, .int .i64 i] w fun e w' => e = .returned (.slice .none 0 0) ∧ w' = w := by
  have c := dir_no h i
  go_enter Tryd.func15, Tryd.ntmps15
  go_wp2_with (go_at_call 37; refine c.mono ?_; rintro _ _ ⟨rfl, rfl⟩)
  go_ret
  exact ⟨rfl, rfl⟩
theorem write_no {w : World} {v : Value} (h : Uns w v) (i o : Int) (sp : Option Addr) (ln cp : Nat) : Calls Tryd.prog 9 #[v, .int .i64 i, .int .i64 o, .slice sp ln cp] w fun e w' => e = .returned (.int .i64 0) ∧ w' = w := by
  have c := get_no h i
  go_enter Tryd.func9, Tryd.ntmps9
  go_wp2_with (go_at_call 26; refine c.mono ?_; rintro _ _ ⟨rfl, rfl⟩)
  go_ret
  exact ⟨rfl, rfl⟩
theorem trunc_no {w : World} {v : Value} (h : Uns w v) (i : Int) : Calls Tryd.prog 10 #[v, .int .i64 i] w fun e w' => e = .returned (.int .i64 3) ∧ w' = w := by
  have c := get_no h i
  go_enter Tryd.func10, Tryd.ntmps10
  go_wp2_with (go_at_call 26; refine c.mono ?_; rintro _ _ ⟨rfl, rfl⟩)
  go_ret
  exact ⟨rfl, rfl⟩
theorem hold_no {w : World} {v : Value} (h : Uns w v) (i : Int) : Calls Tryd.prog 11 #[v, .int .i64 i] w fun e w' => e = .returned (.int .i64 3) ∧ w' = w := by
  have c := get_no h i
  go_enter Tryd.func11, Tryd.ntmps11
  go_wp2_with (go_at_call 26; refine c.mono ?_; rintro _ _ ⟨rfl, rfl⟩)
  go_ret
  exact ⟨rfl, rfl⟩
theorem drop_no {w : World} {v : Value} (h : Uns w v) (i : Int) : Calls Tryd.prog 12 #[v, .int .i64 i] w fun e w' => e = .returned (.int .i64 3) ∧ w' = w := by
  have c := get_no h i
  go_enter Tryd.func12, Tryd.ntmps12
  go_wp2_with (go_at_call 26; refine c.mono ?_; rintro _ _ ⟨rfl, rfl⟩)
  go_ret
  exact ⟨rfl, rfl⟩
theorem link_no {w : World} {v : Value} (h : Uns w v) (i k : Int) (s : ByteArray) : Calls Tryd.prog 6 #[v, .int .i64 i, .int .i64 k, .string s] w fun e w' => e = .returned (.int .i64 3) ∧ Below w.heap.size w w' := by
  have c := get_no h i
  go_enter Tryd.func6, Tryd.ntmps6
  go_wp2_with (go_at_call 26; refine c.mono ?_; rintro _ _ ⟨rfl, rfl⟩)
  go_ret
  exact ⟨rfl, Below.refl _ _⟩
theorem frames_nil (w : World) : Calls Tryd.prog 40 #[.pointer .none] w fun e w' => e = .returned (.int .i64 0) ∧ w' = w := by
  have c : Calls Tryd.prog 53 #[.pointer .none] w fun e w' => e = .returned (.bool false) ∧ w' = w := by
    go_enter Tryd.func53, Tryd.ntmps53
    go_wp2
    go_ret
    exact ⟨rfl, rfl⟩
  go_enter Tryd.func40, Tryd.ntmps40
  go_wp2_with (go_at_call 53; refine c.mono ?_; rintro _ _ ⟨rfl, rfl⟩)
  go_ret
  exact ⟨rfl, rfl⟩
theorem new_nil (w : World) : Calls Tryd.prog 17 #[.pointer .none] w fun e w' => e = .returned (.tuple #[.pointer .none, .int .i64 3]) ∧ w' = w := by
  have c := frames_nil w
  go_enter Tryd.func17, Tryd.ntmps17
  go_wp2_with (go_at_call 40; refine c.mono ?_; rintro _ _ ⟨rfl, rfl⟩)
  go_ret2
  exact ⟨rfl, rfl⟩
theorem frames_plain {w : World} {p : Nat} (hc : w.cell? ⟨p, 0, .none⟩ = some (.slice .none 0 0)) : Calls Tryd.prog 40 #[.pointer (some ⟨p, 0, .none⟩)] w fun e w' => e = .returned (.int .i64 0) ∧ w' = w := by
  have c : Calls Tryd.prog 53 #[.pointer (some ⟨p, 0, .none⟩)] w fun e w' => e = .returned (.bool false) ∧ w' = w := by
    go_enter Tryd.func53, Tryd.ntmps53
    go_wp2
    go_ret
    exact ⟨rfl, rfl⟩
  go_enter Tryd.func40, Tryd.ntmps40
  go_wp2_with (go_at_call 53; refine c.mono ?_; rintro _ _ ⟨rfl, rfl⟩)
  go_ret
  exact ⟨rfl, rfl⟩
theorem new_plain {w : World} {p : Nat} (hc : w.cell? ⟨p, 0, .none⟩ = some (.slice .none 0 0)) : Calls Tryd.prog 17 #[.pointer (some ⟨p, 0, .none⟩)] w fun e w' => e = .returned (.tuple #[.pointer .none, .int .i64 3]) ∧ w' = w := by
  have c := frames_plain hc
  go_enter Tryd.func17, Tryd.ntmps17
  go_wp2_with (go_at_call 40; refine c.mono ?_; rintro _ _ ⟨rfl, rfl⟩)
  go_ret2
  exact ⟨rfl, rfl⟩
end Go.Proofs.YthmklphldejmeaaDoor
