import Derived.Test.YtfafinjbobmafaaDoorPairs
import Derived.Test.YtfafinjbobmafaaDoorIsA
namespace Go.Proofs.YtfafinjbobmafaaDoor
open Go.RowKit
set_option linter.unusedVariables false
set_option maxHeartbeats 4000000 in
set_option maxRecDepth 100000 in
theorem words_yes (q r c y t : Int) (ok : Bool) (s n g : ByteArray) (w : World)
    (cN : ∀ w, Calls Tryd.prog 7 #[.string s] w fun e w' => e = .returned (.tuple #[.int .i64 c, .bool ok]) ∧ Below w.heap.size w w')
    (cN2 : ∀ w, Calls Tryd.prog 12 #[.string s] w fun e w' => e = .returned (.tuple #[.int .i64 c, .bool ok]) ∧ Below w.heap.size w w')
    (cR : ∀ w, Calls Tryd.prog 11 #[.string s] w fun e w' => e = .returned (.tuple #[.int .i64 y, .nilIface]) ∧ Below w.heap.size w w')
    (cR2 : ∀ w, Calls Tryd.prog 13 #[.string s] w fun e w' => e = .returned (.tuple #[.int .i64 y, .bool true]) ∧ Below w.heap.size w w')
    (cS : ∀ w, Calls Tryd.prog 9 #[.int .i64 q] w fun e w' => e = .returned (.int .i64 t) ∧ Below w.heap.size w w')
    (cS2 : ∀ w, Calls Tryd.prog 16 #[.int .i64 q] w fun e w' => e = .returned (.int .i64 t) ∧ Below w.heap.size w w')
    (cM : ∀ w, Calls Tryd.prog 8 #[.int .i64 q] w fun e w' => e = .returned (.string n) ∧ Below w.heap.size w w')
    (cM2 : ∀ w, Calls Tryd.prog 17 #[.int .i64 q] w fun e w' => e = .returned (.string n) ∧ Below w.heap.size w w')
    (cG : ∀ w, Calls Tryd.prog 10 #[.int .i64 r] w fun e w' => e = .returned (.string g) ∧ Below w.heap.size w w')
    (cG2 : ∀ w, Calls Tryd.prog 18 #[.int .i64 r] w fun e w' => e = .returned (.string g) ∧ Below w.heap.size w w') :
    Calls Tryd.prog 4 #[.int .i64 q, .string s, .int .i64 r] w fun e w' => e = .returned (.bool true) ∧ Below w.heap.size w w' := by
  go_enter Tryd.func4, Tryd.ntmps4
  go_wp2_with fail
  refine (cN _).mono ?_
  rintro e w1 ⟨rfl, hB1⟩
  go_wp2_with fail
  refine (cN2 _).mono ?_
  rintro e w2 ⟨rfl, hb2⟩
  have hB2 := bseq hB1 hb2
  clear hb2 hB1 cN cN2
  go_wp2_with fail
  refine (cR _).mono ?_
  rintro e w3 ⟨rfl, hb3⟩
  have hB3 := bseq hB2 hb3
  clear hb3 hB2 cR
  go_wp2_with fail
  refine (cR2 _).mono ?_
  rintro e w4 ⟨rfl, hb4⟩
  have hB4 := bseq hB3 hb4
  clear hb4 hB3 cR2
  go_wp2_with fail
  refine (none_any _).mono ?_
  rintro e w5 ⟨rfl, rfl⟩
  have z4 := hB4.size
  have hB5 : Below w.heap.size w (w4.alloc (.cells #[.slice .none 0 0, .int .i64 0] 40)) := hB4.alloc (by omega) _
  generalize hw5 : w4.alloc (.cells #[.slice .none 0 0, .int .i64 0] 40) = w5 at hB5 ⊢
  have z5 := hB5.size
  clear hw5 hB4
  have R5 := row2_new w5 (.slice .none 0 0) (.int .i64 0) 40
  have hB6 : Below w.heap.size w (w5.alloc (.cells #[.slice .none 0 0, .int .i64 0] 40)) := hB5.alloc (by omega) _
  clear hB5
  go_wp2_with fail
  refine (cS _).mono ?_
  rintro e w7 ⟨rfl, hb7⟩
  have hB7 := bseq hB6 hb7
  have z7 := hb7.size
  simp only [World.size_alloc] at z7
  have R7 := row2_keep hb7 (by simp only [World.size_alloc]; omega) R5
  clear hb7 hB6 R5 cS
  go_wp2_with fail
  refine (cS2 _).mono ?_
  rintro e w8 ⟨rfl, hb8⟩
  have hB8 := bseq hB7 hb8
  have z8 := hb8.size
  have R8 := row2_keep hb8 (by omega) R7
  clear hb8 hB7 R7 cS2
  go_wp2_with fail
  refine (cM _).mono ?_
  rintro e w9 ⟨rfl, hb9⟩
  have hB9 := bseq hB8 hb9
  have z9 := hb9.size
  have R9 := row2_keep hb9 (by omega) R8
  clear hb9 hB8 R8 cM
  go_wp2_with fail
  refine (cM2 _).mono ?_
  rintro e w10 ⟨rfl, hb10⟩
  have hB10 := bseq hB9 hb10
  have z10 := hb10.size
  have R10 := row2_keep hb10 (by omega) R9
  clear hb10 hB9 R9 cM2
  go_wp2_with fail
  refine (cG _).mono ?_
  rintro e w11 ⟨rfl, hb11⟩
  have hB11 := bseq hB10 hb11
  have z11 := hb11.size
  have R11 := row2_keep hb11 (by omega) R10
  clear hb11 hB10 R10 cG
  go_wp2_with fail
  refine (cG2 _).mono ?_
  rintro e w12 ⟨rfl, hb12⟩
  have hB12 := bseq hB11 hb12
  have z12 := hb12.size
  obtain ⟨k0, k1⟩ := row2_keep hb12 (by omega) R11
  clear hb12 hB11 R11 cG2
  go_wp2_with fail
  refine (is_none _).mono ?_
  rintro e w13 ⟨rfl, hb13⟩
  have hB13 := bseq hB12 hb13
  clear hb13 hB12 k0 k1
  go_wp2
  go_ret
  exact ⟨rfl, hB13⟩
end Go.Proofs.YtfafinjbobmafaaDoor
