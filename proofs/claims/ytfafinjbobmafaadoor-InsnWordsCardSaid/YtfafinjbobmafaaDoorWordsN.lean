import Derived.Test.YtfafinjbobmafaaDoorPairs
import Derived.Test.YtfafinjbobmafaaDoorIsA
namespace Go.Proofs.YtfafinjbobmafaaDoor
open Go.RowKit
set_option linter.unusedVariables false
theorem faultIn_keep {W w' : World} {B : Nat} {v : Value} {a r : Int} (h : Below W.heap.size W w') (hF : FaultIn W B v a r) : FaultIn w' 0 v a r := by
  obtain ⟨b, _, hb, hv, f0, f1, f2⟩ := hF
  exact ⟨b, Nat.zero_le _, Nat.lt_of_lt_of_le hb h.size, hv, (h.cell hb).trans f0, (h.cell hb).trans f1, (h.cell hb).trans f2⟩
set_option maxHeartbeats 4000000 in
set_option maxRecDepth 100000 in
theorem words_no (q r c t : Int) (ok : Bool) (s n g : ByteArray) (w : World)
    (cN : ∀ w, Calls Tryd.prog 7 #[.string s] w fun e w' => e = .returned (.tuple #[.int .i64 c, .bool ok]) ∧ Below w.heap.size w w')
    (cN2 : ∀ w, Calls Tryd.prog 12 #[.string s] w fun e w' => e = .returned (.tuple #[.int .i64 c, .bool ok]) ∧ Below w.heap.size w w')
    (cR : ∀ w, Calls Tryd.prog 11 #[.string s] w fun e w' => (∃ v, e = .returned (.tuple #[.int .i64 0, v]) ∧ FaultIn w' w.heap.size v 0 24) ∧ Below w.heap.size w w')
    (cR2 : ∀ w, Calls Tryd.prog 13 #[.string s] w fun e w' => e = .returned (.tuple #[.int .i64 0, .bool false]) ∧ Below w.heap.size w w')
    (cS : ∀ w, Calls Tryd.prog 9 #[.int .i64 q] w fun e w' => e = .returned (.int .i64 t) ∧ Below w.heap.size w w')
    (cS2 : ∀ w, Calls Tryd.prog 16 #[.int .i64 q] w fun e w' => e = .returned (.int .i64 t) ∧ Below w.heap.size w w')
    (cM : ∀ w, Calls Tryd.prog 8 #[.int .i64 q] w fun e w' => e = .returned (.string n) ∧ Below w.heap.size w w')
    (cM2 : ∀ w, Calls Tryd.prog 17 #[.int .i64 q] w fun e w' => e = .returned (.string n) ∧ Below w.heap.size w w')
    (cG : ∀ w, Calls Tryd.prog 10 #[.int .i64 r] w fun e w' => e = .returned (.string g) ∧ Below w.heap.size w w')
    (cG2 : ∀ w, Calls Tryd.prog 18 #[.int .i64 r] w fun e w' => e = .returned (.string g) ∧ Below w.heap.size w w') :
    Calls Tryd.prog 4 #[.int .i64 q, .string s, .int .i64 r] w fun e w' => e = .returned (.bool true) ∧ Below w.heap.size w w' := by
  go_enter Tryd.func4, Tryd.ntmps4
  go_wp2_with fail
  refine (cN _).mono ?_
  rintro e w1 ⟨rfl, hB1⟩
  go_wp2_with fail
  refine (cN2 _).mono ?_
  rintro e w2 ⟨rfl, hb2⟩
  have hB2 := bseq hB1 hb2
  clear hb2 hB1 cN cN2
  go_wp2_with fail
  refine (cR _).mono ?_
  rintro e w3 ⟨⟨v, rfl, hF3⟩, hb3⟩
  have hB3 := bseq hB2 hb3
  clear hb3 hB2 cR
  go_wp2_with fail
  refine (cR2 _).mono ?_
  rintro e w4 ⟨rfl, hb4⟩
  have z3 := hb4.size
  have hB4 := bseq hB3 hb4
  have F4 : Below w3.heap.size w3 w4 := hb4
  clear hb4 hB3 cR2
  go_wp2_with fail
  refine (none_any _).mono ?_
  rintro e w5 ⟨rfl, rfl⟩
  have z4 := hB4.size
  have hB5 : Below w.heap.size w (w4.alloc (.cells #[.slice .none 0 0, .int .i64 0] 40)) := hB4.alloc (by omega) _
  have F5 : Below w3.heap.size w3 (w4.alloc (.cells #[.slice .none 0 0, .int .i64 0] 40)) := F4.alloc (by omega) _
  generalize hw5 : w4.alloc (.cells #[.slice .none 0 0, .int .i64 0] 40) = w5 at hB5 F5 ⊢
  have z5 := hB5.size
  have y5 := F5.size
  clear hw5 hB4 F4
  have R5 := row2_new w5 (.slice .none 0 0) (.int .i64 0) 40
  have hB6 : Below w.heap.size w (w5.alloc (.cells #[.slice .none 0 0, .int .i64 0] 40)) := hB5.alloc (by omega) _
  have F6 : Below w3.heap.size w3 (w5.alloc (.cells #[.slice .none 0 0, .int .i64 0] 40)) := F5.alloc (by omega) _
  clear hB5 F5
  go_wp2_with fail
  refine (lfault_new 0 24 _ (by decide)).mono ?_
  rintro e w6 ⟨⟨B, hle, hlt, rfl, q0, q1⟩, hb6⟩
  have z6 := hb6.size
  simp only [World.size_alloc] at z6 hle
  have y6 : w5.heap.size < w6.heap.size := by omega
  obtain ⟨k0, k1⟩ := row2_keep hb6 (by simp only [World.size_alloc]; omega) R5
  have hfz : ∀ j, w6.frozen? ⟨w5.heap.size, j, .none⟩ = false := fun j => (hb6.frozen (p := ⟨w5.heap.size, j, .none⟩) (by simp only [World.size_alloc]; omega)).trans (by simp)
  have hB6' := hB6.trans (hb6.mono (by simp only [World.size_alloc]; omega))
  have F6' := F6.trans (hb6.mono (by simp only [World.size_alloc]; omega))
  clear hb6 hB6 F6 R5
  have hne : B ≠ w5.heap.size := by omega
  have R6 : Row2 ((w6.setCell ⟨w5.heap.size, 0, .none⟩ (.slice (some ⟨B, 0, .none⟩) 1 1)).setCell ⟨w5.heap.size, 1, .none⟩ (.int .i64 24)) w5.heap.size (.slice (some ⟨B, 0, .none⟩) 1 1) (.int .i64 24) := ⟨by simp [go_sem, k0], by simp [go_sem, k1]⟩
  have Q6 : Row2 ((w6.setCell ⟨w5.heap.size, 0, .none⟩ (.slice (some ⟨B, 0, .none⟩) 1 1)).setCell ⟨w5.heap.size, 1, .none⟩ (.int .i64 24)) B (.string insnB) (.int .i64 0) := ⟨by simp [go_sem, q0], by simp [go_sem, q1]⟩
  have hB7 : Below w.heap.size w ((w6.setCell ⟨w5.heap.size, 0, .none⟩ (.slice (some ⟨B, 0, .none⟩) 1 1)).setCell ⟨w5.heap.size, 1, .none⟩ (.int .i64 24)) := (hB6'.setCell (by show w.heap.size ≤ w5.heap.size; omega) _).setCell (by show w.heap.size ≤ w5.heap.size; omega) _
  have F7 := faultIn_keep (show Below w3.heap.size w3 ((w6.setCell ⟨w5.heap.size, 0, .none⟩ (.slice (some ⟨B, 0, .none⟩) 1 1)).setCell ⟨w5.heap.size, 1, .none⟩ (.int .i64 24)) from (F6'.setCell (by show w3.heap.size ≤ w5.heap.size; omega) _).setCell (by show w3.heap.size ≤ w5.heap.size; omega) _) hF3
  have z7' : ((w6.setCell ⟨w5.heap.size, 0, .none⟩ (.slice (some ⟨B, 0, .none⟩) 1 1)).setCell ⟨w5.heap.size, 1, .none⟩ (.int .i64 24)).heap.size = w6.heap.size := by simp [World.setCell]
  clear hB6' F6' hF3 q0 q1
  go_wp2_with fail
  generalize ((w6.setCell ⟨w5.heap.size, 0, .none⟩ (.slice (some ⟨B, 0, .none⟩) 1 1)).setCell ⟨w5.heap.size, 1, .none⟩ (.int .i64 24)) = W6 at R6 Q6 hB7 F7 z7' ⊢
  have hB0 := hB7
  have u1 : w5.heap.size < W6.heap.size := by omega
  have u2 : B < W6.heap.size := by omega
  clear k0 k1 hfz hB7 z7' y6 hlt
  refine (cS _).mono ?_
  rintro e w7 ⟨rfl, hb7⟩
  have hB7 := bseq hB0 hb7
  have z7 := hb7.size
  have R7 := row2_keep hb7 (by omega) R6
  have Q7 := row2_keep hb7 (by omega) Q6
  have G7 := faultIn_keep hb7 F7
  have ua7 : w5.heap.size < w7.heap.size := by omega
  have ub7 : B < w7.heap.size := by omega
  clear hb7 hB0 R6 Q6 F7 u1 u2 z7 cS
  go_wp2_with fail
  refine (cS2 _).mono ?_
  rintro e w8 ⟨rfl, hb8⟩
  have hB8 := bseq hB7 hb8
  have z8 := hb8.size
  have R8 := row2_keep hb8 (by omega) R7
  have Q8 := row2_keep hb8 (by omega) Q7
  have G8 := faultIn_keep hb8 G7
  have ua8 : w5.heap.size < w8.heap.size := by omega
  have ub8 : B < w8.heap.size := by omega
  clear hb8 hB7 R7 Q7 G7 ua7 ub7 z8 cS2
  go_wp2_with fail
  refine (cM _).mono ?_
  rintro e w9 ⟨rfl, hb9⟩
  have hB9 := bseq hB8 hb9
  have z9 := hb9.size
  have R9 := row2_keep hb9 (by omega) R8
  have Q9 := row2_keep hb9 (by omega) Q8
  have G9 := faultIn_keep hb9 G8
  have ua9 : w5.heap.size < w9.heap.size := by omega
  have ub9 : B < w9.heap.size := by omega
  clear hb9 hB8 R8 Q8 G8 ua8 ub8 z9 cM
  go_wp2_with fail
  refine (cM2 _).mono ?_
  rintro e w10 ⟨rfl, hb10⟩
  have hB10 := bseq hB9 hb10
  have z10 := hb10.size
  have R10 := row2_keep hb10 (by omega) R9
  have Q10 := row2_keep hb10 (by omega) Q9
  have G10 := faultIn_keep hb10 G9
  have ua10 : w5.heap.size < w10.heap.size := by omega
  have ub10 : B < w10.heap.size := by omega
  clear hb10 hB9 R9 Q9 G9 ua9 ub9 z10 cM2
  go_wp2_with fail
  refine (cG _).mono ?_
  rintro e w11 ⟨rfl, hb11⟩
  have hB11 := bseq hB10 hb11
  have z11 := hb11.size
  have R11 := row2_keep hb11 (by omega) R10
  have Q11 := row2_keep hb11 (by omega) Q10
  have G11 := faultIn_keep hb11 G10
  have ua11 : w5.heap.size < w11.heap.size := by omega
  have ub11 : B < w11.heap.size := by omega
  clear hb11 hB10 R10 Q10 G10 ua10 ub10 z11 cG
  go_wp2_with fail
  refine (cG2 _).mono ?_
  rintro e w12 ⟨rfl, hb12⟩
  have hB12 := bseq hB11 hb12
  have z12 := hb12.size
  have R12 := row2_keep hb12 (by omega) R11
  have Q12 := row2_keep hb12 (by omega) Q11
  have G12 := faultIn_keep hb12 G11
  have ua12 : w5.heap.size < w12.heap.size := by omega
  have ub12 : B < w12.heap.size := by omega
  clear hb12 hB11 R11 Q11 G11 ua11 ub11 z12 cG2
  have hI := is_fault v B 1 0 24 w12 G12 (by decide) ub12 Q12.1 Q12.2
  obtain ⟨k0, k1⟩ := R12
  clear G12 Q12
  go_wp2_with fail
  refine hI.mono ?_
  rintro e w13 ⟨rfl, hb13⟩
  have hB13 := bseq hB12 hb13
  clear hb13 hB12 k0 k1 hI
  go_wp2
  go_ret
  exact ⟨rfl, hB13⟩
end Go.Proofs.YtfafinjbobmafaaDoor
