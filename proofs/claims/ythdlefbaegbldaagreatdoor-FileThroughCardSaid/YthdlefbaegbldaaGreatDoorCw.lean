import Derived.Test.YthdlefbaegbldaaGreatDoorCv
namespace Go.Proofs.YthdlefbaegbldaaGreatDoor
open Go.RowKit
set_option linter.unusedVariables false
set_option linter.unusedSimpArgs false
set_option maxRecDepth 100000
set_option maxHeartbeats 2000000 in
theorem type_add0 {w : World} {b : Nat} {rs ls : List Int} (h : Con w b rs ls) (hd : Dd w) (x : Int) (hx : 0 ≤ x ∧ x < 256) (hdd : dd x = 0) {R L E : List Int} {B : Bool}
    (c : Calls Tryz.prog 96 #[.pointer (some ⟨b, 0, .none⟩), .int .u8 x] w (Ty w b R L E B)) :
    Calls Tryz.prog 75 #[.pointer (some ⟨b, 0, .none⟩), .int .u8 x] w (Ty w b R L E B) := by
  have c31 := isMade_any h
  have c32 := deedOf_any hd x hx
  rw [hdd] at c32
  have HC : Hid (Calls Tryz.prog 96 #[.pointer (some ⟨b, 0, .none⟩), .int .u8 x] w (Ty w b R L E B)) := c
  clear h hd hdd c
  go_enter Tryz.func75, Tryz.ntmps75
  go_wp2_with fail
  refine c31.mono ?_
  rintro e w1 ⟨rfl, hw1⟩
  obtain rfl : w = w1 := hw1.symm
  go_wp2_with fail
  refine c32.mono ?_
  rintro e w1 ⟨rfl, hw1⟩
  obtain rfl : w = w1 := hw1.symm
  clear c31 c32
  go_wp2_with fail
  refine HC.out.mono ?_
  rintro e W1 ⟨p, c, rfl, hO, hC, hT⟩
  have H1 : Hid (W1.ownsRow w.heap.size 5 1 (.slice p E.length c) E.length (by8 E) ∧ Con W1 b R L ∧ Trn b w W1) := ⟨hO, hC, hT⟩
  clear hO hC hT HC
  go_wp2
  go_ret2
  exact ⟨p, c, rfl, H1.out.1, H1.out.2.1, H1.out.2.2⟩
set_option maxHeartbeats 2000000 in
theorem type_add6 {w : World} {b : Nat} {rs ls : List Int} (h : Con w b rs ls) (hd : Dd w) (x : Int) (hx : 0 ≤ x ∧ x < 256) (hdd : dd x = 6) {R L E : List Int} {B : Bool}
    (c : Calls Tryz.prog 96 #[.pointer (some ⟨b, 0, .none⟩), .int .u8 x] w (Ty w b R L E B)) :
    Calls Tryz.prog 75 #[.pointer (some ⟨b, 0, .none⟩), .int .u8 x] w (Ty w b R L E B) := by
  have c31 := isMade_any h
  have c32 := deedOf_any hd x hx
  rw [hdd] at c32
  have HC : Hid (Calls Tryz.prog 96 #[.pointer (some ⟨b, 0, .none⟩), .int .u8 x] w (Ty w b R L E B)) := c
  clear h hd hdd c
  go_enter Tryz.func75, Tryz.ntmps75
  go_wp2_with fail
  refine c31.mono ?_
  rintro e w1 ⟨rfl, hw1⟩
  obtain rfl : w = w1 := hw1.symm
  go_wp2_with fail
  refine c32.mono ?_
  rintro e w1 ⟨rfl, hw1⟩
  obtain rfl : w = w1 := hw1.symm
  clear c31 c32
  go_wp2_with fail
  refine HC.out.mono ?_
  rintro e W1 ⟨p, c, rfl, hO, hC, hT⟩
  have H1 : Hid (W1.ownsRow w.heap.size 5 1 (.slice p E.length c) E.length (by8 E) ∧ Con W1 b R L ∧ Trn b w W1) := ⟨hO, hC, hT⟩
  clear hO hC hT HC
  go_wp2
  go_ret2
  exact ⟨p, c, rfl, H1.out.1, H1.out.2.1, H1.out.2.2⟩
set_option maxHeartbeats 2000000 in
theorem type_add7 {w : World} {b : Nat} {rs ls : List Int} (h : Con w b rs ls) (hd : Dd w) (x : Int) (hx : 0 ≤ x ∧ x < 256) (hdd : dd x = 7) {R L E : List Int} {B : Bool}
    (c : Calls Tryz.prog 96 #[.pointer (some ⟨b, 0, .none⟩), .int .u8 x] w (Ty w b R L E B)) :
    Calls Tryz.prog 75 #[.pointer (some ⟨b, 0, .none⟩), .int .u8 x] w (Ty w b R L E B) := by
  have c31 := isMade_any h
  have c32 := deedOf_any hd x hx
  rw [hdd] at c32
  have HC : Hid (Calls Tryz.prog 96 #[.pointer (some ⟨b, 0, .none⟩), .int .u8 x] w (Ty w b R L E B)) := c
  clear h hd hdd c
  go_enter Tryz.func75, Tryz.ntmps75
  go_wp2_with fail
  refine c31.mono ?_
  rintro e w1 ⟨rfl, hw1⟩
  obtain rfl : w = w1 := hw1.symm
  go_wp2_with fail
  refine c32.mono ?_
  rintro e w1 ⟨rfl, hw1⟩
  obtain rfl : w = w1 := hw1.symm
  clear c31 c32
  go_wp2_with fail
  refine HC.out.mono ?_
  rintro e W1 ⟨p, c, rfl, hO, hC, hT⟩
  have H1 : Hid (W1.ownsRow w.heap.size 5 1 (.slice p E.length c) E.length (by8 E) ∧ Con W1 b R L ∧ Trn b w W1) := ⟨hO, hC, hT⟩
  clear hO hC hT HC
  go_wp2
  go_ret2
  exact ⟨p, c, rfl, H1.out.1, H1.out.2.1, H1.out.2.2⟩
set_option maxHeartbeats 2000000 in
theorem type_add5 {w : World} {b : Nat} {rs ls : List Int} (h : Con w b rs ls) (hd : Dd w) (x : Int) (hx : 0 ≤ x ∧ x < 256) (hdd : dd x = 5) {R L E : List Int} {B : Bool}
    (c : Calls Tryz.prog 96 #[.pointer (some ⟨b, 0, .none⟩), .int .u8 10] w (Ty w b R L E B)) :
    Calls Tryz.prog 75 #[.pointer (some ⟨b, 0, .none⟩), .int .u8 x] w (Ty w b R L E B) := by
  have c31 := isMade_any h
  have c32 := deedOf_any hd x hx
  rw [hdd] at c32
  have HC : Hid (Calls Tryz.prog 96 #[.pointer (some ⟨b, 0, .none⟩), .int .u8 10] w (Ty w b R L E B)) := c
  clear h hd hdd c
  go_enter Tryz.func75, Tryz.ntmps75
  go_wp2_with fail
  refine c31.mono ?_
  rintro e w1 ⟨rfl, hw1⟩
  obtain rfl : w = w1 := hw1.symm
  go_wp2_with fail
  refine c32.mono ?_
  rintro e w1 ⟨rfl, hw1⟩
  obtain rfl : w = w1 := hw1.symm
  clear c31 c32
  go_wp2_with fail
  refine HC.out.mono ?_
  rintro e W1 ⟨p, c, rfl, hO, hC, hT⟩
  have H1 : Hid (W1.ownsRow w.heap.size 5 1 (.slice p E.length c) E.length (by8 E) ∧ Con W1 b R L ∧ Trn b w W1) := ⟨hO, hC, hT⟩
  clear hO hC hT HC
  go_wp2
  go_ret2
  exact ⟨p, c, rfl, H1.out.1, H1.out.2.1, H1.out.2.2⟩

set_option maxHeartbeats 2000000 in
theorem type_zero {w : World} {b : Nat} {rs ls : List Int} (h : Con w b rs ls) (hd : Dd w) :
    Calls Tryz.prog 75 #[.pointer (some ⟨b, 0, .none⟩), .int .u8 0] w (Ty w b rs ls [] false) := by
  have c31 := isMade_any h
  have c32 := deedOf_any hd 0 (by decide)
  have e21 : dd 0 = 1 := by decide
  rw [e21] at c32
  have HC : Hid (Con w b rs ls) := h
  clear h hd e21
  go_enter Tryz.func75, Tryz.ntmps75
  go_wp2_with fail
  refine c31.mono ?_
  rintro e w1 ⟨rfl, hw1⟩
  obtain rfl : w = w1 := hw1.symm
  go_wp2_with fail
  refine c32.mono ?_
  rintro e w1 ⟨rfl, hw1⟩
  obtain rfl : w = w1 := hw1.symm
  clear c31 c32
  go_wp2
  go_ret2
  exact ⟨none, 0, rfl, World.ownsRow_nil _ _ _ _, HC.out, Trn.refl _ _⟩
theorem fin_iff (x : Int) : fin x = true ↔ x = 10 ∨ x = 4 := by unfold fin; simp
/-- Type. -/
theorem type_any {w : World} {b : Nat} {rs ls : List Int} (h : Con w b rs ls) (hd : Dd w) (x : Int) (hx : 0 ≤ x ∧ x < 256) :
    Calls Tryz.prog 75 #[.pointer (some ⟨b, 0, .none⟩), .int .u8 x] w (Ty w b (tyR rs ls x) (tyL rs ls x) (tyE rs ls x) (tyB rs ls x)) := by
  by_cases h21 : x = 21
  · subst h21
    have := type_kill h hd
    simpa [tyR, tyL, tyE, tyB] using this
  by_cases h8 : x = 8
  · subst h8
    have := type_erase h hd
    have e : ls.length - min 1 ls.length = ls.length - 1 := by omega
    rw [e] at this
    simpa [tyR, tyL, tyE, tyB] using this
  by_cases h127 : x = 127
  · subst h127
    have := type_delete h hd
    have e : ls.length - min 1 ls.length = ls.length - 1 := by omega
    rw [e] at this
    simpa [tyR, tyL, tyE, tyB] using this
  by_cases h0 : x = 0
  · subst h0
    have := type_zero h hd
    simpa [tyR, tyL, tyE, tyB] using this
  have hk := key_byte x hx
  have key5 : Calls Tryz.prog 96 #[.pointer (some ⟨b, 0, .none⟩), .int .u8 (key x)] w (Ty w b (tyR rs ls x) (tyL rs ls x) (tyE rs ls x) (tyB rs ls x)) := by
    by_cases hf : 128 ≤ rs.length + ls.length
    · have := add_full h (key x) (by have := h.le; omega)
      have e1 : tyR rs ls x = rs := by unfold tyR; rw [if_pos (by omega)]
      have e2 : tyL rs ls x = ls := by unfold tyL; rw [if_neg h21, if_neg (by omega), if_pos (by omega)]
      have e3 : tyE rs ls x = [] := by unfold tyE; rw [if_neg h21, if_neg (by omega), if_pos (by omega)]
      have e4 : tyB rs ls x = false := by unfold tyB; rw [if_pos (by omega)]
      rw [e1, e2, e3, e4]
      exact this
    · have := add_any h hd (key x) hk (by omega)
      have e1 : tyR rs ls x = if fin (key x) = true ∨ rs.length + ls.length + 1 = 128 then rs ++ (ls ++ [key x]) else rs := by
        unfold tyR
        rw [if_neg (by omega)]
        simp only [fin_iff, or_assoc]
      have e2 : tyL rs ls x = if fin (key x) = true ∨ rs.length + ls.length + 1 = 128 then [] else ls ++ [key x] := by
        unfold tyL
        rw [if_neg h21, if_neg (by omega), if_neg (by omega)]
        simp only [fin_iff, or_assoc]
      have e3 : tyE rs ls x = ech (key x) := by unfold tyE; rw [if_neg h21, if_neg (by omega), if_neg (by omega)]; rfl
      have e4 : tyB rs ls x = decide (fin (key x) = true ∨ rs.length + ls.length + 1 = 128) := by
        unfold tyB
        rw [if_neg (by omega)]
        simp only [fin_iff, or_assoc]
      rw [e1, e2, e3, e4]
      exact this
  by_cases h13 : x = 13
  · have e : key x = 10 := by simp [key, h13]
    rw [e] at key5
    exact type_add5 h hd x hx (by rw [h13]; decide) key5
  have e : key x = x := by simp [key, h13]
  rw [e] at key5
  by_cases h10 : x = 10
  · exact type_add6 h hd x hx (by rw [h10]; decide) key5
  by_cases h4 : x = 4
  · exact type_add7 h hd x hx (by rw [h4]; decide) key5
  exact type_add0 h hd x hx (by unfold dd; simp [h0, h4, h8, h10, h13, h21, h127]) key5
set_option maxHeartbeats 2000000 in
theorem peek_no {w : World} {b : Nat} {rs ls : List Int} (h : Con w b rs ls) (h0 : rs.length = 0) (n : Int) :
    Calls Tryz.prog 85 #[.pointer (some ⟨b, 0, .none⟩), .int .i64 n] w (fun e w' => e = .returned (.tuple #[.slice none 0 0, .bool false]) ∧ w' = w) := by
  have c17 := ready_any h
  rw [decide_eq_false (by omega)] at c17
  clear h
  go_enter Tryz.func85, Tryz.ntmps85
  go_wp2_with fail
  refine c17.mono ?_
  rintro e w1 ⟨rfl, hw1⟩
  obtain rfl : w = w1 := hw1.symm
  clear c17
  go_wp2
  go_ret2
  exact ⟨rfl, rfl⟩
set_option maxHeartbeats 2000000 in
theorem peek_any {w : World} {b : Nat} {rs ls : List Int} (h : Con w b rs ls) (h0 : 0 < rs.length) (n : Int) :
    Calls Tryz.prog 85 #[.pointer (some ⟨b, 0, .none⟩), .int .i64 n] w (Ty w b rs ls (rs.take (nxT rs n)) true) := by
  have c17 := ready_any h
  rw [decide_eq_true h0] at c17
  have c36 := next_any h h0 n
  have HC : Hid (Con w b rs ls) := h
  have hT := nxT_le rs n
  have hG := nxG_le rs n h0
  have hle := h.le
  generalize nxT rs n = T at *
  generalize nxG rs n = G at *
  clear h
  have rt := row_to b T T rfl (by omega)
  have lt1 : (rs.take T).length = T := by rw [List.length_take]; omega
  have LT : Hid ((rs.take T).length = T) := lt1
  clear lt1
  go_enter Tryz.func85, Tryz.ntmps85
  go_wp2_with fail
  refine c17.mono ?_
  rintro e w1 ⟨rfl, hw1⟩
  obtain rfl : w = w1 := hw1.symm
  go_wp2_with fail
  refine c36.mono ?_
  rintro e W1 ⟨rfl, k, hk⟩
  have H1 : Hid (Con W1 b rs ls ∧ Trn b w W1 ∧ W1.heap.size = w.heap.size) := by rw [hk]; exact ⟨HC.out.drewN k, Trn.ofDrewN rfl, rfl⟩
  clear hk c17 c36
  have BY : Hid (Byt W1 (some ⟨b, 0, .none⟩) T 128 (rs.take T)) := by
    have := H1.out.1.byt 0 T 128 (by omega) (by omega) (by omega)
    rw [List.drop_zero, List.take_append_of_le_length hT] at this
    exact this
  go_wp2_with fail
  refine (copyOf_any BY.out (by omega)).mono ?_
  rintro e W2 ⟨p, c, rfl, hO, hb⟩
  rw [LT.out] at hO ⊢
  have H2 : Hid (W2.ownsRow w.heap.size 5 1 (.slice p T c) T (by8 (rs.take T)) ∧ Con W2 b rs ls ∧ Trn b w W2 ∧ w.heap.size ≤ W2.heap.size) := ⟨own_mono hO (Nat.le_of_eq H1.out.2.2.symm), H1.out.1.below hb, H1.out.2.1.trans (Trn.ofBelow hb), by have := hb.size; have := H1.out.2.2; omega⟩
  clear hO hb
  go_wp2
  go_ret2
  refine ⟨p, c, by rw [LT.out]; rfl, ?_, H2.out.2.1, H2.out.2.2.1⟩
  rw [LT.out]
  exact H2.out.1
set_option maxHeartbeats 2000000 in
theorem take_no {w : World} {b : Nat} {rs ls : List Int} (h : Con w b rs ls) (h0 : rs.length = 0) (n : Int) :
    Calls Tryz.prog 84 #[.pointer (some ⟨b, 0, .none⟩), .int .i64 n] w (fun e w' => e = .returned (.tuple #[.slice none 0 0, .bool false]) ∧ w' = w) := by
  have c17 := ready_any h
  rw [decide_eq_false (by omega)] at c17
  clear h
  go_enter Tryz.func84, Tryz.ntmps84
  go_wp2_with fail
  refine c17.mono ?_
  rintro e w1 ⟨rfl, hw1⟩
  obtain rfl : w = w1 := hw1.symm
  clear c17
  go_wp2
  go_ret2
  exact ⟨rfl, rfl⟩
set_option maxHeartbeats 2000000 in
theorem take_any {w : World} {b : Nat} {rs ls : List Int} (h : Con w b rs ls) (h0 : 0 < rs.length) (n : Int) :
    Calls Tryz.prog 84 #[.pointer (some ⟨b, 0, .none⟩), .int .i64 n] w (Ty w b (rs.drop (nxG rs n)) ls (rs.take (nxT rs n)) true) := by
  have c17 := ready_any h
  rw [decide_eq_true h0] at c17
  have c36 := next_any h h0 n
  have HC : Hid (Con w b rs ls) := h
  have hT := nxT_le rs n
  have hG := nxG_le rs n h0
  have hle := h.le
  generalize nxT rs n = T at *
  generalize nxG rs n = G at *
  clear h
  have rt := row_to b T T rfl (by omega)
  have lt1 : (rs.take T).length = T := by rw [List.length_take]; omega
  have LT : Hid ((rs.take T).length = T) := lt1
  clear lt1
  go_enter Tryz.func84, Tryz.ntmps84
  go_wp2_with fail
  refine c17.mono ?_
  rintro e w1 ⟨rfl, hw1⟩
  obtain rfl : w = w1 := hw1.symm
  go_wp2_with fail
  refine c36.mono ?_
  rintro e W1 ⟨rfl, k, hk⟩
  have H1 : Hid (Con W1 b rs ls ∧ Trn b w W1 ∧ W1.heap.size = w.heap.size) := by rw [hk]; exact ⟨HC.out.drewN k, Trn.ofDrewN rfl, rfl⟩
  clear hk c17 c36
  have BY : Hid (Byt W1 (some ⟨b, 0, .none⟩) T 128 (rs.take T)) := by
    have := H1.out.1.byt 0 T 128 (by omega) (by omega) (by omega)
    rw [List.drop_zero, List.take_append_of_le_length hT] at this
    exact this
  go_wp2_with fail
  refine (copyOf_any BY.out (by omega)).mono ?_
  rintro e W2 ⟨p, c, rfl, hO, hb⟩
  rw [LT.out] at hO ⊢
  have H2 : Hid (W2.ownsRow w.heap.size 5 1 (.slice p T c) T (by8 (rs.take T)) ∧ Con W2 b rs ls ∧ Trn b w W2 ∧ w.heap.size ≤ W2.heap.size) := ⟨own_mono hO (Nat.le_of_eq H1.out.2.2.symm), H1.out.1.below hb, H1.out.2.1.trans (Trn.ofBelow hb), by have := hb.size; have := H1.out.2.2; omega⟩
  clear hO hb
  go_wp2_with fail
  refine (drop_any H2.out.2.1 G hG).mono ?_
  rintro e W3 ⟨⟨v, rfl⟩, hC, hT3⟩
  have H3 : Hid (W3.ownsRow w.heap.size 5 1 (.slice p T c) T (by8 (rs.take T)) ∧ Con W3 b (rs.drop G) ls ∧ Trn b w W3) := ⟨hT3.own H2.out.1 (fun g hg e => by have := own_block H2.out.1 g hg; have := HC.out.lt; omega), hC, H2.out.2.2.1.trans hT3⟩
  clear hC hT3
  go_wp2
  go_ret2
  refine ⟨p, c, by rw [LT.out]; rfl, ?_, H3.out.2.1, H3.out.2.2⟩
  rw [LT.out]
  exact H3.out.1

end Go.Proofs.YthdlefbaegbldaaGreatDoor
