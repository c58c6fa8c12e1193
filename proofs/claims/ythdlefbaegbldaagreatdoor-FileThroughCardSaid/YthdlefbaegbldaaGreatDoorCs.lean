import Derived.Test.YthdlefbaegbldaaGreatDoorCo
import Derived.Lib.AppendStr
namespace Go.Proofs.YthdlefbaegbldaaGreatDoor
open Go.RowKit
set_option linter.unusedVariables false
set_option linter.unusedSimpArgs false
set_option maxRecDepth 100000
/-- What a key does. -/
def dd (x : Int) : Int := if x = 0 then 1 else if x = 4 then 7 else if x = 8 then 2 else if x = 10 then 6 else if x = 13 then 5 else if x = 21 then 4 else if x = 127 then 3 else 0
/-- The table of keys is laid. -/
def Dd (w : World) : Prop := 0 < w.heap.size ∧ ∀ i : Nat, w.cell? ⟨0, i, .none⟩ = if i < 128 then some (.int .u8 (dd i)) else none
theorem Dd.keep {w v : World} (h : Dd w) {S : Nat → Prop} (t : Chg S w v) (h0 : ¬ S 0) : Dd v := ⟨Nat.lt_of_lt_of_le h.1 t.size, fun i => (t.cell (p := ⟨0, i, .none⟩) h.1 h0).trans (h.2 i)⟩
theorem Dd.below {w v : World} (h : Dd w) (t : Below w.heap.size w v) : Dd v := h.keep (S := fun _ => False) (Chg.ofBelow t) (fun h => h)
theorem Dd.ne {w : World} (h : Dd w) {b : Nat} {rs ls : List Int} (H : Con w b rs ls) : b ≠ 0 := by
  intro e
  subst e
  have h1 := H.cells.2.2.1
  rw [h.2 130] at h1
  simp at h1
set_option maxHeartbeats 1000000 in
theorem deedOf_any {w : World} (h : Dd w) (x : Int) (hx : 0 ≤ x ∧ x < 256) : Calls Tryz.prog 94 #[.int .u8 x] w fun e w' => e = .returned (.int .u8 (dd x)) ∧ w' = w := by
  by_cases h1 : x < 128
  · obtain ⟨n, rfl⟩ : ∃ n : Nat, x = n := ⟨x.toNat, by omega⟩
    have c0 := h.2 n
    rw [if_pos (by omega)] at c0
    generalize dd (n : Int) = d at *
    clear h
    go_enter Tryz.func94, Tryz.ntmps94
    go_wp2
    go_ret
    exact ⟨rfl, rfl⟩
  · have e : dd x = 0 := by unfold dd; repeat' split; all_goals omega
    rw [e]
    clear e h
    go_enter Tryz.func94, Tryz.ntmps94
    go_wp2
    go_ret
    exact ⟨rfl, rfl⟩
theorem dd6 (x : Int) : (dd x == 6) = (x == 10) := by
  unfold dd
  repeat' split
  all_goals (simp; try omega)
theorem dd7 (x : Int) : (dd x == 7) = (x == 4) := by
  unfold dd
  repeat' split
  all_goals (simp; try omega)
/-- Does the byte finish a line? -/
def fin (x : Int) : Bool := x == 10 || x == 4
set_option maxHeartbeats 1000000 in
theorem finishes_any {w : World} (h : Dd w) (x : Int) (hx : 0 ≤ x ∧ x < 256) : Calls Tryz.prog 111 #[.int .u8 x] w fun e w' => e = .returned (.bool (fin x)) ∧ w' = w := by
  have c := deedOf_any h x hx
  have HF : Hid (fin x = (dd x == 6 || dd x == 7)) := by show fin x = _; rw [dd6, dd7]; rfl
  rw [HF.out]
  clear h HF
  generalize dd x = d at *
  by_cases h6 : d = 6
  · subst h6
    go_enter Tryz.func111, Tryz.ntmps111
    go_wp2_with fail
    refine c.mono ?_
    rintro e w1 ⟨rfl, hw1⟩
    obtain rfl : w = w1 := hw1.symm
    clear c
    go_wp2
    go_ret
    exact ⟨rfl, rfl⟩
  · have i6 : (d == 6) = false := by simpa using h6
    clear h6
    go_enter Tryz.func111, Tryz.ntmps111
    go_wp2_with fail
    refine c.mono ?_
    rintro e w1 ⟨rfl, hw1⟩
    obtain rfl : w = w1 := hw1.symm
    clear c
    go_wp2
    go_ret
    exact ⟨by simp [i6], rfl⟩
/-- The echo of a byte that is taken. -/
def ech (x : Int) : List Int := if x = 4 then [] else [x]
theorem own_one (w : World) (x : Int) : (w.alloc (.cells #[.int .u8 x] 5)).ownsRow w.heap.size 5 1 (.slice (some ⟨w.heap.size, 0, .none⟩) 1 1) 1 (by8 [x]) :=
  ⟨rfl, .inr ⟨w.heap.size, 1, #[.int .u8 x], rfl, Nat.le_refl _, heap_new _ _, Nat.le_refl _, by decide, rfl, rfl⟩⟩
set_option maxHeartbeats 1000000 in
theorem echoOf_any {w : World} (h : Dd w) (x : Int) (hx : 0 ≤ x ∧ x < 256) : Calls Tryz.prog 112 #[.int .u8 x] w (Gb (ech x) w) := by
  have c := deedOf_any h x hx
  have e7 := dd7 x
  clear h
  by_cases h4 : x = 4
  · have i7 : (dd x == 7) = true := by rw [e7]; simpa using h4
    have HE : Hid (ech x = []) := by show ech x = []; simp [ech, h4]
    rw [HE.out]
    clear e7 HE h4
    generalize dd x = d at *
    go_enter Tryz.func112, Tryz.ntmps112
    go_wp2_with fail
    refine c.mono ?_
    rintro e w1 ⟨rfl, hw1⟩
    obtain rfl : w = w1 := hw1.symm
    clear c
    go_wp2
    go_ret
    exact gb_nil w
  · have i7 : (dd x == 7) = false := by rw [e7]; simpa using h4
    have HE : Hid (ech x = [x]) := by show ech x = [x]; simp [ech, h4]
    rw [HE.out]
    clear e7 HE h4
    generalize dd x = d at *
    go_enter Tryz.func112, Tryz.ntmps112
    go_wp2_with fail
    refine c.mono ?_
    rintro e w1 ⟨rfl, hw1⟩
    obtain rfl : w = w1 := hw1.symm
    clear c
    go_wp2
    go_ret
    exact ⟨_, _, rfl, own_one w x, Trn.new w _⟩
section
variable {w : World} {b : Nat} {rs ls : List Int}
set_option maxHeartbeats 1000000 in
theorem isMade_any (h : Con w b rs ls) : Calls Tryz.prog 92 #[.pointer (some ⟨b, 0, .none⟩)] w fun e w' => e = .returned (.bool true) ∧ w' = w := by
  have c3 := h.cells.2.2.1
  clear h
  go_enter Tryz.func92, Tryz.ntmps92
  go_wp2
  go_ret
  exact ⟨rfl, rfl⟩
set_option maxHeartbeats 1000000 in
theorem ready_any (h : Con w b rs ls) : Calls Tryz.prog 104 #[.pointer (some ⟨b, 0, .none⟩)] w fun e w' => e = .returned (.bool (decide (0 < rs.length))) ∧ w' = w := by
  have c31 := isMade_any h
  have c1 := h.cells.1
  clear h
  obtain ⟨z, hz⟩ : ∃ z : Bool, z = decide (0 < rs.length) := ⟨_, rfl⟩
  have HZ : Hid (z = decide (0 < rs.length)) := hz
  rw [← hz]
  clear hz
  generalize hL : rs.length = L at *
  have hz2 : (decide ((L : Int) > 0)) = z := by rw [HZ.out]; simp
  clear hL
  go_enter Tryz.func104, Tryz.ntmps104
  go_wp2_with fail
  refine c31.mono ?_
  rintro e w1 ⟨rfl, hw1⟩
  obtain rfl : w = w1 := hw1.symm
  clear c31
  go_wp2
  go_ret
  first | exact ⟨rfl, rfl⟩ | exact ⟨by rw [HZ.out]; simp, rfl⟩
end
/-- Where a byte stands first, as Go says it. -/
def ixI (c : Int) (xs : List Int) : Int := ((ix c xs).map fun (k : Nat) => (k : Int)).getD (-1)
theorem ixI_lib (c : Int) (hc : 0 ≤ c ∧ c < 256) : ∀ (xs : List Int), (∀ x ∈ xs, 0 ≤ x ∧ x < 256) → Lib.indexByte (Lib.bytesOf xs) c.toNat.toUInt8 = ixI c xs
  | [], _ => rfl
  | x :: xs, h => by
    have ih := ixI_lib c hc xs (fun y hy => h y (List.mem_cons_of_mem _ hy))
    have hx := h x (List.mem_cons_self ..)
    have e : Lib.bytesOf (x :: xs) = UInt8.ofNat x.toNat :: Lib.bytesOf xs := rfl
    rw [e, Lib.indexByte, ih]
    by_cases hxc : x = c
    · subst hxc
      simp [ixI, ix]
    · have hne : (UInt8.ofNat x.toNat == c.toNat.toUInt8) = false := by
        rw [beq_eq_false_iff_ne]
        intro h
        have := congrArg UInt8.toNat h
        simp at this
        omega
      rw [hne]
      have h2 : ix c xs = none ∨ ∃ k, ix c xs = some k := by cases ix c xs <;> simp
      rcases h2 with hq | ⟨k, hq⟩
      · simp [ixI, ix, if_neg hxc, hq]
      · simp [ixI, ix, if_neg hxc, hq]
set_option maxHeartbeats 1000000 in
theorem index_any {w : World} {p : Option Addr} {n c : Nat} {xs : List Int} (h : Byt w p n c xs) (hx : ∀ x ∈ xs, 0 ≤ x ∧ x < 256) (hn : 0 < n) (cv : Int) (hc : 0 ≤ cv ∧ cv < 256) : Calls Tryz.prog 116 #[.slice p n c, .int .u8 cv] w fun e w' => e = .returned (.int .i64 (ixI cv xs)) ∧ w' = w := by
  have hE := ixI_lib cv hc xs hx
  obtain ⟨h1, h2, h3, h4⟩ := h
  rcases h4 with h4 | ⟨b, o, rfl, h5, h6⟩
  · omega
  rw [← hE]
  have hcl : ∀ i, i < n → w.cell? ⟨b, o + i, .none⟩ = some (.int .u8 (xs.getD i 0)) := fun i hi => by
    rw [h6 i (xs[i]'(by omega)) (by simp), List.getD_eq_getElem?_getD, List.getElem?_eq_getElem (by omega)]
    rfl
  have HC := Lib.run_indexByteSlice (P := Tryz.prog) w b o n c xs h1 hcl cv
  clear hcl h6 hE
  go_enter Tryz.func116, Tryz.ntmps116
  go_wp2
  rw [run_callFunc_extern Tryz.func120 (by kernel_rfl) (by kernel_rfl) (by kernel_rfl) (e := Extern.BytealgIndexByte.indexByte) (by kernel_rfl), HC]
  simp only [Result.andThen]
  rw [Oper.upon_value]
  go_wp2
  go_ret
  exact ⟨rfl, rfl⟩
set_option maxHeartbeats 2000000 in
theorem copyOf_any {w : World} {p : Option Addr} {n c : Nat} {xs : List Int} (h : Byt w p n c xs) (hn : n ≤ 512) : Calls Tryz.prog 93 #[.slice p n c] w (Gb xs w) := by
  have hl := h.1
  by_cases h0 : n = 0
  · subst h0
    obtain rfl : xs = [] := List.eq_nil_of_length_eq_zero hl
    clear hl h
    go_enter Tryz.func93, Tryz.ntmps93
    go_wp2
    go_ret
    exact gb_nil w
  · have i0 : ((n : Int) == 0) = false := by simpa using h0
    have h1 : (n : Int) ≠ 0 := by omega
    obtain ⟨W1, hmk, hb1, cur, hcs, hg⟩ := size_new w n hn
    have ik : IntKind.i64.wrap (n : Int) = n := by simp only [IntKind.wrap, IntKind.bits, IntKind.signed]; simp; omega
    have HG : Hid (W1.heap[w.heap.size]? = some (.cells cur 5 (0, 0)) ∧ cur.size = n ∧ Below w.heap.size w W1) := ⟨hg, hcs, hb1⟩
    have HB : Hid (Byt W1 p n c xs) := byt_below h hb1
    have H0 : Hid (¬ n = 0) := h0
    have HL : Hid (xs.length = n) := hl
    have M1 : Hid (n = Nat.min n n) := (Nat.min_self n).symm
    have s2 : Hid (∀ j, j < n → (W1.cell? ⟨w.heap.size, 0 + j, .none⟩).isSome = true) := fun j hj => cur_cell HG.out.1 _ (by have := HG.out.2.1; omega)
    have s3 : Hid (∀ j, j < n → W1.frozen? ⟨w.heap.size, 0 + j, .none⟩ = false) := fun j hj => cur_froz HG.out.1 _
    have hcp := run_copy_byt (w := W1) 3 w.heap.size 0 n n p n c xs HB.out n M1.out s2.out s3.out
    simp only [goInt] at hcp
    clear h hg hcs hb1 h0 hl
    obtain ⟨w3, hw3⟩ : ∃ w3, w3 = W1.setCells w.heap.size 0 (by8 (xs.take n)) := ⟨_, rfl⟩
    have W3 : Hid (w3 = W1.setCells w.heap.size 0 (by8 (xs.take n))) := hw3
    rw [← hw3] at hcp
    clear hw3
    go_enter Tryz.func93, Tryz.ntmps93
    go_wp2
    go_ret
    obtain ⟨cur4, hcs4, hg4⟩ := row_set (n := n) (w := W1) HG.out.1 0 (by8 (xs.take n))
    rw [← W3.out] at hg4
    have e := HL.out
    subst e
    refine ⟨_, _, rfl, own_of hg4 (hcs4.trans HG.out.2.1) (Nat.le_refl _) hn rfl ?_, ?_⟩
    · intro j x hj
      have hjn : j < xs.length := (List.getElem?_eq_some_iff.1 hj).1
      rw [List.take_length] at W3
      have := World.cell?_setCells_in w.heap.size (by8 xs) 0 W1 (fun i hi => s2.out i (by rw [by8_len] at hi; exact hi)) j (by rw [by8_len]; exact hjn)
      rw [← W3.out, Nat.zero_add] at this
      rw [this]
      have := by8_get hj
      rw [List.getElem?_eq_getElem (by rw [by8_len]; exact hjn)] at this
      exact this
    · have t1 : Below w.heap.size W1 w3 := by
        rw [W3.out]
        exact (Trn.setCells _ _ _ _).toBelow (Nat.le_refl _) HG.out.2.2.size
      exact HG.out.2.2.trans t1
end Go.Proofs.YthdlefbaegbldaaGreatDoor
