import Derived.Test.YthdlefbaegbldaaGreatDoorCb
import Derived.Lib.BytesEntry
import Derived.Deep.Slices
namespace Go.Proofs.YthdlefbaegbldaaGreatDoor
open Go.RowKit
set_option linter.unusedVariables false
set_option linter.unusedSimpArgs false
set_option maxRecDepth 100000
/-- The echo of n bytes that are taken back. -/
def bk : Nat → List Int
  | 0 => []
  | n + 1 => bk n ++ [8, 32, 8]
theorem bk_len : ∀ n, (bk n).length = 3 * n
  | 0 => rfl
  | n + 1 => by rw [bk, List.length_append, bk_len n]; simp; omega
theorem bk_byte : ∀ n, ∀ x ∈ bk n, 0 ≤ x ∧ x < 256
  | 0 => by simp [bk]
  | n + 1 => by
    intro x hx
    rw [bk, List.mem_append] at hx
    rcases hx with hx | hx
    · exact bk_byte n x hx
    · simp at hx; omega
/-- Where a byte stands first. -/
def ix (c : Int) : List Int → Option Nat
  | [] => none
  | x :: xs => if x = c then some 0 else (ix c xs).map (· + 1)
def cutA (a : List Int) : Nat := match ix 10 a with | some k => k + 1 | none => a.length
def cutB (a : List Int) : Nat := match ix 4 a with | some k => k | none => a.length
/-- How many bytes are told. -/
def upt : Nat → List Int → Nat
  | 0, _ => 0
  | _ + 1, [] => 0
  | n + 1, x :: xs => if x = 4 then 0 else if x = 10 then 1 else upt n xs + 1
theorem upt_nil (n : Nat) : upt n [] = 0 := by cases n <;> rfl
theorem cutA_cons (x : Int) (xs : List Int) (h : x ≠ 10) : cutA (x :: xs) = cutA xs + 1 := by
  simp only [cutA, ix, if_neg h]
  cases ix 10 xs <;> simp
theorem cutB_cons (x : Int) (xs : List Int) (h : x ≠ 4) : cutB (x :: xs) = cutB xs + 1 := by
  simp only [cutB, ix, if_neg h]
  cases ix 4 xs <;> simp
theorem cutB_four (xs : List Int) : cutB (4 :: xs) = 0 := by simp [cutB, ix]
theorem cutA_pos (x : Int) (xs : List Int) : 0 < cutA (x :: xs) := by
  by_cases h : x = 10
  · subst h; simp [cutA, ix]
  · rw [cutA_cons x xs h]; omega
theorem upt_cut : ∀ (rs : List Int) (n : Nat), upt n rs = cutB ((rs.take n).take (cutA (rs.take n)))
  | [], n => by rw [upt_nil]; simp [cutB, ix]
  | x :: xs, 0 => by simp [upt, cutB, ix]
  | x :: xs, n + 1 => by
    rw [List.take_succ_cons]
    by_cases h4 : x = 4
    · subst h4
      obtain ⟨m, hm⟩ : ∃ m, cutA (4 :: xs.take n) = m + 1 := ⟨cutA (4 :: xs.take n) - 1, by have := cutA_pos 4 (xs.take n); omega⟩
      rw [hm, List.take_succ_cons, cutB_four]
      simp [upt]
    · by_cases h10 : x = 10
      · subst h10
        simp [upt, cutA, cutB, ix]
      · rw [cutA_cons _ _ h10, List.take_succ_cons, cutB_cons _ _ h4, ← upt_cut xs n]
        simp [upt, h4, h10]
theorem upt_le_n : ∀ (n : Nat) (rs : List Int), upt n rs ≤ n
  | 0, _ => Nat.le_refl _
  | n + 1, [] => Nat.zero_le _
  | n + 1, x :: xs => by
    simp only [upt]
    have := upt_le_n n xs
    split
    · omega
    · split <;> omega
theorem upt_le : ∀ (n : Nat) (rs : List Int), upt n rs ≤ rs.length
  | 0, _ => Nat.zero_le _
  | n + 1, [] => Nat.zero_le _
  | n + 1, x :: xs => by
    simp only [upt, List.length_cons]
    have := upt_le n xs
    split
    · omega
    · split <;> omega
/-- What a Take of n tells, and how many are gone. -/
def nxT (rs : List Int) (n : Int) : Nat := if n < 1 then 0 else upt n.toNat rs
def nxG (rs : List Int) (n : Int) : Nat := if n < 1 then 0 else if rs.head? = some 4 then 1 else upt n.toNat rs
theorem nxT_le (rs : List Int) (n : Int) : nxT rs n ≤ rs.length := by
  unfold nxT; split
  · omega
  · exact upt_le _ _
theorem nxG_le (rs : List Int) (n : Int) (h : 0 < rs.length) : nxG rs n ≤ rs.length := by
  unfold nxG; split
  · omega
  · split
    · omega
    · exact upt_le _ _
theorem nxT_end (rs : List Int) (n : Int) (h : rs.head? = some 4) : nxT rs n = 0 := by
  unfold nxT; split
  · rfl
  · match rs, h with
    | x :: xs, h =>
      simp only [List.head?_cons, Option.some.injEq] at h
      subst h
      match hn : n.toNat with
      | 0 => rfl
      | m + 1 => simp [upt]
/-- The last key of a line: what Type does. -/
def key (b : Int) : Int := if b = 13 then 10 else b
def tyR (rs ls : List Int) (b : Int) : List Int :=
  if b = 21 ∨ b = 8 ∨ b = 127 ∨ b = 0 ∨ 128 ≤ rs.length + ls.length then rs
  else if key b = 10 ∨ key b = 4 ∨ rs.length + ls.length + 1 = 128 then rs ++ (ls ++ [key b]) else rs
def tyL (rs ls : List Int) (b : Int) : List Int :=
  if b = 21 then [] else if b = 8 ∨ b = 127 then ls.take (ls.length - 1) else if b = 0 ∨ 128 ≤ rs.length + ls.length then ls
  else if key b = 10 ∨ key b = 4 ∨ rs.length + ls.length + 1 = 128 then [] else ls ++ [key b]
def tyE (rs ls : List Int) (b : Int) : List Int :=
  if b = 21 then bk ls.length else if b = 8 ∨ b = 127 then bk (min 1 ls.length) else if b = 0 ∨ 128 ≤ rs.length + ls.length then []
  else if key b = 4 then [] else [key b]
def tyB (rs ls : List Int) (b : Int) : Bool :=
  if b = 21 ∨ b = 8 ∨ b = 127 ∨ b = 0 ∨ 128 ≤ rs.length + ls.length then false
  else decide (key b = 10 ∨ key b = 4 ∨ rs.length + ls.length + 1 = 128)
theorem ty_len (rs ls : List Int) (b : Int) (h : rs.length + ls.length ≤ 128) : (tyR rs ls b).length + (tyL rs ls b).length ≤ 128 := by
  unfold tyR tyL
  by_cases h1 : b = 21
  · simp [h1]; omega
  by_cases h2 : b = 8 ∨ b = 127
  · rw [if_pos (by omega), if_neg h1, if_pos h2, List.length_take]; omega
  by_cases h3 : b = 0 ∨ 128 ≤ rs.length + ls.length
  · rw [if_pos (by omega), if_neg h1, if_neg h2, if_pos h3]; omega
  rw [if_neg (by omega), if_neg h1, if_neg h2, if_neg h3]
  by_cases h4 : key b = 10 ∨ key b = 4 ∨ rs.length + ls.length + 1 = 128
  · rw [if_pos h4, if_pos h4]; simp; omega
  · rw [if_neg h4, if_neg h4]; simp; omega
theorem tyE_len (rs ls : List Int) (b : Int) (h : rs.length + ls.length ≤ 128) : (tyE rs ls b).length ≤ 384 := by
  unfold tyE
  split
  · rw [bk_len]; omega
  · split
    · rw [bk_len]; omega
    · split
      · simp
      · split <;> simp
theorem key_byte (b : Int) (h : 0 ≤ b ∧ b < 256) : 0 ≤ key b ∧ key b < 256 := by unfold key; split <;> omega
theorem tyE_byte (rs ls : List Int) (b : Int) (hb : 0 ≤ b ∧ b < 256) : ∀ x ∈ tyE rs ls b, 0 ≤ x ∧ x < 256 := by
  have := key_byte b hb
  unfold tyE
  split
  · exact bk_byte _
  · split
    · exact bk_byte _
    · split
      · simp
      · split
        · simp
        · intro x hx
          simp only [List.mem_singleton] at hx
          omega
/-- The cells of a console that was made. -/
structure Cns (w : World) (b : Nat) (B : Nat → Int) (r h : Nat) : Prop where
  cb : ∀ i, i < 128 → w.cell? ⟨b, i, .none⟩ = some (.int .u8 (B i))
  fb : ∀ i, w.frozen? ⟨b, i, .none⟩ = false
  c1 : w.cell? ⟨b, 128, .none⟩ = some (.int .i64 r)
  c2 : w.cell? ⟨b, 129, .none⟩ = some (.int .i64 h)
  c3 : w.cell? ⟨b, 130, .none⟩ = some (.bool true)
  bb : ∀ i, 0 ≤ B i ∧ B i < 256
  h8 : h ≤ 128
section
variable {w v : World} {b g : Nat} {B : Nat → Int} {r h : Nat}
theorem Cns.lt (H : Cns w b B r h) : b < w.heap.size := lt_cell H.c1
theorem Cns.keep (H : Cns w b B r h) {S : Nat → Prop} (t : Chg S w v) (hg : ¬ S b) : Cns v b B r h :=
  ⟨fun i hi => (t.cell (p := ⟨b, i, .none⟩) H.lt hg).trans (H.cb i hi), fun i => (t.frozen (p := ⟨b, i, .none⟩) H.lt hg).trans (H.fb i), (t.cell (p := ⟨b, 128, .none⟩) H.lt hg).trans H.c1, (t.cell (p := ⟨b, 129, .none⟩) H.lt hg).trans H.c2,
    (t.cell (p := ⟨b, 130, .none⟩) H.lt hg).trans H.c3, H.bb, H.h8⟩
theorem Cns.drewN (H : Cns w b B r h) (k : Nat) : Cns (w.drewN k) b B r h := ⟨H.cb, H.fb, H.c1, H.c2, H.c3, H.bb, H.h8⟩
theorem Cns.froz (H : Cns w b B r h) (o : Nat) (u : Value) : ∀ i, (w.setCell ⟨b, o, .none⟩ u).frozen? ⟨b, i, .none⟩ = false := fun i => by
  have := World.frozen?_setCells b [u] o w ⟨b, i, .none⟩
  exact this.trans (H.fb i)
theorem Cns.setR (H : Cns w b B r h) (r' : Nat) (hr : r' ≤ h) : Cns (w.setCell ⟨b, 128, .none⟩ (.int .i64 r')) b B r' h :=
  ⟨fun i hi => cell_off (H.cb i hi) _ _ (by omega), H.froz _ _, cell_one H.c1 _, cell_off H.c2 _ _ (by decide), cell_off H.c3 _ _ (by decide), H.bb, H.h8⟩
theorem Cns.setH (H : Cns w b B r h) (h' : Nat) (hr : r ≤ h') (h8 : h' ≤ 128) : Cns (w.setCell ⟨b, 129, .none⟩ (.int .i64 h')) b B r h' :=
  ⟨fun i hi => cell_off (H.cb i hi) _ _ (by omega), H.froz _ _, cell_off H.c1 _ _ (by decide), cell_one H.c2 _, cell_off H.c3 _ _ (by decide), H.bb, h8⟩
theorem Cns.setB (H : Cns w b B r h) (i : Nat) (hi : i < 128) (x : Int) (hx : 0 ≤ x ∧ x < 256) : Cns (w.setCell ⟨b, i, .none⟩ (.int .u8 x)) b (fun j => if j = i then x else B j) r h :=
  ⟨fun j hj => by
    show _ = some (Value.int .u8 (if j = i then x else B j))
    by_cases hji : j = i
    · rw [if_pos hji, hji]; exact cell_one (H.cb i hi) _
    · rw [if_neg hji]; exact cell_off (H.cb j hj) _ _ hji, H.froz _ _, cell_off H.c1 _ _ (by omega), cell_off H.c2 _ _ (by omega), cell_off H.c3 _ _ (by omega), fun j => by show 0 ≤ (if j = i then x else B j) ∧ (if j = i then x else B j) < 256; split; exact hx; exact H.bb j, H.h8⟩
/-- Bytes laid over the first ones. -/
def ovr (B : Nat → Int) (zs : List Int) : Nat → Int := fun i => if i < zs.length then zs.getD i 0 else B i
theorem Cns.over (H : Cns w b B r h) (zs : List Int) (ht : zs.length ≤ 128) (hz : ∀ z ∈ zs, 0 ≤ z ∧ z < 256) : Cns (w.setCells b 0 (by8 zs)) b (ovr B zs) r h := by
  have hl := by8_len zs
  refine ⟨fun i hi => ?_, fun i => ?_, cell_out H.c1 _ _ (by omega), cell_out H.c2 _ _ (by omega), cell_out H.c3 _ _ (by omega), fun i => ?_, H.h8⟩
  · unfold ovr
    split
    · rename_i hc
      have := World.cell?_setCells_in b (by8 zs) 0 w (fun j hj => by rw [H.cb (0 + j) (by omega)]; rfl) i (by omega)
      rw [Nat.zero_add] at this
      rw [this]
      have : (by8 zs)[i]? = some (.int .u8 (zs[i]'(by omega))) := by8_get (by simp)
      rw [List.getElem?_eq_getElem (by omega)] at this
      rw [Option.some.inj this, List.getD_eq_getElem?_getD, List.getElem?_eq_getElem (by omega)]
      rfl
    · exact cell_out (H.cb i hi) _ _ (by omega)
  · rw [World.frozen?_setCells]
    exact H.fb i
  · unfold ovr
    split
    · rename_i hc
      rw [List.getD_eq_getElem?_getD, List.getElem?_eq_getElem (by omega)]
      exact hz _ (by simp)
    · exact H.bb i
/-- Bytes laid over others. -/
def ovrA (B : Nat → Int) (t : Nat) (zs : List Int) : Nat → Int := fun i => if t ≤ i ∧ i < t + zs.length then zs.getD (i - t) 0 else B i
theorem Cns.overA (H : Cns w b B r h) (t : Nat) (zs : List Int) (ht : t + zs.length ≤ 128) (hz : ∀ z ∈ zs, 0 ≤ z ∧ z < 256) : Cns (w.setCells b t (by8 zs)) b (ovrA B t zs) r h := by
  have hl := by8_len zs
  refine ⟨fun i hi => ?_, fun i => ?_, cell_out H.c1 _ _ (by omega), cell_out H.c2 _ _ (by omega), cell_out H.c3 _ _ (by omega), fun i => ?_, H.h8⟩
  · unfold ovrA
    split
    · rename_i hc
      obtain ⟨j, rfl⟩ : ∃ j, i = t + j := ⟨i - t, by omega⟩
      rw [World.cell?_setCells_in b (by8 zs) t w (fun j hj => by rw [H.cb (t + j) (by omega)]; rfl) j (by omega)]
      have : (by8 zs)[j]? = some (.int .u8 (zs[j]'(by omega))) := by8_get (by simp)
      rw [List.getElem?_eq_getElem (by omega)] at this
      rw [Option.some.inj this, Nat.add_sub_cancel_left, List.getD_eq_getElem?_getD, List.getElem?_eq_getElem (by omega)]
      rfl
    · exact cell_out (H.cb i hi) _ _ (by omega)
  · rw [World.frozen?_setCells]
    exact H.fb i
  · unfold ovrA
    split
    · rename_i hc
      rw [List.getD_eq_getElem?_getD, List.getElem?_eq_getElem (by omega)]
      exact hz _ (by simp)
    · exact H.bb i
end
/-- A console with these bytes ready, and this line. -/
def Con (w : World) (b : Nat) (rs ls : List Int) : Prop := ∃ B, Cns w b B rs.length (rs.length + ls.length) ∧ ∀ j x, (rs ++ ls)[j]? = some x → B j = x
section
variable {w v : World} {b g : Nat} {rs ls : List Int}
theorem Con.keep (H : Con w b rs ls) {S : Nat → Prop} (t : Chg S w v) (hg : ¬ S b) : Con v b rs ls := by
  obtain ⟨B, h2, h3⟩ := H
  exact ⟨B, h2.keep t hg, h3⟩
theorem Con.lt (H : Con w b rs ls) : b < w.heap.size := by
  obtain ⟨B, h2, h3⟩ := H
  exact h2.lt
theorem Con.below (H : Con w b rs ls) (t : Below w.heap.size w v) : Con v b rs ls := H.keep (S := fun _ => False) (Chg.ofBelow t) (fun h => h)
theorem Con.drewN (H : Con w b rs ls) (k : Nat) : Con (w.drewN k) b rs ls := by
  obtain ⟨B, h2, h3⟩ := H
  exact ⟨B, h2.drewN k, h3⟩
theorem Con.le (H : Con w b rs ls) : rs.length + ls.length ≤ 128 := by
  obtain ⟨B, h2, h3⟩ := H
  exact h2.h8
theorem Con.cells (H : Con w b rs ls) : w.cell? ⟨b, 128, .none⟩ = some (.int .i64 rs.length) ∧ w.cell? ⟨b, 129, .none⟩ = some (.int .i64 ((rs.length + ls.length : Nat) : Int)) ∧ w.cell? ⟨b, 130, .none⟩ = some (.bool true) ∧ ∀ i, w.frozen? ⟨b, i, .none⟩ = false := by
  obtain ⟨B, h2, h3⟩ := H
  exact ⟨h2.c1, h2.c2, h2.c3, h2.fb⟩
theorem Con.bytes (H : Con w b rs ls) : ∀ x ∈ rs ++ ls, 0 ≤ x ∧ x < 256 := by
  obtain ⟨B, h2, h3⟩ := H
  intro x hx
  obtain ⟨j, hj⟩ := List.mem_iff_getElem?.1 hx
  rw [← h3 j x hj]
  exact h2.bb _
/-- Bytes of the row as a slice. -/
theorem Con.byt (H : Con w b rs ls) (t k c : Nat) (htk : t + k ≤ rs.length + ls.length) (hc : k ≤ c) (hcm : c ≤ 128) : Byt w (some ⟨b, t, .none⟩) k c (((rs ++ ls).drop t).take k) := by
  have hlt := H.lt
  obtain ⟨B, h2, h3⟩ := H
  have h8 := h2.h8
  refine ⟨by simp; omega, hc, by simp only [maxLen]; omega, .inr ⟨b, t, rfl, hlt, fun i x hx => ?_⟩⟩
  rw [List.getElem?_take] at hx
  split at hx
  · rw [List.getElem?_drop] at hx
    rw [h2.cb (t + i) (by omega), h3 (t + i) x hx]
  · cases hx
end
theorem arr_len : Tryz.prog.arrayLen 135 = 128 := by kernel_rfl
theorem arr_elem (W : World) : (sizeOf (Tryz.prog.elem 135)).run Tryz.prog W = .ok 1 W := by
  have e : Tryz.prog.elem 135 = 5 := by kernel_rfl
  obtain ⟨i, z, hi, _, hs, _⟩ := byte_info
  rw [e]
  simp [sizeOf, typeInfo, hi, hs]
theorem row_all (b : Nat) (W : World) : (Instr.sliceAt 135 (.pointer (some ⟨b, 0, .none⟩)) none none none).run Tryz.prog W = .ok (.slice (some ⟨b, 0, .none⟩) 128 128) W := by
  rw [run_sliceAt_array_all W 135 ⟨b, 0, none⟩ (by kernel_rfl), arr_len, arr_elem]
  simp [Result.andThen, slicedAt, le_addr_add]
theorem row_to (b k : Nat) (x : Int) (hx : x = k) (hk : k ≤ 128) (W : World) : (Instr.sliceAt 135 (.pointer (some ⟨b, 0, .none⟩)) none (some (.int .i64 x)) none).run Tryz.prog W = .ok (.slice (some ⟨b, 0, .none⟩) k 128) W := by
  rw [run_sliceAt_array_h W 135 ⟨b, 0, none⟩ (by kernel_rfl) .i64 x (by omega) (by rw [arr_len]; omega), arr_len, hx, Int.toNat_natCast, arr_elem]
  simp [Result.andThen, slicedAt, le_addr_add]
/-- Where a cut of the row begins. -/
def rat (t : Nat) : Nat := if 128 = t then 0 else t
theorem row_lh (b t k : Nat) (x y : Int) (hx : x = t) (hy : y = k) (htk : t ≤ k) (hk : k ≤ 128) (W : World) : (Instr.sliceAt 135 (.pointer (some ⟨b, 0, .none⟩)) (some (.int .i64 x)) (some (.int .i64 y)) none).run Tryz.prog W = .ok (.slice (some ⟨b, rat t, .none⟩) (k - t) (128 - t)) W := by
  rw [run_sliceAt_array_lh W 135 ⟨b, 0, none⟩ (by kernel_rfl) .i64 .i64 x y (by omega) (by omega) (by rw [arr_len]; omega), arr_len, hx, hy, Int.toNat_natCast, Int.toNat_natCast, arr_elem]
  unfold rat
  by_cases h : 128 = t
  · simp [Result.andThen, slicedAt, le_addr_add, h]
  · simp [Result.andThen, slicedAt, le_addr_add, h]
theorem row_l (b t : Nat) (x : Int) (hx : x = t) (htk : t ≤ 128) (W : World) : (Instr.sliceAt 135 (.pointer (some ⟨b, 0, .none⟩)) (some (.int .i64 x)) none none).run Tryz.prog W = .ok (.slice (some ⟨b, rat t, .none⟩) (128 - t) (128 - t)) W := by
  rw [run_sliceAt_array_l W 135 ⟨b, 0, none⟩ (by kernel_rfl) .i64 x (by omega) (by rw [arr_len]; omega), arr_len, hx, Int.toNat_natCast, arr_elem]
  unfold rat
  by_cases h : 128 = t
  · simp [Result.andThen, slicedAt, le_addr_add, h]
  · simp [Result.andThen, slicedAt, le_addr_add, h]
/-- A slice of the row: where it has no byte it may begin anywhere. -/
theorem Con.bytR {w : World} {b : Nat} {rs ls : List Int} (H : Con w b rs ls) (t k : Nat) (htk : t ≤ k) (hk : k ≤ rs.length + ls.length) : Byt w (some ⟨b, rat t, .none⟩) (k - t) (128 - t) (((rs ++ ls).drop t).take (k - t)) := by
  have h8 := H.le
  by_cases h : 128 = t
  · have e : k - t = 0 := by omega
    rw [e]
    exact ⟨by simp, Nat.zero_le _, by simp only [maxLen]; omega, .inl rfl⟩
  · have := H.byt t (k - t) (128 - t) (by omega) (by omega) (by omega)
    unfold rat
    rw [if_neg h]
    exact this
end Go.Proofs.YthdlefbaegbldaaGreatDoor
