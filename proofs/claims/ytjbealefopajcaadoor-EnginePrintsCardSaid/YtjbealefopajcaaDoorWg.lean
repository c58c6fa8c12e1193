import Derived.Test.YtjbealefopajcaaDoorWf
import Derived.Test.YtjbealefopajcaaDoorVd
import Derived.Lib.UnsafeStr
namespace Go.Proofs.YtjbealefopajcaaDoor
open Go Go.RowKit Rg
set_option linter.unusedVariables false
set_option linter.unusedSimpArgs false
set_option maxRecDepth 100000
/-! A builder's string; a script that is written. -/
theorem freeze_other (w : World) (g n k : Nat) (hk : k ≠ g) : (w.freeze ⟨g, 0, .none⟩ n).heap[k]? = w.heap[k]? := by
  unfold World.freeze
  split
  · rfl
  · simp only [Array.getElem?_modify]
    rw [if_neg (fun e => hk e.symm)]
theorem freeze_same (w : World) (g n : Nat) : (w.freeze ⟨g, 0, .none⟩ n).os = w.os ∧ (w.freeze ⟨g, 0, .none⟩ n).tape = w.tape ∧ (w.freeze ⟨g, 0, .none⟩ n).output = w.output ∧ (w.freeze ⟨g, 0, .none⟩ n).heap.size = w.heap.size := by
  unfold World.freeze
  split <;> simp
theorem toB_list (ys : List Int) : (⟨(ys.map fun n => UInt8.ofNat n.toNat).toArray⟩ : ByteArray) = toB ys := by
  apply ba_ext
  rw [toB_data]
set_option maxHeartbeats 2000000 in
theorem string_any {w : World} {base b : Nat} {ys : List Int} (h : Wr w base b ys) (h0 : ys ≠ []) (hbd : ∀ y ∈ ys, 0 ≤ y ∧ y < 256) : Calls Tryd.prog 32 #[.pointer (some ⟨b, 0, .none⟩)] w fun e w' => e = .returned (.string (toB ys)) ∧ KW base b w w' := by
  obtain ⟨h1, p, v, h2, h3, h4⟩ := h
  have hl0 : ys.length ≠ 0 := fun e => h0 (List.eq_nil_of_length_eq_zero e)
  obtain ⟨g, cap, cur, rfl, hbg, hg, hnc, hcm, hcs, htake⟩ := h4.2.resolve_left (by rintro ⟨_, e⟩; exact hl0 e)
  have c1 : w.drew.cell? ⟨b, 1, .none⟩ = some (.slice (some ⟨g, 0, .none⟩) ys.length cap) := by
    have := cell_heap (o := 1) h3
    exact this
  have hSD : (Builtin.unsafeSliceData_ #[41] 91 #[.slice (some ⟨g, 0, .none⟩) ys.length cap]).run Tryd.prog w.drew = .ok (.pointer (some ⟨g, 0, .none⟩)) w.drew :=
    Lib.run_unsafeSliceData_row _ _ _ _ _ _ (by omega)
  have hUS : (Builtin.unsafeString_ #[91, 3] 9 #[.pointer (some ⟨g, 0, .none⟩), .int .i64 ys.length]).run Tryd.prog w.drew = .ok (.string (toB ys)) (w.drew.freeze ⟨g, 0, .none⟩ ys.length) := by
    have h5 := Lib.run_unsafeString_row (P := Tryd.prog) w.drew 91 3 9 5 Tryd.underlying91 (by kernel_rfl) g cur.size (by have hg' : w.drew.heap[g]? = some (.cells cur 5 (0, 0)) := hg; simp [World.shape?, hg']) (ys.map fun n => UInt8.ofNat n.toNat) (by simpa using h0) (by rw [List.length_map]; omega) (by rw [List.length_map]; unfold maxLen at hcm; omega) (by
      intro j x hx
      rw [List.getElem?_map] at hx
      obtain ⟨y, hy, rfl⟩ := Option.map_eq_some_iff.1 hx
      have hb := hbd y (List.mem_of_getElem? hy)
      have h6 := h4.cells (g := g) rfl j (.int .u8 y) (by unfold by8; rw [List.getElem?_map, hy]; rfl)
      have e : (((UInt8.ofNat y.toNat).toNat : Nat) : Int) = y := by rw [UInt8.toNat_ofNat']; omega
      rw [e]
      exact h6)
    rw [List.length_map, toB_list] at h5
    exact h5
  have HK : Hid (KW base b w (w.drew.freeze ⟨g, 0, .none⟩ ys.length)) := by
    have hs := freeze_same w.drew g ys.length
    refine ⟨hs.1, hs.2.1, hs.2.2.1, Nat.le_of_eq hs.2.2.2.symm, fun k o hk _ hor => ?_⟩
    rw [freeze_other _ _ _ _ (fun e => ?_)]
    · exact hk
    · subst e
      rw [hg] at hk
      cases hk
      rcases hor with hor | hor
      · omega
      · exact hor ⟨_, _, rfl⟩
  have hb1 : b < w.heap.size := hp_lt h3
  clear h1 h2 h3 h4 hbg hg hnc hcm hcs htake hl0 h0 hbd
  go_enter Tryd.func32, Tryd.ntmps32
  go_wp2
  go_region
  all_goals (go_wp2; go_ret; exact ⟨rfl, HK.out⟩)
/-- A line of words in a new row. -/
theorem line_new {w : World} {base b : Nat} {ys : List Int} (h : Wr w base b ys) (hb : base ≤ w.heap.size) (xs : List ByteArray) (hx9 : xs.length ≤ 1000) (hl : ys.length + (jnI xs).length + 1 ≤ 140000000000000) :
    Calls Tryd.prog 27 #[.pointer (some ⟨b, 0, .none⟩), .slice (some ⟨w.heap.size, 0, .none⟩) xs.length xs.length] (w.alloc (.cells (xs.map Value.string).toArray 9)) fun e w' => e = .returned (.tuple #[]) ∧ Wr w' base b (ys ++ jnI xs ++ [10]) ∧ KW base b w w' := by
  have b1 := below1 w (.cells (xs.map Value.string).toArray 9)
  refine (line_any (o := 0) (h.keep b1) (Nat.le_trans hb b1.size) (cells_list (new_heap w (.cells (xs.map Value.string).toArray 9))) (by simp) (xs := xs) (c := xs.length) (Nat.le_refl _) hx9 hl).mono ?_
  rintro e w' ⟨h1, h2, h3⟩
  exact ⟨h1, h2, (KW.of b1).trans h3⟩
theorem line2 {w : World} {base b : Nat} {ys : List Int} (h : Wr w base b ys) (hb : base ≤ w.heap.size) (x y : ByteArray) (hl : ys.length + (jnI [x, y]).length + 1 ≤ 140000000000000) :
    Calls Tryd.prog 27 #[.pointer (some ⟨b, 0, .none⟩), .slice (some ⟨w.heap.size, 0, .none⟩) 2 2] (w.alloc (.cells #[.string x, .string y] 9)) fun e w' => e = .returned (.tuple #[]) ∧ Wr w' base b (ys ++ jnI [x, y] ++ [10]) ∧ KW base b w w' := line_new h hb [x, y] (by simp) hl
theorem line3 {w : World} {base b : Nat} {ys : List Int} (h : Wr w base b ys) (hb : base ≤ w.heap.size) (x y z : ByteArray) (hl : ys.length + (jnI [x, y, z]).length + 1 ≤ 140000000000000) :
    Calls Tryd.prog 27 #[.pointer (some ⟨b, 0, .none⟩), .slice (some ⟨w.heap.size, 0, .none⟩) 3 3] (w.alloc (.cells #[.string x, .string y, .string z] 9)) fun e w' => e = .returned (.tuple #[]) ∧ Wr w' base b (ys ++ jnI [x, y, z] ++ [10]) ∧ KW base b w w' := line_new h hb [x, y, z] (by simp) hl
theorem file_any {w : World} {base b X : Nat} {ys : List Int} (h : Wr w base b ys) (hb : base ≤ w.heap.size) (hT : TB w) (f : Fl) (hty : f.ty = 1 ∨ f.ty = 2 ∨ f.ty = 3) {dv : Value} (hD : Bt w X dv f.data) (hX : X ≤ base) (hbd : ∀ x ∈ f.data, 0 ≤ x ∧ x < 256) (hs : f.path.size ≤ 10000000) (hn : f.data.length ≤ 10000000) (hl : ys.length ≤ 100000000000) (hmj : i16b f.mj) (hmn : i16b f.mn) :
    Calls Tryd.prog 30 #[.pointer (some ⟨b, 0, .none⟩), .agg #[.string f.path, .int .i64 f.ty, .int .i16 f.mj, .int .i16 f.mn, dv]] w fun e w' => e = .returned (.tuple #[]) ∧ Wr w' base b (ys ++ flT f) ∧ KW base b w w' := by
  obtain ⟨p, c, rfl⟩ := hD.form
  rcases hty with e | e | e
  · rw [e]; exact file1_any h hb hT f e _ rfl hs hl hmj hmn
  · rw [e]; exact file2_any h hb f e hD hX hbd hs hn hl
  · rw [e]; exact file3_any h hb hT f e _ rfl hs hl hmj hmn
theorem fb_inv {bad : Nat → Bool} : ∀ (n k : Nat), fb bad n k = none → ∀ j, k ≤ j → j < k + n → bad j = false
  | 0, k, _, j, h1, h2 => by omega
  | n + 1, k, h, j, h1, h2 => by
    rw [fb] at h
    split at h
    · cases h
    · rename_i hb
      by_cases e : j = k
      · subst e; simpa using hb
      · exact fb_inv n (k + 1) h j (by omega) (by omega)
theorem badL_ok {α : Type} {lim : Nat} {p : α → Bool} {l : List α} (h : fb (badL lim p l) l.length 0 = none) : l.length ≤ lim ∧ ∀ x ∈ l, p x = true := by
  have hj := fb_inv _ _ h
  constructor
  · rcases Nat.lt_or_ge lim l.length with h1 | h1
    · have h2 := hj lim (by omega) (by omega)
      rw [badL_at (List.getElem?_eq_getElem h1), decide_eq_true (Nat.le_refl _)] at h2
      cases h2
    · exact h1
  · intro x hx
    obtain ⟨i, hi⟩ := List.getElem?_of_mem hx
    have hlt := (List.getElem?_eq_some_iff.1 hi).1
    have h2 := hj i (by omega) (by omega)
    rw [badL_at hi] at h2
    simp only [Bool.or_eq_false_iff] at h2
    simpa using h2.2
theorem okFl_ty {f : Fl} (h : okFl f = true) : f.ty = 1 ∨ f.ty = 2 ∨ f.ty = 3 := by
  unfold okFl okF at h
  repeat' split at h
  · exact .inl (by assumption)
  · exact .inr (.inl (by assumption))
  · exact .inr (.inr (by assumption))
  · cases h
theorem wrong_none {S : Sc} (h : wrongF S = none) : (∀ f ∈ S.files, okFl f = true) ∧ S.files.length ≤ 64 ∧ S.ticks.length ≤ 4096 ∧ S.ins.length ≤ 4096 := by
  unfold wrongF at h
  split at h
  · cases h
  · split at h
    · cases h
    · rename_i h1
      split at h
      · cases h
      · rename_i h2
        split at h
        · cases h
        · rename_i h3
          exact ⟨(badL_ok h1).2, (badL_ok h1).1, (badL_ok h2).1, (badL_ok h3).1⟩
theorem jn_in (f : Ip) (h : ∀ x ∈ f.data, 0 ≤ x ∧ x < 256) : jnI [⟨#[105, 110, 112, 117, 116]⟩, itS f.tm, toB (qt (bsI (toB f.data)))] ++ [10] = inT f := by
  rw [jn_cons]
  simp only [List.flatMap_cons, List.flatMap_nil, List.append_nil, bsI_toB h, bsI_toB (qt_bd h)]
  unfold inT itI
  simp [List.append_assoc]
  try rfl
end Go.Proofs.YtjbealefopajcaaDoor
