import Derived.Test.YtjbealefopajcaaDoorVx
import Derived.Lib.ConvBytes
namespace Go.Proofs.YtjbealefopajcaaDoor
open Go Go.RowKit Rg
set_option linter.unusedVariables false
set_option linter.unusedSimpArgs false
/-! []byte(s), and what is laid down behind it. -/
theorem convT (w : World) (s : ByteArray) (hs : s.size ≤ 100000000000) : ∃ c w', (convert 9 41 (.string s)).run Tryd.prog w = .ok (.slice (some ⟨w.heap.size, 0, .none⟩) s.size c) w' ∧ ownT w' w.heap.size (.slice (some ⟨w.heap.size, 0, .none⟩) s.size c) (bsI s) ∧ Below w.heap.size w w' := by
  have hr := Lib.run_convert_string_bytes (P := Tryd.prog) w 9 41 5 s Tryd.underlying9 Tryd.underlying41 Tryd.underlying5
  have hge := grownCap_ge w s.size 0 5
  have hsz : (Lib.bytesCells w 5 s).size = grownCap w s.size 0 5 := by
    unfold Lib.bytesCells
    rw [Array.size_append, Array.size_map, Array.size_replicate]
    show s.size + _ = _
    omega
  refine ⟨_, _, hr, ⟨w.heap.size, _, _, _, by rw [bsI_len], Nat.le_refl _, Lib.bytesWorld_at_new w 5 s, .inr (Nat.le_refl _), by rw [bsI_len]; exact hge, grownCap_le_maxLen w s.size 0 5 (by unfold maxLen; omega), hsz, ?_⟩, ?_⟩
  · rw [bsI_len]
    unfold Lib.bytesCells
    rw [Array.toList_append, List.take_append_of_le_length (by simp)]
    rw [List.take_of_length_le (by simp), ← str_by8]
    simp [Lib.strCells]
  · refine ⟨?_, ?_, ?_, by rw [Lib.bytesWorld_size]; omega, fun k hk => Lib.bytesWorld_at_old w 5 s k hk⟩ <;> simp [Lib.bytesWorld, World.freeze, World.alloc, World.drew, -World.alloc_eq, -World.drew_eq]
theorem appStr {w : World} {base : Nat} {v : Value} {ys : List Int} (h : ownT w base v ys) (s : ByteArray) (hl : ys.length + s.size ≤ 100000000000) (hb : base ≤ w.heap.size) (ty : TypeId) :
    ∃ v' w', (Builtin.append_ #[41, 9] ty #[v, .string s]).run Tryd.prog w = .ok v' w' ∧ ownT w' base v' (ys ++ bsI s) ∧ w.grownBy w' v.ownBlock := by
  obtain ⟨i3, hi, hz, hs1, hby⟩ := byte_info2
  obtain ⟨g, c, rfl⟩ := h.form
  have hmx : maxLen = 9223372036854775807 := rfl
  by_cases hr : ys.length + s.size ≤ c
  · obtain ⟨cs, hst, ho, hg⟩ := storeT (zs := bsI s) h (by rw [bsI_len]; exact hr)
    rw [← str_by8] at hst
    rw [bsI_len] at ho
    refine ⟨_, _, ?_, ho, hg⟩
    have hf := Lib.run_firstCells_string (P := Tryd.prog) w 1 s
    have hbl : (Lib.strCells s).length = s.size := Lib.strCells_length s
    simp [Builtin.append_, run_underlying Tryd.underlying41, run_underlying Tryd.underlying9, sizeOf, typeInfo, hi, hs1, Builtin.lenOf, hr, hf, Addr.add_lit, hst]
  · have hc := h.cells
    have hrun := Lib.run_append_grow_string (P := Tryd.prog) w 41 9 ty 5 i3 (.int .u8 0) Tryd.underlying41 Tryd.underlying9 hi hz ⟨g, 0, .none⟩ ys.length c (by8 ys) (by rw [hs1, by8_len, Nat.mul_one]) hc s (by omega) (by omega) (by rw [hby]; exact growslice_fits (by omega) (by omega))
    have hge := grownCap_ge w (ys.length + s.size) c 5
    have hcm := grownCap_le_maxLen w (ys.length + s.size) c 5 (by omega)
    have hl2 : (ys ++ bsI s).length = ys.length + s.size := by rw [List.length_append, bsI_len]
    refine ⟨_, _, hrun, ⟨w.heap.size, _, _, (0, 0), by rw [hl2], hb, heap_alloc_new w.drew _, .inl rfl, by rw [hl2]; exact hge, hcm, ?_, ?_⟩, ⟨rfl, rfl, rfl, by simp, fun k hk _ => heap_alloc_old w.drew _ hk⟩⟩
    · have hz1 : (Value.int IntKind.u8 0).cells.size = 1 := rfl
      simp only [Array.size_append, List.size_toArray, size_zeroCells, hz1, by8_len, Lib.strCells_length]
      omega
    · rw [hl2]
      simp only [Array.toList_append, List.append_assoc]
      rw [← List.append_assoc, str_by8, ← by8_app, List.take_append_of_le_length (by simp [by8_len, bsI_len])]
      rw [List.take_of_length_le (by rw [by8_len, hl2]; exact Nat.le_refl _)]
theorem appOne {w : World} {base : Nat} {v : Value} {ys : List Int} (h : ownT w base v ys) (x : Int) (hl : ys.length + 1 ≤ 100000000000) (hb : base ≤ w.heap.size) (ty : TypeId) {qb qo qc : Nat} (hq : w.cell? ⟨qb, qo, .none⟩ = some (.int .u8 x)) :
    ∃ v' w', (Builtin.append_ #[41, 41] ty #[v, .slice (some ⟨qb, qo, .none⟩) 1 qc]).run Tryd.prog w = .ok v' w' ∧ ownT w' base v' (ys ++ [x]) ∧ w.grownBy w' v.ownBlock := by
  obtain ⟨i3, hi, hz, hs1, hby⟩ := byte_info2
  obtain ⟨g, c, rfl⟩ := h.form
  have hmx : maxLen = 9223372036854775807 := rfl
  have hq0 : ∀ j u, (by8 [x])[j]? = some u → w.cell? ((⟨qb, qo, .none⟩ : Addr).add j) = some u := by
    intro j u hu
    cases j with
    | zero =>
      obtain rfl : Value.int .u8 x = u := Option.some.inj hu
      rw [le_addr_add, Nat.add_zero]
      exact hq
    | succ j => simp [by8] at hu
  by_cases hr : ys.length + 1 ≤ c
  · obtain ⟨cs, hst, ho, hg⟩ := storeT (zs := [x]) h hr
    refine ⟨_, _, ?_, ho, hg⟩
    have hf := run_firstCells_some (P := Tryd.prog) w 1 1 ⟨qb, qo, .none⟩ 1 qc (by8 [x]) rfl hq0
    simp [Builtin.append_, run_underlying Tryd.underlying41, sizeOf, typeInfo, hi, hs1, Builtin.lenOf, hr, hf, Addr.add_lit, hst]
  · have hc := h.cells
    have hrun := run_append_grow (P := Tryd.prog) w 41 ty 5 i3 (.int .u8 0) Tryd.underlying41 hi hz ⟨g, 0, .none⟩ ys.length c (by8 ys) (by rw [hs1, by8_len, Nat.mul_one]) hc ⟨qb, qo, .none⟩ 1 qc (by8 [x]) (by rw [hs1]; rfl) hq0 (by omega) (by omega) (by rw [hby]; exact growslice_fits (by omega) (by omega))
    have hge := grownCap_ge w (ys.length + 1) c 5
    have hcm := grownCap_le_maxLen w (ys.length + 1) c 5 (by omega)
    have hl2 : (ys ++ [x]).length = ys.length + 1 := by rw [List.length_append]; rfl
    refine ⟨_, _, hrun, ⟨w.heap.size, _, _, (0, 0), by rw [hl2], hb, heap_alloc_new w.drew _, .inl rfl, by rw [hl2]; exact hge, hcm, ?_, ?_⟩, ⟨rfl, rfl, rfl, by simp, fun k hk _ => heap_alloc_old w.drew _ hk⟩⟩
    · have hz1 : (Value.int IntKind.u8 0).cells.size = 1 := rfl
      simp only [Array.size_append, List.size_toArray, size_zeroCells, hz1, by8_len, List.length_singleton]
      omega
    · rw [hl2]
      simp only [Array.toList_append, List.append_assoc]
      rw [← List.append_assoc, ← by8_app, List.take_append_of_le_length (by simp [by8_len])]
      rw [List.take_of_length_le (by rw [by8_len, hl2]; exact Nat.le_refl _)]
end Go.Proofs.YtjbealefopajcaaDoor
