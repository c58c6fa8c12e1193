import Derived.Test.YtjbealefopajcaaDoorSz
import Derived.Lib.BufferRead
namespace Go.Proofs.YtjbealefopajcaaDoor
open Go Go.RowKit Rg
set_option linter.unusedVariables false
set_option linter.unusedSimpArgs false
/-! Strings and lists of bytes. -/
theorem toB_data (ns : List Int) : (toB ns).data = (ns.map fun n => UInt8.ofNat n.toNat).toArray := by
  have H : ∀ (ns : List Int) (r : ByteArray), (ns.foldl (fun r n => r.push (UInt8.ofNat n.toNat)) r).data = r.data ++ (ns.map fun n => UInt8.ofNat n.toNat).toArray := by
    intro ns
    induction ns with
    | nil => intro r; simp
    | cons n ns ih =>
      intro r
      rw [List.foldl_cons, ih]
      simp [ByteArray.push]
  have := H ns ByteArray.empty
  unfold toB
  rw [this]
  have e : ByteArray.empty.data = #[] := rfl
  rw [e, Array.empty_append]
theorem ba_ext {a b : ByteArray} (h : a.data = b.data) : a = b := by
  cases a; cases b; cases h; rfl
theorem bsI_app (s t : ByteArray) : bsI (s ++ t) = bsI s ++ bsI t := by
  unfold bsI
  rw [ByteArray.data_append, Array.toList_append, List.map_append]
theorem bsI_toB {ns : List Int} (h : ∀ x ∈ ns, 0 ≤ x ∧ x < 256) : bsI (toB ns) = ns := by
  unfold bsI
  rw [toB_data, List.map_map]
  conv => rhs; rw [← List.map_id ns]
  apply List.map_congr_left
  intro x hx
  have := h x hx
  show (((UInt8.ofNat x.toNat).toNat : Nat) : Int) = x
  rw [UInt8.toNat_ofNat']
  omega
theorem toB_bsI (s : ByteArray) : toB (bsI s) = s := by
  apply ba_ext
  rw [toB_data]
  unfold bsI
  rw [List.map_map]
  have : (s.data.toList.map ((fun n : Int => UInt8.ofNat n.toNat) ∘ fun b : UInt8 => ((b.toNat : Nat) : Int))) = s.data.toList := by
    conv => rhs; rw [← List.map_id s.data.toList]
    apply List.map_congr_left
    intro b _
    show UInt8.ofNat ((b.toNat : Nat) : Int).toNat = b
    simp
  rw [this]
theorem toB_app (ns : List Int) (s : ByteArray) : toB ns ++ s = toB (ns ++ bsI s) := by
  apply ba_ext
  rw [ByteArray.data_append, toB_data, toB_data, List.map_append]
  have := congrArg ByteArray.data (toB_bsI s)
  rw [toB_data] at this
  have h2 : s.data = ((bsI s).map fun n => UInt8.ofNat n.toNat).toArray := this.symm
  rw [h2]
  simp
theorem conv_any {w : World} {base n c : Nat} {p : Option Addr} {ys : List Int} (h : w.ownsRow base 5 1 (.slice p n c) n (by8 ys)) (hn : ys.length = n) : (convert 41 9 (.slice p n c)).run Tryd.prog w = .ok (.string (toB ys)) w := by
  by_cases h0 : 0 < n
  · exact conv_own h hn h0
  · obtain rfl : n = 0 := by omega
    obtain rfl : ys = [] := List.eq_nil_of_length_eq_zero hn
    rcases h.2 with ⟨hv, _⟩ | ⟨g, cap, cur, hv, _⟩
    · cases hv
      exact Lib.run_convert_nil_bytes w 41 9 5 0 Tryd.underlying41 Tryd.underlying5 Tryd.underlying9
    · cases hv
      rw [run_convert_bytes_string w 41 9 5 _ 0 c Tryd.underlying41 Tryd.underlying5 Tryd.underlying9]
      exact run_bytesToString w _ 0 c [] (by simpa using run_loadCells_list (P := Tryd.prog) (w := w) ⟨g, 0, .none⟩ [] (fun j v hj => by simp at hj))
end Go.Proofs.YtjbealefopajcaaDoor
