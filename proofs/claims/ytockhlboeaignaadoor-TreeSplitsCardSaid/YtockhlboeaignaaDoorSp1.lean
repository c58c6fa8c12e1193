import Derived.Lib.Bytealg
import Derived.Lib.IndexLaws
namespace Go.Proofs.YtockhlboeaignaaDoor
open Go
set_option linter.unusedVariables false
abbrev Bs := List UInt8
/-- Where the first byte c stands; -1: nowhere. -/
abbrev ix (l : Bs) (c : UInt8) : Int := Lib.indexByte l c
theorem ix_cases (l : Bs) (c : UInt8) : ix l c = -1 ∨ ∃ o : Nat, ix l c = o ∧ o < l.length := by
  have h : -1 ≤ ix l c := Lib.indexByte_ge l c
  by_cases e : ix l c = -1
  · exact .inl e
  · right
    refine ⟨(ix l c).toNat, by omega, ?_⟩
    have h1 := (Lib.indexByte_some (l := l) (c := c) (o := (ix l c).toNat) (show ix l c = _ by omega)).1
    exact (List.getElem?_eq_some_iff.1 h1).1
theorem ix_is {l : Bs} {c : UInt8} {o : Nat} (h : l[o]? = some c) (hk : ∀ k, k < o → l[k]? ≠ some c) : ix l c = o := by
  rcases ix_cases l c with e | ⟨p, e, _⟩
  · exact absurd h (Lib.indexByte_none e o)
  · obtain ⟨h1, h2⟩ := Lib.indexByte_some e
    have : p = o := by
      rcases Nat.lt_trichotomy p o with hl | hl | hl
      · exact absurd h1 (hk p hl)
      · exact hl
      · exact absurd h (h2 o hl)
    rw [e, this]
theorem ix_not {l : Bs} {c : UInt8} (h : ∀ k : Nat, l[k]? ≠ some c) : ix l c = -1 := by
  rcases ix_cases l c with e | ⟨p, e, _⟩
  · exact e
  · exact absurd (Lib.indexByte_some e).1 (h p)
/-- The pieces between slashes. -/
def pcs (l : Bs) : List Bs := if h : ix l 47 = -1 then [l] else l.take (ix l 47).toNat :: pcs (l.drop ((ix l 47).toNat + 1))
termination_by l.length
decreasing_by
  rcases ix_cases l 47 with e | ⟨o, e, ho⟩
  · exact absurd e h
  · rw [List.length_drop]; omega
theorem pcs_last {l : Bs} (h : ix l 47 = -1) : pcs l = [l] := by rw [pcs, dif_pos h]
theorem pcs_next {l : Bs} {o : Nat} (h : ix l 47 = o) : pcs l = l.take o :: pcs (l.drop (o + 1)) := by
  rw [pcs, dif_neg (by omega), h]; rfl
theorem pcs_len (l : Bs) : (pcs l).length ≤ l.length + 1 := by
  induction hn : l.length using Nat.strongRecOn generalizing l with
  | ind n ih =>
    rcases ix_cases l 47 with e | ⟨o, e, ho⟩
    · rw [pcs_last e]; simp
    · rw [pcs_next e, List.length_cons]
      have := ih (l.drop (o + 1)).length (by rw [List.length_drop]; omega) _ rfl
      rw [List.length_drop] at this
      omega
theorem pcs_mem {l x : Bs} (h : x ∈ pcs l) : x.length ≤ l.length := by
  induction hn : l.length using Nat.strongRecOn generalizing l with
  | ind n ih =>
    rcases ix_cases l 47 with e | ⟨o, e, ho⟩
    · rw [pcs_last e] at h; simp at h; subst h; omega
    · rw [pcs_next e] at h
      rcases List.mem_cons.1 h with rfl | h
      · rw [List.length_take]; omega
      · have := ih (l.drop (o + 1)).length (by rw [List.length_drop]; omega) h rfl
        rw [List.length_drop] at this
        omega
/-- The names of a path: the pieces that are not empty, cut. -/
def nms (L : List Bs) : List Bs := (L.filter (fun x => decide (x ≠ []))).map (·.take 14)
theorem nms_app (A B : List Bs) : nms (A ++ B) = nms A ++ nms B := by simp [nms]
theorem nms_nil : nms [[]] = [] := by simp [nms]
theorem nms_one {x : Bs} (h : x ≠ []) : nms [x] = [x.take 14] := by simp [nms, h]
theorem nms_len (L : List Bs) : (nms L).length ≤ L.length := by
  rw [nms, List.length_map]; exact List.length_filter_le _ _
def names (l : Bs) : List Bs := nms (pcs l)
/-- A path that is none. -/
def bad (l : Bs) : Prop := 128 ≤ l.length ∨ ∃ k : Nat, l[k]? = some 0
/-- The document's reading: from 'f' on, with no slash up to 'i'. -/
theorem names_slash {l : Bs} {f i : Nat} (hfi : f ≤ i) (hn : ∀ k, f ≤ k → k < i → l[k]? ≠ some 47) (h : l[i]? = some 47) : names (l.drop f) = nms [(l.take i).drop f] ++ names (l.drop (i + 1)) := by
  have e : ix (l.drop f) 47 = ((i - f : Nat) : Int) := ix_is (by rw [List.getElem?_drop]; rw [show f + (i - f) = i by omega]; exact h) (fun k hk => by rw [List.getElem?_drop]; exact hn _ (by omega) (by omega))
  rw [names, pcs_next e, ← List.singleton_append, nms_app, names, List.drop_drop]
  congr 2
  · rw [List.drop_take]
  · rw [show f + (i - f + 1) = i + 1 by omega]
theorem names_end {l : Bs} {f : Nat} (hn : ∀ k, f ≤ k → k < l.length → l[k]? ≠ some 47) : names (l.drop f) = nms [l.drop f] := by
  have e : ix (l.drop f) 47 = -1 := ix_not (fun k => by
    rw [List.getElem?_drop]
    by_cases h : f + k < l.length
    · exact hn _ (by omega) h
    · rw [List.getElem?_eq_none (by omega)]; simp)
  rw [names, pcs_last e]
end Go.Proofs.YtockhlboeaignaaDoor
