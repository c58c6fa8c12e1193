import Derived.Test.YthopgmmodldljaaFa
import Derived.Test.YthopgmmodldljaaEv
namespace Go.Proofs.Ythopgmmodldljaa
open Go Go.RowKit
set_option linter.unusedVariables false
set_option linter.unusedSimpArgs false
/-! What it means that nothing is wrong. -/
theorem firstB_cases (l : List (Int × Int)) : (firstB l = (0, 0) ∧ ∀ r ∈ l, r = (0, 0)) ∨ (firstB l ∈ l ∧ firstB l ≠ (0, 0)) := by
  unfold firstB
  cases h : l.find? (fun r => r != (0, 0)) with
  | none => exact .inl ⟨rfl, fun r hr => by have := List.find?_eq_none.1 h r hr; simpa using this⟩
  | some r => exact .inr ⟨List.mem_of_find?_eq_some h, by have := List.find?_some h; simpa using this⟩
theorem unW_kind (b : Bool) (k n : Int) (h : 2 ≤ k ∧ k ≤ 11) : unW b k n = (0, 0) ∨ (2 ≤ (unW b k n).1 ∧ (unW b k n).1 ≤ 11) := by
  cases b
  · exact .inr h
  · exact .inl rfl
theorem wfW_kind (t : Int) (i : Nat) : wfW t i = (0, 0) ∨ (2 ≤ (wfW t i).1 ∧ (wfW t i).1 ≤ 11) := by
  unfold wfW
  split
  · exact .inr (by simp)
  · split
    · exact .inl rfl
    · exact .inr (by simp)
theorem wr_kind {N : Nat} {L : Lk} {fr : List Int} {pf nf : Th → Option Int} : ∀ r ∈ (wrAll N L fr pf nf).flatten, r = (0, 0) ∨ (2 ≤ r.1 ∧ r.1 ≤ 11) := by
  intro r hr
  obtain ⟨l, hl, hr⟩ := List.mem_flatten.1 hr
  simp only [wrAll, List.mem_cons, List.not_mem_nil, or_false] at hl
  rcases hl with rfl | rfl | rfl | rfl | rfl | rfl | rfl | rfl | rfl
  · obtain ⟨x, _, rfl⟩ := List.mem_map.1 hr; exact unW_kind _ _ _ (by omega)
  · obtain ⟨x, _, rfl⟩ := List.mem_map.1 hr; exact wfW_kind _ _
  · rw [List.mem_singleton] at hr; subst hr; exact unW_kind _ _ _ (by omega)
  · obtain ⟨x, _, rfl⟩ := List.mem_map.1 hr; exact unW_kind _ _ _ (by omega)
  · obtain ⟨x, _, rfl⟩ := List.mem_map.1 hr; exact unW_kind _ _ _ (by omega)
  · obtain ⟨x, _, rfl⟩ := List.mem_map.1 hr; exact unW_kind _ _ _ (by omega)
  · obtain ⟨x, _, rfl⟩ := List.mem_map.1 hr; exact unW_kind _ _ _ (by omega)
  · obtain ⟨x, _, rfl⟩ := List.mem_map.1 hr; exact unW_kind _ _ _ (by omega)
  · obtain ⟨x, _, rfl⟩ := List.mem_map.1 hr; exact unW_kind _ _ _ (by omega)
structure Fine (N : Nat) (L : Lk) (fr : List Int) : Prop where
  all : ∀ x ∈ allL L fr, isF N x.1
  one : ∀ o ∈ frL N (allL L fr), o.2.2 = 1
  free : L.free = (fr.length : Int)
theorem tk_cases (N : Nat) (L : Lk) (fr : List Int) : ((tkW N L fr).1 = 0 ∧ tkW N L fr = (0, 0) ∧ Fine N L fr) ∨ (2 ≤ (tkW N L fr).1 ∧ (tkW N L fr).1 ≤ 11) := by
  rcases firstB_cases (wrAll N L fr (pfA L) (nfA L)).flatten with ⟨h1, h2⟩ | ⟨h1, h2⟩
  · refine .inl ⟨by unfold tkW; rw [h1], h1, ?_⟩
    have hm : ∀ l ∈ wrAll N L fr (pfA L) (nfA L), ∀ r ∈ l, r = (0, 0) := fun l hl r hr => h2 r (List.mem_flatten.2 ⟨l, hl, hr⟩)
    refine ⟨fun x hx => ?_, fun o ho => ?_, ?_⟩
    · obtain ⟨i, hi⟩ := List.getElem?_of_mem hx
      have := hm ((allL L fr).zipIdx.map fun x => unW (decide (isF N x.1.1)) 2 x.2) (by simp [wrAll]) (unW (decide (isF N x.1)) 2 i) (List.mem_map.2 ⟨(x, i), by rw [List.mem_zipIdx_iff_getElem?]; exact hi, rfl⟩)
      by_cases hf : isF N x.1
      · exact hf
      · rw [decide_eq_false hf] at this
        injection this with this
        cases this
    · obtain ⟨i, hi⟩ := List.getElem?_of_mem ho
      have := hm ((frL N (allL L fr)).zipIdx.map fun x => wfW x.1.2.2 x.2) (by simp [wrAll]) (wfW o.2.2 i) (List.mem_map.2 ⟨(o, i), by rw [List.mem_zipIdx_iff_getElem?]; exact hi, rfl⟩)
      unfold wfW at this
      split at this
      · injection this with this; cases this
      · split at this
        · assumption
        · injection this with this; cases this
    · have := hm [unW (L.free == (fr.length : Int)) 5 0] (by simp [wrAll]) _ (List.mem_singleton.2 rfl)
      cases hb : (L.free == (fr.length : Int))
      · rw [hb] at this
        injection this with this
        cases this
      · simpa using hb
  · rcases wr_kind _ h1 with h | h
    · exact absurd h h2
    · exact .inr h
theorem sumI_map_add (l : List Pc) : sumI (l.map fun p => (p.nodes.length : Int)) + sumI (l.map fun p => (p.pages.length : Int)) + sumI (l.map fun _ => (1 : Int)) = worthS l := by
  unfold worthS
  rw [← sumI_add, ← sumI_add]
  exact sumI_ext (fun p _ => by omega)
theorem allL_size (L : Lk) (fr : List Int) : ((allL L fr).length : Int) = 1 + fr.length + worthS L.procs + blockS L.inos := by
  rw [← cn_true]
  unfold allL
  rw [cn_app, cn_app, cn_app, cn_flat, cn_flat]
  have e : ∀ A : List Nm, cn (fun _ => true) A = A.length := cn_true
  have h3 : sumI (L.procs.map fun a => cn (fun _ => true) (nmP a)) = worthS L.procs := sumI_ext (fun p _ => by
    rw [e]
    simp only [nmP, nmN, nmG, List.length_append, List.length_map, List.length_cons, List.length_nil]
    omega)
  have h4 : sumI (L.inos.map fun a => cn (fun _ => true) (nmI a)) = blockS L.inos := sumI_ext (fun x _ => by
    rw [e]
    simp only [nmI, nmB, List.length_map])
  rw [h3, h4, e, e]
  simp only [List.length_cons, List.length_nil, nmF, List.length_map]
  omega
theorem Fine.cc {N : Nat} {L : Lk} {fr : List Int} (h : Fine N L fr) (c : Int) : ccT (frL N (allL L fr)) c = cn (clsC c) (allL L fr) := by
  rw [ccT_fr h.one c]
  exact cn_ext (fun x hx => by rw [decide_eq_true (h.all x hx)]; rfl)
theorem Fine.sums {N : Nat} {L : Lk} {fr : List Int} (h : Fine N L fr) : ccT (frL N (allL L fr)) 0 = 0 ∧ ccT (frL N (allL L fr)) 1 = 1 ∧ ccT (frL N (allL L fr)) 2 = L.free ∧ ccT (frL N (allL L fr)) 6 = blockS L.inos ∧ ccT (frL N (allL L fr)) 3 + ccT (frL N (allL L fr)) 4 + ccT (frL N (allL L fr)) 5 = worthS L.procs ∧ 1 + L.free + worthS L.procs + blockS L.inos = (N : Int) := by
  have z : ∀ l : List Pc, sumI (l.map fun _ => (0 : Int)) = 0 := fun l => sumI_zero l
  refine ⟨?_, ?_, ?_, ?_, ?_, ?_⟩
  · rw [h.cc, cn_allL]; simp [z]
  · rw [h.cc, cn_allL]; simp [z]
  · rw [h.cc, cn_allL, h.free]; simp [z]
  · rw [h.cc, cn_allL]; simp [z]
  · rw [h.cc, h.cc, h.cc, cn_allL, cn_allL, cn_allL]
    have := sumI_map_add L.procs
    simp only [show ¬ ((3 : Int) = 1) by omega, show ¬ ((3 : Int) = 2) by omega, show ¬ ((3 : Int) = 4) by omega, show ¬ ((3 : Int) = 5) by omega, show ¬ ((3 : Int) = 6) by omega, show ¬ ((4 : Int) = 1) by omega, show ¬ ((4 : Int) = 2) by omega, show ¬ ((4 : Int) = 3) by omega, show ¬ ((4 : Int) = 5) by omega, show ¬ ((4 : Int) = 6) by omega, show ¬ ((5 : Int) = 1) by omega, show ¬ ((5 : Int) = 2) by omega, show ¬ ((5 : Int) = 3) by omega, show ¬ ((5 : Int) = 4) by omega, show ¬ ((5 : Int) = 6) by omega, if_false, if_true, Int.add_zero, Int.zero_add]
    exact this
  · have h1 := smT_fr N (allL L fr)
    rw [smT_len h.one, cn_ext (q := fun _ => true) (fun x hx => decide_eq_true (h.all x hx)), cn_true, allL_size] at h1
    have h2 : (frL N (allL L fr)).length = N := by simp [frL]
    rw [h2] at h1
    have := h.free
    omega
end Go.Proofs.Ythopgmmodldljaa
