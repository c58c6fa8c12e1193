import Derived.Test.YtjbealefopajcaaDoorWm
namespace Go.Proofs.YtjbealefopajcaaDoor
open Go Go.RowKit Rg
set_option linter.unusedVariables false
set_option linter.unusedSimpArgs false
set_option maxRecDepth 100000
/-! Bytes that are turned one by one. -/
def xr (x : Int) : Int := bits .xor .u8 x 17
theorem xr_fin : ∀ x : Fin 256, 0 ≤ bits .xor .u8 ((x : Nat) : Int) 17 ∧ bits .xor .u8 ((x : Nat) : Int) 17 < 256 := by decide +kernel
theorem xr_bd (x : Int) (h : 0 ≤ x ∧ x < 256) : 0 ≤ xr x ∧ xr x < 256 := by
  obtain ⟨n, rfl⟩ : ∃ n : Nat, x = n := ⟨x.toNat, by omega⟩
  exact xr_fin ⟨n, by omega⟩
def xl (k : Nat) (ds : List Int) : List Int := (ds.take k).map xr ++ ds.drop k
theorem xl_len (k : Nat) (ds : List Int) : (xl k ds).length = ds.length := by
  unfold xl
  rw [List.length_append, List.length_map, List.length_take, List.length_drop]
  omega
theorem xl_zero (ds : List Int) : xl 0 ds = ds := by unfold xl; simp
theorem xl_get {k : Nat} {ds : List Int} {x : Int} (h : ds[k]? = some x) : (xl k ds)[k]? = some x := by
  unfold xl
  have hl := (List.getElem?_eq_some_iff.1 h).1
  rw [List.getElem?_append_right (by rw [List.length_map, List.length_take]; omega), List.length_map, List.length_take, List.getElem?_drop, show k + (k - min k ds.length) = k by omega]
  exact h
theorem xl_set {k : Nat} {ds : List Int} {x : Int} (h : ds[k]? = some x) : (xl k ds).set k (xr x) = xl (k + 1) ds := by
  have hl := (List.getElem?_eq_some_iff.1 h).1
  apply List.ext_getElem?
  intro j
  rw [List.getElem?_set, xl_len]
  unfold xl
  simp only [List.getElem?_append, List.length_map, List.length_take, List.getElem?_map, List.getElem?_take, List.getElem?_drop]
  by_cases hj : k = j
  · subst hj
    rw [if_pos rfl, if_pos hl, if_pos (by omega), if_pos (by omega), h]
    rfl
  · rw [if_neg hj]
    by_cases h1 : j < k
    · rw [if_pos (by omega), if_pos h1, if_pos (by omega), if_pos (by omega)]
    · rw [if_neg (by omega), if_neg (by omega)]
      congr 1
      omega
theorem xl_bd {k : Nat} {ds : List Int} (h : ∀ x ∈ ds, 0 ≤ x ∧ x < 256) : ∀ x ∈ xl k ds, 0 ≤ x ∧ x < 256 := by
  intro x hx
  unfold xl at hx
  rcases List.mem_append.1 hx with hx | hx
  · obtain ⟨y, hy, rfl⟩ := List.mem_map.1 hx
    exact xr_bd y (h y (List.mem_of_mem_take hy))
  · exact h x (List.mem_of_mem_drop hx)
def xF (k : Nat) (f : Fl) : Fl := { f with data := xl k f.data }
theorem xF_zero (f : Fl) : xF 0 f = f := by unfold xF; rw [xl_zero]
/-- The first i files turned whole, of the next the first k bytes. -/
def xFn (i k : Nat) (x : Fl × Gc) (j : Nat) : Fl × Gc := if j < i then (xF x.1.data.length x.1, x.2) else if j = i then (xF k x.1, x.2) else x
def xFL (i k : Nat) (l : List (Fl × Gc)) : List (Fl × Gc) := l.mapIdx fun j x => xFn i k x j
theorem xFL_get (i k j : Nat) (l : List (Fl × Gc)) : (xFL i k l)[j]? = (l[j]?).map fun x => xFn i k x j := by
  unfold xFL
  rw [List.getElem?_mapIdx]
theorem xFL_len (i k : Nat) (l : List (Fl × Gc)) : (xFL i k l).length = l.length := by unfold xFL; simp
theorem xFL_zero (l : List (Fl × Gc)) : xFL 0 0 l = l := by
  apply List.ext_getElem?
  intro j
  rw [xFL_get]
  cases l[j]? with
  | none => rfl
  | some x =>
    simp only [Option.map_some, xFn, Nat.not_lt_zero, if_false]
    split
    · rw [xF_zero]
    · rfl
theorem xFL_next {i : Nat} {l : List (Fl × Gc)} {x : Fl × Gc} (h : l[i]? = some x) : xFL i x.1.data.length l = xFL (i + 1) 0 l := by
  apply List.ext_getElem?
  intro j
  rw [xFL_get, xFL_get]
  cases hj : l[j]? with
  | none => rfl
  | some y =>
    simp only [Option.map_some, xFn]
    congr 1
    by_cases h1 : j < i
    · rw [if_pos h1, if_pos (by omega)]
    · by_cases h2 : j = i
      · subst h2
        rw [h] at hj
        cases hj
        rw [if_neg h1, if_pos rfl, if_pos (by omega)]
      · rw [if_neg h1, if_neg h2, if_neg (by omega)]
        split
        · rw [xF_zero]
        · rfl
theorem xFL_set {i k : Nat} {l : List (Fl × Gc)} {f : Fl} {gc : Gc} {b : Int} (h : l[i]? = some (f, gc)) (hb : f.data[k]? = some b) : (xFL i k l).set i ({ xF k f with data := (xF k f).data.set k (xr b) }, gc) = xFL i (k + 1) l := by
  have hl := (List.getElem?_eq_some_iff.1 h).1
  apply List.ext_getElem?
  intro j
  rw [List.getElem?_set, xFL_len, xFL_get, xFL_get]
  by_cases hj : i = j
  · subst hj
    rw [if_pos rfl, if_pos hl, h]
    simp only [Option.map_some, xFn, Nat.lt_irrefl, if_false, if_true]
    unfold xF
    simp only [xl_set hb]
  · rw [if_neg hj]
    cases l[j]? with
    | none => rfl
    | some y =>
      simp only [Option.map_some, xFn]
      rw [if_neg (c := j = i) (fun e => hj e.symm), if_neg (c := j = i) (fun e => hj e.symm)]
theorem xFL_full (l : List (Fl × Gc)) : (xFL l.length 0 l).map (·.1) = (l.map (·.1)).map fun f => xF f.data.length f := by
  apply List.ext_getElem?
  intro j
  rw [List.getElem?_map, xFL_get, List.getElem?_map, List.getElem?_map]
  cases hj : l[j]? with
  | none => rfl
  | some y =>
    have := (List.getElem?_eq_some_iff.1 hj).1
    simp only [Option.map_some, xFn]
    rw [if_pos this]
theorem xFL_C (i k : Nat) (l : List (Fl × Gc)) : (xFL i k l).flatMap flC = l.flatMap flC := by
  rw [List.flatMap_def, List.flatMap_def]
  congr 1
  apply List.ext_getElem?
  intro j
  rw [List.getElem?_map, xFL_get, List.getElem?_map]
  cases l[j]? with
  | none => rfl
  | some y =>
    simp only [Option.map_some, xFn]
    congr 1
    have e : ∀ k, flC (xF k y.1, y.2) = flC y := fun k => by
      unfold flC xF
      simp only [xl_len]
      rfl
    split
    · exact e _
    · split
      · exact e _
      · rfl
theorem rowFl_x (fv : Value) (i k : Nat) (l : List (Fl × Gc)) : rowFl fv (xFL i k l) = rowFl fv l := by
  unfold rowFl
  rw [xFL_C, xFL_len]
/-- A byte of the i-th file's data is written over. -/
theorem lent_set {w : World} {base : Nat} {fv tv iv : Value} {FL : List (Fl × Gc)} {ts : List Int} {IL : List (Ip × Gc)} (h : Owns w base (rowsS fv tv iv FL ts IL)) {i k g c : Nat} {f : Fl} (hx : FL[i]? = some (f, (g, c))) (hk : k < f.data.length) (y : Int) :
    Owns (w.setCell ⟨g, k, .none⟩ (.int .u8 y)) base (rowsS fv tv iv (FL.set i ({ f with data := f.data.set k y }, (g, c))) ts IL) := by
  have hl := (List.getElem?_eq_some_iff.1 hx).1
  have e1 : FL = FL.take i ++ (f, (g, c)) :: FL.drop (i + 1) := by
    have h1 := List.getElem_cons_drop hl
    rw [(List.getElem?_eq_some_iff.1 hx).2] at h1
    rw [h1, List.take_append_drop]
  have e2 : FL.set i ({ f with data := f.data.set k y }, (g, c)) = FL.take i ++ ({ f with data := f.data.set k y }, (g, c)) :: FL.drop (i + 1) := by
    rw [List.set_eq_take_append_cons_drop, if_pos hl]
  have e3 : rowFl fv (FL.set i ({ f with data := f.data.set k y }, (g, c))) = rowFl fv FL := by
    unfold rowFl
    rw [List.length_set]
    congr 1
    rw [e2]
    conv => rhs; rw [e1]
    rw [List.flatMap_append, List.flatMap_append, List.flatMap_cons, List.flatMap_cons]
    congr 2
    unfold flC
    simp only [List.length_set]
    rfl
  unfold rowsS at h ⊢
  rw [e3, e2]
  unfold rowsD at h ⊢
  rw [e1] at h
  rw [List.map_append, List.map_cons] at h ⊢
  have h2 : Owns w base (([rowFl fv FL, rowTk tv ts, rowIp iv IL] ++ (FL.take i).map fun x => rowD x.1.data x.2) ++ rowD f.data (g, c) :: ((FL.drop (i + 1)).map (fun x => rowD x.1.data x.2) ++ rowsE IL)) := by
    rw [← e1] at h
    simpa only [List.append_assoc, List.cons_append] using h
  have h3 := h2.setAt (j := k) (g := g) (n := f.data.length + 64) (c := c) (.int .u8 y) rfl rfl (by show k < (by8 (f.data ++ marks)).length; rw [by8_len, List.length_append]; omega)
  have e4 : (rowD f.data (g, c)).xs.set k (.int .u8 y) = by8 (f.data.set k y ++ marks) := by
    show (by8 (f.data ++ marks)).set k _ = _
    unfold by8
    rw [← List.set_append_left _ _ hk, ← List.map_set]
  rw [e4] at h3
  have e5 : (⟨(rowD f.data (g, c)).e, (rowD f.data (g, c)).sz, (rowD f.data (g, c)).n, (rowD f.data (g, c)).v, by8 (f.data.set k y ++ marks)⟩ : Row) = rowD (f.data.set k y) (g, c) := by
    unfold rowD
    simp only [List.length_set]
  rw [e5] at h3
  simpa only [List.append_assoc, List.cons_append] using h3
/-- What stands below a mark stays, whatever is written from there on. -/
theorem Owns.below {w w' : World} {base B : Nat} {R : List Row} (h : Owns w base R) (hb : Below B w w') (hB : ∀ g ∈ blks R, g < B) : Owns w' base R :=
  ⟨fun r hr => own_bel (h.own r hr) hb (fun g hg => hB g (List.mem_filterMap.2 ⟨r, hr, hg⟩)), h.nd⟩
theorem Owns.other {w : World} {base g k : Nat} {R : List Row} {u : Value} (h : Owns w base R) (hg : g < base) : Owns (w.setCell ⟨g, k, .none⟩ u) base R :=
  ⟨fun r hr => by
    refine (h.own r hr).kept (setCell_grown w g k u) ?_
    cases hv : r.v.ownBlock with
    | none => exact .inl rfl
    | some q => exact .inr (fun e => by injection e with e; have := ((h.own r hr).lt q hv).1; omega), h.nd⟩
end Go.Proofs.YtjbealefopajcaaDoor
