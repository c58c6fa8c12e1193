import Derived.Test.YtjbealefopajcaaDoorWn
namespace Go.Proofs.YtjbealefopajcaaDoor
open Go Go.RowKit Rg
set_option linter.unusedVariables false
set_option linter.unusedSimpArgs false
set_option maxRecDepth 100000
/-! What the law holds while bytes are turned. -/
/-- The script as it was handed in, in its box. -/
def Bs (w : World) (z X : Nat) (fv tv iv : Value) (S : Sc) (W : World) : Prop := ScW W X fv tv iv S ∧ TB W ∧ Below z w W ∧ z < W.heap.size ∧ W.heap[z]? = some (.cells (scL S fv tv iv).toArray 26 (0, 0)) ∧ X ≤ z ∧ 3 ≤ z
theorem Bs.keep {w : World} {z X : Nat} {fv tv iv : Value} {S : Sc} {W W' : World} (h : Bs w z X fv tv iv S W) (hb : Below W.heap.size W W') : Bs w z X fv tv iv S W' :=
  ⟨h.1.keep (Nat.le_refl _) (hb.mono (by have := h.2.2.2; omega)), h.2.1.keep hb, h.2.2.1.trans (hb.mono (by have := h.2.2.2; omega)), Nat.lt_of_lt_of_le h.2.2.2.1 hb.size, (hb.block z h.2.2.2.1).trans h.2.2.2.2.1, h.2.2.2.2.2⟩
/-- A lent script in its box. -/
def Cs (S : Sc) (cb B : Nat) (fv tv iv : Value) (FL : List (Fl × Gc)) (IL : List (Ip × Gc)) (W : World) : Prop := W.heap[cb]? = some (.cells (scL S fv tv iv).toArray 26 (0, 0)) ∧ Owns W B (rowsS fv tv iv FL S.ticks IL)
theorem Cs.keep {S : Sc} {cb B : Nat} {fv tv iv : Value} {FL : List (Fl × Gc)} {IL : List (Ip × Gc)} {W W' : World} (h : Cs S cb B fv tv iv FL IL W) (hb : Below W.heap.size W W') : Cs S cb B fv tv iv FL IL W' := ⟨(hb.block cb (hp_lt h.1)).trans h.1, h.2.keep hb⟩
def AgrR (w : World) (v g : Value) (a r : Int) : Prop := ((r ≠ 0 ∧ FaultIn w 0 v a r) ∨ (r = 0 ∧ v = .nilIface)) ∧ RefR w g a r
theorem errs_keep {w w' : World} {v : Value} {a r : Int} (h : (r ≠ 0 ∧ FaultIn w 0 v a r) ∨ (r = 0 ∧ v = .nilIface)) (hb : Below w.heap.size w w') : (r ≠ 0 ∧ FaultIn w' 0 v a r) ∨ (r = 0 ∧ v = .nilIface) := h.imp (fun ⟨h1, h2⟩ => ⟨h1, h2.below hb⟩) id
theorem Bs.low {w : World} {z X B : Nat} {fv tv iv : Value} {S : Sc} {W W' : World} (h : Bs w z X fv tv iv S W) (hb : Below B W W') (hB : z < B) : Bs w z X fv tv iv S W' :=
  ⟨h.1.keep (Nat.le_refl _) (hb.mono (by have := h.2.2.2; omega)), h.2.1.of (fun g hg => hb.block g (by have := h.2.2.2; omega)), h.2.2.1.trans (hb.mono (Nat.le_of_lt hB)), Nat.lt_of_lt_of_le h.2.2.2.1 hb.size, (hb.block z hB).trans h.2.2.2.2.1, h.2.2.2.2.2⟩
def gcs (FL : List (Fl × Gc)) : List Nat := FL.map fun x => x.2.1
theorem blks_D (FL : List (Fl × Gc)) : blks (rowsD FL) = gcs FL := by
  induction FL with
  | nil => rfl
  | cons x l ih =>
    unfold blks rowsD gcs at *
    rw [List.map_cons, List.filterMap_cons, List.map_cons, ih]
    rfl
theorem gcs_x (i k : Nat) (FL : List (Fl × Gc)) : gcs (xFL i k FL) = gcs FL := by
  apply List.ext_getElem?
  intro j
  unfold gcs
  rw [List.getElem?_map, xFL_get, List.getElem?_map]
  cases FL[j]? with
  | none => rfl
  | some x =>
    simp only [Option.map_some, xFn]
    split
    · rfl
    · split <;> rfl
theorem blks_x (fv tv iv : Value) (i k : Nat) (FL : List (Fl × Gc)) (ts : List Int) (IL : List (Ip × Gc)) : blks (rowsS fv tv iv (xFL i k FL) ts IL) = blks (rowsS fv tv iv FL ts IL) := by
  unfold rowsS
  rw [rowFl_x]
  have h : ∀ A B : List Row, blks (A ++ B) = blks A ++ blks B := fun A B => by unfold blks; rw [List.filterMap_append]
  rw [h, h, h, h, blks_D, blks_D, gcs_x]
structure Xi (w : World) (z X : Nat) (fv tv iv : Value) (S : Sc) (cb B1 : Nat) (fc tc ic : Value) (FL : List (Fl × Gc)) (IL : List (Ip × Gc)) (fb : Nat) (fo : Obj) (db B2 : Nat) (fd td jd : Value) (GL : List (Fl × Gc)) (JL : List (Ip × Gc)) (i k i' k' : Nat) (W : World) : Prop where
  bs : Bs w z X fv tv iv S W
  c : Cs S cb B1 fc tc ic (xFL i k FL) IL W
  f : W.heap[fb]? = some fo
  d : Cs S db B2 fd td jd (xFL i' k' GL) JL W
  cl : ∀ g ∈ blks (rowsS fc tc ic FL S.ticks IL), g < cb
  dl : ∀ g ∈ blks (rowsS fd td jd GL S.ticks JL), g < db
  o : z < B1 ∧ B1 ≤ cb ∧ cb < fb ∧ fb < B2 ∧ B2 ≤ db
section
variable {w : World} {z X : Nat} {fv tv iv : Value} {S : Sc} {cb B1 : Nat} {fc tc ic : Value} {FL : List (Fl × Gc)} {IL : List (Ip × Gc)} {fb : Nat} {fo : Obj} {db B2 : Nat} {fd td jd : Value} {GL : List (Fl × Gc)} {JL : List (Ip × Gc)} {i k i' k' : Nat} {W : World}
theorem mem_gcs {FL : List (Fl × Gc)} {ts : List Int} {IL : List (Ip × Gc)} {fv tv iv : Value} {f : Fl} {g c i : Nat} (h : FL[i]? = some (f, (g, c))) : g ∈ blks (rowsS fv tv iv FL ts IL) := by
  refine List.mem_filterMap.2 ⟨rowD f.data (g, c), ?_, rfl⟩
  simp only [rowsS, List.mem_append]
  exact .inr (.inl (List.mem_map_of_mem (f := fun x : Fl × Gc => rowD x.1.data x.2) (List.mem_of_getElem? h)))
theorem xFL_at {FL : List (Fl × Gc)} {f : Fl} {gc : Gc} {i : Nat} (k : Nat) (h : FL[i]? = some (f, gc)) : (xFL i k FL)[i]? = some (xF k f, gc) := by
  rw [xFL_get, h]
  simp [xFn]
theorem Xi.setc (h : Xi w z X fv tv iv S cb B1 fc tc ic FL IL fb fo db B2 fd td jd GL JL i k i' k' W) {f : Fl} {g c : Nat} {b : Int} (hx : FL[i]? = some (f, (g, c))) (hb : f.data[k]? = some b) :
    Xi w z X fv tv iv S cb B1 fc tc ic FL IL fb fo db B2 fd td jd GL JL i (k + 1) i' k' (W.setCell ⟨g, k, .none⟩ (.int .u8 (xr b))) := by
  have hk := (List.getElem?_eq_some_iff.1 hb).1
  have hm : g ∈ blks (rowsS fc tc ic FL S.ticks IL) := mem_gcs hx
  have h1 := h.cl g hm
  have h2 : B1 ≤ g := by rw [← blks_x fc tc ic i k] at hm; exact (h.c.2.lt g hm).1
  have hbl : Below B1 W (W.setCell ⟨g, k, .none⟩ (.int .u8 (xr b))) := (Below.refl _ _).setCell (p := ⟨g, k, .none⟩) h2 _
  have ho : ∀ q, q ≠ g → (W.setCell ⟨g, k, .none⟩ (.int .u8 (xr b))).heap[q]? = W.heap[q]? := fun q hq => Below.heap_setCell _ _ _ _ hq
  have h3 := lent_set h.c.2 (xFL_at k hx) (k := k) (by unfold xF; simp only [xl_len]; exact hk) (xr b)
  rw [xFL_set hx hb] at h3
  have o := h.o
  exact ⟨h.bs.low hbl (by omega), ⟨(ho cb (by omega)).trans h.c.1, h3⟩, (ho fb (by omega)).trans h.f, ⟨(ho db (by omega)).trans h.d.1, h.d.2.other (by omega)⟩, h.cl, h.dl, h.o⟩
theorem Xi.setd (h : Xi w z X fv tv iv S cb B1 fc tc ic FL IL fb fo db B2 fd td jd GL JL i k i' k' W) {f : Fl} {g c : Nat} {b : Int} (hx : GL[i']? = some (f, (g, c))) (hb : f.data[k']? = some b) :
    Xi w z X fv tv iv S cb B1 fc tc ic FL IL fb fo db B2 fd td jd GL JL i k i' (k' + 1) (W.setCell ⟨g, k', .none⟩ (.int .u8 (xr b))) := by
  have hk := (List.getElem?_eq_some_iff.1 hb).1
  have hm : g ∈ blks (rowsS fd td jd GL S.ticks JL) := mem_gcs hx
  have h1 := h.dl g hm
  have h2 : B2 ≤ g := by rw [← blks_x fd td jd i' k'] at hm; exact (h.d.2.lt g hm).1
  have hbl : Below B2 W (W.setCell ⟨g, k', .none⟩ (.int .u8 (xr b))) := (Below.refl _ _).setCell (p := ⟨g, k', .none⟩) h2 _
  have ho : ∀ q, q ≠ g → (W.setCell ⟨g, k', .none⟩ (.int .u8 (xr b))).heap[q]? = W.heap[q]? := fun q hq => Below.heap_setCell _ _ _ _ hq
  have h3 := lent_set h.d.2 (xFL_at k' hx) (k := k') (by unfold xF; simp only [xl_len]; exact hk) (xr b)
  rw [xFL_set hx hb] at h3
  have o := h.o
  exact ⟨h.bs.low hbl (by omega), ⟨(ho cb (by omega)).trans h.c.1, h.c.2.below hbl (fun q hq => by rw [blks_x] at hq; have := h.cl q hq; omega)⟩, (ho fb (by omega)).trans h.f, ⟨(ho db (by omega)).trans h.d.1, h3⟩, h.cl, h.dl, h.o⟩
theorem Xi.drew (h : Xi w z X fv tv iv S cb B1 fc tc ic FL IL fb fo db B2 fd td jd GL JL i k i' k' W) : Xi w z X fv tv iv S cb B1 fc tc ic FL IL fb fo db B2 fd td jd GL JL i k i' k' W.drew :=
  ⟨h.bs.keep (Below.refl _ _).drew, h.c.keep (Below.refl _ _).drew, h.f, h.d.keep (Below.refl _ _).drew, h.cl, h.dl, h.o⟩
theorem Xi.next {n : Nat} (h : Xi w z X fv tv iv S cb B1 fc tc ic FL IL fb fo db B2 fd td jd GL JL i n i n W) {f : Fl} {gc gc' : Gc} (hx : FL[i]? = some (f, gc)) (hy : GL[i]? = some (f, gc')) (hn : n = f.data.length) :
    Xi w z X fv tv iv S cb B1 fc tc ic FL IL fb fo db B2 fd td jd GL JL (i + 1) 0 (i + 1) 0 W := by
  subst hn
  refine ⟨h.bs, ?_, h.f, ?_, h.cl, h.dl, h.o⟩
  · have := h.c; rwa [xFL_next hx] at this
  · have := h.d; rwa [xFL_next hy] at this
/-- What a round reads of the one, or of the other. -/
def Rdc (b : Nat) (i k n fc : Nat) (cb : Nat) (p : Option Addr) (f : Fl) (g c : Nat) (x : Int) (U : World) : Prop :=
  p = some ⟨b, 0, .none⟩ ∧ U.cell? ⟨cb, 1, .none⟩ = some (.slice (some ⟨b, 0, .none⟩) n fc) ∧ U.cell? ⟨b, i * 5 + 4, .none⟩ = some (.slice (some ⟨g, 0, .none⟩) f.data.length c) ∧ U.cell? ⟨g, k, .none⟩ = some (.int .u8 x) ∧ U.frozen? ⟨g, k, .none⟩ = false
theorem own_frozen {w : World} {base e sz n c g k : Nat} {xs : List Value} (h : w.ownsRow base e sz (.slice (some ⟨g, 0, .none⟩) n c) n xs) : w.frozen? ⟨g, k, .none⟩ = false := by
  rcases h.2 with ⟨hv, _⟩ | ⟨g', cap, cur, hv, hb, hg, _⟩
  · cases hv
  · cases hv
    exact frozen_heap hg
theorem Cs.read {p : Option Addr} {n q : Nat} (h : Cs S cb B1 (.slice p n q) tc ic (xFL i k FL) IL W) (hn : FL.length = n) {f : Fl} {g c : Nat} {x : Int} (hx : FL[i]? = some (f, (g, c))) (hb : f.data[k]? = some x) : ∃ b, Rdc b i k n q cb p f g c x W := by
  have hi := (List.getElem?_eq_some_iff.1 hx).1
  have hk := (List.getElem?_eq_some_iff.1 hb).1
  have hrow := h.2.own (rowFl (.slice p n q) (xFL i k FL)) (by simp [rowsS])
  rw [rowFl_x] at hrow
  unfold rowFl at hrow
  simp only [hn] at hrow
  obtain ⟨b, rfl, hbw, hbb, hQ⟩ := row_cell hrow (fun _ => rfl) hx (by omega)
  have hD := h.2.own (rowD (xF k f).data (g, c)) (by
    simp only [rowsS, List.mem_append]
    exact .inr (.inl (List.mem_map_of_mem (f := fun x : Fl × Gc => rowD x.1.data x.2) (List.mem_of_getElem? (xFL_at k hx)))))
  have h4 := hD.cells (g := g) rfl k (.int .u8 x) (by8_get (by
    rw [List.getElem?_append_left (by unfold xF; simp only [xl_len]; exact hk)]
    exact xl_get hb))
  rw [le_addr_add, Nat.zero_add] at h4
  exact ⟨b, rfl, (scz_of h.1).c1, hQ 4 _ rfl, h4, own_frozen hD⟩
theorem Cs.len {p : Option Addr} {n q : Nat} (h : Cs S cb B1 (.slice p n q) tc ic (xFL i k FL) IL W) (hn : FL.length = n) {f : Fl} {g c : Nat} (hx : FL[i]? = some (f, (g, c))) : ∃ b, p = some ⟨b, 0, .none⟩ ∧ W.cell? ⟨cb, 1, .none⟩ = some (.slice (some ⟨b, 0, .none⟩) n q) ∧ W.cell? ⟨b, i * 5 + 4, .none⟩ = some (.slice (some ⟨g, 0, .none⟩) f.data.length c) := by
  have hi := (List.getElem?_eq_some_iff.1 hx).1
  have hrow := h.2.own (rowFl (.slice p n q) (xFL i k FL)) (by simp [rowsS])
  rw [rowFl_x] at hrow
  unfold rowFl at hrow
  simp only [hn] at hrow
  obtain ⟨b, rfl, hbw, hbb, hQ⟩ := row_cell hrow (fun _ => rfl) hx (by omega)
  exact ⟨b, rfl, (scz_of h.1).c1, hQ 4 _ rfl⟩
end
theorem setc_ne {w : World} {a b j : Nat} {u v x : Value} {k : Nat} (h : w.cell? ⟨b, 0, .none⟩ = some v) (h0 : w.cell? ⟨a, 0, .none⟩ = some x) (hv : v ≠ x) : (w.setCell ⟨a, j, .none⟩ u).cell? ⟨b, k, .none⟩ = w.cell? ⟨b, k, .none⟩ :=
  World.cell?_setCell_other _ _ _ _ (fun e => by injection e with e1 e2; rw [e1, h] at h0; exact hv (Option.some.inj h0))
theorem errs_set {w : World} {v u : Value} {a r : Int} {f j n c : Nat} {p : Option Addr} (h : (r ≠ 0 ∧ FaultIn w 0 v a r) ∨ (r = 0 ∧ v = .nilIface)) (h0 : w.cell? ⟨f, 0, .none⟩ = some (.slice p n c)) : (r ≠ 0 ∧ FaultIn (w.setCell ⟨f, j, .none⟩ u) 0 v a r) ∨ (r = 0 ∧ v = .nilIface) := by
  rcases h with ⟨h1, b, h2, h3, rfl, c0, c1, c2⟩ | h
  · refine .inl ⟨h1, b, h2, by simpa [World.setCell] using h3, rfl, ?_, ?_, ?_⟩
    · rw [setc_ne c0 h0 (by intro e; cases e)]; exact c0
    · rw [setc_ne c0 h0 (by intro e; cases e)]; exact c1
    · rw [setc_ne c0 h0 (by intro e; cases e)]; exact c2
  · exact .inr h
theorem refr_set {w : World} {v u : Value} {a r : Int} {f j n c : Nat} {p : Option Addr} (h : RefR w v a r) (h0 : w.cell? ⟨f, 0, .none⟩ = some (.slice p n c)) : RefR (w.setCell ⟨f, j, .none⟩ u) v a r := by
  rcases h with ⟨h1, b, h3, rfl, c0, c1⟩ | h
  · refine .inl ⟨h1, b, by simpa [World.setCell] using h3, rfl, ?_, ?_⟩
    · rw [setc_ne c0 h0 (by intro e; cases e)]; exact c0
    · rw [setc_ne c0 h0 (by intro e; cases e)]; exact c1
  · exact .inr h
theorem scb_x {S : Sc} (h : ScB S) : ScB ⟨S.fr, S.files.map (fun f => xF f.data.length f), S.init, S.bu, S.ticks, S.ins⟩ := by
  refine ⟨h.fr, h.bu, h.init, by simp only [List.length_map]; exact h.nf, h.nt, h.ni, fun f hf => ?_, h.ts, h.is⟩
  obtain ⟨y, hy, rfl⟩ := List.mem_map.1 hf
  have hb := h.fs y hy
  refine ⟨hb.1, hb.2.1, hb.2.2.1, hb.2.2.2.1, ?_, ?_⟩
  · unfold xF; simp only [xl_len]; exact hb.2.2.2.2.1
  · unfold xF; exact xl_bd hb.2.2.2.2.2
theorem few_x {S : Sc} (h : Few S) : Few ⟨S.fr, S.files.map (fun f => xF f.data.length f), S.init, S.bu, S.ticks, S.ins⟩ := by
  have e : fewN ⟨S.fr, S.files.map (fun f => xF f.data.length f), S.init, S.bu, S.ticks, S.ins⟩ = fewN S := by
    unfold fewN
    simp only [List.map_map]
    have : (fSz ∘ fun f => xF f.data.length f) = fSz := by
      funext f
      show fSz (xF f.data.length f) = fSz f
      unfold fSz xF
      simp only [xl_len]
    rw [this]
  refine ⟨by simp only [List.length_map]; exact h.nf, h.ni, h.nt, by rw [e]; exact h.sz⟩
end Go.Proofs.YtjbealefopajcaaDoor
