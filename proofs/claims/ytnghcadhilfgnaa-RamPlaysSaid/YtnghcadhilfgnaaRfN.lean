import Derived.Test.YtnghcadhilfgnaaRfM
namespace Go.Proofs.Ytnghcadhilfgnaa
open Go.RowKit
set_option linter.unusedVariables false
set_option linter.unusedSimpArgs false
/-- The frame that was the last one. -/
def lst (PA : Nat → Int) (k : Nat) : Int := if k = 0 then -1 else (fi (PA (k - 1)) : Int)
/-- The document's FromImage behind all free frames and the first k held ones. -/
structure R2 (W V : World) (n nf cf nh ch : Nat) (qf qh : Option Addr) (F PA : Nat → Int) (L : Nat → Nat) (D : Nat → Nat → Int) (k : Nat) (lv : Value) : Prop where
  i0 : V.cell? ⟨W.heap.size, 0, .none⟩ = some (.int .i64 n)
  i1 : V.cell? ⟨W.heap.size, 1, .none⟩ = some (.slice qf nf cf)
  i2 : V.cell? ⟨W.heap.size, 2, .none⟩ = some (.slice qh nh ch)
  c0 : V.cell? ⟨W.heap.size + 1 + 1, 0, .none⟩ = some (.slice (some ⟨W.heap.size + 1, 0, .none⟩) n n)
  c1 : V.cell? ⟨W.heap.size + 1 + 1, 1, .none⟩ = some lv
  own : V.ownsRow (W.heap.size + 1 + 1 + 1) 3 1 lv nf ((Lf F nf).map iv)
  hz : ∀ i, i < n → V.frozen? ⟨W.heap.size + 1, i, .none⟩ = false ∧ (V.cell? ⟨W.heap.size + 1, i, .none⟩).isSome = true ∧ ((∀ j, j < k → fi (PA j) ≠ i) → V.cell? ⟨W.heap.size + 1, i, .none⟩ = some (.slice .none 0 0))
  hd : ∃ f : Nat → Nat, (∀ j, j < k → W.heap.size + 1 + 1 + 1 ≤ f j ∧ f j < V.heap.size ∧ V.cell? ⟨W.heap.size + 1, fi (PA j), .none⟩ = some (.slice (some ⟨f j, 0, .none⟩) 4096 4096) ∧ ∀ t, t < 4096 → V.cell? ⟨f j, t, .none⟩ = some (.int .u8 (D j t)) ∧ V.frozen? ⟨f j, t, .none⟩ = false) ∧ ∀ i j, i < j → j < k → f i < f j
  g1 : V.frozen? ⟨W.heap.size + 1 + 1, 1, .none⟩ = false
  be : Below W.heap.size W V
  sz : W.heap.size + 1 + 1 + 1 ≤ V.heap.size
  ok1 : ∀ i, i < nf → bad1 (among F i) (F i) n = false
  ok2 : ∀ i, i < k → bad2 (among F nf) PA L n i = false
section
variable {W V : World} {n nf cf nh ch : Nat} {qf qh : Option Addr} {F PA : Nat → Int} {L : Nat → Nat} {D : Nat → Nat → Int} {k : Nat} {lv : Value}
theorem R1.to2 (h : R1 W V n nf cf nh ch qf qh F nf lv) : R2 W V n nf cf nh ch qf qh F PA L D 0 lv :=
  ⟨h.i0, h.i1, h.i2, h.c0, h.c1, h.own, fun i hi => ⟨(h.hz i hi).2, by rw [(h.hz i hi).1]; rfl, fun _ => (h.hz i hi).1⟩, ⟨fun _ => 0, fun j hj => by omega, fun i j _ hj => by omega⟩, h.g1, h.be, h.sz, h.ok, fun i hi => by omega⟩
theorem R2.lr (h : R2 W V n nf cf nh ch qf qh F PA L D k lv) : Lr V lv (Lf F nf) := lr_of (c := 0) (by rw [Lf_len]; exact h.own)
theorem bad2_fr {hs : Int → Bool} {i : Nat} (h : bad2 hs PA L n i = false) : isFr (PA i) n = true := by
  unfold bad2 at h
  simp only [Bool.or_eq_false_iff, Bool.not_eq_false'] at h
  exact h.1.2
theorem bad1_fr {hs : Int → Bool} {x : Int} (h : bad1 hs x n = false) : isFr x n = true := by
  unfold bad1 at h
  simp only [Bool.or_eq_false_iff, Bool.not_eq_false'] at h
  exact h.2
theorem among_Lf (hok : ∀ i, i < nf → bad1 (among F i) (F i) n = false) {x : Int} (hx : isFr x n = true) : among F nf x = decide (fi x ∈ Lf F nf) := by
  rw [Bool.eq_iff_iff, among_iff, decide_eq_true_iff, mem_Lf]
  constructor
  · rintro ⟨j, hj, h⟩
    exact ⟨j, hj, by rw [h]⟩
  · rintro ⟨j, hj, h⟩
    exact ⟨j, hj, fi_inj (bad1_fr (hok j hj)) hx h⟩
/-- The document's test of a held frame is the program's. -/
theorem bad2_nmd (hok : ∀ i, i < nf → bad1 (among F i) (F i) n = false) (hok2 : ∀ i, i < k → bad2 (among F nf) PA L n i = false) : bad2 (among F nf) PA L n k = (decide (nmd (PA k) n < 0) || decide (nmd (PA k) n ≤ lst PA k) || decide (fi (PA k) ∈ Lf F nf) || decide (L k ≠ 4096)) := by
  cases e : isFr (PA k) n with
  | false =>
    have e1 : nmd (PA k) n = -1 := by rw [nmd, if_neg (by rw [e]; decide)]
    unfold bad2
    rw [e, e1]
    simp
  | true =>
    have e1 : nmd (PA k) n = (fi (PA k) : Int) := by rw [nmd, if_pos e]
    have e2 : falls PA k = decide ((fi (PA k) : Int) ≤ lst PA k) := by
      unfold falls lst
      by_cases h0 : k = 0
      · rw [if_pos h0, if_pos h0]
        symm
        rw [decide_eq_false_iff_not]
        omega
      · rw [if_neg h0, if_neg h0]
        have a := (fi_of e).2
        have b := (fi_of (bad2_fr (hok2 (k - 1) (by omega)))).2
        rw [Bool.eq_iff_iff, decide_eq_true_iff, decide_eq_true_iff]
        omega
    unfold bad2
    rw [e, e1, e2, among_Lf hok e]
    have e3 : decide ((fi (PA k) : Int) < 0) = false := by rw [decide_eq_false_iff_not]; omega
    rw [e3]
    cases decide (fi (PA k) ∈ Lf F nf) <;> cases decide ((fi (PA k) : Int) ≤ lst PA k) <;> simp
theorem R2.step (h : R2 W V n nf cf nh ch qf qh F PA L D k lv) (hbad : bad2 (among F nf) PA L n k = false) (hnew : ∀ j, j < k → fi (PA j) ≠ fi (PA k)) {V' : World} (hb : Below V.heap.size V V') (hc : ∀ t, t < 4096 → V'.cell? ⟨V.heap.size, t, .none⟩ = some (.int .u8 (D k t))) (hz : ∀ t, t < 4096 → V'.frozen? ⟨V.heap.size, t, .none⟩ = false) :
    (V'.cell? ⟨W.heap.size + 1, fi (PA k), .none⟩).isSome = true ∧ V'.frozen? ⟨W.heap.size + 1, fi (PA k), .none⟩ = false ∧ V'.cell? ⟨W.heap.size + 1 + 1, 0, .none⟩ = some (.slice (some ⟨W.heap.size + 1, 0, .none⟩) n n) ∧ R2 W (V'.setCell ⟨W.heap.size + 1, fi (PA k), .none⟩ (.slice (some ⟨V.heap.size, 0, .none⟩) 4096 4096)) n nf cf nh ch qf qh F PA L D (k + 1) lv := by
  have sz := h.sz
  have fk := (fi_of (bad2_fr hbad)).1
  have cl : ∀ x o, x < V.heap.size → V'.cell? ⟨x, o, .none⟩ = V.cell? ⟨x, o, .none⟩ := fun x o hx => hb.cell hx
  have fl : ∀ x o, x < V.heap.size → V'.frozen? ⟨x, o, .none⟩ = V.frozen? ⟨x, o, .none⟩ := fun x o hx => hb.frozen hx
  have s1 : (V'.cell? ⟨W.heap.size + 1, fi (PA k), .none⟩).isSome = true := by rw [cl _ _ (by omega)]; exact (h.hz _ fk).2.1
  have so : ∀ x o, (x ≠ W.heap.size + 1 ∨ o ≠ fi (PA k)) → (V'.setCell ⟨W.heap.size + 1, fi (PA k), .none⟩ (.slice (some ⟨V.heap.size, 0, .none⟩) 4096 4096)).cell? ⟨x, o, .none⟩ = V'.cell? ⟨x, o, .none⟩ := fun x o hx => World.cell?_setCell_other _ _ _ _ (by simp only [ne_eq, Addr.mk.injEq, and_true, not_and]; intro e1 e2; rcases hx with hx | hx <;> omega)
  have same : (V'.setCell ⟨W.heap.size + 1, fi (PA k), .none⟩ (.slice (some ⟨V.heap.size, 0, .none⟩) 4096 4096)).cell? ⟨W.heap.size + 1, fi (PA k), .none⟩ = some (.slice (some ⟨V.heap.size, 0, .none⟩) 4096 4096) := World.cell?_setCell_same' _ _ _ s1
  refine ⟨s1, (fl _ _ (by omega)).trans (h.hz _ fk).1, (cl _ _ (by omega)).trans h.c0, ?_⟩
  refine ⟨?_, ?_, ?_, ?_, ?_, ?_, fun i hi => ⟨?_, ?_, fun hj => ?_⟩, ?_, (World.frozen?_setCell ..).trans ((fl _ _ (by omega)).trans h.g1), ?_, ?_, h.ok1, fun i hi => ?_⟩
  · exact (so _ _ (.inl (by omega))).trans ((cl _ _ (by omega)).trans h.i0)
  · exact (so _ _ (.inl (by omega))).trans ((cl _ _ (by omega)).trans h.i1)
  · exact (so _ _ (.inl (by omega))).trans ((cl _ _ (by omega)).trans h.i2)
  · exact (so _ _ (.inl (by omega))).trans ((cl _ _ (by omega)).trans h.c0)
  · exact (so _ _ (.inl (by omega))).trans ((cl _ _ (by omega)).trans h.c1)
  · refine ownsRow_setCell_below ?_ (a := ⟨W.heap.size + 1, fi (PA k), .none⟩) (by show W.heap.size + 1 < _; omega) _
    exact owns_below h.own hb
  · exact (World.frozen?_setCell ..).trans ((fl _ _ (by omega)).trans (h.hz i hi).1)
  · by_cases e : i = fi (PA k)
    · rw [e, same]; rfl
    · rw [so _ _ (.inr e), cl _ _ (by omega)]
      exact (h.hz i hi).2.1
  · have e : i ≠ fi (PA k) := fun e => hj k (by omega) e.symm
    rw [so _ _ (.inr e), cl _ _ (by omega)]
    exact (h.hz i hi).2.2 (fun j hj' => hj j (by omega))
  · obtain ⟨f, hf, hr⟩ := h.hd
    have vs : V.heap.size < V'.heap.size := lt_of_cell (hc 0 (by omega))
    refine ⟨fun j => if j = k then V.heap.size else f j, fun j hj => ?_, fun i j hij hj => ?_⟩
    · by_cases e : j = k
      · subst e
        simp only [if_true]
        exact ⟨sz, by rw [World.size_setCell]; exact vs, same, fun t ht => ⟨(so _ _ (.inl (by omega))).trans (hc t ht), (World.frozen?_setCell ..).trans (hz t ht)⟩⟩
      · simp only [if_neg e]
        obtain ⟨h1, lf, h2, h3⟩ := hf j (by omega)
        exact ⟨h1, by rw [World.size_setCell]; omega, (so _ _ (.inr (hnew j (by omega)))).trans ((cl _ _ (by omega)).trans h2), fun t ht => ⟨(so _ _ (.inl (by omega))).trans ((cl _ _ lf).trans (h3 t ht).1), (World.frozen?_setCell ..).trans ((fl _ _ lf).trans (h3 t ht).2)⟩⟩
    · by_cases e : j = k
      · subst e
        simp only [if_true, if_neg (show ¬ i = j by omega)]
        exact (hf i (by omega)).2.1
      · simp only [if_neg e, if_neg (show ¬ i = k by omega)]
        exact hr i j hij (by omega)
  · exact (h.be.trans (hb.mono h.be.size)).setCell (p := ⟨W.heap.size + 1, fi (PA k), .none⟩) (by show W.heap.size ≤ W.heap.size + 1; omega) _
  · have := hb.size
    rw [World.size_setCell]
    omega
  · by_cases e : i = k
    · rw [e]; exact hbad
    · exact h.ok2 i (by omega)
theorem R2.drew (h : R2 W V n nf cf nh ch qf qh F PA L D k lv) : R2 W V.drew n nf cf nh ch qf qh F PA L D k lv :=
  ⟨h.i0, h.i1, h.i2, h.c0, h.c1, owns_below h.own ((Below.refl _ _).drew), h.hz, h.hd, h.g1, h.be.drew, h.sz, h.ok1, h.ok2⟩
/-- Held frames rise. -/
theorem ok2_rise (hok2 : ∀ i, i < k → bad2 (among F nf) PA L n i = false) : ∀ i, i < k → ∀ j, j < i → PA j < PA i := by
  intro i
  induction i with
  | zero => intro _ j hj; omega
  | succ i ih =>
    intro hi j hj
    have hb := hok2 (i + 1) hi
    unfold bad2 falls at hb
    simp only [Bool.or_eq_false_iff, Bool.not_eq_false'] at hb
    have h1 := hb.1.1.2
    rw [if_neg (by omega), decide_eq_false_iff_not, Nat.add_sub_cancel] at h1
    by_cases e : j = i
    · rw [e]; omega
    · have := ih (by omega) j (by omega)
      omega
theorem sum_le (hok : ∀ i, i < nf → bad1 (among F i) (F i) n = false) (hok2 : ∀ i, i < nh → bad2 (among F nf) PA L n i = false) : nf + nh ≤ n := by
  by_cases h : n ≤ nf + nh
  · have f : Fine F nf PA L nh n := ⟨hok, hok2, h⟩
    have := f.all.1
    omega
  · omega
end
/-- The document's memory out of an image. -/
structure QI (W V : World) (q : Nat) (n : Nat) (F : Nat → Int) (nf : Nat) (PA : Nat → Int) (D : Nat → Nat → Int) (nh : Nat) : Prop where
  ge : W.heap.size ≤ q
  cells : ∃ (hb : Nat) (lv : Value) (f : Nat → Nat), W.heap.size ≤ hb ∧ hb ≠ q ∧ V.cell? ⟨q, 0, .none⟩ = some (.slice (some ⟨hb, 0, .none⟩) n n) ∧ V.cell? ⟨q, 1, .none⟩ = some lv ∧ V.frozen? ⟨q, 1, .none⟩ = false ∧ V.ownsRow (W.heap.size + 1 + 1 + 1) 3 1 lv nf ((Lf F nf).map iv) ∧
    (∀ i, i < n → V.frozen? ⟨hb, i, .none⟩ = false ∧ ((∀ j, j < nh → fi (PA j) ≠ i) → V.cell? ⟨hb, i, .none⟩ = some (.slice .none 0 0))) ∧
    (∀ j, j < nh → W.heap.size ≤ f j ∧ V.cell? ⟨hb, fi (PA j), .none⟩ = some (.slice (some ⟨f j, 0, .none⟩) 4096 4096) ∧ ∀ t, t < 4096 → V.cell? ⟨f j, t, .none⟩ = some (.int .u8 (D j t)) ∧ V.frozen? ⟨f j, t, .none⟩ = false) ∧ ∀ i j, i < j → j < nh → f i < f j
theorem R2.out {W V : World} {n nf cf nh ch : Nat} {qf qh : Option Addr} {F PA : Nat → Int} {L : Nat → Nat} {D : Nat → Nat → Int} {lv : Value} (h : R2 W V n nf cf nh ch qf qh F PA L D nh lv) : QI W V (W.heap.size + 1 + 1) n F nf PA D nh := by
  obtain ⟨f, hf, hr⟩ := h.hd
  exact ⟨by omega, W.heap.size + 1, lv, f, by omega, by omega, h.c0, h.c1, h.g1, h.own, fun i hi => ⟨(h.hz i hi).1, (h.hz i hi).2.2⟩, fun j hj => ⟨by have := (hf j hj).1; omega, (hf j hj).2.2⟩, hr⟩
end Go.Proofs.Ytnghcadhilfgnaa
