import Derived.Test.YtejongfipfefpaaFiB
namespace Go.Proofs.Ytejongfipfefpaa
open Go.RowKit
set_option linter.unusedVariables false
set_option linter.unusedSimpArgs false
/-- The bytes and the list's beginning, one frame more threaded. -/
def stp (s : (Nat → Int) × Int) (i : Nat) : (Nat → Int) × Int := (thr s.1 i s.2, 2147483648 + (i : Int) * 4096)
def sts (B : Nat → Int) (l : List Nat) : (Nat → Int) × Int := l.foldl stp (B, 0)
theorem sts_snoc (B : Nat → Int) (l : List Nat) (i : Nat) : sts B (l ++ [i]) = stp (sts B l) i := by simp [sts]
theorem sts_rev (B : Nat → Int) : ∀ r : List Nat, r.Nodup → (sts B r.reverse).2 = adr r ∧ Thr (sts B r.reverse).1 r ∧ ∀ i, i ∉ r → ∀ j, j < 4096 → (sts B r.reverse).1 (i * 4096 + j) = B (i * 4096 + j)
  | [], _ => ⟨rfl, trivial, fun _ _ _ _ => rfl⟩
  | x :: r, h => by
    obtain ⟨hx, hr⟩ := List.nodup_cons.1 h
    obtain ⟨h1, h2, h3⟩ := sts_rev B r hr
    rw [List.reverse_cons, sts_snoc]
    refine ⟨rfl, ?_, fun i hi j hj => ?_⟩
    · show Thr (thr (sts B r.reverse).1 x (sts B r.reverse).2) (x :: r)
      rw [h1]
      exact h2.cons x hx
    · have n1 : i ≠ x := fun e => hi (e ▸ List.mem_cons_self ..)
      have n2 : i ∉ r := fun e => hi (List.mem_cons_of_mem _ e)
      show thr (sts B r.reverse).1 x (sts B r.reverse).2 (i * 4096 + j) = _
      rw [thr_out _ _ _ _ (by omega)]
      exact h3 i n2 j hj
/-- The frames of a list of addresses. -/
def Lf (F : Nat → Int) (nf : Nat) : List Nat := (List.range nf).map fun i => fi (F i)
theorem Lf_len (F : Nat → Int) (nf : Nat) : (Lf F nf).length = nf := by simp [Lf]
theorem Lf_rev (F : Nat → Int) (nf : Nat) : ((List.range nf).map fun j => fi (F (nf - 1 - j))) = (Lf F nf).reverse := by
  apply List.ext_getElem
  · simp [Lf]
  · intro i h1 h2
    simp [Lf]
theorem among_iff (F : Nat → Int) (k : Nat) (x : Int) : among F k x = true ↔ ∃ j, j < k ∧ F j = x := by
  unfold among
  simp
/-- An image of which nothing is wrong. -/
structure Fine (F : Nat → Int) (nf : Nat) (PA : Nat → Int) (L : Nat → Nat) (nh : Nat) (n : Nat) : Prop where
  f1 : ∀ i, i < nf → bad1 (among F i) (F i) n = false
  f2 : ∀ i, i < nh → bad2 (among F nf) PA L n i = false
  le : n ≤ nf + nh
theorem first1_one {F : Nat → Int} {n : Int} {nf r r' : Nat} (h : First1 F n nf r) (h' : First1 F n nf r') : r = r' := by
  obtain ⟨a1, a2, a3⟩ := h
  obtain ⟨b1, b2, b3⟩ := h'
  rcases Nat.lt_trichotomy r r' with e | e | e
  · have := b2 r e
    rw [a3 (by omega)] at this
    cases this
  · exact e
  · have := a2 r' e
    rw [b3 (by omega)] at this
    cases this
theorem first2_one {hs : Int → Bool} {PA : Nat → Int} {L : Nat → Nat} {n : Int} {nh r r' : Nat} (h : First2 hs PA L n nh r) (h' : First2 hs PA L n nh r') : r = r' := by
  obtain ⟨a1, a2, a3⟩ := h
  obtain ⟨b1, b2, b3⟩ := h'
  rcases Nat.lt_trichotomy r r' with e | e | e
  · have := b2 r e
    rw [a3 (by omega)] at this
    cases this
  · exact e
  · have := a2 r' e
    rw [b3 (by omega)] at this
    cases this
section
variable {F : Nat → Int} {nf : Nat} {PA : Nat → Int} {L : Nat → Nat} {nh n : Nat}
theorem Fine.zero (h : Fine F nf PA L nh n) {at_ : Int} (w : Wrong F nf PA L nh n at_) : at_ = 0 := by
  obtain ⟨r1, h1, h2⟩ := w
  obtain rfl := first1_one h1 ⟨Nat.le_refl _, h.f1, fun h => by omega⟩
  rcases h2 with ⟨h2, _⟩ | ⟨_, r2, h3, h4⟩
  · omega
  · obtain rfl := first2_one h3 ⟨Nat.le_refl _, h.f2, fun h => by omega⟩
    have := h.le
    rcases h4 with ⟨h5 | h5, _⟩ | ⟨_, h5⟩
    · omega
    · omega
    · exact h5
theorem Fine.of_zero (w : Wrong F nf PA L nh n 0) : Fine F nf PA L nh n := by
  obtain ⟨r1, h1, h2⟩ := w
  rcases h2 with ⟨_, h2⟩ | ⟨rfl, r2, h3, h4⟩
  · omega
  · rcases h4 with ⟨_, h5⟩ | ⟨⟨rfl, h5⟩, _⟩
    · omega
    · exact ⟨h1.2.1, h3.2.1, by omega⟩
/-- Each held frame's address is a frame's, and above the one ahead. -/
theorem Fine.held (h : Fine F nf PA L nh n) {k : Nat} (hk : k < nh) : isFr (PA k) n = true ∧ L k = 4096 ∧ among F nf (PA k) = false ∧ (0 < k → PA (k - 1) < PA k) := by
  have := h.f2 k hk
  unfold bad2 falls at this
  simp only [Bool.or_eq_false_iff, Bool.not_eq_false', decide_eq_false_iff_not, Decidable.not_not] at this
  obtain ⟨⟨⟨a, b⟩, c⟩, d⟩ := this
  refine ⟨c, d, a, fun h0 => ?_⟩
  rw [if_neg (by omega)] at b
  simpa using b
theorem Fine.free (h : Fine F nf PA L nh n) {k : Nat} (hk : k < nf) : isFr (F k) n = true ∧ F k ≠ 2147483648 ∧ among F k (F k) = false := by
  have := h.f1 k hk
  unfold bad1 at this
  simp only [Bool.or_eq_false_iff, Bool.not_eq_false', beq_eq_false_iff_ne, ne_eq] at this
  exact ⟨this.2, this.1.2, this.1.1⟩
theorem Fine.rise (h : Fine F nf PA L nh n) : ∀ {k : Nat}, k < nh → ∀ j, j < k → PA j < PA k
  | 0, _, j, hj => by omega
  | k + 1, hk, j, hj => by
    have h1 := (h.held hk).2.2.2 (by omega)
    rw [Nat.add_sub_cancel] at h1
    by_cases e : j = k
    · rw [e]; exact h1
    · have := h.rise (k := k) (by omega) j (by omega)
      omega
theorem Fine.fresh (h : Fine F nf PA L nh n) {k : Nat} (hk : k < nh) : among PA k (PA k) = false := by
  unfold among
  rw [List.any_eq_false]
  intro j hj
  have := h.rise hk j (List.mem_range.1 hj)
  simp
  omega
theorem fi_inj {x y : Int} {n : Nat} (hx : isFr x n = true) (hy : isFr y n = true) (h : fi x = fi y) : x = y := by
  have h1 := (fi_of hx).2
  have h2 := (fi_of hy).2
  rw [h1, h2, h]
theorem nodup_range {f : Nat → Nat} {k : Nat} (h : ∀ i j, i < j → j < k → f i ≠ f j) : ((List.range k).map f).Nodup := by
  induction k with
  | zero => simp
  | succ k ih =>
    rw [List.range_succ, List.map_append, List.nodup_append]
    refine ⟨ih (fun i j h1 h2 => h i j h1 (by omega)), by simp, ?_⟩
    intro a ha b hb
    simp only [List.mem_map, List.mem_range] at ha
    obtain ⟨i, hi, rfl⟩ := ha
    simp only [List.map_cons, List.map_nil, List.mem_singleton] at hb
    rw [hb]
    exact h i k hi (by omega)
theorem Fine.nodup (h : Fine F nf PA L nh n) : (Lf F nf).Nodup := nodup_range fun i j h1 h2 e => by
  have a := fi_inj (h.free (show i < nf by omega)).1 (h.free h2).1 e
  have b := (h.free h2).2.2
  rw [← a, Bool.eq_false_iff] at b
  exact b ((among_iff F j _).2 ⟨i, h1, rfl⟩)
theorem Fine.nodupH (h : Fine F nf PA L nh n) : (Lf PA nh).Nodup := nodup_range fun i j h1 h2 e => by
  have a := fi_inj (h.held (show i < nh by omega)).1 (h.held h2).1 e
  have b := h.rise h2 i h1
  omega
theorem mem_Lf {F : Nat → Int} {nf i : Nat} : i ∈ Lf F nf ↔ ∃ j, j < nf ∧ fi (F j) = i := by simp [Lf]
theorem Fine.apart (h : Fine F nf PA L nh n) {i : Nat} (hi : i ∈ Lf PA nh) : i ∉ Lf F nf := by
  intro hf
  obtain ⟨j, hj, e1⟩ := mem_Lf.1 hi
  obtain ⟨k, hk, e2⟩ := mem_Lf.1 hf
  have a := fi_inj (h.held hj).1 (h.free hk).1 (e1.trans e2.symm)
  have b := (h.held hj).2.2.1
  rw [Bool.eq_false_iff] at b
  exact b ((among_iff F nf _).2 ⟨k, hk, a.symm⟩)
theorem Fine.lt (h : Fine F nf PA L nh n) : ∀ i ∈ Lf F nf, 1 ≤ i ∧ i < n := by
  intro i hi
  obtain ⟨j, hj, rfl⟩ := mem_Lf.1 hi
  obtain ⟨a, b⟩ := fi_of (h.free hj).1
  have c := (h.free hj).2.1
  refine ⟨?_, a⟩
  apply Classical.byContradiction
  intro e
  have : fi (F j) = 0 := by omega
  rw [this] at b
  exact c (by simpa using b)
theorem Fine.ltH (h : Fine F nf PA L nh n) : ∀ i ∈ Lf PA nh, i < n := by
  intro i hi
  obtain ⟨j, hj, rfl⟩ := mem_Lf.1 hi
  exact (fi_of (h.held hj).1).1
theorem Fine.all (h : Fine F nf PA L nh n) : nf + nh = n ∧ ∀ i, i < n → i ∈ Lf F nf ∨ i ∈ Lf PA nh := by
  have hnd : (Lf F nf ++ Lf PA nh).Nodup := List.nodup_append.2 ⟨h.nodup, h.nodupH, fun a ha b hb e => h.apart hb (e ▸ ha)⟩
  have hlt : ∀ i ∈ Lf F nf ++ Lf PA nh, i < n := fun i hi => by
    rcases List.mem_append.1 hi with h1 | h1
    · exact (h.lt i h1).2
    · exact h.ltH i h1
  have hlen : (Lf F nf ++ Lf PA nh).length = nf + nh := by simp [Lf_len]
  have h1 := nodup_le n _ hnd hlt
  have h2 := h.le
  refine ⟨by omega, fun i hi => ?_⟩
  apply Classical.byContradiction
  intro hn
  have h3 := nodup_le n (i :: (Lf F nf ++ Lf PA nh)) (List.nodup_cons.2 ⟨fun hm => hn (List.mem_append.1 hm), hnd⟩) (fun j hj => by
    rcases List.mem_cons.1 hj with rfl | hj
    · exact hi
    · exact hlt j hj)
  simp only [List.length_cons] at h3
  omega
theorem Fine.hd (h : Fine F nf PA L nh n) (a : Int) : among PA nh a = hdL n (Lf F nf) a := by
  unfold hdL
  cases e : among PA nh a with
  | true =>
    obtain ⟨j, hj, rfl⟩ := (among_iff PA nh a).1 e
    have h1 := (h.held hj).1
    have h2 : fi (PA j) ∉ Lf F nf := h.apart (mem_Lf.2 ⟨j, hj, rfl⟩)
    rw [h1]
    simp only [Bool.true_and]
    show true = !decide (fi (PA j) ∈ Lf F nf)
    simp [h2]
  | false =>
    cases e2 : isFr a n with
    | false => simp
    | true =>
      obtain ⟨h1, h2⟩ := fi_of e2
      have h3 : fi a ∈ Lf F nf := by
        rcases h.all.2 _ h1 with h4 | h4
        · exact h4
        · obtain ⟨j, hj, h5⟩ := mem_Lf.1 h4
          have := fi_inj (h.held hj).1 e2 h5
          rw [Bool.eq_false_iff] at e
          exact absurd ((among_iff PA nh a).2 ⟨j, hj, this⟩) e
      show false = (true && !decide (fi a ∈ Lf F nf))
      simp [h3]
/-- The held frames' bytes. -/
theorem Fine.bytes (h : Fine F nf PA L nh n) (D : Nat → Nat → Int) : ∀ k, k ≤ nh → ∀ i, i < k → ∀ j, j < 4096 → hbm PA D k (fi (PA i) * 4096 + j) = D i j
  | 0, _, i, hi, _, _ => by omega
  | k + 1, hk, i, hi, j, hj => by
    show over (hbm PA D k) (fi (PA k) * 4096) (row4 (D k)) (fi (PA i) * 4096 + j) = D i j
    unfold over
    rw [row4_len]
    by_cases e : i = k
    · subst e
      rw [if_pos (by omega), show fi (PA i) * 4096 + j - fi (PA i) * 4096 = j by omega, List.getD_eq_getElem?_getD, row4_get _ _ hj]
      rfl
    · have h1 := h.rise (show k < nh by omega) i (by omega)
      have h2 := fi_of (h.held (show k < nh by omega)).1
      have h3 := fi_of (h.held (show i < nh by omega)).1
      rw [if_neg (by omega)]
      exact h.bytes D k (by omega) i (by omega) j hj
/-- The whole: what is threaded on the held frames is the memory of the image. -/
theorem Fine.ram (h : Fine F nf PA L nh n) (D : Nat → Nat → Int) {w : World} {p b m : Nat} (hm : Mem w p b m n (sts (hbm PA D nh) (Lf F nf).reverse).1 (sts (hbm PA D nh) (Lf F nf).reverse).2 (among PA nh) nh) :
    Ram w p b m n (sts (hbm PA D nh) (Lf F nf).reverse).1 (Lf F nf) ∧ ∀ i, i < nh → ∀ j, j < 4096 → (sts (hbm PA D nh) (Lf F nf).reverse).1 (fi (PA i) * 4096 + j) = D i j := by
  obtain ⟨h1, h2, h3⟩ := sts_rev (hbm PA D nh) (Lf F nf) h.nodup
  rw [h1] at hm
  have e : nh = n - (Lf F nf).length := by have := h.all.1; rw [Lf_len]; omega
  refine ⟨⟨?_, h.nodup, h.lt, h2⟩, fun i hi j hj => ?_⟩
  · have := hm.congr (fun a _ _ => h.hd a)
    rw [← e]
    exact this
  · rw [h3 _ (h.apart (mem_Lf.2 ⟨i, hi, rfl⟩)) j hj]
    exact h.bytes D nh (Nat.le_refl _) i hi j hj
end
end Go.Proofs.Ytejongfipfefpaa
