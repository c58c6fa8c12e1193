import Derived.Test.YtdkidhipiglbkaaPrF
namespace Go.Proofs.Ytdkidhipiglbkaa
open Go.RowKit
set_option linter.unusedVariables false
set_option linter.unusedSimpArgs false
theorem setCell_below (W : World) (b i : Nat) (v : Value) : Below b W (W.setCell ⟨b, i, .none⟩ v) := ⟨rfl, rfl, rfl, by simp, fun k hk => Below.heap_setCell _ _ _ k (by show k ≠ b; omega)⟩
theorem row_set {W : World} {b i : Nat} {v : Value} {base e sz n : Nat} {u : Value} {xs : List Value} (h : W.ownsRow base e sz u n xs) (hb : b < base) : (W.setCell ⟨b, i, .none⟩ v).ownsRow base e sz u n xs := by
  rcases h with ⟨h1, h2 | ⟨g, cap, cur, rfl, h3, h4, h5⟩⟩
  · exact ⟨h1, .inl h2⟩
  · exact ⟨h1, .inr ⟨g, cap, cur, rfl, h3, (Below.heap_setCell _ _ _ g (by show g ≠ b; omega)).trans h4, h5⟩⟩
theorem cell_set_ne {W : World} {b i j : Nat} {v : Value} (h : i ≠ j) : (W.setCell ⟨b, i, .none⟩ v).cell? ⟨b, j, .none⟩ = W.cell? ⟨b, j, .none⟩ :=
  World.cell?_setCell_other (w := W) (a := ⟨b, i, .none⟩) (b := ⟨b, j, .none⟩) (v := v) (h := fun e => h (by injection e)) ..
theorem cell_set_eq {W : World} {b i : Nat} {v u : Value} (h : W.cell? ⟨b, i, .none⟩ = some u) : (W.setCell ⟨b, i, .none⟩ v).cell? ⟨b, i, .none⟩ = some v := World.cell?_setCell_same (w := W) (a := ⟨b, i, .none⟩) (v := v) (h := h) ..
def Im.code (J : Im) (p : Option Addr) (n c : Nat) : Im := { J with p1 := p, n1 := n, c1 := c }
def Im.data (J : Im) (p : Option Addr) (n c : Nat) : Im := { J with p2 := p, n2 := n, c2 := c }
theorem s7_code {W : World} {b n c : Nat} {J : Im} {p : Option Addr} (h : S7 b J W) : S7 b (J.code p n c) (W.setCell ⟨b, 0, .none⟩ (.slice p n c)) := by
  obtain ⟨k0, k1, k2, k3, k4, k5, k6⟩ := h
  exact ⟨cell_set_eq k0, (cell_set_ne (by decide)).trans k1, (cell_set_ne (by decide)).trans k2, (cell_set_ne (by decide)).trans k3, (cell_set_ne (by decide)).trans k4, (cell_set_ne (by decide)).trans k5, (cell_set_ne (by decide)).trans k6⟩
theorem s7_data {W : World} {b n c : Nat} {J : Im} {p : Option Addr} (h : S7 b J W) : S7 b (J.data p n c) (W.setCell ⟨b, 1, .none⟩ (.slice p n c)) := by
  obtain ⟨k0, k1, k2, k3, k4, k5, k6⟩ := h
  exact ⟨(cell_set_ne (by decide)).trans k0, cell_set_eq k1, (cell_set_ne (by decide)).trans k2, (cell_set_ne (by decide)).trans k3, (cell_set_ne (by decide)).trans k4, (cell_set_ne (by decide)).trans k5, (cell_set_ne (by decide)).trans k6⟩
/-- The argument's box, and a variable that is an image. -/
structure St (w V : World) (B b : Nat) (J J' : Im) : Prop where
  box : S7 B J V
  own : S7 b J' V
  fz : ∀ i, V.frozen? ⟨b, i, .none⟩ = false
  bel : Below B w V
  lo : B < b
  sz : b < V.heap.size
section
variable {w V V' : World} {B b n c : Nat} {J J' : Im} {p : Option Addr}
theorem St.keep (h : St w V B b J J') (hb : Below V.heap.size V V') : St w V' B b J J' := by
  have := h.lo
  have := h.sz
  have := hb.size
  exact ⟨s7_keep h.box hb (by omega), s7_keep h.own hb (by omega), fun i => (hb.frozen (by show b < _; omega)).trans (h.fz i), h.bel.trans (hb.mono (by omega)), h.lo, by omega⟩
theorem St.code (h : St w V B b J J') : St w (V.setCell ⟨b, 0, .none⟩ (.slice p n c)) B b J (J'.code p n c) := by
  have := h.lo
  exact ⟨s7_keep h.box (setCell_below V b 0 _) h.lo, s7_code h.own, fun i => by rw [World.frozen?_setCell]; exact h.fz i, h.bel.trans ((setCell_below V b 0 _).mono (by omega)), h.lo, by simp only [World.size_setCell]; exact h.sz⟩
theorem St.data (h : St w V B b J J') : St w (V.setCell ⟨b, 1, .none⟩ (.slice p n c)) B b J (J'.data p n c) := by
  have := h.lo
  exact ⟨s7_keep h.box (setCell_below V b 1 _) h.lo, s7_data h.own, fun i => by rw [World.frozen?_setCell]; exact h.fz i, h.bel.trans ((setCell_below V b 1 _).mono (by omega)), h.lo, by simp only [World.size_setCell]; exact h.sz⟩
theorem St.new (h : S7 B J V) (hb : Below B w V) (hB : B < V.heap.size) : St w (V.alloc (.cells #[.slice J.p1 J.n1 J.c1, .slice J.p2 J.n2 J.c2, .int .u64 J.da, .int .u64 J.ba, .int .u64 J.bs, .int .u64 J.en, .slice J.p3 J.n3 J.c3] 26)) B V.heap.size J J := by
  refine ⟨s7_keep h ((Below.refl _ _).alloc (Nat.le_refl _) _) hB, ?_, fun i => World.frozen?_alloc_new _ _ _ _, hb.alloc (by omega) _, hB, by rw [World.size_alloc]; omega⟩
  refine ⟨?_, ?_, ?_, ?_, ?_, ?_, ?_⟩ <;> simp
theorem lent_byt {base g cg : Nat} {xs : List Int} (h : Lent V base g cg xs) : Byt V (some ⟨g, 0, .none⟩) xs.length cg xs := by
  have hc := own_cap h
  refine ⟨rfl, by omega, hc.2, .inr ⟨g, 0, rfl, own_lt h, fun i x hx => ?_⟩⟩
  have := World.ownsRow.cells h (g := g) rfl i _ (by8_get (xs := xs ++ marks) (by rw [List.getElem?_append_left (by have := (List.getElem?_eq_some_iff.1 hx).1; omega)]; exact hx))
  rwa [addr_add] at this
theorem lent_keep {B' base g cg : Nat} {xs : List Int} (h : Lent V base g cg xs) (hb : Below B' V V') (hB : V.heap.size ≤ B') : Lent V' base g cg xs := own_keep h hb hB
theorem lent_set {base g cg i : Nat} {xs : List Int} {v : Value} (h : Lent V base g cg xs) (hb : b < base) : Lent (V.setCell ⟨b, i, .none⟩ v) base g cg xs := row_set h hb
theorem own_base {base e sz n c g : Nat} {xs : List Value} (h : V.ownsRow base e sz (.slice (some ⟨g, 0, .none⟩) n c) n xs) : base ≤ g := own_block h g rfl
end
/-- Bytes of which the first so many are turned. -/
def mt (k : Nat) (f : Int → Int) (xs : List Int) : List Int := (xs.take k).map f ++ xs.drop k
theorem mt_zero (f : Int → Int) (xs : List Int) : mt 0 f xs = xs := by simp [mt]
theorem mt_all (f : Int → Int) (xs : List Int) : mt xs.length f xs = xs.map f := by simp [mt]
theorem mt_len (k : Nat) (f : Int → Int) (xs : List Int) : (mt k f xs).length = xs.length := by simp [mt]; omega
theorem mt_get (k : Nat) (f : Int → Int) (xs : List Int) (i : Nat) : (mt k f xs)[i]? = if i < k then (xs[i]?).map f else xs[i]? := by
  unfold mt
  by_cases h : i < k
  · rw [if_pos h]
    by_cases hl : i < xs.length
    · rw [List.getElem?_append_left (by simp; omega)]
      simp [List.getElem?_take, h]
    · rw [List.getElem?_append_right (by simp; omega)]
      simp
      rw [List.getElem?_eq_none (by omega), List.getElem?_eq_none (by omega)]
      rfl
  · rw [if_neg h]
    by_cases hl : k ≤ xs.length
    · rw [List.getElem?_append_right (by simp; omega)]
      simp
      congr 1
      omega
    · rw [List.getElem?_append_right (by simp; omega), List.getElem?_eq_none (by simp; omega), List.getElem?_eq_none (by omega)]
/-- Two rows of bytes that are being turned, and all else as it was. -/
structure Lo (W0 W : World) (a d n k : Nat) (f : Int → Int) (xs : List Int) : Prop where
  os : W.os = W0.os
  tape : W.tape = W0.tape
  output : W.output = W0.output
  size : W.heap.size = W0.heap.size
  block : ∀ j, j ≠ a → j ≠ d → W.heap[j]? = W0.heap[j]?
  ca : ∀ i x, (mt k f xs)[i]? = some x → W.cell? ⟨a, i, .none⟩ = some (.int .u8 x)
  cd : ∀ i x, (mt k f xs)[i]? = some x → W.cell? ⟨d, i, .none⟩ = some (.int .u8 x)
  fa : ∀ i, i < xs.length → W.frozen? ⟨a, i, .none⟩ = false
  fd : ∀ i, i < xs.length → W.frozen? ⟨d, i, .none⟩ = false
section
variable {W0 W : World} {a d n k : Nat} {f : Int → Int} {xs : List Int}
theorem Lo.drew (h : Lo W0 W a d n k f xs) : Lo W0 W.drew a d n k f xs := ⟨h.os, h.tape, h.output, h.size, h.block, h.ca, h.cd, h.fa, h.fd⟩
theorem Lo.next {x : Int} (h : Lo W0 W a d n k f xs) (hx : xs[k]? = some x) (had : a ≠ d) : Lo W0 ((W.setCell ⟨a, k, .none⟩ (.int .u8 (f x))).drew.setCell ⟨d, k, .none⟩ (.int .u8 (f x))) a d n (k + 1) f xs := by
  have ga : W.cell? ⟨a, k, .none⟩ = some (.int .u8 x) := h.ca k x (by rw [mt_get, if_neg (by omega)]; exact hx)
  have gd : W.cell? ⟨d, k, .none⟩ = some (.int .u8 x) := h.cd k x (by rw [mt_get, if_neg (by omega)]; exact hx)
  have hs : ∀ i y, (mt (k + 1) f xs)[i]? = some y → i ≠ k → (mt k f xs)[i]? = some y := by
    intro i y hy hik
    rw [mt_get] at hy ⊢
    by_cases h1 : i < k
    · rw [if_pos h1]
      rwa [if_pos (by omega)] at hy
    · rw [if_neg h1]
      rwa [if_neg (by omega)] at hy
  have hk : ∀ y, (mt (k + 1) f xs)[k]? = some y → y = f x := by
    intro y hy
    rw [mt_get, if_pos (by omega), hx] at hy
    simpa using hy.symm
  have far : ∀ (V : World) (p q i j : Nat) (v : Value), p ≠ q → (V.setCell ⟨p, i, .none⟩ v).cell? ⟨q, j, .none⟩ = V.cell? ⟨q, j, .none⟩ := fun V p q i j v hpq => World.cell?_setCell_other (w := V) (a := ⟨p, i, .none⟩) (b := ⟨q, j, .none⟩) (v := v) (h := fun e => hpq (by injection e)) ..
  refine ⟨h.os, h.tape, h.output, ?_, fun j h1 h2 => ?_, fun i y hy => ?_, fun i y hy => ?_, fun i hi => ?_, fun i hi => ?_⟩
  · simp only [World.size_setCell]
    exact (by simp only [World.size_setCell] : (W.setCell ⟨a, k, .none⟩ (.int .u8 (f x))).heap.size = W.heap.size).trans h.size
  · exact (Below.heap_setCell _ _ _ j (by show j ≠ d; exact h2)).trans ((Below.heap_setCell W _ _ j (by show j ≠ a; exact h1)).trans (h.block j h1 h2))
  · rw [far _ d a k i _ (Ne.symm had)]
    show (W.setCell ⟨a, k, .none⟩ (.int .u8 (f x))).cell? ⟨a, i, .none⟩ = _
    by_cases hik : i = k
    · subst hik
      rw [hk y hy]
      exact cell_set_eq ga
    · rw [cell_set_ne (Ne.symm hik)]
      exact h.ca i y (hs i y hy hik)
  · by_cases hik : i = k
    · subst hik
      rw [hk y hy]
      exact cell_set_eq (u := .int .u8 x) (by show (W.setCell ⟨a, i, .none⟩ (.int .u8 (f x))).cell? ⟨d, i, .none⟩ = _; rw [far _ a d i i _ had]; exact gd)
    · rw [cell_set_ne (Ne.symm hik)]
      show (W.setCell ⟨a, k, .none⟩ (.int .u8 (f x))).cell? ⟨d, i, .none⟩ = _
      rw [far _ a d k i _ had]
      exact h.cd i y (hs i y hy hik)
  · rw [World.frozen?_setCell]
    show (W.setCell ⟨a, k, .none⟩ (.int .u8 (f x))).frozen? ⟨a, i, .none⟩ = _
    rw [World.frozen?_setCell]
    exact h.fa i hi
  · rw [World.frozen?_setCell]
    show (W.setCell ⟨a, k, .none⟩ (.int .u8 (f x))).frozen? ⟨d, i, .none⟩ = _
    rw [World.frozen?_setCell]
    exact h.fd i hi
end
/-- A row of bytes as a loop needs it; g is its block, if it has bytes. -/
structure Rw (V : World) (p : Option Addr) (n c : Nat) (xs : List Int) (g : Nat) : Prop where
  len : xs.length = n
  cap : n ≤ c
  top : c ≤ maxLen
  at' : 0 < n → p = some ⟨g, 0, .none⟩
  lt : 0 < n → g < V.heap.size
  cell : ∀ i x, xs[i]? = some x → V.cell? ⟨g, i, .none⟩ = some (.int .u8 x)
  fz : ∀ i, i < n → V.frozen? ⟨g, i, .none⟩ = false
theorem rw_own {V : World} {base n c : Nat} {p : Option Addr} {xs : List Int} (h : V.ownsRow base 5 1 (.slice p n c) n (by8 xs)) (hb : base ≤ V.heap.size) (X : Nat) (hX : V.heap.size ≤ X) : ∃ g, base ≤ g ∧ Rw V p n c xs g ∧ (Value.ownBlock (.slice p n c) = some g ∧ g < V.heap.size ∨ g = X) := by
  have hl : xs.length = n := by have := h.1; rw [by8_len] at this; omega
  rcases h.2 with ⟨hv, h0⟩ | ⟨g, cap, cur, hv, hbg, hg, hn, hm, _⟩
  · simp only [Value.slice.injEq] at hv
    obtain ⟨rfl, _, rfl⟩ := hv
    refine ⟨X, by omega, ⟨hl, by omega, by decide, fun h => by omega, fun h => by omega, fun i x hx => ?_, fun i hi => by omega⟩, .inr rfl⟩
    rw [List.getElem?_eq_none (by omega)] at hx
    cases hx
  · simp only [Value.slice.injEq, true_and] at hv
    obtain ⟨rfl, rfl⟩ := hv
    have hlt : g < V.heap.size := (Array.getElem?_eq_some_iff.1 hg).1
    refine ⟨g, hbg, ⟨hl, hn, hm, fun _ => rfl, fun _ => hlt, fun i x hx => ?_, fun i _ => h.frozenAt i⟩, .inl ⟨rfl, hlt⟩⟩
    have := h.cells (g := g) rfl i _ (by8_get hx)
    rwa [addr_add, Nat.zero_add] at this
theorem rw_lent {V : World} {base g cg : Nat} {xs : List Int} (h : Lent V base g cg xs) : Rw V (some ⟨g, 0, .none⟩) xs.length cg xs g := by
  have hb := lent_byt h
  have hc := own_cap h
  refine ⟨rfl, by omega, hc.2, fun _ => rfl, fun _ => own_lt h, fun i x hx => ?_, fun i _ => World.ownsRow.frozenAt h i⟩
  have := World.ownsRow.cells h (g := g) rfl i _ (by8_get (xs := xs ++ marks) (by rw [List.getElem?_append_left (by have := (List.getElem?_eq_some_iff.1 hx).1; omega)]; exact hx))
  rwa [addr_add, Nat.zero_add] at this
theorem lo_zero {V : World} {p q : Option Addr} {n c c' a d : Nat} {xs : List Int} (f : Int → Int) (h1 : Rw V p n c xs a) (h2 : Rw V q n c' xs d) : Lo V V a d n 0 f xs :=
  ⟨rfl, rfl, rfl, rfl, fun _ _ _ => rfl, fun i x hx => h1.cell i x (by rwa [mt_zero] at hx), fun i x hx => h2.cell i x (by rwa [mt_zero] at hx), fun i hi => h1.fz i (by rw [← h1.len]; exact hi), fun i hi => h2.fz i (by rw [← h2.len]; exact hi)⟩
theorem rw_byt {V W : World} {p : Option Addr} {n c g : Nat} {xs ys : List Int} (h : Rw V p n c xs g) (hs : W.heap.size = V.heap.size) (hl : ys.length = n) (hc : ∀ i x, ys[i]? = some x → W.cell? ⟨g, i, .none⟩ = some (.int .u8 x)) : Byt W p n c ys := by
  refine ⟨hl, h.cap, h.top, ?_⟩
  by_cases h0 : n = 0
  · exact .inl h0
  · exact .inr ⟨g, 0, h.at' (by omega), by rw [hs]; exact h.lt (by omega), fun i x hx => by rw [Nat.zero_add]; exact hc i x hx⟩
theorem rw_keep {V W : World} {p : Option Addr} {n c g : Nat} {xs : List Int} (h : Rw V p n c xs g) (hs : V.heap.size ≤ W.heap.size) (hb : W.heap[g]? = V.heap[g]?) : Rw W p n c xs g :=
  ⟨h.len, h.cap, h.top, h.at', fun hn => Nat.lt_of_lt_of_le (h.lt hn) hs, fun i x hx => (World.cell?_of_block hb).trans (h.cell i x hx), fun i hi => (World.frozen?_of_block hb).trans (h.fz i hi)⟩
end Go.Proofs.Ytdkidhipiglbkaa
