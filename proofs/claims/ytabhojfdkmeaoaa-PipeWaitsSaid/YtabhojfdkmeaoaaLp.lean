import Derived.Test.YtabhojfdkmeaoaaLa
namespace Go.Proofs.Ytabhojfdkmeaoaa
open Go.RowKit
set_option linter.unusedVariables false
set_option linter.unusedSimpArgs false
/-- Bytes laid over others. -/
def ovr (B : Nat → Int) (t : Nat) (zs : List Int) : Nat → Int := fun i => if t ≤ i ∧ i < t + zs.length then zs.getD (i - t) 0 else B i
section
variable {w : World} {b i : Nat} {v : Value} {B : Nat → Int} {r s : Int} {rd wt : Bool}
theorem cell_out (h : w.cell? ⟨b, i, .none⟩ = some v) (o : Nat) (vs : List Value) (ho : i < o ∨ o + vs.length ≤ i) : (w.setCells b o vs).cell? ⟨b, i, .none⟩ = some v := by
  rw [World.cell?_setCells_out _ _ _ _ _ (fun _ _ => ho)]
  exact h
theorem cell_one (h : w.cell? ⟨b, i, .none⟩ = some v) (u : Value) : (w.setCell ⟨b, i, .none⟩ u).cell? ⟨b, i, .none⟩ = some u := by
  have := World.cell?_setCells_in b [u] i w (fun j hj => by
    obtain rfl : j = 0 := by simp at hj; omega
    rw [Nat.add_zero, h]; rfl) 0 (by simp)
  exact this
theorem cell_off (h : w.cell? ⟨b, i, .none⟩ = some v) (o : Nat) (u : Value) (ho : i ≠ o) : (w.setCell ⟨b, o, .none⟩ u).cell? ⟨b, i, .none⟩ = some v := cell_out h o [u] (by simp; omega)
theorem Rng.drewN (h : Rng w b B r s rd wt) (k : Nat) : Rng (w.drewN k) b B r s rd wt := ⟨h.cb, h.fb, h.c1, h.c2, h.c3, h.c4, h.c5, h.bb, h.br, h.bs⟩
theorem Rng.over (h : Rng w b B r s rd wt) (t : Nat) (zs : List Int) (ht : t + zs.length ≤ 512) (hz : ∀ z ∈ zs, 0 ≤ z ∧ z < 256) : Rng (w.setCells b t (by8 zs)) b (ovr B t zs) r s rd wt := by
  have hl := by8_len zs
  refine ⟨fun i hi => ?_, fun i => ?_, cell_out h.c1 _ _ (by omega), cell_out h.c2 _ _ (by omega), cell_out h.c3 _ _ (by omega), cell_out h.c4 _ _ (by omega), cell_out h.c5 _ _ (by omega), fun i => ?_, h.br, h.bs⟩
  · unfold ovr
    split
    · rename_i hc
      obtain ⟨j, rfl⟩ : ∃ j, i = t + j := ⟨i - t, by omega⟩
      rw [World.cell?_setCells_in b (by8 zs) t w (fun j hj => by rw [h.cb (t + j) (by omega)]; rfl) j (by omega)]
      have : (by8 zs)[j]? = some (.int .u8 (zs[j]'(by omega))) := by8_get (by simp)
      rw [List.getElem?_eq_getElem (by omega)] at this
      rw [Option.some.inj this, Nat.add_sub_cancel_left, List.getD_eq_getElem?_getD, List.getElem?_eq_getElem (by omega)]
      rfl
    · exact cell_out (h.cb i hi) _ _ (by omega)
  · rw [World.frozen?_setCells]
    exact h.fb i
  · unfold ovr
    split
    · rename_i hc
      rw [List.getD_eq_getElem?_getD, List.getElem?_eq_getElem (by omega)]
      exact hz _ (by simp)
    · exact h.bb i
theorem Rng.froz (h : Rng w b B r s rd wt) (o : Nat) (u : Value) : ∀ i, (w.setCell ⟨b, o, .none⟩ u).frozen? ⟨b, i, .none⟩ = false := fun i => by
  have := World.frozen?_setCells b [u] o w ⟨b, i, .none⟩
  exact this.trans (h.fb i)
theorem Rng.setS (h : Rng w b B r s rd wt) (s' : Int) (hs : 0 ≤ s' ∧ s' < 4294967296) : Rng (w.setCell ⟨b, 513, .none⟩ (.int .u32 s')) b B r s' rd wt :=
  ⟨fun i hi => cell_off (h.cb i hi) _ _ (by omega), h.froz _ _, cell_off h.c1 _ _ (by decide), cell_one h.c2 _, cell_off h.c3 _ _ (by decide), cell_off h.c4 _ _ (by decide), cell_off h.c5 _ _ (by decide), h.bb, h.br, hs⟩
theorem Rng.setR (h : Rng w b B r s rd wt) (r' : Int) (hs : 0 ≤ r' ∧ r' < 4294967296) : Rng (w.setCell ⟨b, 512, .none⟩ (.int .u32 r')) b B r' s rd wt :=
  ⟨fun i hi => cell_off (h.cb i hi) _ _ (by omega), h.froz _ _, cell_one h.c1 _, cell_off h.c2 _ _ (by decide), cell_off h.c3 _ _ (by decide), cell_off h.c4 _ _ (by decide), cell_off h.c5 _ _ (by decide), h.bb, hs, h.bs⟩
theorem Rng.setRd (h : Rng w b B r s rd wt) (x : Bool) : Rng (w.setCell ⟨b, 514, .none⟩ (.bool x)) b B r s x wt :=
  ⟨fun i hi => cell_off (h.cb i hi) _ _ (by omega), h.froz _ _, cell_off h.c1 _ _ (by decide), cell_off h.c2 _ _ (by decide), cell_one h.c3 _, cell_off h.c4 _ _ (by decide), cell_off h.c5 _ _ (by decide), h.bb, h.br, h.bs⟩
theorem Rng.setWt (h : Rng w b B r s rd wt) (x : Bool) : Rng (w.setCell ⟨b, 515, .none⟩ (.bool x)) b B r s rd x :=
  ⟨fun i hi => cell_off (h.cb i hi) _ _ (by omega), h.froz _ _, cell_off h.c1 _ _ (by decide), cell_off h.c2 _ _ (by decide), cell_off h.c3 _ _ (by decide), cell_one h.c4 _, cell_off h.c5 _ _ (by decide), h.bb, h.br, h.bs⟩
end
/-- The ring behind a Put. -/
theorem ring_put (B : Nat → Int) (R : Nat) (xs ys : List Int) (hx : ∀ j x, xs[j]? = some x → B ((R + j) % 512) = x) (hl : xs.length + ys.length ≤ 512) (t m : Nat) (ht : t = (R + xs.length) % 512) (hm : m = min ys.length (512 - t)) :
    ∀ j x, (xs ++ ys)[j]? = some x → ovr (ovr B t (ys.take m)) 0 (ys.drop m) ((R + j) % 512) = x := by
  intro j x hj
  have h1 : (ys.take m).length = m := by rw [List.length_take]; omega
  have h2 : (ys.drop m).length = ys.length - m := by rw [List.length_drop]
  unfold ovr
  rw [h1, h2]
  by_cases hjl : j < xs.length
  · rw [List.getElem?_append_left hjl] at hj
    rw [if_neg (by omega), if_neg (by omega)]
    exact hx j x hj
  · rw [List.getElem?_append_right (by omega)] at hj
    have hj2 : j - xs.length < ys.length := (List.getElem?_eq_some_iff.1 hj).1
    by_cases hjm : j - xs.length < m
    · rw [if_neg (by omega), if_pos (by omega)]
      have e : (R + j) % 512 - t = j - xs.length := by omega
      rw [e, List.getD_eq_getElem?_getD, List.getElem?_take, if_pos hjm, hj]
      rfl
    · rw [if_pos (by omega)]
      have e : (R + j) % 512 - 0 = j - xs.length - m := by omega
      rw [e, List.getD_eq_getElem?_getD, List.getElem?_drop, show m + (j - xs.length - m) = j - xs.length by omega, hj]
      rfl
theorem lay_pip {w : World} {b : Nat} {xs : List Int} {r : Int} {rd wt : Bool} (h : Pip w b xs r rd wt) {p : Option Addr} {n c : Nat} {ys : List Int} (hB : Byt w p n c ys) (hp : 0 < n → NB p b) (hy : ∀ y ∈ ys, 0 ≤ y ∧ y < 256) (hn : xs.length + n ≤ 512) :
    Calls Try.prog 27 #[.pointer (some ⟨b, 0, .none⟩), .slice p n c] w fun e w' => (∃ v, e = .returned v) ∧ Pip w' b (xs ++ ys) r rd wt ∧ Trn b w w' := by
  obtain ⟨h1, B, h2, h3⟩ := h
  have hl := hB.1
  have br := h2.br
  obtain ⟨R, hR⟩ : ∃ R : Nat, r = R := ⟨r.toNat, by omega⟩
  subst hR
  have ht : ((R : Int) + (xs.length : Int)) % 4294967296 % 512 = (((R + xs.length) % 512 : Nat) : Int) := by omega
  refine (lay_any h2 hB hp (by omega) _ ht (by omega)).mono ?_
  rintro e w' ⟨he, k, j, rfl⟩
  generalize hm : min n (512 - (R + xs.length) % 512) = m
  refine ⟨he, ⟨by rw [List.length_append]; omega, ovr (ovr B ((R + xs.length) % 512) (ys.take m)) 0 (ys.drop m), ?_, ?_⟩, ?_⟩
  · have g1 := (h2.drewN k).over ((R + xs.length) % 512) (ys.take m) (by rw [List.length_take]; omega) (fun z hz => hy z (List.mem_of_mem_take hz))
    have g2 := (g1.drewN j).over 0 (ys.drop m) (by rw [List.length_drop]; omega) (fun z hz => hy z (List.mem_of_mem_drop hz))
    have e : (((R : Int) + (xs.length : Int)) % 4294967296 + n) % 4294967296 = ((R : Int) + ((xs ++ ys).length : Int)) % 4294967296 := by rw [List.length_append]; omega
    rw [e]
    exact g2.setS _ (by omega)
  · rw [Int.toNat_natCast] at h3 ⊢
    exact ring_put B R xs ys h3 (by omega) _ m rfl (by omega)
  · exact (((Trn.ofDrewN rfl).trans (Trn.setCells _ _ _ _)).trans (Trn.ofDrewN rfl)).trans ((Trn.setCells _ _ _ _).trans (Trn.setCell _ _ _ _))
end Go.Proofs.Ytabhojfdkmeaoaa
