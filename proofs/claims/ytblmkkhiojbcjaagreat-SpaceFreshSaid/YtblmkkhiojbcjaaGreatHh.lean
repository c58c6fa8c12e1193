import Derived.Test.YtblmkkhiojbcjaaGreatHg
import Derived.Test.YtblmkkhiojbcjaaGreatHf
import Derived.Test.YtblmkkhiojbcjaaGreatHa
import Derived.Test.YtblmkkhiojbcjaaGreatHb
import Derived.Test.YtblmkkhiojbcjaaGreatUl
import Derived.Test.YtblmkkhiojbcjaaGreatGj
import Derived.Test.YtblmkkhiojbcjaaGreatGk
import Derived.Test.YtblmkkhiojbcjaaGreatGi
import Derived.Test.YtblmkkhiojbcjaaGreatEu
import Derived.Deep.DeepCutAuto
namespace Go.Proofs.YtblmkkhiojbcjaaGreat
open Go Go.RowKit Fz
set_option linter.unusedVariables false
set_option linter.unusedSimpArgs false
section
variable {w W W' : World} {s p b m N r P ft : Nat} {size : Int} {B B' : Nat → Int} {L L' : List Nat} {F : Nat → Option Nat} {lf : Nat → Nat → Int} {fr : Nat → Nat} {c : Nat → Int}
/-- What a write comes to, done or not. -/
def OtP (w : World) (s p b m N r P ft : Nat) (size : Int) (B : Nat → Int) (L : List Nat) (F : Nat → Option Nat) (lf : Nat → Nat → Int) (fr : Nat → Nat) (c : Nat → Int) (e : Ending) (w' : World) : Prop := ∃ v, e = .returned (.bool v) ∧ Fra p b m w w' ∧ ∃ B', SpT w' s p b m N r P ft size B' L F lf fr c ∧ Oth L F fr (List.range P) B L F fr (List.range P) B'
theorem out_sp (h : SpT w s p b m N r P ft size B L F lf fr c) (va n : Nat) (hvn : (va : Int) < 18446744073709551616 ∧ (n : Int) < 9223372036854775808) (q : Option Addr) (cc : Nat) (hcc : n ≤ cc ∧ cc ≤ 9223372036854775807) (R : Nat → Int) (hR : ∀ i, 0 ≤ R i ∧ R i < 256) (hS : See w .u8 q n R) (hgp : n ≠ 0 → ∀ g o, q = some ⟨g, o, .none⟩ → g ≠ p ∧ g ≠ b ∧ g ≠ m) :
    Calls Tryz.prog 16 #[.pointer (some ⟨s, 0, .none⟩), .int .u64 va, .slice q n cc] w (OtP w s p b m N r P ft size B L F lf fr c) := by
  by_cases h0 : n = 0
  · subst h0
    exact (out_zero h.su va q cc).mono fun e w' hh => ⟨true, hh.1, Fra.below hh.2, B, h.below hh.2, Oth.refl _ _ _ _ _⟩
  · rcases hS with hS | ⟨g, o, rfl, hg, hr⟩
    · exact absurd hS h0
    refine (out_any h.su va n (by omega) hvn g o cc hcc R hR hr (hgp h0 g o rfl)).mono fun e w' hh => ?_
    rcases hh with ⟨h1, h2⟩ | ⟨_, h2, h3⟩
    · obtain ⟨k1, k2, k3⟩ := h.wr h1.1 h2
      exact ⟨true, h2.1, k3, _, k1, k2⟩
    · exact ⟨false, h2, Fra.below h3, B, h.below h3, Oth.refl _ _ _ _ _⟩
end
theorem wv_len (l : List Int) : (wv l).length = l.length := by unfold wv; simp
theorem wv_get {l : List Int} {i : Nat} {x : Int} (h : l[i]? = some x) : (wv l)[i]? = some (.int .u64 x) := by unfold wv; rw [List.getElem?_map, h]; rfl
def lz (Z : List Int) (i : Nat) : Int := Z.getD i 0
theorem own_lz {W : World} {Z : List Int} {q : Option Addr} {cap base n : Nat} (hn : Z.length = n) (h : W.ownsRow base 23 1 (.slice q n cap) n (wv Z)) : See W .u64 q n (lz Z) := by
  by_cases h0 : n = 0
  · exact .inl h0
  · obtain ⟨g, e, _, hg⟩ := row_shape h (by omega)
    subst e
    refine .inr ⟨g, 0, rfl, hg, fun i hi => ?_⟩
    rw [Nat.zero_add, h.cellAt i (by omega)]
    refine wv_get ?_
    unfold lz
    rw [List.getD_eq_getElem?_getD, List.getElem?_eq_getElem (by omega)]
    rfl
section
variable {w : World} {s p : Nat} {size : Int}
theorem root_sp {root : Int} (h : Sp w s p root size) : Calls Tryz.prog 24 #[.pointer (some ⟨s, 0, .none⟩)] w fun e w' => e = .returned (.int .u64 root) ∧ w' = w := by
  have c43 := made_sp h
  have k1 := h.c1
  go_enter Tryz.func24, Tryz.ntmps24
  go_wp2_with (go_at_call 43; refine c43.mono ?_; rintro _ w1 ⟨rfl, e1⟩; obtain rfl : w = w1 := e1.symm)
  go_ret
  exact ⟨rfl, rfl⟩
end
theorem Tch.lowF {p b m x B : Nat} {w w' : World} (h : Tch p b m x w w') (hB : B ≤ w.heap.size) (h1 : B ≤ x ∧ B ≤ p ∧ B ≤ b ∧ B ≤ m) : Below B w w' :=
  ⟨h.os, h.tape, h.output, h.size, fun k hk => h.block k (by omega) (by omega) (by omega) (by omega) (by omega)⟩
def LwF (w : World) (e : Ending) (w' : World) : Prop := e = .returned (.bool true) ∧ Below w.heap.size w w'
/-- The space, grown. -/
def GrF (w : World) (s p b m P : Nat) (size : Int) (W : World) : Prop := Below w.heap.size w W ∧ (w.heap.size ≤ s ∧ w.heap.size ≤ p ∧ w.heap.size ≤ b ∧ w.heap.size ≤ m) ∧ (1 ≤ P ∧ P ≤ 10) ∧ ∃ B L F lf fr c, SpT W s p b m 60 58 P 59 size B L F lf fr c ∧ ∀ i, i < P → c i = 214
theorem ndP_fewF {P : Nat} (h : P ≤ 10) : ndP P ≤ 7 := by unfold ndP; split <;> omega
section
variable {w W W' : World} {s p b m P : Nat} {size : Int}
theorem grow_f {B : Nat → Int} {L : List Nat} {F : Nat → Option Nat} {lf : Nat → Nat → Int} {fr : Nat → Nat} {c : Nat → Int} (h1 : Below w.heap.size w W) (h2 : w.heap.size ≤ s ∧ w.heap.size ≤ p ∧ w.heap.size ≤ b ∧ w.heap.size ≤ m) (h : SpT W s p b m 60 58 0 59 0 B L F lf fr c) (hn : L.length + nodesF F + 3 = 60) (tz : Int) (ht : 1 ≤ tz ∧ tz ≤ 40960) (Q : Nat) (hQ : (tz + 4095) / 4096 = Q) :
    Calls Tryz.prog 9 #[.pointer (some ⟨s, 0, .none⟩), .int .u64 tz, .int .u64 6] W fun e w' => e = .returned (.int .i64 0) ∧ GrF w s p b m Q tz w' := by
  have e := h.tab.nodes (P := 0) (by omega)
  have e0 : ndP ((0 : Nat) : Int) = 3 := rfl
  have e1 := ndP_fewF (P := Q) (by omega)
  refine (grow_any h tz 6 (.inr (.inr (.inr (.inl rfl)))) ⟨by omega, by omega⟩ Q hQ).mono fun e w' hh => ?_
  rcases hh with ⟨k1, k2, k3, B', L', F', lf', fr', c', k4, k5, k6, k7, k8⟩ | ⟨k1, k2, k3⟩
  · exact ⟨k2, h1.trans (k3.lowF h1.size (by omega)), h2, by omega, B', L', F', lf', fr', c', k4, fun i hi => k8 i (by omega) hi⟩
  · exact absurd (by rw [e0]; omega) k1
theorem out_f (h : GrF w s p b m P size W) (n : Nat) (hvn : (n : Int) < 9223372036854775808) (q : Option Addr) (ca : Nat) (hcc : n ≤ ca ∧ ca ≤ 9223372036854775807) (R : Nat → Int) (hR : ∀ i, 0 ≤ R i ∧ R i < 256) (hS : See w .u8 q n R) :
    Calls Tryz.prog 16 #[.pointer (some ⟨s, 0, .none⟩), .int .u64 0, .slice q n ca] W fun e w' => (∃ v, e = .returned (.bool v)) ∧ GrF w s p b m P size w' := by
  obtain ⟨h1, h2, h3, B, L, F, lf, fr, c, h5, h7⟩ := h
  refine (out_sp h5 0 n ⟨by decide, hvn⟩ q ca hcc R hR (hS.below h1) (fun h0 g o e => ?_)).mono fun e w' hh => ?_
  · rcases hS with hS | ⟨g', o', e', hg, _⟩
    · exact absurd hS h0
    · rw [e] at e'
      have : g = g' := by injection e' with e'; injection e'
      omega
  · obtain ⟨v, k1, k2, B', k3, k4⟩ := hh
    exact ⟨⟨v, k1⟩, h1.trans ((Tch.of (x := s) k2).lowF h1.size (by omega)), h2, h3, B', L, F, lf, fr, c, k3, h7⟩
end
section
variable {W W' : World} {base e size n g cap : Nat} {xs : List Value} {R : Nat → Int}
theorem ownF_blk (h : W.ownsRow base e size (.slice (some ⟨g, 0, .none⟩) n cap) n xs) (k : W'.heap[g]? = W.heap[g]?) : W'.ownsRow base e size (.slice (some ⟨g, 0, .none⟩) n cap) n xs := by
  obtain ⟨h1, h2⟩ := h
  refine ⟨h1, ?_⟩
  rcases h2 with h2 | ⟨g', cap', cur, e1, e2, e3, e4⟩
  · exact .inl h2
  · have eg : g = g' := by injection e1 with e1; injection e1 with e1; injection e1
    subst eg
    exact .inr ⟨g, cap', cur, e1, e2, k.trans e3, e4⟩
theorem ownF_bel (h : W.ownsRow base e size (.slice (some ⟨g, 0, .none⟩) n cap) n xs) (b : Below W.heap.size W W') : W'.ownsRow base e size (.slice (some ⟨g, 0, .none⟩) n cap) n xs := ownF_blk h (b.block g (own_lt h).2.1)
theorem own_zero {v : Value} (h : W.ownsRow base e size v n xs) : W.ownsRow 0 e size v n xs := own_low h (Nat.zero_le _)
theorem own_seeR {q : Option Addr} {c : Nat} (h : W.ownsRow base 5 1 (.slice q n c) n ((List.range n).map fun j => .int .u8 (R j))) : See W .u8 q n R := by
  by_cases h0 : n = 0
  · exact .inl h0
  rcases h.2 with h1 | ⟨g, cap', cur, h1, _⟩
  · exact absurd h1.2 h0
  injection h1 with h1
  subst h1
  refine .inr ⟨g, 0, rfl, (own_lt h).2.1, fun i hi => ?_⟩
  rw [Nat.zero_add, h.cellAt i (by omega), List.getElem?_map, List.getElem?_range hi]
  rfl
theorem own_ty {e' size' n' cap' base' : Nat} {xs' : List Value} (h : W.ownsRow base e size (.slice (some ⟨g, 0, .none⟩) n cap) n xs) (h' : W.ownsRow base' e' size' (.slice (some ⟨g, 0, .none⟩) n' cap') n' xs') (hn : 1 ≤ n) (hn' : 1 ≤ n') : e = e' := by
  rcases h.2 with h1 | ⟨g1, c1, cur, e1, _, e3, _⟩
  · exact absurd h1.2 (by omega)
  rcases h'.2 with h1 | ⟨g2, c2, cur', e1', _, e3', _⟩
  · exact absurd h1.2 (by omega)
  have eg1 : g = g1 := by injection e1 with e1; injection e1 with e1; injection e1
  have eg2 : g = g2 := by injection e1' with e1'; injection e1' with e1'; injection e1'
  subst eg1
  subst eg2
  have k := e3.symm.trans e3'
  simp only [Option.some.injEq, Obj.cells.injEq] at k
  exact k.2.1
end
theorem sorted_same {ys zs xs : List Int} (h1 : ys.Perm xs) (h2 : ys.Pairwise (· ≤ ·)) (h3 : zs.Perm xs) (h4 : zs.Pairwise (· ≤ ·)) : ys = zs :=
  (h1.trans h3.symm).eq_of_pairwise (fun a b _ _ h h' => by omega) h2 h4
theorem lkP_len (fr : Nat → Nat) (c : Nat → Int) (P : Nat) : (lkP fr c P).length = P := by unfold lkP; simp
end Go.Proofs.YtblmkkhiojbcjaaGreat
