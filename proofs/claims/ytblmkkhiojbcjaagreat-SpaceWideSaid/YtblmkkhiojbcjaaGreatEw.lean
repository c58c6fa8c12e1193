import Derived.Test.YtblmkkhiojbcjaaGreatEu
namespace Go.Proofs.YtblmkkhiojbcjaaGreat
open Go Go.RowKit Fz
set_option linter.unusedVariables false
set_option linter.unusedSimpArgs false
theorem SRS.below {w W W' : World} {s p b m r P : Nat} {v : Value} {l c : Nat → Int} (h : SRS w W s p b m r P v l c) (k : Below W.heap.size W W') : SRS w W' s p b m r P v l c := by
  obtain ⟨B, L, F, lf, fr, hG⟩ := h.sp
  exact ⟨own_bel h.own k, h.ap, ⟨B, L, F, lf, fr, hG.below k⟩, h.bel.trans (k.mono h.bel.size), h.lb, h.pg⟩
/-- Rights, page by page and byte by byte. -/
theorem rg_acc {P : Nat} {l c : Nat → Int} {rt : Int} {t : Nat} (hh : ∀ k, k < P → hs (c k) (wnt t) = decide (bits .and .u64 (l k) rt ≠ 0)) (va n : Nat) (hn : 1 ≤ n) : rgU P l rt va n ↔ (va + n ≤ P * 4096 ∧ ∀ j, j < n → accU c t (va + j) = true) := by
  constructor
  · intro h
    have h1 := h ((va + n - 1) / 4096) (by omega) (Nat.le_refl _)
    refine ⟨by omega, fun j hj => ?_⟩
    have h2 := h ((va + j) / 4096) (by omega) (by omega)
    unfold accU
    rw [hh _ h2.1]
    exact decide_eq_true h2.2
  · intro ⟨h1, h2⟩ k hk1 hk2
    have hkP : k < P := by omega
    refine ⟨hkP, ?_⟩
    have h3 := h2 (if k * 4096 ≤ va then 0 else k * 4096 - va) (by split <;> omega)
    unfold accU at h3
    rw [show (va + (if k * 4096 ≤ va then 0 else k * 4096 - va)) / 4096 = k by split <;> omega, hh k hkP] at h3
    exact of_decide_eq_true h3
section
variable {w : World} {s p b m N r P : Nat} {size : Int} {B : Nat → Int} {L : List Nat} {F : Nat → Option Nat} {lf : Nat → Nat → Int} {fr : Nat → Nat} {c l : Nat → Int}
/-- What In comes to, by the law's row. -/
def InA (w : World) (P : Nat) (l : Nat → Int) (B : Nat → Int) (fr : Nat → Nat) (va n : Nat) (e : Ending) (w' : World) : Prop := ∃ (ok : Bool) (q : Option Addr) (ln cc : Nat), e = .returned (.tuple #[.slice q ln cc, .bool ok]) ∧ (ok = true ↔ (n = 0 ∨ rgU P l 2 va n)) ∧ (ok = true → ln = n ∧ See w' .u8 q n (fun j => btU B fr (va + j))) ∧ Below w.heap.size w w'
theorem in_law (h : SpU w s p b m N r P size B L F lf fr c) (hpg : ∀ k, k < P → pgO (l k) (c k)) (va n : Nat) (hvn : (va : Int) < 18446744073709551616 ∧ (n : Int) < 9223372036854775808) : Calls Tryz.prog 13 #[.pointer (some ⟨s, 0, .none⟩), .int .u64 va, .int .i64 n] w (InA w P l B fr va n) := by
  by_cases h0 : n = 0
  · subst h0
    exact (in_zero h va).mono fun e w' h9 => ⟨true, none, 0, 0, h9.1, ⟨fun _ => .inl rfl, fun _ => rfl⟩, fun _ => ⟨rfl, .inl rfl⟩, h9.2⟩
  · have hr := rg_acc (t := 1) (rt := 2) (fun k hk => pgO_rd (hpg k hk)) va n (by omega)
    by_cases hf : va + n ≤ P * 4096
    · refine (in_any h va n (by omega) hf).mono fun e w' h9 => ?_
      obtain ⟨hb, ⟨h1, g, hg, hg', he, hc⟩ | ⟨⟨j, hj, hx⟩, he⟩⟩ := h9
      · exact ⟨true, _, n, n, he, ⟨fun _ => .inr (hr.2 ⟨hf, h1⟩), fun _ => rfl⟩, fun _ => ⟨rfl, .inr ⟨g, 0, rfl, hg', fun i hi => by rw [Nat.zero_add]; exact hc i hi⟩⟩, hb⟩
      · refine ⟨false, _, 0, 0, he, ⟨fun e => (by cases e), fun e => ?_⟩, fun e => (by cases e), hb⟩
        rcases e with e | e
        · exact absurd e h0
        · have := (hr.1 e).2 j hj
          rw [hx] at this
          cases this
    · refine (in_far h va n (by omega) hvn hf).mono fun e w' h9 => ⟨false, _, 0, 0, h9.1, ⟨fun e => (by cases e), fun e => ?_⟩, fun e => (by cases e), h9.2⟩
      rcases e with e | e
      · exact absurd e h0
      · exact absurd (hr.1 e).1 hf
/-- What rights comes to. -/
def RgA (w : World) (P : Nat) (l : Nat → Int) (rt : Int) (va n : Nat) (e : Ending) (w' : World) : Prop := ∃ v : Bool, e = .returned (.bool v) ∧ (v = true ↔ (n = 0 ∨ rgU P l rt va n)) ∧ Below w.heap.size w w'
theorem rights_all (q : Option Addr) (cc : Nat) (hl : See w .u64 q P l) (hln : P ≤ 1000000) (va n : Nat) (hv : va ≤ 1000000000 ∧ n ≤ 9223372036854775807) (rt : Int) : Calls Tryz.prog 12 #[.slice q P cc, .int .u64 va, .int .i64 n, .int .u64 rt] w (RgA w P l rt va n) := by
  by_cases h0 : n = 0
  · subst h0
    exact (rights_zero q P cc va rt w).mono fun e w' h9 => ⟨true, h9.1, ⟨fun _ => .inl rfl, fun _ => rfl⟩, by rw [h9.2]; exact Below.refl _ _⟩
  · refine (rights_any q P cc l hl hln va n (by omega) hv rt).mono fun e w' ⟨v, he, hv, hb⟩ => ⟨v, he, ⟨fun e => .inr (hv.1 e), fun e => ?_⟩, hb⟩
    rcases e with e | e
    · exact absurd e h0
    · exact hv.2 e
theorem can_law (h : SpU w s p b m N r P size B L F lf fr c) (hpg : ∀ k, k < P → pgO (l k) (c k)) (va n : Nat) (hvn : (va : Int) < 18446744073709551616 ∧ (n : Int) < 9223372036854775808) : Calls Tryz.prog 15 #[.pointer (some ⟨s, 0, .none⟩), .int .u64 va, .int .i64 n] w (RgA w P l 4 va n) := by
  by_cases h0 : n = 0
  · subst h0
    exact (can_zero h va).mono fun e w' h9 => ⟨true, h9.1, ⟨fun _ => .inl rfl, fun _ => rfl⟩, by rw [h9.2]; exact Below.refl _ _⟩
  · have hr := rg_acc (t := 2) (rt := 4) (fun k hk => pgO_wr (hpg k hk)) va n (by omega)
    refine (can_any h va n (by omega) hvn).mono fun e w' ⟨v, he, hv, hb⟩ => ⟨v, he, ⟨fun e => .inr (hr.2 (hv.1 e)), fun e => ?_⟩, hb⟩
    rcases e with e | e
    · exact absurd e h0
    · exact hv.2 (hr.1 e)
/-- What Out comes to. -/
def OuA (w : World) (s p b m N r P : Nat) (size : Int) (B : Nat → Int) (L : List Nat) (F : Nat → Option Nat) (lf : Nat → Nat → Int) (fr : Nat → Nat) (c l : Nat → Int) (va n : Nat) (R : Nat → Int) (e : Ending) (w' : World) : Prop := ∃ v : Bool, e = .returned (.bool v) ∧ (v = true ↔ (n = 0 ∨ rgU P l 4 va n)) ∧ (v = true → ∃ B', SpU w' s p b m N r P size B' L F lf fr c ∧ ∀ j, j < n → btU B' fr (va + j) = R j) ∧ (v = false → Below w.heap.size w w') ∧ Fra p b m w w'
theorem wrU_at (B : Nat → Int) (fr : Nat → Nat) (va : Nat) (R : Nat → Int) (P : Nat) (hi : ∀ i j, i < P → j < P → fr i = fr j → i = j) : ∀ n, va + n ≤ P * 4096 → ∀ j, j < n → btU (wrU B fr va R n) fr (va + j) = R j
  | 0, _, j, hj => by omega
  | k + 1, hk, j, hj => by
    unfold btU wrU
    by_cases e : j = k
    · subst e
      rw [if_pos rfl]
    · rw [if_neg ?_]
      · exact wrU_at B fr va R P hi k (by omega) j (by omega)
      · intro h
        have h1 : fr ((va + j) / 4096) = fr ((va + k) / 4096) := by omega
        have h2 := hi _ _ (by omega) (by omega) h1
        omega
theorem out_law (h : SpU w s p b m N r P size B L F lf fr c) (hinj : ∀ i j, i < P → j < P → fr i = fr j → i = j) (hpg : ∀ k, k < P → pgO (l k) (c k)) (va n : Nat) (hvn : (va : Int) < 18446744073709551616 ∧ (n : Int) < 9223372036854775808) (q : Option Addr) (cc : Nat) (hcc : n ≤ cc ∧ cc ≤ 9223372036854775807) (R : Nat → Int) (hR : ∀ i, 0 ≤ R i ∧ R i < 256) (hS : See w .u8 q n R) (hgp : n ≠ 0 → ∀ g o, q = some ⟨g, o, .none⟩ → g ≠ p ∧ g ≠ b ∧ g ≠ m) :
    Calls Tryz.prog 16 #[.pointer (some ⟨s, 0, .none⟩), .int .u64 va, .slice q n cc] w (OuA w s p b m N r P size B L F lf fr c l va n R) := by
  rcases hS with h0 | ⟨g, o, rfl, hg, hc⟩
  · subst h0
    exact (out_zero h va q cc).mono fun e w' h9 => ⟨true, h9.1, ⟨fun _ => .inl rfl, fun _ => rfl⟩, fun _ => ⟨B, h.below h9.2, fun j hj => by omega⟩, fun e => (by cases e), Fra.below h9.2⟩
  · by_cases h0 : n = 0
    · subst h0
      exact (out_zero h va _ cc).mono fun e w' h9 => ⟨true, h9.1, ⟨fun _ => .inl rfl, fun _ => rfl⟩, fun _ => ⟨B, h.below h9.2, fun j hj => by omega⟩, fun e => (by cases e), Fra.below h9.2⟩
    · have hr := rg_acc (t := 2) (rt := 4) (fun k hk => pgO_wr (hpg k hk)) va n (by omega)
      refine (out_any h va n (by omega) hvn g o cc hcc R hR hc (hgp h0 g o rfl)).mono fun e w' h9 => ?_
      rcases h9 with ⟨h1, he, h2, h3⟩ | ⟨h1, he, h2⟩
      · exact ⟨true, he, ⟨fun _ => .inr (hr.2 h1), fun _ => rfl⟩, fun _ => ⟨_, h2, wrU_at B fr va R P hinj n h1.1⟩, fun e => (by cases e), h3⟩
      · refine ⟨false, he, ⟨fun e => (by cases e), fun e => ?_⟩, fun e => (by cases e), fun _ => h2, Fra.below h2⟩
        rcases e with e | e
        · exact absurd e h0
        · exact absurd (hr.1 e) h1
/-- What Poke comes to. -/
def PoA (w : World) (p b m : Nat) (size : Int) (va n : Nat) (e : Ending) (w' : World) : Prop := e = .returned (.bool (decide ((va : Int) + n ≤ size))) ∧ Fra p b m w w'
theorem poke_law (h : SpU w s p b m N r P size B L F lf fr c) (va n : Nat) (hvn : (va : Int) < 18446744073709551616 ∧ (n : Int) < 9223372036854775808) (q : Option Addr) (cc : Nat) (hcc : n ≤ cc ∧ cc ≤ 9223372036854775807) (R : Nat → Int) (hR : ∀ i, 0 ≤ R i ∧ R i < 256) (hS : See w .u8 q n R) (hgp : n ≠ 0 → ∀ g o, q = some ⟨g, o, .none⟩ → g ≠ p ∧ g ≠ b ∧ g ≠ m) :
    Calls Tryz.prog 18 #[.pointer (some ⟨s, 0, .none⟩), .int .u64 va, .slice q n cc] w (PoA w p b m size va n) := by
  have hz : ∀ q', n = 0 → Calls Tryz.prog 18 #[.pointer (some ⟨s, 0, .none⟩), .int .u64 va, .slice q' n cc] w (PoA w p b m size va n) := fun q' h0 => by
    subst h0
    refine (poke_zero h va hvn.1 q' cc).mono fun e w' h9 => ⟨?_, Fra.below h9.2⟩
    rw [h9.1]
    simp
  rcases hS with h0 | ⟨g, o, rfl, hg, hc⟩
  · exact hz q h0
  · by_cases h0 : n = 0
    · exact hz _ h0
    · refine (poke_gen h va n (by omega) hvn g o cc hcc R hR hc (hgp h0 g o rfl)).mono fun e w' h9 => ?_
      rcases h9 with ⟨h1, he, h2, h3⟩ | ⟨h1, he, h2⟩
      · exact ⟨by rw [decide_eq_true h1]; exact he, h3⟩
      · exact ⟨by rw [decide_eq_false h1]; exact he, by rw [h2]; exact Fra.refl _ _ _ _⟩
/-- A row of bytes of one's own, as it reads. -/
theorem own_seeB {W : World} {xs : List Int} {q : Option Addr} {cap base : Nat} (h : W.ownsRow base 5 1 (.slice q xs.length cap) xs.length (xs.map fun x => .int .u8 x)) : See W .u8 q xs.length (fun i => xs.getD i 0) := by
  by_cases h0 : xs.length = 0
  · exact .inl h0
  rcases h.2 with h1 | ⟨g, cap', cur, h1, h2, h3, h4⟩
  · exact absurd h1.2 h0
  · have e : q = some ⟨g, 0, none⟩ ∧ cap = cap' := by simpa using h1
    obtain ⟨rfl, rfl⟩ := e
    have hg : g < W.heap.size := by
      rcases Nat.lt_or_ge g W.heap.size with hh | hh
      · exact hh
      · rw [Array.getElem?_eq_none hh] at h3; cases h3
    refine .inr ⟨g, 0, rfl, hg, fun i hi => ?_⟩
    have := h.cellAt i (by omega)
    rw [Nat.zero_add, this, List.getElem?_map, List.getElem?_eq_getElem hi]
    show some (Value.int .u8 xs[i]) = some (Value.int .u8 (xs.getD i 0))
    rw [List.getD_eq_getElem?_getD, List.getElem?_eq_getElem hi]
    rfl
end
end Go.Proofs.YtblmkkhiojbcjaaGreat
