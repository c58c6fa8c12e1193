import Derived.Test.YtblmkkhiojbcjaaGreatEc
import Derived.Test.YtblmkkhiojbcjaaGreatVi
import Derived.Test.YtblmkkhiojbcjaaGreatYj
namespace Go.Proofs.YtblmkkhiojbcjaaGreat
open Go Go.RowKit
set_option linter.unusedVariables false
set_option linter.unusedSimpArgs false
theorem below_setCells {B : Nat} {b : Nat} (hb : B ≤ b) {w : World} : ∀ (vs : List Value) (o : Nat) (W : World), Below B w W → Below B w (W.setCells b o vs)
  | [], _, _, h => h
  | v :: vs, o, W, h => below_setCells hb vs (o + 1) _ (h.setCell (p := ⟨b, o, .none⟩) hb v)
/-- A space, as a plain thing: its pages, their frames and permissions. -/
structure SpU (W : World) (s p b m N r P : Nat) (size : Int) (B : Nat → Int) (L : List Nat) (F : Nat → Option Nat) (lf : Nat → Nat → Int) (fr : Nat → Nat) (c : Nat → Int) : Prop where
  sp : Sp W s p (ad r) size
  sz : 0 ≤ size ∧ (size + 4095) / 4096 = P
  pm : P ≤ 4096
  ram : Ram W p b m N B L
  pt : PT N L B F lf
  rt : F 0 = some r
  ne : s ≠ p ∧ s ≠ b ∧ s ≠ m
  pag : ∀ i : Nat, i < P → Pag N L F lf ((i : Int) * 4096) (fr i) (c i)
section
variable {W W' : World} {s p b m N r P : Nat} {size : Int} {B : Nat → Int} {L : List Nat} {F : Nat → Option Nat} {lf : Nat → Nat → Int} {fr : Nat → Nat} {c : Nat → Int}
theorem SpU.below (h : SpU W s p b m N r P size B L F lf fr c) (k : Below W.heap.size W W') : SpU W' s p b m N r P size B L F lf fr c :=
  ⟨h.sp.below k, h.sz, h.pm, h.ram.below k, h.pt, h.rt, h.ne, h.pag⟩
/-- May the byte be reached for that access (1: read, 2: written)? -/
def accU (c : Nat → Int) (t x : Nat) : Bool := hs (c (x / 4096)) (wnt t)
theorem SpU.tra (h : SpU W s p b m N r P size B L F lf fr c) (x t : Nat) (hx : x < P * 4096) (ht : t < 3) : Calls Tryz.prog 66 #[.pointer (some ⟨p, 0, .none⟩), .int .u64 (ad r), .int .u64 x, .int .i64 (1 + t)] W fun e w' => e = .returned (.tuple #[.int .u64 (if accU c t x then ad (fr (x / 4096)) + (x % 4096 : Nat) else 0), .bool (accU c t x)]) ∧ Below W.heap.size W w' := by
  have hi : x / 4096 < P := by omega
  have hp := h.pag (x / 4096) hi
  have hm := h.pm
  have hN := h.ram.mem.n2
  have hb := ad_b (fr (x / 4096)) N hp.qb.1 hN
  have hne : toP (ad (fr (x / 4096))) (c (x / 4096)) ≠ 0 := fun e => by
    have := hp.k
    rw [e, kd_zero] at this
    omega
  have := tra_some h.ram h.pt h.rt (((x / 4096 : Nat) : Int) * 4096) ((x % 4096 : Nat) : Int) (ad (fr (x / 4096))) (c (x / 4096)) t ht (by omega) (by omega) ⟨hb.1, hb.2.1, hb.2.2⟩ hp.cb hp.l hne
  rw [show ((x / 4096 : Nat) : Int) * 4096 + ((x % 4096 : Nat) : Int) = (x : Int) by omega] at this
  exact this
/-- A byte of the space. -/
def btU (B : Nat → Int) (fr : Nat → Nat) (x : Nat) : Int := B (fr (x / 4096) * 4096 + x % 4096)
/-- What In holds behind k bytes. -/
structure InJ (w : World) (s A d1 d2 u1 u2 va n : Nat) (B : Nat → Int) (fr : Nat → Nat) (c : Nat → Int) (k : Nat) (W : World) : Prop where
  bel : Below w.heap.size w W
  c1 : W.cell? ⟨d1, 0, .none⟩ = some (.pointer (some ⟨s, 0, .none⟩))
  e1 : W.cell? ⟨u1, 0, .none⟩ = some (.pointer (some ⟨s, 0, .none⟩))
  e2 : W.cell? ⟨u2, 0, .none⟩ = some (.int .i64 2)
  c2 : ∃ q, W.cell? ⟨d2, 0, .none⟩ = some (.slice q (n - k : Nat) (n - k : Nat)) ∧ (k < n → q = some ⟨A, k, .none⟩)
  f2 : W.frozen? ⟨d2, 0, .none⟩ = false
  dn : ∀ j, j < k → W.cell? ⟨A, j, .none⟩ = some (.int .u8 (btU B fr (va + j)))
  tl : ∀ j, j < n → (W.cell? ⟨A, j, .none⟩).isSome = true ∧ W.frozen? ⟨A, j, .none⟩ = false
  ok : ∀ j, j < k → accU c 1 (va + j) = true
theorem InJ.below {w : World} {A d1 d2 u1 u2 va n k : Nat} (h : InJ w s A d1 d2 u1 u2 va n B fr c k W) (b : Below W.heap.size W W') (hA : A < W.heap.size) : InJ w s A d1 d2 u1 u2 va n B fr c k W' := by
  obtain ⟨q, hq, hq2⟩ := h.c2
  exact ⟨h.bel.trans (b.mono h.bel.size), (b.cell (p := ⟨d1, 0, .none⟩) (lt_of_cell h.c1)).trans h.c1, (b.cell (p := ⟨u1, 0, .none⟩) (lt_of_cell h.e1)).trans h.e1, (b.cell (p := ⟨u2, 0, .none⟩) (lt_of_cell h.e2)).trans h.e2, ⟨q, (b.cell (p := ⟨d2, 0, .none⟩) (lt_of_cell hq)).trans hq, hq2⟩, (b.frozen (p := ⟨d2, 0, .none⟩) (lt_of_cell hq)).trans h.f2,
    fun j hj => (b.cell (p := ⟨A, j, .none⟩) hA).trans (h.dn j hj), fun j hj => ⟨by rw [b.cell (p := ⟨A, j, .none⟩) hA]; exact (h.tl j hj).1, by rw [b.frozen (p := ⟨A, j, .none⟩) hA]; exact (h.tl j hj).2⟩, h.ok⟩
theorem InJ.step {w : World} {A d1 d2 u1 u2 va n k pc : Nat} {q' : Option Addr} (h : InJ w s A d1 d2 u1 u2 va n B fr c k W) (hne : d2 ≠ A ∧ d1 ≠ A ∧ u1 ≠ A ∧ u2 ≠ A ∧ d1 ≠ d2 ∧ u1 ≠ d2 ∧ u2 ≠ d2) (hwA : w.heap.size ≤ A ∧ w.heap.size ≤ d2) (hk : k + pc ≤ n) (hacc : ∀ j, j < pc → accU c 1 (va + (k + j)) = true) (hbt : ∀ j, j < pc → (pcB B (fr ((va + k) / 4096) * 4096 + (va + k) % 4096) pc)[j]? = some (.int .u8 (btU B fr (va + (k + j)))))
    (hq : k + pc < n → q' = some ⟨A, k + pc, .none⟩) : InJ w s A d1 d2 u1 u2 va n B fr c (k + pc) ((W.setCells A k (pcB B (fr ((va + k) / 4096) * 4096 + (va + k) % 4096) pc)).setCell ⟨d2, 0, .none⟩ (.slice q' (n - k - pc : Nat) (n - k - pc : Nat))) := by
  obtain ⟨bs, hbs⟩ : ∃ bs, bs = pcB B (fr ((va + k) / 4096) * 4096 + (va + k) % 4096) pc := ⟨_, rfl⟩
  have hlen : bs.length = pc := by rw [hbs, pcB_len]
  rw [← hbs] at hbt ⊢
  obtain ⟨q, hq0, hq1⟩ := h.c2
  have o1 : ∀ x : Addr, x.block ≠ A → x.block ≠ d2 → ((W.setCells A k bs).setCell ⟨d2, 0, .none⟩ (.slice q' (n - k - pc : Nat) (n - k - pc : Nat))).cell? x = W.cell? x := fun x h1 h2 => (World.cell?_setCell_far _ _ _ _ (by simp only; exact Ne.symm h2)).trans (World.cell?_setCells_out A bs k W x (fun e => absurd e h1))
  have fz : ∀ x : Addr, ((W.setCells A k bs).setCell ⟨d2, 0, .none⟩ (.slice q' (n - k - pc : Nat) (n - k - pc : Nat))).frozen? x = W.frozen? x := fun x => by rw [World.frozen?_setCell]; exact World.frozen?_setCells A bs k W x
  have cA : ∀ j, ((W.setCells A k bs).setCell ⟨d2, 0, .none⟩ (.slice q' (n - k - pc : Nat) (n - k - pc : Nat))).cell? ⟨A, j, .none⟩ = (W.setCells A k bs).cell? ⟨A, j, .none⟩ := fun j => World.cell?_setCell_far _ _ _ _ (by simp only; exact hne.1)
  have kIn : ∀ j, j < pc → (W.setCells A k bs).cell? ⟨A, k + j, .none⟩ = some (.int .u8 (btU B fr (va + (k + j)))) := fun j hj => by
    rw [World.cell?_setCells_in A bs k W (fun i hi => (h.tl (k + i) (by omega)).1) j (by omega)]
    have := hbt j hj
    rw [List.getElem?_eq_getElem (by omega)] at this
    exact this
  have kOut : ∀ j, (j < k ∨ k + pc ≤ j) → (W.setCells A k bs).cell? ⟨A, j, .none⟩ = W.cell? ⟨A, j, .none⟩ := fun j hj => World.cell?_setCells_out A bs k W ⟨A, j, .none⟩ (fun _ _ => by simp only; omega)
  refine ⟨?_, (o1 ⟨d1, 0, .none⟩ hne.2.1 hne.2.2.2.2.1).trans h.c1, (o1 ⟨u1, 0, .none⟩ hne.2.2.1 hne.2.2.2.2.2.1).trans h.e1, (o1 ⟨u2, 0, .none⟩ hne.2.2.2.1 hne.2.2.2.2.2.2).trans h.e2, ⟨q', ?_, hq⟩, (fz _).trans h.f2, fun j hj => ?_, fun j hj => ⟨?_, (fz _).trans (h.tl j hj).2⟩, fun j hj => ?_⟩
  · have b1 : Below w.heap.size W (W.setCells A k bs) := below_setCells hwA.1 _ _ _ (Below.refl _ _)
    have b2 := b1.setCell (p := ⟨d2, 0, .none⟩) hwA.2 (.slice q' (n - k - pc : Nat) (n - k - pc : Nat))
    exact ⟨b2.os.trans h.bel.os, b2.tape.trans h.bel.tape, b2.output.trans h.bel.output, Nat.le_trans h.bel.size b2.size, fun i hi => (b2.block i hi).trans (h.bel.block i hi)⟩
  · rw [World.cell?_setCell_same' _ _ _ (by rw [World.cell?_setCells_out A bs k W ⟨d2, 0, .none⟩ (fun e => absurd e hne.1), hq0]; rfl), show n - (k + pc) = n - k - pc by omega]
  · rw [cA]
    by_cases hjk : j < k
    · rw [kOut j (.inl hjk)]
      exact h.dn j hjk
    · have := kIn (j - k) (by omega)
      rw [show k + (j - k) = j by omega] at this
      exact this
  · rw [cA]
    by_cases hjk : j < k ∨ k + pc ≤ j
    · rw [kOut j hjk]
      exact (h.tl j hj).1
    · have := kIn (j - k) (by omega)
      rw [show k + (j - k) = j by omega] at this
      rw [this]
      rfl
  · by_cases hjk : j < k
    · exact h.ok j hjk
    · have := hacc (j - k) (by omega)
      rw [show k + (j - k) = j by omega] at this
      exact this
end
end Go.Proofs.YtblmkkhiojbcjaaGreat
