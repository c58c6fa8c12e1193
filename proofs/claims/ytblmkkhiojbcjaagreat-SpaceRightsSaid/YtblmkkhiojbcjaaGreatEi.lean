import Derived.Test.YtblmkkhiojbcjaaGreatEg
import Derived.Test.YtblmkkhiojbcjaaGreatEh
namespace Go.Proofs.YtblmkkhiojbcjaaGreat
open Go Go.RowKit
set_option linter.unusedVariables false
set_option linter.unusedSimpArgs false
theorem wrU_else (B : Nat → Int) (fr : Nat → Nat) (va : Nat) (R : Nat → Int) (f i : Nat) (hi : i < 4096) : ∀ k : Nat, (∀ j, j < k → fr ((va + j) / 4096) ≠ f) → wrU B fr va R k (f * 4096 + i) = B (f * 4096 + i)
  | 0, _ => rfl
  | k + 1, h => by
    simp only [wrU]
    rw [if_neg (fun e => h k (by omega) (by omega))]
    exact wrU_else B fr va R f i hi k (fun j hj => h j (by omega))
section
variable {w w0 W W' : World} {s p b m N r P : Nat} {size : Int} {B : Nat → Int} {L : List Nat} {F : Nat → Option Nat} {lf : Nat → Nat → Int} {fr : Nat → Nat} {c : Nat → Int}
theorem SpU.wr {va k : Nat} {R : Nat → Int} (h : SpU W s p b m N r P size B L F lf fr c) (hv : va + k ≤ P * 4096) (hs : Sp W' s p (ad r) size) (hr : Ram W' p b m N (wrU B fr va R k) L) : SpU W' s p b m N r P size (wrU B fr va R k) L F lf fr c :=
  ⟨hs, h.sz, h.pm, hr, h.pt.keep (fun x f hf i hi => wrU_else B fr va R f i hi k (fun j hj e => (h.pag ((va + j) / 4096) (by omega)).nn x (by rw [e]; exact hf))) (fun x f hf => (h.pt.held x f hf).2.2), h.rt, h.ne, h.pag⟩
/-- What put holds behind k bytes. -/
structure PuJ (w0 : World) (s p b m N r P : Nat) (size : Int) (B : Nat → Int) (L : List Nat) (F : Nat → Option Nat) (lf : Nat → Nat → Int) (fr : Nat → Nat) (c : Nat → Int) (g k0 cc bv sv va n : Nat) (R : Nat → Int) (k : Nat) (W : World) : Prop where
  fra : Fra p b m w0 W
  sp : Sp W s p (ad r) size
  ram : Ram W p b m N (wrU B fr va R k) L
  cv : W.cell? ⟨sv, 0, .none⟩ = some (.pointer (some ⟨s, 0, .none⟩))
  cb : ∃ q, W.cell? ⟨bv, 0, .none⟩ = some (.slice q (n - k : Nat) (cc - k : Nat)) ∧ (k < n → q = some ⟨g, k0 + k, .none⟩)
  fb : W.frozen? ⟨bv, 0, .none⟩ = false
theorem PuJ.below {g k0 cc bv sv va n k : Nat} {R : Nat → Int} (h : PuJ w0 s p b m N r P size B L F lf fr c g k0 cc bv sv va n R k W) (hb : Below W.heap.size W W') : PuJ w0 s p b m N r P size B L F lf fr c g k0 cc bv sv va n R k W' := by
  obtain ⟨q, hq, hq2⟩ := h.cb
  exact ⟨h.fra.trans (Fra.below hb), h.sp.below hb, h.ram.below hb, (hb.cell (p := ⟨sv, 0, .none⟩) (lt_of_cell h.cv)).trans h.cv, ⟨q, (hb.cell (p := ⟨bv, 0, .none⟩) (lt_of_cell hq)).trans hq, hq2⟩, (hb.frozen (p := ⟨bv, 0, .none⟩) (lt_of_cell hq)).trans h.fb⟩
/-- One piece of put. -/
theorem PuJ.piece {g k0 cc bv sv va n k : Nat} {R : Nat → Int} (h0 : SpU w0 s p b m N r P size B L F lf fr c) (hJ : PuJ w0 s p b m N r P size B L F lf fr c g k0 cc bv sv va n R k W) (hk : k < n) (hf : va + n ≤ P * 4096) (hcc : n ≤ cc ∧ cc ≤ 9223372036854775807) (hR : ∀ i, 0 ≤ R i ∧ R i < 256)
    (hg : ∀ i, i < n → w0.cell? ⟨g, k0 + i, .none⟩ = some (.int .u8 (R i))) (hgp : g ≠ p ∧ g ≠ b ∧ g ≠ m) (hbv : w0.heap.size ≤ bv) (hne : bv ≠ sv) (hsv : w0.heap.size ≤ sv) : Calls Tryz.prog 92 #[.int .u64 (ad (fr ((va + k) / 4096)) + ((va + k) % 4096 : Nat)), .int .i64 (pce va n k), .pointer (some ⟨bv, 0, .none⟩), .pointer (some ⟨sv, 0, .none⟩)] W fun e W' => e = .returned (.bool true) ∧ PuJ w0 s p b m N r P size B L F lf fr c g k0 cc bv sv va n R (k + pce va n k) W' := by
  have hm := h0.pm
  have hp := h0.pag ((va + k) / 4096) (by omega)
  have hb := pce_b (va : Int) n k hk
  have hom : (((va : Int) + k) % 4096).toNat = (va + k) % 4096 := by omega
  rw [hom] at hb
  have hgl : g < w0.heap.size := lt_of_cell (hg 0 (by omega))
  have hpl := h0.ram.mem.plt
  have hbl := h0.ram.mem.blt
  have hml := h0.ram.mem.mlt
  have hsl := h0.sp.lt
  obtain ⟨q, hq, hq2⟩ := hJ.cb
  have hq3 := hq2 hk
  subst hq3
  refine (put1_gen hJ.sp hJ.ram (fr ((va + k) / 4096)) ((va + k) % 4096) (pce va n k) hp.qb hb.1 hb.2.2 g (k0 + k) (n - k) (cc - k) (by omega) (fun i => R (k + i)) (fun i => hR _) (fun i hi => ?_) bv sv hq hJ.fb hJ.cv ⟨by omega, by omega, by omega, by omega, by omega, hne⟩).mono fun e W2 h2 => ?_
  · rw [hJ.fra.cell (x := ⟨g, k0 + k + i, .none⟩) hgl hgp.1 hgp.2.1 hgp.2.2, Nat.add_assoc]
    exact hg (k + i) (by omega)
  · obtain ⟨he, r2, t2, ⟨q2, hq2c, hq2v⟩, f2⟩ := h2
    rw [wrU_over B fr va k R (pce va n k) hb.2.2] at r2
    have hsz := hJ.fra.size
    refine ⟨he, ⟨Tch.fra hJ.fra t2 hbv, ?_, r2, ?_, ⟨q2, ?_, fun hlt => ?_⟩, f2⟩⟩
    · have es : W2.heap[s]? = W.heap[s]? := t2.block s hJ.sp.lt h0.ne.1 h0.ne.2.1 h0.ne.2.2 (by omega)
      have ec : ∀ o, W2.cell? ⟨s, o, .none⟩ = W.cell? ⟨s, o, .none⟩ := fun o => by simp only [World.cell?, es]
      have ef : ∀ o, W2.frozen? ⟨s, o, .none⟩ = W.frozen? ⟨s, o, .none⟩ := fun o => by simp only [World.frozen?, es]
      exact ⟨(ec 0).trans hJ.sp.c0, (ec 1).trans hJ.sp.c1, (ec 2).trans hJ.sp.c2, fun o => (ef o).trans (hJ.sp.fr o)⟩
    · have es : W2.heap[sv]? = W.heap[sv]? := t2.block sv (lt_of_cell hJ.cv) (by omega) (by omega) (by omega) (Ne.symm hne)
      exact (World.cell?_of_block (a := ⟨sv, 0, .none⟩) es).trans hJ.cv
    · rw [hq2c, show n - (k + pce va n k) = n - k - pce va n k by omega, show cc - (k + pce va n k) = cc - k - pce va n k by omega]
    · rw [hq2v (by omega), Nat.add_assoc]
end
end Go.Proofs.YtblmkkhiojbcjaaGreat
