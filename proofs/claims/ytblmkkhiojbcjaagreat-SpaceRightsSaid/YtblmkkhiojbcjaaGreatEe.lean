import Derived.Test.YtblmkkhiojbcjaaGreatEd
import Derived.Test.YtblmkkhiojbcjaaGreatYg
namespace Go.Proofs.YtblmkkhiojbcjaaGreat
open Go Go.RowKit
set_option linter.unusedVariables false
set_option linter.unusedSimpArgs false
section
variable {w : World} {s p b m N r P : Nat} {size : Int} {B : Nat → Int} {L : List Nat} {F : Nat → Option Nat} {lf : Nat → Nat → Int} {fr : Nat → Nat} {c : Nat → Int}
/-- What In comes to where the bytes end within the pages. -/
def InP (w : World) (va n : Nat) (B : Nat → Int) (fr : Nat → Nat) (c : Nat → Int) (e : Ending) (w' : World) : Prop :=
  Below w.heap.size w w' ∧ (((∀ j, j < n → accU c 1 (va + j) = true) ∧ ∃ g, w.heap.size ≤ g ∧ g < w'.heap.size ∧ e = .returned (.tuple #[.slice (some ⟨g, 0, .none⟩) n n, .bool true]) ∧ (∀ j, j < n → w'.cell? ⟨g, j, .none⟩ = some (.int .u8 (btU B fr (va + j))))) ∨
    ((∃ j, j < n ∧ accU c 1 (va + j) = false) ∧ e = .returned (.tuple #[.slice none 0 0, .bool false])))
theorem each_user {w0 w : World} {A d1 d2 u1 u2 va n : Nat} (h : SpU w0 s p b m N r P size B L F lf fr c) (hn : 1 ≤ n) (hf : va + n ≤ P * 4096) (hne : d2 ≠ A ∧ d1 ≠ A ∧ u1 ≠ A ∧ u2 ≠ A ∧ d1 ≠ d2 ∧ u1 ≠ d2 ∧ u2 ≠ d2) (hwA : w0.heap.size ≤ A ∧ w0.heap.size ≤ d2) (h0 : InJ w0 s A d1 d2 u1 u2 va n B fr c 0 w) :
    Calls Tryz.prog 52 #[.pointer (some ⟨s, 0, .none⟩), .int .u64 va, .int .i64 n, .func (.func 89) #[] #[.pointer (some ⟨u1, 0, .none⟩), .pointer (some ⟨u2, 0, .none⟩)], .func (.func 54) #[] #[.pointer (some ⟨d1, 0, .none⟩), .pointer (some ⟨d2, 0, .none⟩)]] w
      (EaP n (InJ w0 s A d1 d2 u1 u2 va n B fr c) (fun W => Below w0.heap.size w0 W ∧ ∃ j, j < n ∧ accU c 1 (va + j) = false)) := by
  have hm := h.pm
  have hAW : ∀ k W, InJ w0 s A d1 d2 u1 u2 va n B fr c k W → A < W.heap.size := fun k W hJ => by
    obtain ⟨v, hv⟩ := Option.isSome_iff_exists.1 (hJ.tl 0 hn).1
    exact lt_of_cell hv
  refine each_rd (va : Int) n (by omega) _ _ (fun k => if accU c 1 (va + k) then ad (fr ((va + k) / 4096)) + ((va + k) % 4096 : Nat) else 0) (fun k => accU c 1 (va + k)) (fun _ => true) (fun k W hk hJ => ?_) (fun k W hk hok hJ => ⟨hJ.bel, k, hk, hok⟩) (fun k W hk hok hJ => ?_) h0
  · have hS := h.below hJ.bel
    have := user_any hS.sp ((va + k : Nat) : Int) 2 _ _ hJ.e1 hJ.e2 (fun W2 b2 => (hS.below b2).tra (va + k) 1 (by omega) (by omega))
    rw [show ((va + k : Nat) : Int) = (va : Int) + k by omega] at this
    exact this.mono (fun e W2 h2 => ⟨h2.1, hJ.below h2.2 (hAW k W hJ)⟩)
  · have hS := h.below hJ.bel
    have hb := pce_b (va : Int) n k hk
    have hom : (((va : Int) + k) % 4096).toNat = (va + k) % 4096 := by omega
    rw [hom] at hb
    obtain ⟨q, hq1, hq2⟩ := hJ.c2
    have hq3 := hq2 hk
    subst hq3
    have hp := hS.pag ((va + k) / 4096) (by omega)
    simp only [hok, if_true]
    refine (in1_any hS.sp hS.ram (fr ((va + k) / 4096)) ((va + k) % 4096) (pce va n k) hp.qb hb.1 hb.2.2 d1 d2 A k (n - k) hJ.c1 hq1 hJ.f2 (by omega) (fun j hj => (hJ.tl (k + j) (by omega)).1) (fun j hj => (hJ.tl (k + j) (by omega)).2) hne.1).mono fun e W3 h3 => ?_
    obtain ⟨he, W2, q', b2, hw3, hq'⟩ := h3
    refine ⟨he, fun _ => ?_, fun e9 => by cases e9⟩
    rw [hw3]
    have hJ2 := hJ.below b2 (hAW k W hJ)
    have hpage : ∀ j, j < pce va n k → (va + (k + j)) / 4096 = (va + k) / 4096 ∧ (va + (k + j)) % 4096 = (va + k) % 4096 + j := fun j hj => by omega
    exact hJ2.step hne hwA (by omega) (fun j hj => by
      have := hok
      unfold accU at this ⊢
      rw [(hpage j hj).1]
      exact this) (fun j hj => by
      unfold pcB btU
      rw [List.getElem?_map, List.getElem?_range hj, (hpage j hj).1, (hpage j hj).2]
      simp only [Option.map_some]
      rw [show fr ((va + k) / 4096) * 4096 + (va + k) % 4096 + j = fr ((va + k) / 4096) * 4096 + ((va + k) % 4096 + j) by omega]) (fun hlt => hq' (by omega))
end
end Go.Proofs.YtblmkkhiojbcjaaGreat
