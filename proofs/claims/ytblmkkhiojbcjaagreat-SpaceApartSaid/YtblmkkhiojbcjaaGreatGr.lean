import Derived.Test.YtblmkkhiojbcjaaGreatGj
import Derived.Test.YtblmkkhiojbcjaaGreatGk
import Derived.Deep.DeepCutAuto
namespace Go.Proofs.YtblmkkhiojbcjaaGreat
open Go Go.RowKit
set_option linter.unusedVariables false
set_option linter.unusedSimpArgs false
/-- Whose a frame is. -/
def Its (F : Nat → Option Nat) (fr : Nat → Nat) (I : List Nat) (f : Nat) : Prop := (∃ x, F x = some f) ∨ ∃ i ∈ I, fr i = f
/-- Two spaces have no frame in common. -/
def Dis (F : Nat → Option Nat) (fr : Nat → Nat) (I : List Nat) (ft : Nat) (F' : Nat → Option Nat) (fr' : Nat → Nat) (I' : List Nat) : Prop := ∀ f, (Its F fr I f ∨ f = ft) → ¬ Its F' fr' I' f
section
variable {w W W' : World} {s p b m N r P ft cb rc Pc fc : Nat} {size cz : Int} {B B' : Nat → Int} {L L' : List Nat} {F Fc Fc' : Nat → Option Nat} {lf lfc : Nat → Nat → Int} {fr frc frc' : Nat → Nat} {c cc : Nat → Int} {I Ic Ic' : List Nat}
/-- What is done beside a space leaves it as it is. -/
theorem SpL.beside (h : SpL N r ft B L F lf fr c I) (d : Dis F fr I ft Fc frc Ic) (o : Oth L Fc frc Ic B L' Fc' frc' Ic' B') : SpL N r ft B' L' F lf fr c I ∧ Dis F fr I ft Fc' frc' Ic' ∧ ∀ i ∈ I, ∀ j, j < 4096 → B' (fr i * 4096 + j) = B (fr i * 4096 + j) := by
  have key : ∀ f, (Its F fr I f ∨ f = ft) → f ∉ L → f ∉ L' ∧ (¬ Its Fc' frc' Ic' f) ∧ ∀ j, j < 4096 → B' (f * 4096 + j) = B (f * 4096 + j) := fun f hf hL => by
    have hn := d f hf
    obtain ⟨a1, a2, a3, a4⟩ := o f hL (fun x hx => hn (.inl ⟨x, hx⟩)) (fun i hi e => hn (.inr ⟨i, hi, e⟩))
    exact ⟨a1, fun e => by rcases e with ⟨x, hx⟩ | ⟨i, hi, e⟩; exact a2 x hx; exact a3 i hi e, a4⟩
  have hl : ∀ f, (Its F fr I f ∨ f = ft) → f ∉ L := fun f hf => by
    rcases hf with (⟨x, hx⟩ | ⟨i, hi, e⟩) | e
    · exact (h.pt.held x f hx).2.2
    · rw [← e]; exact (h.pg i hi).2.2.1
    · rw [e]; exact h.ftb.2.2.1
  refine ⟨⟨h.pt.keep (fun x f hx k hk => (key f (.inl (.inl ⟨x, hx⟩)) (hl f (.inl (.inl ⟨x, hx⟩)))).2.2 k hk) (fun x f hx => (key f (.inl (.inl ⟨x, hx⟩)) (hl f (.inl (.inl ⟨x, hx⟩)))).1), h.rt, h.tl, h.nd, h.bd, h.inj, fun i hi => ?_, ?_⟩, fun f hf => (key f hf (hl f hf)).2.1, fun i hi j hj => (key (fr i) (.inl (.inr ⟨i, hi, rfl⟩)) (hl _ (.inl (.inr ⟨i, hi, rfl⟩)))).2.2 j hj⟩
  · have hp := h.pg i hi
    exact ⟨hp.1, hp.2.1, (key (fr i) (.inl (.inr ⟨i, hi, rfl⟩)) hp.2.2.1).1, hp.2.2.2⟩
  · exact ⟨h.ftb.1, h.ftb.2.1, (key ft (.inr rfl) h.ftb.2.2.1).1, h.ftb.2.2.2⟩
/-- Two spaces in one memory. -/
structure Two (W : World) (s p b m N r P ft : Nat) (size : Int) (cb rc Pc fc : Nat) (cz : Int) (B : Nat → Int) (L : List Nat) (F : Nat → Option Nat) (lf : Nat → Nat → Int) (fr : Nat → Nat) (c : Nat → Int) (Fc : Nat → Option Nat) (lfc : Nat → Nat → Int) (frc : Nat → Nat) (cc : Nat → Int) : Prop where
  S : SpT W s p b m N r P ft size B L F lf fr c
  C : SpT W cb p b m N rc Pc fc cz B L Fc lfc frc cc
  d : Dis F fr (List.range P) ft Fc frc (List.range Pc)
  ne : s ≠ cb
theorem Two.below (h : Two W s p b m N r P ft size cb rc Pc fc cz B L F lf fr c Fc lfc frc cc) (k : Below W.heap.size W W') : Two W' s p b m N r P ft size cb rc Pc fc cz B L F lf fr c Fc lfc frc cc := ⟨h.S.below k, h.C.below k, h.d, h.ne⟩
theorem Sp.tch {root : Int} (h : Sp W s p root size) (t : Tch p b m cb W W') (h1 : s ≠ p ∧ s ≠ b ∧ s ≠ m) (h2 : s ≠ cb) : Sp W' s p root size := by
  have e := t.block s h.lt h1.1 h1.2.1 h1.2.2 h2
  exact ⟨(World.cell?_of_block (a := ⟨s, 0, .none⟩) e).trans h.c0, (World.cell?_of_block (a := ⟨s, 1, .none⟩) e).trans h.c1, (World.cell?_of_block (a := ⟨s, 2, .none⟩) e).trans h.c2, fun k => (World.frozen?_of_block (a := ⟨s, k, .none⟩) e).trans (h.fr k)⟩
/-- What is done with the second one. -/
theorem Two.step {Pc' : Nat} {cz' : Int} {lfc' : Nat → Nat → Int} {cc' : Nat → Int} (h : Two W s p b m N r P ft size cb rc Pc fc cz B L F lf fr c Fc lfc frc cc) (k : SpT W' cb p b m N rc Pc' fc cz' B' L' Fc' lfc' frc' cc') (o : Oth L Fc frc (List.range Pc) B L' Fc' frc' (List.range Pc') B') (t : Tch p b m cb W W') :
    Two W' s p b m N r P ft size cb rc Pc' fc cz' B' L' F lf fr c Fc' lfc' frc' cc' ∧ ∀ i, i < P → ∀ j, j < 4096 → B' (fr i * 4096 + j) = B (fr i * 4096 + j) := by
  obtain ⟨h1, h2, h3⟩ := h.S.tab.beside h.d o
  exact ⟨⟨⟨h.S.sp.tch t h.S.ne h.ne, h.S.sz, h.S.pm, k.ram, h.S.ne, h1⟩, k, h2, h.ne⟩, fun i hi => h3 i (List.mem_range.2 hi)⟩
end
end Go.Proofs.YtblmkkhiojbcjaaGreat
