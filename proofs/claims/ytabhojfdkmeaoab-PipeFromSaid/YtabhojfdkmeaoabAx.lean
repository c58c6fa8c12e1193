import Derived.Test.YtabhojfdkmeaoabSe
namespace Go.Proofs.Ytabhojfdkmeaoab
open Go.RowKit
set_option linter.unusedVariables false
set_option linter.unusedSimpArgs false
/-- A pipe, the document's beside it, the shelf. -/
structure St (w : World) (Z X b d sh cnt : Nat) (e : Value) (F : Nat → Prop) (xs : List Int) (r : Int) (rd wt : Bool) (ys : List Int) (s : Int) (rd2 wt2 : Bool) : Prop where
  p : Pip w b xs r rd wt
  q : Dq w d e X ys s rd2 wt2
  s : Shel w X sh cnt F
  ef : ∀ g, e.ownBlock = some g → ¬ F g
  bd : b ≠ d
  bs : b ≠ sh
  ds : d ≠ sh
  bX : b < X
  zb : Z ≤ b
  zd : Z ≤ d
  zs : Z ≤ sh
  en : ∀ g, e.ownBlock = some g → Z ≤ g ∧ g ≠ b ∧ g ≠ sh
section
variable {w v : World} {Z X b d sh cnt cnt' : Nat} {e e' : Value} {F F' S : Nat → Prop} {xs xs' ys ys' : List Int} {r r' s s' : Int} {rd wt rd2 wt2 rd' wt' : Bool}
theorem St.eX (h : St w Z X b d sh cnt e F xs r rd wt ys s rd2 wt2) : ∀ g, e.ownBlock = some g → (Z ≤ g ∧ g ≠ b ∧ g ≠ d ∧ g ≠ sh) ∧ g < w.heap.size := fun g hg => ⟨⟨(h.en g hg).1, (h.en g hg).2.1, h.q.ed g hg, (h.en g hg).2.2⟩, own_ltC h.q.row g hg⟩
theorem St.dX (h : St w Z X b d sh cnt e F xs r rd wt ys s rd2 wt2) : d < X := h.q.dX
theorem St.sX (h : St w Z X b d sh cnt e F xs r rd wt ys s rd2 wt2) : sh < X := h.s.lt.1
theorem St.wX (h : St w Z X b d sh cnt e F xs r rd wt ys s rd2 wt2) : X ≤ w.heap.size := h.q.wX
/-- What is touched belongs to none of them. -/
theorem St.keep (h : St w Z X b d sh cnt e F xs r rd wt ys s rd2 wt2) (t : Chg S w v) (h1 : ∀ k, k < X → ¬ S k) (h2 : ∀ g, e.ownBlock = some g → ¬ S g) (h3 : ∀ g, F g → ¬ S g) : St v Z X b d sh cnt e F xs r rd wt ys s rd2 wt2 :=
  ⟨t.pip h.p (h1 b h.bX), h.q.keep t (h1 d h.dX) h2, h.s.keep t (h1 sh h.sX) h3, h.ef, h.bd, h.bs, h.ds, h.bX, h.zb, h.zd, h.zs, h.en⟩
theorem St.below (h : St w Z X b d sh cnt e F xs r rd wt ys s rd2 wt2) (t : Below w.heap.size w v) : St v Z X b d sh cnt e F xs r rd wt ys s rd2 wt2 := h.keep (S := fun _ => False) (Chg.ofBelow t) (fun _ _ h => h) (fun _ _ h => h) (fun _ _ h => h)
theorem St.t1 (h : St w Z X b d sh cnt e F xs r rd wt ys s rd2 wt2) (t : Trn b w v) (hp : Pip v b xs' r' rd' wt') : St v Z X b d sh cnt e F xs' r' rd' wt' ys s rd2 wt2 := by
  have t' := Chg.ofTrn t
  refine ⟨hp, h.q.keep t' (fun e => h.bd e.symm) (fun g hg e => ?_), h.s.keep t' (fun e => h.bs e.symm) (fun g hg e => ?_), h.ef, h.bd, h.bs, h.ds, h.bX, h.zb, h.zd, h.zs, h.en⟩
  · have := (h.eX g hg).1; have := h.bX; have : g = b := e; omega
  · have := (h.s.ge g hg).1; have := h.bX; have : g = b := e; omega
theorem St.t2 (h : St w Z X b d sh cnt e F xs r rd wt ys s rd2 wt2) (t : Chg (fun k => k = d ∨ e.ownBlock = some k) w v) (hq : Dq v d e' X ys' s' rd' wt') (hs : Sof w e e') : St v Z X b d sh cnt e' F xs r rd wt ys' s' rd' wt' := by
  refine ⟨t.pip h.p (fun e => ?_), hq, h.s.keep t (fun e => ?_) (fun g hg e => ?_), fun g hg hf => ?_, h.bd, h.bs, h.ds, h.bX, h.zb, h.zd, h.zs, fun g hg => ?_⟩
  · rcases e with e | e
    · exact h.bd e
    · have := (h.eX b e).1; have := h.bX; omega
  · rcases e with e | e
    · exact h.ds e.symm
    · have := (h.eX sh e).1; have := h.sX; omega
  · rcases e with e | e
    · have := (h.s.ge g hg).1; have := h.dX; omega
    · exact h.ef g e hg
  · rcases hs g hg with h1 | h1
    · exact h.ef g h1 hf
    · have := (h.s.ge g hf).2
      omega
  · rcases hs g hg with h1 | h1
    · exact h.en g h1
    · have := h.wX
      have := h.bX
      have := h.sX
      have := h.zb
      exact ⟨by omega, by omega, by omega⟩
end
/-- What an act comes to. -/
def Ended (w w' : World) (Z X b d sh cnt : Nat) (e : Value) (F : Nat → Prop) : Prop :=
  ∃ xs r rd wt e' F' cnt', St w' Z X b d sh cnt' e' F' xs r rd wt xs r rd wt ∧ Sof w e e' ∧ (∀ g, F' g → F g ∨ w.heap.size ≤ g) ∧ cnt' ≤ cnt + 2 ∧ Chg (fun k => k = b ∨ k = d ∨ k = sh ∨ e.ownBlock = some k ∨ F k) w w'
/-- The act's own box. -/
structure Ab (w : World) (g : Nat) (K wh Nn : Int) (dp : Option Addr) (dl dc : Nat) : Prop where
  c0 : w.cell? ⟨g, 0, .none⟩ = some (.int .i64 K)
  c1 : w.cell? ⟨g, 1, .none⟩ = some (.int .i64 wh)
  c2 : w.cell? ⟨g, 2, .none⟩ = some (.slice dp dl dc)
  c3 : w.cell? ⟨g, 3, .none⟩ = some (.int .i64 Nn)
theorem ab_new (w : World) (K wh Nn : Int) (dp : Option Addr) (dl dc : Nat) : Ab (w.alloc (.cells #[.int .i64 K, .int .i64 wh, .slice dp dl dc, .int .i64 Nn] 50)) w.heap.size K wh Nn dp dl dc := by
  constructor <;> rw [World.cell?_alloc_at _ _ _ _ rfl] <;> rfl
theorem Ab.keep {S : Nat → Prop} {w v : World} {g : Nat} {K wh Nn : Int} {dp : Option Addr} {dl dc : Nat} (h : Ab w g K wh Nn dp dl dc) (t : Chg S w v) (hg : ¬ S g) : Ab v g K wh Nn dp dl dc :=
  ⟨(t.cell (p := ⟨g, 0, .none⟩) (lt_cell h.c0) hg).trans h.c0, (t.cell (p := ⟨g, 1, .none⟩) (lt_cell h.c1) hg).trans h.c1, (t.cell (p := ⟨g, 2, .none⟩) (lt_cell h.c2) hg).trans h.c2, (t.cell (p := ⟨g, 3, .none⟩) (lt_cell h.c3) hg).trans h.c3⟩
theorem Ab.below {w v : World} {g : Nat} {K wh Nn : Int} {dp : Option Addr} {dl dc : Nat} (h : Ab w g K wh Nn dp dl dc) (t : Below w.heap.size w v) : Ab v g K wh Nn dp dl dc := h.keep (S := fun _ => False) (Chg.ofBelow t) (fun h => h)
end Go.Proofs.Ytabhojfdkmeaoab
