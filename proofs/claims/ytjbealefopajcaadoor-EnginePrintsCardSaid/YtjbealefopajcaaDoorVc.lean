import Derived.Test.YtjbealefopajcaaDoorVb
namespace Go.Proofs.YtjbealefopajcaaDoor
open Go Go.RowKit Rg
set_option linter.unusedVariables false
set_option linter.unusedSimpArgs false
/-! The text of a script. -/
def itI (n : Int) : List Int := bsI (itS n)
def hdT (S : Sc) : List Int := bsI ⟨#[102, 114, 97, 109, 101, 115, 32]⟩ ++ itI S.fr ++ bsI ⟨#[10, 98, 117, 100, 103, 101, 116, 32]⟩ ++ itI S.bu ++ bsI ⟨#[10, 105, 110, 105, 116, 32]⟩ ++ qt (bsI S.init) ++ [10]
def flT (f : Fl) : List Int :=
  if f.ty = 1 then bsI ⟨#[100, 105, 114, 32]⟩ ++ qt (bsI f.path) ++ [10]
  else if f.ty = 2 then bsI ⟨#[98, 121, 116, 101, 115, 32]⟩ ++ qt (bsI f.path) ++ [10] ++ (blkP f.data f.data.length ++ [101, 110, 100, 10])
  else if f.ty = 3 then bsI ⟨#[100, 101, 118, 32]⟩ ++ qt (bsI f.path) ++ [32] ++ itI f.mj ++ [32] ++ itI f.mn ++ [10]
  else []
def tkP (ts : List Int) : Nat → List Int
  | 0 => []
  | i + 1 => tkP ts i ++ (if i % 16 = 0 then [116, 105, 99, 107] else []) ++ ([32] ++ itI (ts.getD i 0)) ++ (if i % 16 = 15 ∨ i + 1 = ts.length then [10] else [])
def inT (f : Ip) : List Int := bsI ⟨#[105, 110, 112, 117, 116, 32]⟩ ++ itI f.tm ++ [32] ++ qt f.data ++ [10]
def txT (S : Sc) : List Int := hdT S ++ S.files.flatMap flT ++ tkP S.ticks S.ticks.length ++ S.ins.flatMap inT
/-- What is told of a script: the text, a fault's place and number. -/
def prS (S : Sc) : ByteArray × Int × Int :=
  match wrongF S with
  | some k => (⟨#[]⟩, (k : Int), 366)
  | none => if 1048576 < lenS S then (⟨#[]⟩, 0, 360) else if 1048576 < (txT S).length then (⟨#[]⟩, 0, 360) else (toB (txT S), 0, 0)
def PrQ (S : Sc) (w : World) (e : Ending) (w' : World) : Prop := ∃ g, e = .returned (.tuple #[.string (prS S).1, g]) ∧ RefR w' g (prS S).2.1 (prS S).2.2 ∧ Below w.heap.size w w'
theorem nd_le : ∀ (k u : Nat), u < 10 ^ (k + 1) → Lib.nDigits u ≤ k + 1
  | 0, u, h => by rw [Lib.nDigits_small (by simpa using h)]; omega
  | k + 1, u, h => by
    by_cases h1 : u < 10
    · rw [Lib.nDigits_small h1]; omega
    · have := nd_le k (u / 10) (by rw [Nat.pow_succ] at h; omega)
      rw [Lib.nDigits_big h1]
      omega
theorem itI_len (n : Int) (h : i64b n) : (itI n).length ≤ 20 := by
  have h1 : (itI n).length = (Lib.itoa n).length := by unfold itI itS; rw [bsI_mk, List.length_map]
  rw [h1]
  unfold Lib.itoa
  have e : (10 : Nat) ^ (18 + 1) = 10000000000000000000 := by decide
  split
  · rw [List.length_cons, Lib.decDigits_length]
    have := nd_le 18 n.natAbs (by rw [e]; have := h.1; have := h.2; omega)
    omega
  · rw [Lib.decDigits_length]
    have := nd_le 18 n.toNat (by rw [e]; have := h.1; have := h.2; omega)
    omega
theorem itS_size (n : Int) (h : i64b n) : (itS n).size ≤ 20 := by
  have := itI_len n h
  unfold itI at this
  rwa [bsI_len] at this
theorem qt_len (ds : List Int) : (qt ds).length ≤ 4 * ds.length + 2 := by
  have := flat_len4 ds
  unfold qt
  rw [List.length_append, List.length_append, List.length_singleton]
  omega
end Go.Proofs.YtjbealefopajcaaDoor
