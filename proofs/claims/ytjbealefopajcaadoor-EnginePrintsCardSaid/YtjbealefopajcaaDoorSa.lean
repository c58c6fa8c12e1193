import Derived.Test.YtjbealefopajcaaDoorRg
import Derived.Test.YtjbealefopajcaaDoorGf
namespace Go.Proofs.YtjbealefopajcaaDoor
open Go Go.RowKit
set_option linter.unusedVariables false
set_option linter.unusedSimpArgs false
/-! A script as plain data. -/
structure Fl where
  path : ByteArray
  ty : Int
  mj : Int
  mn : Int
  data : List Int
def Fl.l (x : Fl) (dv : Value) : List Value := [.string x.path, .int .i64 x.ty, .int .i16 x.mj, .int .i16 x.mn, dv]
structure Ip where
  tm : Int
  data : List Int
def Ip.l (x : Ip) (dv : Value) : List Value := [.int .i64 x.tm, dv]
structure Sc where
  fr : Int
  files : List Fl
  init : ByteArray
  bu : Int
  ticks : List Int
  ins : List Ip
def scL (S : Sc) (fv tv iv : Value) : List Value := [.int .i64 S.fr, fv, .string S.init, .int .i64 S.bu, tv, iv]
abbrev Nt (w : World) (X : Nat) (v : Value) (l : List Int) := Sl w X 1 (qI .i64) v l
abbrev Fls (w : World) (X : Nat) (v : Value) (l : List Fl) := Sl w X 5 (fun x cs => ∃ dv, cs = x.l dv ∧ Bt w X dv x.data) v l
abbrev Ips (w : World) (X : Nat) (v : Value) (l : List Ip) := Sl w X 2 (fun x cs => ∃ dv, cs = x.l dv ∧ Bt w X dv x.data) v l
/-- A script in a world: its three slices read as its lists. -/
structure ScW (w : World) (X : Nat) (fv tv iv : Value) (S : Sc) : Prop where
  fs : Fls w X fv S.files
  ts : Nt w X tv S.ticks
  is : Ips w X iv S.ins
theorem Fls.keep {w w' : World} {X X' : Nat} {v : Value} {l : List Fl} (h : Fls w X v l) (hX : X ≤ X') (hb : Below X w w') : Fls w' X' v l := Sl.mono h hX hb (fun _ _ _ ⟨bv, e, q⟩ => ⟨bv, e, Wd.keep q hX hb⟩)
theorem Ips.keep {w w' : World} {X X' : Nat} {v : Value} {l : List Ip} (h : Ips w X v l) (hX : X ≤ X') (hb : Below X w w') : Ips w' X' v l := Sl.mono h hX hb (fun _ _ _ ⟨bv, e, q⟩ => ⟨bv, e, Wd.keep q hX hb⟩)
theorem ScW.keep {w w' : World} {X X' : Nat} {fv tv iv : Value} {S : Sc} (h : ScW w X fv tv iv S) (hX : X ≤ X') (hb : Below X w w') : ScW w' X' fv tv iv S := ⟨Fls.keep h.fs hX hb, Wd.keep h.ts hX hb, Ips.keep h.is hX hb⟩
def i64b (x : Int) : Prop := -9223372036854775808 ≤ x ∧ x ≤ 9223372036854775807
def i16b (x : Int) : Prop := -32768 ≤ x ∧ x ≤ 32767
/-- What any script keeps. -/
structure ScB (S : Sc) : Prop where
  fr : i64b S.fr
  bu : i64b S.bu
  init : S.init.size ≤ 140737488351232
  nf : S.files.length ≤ 140737488351232
  nt : S.ticks.length ≤ 140737488351232
  ni : S.ins.length ≤ 140737488351232
  fs : ∀ f ∈ S.files, f.path.size ≤ 140737488351232 ∧ i64b f.ty ∧ i16b f.mj ∧ i16b f.mn ∧ f.data.length ≤ 140737488351232 ∧ ∀ x ∈ f.data, 0 ≤ x ∧ x < 256
  ts : ∀ t ∈ S.ticks, i64b t
  is : ∀ f ∈ S.ins, i64b f.tm ∧ f.data.length ≤ 140737488351232 ∧ ∀ x ∈ f.data, 0 ≤ x ∧ x < 256
def sumN : List Nat → Nat
  | [] => 0
  | x :: l => x + sumN l
theorem sumN_app (l m : List Nat) : sumN (l ++ m) = sumN l + sumN m := by
  induction l with
  | nil => simp [sumN]
  | cons x l ih => simp only [List.cons_append, sumN, ih]; omega
theorem sumN_take (l : List Nat) (i : Nat) : sumN (l.take i) ≤ sumN l := by
  have := congrArg sumN (List.take_append_drop i l)
  rw [sumN_app] at this
  omega
theorem sumN_bd (M : Nat) : ∀ (l : List Nat), (∀ x ∈ l, x ≤ M) → sumN l ≤ l.length * M
  | [], _ => by simp [sumN]
  | x :: l, h => by
    have h1 := h x (by simp)
    have h2 := sumN_bd M l (fun y hy => h y (by simp [hy]))
    simp only [sumN, List.length_cons, Nat.add_mul]
    omega
theorem sumN_mem {l : List Nat} {x : Nat} (h : x ∈ l) : x ≤ sumN l := by
  induction l with
  | nil => cases h
  | cons y l ih =>
    simp only [sumN]
    rcases List.mem_cons.1 h with rfl | h
    · omega
    · have := ih h; omega
def fSz (f : Fl) : Nat := f.path.size + f.data.length
def iSz (f : Ip) : Nat := f.data.length
def fewN (S : Sc) : Nat := S.init.size + S.ticks.length + sumN (S.files.map fSz) + sumN (S.ins.map iSz)
theorem take_sum {α : Type} {l : List α} {i : Nat} {x : α} (g : α → Nat) (h : l[i]? = some x) : sumN ((l.take (i + 1)).map g) = sumN ((l.take i).map g) + g x := by
  rw [List.take_add_one, h, List.map_append, sumN_app]
  simp [sumN]
end Go.Proofs.YtjbealefopajcaaDoor
