import Derived.Test.YthopgmmodldljaaBd
import Derived.Test.YthopgmmodldljaaLp
import Derived.DeepKeys4
import Derived.MapViews
import Derived.WideKeyEntry
import Derived.Maps.OwnSet
namespace Go.Proofs.Ythopgmmodldljaa
open Go Go.RowKit
set_option linter.unusedVariables false
set_option linter.unusedSimpArgs false
/-! Maps whose keys are things. -/
theorem laid125 : laidOutB Try.prog = true := by kernel_rfl
theorem row125 : (125 : TypeId) < Try.prog.types.size := of_decide_eq_true (by kernel_rfl)
theorem cells125 : Try.prog.cellsOf 125 = 2 := by kernel_rfl
theorem deep125 : Try.prog.keyTypeAt (Try.prog.types.size + 1) 125 = true := by kernel_rfl
theorem wide125 : (match Try.prog.underlying 125 with | some (.array _ _) | some (.struct _) => true | _ => false) = true := by rw [Try.underlying125]
set_option maxRecDepth 100000 in
theorem klaw125 : WideMaps.KeyLaw Try.prog 125 := deep_law_laid laid125 (m := 2) (by omega) row125 (by kernel_rfl) wide125
theorem law125 : Maps.Keyed Try.prog 125 := Maps.Keyed.of_law klaw125
abbrev Th := Int × Int
def thL (t : Th) : List Value := [.int .i64 t.1, .int .i64 t.2]
def ThR (t : Th) : Prop := (Lit.int .i64 t.1).wf = true ∧ (Lit.int .i64 t.2).wf = true
def thD (t : Th) : DataW Unit := .agg [.lit (.int .i64 t.1), .lit (.int .i64 t.2)]
def thK (t : Th) : Lit := (thD t).asKey
theorem formed125 (t : Th) : (Value.agg (thL t).toArray).formed Try.prog 125 = true := by simp [Value.formed, Try.underlying125, cells125, thL]
set_option maxRecDepth 100000 in
theorem trod125 {t : Th} (h : ThR t) (w : World) : DataW.Trod (H := Unit) (fun _ => ()) Try.prog w 0 (fun _ => true) true 125 (.agg (thL t).toArray) (thD t) [] := by
  refine ⟨2, ?_⟩
  show DataW.trod (fun _ => ()) Try.prog w 0 (fun _ => true) true (1 + 1) 125 (thL t) = some (.agg [(.lit (.int .i64 t.1) : DataW Unit), .lit (.int .i64 t.2)], [] ++ [])
  have h1 : DataW.trod (fun _ => ()) Try.prog w 0 (fun _ => true) true 1 3 [.int .i64 t.1] = some (.lit (.int .i64 t.1), []) := ChangeShapes.trod_int_mk 0 Try.underlying3 h.1
  have h2 : DataW.trod (fun _ => ()) Try.prog w 0 (fun _ => true) true 1 3 [.int .i64 t.2] = some (.lit (.int .i64 t.2), []) := ChangeShapes.trod_int_mk 0 Try.underlying3 h.2
  have c3 : Try.prog.cellsOf 3 = 1 := by kernel_rfl
  refine ChangeShapes.trod_struct2_mk (cs := thL t) (y0 := (.lit (.int .i64 t.1), [])) (y1 := (.lit (.int .i64 t.2), [])) Try.underlying125 (by rw [cells125]; rfl) ?_ ?_
  · simpa [c3, thL] using h1
  · simpa [c3, thL] using h2
set_option maxRecDepth 100000 in
theorem key125 {t : Th} (h : ThR t) (w : World) : keyOf Try.prog 125 (.agg (thL t).toArray) = some (thK t) := (keyOf_asKey deep125 wide125 (formed125 t) (trod125 h w)).1
theorem thK_inj {t u : Th} (h : ThR t) (k : ThR u) (w : World) (e : thK t = thK u) : t = u := by
  have h1 := key125 h w
  have h2 := key125 k w
  rw [← e] at h2
  have := law125.inj h1 h2
  have e2 : (thL t) = thL u := by
    have := congrArg (fun v => v.cells.toList) this
    simpa [Value.cells] using this
  simp only [thL, List.cons.injEq, Value.int.injEq, true_and, and_true] at e2
  exact Prod.ext e2.1 e2.2
/-- A map from things to numbers holds just f. -/
def MapF (D : DataW Unit) (f : Th → Option Int) : Prop := ∀ t, ThR t → Maps.has D (thK t) = (f t).isSome ∧ D.atKey (thK t) (.lit (.int .i64 0)) = .lit (.int .i64 ((f t).getD 0))
structure MapT (w : World) (b n : Nat) (f : Th → Option Int) : Prop where
  own : ∃ D, w.ownsMap Try.prog 125 (plainElem Try.prog 3) b n D ∧ MapF D f
  rng : ∀ t v, f t = some v → (Lit.int .i64 v).wf = true
theorem MapF.nil : MapF (.map []) (fun _ => none) := fun t _ => ⟨rfl, rfl⟩
theorem MapF.put {D : DataW Unit} {f : Th → Option Int} (h : MapF D f) (hD : Maps.IsMap D) {t : Th} (ht : ThR t) (v : Int) (w : World) : MapF (D.put (thK t) (.lit (.int .i64 v))) (fun u => if u = t then some v else f u) := by
  intro u hu
  by_cases e : u = t
  · subst e
    simp only [if_true]
    exact ⟨Maps.has_put_same hD (law125.key (key125 hu w)) _, Maps.atKey_put_same hD (law125.key (key125 hu w)) _ _⟩
  · simp only [if_neg e]
    have hne : thK u ≠ thK t := fun h => e (thK_inj hu ht w h)
    exact ⟨(Maps.has_put_other hne _).trans (h u hu).1, (Maps.atKey_put_other hne _ _).trans (h u hu).2⟩
end Go.Proofs.Ythopgmmodldljaa
