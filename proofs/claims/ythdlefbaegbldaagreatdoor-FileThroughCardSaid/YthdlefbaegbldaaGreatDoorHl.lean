import Derived.Test.YthdlefbaegbldaaGreatDoorFa
import Derived.Lib.SlBytesRow
namespace Go.Proofs.YthdlefbaegbldaaGreatDoor
open Go.RowKit
set_option linter.unusedVariables false
set_option linter.unusedSimpArgs false
set_option maxRecDepth 100000
theorem row_two (w : World) (g : Nat) (h : w.heap[g]? = some (.cells #[.int .u8 97, .int .u8 98] 5 (0, 0))) : Byt w (some ⟨g, 0, .none⟩) 2 2 [97, 98] :=
  ⟨rfl, Nat.le_refl _, by decide, .inr ⟨g, 0, rfl, (Array.getElem?_eq_some_iff.1 h).1, fun i x hx => by
    match i, hx with
    | 0, hx => cases hx; simp [World.cell?, h]
    | 1, hx => cases hx; simp [World.cell?, h]⟩⟩
theorem row_one (w : World) (g : Nat) (h : w.heap[g]? = some (.cells #[.int .u8 97] 5 (0, 0))) : Byt w (some ⟨g, 0, .none⟩) 1 1 [97] :=
  ⟨rfl, Nat.le_refl _, by decide, .inr ⟨g, 0, rfl, (Array.getElem?_eq_some_iff.1 h).1, fun i x hx => by
    match i, hx with
    | 0, hx => cases hx; simp [World.cell?, h]⟩⟩
end Go.Proofs.YthdlefbaegbldaaGreatDoor
