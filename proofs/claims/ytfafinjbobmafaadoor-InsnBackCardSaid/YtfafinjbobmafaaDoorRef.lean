import Derived.Test.YtfafinjbobmafaaDoorBare
namespace Go.Proofs.YtfafinjbobmafaaDoor
open Go.RowKit
set_option linter.unusedVariables false
attribute [local go_sem] field46_0 field46_1 field46_2     
def hRd (s : Int) : Bool := !decide (s = 6 ∨ s = 7 ∨ s = 11 ∨ s = 12)
def hRs1 (s : Int) : Bool := !decide (s = 8 ∨ s = 9 ∨ s = 11 ∨ s = 14)
def hRs2 (s : Int) : Bool := decide (s = 1 ∨ s = 6 ∨ s = 7 ∨ s = 12)
def hImm (s : Int) : Bool := !decide (s = 1 ∨ s = 11 ∨ s = 12 ∨ s = 13)
def hCsr (s : Int) : Bool := decide (s = 13 ∨ s = 14)
end Go.Proofs.YtfafinjbobmafaaDoor
