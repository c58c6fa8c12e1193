import Derived.Test.YtfafinjbobmafabFld
namespace Go.Proofs.Ytfafinjbobmafab
open Go.RowKit
set_option linter.unusedVariables false
/-- The place of the first plain field that may not be. -/
def wf (s rd rs1 rs2 csr : Int) : Int :=
  if rd < 0 ∨ fRd s 4294967295 < rd then 1 else if rs1 < 0 ∨ fRs1 s 4294967295 < rs1 then 2 else if rs2 < 0 ∨ fRs2 s 4294967295 < rs2 then 3 else if csr < 0 ∨ fCsr s 4294967295 < csr then 5 else 0
end Go.Proofs.Ytfafinjbobmafab
