import Derived.Test.YthdahigckflohabZRefR
namespace Go.Proofs.Ythdahigckflohab
open Go.RowKit
set_option linter.unusedVariables false
theorem wrap_u64_eq (n : Int) : IntKind.u64.wrap n = n % 18446744073709551616 := by simp [IntKind.wrap, IntKind.bits, IntKind.signed]
end Go.Proofs.Ythdahigckflohab
