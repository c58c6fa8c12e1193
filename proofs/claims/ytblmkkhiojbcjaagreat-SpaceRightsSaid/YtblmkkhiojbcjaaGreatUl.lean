import Derived.Test.YtblmkkhiojbcjaaGreatFSame
import Derived.Test.YtblmkkhiojbcjaaGreatFFreeW
import Derived.Test.YtblmkkhiojbcjaaGreatSMapL
import Derived.Test.YtblmkkhiojbcjaaGreatTb
namespace Go.Proofs.YtblmkkhiojbcjaaGreat
open Go Go.RowKit Fz
attribute [local go_sem] Oper.semAt_some
set_option linter.unusedVariables false
set_option linter.unusedSimpArgs false
def atv (R : Nat → Int) (n i : Nat) : Int := if i < n then R i else 0
def pgV (a : Int) : Int := a % 3 * 1073741824 + a / 256 % 3 * 2097152 + a / 65536 % 4 * 4096
def pgA (b : Int) : Int := 2147483648 + b % 5000 * 4096
theorem pgV_b (a : Int) : 0 ≤ pgV a ∧ pgV a % 4096 = 0 ∧ pgV a < 274877906944 := by unfold pgV; omega
theorem pgA_b (b : Int) : 0 ≤ pgA b ∧ pgA b % 4096 = 0 ∧ pgA b < 72057594037927936 := by unfold pgA; omega
end Go.Proofs.YtblmkkhiojbcjaaGreat
