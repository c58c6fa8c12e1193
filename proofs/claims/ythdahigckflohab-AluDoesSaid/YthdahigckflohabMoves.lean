import Derived.Test.YthdahigckflohabHolds
namespace Go.Proofs.Ythdahigckflohab
open Go.RowKit
set_option linter.unusedVariables false
set_option linter.unusedSimpArgs false
theorem eqGuard_func (x y : Operand) (t : TypeId) (f : Nat) (c d : Array Value) (v : Value) : eqGuard .eql t x y (.func (.func f) c d) v = pure () := by rfl
theorem func55 (f : Nat) (c d : Array Value) (w : World) : (binOp .eql 100 (.func (.func f) c d) .nilFunc).run Try.prog w = .ok (.bool false) w := by kernel_rfl
theorem nil55 (w : World) : (binOp .eql 100 .nilFunc .nilFunc).run Try.prog w = .ok (.bool true) w := by kernel_rfl
attribute [local go_sem] run_store_func run_store_nilFunc eqGuard_func func55 nil55
/-- What a call's error is: none (r is 0), or a fault of this layer. -/
def ErrIn (w : World) (v : Value) (r : Int) : Prop := (r = 0 ∧ v = .nilIface) ∨ (r ≠ 0 ∧ FaultIn w 0 v 0 r)
/-- The document's: likewise. -/
def RefIn (w : World) (p : Option Addr) (l c : Nat) (r : Int) : Prop := (r = 0 ∧ p = .none ∧ l = 0 ∧ c = 0) ∨ (r ≠ 0 ∧ ∃ B, p = some ⟨B, 0, .none⟩ ∧ l = 1 ∧ c = 1 ∧ B < w.heap.size ∧ w.cell? ⟨B, 0, .none⟩ = some (.string aluB) ∧ w.cell? ⟨B, 1, .none⟩ = some (.int .i64 0))
theorem errIn_keep {W w' : World} {v : Value} {r : Int} (h : Below W.heap.size W w') (k : ErrIn W v r) : ErrIn w' v r := by
  rcases k with k | ⟨k, hF⟩
  · exact .inl k
  · exact .inr ⟨k, faultIn_keep h hF⟩
theorem refIn_keep {W w' : World} {p : Option Addr} {l c : Nat} {r : Int} (h : Below W.heap.size W w') (k : RefIn W p l c r) : RefIn w' p l c r := by
  rcases k with k | ⟨k, B, h1, h2, h3, hB, c0, c1⟩
  · exact .inl k
  · exact .inr ⟨k, B, h1, h2, h3, Nat.lt_of_lt_of_le hB h.size, (h.cell hB).trans c0, (h.cell hB).trans c1⟩
theorem is_agree (v : Value) (p : Option Addr) (l c : Nat) (r : Int) (w : World) (h : ErrIn w v r) (k : RefIn w p l c r) :
    Calls Try.prog 16 #[v, .agg #[.slice p l c, .int .i64 r]] w fun e w' => e = .returned (.bool true) ∧ Below w.heap.size w w' := by
  rcases h with ⟨rfl, rfl⟩ | ⟨hr, hF⟩
  · rcases k with ⟨_, rfl, rfl, rfl⟩ | ⟨hr, _⟩
    · exact is_none w
    · exact absurd rfl hr
  · rcases k with ⟨h0, _⟩ | ⟨_, B, rfl, rfl, rfl, hB, c0, c1⟩
    · exact absurd h0 hr
    · exact is_fault v B 1 0 r w hF hr hB c0 c1
def exv (k : Nat) (v : Int) : Int := [wid 256 v, wid 65536 v, wid 4294967296 v, wid 18446744073709551616 v, v % 256, v % 65536, v % 4294967296].getD k 0
def kpv (k : Nat) (v : Int) : Int := [v % 256, v % 65536, v % 4294967296, v % 18446744073709551616].getD k 0
set_option maxRecDepth 100000 in
theorem enters38 : Enters 79 := fun args w => by kernel_rfl
set_option maxRecDepth 100000 in
theorem enters39 : Enters 76 := fun args w => by kernel_rfl
theorem acc_miss (op : Int) (h : op < 11 ∨ 21 < op) : acc op = #[.int .i64 0, .int .i64 0, .nilFunc, .nilFunc] :=
  acc_out op (by omega) (by omega) (by omega) (by omega) (by omega) (by omega) (by omega) (by omega) (by omega) (by omega) (by omega)
end Go.Proofs.Ythdahigckflohab
