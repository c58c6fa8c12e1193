import Derived.Test.YtnghcadhilfgnaaST
namespace Go.Proofs.Ytnghcadhilfgnaa
open Go.RowKit
set_option linter.unusedVariables false
set_option linter.unusedSimpArgs false
section
variable {Z : Nat} {x p b m q hb lb N : Nat} {fb : Nat → Nat} {B : Nat → Int} {L : List Nat} {w : World}
theorem step_any (h : Pq Z w x p b m q hb fb lb N B L B L) (kind pa n v : Int) (sd : Option Addr) (ln cd : Nat) (xs : List Int) (hd : Byt w sd ln cd xs) (hln : ln < 140737488355000) (hxs : ∀ u ∈ xs, 0 ≤ u ∧ u < 256) (hsd : ln ≠ 0 → ∀ g o, sd = some ⟨g, o, .none⟩ → g < Z) (hp : 0 ≤ pa ∧ pa < 18446744073709551616) (hn : -9223372036854775808 ≤ n ∧ n ≤ 9223372036854775807) (hv : 0 ≤ v ∧ v < 18446744073709551616) :
    Calls Try.prog 5 #[.pointer (some ⟨x, 0, .none⟩), .agg #[.int .i64 kind, .int .u64 pa, .int .i64 n, .int .u64 v, .slice sd ln cd]] w fun e w' => StepP Z w x N e w' := by
  by_cases e1 : kind = 1
  · subst e1; exact step_alloc h pa n v _ hp hn hv
  by_cases e2 : kind = 2
  · subst e2; exact step_free h pa n v _ hp hn hv
  by_cases e3 : kind = 3
  · subst e3; exact step_load h pa n v _ hp hn hv
  by_cases e4 : kind = 4
  · subst e4; exact step_store h pa n v _ hp hn hv
  by_cases e5 : kind = 5
  · subst e5; exact step_read h pa n v _ hp hn hv
  by_cases e6 : kind = 6
  · subst e6; exact step_write h pa n v sd ln cd xs hd hln hxs hsd hp hn hv
  by_cases e7 : kind = 7
  · subst e7; exact step_raw h pa n v _ hp hn hv
  by_cases e8 : kind = 8
  · subst e8; exact step_look h pa n v _ hp hn hv
  by_cases e9 : kind = 9
  · subst e9; exact step_list h pa n v _ hp hn hv
  by_cases e10 : kind = 10
  · subst e10; exact step_image h pa n v _ hp hn hv
  by_cases e11 : kind = 11
  · subst e11; exact step_again h pa n v _ hp hn hv
  by_cases e12 : kind = 12
  · subst e12; exact step_ranged h pa n v _ hp hn hv
  exact step_none h kind pa n v _ hp hn hv ⟨e1, e2, e3, e4, e5, e6, e7, e8, e9, e10, e11, e12⟩
/-- The script, as it is handed in. -/
structure ArgO (w : World) (sq : Option Addr) (sl sc : Nat) (K PA NN VV : Nat → Int) (SD : Nat → Option Addr) (LN CD : Nat → Nat) (XS : Nat → List Int) : Prop where
  row : sl = 0 ∨ ∃ g o, sq = some ⟨g, o, .none⟩ ∧ g < w.heap.size ∧ ∀ i, i < sl → w.cell? ⟨g, o + i * 5, .none⟩ = some (.int .i64 (K i)) ∧ w.cell? ⟨g, o + i * 5 + 1, .none⟩ = some (.int .u64 (PA i)) ∧ w.cell? ⟨g, o + i * 5 + 2, .none⟩ = some (.int .i64 (NN i)) ∧ w.cell? ⟨g, o + i * 5 + 3, .none⟩ = some (.int .u64 (VV i)) ∧ w.cell? ⟨g, o + i * 5 + 4, .none⟩ = some (.slice (SD i) (LN i) (CD i))
  cap : sl ≤ sc ∧ sc ≤ 9223372036854775807
  pb : ∀ i, i < sl → 0 ≤ PA i ∧ PA i < 18446744073709551616
  nb : ∀ i, i < sl → -9223372036854775808 ≤ NN i ∧ NN i ≤ 9223372036854775807
  vb : ∀ i, i < sl → 0 ≤ VV i ∧ VV i < 18446744073709551616
  dt : ∀ i, i < sl → Byt w (SD i) (LN i) (CD i) (XS i)
  db : ∀ i, i < sl → ∀ u ∈ XS i, 0 ≤ u ∧ u < 256
  dl : ∀ i, i < sl → LN i < 140737488355000
end
end Go.Proofs.Ytnghcadhilfgnaa
