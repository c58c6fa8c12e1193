import Derived.Test.YtblmkkhiojbcjaaGreatBad
import Derived.Test.YtblmkkhiojbcjaaGreatSKind
namespace Go.Proofs.YtblmkkhiojbcjaaGreat
open Go.RowKit
set_option linter.unusedVariables false
set_option linter.unusedSimpArgs false
section
variable {w : World} {p b m N : Nat} {B : Nat → Int} {L : List Nat}
theorem hdL_in {f : Nat} (hf : f < N) : hdL N L (2147483648 + f * 4096) = !decide (f ∈ L) := by
  have h := hdL_addr N L f hf
  exact h
/-- Load of eight bytes anywhere. -/
theorem load_any (h : Ram w p b m N B L) (pa : Int) (hp : 0 ≤ pa ∧ pa < 18446744073709551616) : Calls Tryz.prog 118 #[.pointer (some ⟨p, 0, .none⟩), .int .u64 pa, .int .i64 8] w fun e w' => (∃ x ok, e = .returned (.tuple #[.int .u64 x, .bool ok]) ∧ 0 ≤ x ∧ x < 18446744073709551616) ∧ Below w.heap.size w w' := by
  have n2 := h.mem.n2
  by_cases ho : 2147483648 ≤ pa ∧ pa - 2147483648 + 8 ≤ 4096 * N
  · obtain ⟨o, rfl⟩ : ∃ o : Nat, pa = 2147483648 + o := ⟨(pa - 2147483648).toNat, by omega⟩
    by_cases hh : ∀ f : Nat, o / 4096 ≤ f → f * 4096 < o + 8 → hdL N L (2147483648 + f * 4096) = true
    · refine (load_ok h.mem o 8 (by omega) (by omega) hh).mono ?_
      rintro e w' ⟨he, hb⟩
      have nb := num_bd B h.mem.bb o 8
      exact ⟨⟨_, _, he, nb.1, by have := nb.2; simpa using this⟩, hb⟩
    · simp only [Classical.not_forall] at hh
      obtain ⟨f, h1, h2, h3⟩ := hh
      have h3' : hdL N L (2147483648 + f * 4096) = false := by simpa using h3
      refine (load_no _ 8 (access_no _ 8 0 false (reach_hole h.mem o 8 (by omega) (by omega) f h1 h2 h3'))).mono ?_
      rintro e w' ⟨he, hb⟩
      exact ⟨⟨0, false, he, by omega, by omega⟩, hb⟩
  · refine (load_no pa 8 (access_no pa 8 0 false (reach_out h.mem pa 8 hp (by omega) (by omega) ho))).mono ?_
    rintro e w' ⟨he, hb⟩
    exact ⟨⟨0, false, he, by omega, by omega⟩, hb⟩
/-- Load of an entry of a held frame. -/
theorem load_held (h : Ram w p b m N B L) (i k : Nat) (hi : i < N) (hL : i ∉ L) (hk : k < 512) : Calls Tryz.prog 118 #[.pointer (some ⟨p, 0, .none⟩), .int .u64 (2147483648 + i * 4096 + k * 8), .int .i64 8] w fun e w' => e = .returned (.tuple #[.int .u64 (num B (i * 4096 + k * 8) 8), .bool true]) ∧ Below w.heap.size w w' := by
  have := load_ok h.mem (i * 4096 + k * 8) 8 (by omega) (by omega) (fun f h1 h2 => by
    obtain rfl : f = i := by omega
    rw [hdL_in hi]
    simp [hL])
  rw [show (2147483648 + ((i * 4096 + k * 8 : Nat) : Int)) = 2147483648 + i * 4096 + k * 8 by omega] at this
  exact this
/-- Where there is no held frame. -/
theorem load_free (h : Ram w p b m N B L) (nd : Int) (k : Nat) (hn : 0 ≤ nd ∧ nd < 18446744073709551616) (ha : nd % 4096 = 0) (hk : k < 512) (hno : ∀ i : Nat, i < N → i ∉ L → nd ≠ 2147483648 + i * 4096) : Calls Tryz.prog 118 #[.pointer (some ⟨p, 0, .none⟩), .int .u64 (nd + k * 8), .int .i64 8] w fun e w' => e = .returned (.tuple #[.int .u64 0, .bool false]) ∧ Below w.heap.size w w' := by
  have n2 := h.mem.n2
  by_cases ho : 2147483648 ≤ nd + k * 8 ∧ nd + k * 8 - 2147483648 + 8 ≤ 4096 * N
  · obtain ⟨i, rfl⟩ : ∃ i : Nat, nd = 2147483648 + i * 4096 := ⟨((nd - 2147483648) / 4096).toNat, by omega⟩
    have hiN : i < N := by omega
    have hiL : i ∈ L := by
      by_cases hL : i ∈ L
      · exact hL
      · exact absurd rfl (hno i hiN hL)
    have c := reach_hole h.mem (i * 4096 + k * 8) 8 (by omega) (by omega) i (by omega) (by omega) (by rw [hdL_in hiN]; simp [hiL])
    rw [show (2147483648 + ((i * 4096 + k * 8 : Nat) : Int)) = 2147483648 + i * 4096 + k * 8 by omega] at c
    exact load_no _ 8 (access_no _ 8 0 false c)
  · exact load_no _ 8 (access_no _ 8 0 false (reach_out h.mem (nd + k * 8) 8 (by omega) (by omega) (by omega) ho))
end
/-- The node that an address names: a held frame but the first. -/
def isNd (N : Nat) (L : List Nat) (nd : Int) (i : Nat) : Prop := nd = 2147483648 + i * 4096 ∧ 1 ≤ i ∧ i < N ∧ i ∉ L
end Go.Proofs.YtblmkkhiojbcjaaGreat
