import Derived.Test.YthopgmmodldljaaAh
namespace Go.Proofs.Ythopgmmodldljaa
open Go Go.RowKit
set_option linter.unusedVariables false
set_option linter.unusedSimpArgs false
/-- Is there a frame of this memory at an address? -/
def isF (N pa : Int) : Prop := 2147483648 ≤ pa ∧ pa % 4096 = 0 ∧ (pa - 2147483648) / 4096 < N
instance (N pa : Int) : Decidable (isF N pa) := by unfold isF; infer_instance
def frN (pa : Int) : Int := (pa - 2147483648) / 4096
theorem frameAt_any (pa N : Int) (h0 : 0 ≤ pa) (h1 : pa < 18446744073709551616) (hN : 0 ≤ N) (hN2 : N ≤ 4096) (w : World) : Calls Try.prog 67 #[.int .u64 pa, .int .i64 N] w fun e w' => e = .returned (.tuple #[.int .i64 (if isF N pa then frN pa else 0), .bool (decide (isF N pa))]) ∧ w' = w := by
  have ht : pa.tmod 4096 = pa % 4096 := Int.tmod_eq_emod_of_nonneg h0
  have hw : IntKind.u64.wrap N = N := by rw [IntKind.wrap_u64]; omega
  by_cases a : pa < 2147483648
  · have hn : ¬ isF N pa := fun h => by have := h.1; omega
    rw [if_neg hn]
    have HN : Hid (decide (isF N pa) = false) := decide_eq_false hn
    obtain ⟨v, hv⟩ : ∃ v, v = IntKind.u64.wrap (pa - 2147483648) := ⟨_, rfl⟩
    have v0 : 0 ≤ v := by rw [hv, IntKind.wrap_u64]; omega
    have hd : v.tdiv 4096 = v / 4096 := Int.tdiv_eq_ediv_of_nonneg v0
    have hv' := hv.symm
    clear hv hn
    go_enter Try.func67, Try.ntmps67
    go_wp2
    go_ret2
    exact ⟨by rw [HN.out]; rfl, rfl⟩
  · have hv : IntKind.u64.wrap (pa - 2147483648) = pa - 2147483648 := by rw [IntKind.wrap_u64]; omega
    have hd : (pa - 2147483648).tdiv 4096 = (pa - 2147483648) / 4096 := Int.tdiv_eq_ediv_of_nonneg (by omega)
    obtain ⟨r, hr⟩ : ∃ r, r = pa % 4096 := ⟨_, rfl⟩
    obtain ⟨m, hm⟩ : ∃ m, m = (pa - 2147483648) / 4096 := ⟨_, rfl⟩
    have m0 : 0 ≤ m := by omega
    have m1 : m ≤ 4503599627370496 := by omega
    have hwm : IntKind.i64.wrap m = m := by rw [IntKind.wrap_i64]; omega
    have HR : Hid (r = pa % 4096 ∧ m = (pa - 2147483648) / 4096) := ⟨hr, hm⟩
    rw [← hr] at ht
    rw [← hm] at hd
    clear hr hm
    by_cases b : r = 0
    · have b' : (r == 0) = true := by simpa using b
      have HB0 : Hid (r = 0) := b
      clear b
      by_cases c : m < N
      · have c' : ¬ N ≤ m := by omega
        have hi : isF N pa := ⟨by omega, by rw [← HR.out.1]; exact HB0.out, by rw [← HR.out.2]; exact c⟩
        rw [if_pos hi]
        have HN : Hid (decide (isF N pa) = true ∧ frN pa = m) := ⟨decide_eq_true hi, HR.out.2.symm⟩
        clear hi
        go_enter Try.func67, Try.ntmps67
        go_wp2
        go_ret2
        exact ⟨by rw [HN.out.1, HN.out.2]; rfl, rfl⟩
      · have c' : N ≤ m := by omega
        have hn : ¬ isF N pa := fun h => by have h3 := h.2.2; rw [← HR.out.2] at h3; omega
        rw [if_neg hn]
        have HN : Hid (decide (isF N pa) = false) := decide_eq_false hn
        clear hn
        go_enter Try.func67, Try.ntmps67
        go_wp2
        go_ret2
        exact ⟨by rw [HN.out]; rfl, rfl⟩
    · have b' : (r == 0) = false := by simpa using b
      have b2 : (r != 0) = true := by simpa using b
      have hn : ¬ isF N pa := fun h => by have h3 := h.2.1; rw [← HR.out.1] at h3; exact b h3
      rw [if_neg hn]
      have HN : Hid (decide (isF N pa) = false) := decide_eq_false hn
      clear hn b
      go_enter Try.func67, Try.ntmps67
      go_wp2
      go_ret2
      exact ⟨by rw [HN.out]; rfl, rfl⟩
end Go.Proofs.Ythopgmmodldljaa
