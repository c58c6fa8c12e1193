import Derived.Test.YtloldhcljdmofaaDoorPg5
namespace Go.Proofs.YtloldhcljdmofaaDoor
open Go.RowKit
set_option linter.unusedVariables false
set_option linter.unusedSimpArgs false
/-- A program as it is handed in. -/
structure Arg (w : World) (q : Option Addr) (m c : Nat) (S : Nat → Sr) (D : Nat → List Int) : Prop where
  cs : m = 0 ∨ ∃ b o, q = some ⟨b, o, .none⟩ ∧ Sgs w b o S m
  mc : m ≤ c ∧ c ≤ 9223372036854775807
  dat : ∀ i, i < m → Byt w (S i).q (S i).n (S i).c (D i)
  nb : ∀ i, i < m → (S i).n < 140737488355000
  va : ∀ i, i < m → 0 ≤ (S i).va ∧ (S i).va < 18446744073709551616
  fl : ∀ i, i < m → 0 ≤ (S i).fl ∧ (S i).fl < 4294967296
  mem : ∀ i, i < m → 0 ≤ (S i).mem ∧ (S i).mem < 18446744073709551616
  by_ : ∀ i, i < m → ∀ x ∈ D i, 0 ≤ x ∧ x < 256
theorem Arg.below {w w' : World} {q : Option Addr} {m c : Nat} {S : Nat → Sr} {D : Nat → List Int} (h : Arg w q m c S D) (k : Below w.heap.size w w') : Arg w' q m c S D := by
  refine ⟨?_, h.mc, fun i hi => ?_, h.nb, h.va, h.fl, h.mem, h.by_⟩
  · rcases h.cs with h0 | ⟨b, o, hq, hs⟩
    · exact .inl h0
    · exact .inr ⟨b, o, hq, hs.below k⟩
  · by_cases hn : 0 < (S i).n
    · exact byt_keep (h.dat i hi) k (byt_lt (h.dat i hi) hn)
    · have := h.dat i hi
      exact ⟨this.1, this.2.1, this.2.2.1, .inl (by omega)⟩
theorem Arg.seg {w : World} {q : Option Addr} {m c : Nat} {S : Nat → Sr} {D : Nat → List Int} (h : Arg w q m c S D) {i : Nat} (hi : i < m) : ∃ b o, q = some ⟨b, o, .none⟩ ∧ w.cell? ⟨b, o + i * 4, .none⟩ = some (.int .u64 (S i).va) ∧ w.cell? ⟨b, o + i * 4 + 1, .none⟩ = some (.int .u32 (S i).fl) ∧ w.cell? ⟨b, o + i * 4 + 2, .none⟩ = some (.slice (S i).q (S i).n (S i).c) ∧ w.cell? ⟨b, o + i * 4 + 3, .none⟩ = some (.int .u64 (S i).mem) := by
  rcases h.cs with h0 | ⟨b, o, hq, hs⟩
  · omega
  · exact ⟨b, o, hq, hs.c0 i hi, hs.c1 i hi, hs.c2 i hi, hs.c3 i hi⟩
theorem sum_nb (S : Nat → Sr) (m : Nat) (hn : ∀ i, i < m → (S i).n < 140737488355000) : ∀ i, i ≤ m → sumN S i ≤ i * 140737488355000
  | 0, _ => by simp [sumN]
  | i + 1, h => by
    have := sum_nb S m hn i (by omega)
    have := hn i (by omega)
    simp only [sumN]
    omega
set_option maxHeartbeats 2000000 in
theorem few_any {w : World} {q : Option Addr} {m c : Nat} {S : Nat → Sr} {D : Nat → List Int} (h : Arg w q m c S D) (en : Int) :
    Calls Tryd.prog 5 #[.agg #[.int .u64 en, .slice q m c]] w fun e w' => e = .returned (.bool (decide (sumN S m ≤ 400000 ∧ m ≤ 1000))) ∧ Below w.heap.size w w' := by
  have HG : Hid (Arg w q m c S D) := h
  have HB : Hid (Below w.heap.size w (w.alloc (.cells #[.int .u64 en, .slice q m c] 25))) := (Below.refl _ _).alloc (Nat.le_refl _) _
  have q1 : (w.alloc (.cells #[.int .u64 en, .slice q m c] 25)).cell? ⟨w.heap.size, 1, .none⟩ = some (.slice q m c) := World.cell?_alloc_at _ _ _ _ rfl
  have hc := h.mc
  clear h
  go_enter Tryd.func5, Tryd.ntmps5
  go_upto_region 1 with fail
  generalize (w.alloc (.cells #[.int .u64 en, .slice q m c] 25)) = W1 at *
  go_upto_region 2 with fail
  by_cases hm : m ≤ 1000
  · have hmi : (m : Int) ≤ 1000 := by omega
    go_wp2_with fail
    go_loopw [3, 4] (fun a k wr => ∃ i : Nat, i ≤ m ∧ k = .int .i64 i ∧ a = .int .i64 (sumN S i) ∧ wr = W1) (fun _ k _ => (m - intOf k).toNat)
    case atStart => exact ⟨0, by omega, rfl, rfl, rfl⟩
    case round =>
      obtain ⟨i, hi, rfl, rfl, rfl⟩ := hrel
      have hs := sum_nb S m HG.out.nb i hi
      by_cases hlt : i < m
      · have g0 : (i : Int) < m := by omega
        obtain ⟨b, o, rfl, a0, a1, a2, a3⟩ := (HG.out.below HB.out).seg hlt
        have hb := HG.out.nb i hlt
        have hs2 : sumN S (i + 1) = sumN S i + (S i).n := rfl
        clear a0 a1 a3
        go_wp2_with fail
        exact ⟨⟨i + 1, by omega, by simp, by rw [hs2]; congr 1, trivial⟩, by simp [intOf]; omega⟩
      · have he : i = m := by omega
        have hn9 : ¬ ((i : Int) < m) := by omega
        subst he
        by_cases hs4 : sumN S i ≤ 400000
        · have hs5 : (sumN S i : Int) ≤ 400000 := by omega
          go_wp2_with fail
          go_ret
          exact ⟨by simp [hs4, hm], HB.out⟩
        · have hs5 : ¬ (sumN S i : Int) ≤ 400000 := by omega
          go_wp2_with fail
          go_ret
          exact ⟨by simp [hs4, hm], HB.out⟩
  · have hmi : ¬ (m : Int) ≤ 1000 := by omega
    go_wp2_with fail
    go_loopw [3, 4] (fun a k wr => ∃ i : Nat, i ≤ m ∧ k = .int .i64 i ∧ (∃ x : Int, a = .int .i64 x) ∧ wr = W1) (fun _ k _ => (m - intOf k).toNat)
    case atStart => exact ⟨0, by omega, rfl, ⟨_, rfl⟩, rfl⟩
    case round =>
      obtain ⟨i, hi, rfl, ⟨y, rfl⟩, rfl⟩ := hrel
      by_cases hlt : i < m
      · have g0 : (i : Int) < m := by omega
        obtain ⟨b, o, rfl, a0, a1, a2, a3⟩ := (HG.out.below HB.out).seg hlt
        have hb := HG.out.nb i hlt
        clear a0 a1 a3
        go_wp2_with fail
        exact ⟨⟨i + 1, by omega, by simp, ⟨_, rfl⟩, trivial⟩, by simp [intOf]; omega⟩
      · have he : i = m := by omega
        have hn9 : ¬ ((i : Int) < m) := by omega
        subst he
        by_cases hs4 : y ≤ 400000
        · go_wp2_with fail
          go_ret
          exact ⟨by simp [hm]; omega, HB.out⟩
        · go_wp2_with fail
          go_ret
          exact ⟨by simp [hm], HB.out⟩
end Go.Proofs.YtloldhcljdmofaaDoor
