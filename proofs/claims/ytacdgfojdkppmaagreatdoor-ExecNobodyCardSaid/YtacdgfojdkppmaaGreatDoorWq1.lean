import Derived.Test.YtacdgfojdkppmaaGreatDoorLeB
import Derived.Deep.Cut
import Derived.Deep.DeepCutAuto
import Derived.Deep.CutBlock
namespace Go.Proofs.YtacdgfojdkppmaaGreatDoor
open Go.RowKit
set_option linter.unusedVariables false
set_option linter.unusedSimpArgs false
/-- A number's bytes, the low one first. -/
def nums (v : Int) (n : Nat) : List Int := (List.range n).map fun j => v / 256 ^ j % 256
theorem nums_succ (v : Int) (n : Nat) : nums v (n + 1) = nums v n ++ [v / 256 ^ n % 256] := by
  simp only [nums]
  rw [List.range_succ, List.map_append]
  rfl
theorem nums_len (v : Int) (n : Nat) : (nums v n).length = n := by simp [nums]
theorem div_step (v : Int) (i : Nat) : v / 256 ^ i / 256 = v / 256 ^ (i + 1) := by
  rw [Int.pow_succ, ← Int.ediv_ediv_of_nonneg (Int.pow_nonneg (by decide))]
theorem div_bd (v : Int) (hv : 0 ≤ v ∧ v < 18446744073709551616) (i : Nat) : 0 ≤ v / 256 ^ i ∧ v / 256 ^ i < 18446744073709551616 := by
  have hp : (0 : Int) < 256 ^ i := Int.pow_pos (by decide)
  refine ⟨Int.ediv_nonneg hv.1 (by omega), ?_⟩
  have := Int.ediv_le_self (256 ^ i) hv.1
  omega
set_option maxHeartbeats 4000000 in
set_option maxRecDepth 100000 in
theorem number_any (v : Int) (hv : 0 ≤ v ∧ v < 18446744073709551616) (n : Nat) (hn : n ≤ 100) (w : World) : Calls Tryz.prog 75 #[.int .u64 v, .int .i64 n] w (Gb (nums v n) w) := by
  obtain ⟨i3, z3, hi3, hz3, hs3, hb3, hzs3⟩ := byte_info
  have HI : Hid (Tryz.prog.info? 5 = some i3 ∧ i3.zero = some z3 ∧ i3.size = 1 ∧ i3.bytes = 1 ∧ z3.cells.size = 1) := ⟨hi3, hz3, hs3, hb3, hzs3⟩
  clear hi3 hz3 hs3 hb3 hzs3
  go_enter Tryz.func75, Tryz.ntmps75
  go_wp2_with fail
  go_loopw [0, 5, 6] (fun u b k wr => ∃ i : Nat, i ≤ n ∧ k = .int .i64 i ∧ u = .int .u64 (v / 256 ^ i) ∧ ∃ q cq, b = .slice q i cq ∧ Hid (wr.ownsRow w.heap.size 5 1 (.slice q i cq) i (by8 (nums v i)) ∧ Below w.heap.size w wr)) (fun _ _ k _ => (n - intOf k).toNat)
  case atStart => exact ⟨0, by omega, rfl, by simp, none, 0, rfl, World.ownsRow_nil _ _ _ _, Below.refl _ _⟩
  case round =>
    obtain ⟨i, hi, rfl, rfl, q, cq, rfl, HO⟩ := hrel
    by_cases hlt : i < n
    · have g0 : (i : Int) < n := by omega
      have z1 := HO.out.2.size
      have hbd := div_bd v hv i
      have hst := div_step v i
      have HN : Hid (nums v (i + 1) = nums v i ++ [v / 256 ^ i % 256]) := nums_succ v i
      have HST : Hid (v / 256 ^ i / 256 = v / 256 ^ (i + 1)) := hst
      clear hst
      generalize hy : v / 256 ^ i = y at *
      clear hy
      go_wp2_with (first | (at_builtin; refine wpList_append_own _ rfl _ _ 22 rfl w.heap.size 5 i3 z3 1 1 Tryz.underlying22 HI.out.1 HI.out.2.1 HI.out.2.2.1 HI.out.2.2.2.1 HI.out.2.2.2.2 (by decide) (.slice q i cq) i (by8 (nums v i)) rfl (HO.out.1.alloc _) ⟨wr.heap.size, 0, .none⟩ 1 1 (by8 [y % 256]) rfl rfl (le_cell1_new _ _ _) (by8_one _) ?c4 ?c5 ?c6 ?_) | fail)
      case c4 => simp only [maxLen]; omega
      case c5 => omega
      case c6 => simp only [World.size_alloc]; omega
      intro v' w2 own' grow fb
      clear fb
      obtain ⟨p', c', rfl⟩ := one_slice own'
      have HW : Hid (w2.ownsRow w.heap.size 5 1 (.slice p' (i + 1) c') (i + 1) (by8 (nums v (i + 1))) ∧ Below w.heap.size w w2) := by
        refine ⟨?_, below_append HO.out.2 _ grow z1 (own_block HO.out.1)⟩
        rw [HN.out, by8_app]
        exact own'
      clear own' grow
      go_wp2_with fail
      exact ⟨⟨i + 1, by omega, by simp, by rw [← HST.out], p', c', rfl, HW.out⟩, by simp only [intOf]; omega⟩
    · obtain rfl : i = n := by omega
      have hn9 : ¬ ((i : Int) < i) := by omega
      go_wp2_with fail
      go_ret
      refine ⟨q, cq, ?_, ?_, HO.out.2⟩
      · rw [nums_len]
        rfl
      · rw [nums_len]
        exact HO.out.1
set_option maxHeartbeats 4000000 in
set_option maxRecDepth 100000 in
theorem putQ_any {p1 p2 : Option Addr} {n1 c1 n2 c2 : Nat} {xs ys : List Int} {w : World} (h1 : Byt w p1 n1 c1 xs) (h2 : Byt w p2 n2 c2 ys) (hn1 : n1 < 2000000) (hn2 : n2 < 2000000) :
    Calls Tryz.prog 74 #[.slice p1 n1 c1, .slice p2 n2 c2] w (Gb (xs ++ ys) w) := by
  obtain ⟨hl1, k1, m1, h1⟩ := h1
  obtain ⟨hl2, k2, m2, h2⟩ := h2
  have m1 : c1 ≤ 9223372036854775807 := m1
  have m2 : c2 ≤ 9223372036854775807 := m2
  have HX : Hid (xs.length = n1) := hl1
  have HY : Hid (ys.length = n2) := hl2
  obtain ⟨i3, z3, hi3, hz3, hs3, hb3, hzs3⟩ := byte_info
  have HI : Hid (Tryz.prog.info? 5 = some i3 ∧ i3.zero = some z3 ∧ i3.size = 1 ∧ i3.bytes = 1 ∧ z3.cells.size = 1) := ⟨hi3, hz3, hs3, hb3, hzs3⟩
  clear hi3 hz3 hs3 hb3 hzs3
  have H1 : Hid (∀ i x, xs[i]? = some x → ∃ b1 o1, p1 = some ⟨b1, o1, .none⟩ ∧ b1 < w.heap.size ∧ w.cell? ⟨b1, o1 + i, .none⟩ = some (.int .u8 x)) := by
    intro i x hx
    rcases h1 with h1 | ⟨b1, o1, h2, hb, h3⟩
    · rw [List.getElem?_eq_none (by omega)] at hx
      cases hx
    · exact ⟨b1, o1, h2, hb, h3 i x hx⟩
  have H2 : Hid (∀ i x, ys[i]? = some x → ∃ b1 o1, p2 = some ⟨b1, o1, .none⟩ ∧ b1 < w.heap.size ∧ w.cell? ⟨b1, o1 + i, .none⟩ = some (.int .u8 x)) := by
    intro i x hx
    rcases h2 with h2 | ⟨b1, o1, h2, hb, h3⟩
    · rw [List.getElem?_eq_none (by omega)] at hx
      cases hx
    · exact ⟨b1, o1, h2, hb, h3 i x hx⟩
  clear h1 h2 hl1 hl2
  obtain ⟨w1, hmk, own1, gr1⟩ := run_make_own (P := Tryz.prog) w w.heap.size 22 5 i3 z3 1 Tryz.underlying22 HI.out.1 HI.out.2.1 HI.out.2.2.1 .i64 .i64 (n1 + n2) (by rw [HI.out.2.2.2.1]; omega) (by simp only [maxLen]; omega) (Nat.le_refl _)
  have hmk : (Instr.makeSlice 22 (.int .i64 0) (.int .i64 ((n1 : Int) + n2))).run Tryz.prog w = .ok (.slice (some ⟨w.heap.size, 0, .none⟩) 0 (n1 + n2)) w1 := by
    have e : ((n1 + n2 : Nat) : Int) = (n1 : Int) + n2 := by omega
    rw [e] at hmk
    exact hmk
  have b1 : Below w.heap.size w w1 := (Below.refl _ _).grown gr1 (Nat.le_refl _) (fun k hk => by cases hk)
  have HO1 : Hid (w1.ownsRow w.heap.size 5 1 (.slice (some ⟨w.heap.size, 0, .none⟩) 0 (n1 + n2)) 0 [] ∧ Below w.heap.size w w1) := ⟨own1, b1⟩
  clear own1 gr1 b1
  go_enter Tryz.func74, Tryz.ntmps74
  go_upto_region 2 with fail
  clear hmk
  go_wp2_with fail
  go_loopw [5, 6] (fun v k wr => ∃ i : Nat, i ≤ n1 ∧ k = .int .i64 i ∧ ∃ q cq, v = .slice q i cq ∧ Hid (wr.ownsRow w.heap.size 5 1 (.slice q i cq) i (by8 (xs.take i)) ∧ Below w.heap.size w wr)) (fun _ k _ => (n1 - intOf k).toNat)
  case atStart => exact ⟨0, by omega, rfl, _, _, rfl, HO1.out.1, HO1.out.2⟩
  case round =>
    obtain ⟨i, hi, rfl, q, cq, rfl, HO⟩ := hrel
    by_cases hlt : i < n1
    · have g0 : (i : Int) < n1 := by omega
      have hx : ∃ x, xs[i]? = some x := ⟨xs[i]'(by rw [HX.out]; exact hlt), by simp⟩
      obtain ⟨x, hx⟩ := hx
      obtain ⟨b1, o1, rfl, hb, hc⟩ := H1.out i x hx
      have a0 : wr.cell? ⟨b1, o1 + i, .none⟩ = some (.int .u8 x) := (HO.out.2.cell hb).trans hc
      have HT : Hid (xs.take i ++ [x] = xs.take (i + 1)) := take_next hx
      have z1 := HO.out.2.size
      clear hx hc
      go_wp2_with (first | (at_builtin; refine wpList_append_own _ rfl _ _ 22 rfl w.heap.size 5 i3 z3 1 1 Tryz.underlying22 HI.out.1 HI.out.2.1 HI.out.2.2.1 HI.out.2.2.2.1 HI.out.2.2.2.2 (by decide) (.slice q i cq) i (by8 (xs.take i)) rfl (HO.out.1.alloc _) ⟨wr.heap.size, 0, .none⟩ 1 1 (by8 [x]) rfl rfl (le_cell1_new _ _ _) (by8_one _) ?c4 ?c5 ?c6 ?_) | fail)
      case c4 => simp only [maxLen]; omega
      case c5 => omega
      case c6 => simp only [World.size_alloc]; omega
      intro v' w2 own' grow fb
      clear fb
      obtain ⟨p', c', rfl⟩ := one_slice own'
      have HW : Hid (w2.ownsRow w.heap.size 5 1 (.slice p' (i + 1) c') (i + 1) (by8 (xs.take (i + 1))) ∧ Below w.heap.size w w2) := by
        refine ⟨?_, below_append HO.out.2 _ grow z1 (own_block HO.out.1)⟩
        rw [← HT.out, by8_app]
        exact own'
      clear own' grow
      go_wp2_with fail
      exact ⟨⟨i + 1, by omega, by simp, p', c', rfl, HW.out⟩, by simp only [intOf]; omega⟩
    · obtain rfl : i = n1 := by omega
      have hn9 : ¬ ((i : Int) < i) := by omega
      have HO3 : Hid (wr.ownsRow w.heap.size 5 1 (.slice q i cq) i (by8 xs) ∧ Below w.heap.size w wr) := by
        have h := HO.out
        rw [← HX.out, List.take_length, HX.out] at h
        exact h
      clear HO HO1 hi hlt
      go_upto_region 7 with fail
      go_loopw [5, 7] (fun v k W => ∃ j : Nat, j ≤ n2 ∧ k = .int .i64 j ∧ ∃ q cq, v = .slice q (i + j) cq ∧ Hid (W.ownsRow w.heap.size 5 1 (.slice q (i + j) cq) (i + j) (by8 (xs ++ ys.take j)) ∧ Below w.heap.size w W)) (fun _ k _ => (n2 - intOf k).toNat)
      case atStart =>
        refine ⟨0, by omega, rfl, q, cq, rfl, ?_⟩
        have h := HO3.out
        rw [List.take_zero, List.append_nil, Nat.add_zero]
        exact h
      case round =>
        obtain ⟨j, hj, rfl, q, cq, rfl, HO⟩ := hrel
        by_cases hlj : j < n2
        · have g1 : (j : Int) < n2 := by omega
          have hx : ∃ x, ys[j]? = some x := ⟨ys[j]'(by rw [HY.out]; exact hlj), by simp⟩
          obtain ⟨x, hx⟩ := hx
          obtain ⟨b1, o1, rfl, hb, hc⟩ := H2.out j x hx
          have a0 : wr.cell? ⟨b1, o1 + j, .none⟩ = some (.int .u8 x) := (HO.out.2.cell hb).trans hc
          have HT : Hid (ys.take j ++ [x] = ys.take (j + 1)) := take_next hx
          have z1 := HO.out.2.size
          clear hx hc
          go_wp2_with (first | (at_builtin; refine wpList_append_own _ rfl _ _ 22 rfl w.heap.size 5 i3 z3 1 1 Tryz.underlying22 HI.out.1 HI.out.2.1 HI.out.2.2.1 HI.out.2.2.2.1 HI.out.2.2.2.2 (by decide) (.slice q (i + j) cq) (i + j) (by8 (xs ++ ys.take j)) rfl (HO.out.1.alloc _) ⟨wr.heap.size, 0, .none⟩ 1 1 (by8 [x]) rfl rfl (le_cell1_new _ _ _) (by8_one _) ?c4 ?c5 ?c6 ?_) | fail)
          case c4 => simp only [maxLen]; omega
          case c5 => omega
          case c6 => simp only [World.size_alloc]; omega
          intro v' w2 own' grow fb
          clear fb
          obtain ⟨p', c', rfl⟩ := one_slice own'
          have HW : Hid (w2.ownsRow w.heap.size 5 1 (.slice p' (i + (j + 1)) c') (i + (j + 1)) (by8 (xs ++ ys.take (j + 1))) ∧ Below w.heap.size w w2) := by
            refine ⟨?_, below_append HO.out.2 _ grow z1 (own_block HO.out.1)⟩
            rw [← HT.out, ← List.append_assoc, by8_app, ← Nat.add_assoc]
            exact own'
          clear own' grow
          go_wp2_with fail
          exact ⟨⟨j + 1, by omega, by simp, p', c', by simp [Nat.add_assoc], HW.out⟩, by simp only [intOf]; omega⟩
        · obtain rfl : j = n2 := by omega
          have hn8 : ¬ ((j : Int) < j) := by omega
          go_wp2_with fail
          go_ret
          have hlen : (xs ++ ys).length = i + j := by rw [List.length_append, HX.out, HY.out]
          refine ⟨q, cq, by rw [hlen]; rfl, ?_, HO.out.2⟩
          have h := HO.out.1
          rw [← HY.out, List.take_length, HY.out] at h
          rw [hlen]
          exact h
end Go.Proofs.YtacdgfojdkppmaaGreatDoor
