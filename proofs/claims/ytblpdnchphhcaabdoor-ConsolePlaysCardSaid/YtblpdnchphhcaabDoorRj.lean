import Derived.Test.YtblpdnchphhcaabDoorFn
import Derived.LoopTactic
namespace Go.Proofs.YtblpdnchphhcaabDoor
open Go.RowKit
set_option linter.unusedVariables false
set_option linter.unusedSimpArgs false
set_option maxHeartbeats 4000000 in
/-- The document's own copy. -/
theorem joined_any {w : World} {p q : Option Addr} {n c m d : Nat} {xs ys : List Int} (h1 : Byt w p n c xs) (h2 : Byt w q m d ys) (hs : n + m ≤ 1000000) : Calls Tryd.prog 24 #[.slice p n c, .slice q m d] w (Gb (xs ++ ys) w) := by
  have HX : Hid (Byt w p n c xs) := h1
  have HY : Hid (Byt w q m d ys) := h2
  have E1 : Hid (xs.length = n) := h1.1
  have E2 : Hid (ys.length = m) := h2.1
  have HS : Hid (n + m ≤ 1000000) := hs
  have hn : n ≤ 1000000 := by omega
  have hm : m ≤ 1000000 := by omega
  clear h1 h2 hs
  go_enter Tryd.func24, Tryd.ntmps24
  go_wp2
  go_loopw [5, 6] (fun v5 v6 wr => ∃ (i : Nat) (pv : Option Addr) (cv : Nat), i ≤ n ∧ v6 = .int .i64 i ∧ v5 = .slice pv i cv ∧ Hid (wr.ownsRow w.heap.size 5 1 (.slice pv i cv) i (by8 (xs.take i)) ∧ Below w.heap.size w wr)) (fun _ v6 _ => (n - intOf v6).toNat)
  case atStart => exact ⟨0, none, 0, Nat.zero_le _, rfl, rfl, World.ownsRow_nil _ _ _ _, Below.refl _ _⟩
  case round =>
    obtain ⟨i, pv, cv, hi, rfl, rfl, HH⟩ := hrel
    by_cases hlt : i < n
    · have g1 : (i : Int) < n := by omega
      obtain ⟨x, hx⟩ : ∃ x, xs[i]? = some x := ⟨xs[i]'(by rw [E1.out]; omega), by simp⟩
      obtain ⟨gb, o, rfl, a1⟩ : ∃ gb o, p = some ⟨gb, o, .none⟩ ∧ wr.cell? ⟨gb, o + i, .none⟩ = some (.int .u8 x) := by
        rcases HX.out.2.2.2 with h | ⟨gb, o, h1, h2, h3⟩
        · omega
        · exact ⟨gb, o, h1, (HH.out.2.cell (p := ⟨gb, o + i, .none⟩) h2).trans (h3 i x hx)⟩
      have HXI : Hid (xs[i]? = some x) := hx
      clear hx
      have RW : Hid ((wr.alloc (.cells #[.int .u8 x] 5)).ownsRow w.heap.size 5 1 (.slice pv i cv) i (by8 (xs.take i))) := HH.out.1.alloc (.cells #[.int .u8 x] 5)
      have BN : Hid (Byt (wr.alloc (.cells #[.int .u8 x] 5)) (some ⟨wr.heap.size, 0, .none⟩) 1 1 [x]) := byt_own (own_one wr x)
      have z1 : w.heap.size ≤ (wr.alloc (.cells #[.int .u8 x] 5)).heap.size := by have := HH.out.2.size; simp; omega
      go_wp2_with (first | (at_builtin; refine wpList_app rfl _ _ rfl w.heap.size (.slice pv i cv) i (xs.take i) rfl (some ⟨wr.heap.size, 0, .none⟩) 1 1 [x] rfl RW.out BN.out ?c4 z1 ?_) | go_in)
      case c4 => omega
      intro v' W4 own4 grow4 sof4
      obtain ⟨p4, c4, rfl⟩ := one_slice own4
      have H4 : Hid (W4.ownsRow w.heap.size 5 1 (.slice p4 (i + 1) c4) (i + 1) (by8 (xs.take (i + 1))) ∧ Below w.heap.size w W4) := by
        refine ⟨?_, below_append HH.out.2 _ grow4 HH.out.2.size (fun k hk => own_block HH.out.1 k hk)⟩
        rw [List.take_add_one, HXI.out]
        exact own4
      clear own4 grow4 sof4 RW BN z1 a1
      go_wp2
      exact ⟨⟨i + 1, p4, c4, by omega, rfl, rfl, H4.out⟩, by simp only [intOf]; omega⟩
    · obtain rfl : i = n := by omega
      have HX0 : Hid (wr.ownsRow w.heap.size 5 1 (.slice pv i cv) i (by8 xs) ∧ Below w.heap.size w wr) := by
        have := HH.out
        rw [List.take_of_length_le (by rw [E1.out]; omega)] at this
        exact this
      clear hlt hi HH
      go_wp2
      go_loopw [5, 7] (fun v5 v7 wx => ∃ (j : Nat) (pu : Option Addr) (cu : Nat), j ≤ m ∧ v7 = .int .i64 j ∧ v5 = .slice pu (i + j) cu ∧ Hid (wx.ownsRow w.heap.size 5 1 (.slice pu (i + j) cu) (i + j) (by8 (xs ++ ys.take j)) ∧ Below w.heap.size w wx)) (fun _ v7 _ => (m - intOf v7).toNat)
      case atStart => exact ⟨0, pv, cv, Nat.zero_le _, rfl, rfl, by show (_ ∧ _); rw [List.take_zero, List.append_nil]; exact HX0.out⟩
      case round =>
        obtain ⟨j, pu, cu, hj, rfl, rfl, HH⟩ := hrel
        by_cases hlt : j < m
        · have g1 : (j : Int) < m := by omega
          obtain ⟨x, hx⟩ : ∃ x, ys[j]? = some x := ⟨ys[j]'(by rw [E2.out]; omega), by simp⟩
          obtain ⟨gb, o, rfl, a1⟩ : ∃ gb o, q = some ⟨gb, o, .none⟩ ∧ wr.cell? ⟨gb, o + j, .none⟩ = some (.int .u8 x) := by
            rcases HY.out.2.2.2 with h | ⟨gb, o, h1, h2, h3⟩
            · omega
            · exact ⟨gb, o, h1, (HH.out.2.cell (p := ⟨gb, o + j, .none⟩) h2).trans (h3 j x hx)⟩
          have HXI : Hid (ys[j]? = some x) := hx
          clear hx
          have RW : Hid ((wr.alloc (.cells #[.int .u8 x] 5)).ownsRow w.heap.size 5 1 (.slice pu (i + j) cu) (i + j) (by8 (xs ++ ys.take j))) := HH.out.1.alloc (.cells #[.int .u8 x] 5)
          have BN : Hid (Byt (wr.alloc (.cells #[.int .u8 x] 5)) (some ⟨wr.heap.size, 0, .none⟩) 1 1 [x]) := byt_own (own_one wr x)
          have z1 : w.heap.size ≤ (wr.alloc (.cells #[.int .u8 x] 5)).heap.size := by have := HH.out.2.size; simp; omega
          go_wp2_with (first | (at_builtin; refine wpList_app rfl _ _ rfl w.heap.size (.slice pu (i + j) cu) (i + j) (xs ++ ys.take j) rfl (some ⟨wr.heap.size, 0, .none⟩) 1 1 [x] rfl RW.out BN.out ?c4 z1 ?_) | go_in)
          case c4 => omega
          intro v' W4 own4 grow4 sof4
          obtain ⟨p4, c4, rfl⟩ := one_slice own4
          have H4 : Hid (W4.ownsRow w.heap.size 5 1 (.slice p4 (i + (j + 1)) c4) (i + (j + 1)) (by8 (xs ++ ys.take (j + 1))) ∧ Below w.heap.size w W4) := by
            refine ⟨?_, below_append HH.out.2 _ grow4 HH.out.2.size (fun k hk => own_block HH.out.1 k hk)⟩
            rw [List.take_add_one, HXI.out, ← Nat.add_assoc]
            exact own4
          clear own4 grow4 sof4 RW BN z1 a1
          go_wp2
          exact ⟨⟨j + 1, p4, c4, by omega, rfl, rfl, H4.out⟩, by simp only [intOf]; omega⟩
        · obtain rfl : j = m := by omega
          have HE : Hid (wr.ownsRow w.heap.size 5 1 (.slice pu (i + j) cu) (i + j) (by8 (xs ++ ys)) ∧ Below w.heap.size w wr) := by
            have := HH.out
            rw [List.take_of_length_le (by rw [E2.out]; omega)] at this
            exact this
          clear hlt hj HH
          go_wp2
          go_ret
          refine ⟨pu, cu, ?_, ?_, HE.out.2⟩
          · rw [List.length_append, E1.out, E2.out]; rfl
          · rw [List.length_append, E1.out, E2.out]; exact HE.out.1
end Go.Proofs.YtblpdnchphhcaabDoor
