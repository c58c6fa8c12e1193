import Derived.Test.YtjbealefopajcaaDoorLeA
import Derived.Laws.MakeOwn
namespace Go.Proofs.YtjbealefopajcaaDoor
open Go.RowKit
set_option linter.unusedVariables false
set_option linter.unusedSimpArgs false
theorem le_cell1_new (w : World) (x : Int) (t : TypeId) : ∀ j u, (by8 [x])[j]? = some u → (w.alloc (.cells #[.int .u8 x] t)).cell? ((⟨w.heap.size, 0, .none⟩ : Addr).add j) = some u := by
  intro j u hj
  rw [le_addr_add, World.cell?_alloc_at _ _ _ _ rfl, Nat.zero_add]
  simpa [by8] using hj
theorem take_next {xs : List Int} {i : Nat} {x : Int} (h : xs[i]? = some x) : xs.take i ++ [x] = xs.take (i + 1) := by
  rw [List.take_add_one, h]
  rfl
/-- The marks behind what is lent. -/
def marks : List Int := (List.range 64).map fun (i : Nat) => (160 : Int) + (i : Int)
theorem marks_len : marks.length = 64 := by decide
theorem marks_get (i : Nat) (h : i < 64) : marks[i]? = some (160 + (i : Int)) := by simp [marks, h]
/-- What is lent: the bytes, and the marks in the room behind. -/
def Lent (w : World) (base g c : Nat) (xs : List Int) : Prop := w.ownsRow base 5 1 (.slice (some ⟨g, 0, .none⟩) (xs.length + 64) c) (xs.length + 64) (by8 (xs ++ marks))
theorem own_zero (w : World) (n : Nat) (zs : Array Value) (hn : zs.size = n) (hm : n ≤ maxLen) : (w.alloc (.cells zs 5)).ownsRow w.heap.size 5 1 (.slice (some ⟨w.heap.size, 0, .none⟩) 0 n) 0 [] :=
  ⟨rfl, .inr ⟨w.heap.size, n, zs, rfl, Nat.le_refl _, heap_new _ _, Nat.zero_le _, hm, by omega, by simp⟩⟩
theorem own_cap {w : World} {base e sz n c g : Nat} {xs : List Value} (h : w.ownsRow base e sz (.slice (some ⟨g, 0, .none⟩) n c) n xs) : n ≤ c ∧ c ≤ maxLen := by
  rcases h.2 with ⟨hv, _⟩ | ⟨g', cap, cur, hv, hb, hg, hn, hm, _⟩
  · cases hv
  · simp only [Value.slice.injEq, true_and] at hv
    obtain ⟨_, rfl⟩ := hv
    exact ⟨hn, hm⟩
theorem own_lt {w : World} {base e sz n c g : Nat} {xs : List Value} (h : w.ownsRow base e sz (.slice (some ⟨g, 0, .none⟩) n c) n xs) : g < w.heap.size := by
  rcases h.2 with ⟨hv, _⟩ | ⟨g', cap, cur, hv, hb, hg, _⟩
  · cases hv
  · simp only [Value.slice.injEq, Option.some.injEq, Addr.mk.injEq, and_true, true_and] at hv
    obtain ⟨rfl, rfl⟩ := hv
    exact (Array.getElem?_eq_some_iff.1 hg).1
theorem own_some {w : World} {base e sz n c : Nat} {p : Option Addr} {xs : List Value} (h : w.ownsRow base e sz (.slice p (n + 1) c) (n + 1) xs) : ∃ g, p = some ⟨g, 0, .none⟩ := by
  rcases h.2 with ⟨_, h0⟩ | ⟨g, cap, cur, hv, _⟩
  · omega
  · simp only [Value.slice.injEq] at hv
    exact ⟨g, hv.1⟩
set_option maxHeartbeats 4000000 in
set_option maxRecDepth 100000 in
theorem lend_any {p : Option Addr} {n c : Nat} {xs : List Int} {w : World} (h : Byt w p n c xs) (hn : n < 140737488355000) :
    Calls Tryd.prog 10 #[.slice p n c] w fun e w' => ∃ g cg, e = .returned (.slice (some ⟨g, 0, .none⟩) n cg) ∧ Lent w' w.heap.size g cg xs ∧ Below w.heap.size w w' := by
  obtain ⟨hl, k1, m1, h1⟩ := h
  have m1 : c ≤ 9223372036854775807 := m1
  have HX : Hid (xs.length = n) := hl
  obtain ⟨i3, z3, hi3, hz3, hs3, hb3, hzs3⟩ := byte_info
  have HI : Hid (Tryd.prog.info? 5 = some i3 ∧ i3.zero = some z3 ∧ i3.size = 1 ∧ i3.bytes = 1 ∧ z3.cells.size = 1) := ⟨hi3, hz3, hs3, hb3, hzs3⟩
  clear hi3 hz3 hs3 hb3 hzs3
  have H1 : Hid (∀ i x, xs[i]? = some x → ∃ b1 o1, p = some ⟨b1, o1, .none⟩ ∧ b1 < w.heap.size ∧ w.cell? ⟨b1, o1 + i, .none⟩ = some (.int .u8 x)) := by
    intro i x hx
    rcases h1 with h1 | ⟨b1, o1, h2, hb, h3⟩
    · rw [List.getElem?_eq_none (by omega)] at hx
      cases hx
    · exact ⟨b1, o1, h2, hb, h3 i x hx⟩
  clear h1 hl
  obtain ⟨w1, hmk, own1, gr1⟩ := run_make_own (P := Tryd.prog) w w.heap.size 41 5 i3 z3 1 Tryd.underlying41 HI.out.1 HI.out.2.1 HI.out.2.2.1 .i64 .i64 (n + 64) (by rw [HI.out.2.2.2.1]; omega) (by simp only [maxLen]; omega) (Nat.le_refl _)
  have hmk : (Instr.makeSlice 41 (.int .i64 0) (.int .i64 ((n : Int) + 64))).run Tryd.prog w = .ok (.slice (some ⟨w.heap.size, 0, .none⟩) 0 (n + 64)) w1 := by
    have e : ((n + 64 : Nat) : Int) = (n : Int) + 64 := by omega
    rw [e] at hmk
    exact hmk
  have b1 : Below w.heap.size w w1 := (Below.refl _ _).grown gr1 (Nat.le_refl _) (fun k hk => by cases hk)
  have HO1 : Hid (w1.ownsRow w.heap.size 5 1 (.slice (some ⟨w.heap.size, 0, .none⟩) 0 (n + 64)) 0 [] ∧ Below w.heap.size w w1) := ⟨own1, b1⟩
  clear own1 gr1 b1
  go_enter Tryd.func10, Tryd.ntmps10
  go_wp2
  clear hmk
  go_loopw [3, 4] (fun v k wr => ∃ i : Nat, i ≤ n ∧ k = .int .i64 i ∧ ∃ q cq, v = .slice q i cq ∧ Hid (wr.ownsRow w.heap.size 5 1 (.slice q i cq) i (by8 (xs.take i)) ∧ Below w.heap.size w wr ∧ ∃ g, q = some ⟨g, 0, .none⟩)) (fun _ k _ => (n - intOf k).toNat)
  case atStart => exact ⟨0, by omega, rfl, _, _, rfl, HO1.out.1, HO1.out.2, _, rfl⟩
  case round =>
    obtain ⟨i, hi, rfl, q, cq, rfl, HO⟩ := hrel
    by_cases hlt : i < n
    · have g0 : (i : Int) < n := by omega
      have hx : ∃ x, xs[i]? = some x := ⟨xs[i]'(by rw [HX.out]; exact hlt), by simp⟩
      obtain ⟨x, hx⟩ := hx
      obtain ⟨b1, o1, rfl, hb, hc⟩ := H1.out i x hx
      have a0 : wr.cell? ⟨b1, o1 + i, .none⟩ = some (.int .u8 x) := (HO.out.2.1.cell hb).trans hc
      have HT : Hid (xs.take i ++ [x] = xs.take (i + 1)) := take_next hx
      have z1 := HO.out.2.1.size
      clear hx hc
      go_wp2_with (first | (at_builtin; refine wpList_append_own _ rfl _ _ 41 rfl w.heap.size 5 i3 z3 1 1 Tryd.underlying41 HI.out.1 HI.out.2.1 HI.out.2.2.1 HI.out.2.2.2.1 HI.out.2.2.2.2 (by decide) (.slice q i cq) i (by8 (xs.take i)) rfl (HO.out.1.alloc _) ⟨wr.heap.size, 0, .none⟩ 1 1 (by8 [x]) rfl rfl (le_cell1_new _ _ _) (by8_one _) ?c4 ?c5 ?c6 ?_) | go_in)
      case c4 => simp only [maxLen]; omega
      case c5 => omega
      case c6 => simp only [World.size_alloc]; omega
      intro v' w2 own' grow fb
      clear fb
      obtain ⟨p', c', rfl⟩ := one_slice own'
      have HW : Hid (w2.ownsRow w.heap.size 5 1 (.slice p' (i + 1) c') (i + 1) (by8 (xs.take (i + 1))) ∧ Below w.heap.size w w2 ∧ ∃ g, p' = some ⟨g, 0, .none⟩) := by
        refine ⟨?_, below_append HO.out.2.1 _ grow z1 (own_block HO.out.1), own_some own'⟩
        rw [← HT.out, by8_app]
        exact own'
      clear own' grow
      go_wp2
      exact ⟨⟨i + 1, by omega, rfl, p', c', rfl, HW.out⟩, by simp only [intOf]; omega⟩
    · obtain rfl : i = n := by omega
      have HO3 : Hid (wr.ownsRow w.heap.size 5 1 (.slice q i cq) i (by8 xs) ∧ Below w.heap.size w wr ∧ ∃ g, q = some ⟨g, 0, .none⟩) := by
        have h := HO.out
        rw [← HX.out, List.take_length, HX.out] at h
        exact h
      clear hi hlt HO HO1
      go_wp2
      go_loopw [3, 5] (fun v k W => ∃ j : Nat, j ≤ 64 ∧ k = .int .i64 j ∧ ∃ q cq, v = .slice q (i + j) cq ∧ Hid (W.ownsRow w.heap.size 5 1 (.slice q (i + j) cq) (i + j) (by8 (xs ++ marks.take j)) ∧ Below w.heap.size w W ∧ ∃ g, q = some ⟨g, 0, .none⟩)) (fun _ k _ => (64 - intOf k).toNat)
      case atStart =>
        refine ⟨0, by omega, rfl, q, cq, rfl, ?_⟩
        have h := HO3.out
        rw [← List.append_nil xs] at h
        exact h
      case round =>
        clear HO3
        obtain ⟨j, hj, rfl, q, cq, rfl, HO⟩ := hrel
        by_cases hlt : j < 64
        · have g0 : (j : Int) < 64 := by omega
          have gm : IntKind.u8.wrap (160 + (j : Int)) = 160 + (j : Int) := by simp only [IntKind.wrap, IntKind.bits, IntKind.signed]; simp; omega
          have HT : Hid (marks.take j ++ [160 + (j : Int)] = marks.take (j + 1)) := take_next (marks_get j hlt)
          have z1 := HO.out.2.1.size
          go_wp2_with (first | (at_builtin; refine wpList_append_own _ rfl _ _ 41 rfl w.heap.size 5 i3 z3 1 1 Tryd.underlying41 HI.out.1 HI.out.2.1 HI.out.2.2.1 HI.out.2.2.2.1 HI.out.2.2.2.2 (by decide) (.slice q (i + j) cq) (i + j) (by8 (xs ++ marks.take j)) rfl (HO.out.1.alloc _) ⟨wr.heap.size, 0, .none⟩ 1 1 (by8 [160 + (j : Int)]) rfl rfl (le_cell1_new _ _ _) (by8_one _) ?c4 ?c5 ?c6 ?_) | go_in)
          case c4 => simp only [maxLen]; omega
          case c5 => omega
          case c6 => simp only [World.size_alloc]; omega
          intro v' w2 own' grow fb
          clear fb
          obtain ⟨p', c', rfl⟩ := one_slice own'
          have HW : Hid (w2.ownsRow w.heap.size 5 1 (.slice p' (i + (j + 1)) c') (i + (j + 1)) (by8 (xs ++ marks.take (j + 1))) ∧ Below w.heap.size w w2 ∧ ∃ g, p' = some ⟨g, 0, .none⟩) := by
            refine ⟨?_, below_append HO.out.2.1 _ grow z1 (own_block HO.out.1), own_some own'⟩
            rw [← HT.out, ← List.append_assoc, by8_app]
            exact own'
          clear own' grow
          go_wp2
          exact ⟨⟨j + 1, by omega, rfl, p', c', rfl, HW.out⟩, by simp only [intOf]; omega⟩
        · obtain rfl : j = 64 := by omega
          clear hj hlt
          obtain ⟨h1, h2, g, rfl⟩ := HO.out
          have hcap := own_cap h1
          have HL : Hid (Lent wr w.heap.size g cq xs ∧ Below w.heap.size w wr) := by
            refine ⟨?_, h2⟩
            unfold Lent
            rw [HX.out]
            have e : marks.take 64 = marks := List.take_of_length_le (by rw [marks_len]; exact Nat.le_refl _)
            rw [e] at h1
            exact h1
          clear h1 h2 HO
          go_wp2
          go_ret
          exact ⟨g, cq, rfl, HL.out.1, HL.out.2⟩
set_option maxHeartbeats 4000000 in
set_option maxRecDepth 100000 in
theorem kept_any {p : Option Addr} {n c base g cg : Nat} {xs : List Int} {w : World} (h : Byt w p n c xs) (hn : n < 140737488355000) (hL : Lent w base g cg xs) :
    Calls Tryd.prog 24 #[.slice (some ⟨g, 0, .none⟩) n cg, .slice p n c] w fun e w' => e = .returned (.bool true) ∧ ∃ k, w' = w.drewN k := by
  have hl := h.1
  have hcap : xs.length + 64 ≤ cg ∧ cg ≤ maxLen := own_cap hL
  have hm : cg ≤ 9223372036854775807 := hcap.2
  have hcell : ∀ i x, (xs ++ marks)[i]? = some x → w.cell? ⟨g, i, .none⟩ = some (.int .u8 x) := by
    intro i x hx
    have := World.ownsRow.cells hL (g := g) rfl i _ (by8_get hx)
    rwa [le_addr_add, Nat.zero_add] at this
  have hB : Byt w (some ⟨g, 0, .none⟩) n cg xs := by
    refine ⟨hl, by omega, hcap.2, .inr ⟨g, 0, rfl, own_lt hL, fun i x hx => ?_⟩⟩
    rw [Nat.zero_add]
    exact hcell i x (by rw [List.getElem?_append_left (by have := (List.getElem?_eq_some_iff.1 hx).1; omega)]; exact hx)
  have c1 := bytes_any (some ⟨g, 0, .none⟩) p n cg c xs w hn hB h
  have HM : Hid (∀ j : Nat, j < 64 → w.cell? ⟨g, n + j, .none⟩ = some (.int .u8 (160 + (j : Int)))) := by
    intro j hj
    refine hcell (n + j) _ ?_
    rw [List.getElem?_append_right (by omega), hl, Nat.add_sub_cancel_left]
    exact marks_get j hj
  have k2 : n + 64 ≤ cg := by omega
  clear hcell hB hL h hl hcap
  go_enter Tryd.func24, Tryd.ntmps24
  go_wp2_with fail
  refine c1.mono ?_
  rintro e w1 ⟨rfl, k, rfl⟩
  clear c1
  go_wp2
  go_loopw [6] (fun v W => ∃ j : Nat, j ≤ 64 ∧ v = .int .i64 j ∧ ∃ k, W = w.drewN k) (fun v _ => (64 - intOf v).toNat)
  case atStart => exact ⟨0, by omega, rfl, k, rfl⟩
  case round =>
    obtain ⟨j, hj, rfl, k', rfl⟩ := hrel
    by_cases hlt : j < 64
    · have g0 : (j : Int) < 64 := by omega
      have gm : IntKind.u8.wrap (160 + (j : Int)) = 160 + (j : Int) := by simp only [IntKind.wrap, IntKind.bits, IntKind.signed]; simp; omega
      have a0 := HM.out j hlt
      go_wp2
      exact ⟨⟨j + 1, by omega, rfl, k', rfl⟩, by simp only [intOf]; omega⟩
    · obtain rfl : j = 64 := by omega
      clear hj hlt
      go_wp2
      go_ret
      exact ⟨rfl, k', rfl⟩
end Go.Proofs.YtjbealefopajcaaDoor
