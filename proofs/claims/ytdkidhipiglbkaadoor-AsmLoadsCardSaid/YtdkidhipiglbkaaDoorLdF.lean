import Derived.Test.YtdkidhipiglbkaaDoorLdE
namespace Go.Proofs.YtdkidhipiglbkaaDoor
open Go.RowKit
set_option linter.unusedVariables false
set_option linter.unusedSimpArgs false
/-- Where the document's loop is: i places are taken away, z is left. -/
def At (h z : Int) (i : Nat) : Prop := z * 2 ^ i = h ∧ z ≠ 0 ∧ i < 64 ∧ od 64 h = od (64 - i) z ∧ tz 64 h = i + tz (64 - i) z
theorem at_next {h z : Int} {i : Nat} (hh : I64 h) (a : At h z i) (he : z % 2 = 0) : At h (z / 2) (i + 1) := by
  obtain ⟨a1, a2, a3, a4, a5⟩ := a
  have p : z / 2 * 2 ^ (i + 1) = h := by
    rw [Int.pow_succ, ← a1]
    generalize (2 : Int) ^ i = y
    obtain ⟨k, rfl⟩ : ∃ k, z = 2 * k := ⟨z / 2, by omega⟩
    rw [show 2 * k / 2 = k by omega]
    grind
  have n : z / 2 ≠ 0 := by omega
  have q : i + 1 < 64 := by
    apply Classical.byContradiction
    intro hc
    obtain rfl : i = 63 := by omega
    obtain ⟨h0, h1⟩ := hh
    rw [show (2 : Int) ^ (63 + 1) = 18446744073709551616 by decide] at p
    omega
  obtain ⟨m, hm⟩ : ∃ m, 64 - i = m + 1 := ⟨63 - i, by omega⟩
  have hm' : 64 - (i + 1) = m := by omega
  rw [hm] at a4 a5
  unfold At
  generalize od 64 h = O at a4 ⊢
  generalize tz 64 h = T at a5 ⊢
  simp only [od, tz, if_pos he] at a4 a5
  exact ⟨p, n, q, by rw [hm', a4], by rw [hm', a5]; omega⟩
theorem at_end {h z : Int} {i : Nat} (a : At h z i) (he : z % 2 ≠ 0) : z = od 64 h ∧ i = tz 64 h := by
  obtain ⟨a1, a2, a3, a4, a5⟩ := a
  obtain ⟨m, hm⟩ : ∃ m, 64 - i = m + 1 := ⟨63 - i, by omega⟩
  rw [hm] at a4 a5
  generalize od 64 h = O at a4 ⊢
  generalize tz 64 h = T at a5 ⊢
  simp only [od, tz, if_neg he] at a4 a5
  exact ⟨a4.symm, by omega⟩
theorem at_i64 {h z : Int} {i : Nat} (hh : I64 h) (a : At h z i) : I64 z := by
  obtain ⟨a1, a2, a3, a4, a5⟩ := a
  obtain ⟨h0, h1⟩ := hh
  have hp : (1 : Int) ≤ 2 ^ i := by have := Int.pow_pos (n := 2) (m := i) (by decide); omega
  subst a1
  refine ⟨?_, ?_⟩
  · apply Classical.byContradiction
    intro hc
    have : z * 2 ^ i ≤ z * 1 := Int.mul_le_mul_of_nonpos_left (by omega) hp
    omega
  · apply Classical.byContradiction
    intro hc
    have : z * 1 ≤ z * 2 ^ i := Int.mul_le_mul_of_nonneg_left hp (by omega)
    omega
set_option maxHeartbeats 4000000 in
set_option maxRecDepth 100000 in
theorem ref_big (x v l rd h : Int) (L : List (Int × Int × Int)) (w : World) (hx : wrap64 x = v) (hr0 : 0 ≤ rd) (hr1 : rd < 32) (hv : I64 v) (hs : v < -2147483648 ∨ 2147483648 ≤ v) (hl : lo v = l) (hh : hi v = h)
    (hL : L.length < 100) (IH : ∀ W, Calls Tryd.prog 6 #[.int .u64 (IntKind.u64.wrap (od 64 h)), .int .i64 rd] W (Gv rd L W)) :
    Calls Tryd.prog 6 #[.int .u64 x, .int .i64 rd] w (Gv rd (L ++ (28, rd, 12 + (tz 64 h : Int)) :: lowI 22 rd l) w) := by
  have c1 := lower_any v w hv
  have lb := lo_bd v
  have hn : hi v ≠ 0 := hi_ne v hv (by omega)
  have hb : I64 (hi v) := by obtain ⟨a, b⟩ := hv; unfold hi wrap64 I64; omega
  have hd : wrap64 (IntKind.u64.wrap (x - IntKind.u64.wrap (lo v))) / 4096 = h := by
    rw [← hh]
    unfold hi
    rw [← hx]
    simp only [IntKind.wrap_u64]
    unfold wrap64
    omega
  rw [hh] at hn hb
  rw [hl] at c1 lb hd
  obtain ⟨l0, l1⟩ := lb
  clear hl hh
  obtain ⟨i3, z3, hi3, hz3, hs3, hb3, hzs3⟩ := insn_info
  have HI : Hid (Tryd.prog.info? 29 = some i3 ∧ i3.zero = some z3 ∧ i3.size = 6 ∧ i3.bytes = 48 ∧ z3.cells.size = 6) := ⟨hi3, hz3, hs3, hb3, hzs3⟩
  clear hi3 hz3 hs3 hb3 hzs3
  have HH : Hid (I64 h ∧ h ≠ 0) := ⟨hb, hn⟩
  clear hb hn
  rcases hs with hs | hs
  all_goals
    go_enter Tryd.func6, Tryd.ntmps6
    go_wp2_with fail
    refine c1.mono ?_
    rintro e w1 ⟨rfl, rfl⟩
    clear c1
    go_wp2
    go_loopw [8, 9] (fun a b wr => ∃ (i : Nat) (z : Int), a = .int .i64 z ∧ b = .int .i64 i ∧ Hid (At h z i) ∧ wr = w1) (fun _ k _ => (64 - intOf k).toNat)
    case atStart => exact ⟨0, h, rfl, rfl, ⟨by simp, HH.out.2, by omega, rfl, by simp⟩, rfl⟩
    case round =>
      obtain ⟨i, z, rfl, rfl, HA, rfl⟩ := hrel
      have iz := at_i64 HH.out.1 HA.out
      obtain ⟨iz0, iz1⟩ := iz
      have i64 : i < 64 := HA.out.2.2.1
      have ha := and1 z
      by_cases he : z % 2 = 0
      · have g1 : (z % 2 == 0) = true := by rw [beq_iff_eq]; exact he
        have HN : Hid (At h (z / 2) (i + 1)) := at_next HH.out.1 HA.out he
        clear he
        go_wp2
        exact ⟨⟨i + 1, z / 2, rfl, rfl, HN.out, trivial⟩, by simp only [intOf]; omega⟩
      · have g1 : (z % 2 == 0) = false := by rw [beq_eq_false_iff_ne]; exact he
        obtain ⟨e1, e2⟩ := at_end HA.out he
        clear HA he
        rw [← e1] at IH
        have HE : Hid (i = tz 64 h) := e2
        clear e1 e2
        go_wp2_with fail
        refine (IH wr).mono ?_
        rintro e w5 ⟨p5, c5, rfl, o5, k5⟩
        have H5 : Hid (w5.ownsRow wr.heap.size 29 6 (.slice p5 L.length c5) L.length (cs rd L) ∧ Below wr.heap.size wr w5) := ⟨o5, k5⟩
        have z5 := k5.size
        clear o5 k5 IH
        go_wp2_with (first | (at_builtin; refine wpList_append_own _ rfl _ _ 23 rfl wr.heap.size 29 i3 z3 6 48 Tryd.underlying23 HI.out.1 HI.out.2.1 HI.out.2.2.1 HI.out.2.2.2.1 HI.out.2.2.2.2 (by decide) (.slice p5 L.length c5) L.length (cs rd L) rfl (H5.out.1.alloc _) ⟨w5.heap.size, 0, .none⟩ 1 1 (ins 28 rd rd (12 + (i : Int))) rfl rfl (cells6_new _ _ _ _ _ _) (ins_one _ _ _ _) ?c4 ?c5 ?c6 ?_) | go_in)
        case c4 => simp only [maxLen]; omega
        case c5 => omega
        case c6 => simp only [World.size_alloc]; omega
        intro v7 w7 own7 grow7 fb
        clear fb
        obtain ⟨p7, c7, rfl⟩ := one_slice own7
        have H7 : Hid (w7.ownsRow wr.heap.size 29 6 (.slice p7 (L.length + 1) c7) (L.length + 1) (cs rd L ++ ins 28 rd rd (12 + (i : Int))) ∧ Below wr.heap.size wr w7) := ⟨own7, below_append H5.out.2 _ grow7 z5 (own_block H5.out.1)⟩
        have z7 := H7.out.2.size
        clear own7 grow7 H5 z5
        by_cases hl : l = 0
        · subst hl
          go_wp2
          go_ret
          refine ⟨p7, c7, ?_, ?_, H7.out.2⟩
          · simp [lowI]
          · have := H7.out.1
            rw [← HE.out]
            simpa [cs, lowI] using this
        · have g4 : (l != 0) = true := by rw [bne_iff_ne]; exact hl
          have el : lowI 22 rd l = [(22, rd, l)] := by unfold lowI; rw [if_neg hl]
          have HL : Hid (lowI 22 rd l = [(22, rd, l)]) := el
          clear el hl
          go_wp2_with (first | (at_builtin; refine wpList_append_own _ rfl _ _ 23 rfl wr.heap.size 29 i3 z3 6 48 Tryd.underlying23 HI.out.1 HI.out.2.1 HI.out.2.2.1 HI.out.2.2.2.1 HI.out.2.2.2.2 (by decide) (.slice p7 (L.length + 1) c7) (L.length + 1) (cs rd L ++ ins 28 rd rd (12 + (i : Int))) rfl (H7.out.1.alloc _) ⟨w7.heap.size, 0, .none⟩ 1 1 (ins 22 rd rd l) rfl rfl (cells6_new _ _ _ _ _ _) (ins_one _ _ _ _) ?c4 ?c5 ?c6 ?_) | go_in)
          case c4 => simp only [maxLen]; omega
          case c5 => omega
          case c6 => simp only [World.size_alloc]; omega
          intro v8 w8 own8 grow8 fb
          clear fb
          obtain ⟨p8, c8, rfl⟩ := one_slice own8
          have H8 : Hid (w8.ownsRow wr.heap.size 29 6 (.slice p8 (L.length + 1 + 1) c8) (L.length + 1 + 1) (cs rd L ++ (ins 28 rd rd (12 + (i : Int)) ++ ins 22 rd rd l)) ∧ Below wr.heap.size wr w8) := ⟨own8, below_append H7.out.2 _ grow8 z7 (own_block H7.out.1)⟩
          clear own8 grow8
          go_wp2
          go_ret
          refine ⟨p8, c8, ?_, ?_, H8.out.2⟩
          · simp [HL.out]
          · have := H8.out.1
            rw [← HE.out, HL.out]
            simpa [cs] using this
end Go.Proofs.YtdkidhipiglbkaaDoor
