import Derived.Test.YtjbealefopajcaaDoorVa
namespace Go.Proofs.YtjbealefopajcaaDoor
open Go Go.RowKit Rg
set_option linter.unusedVariables false
set_option linter.unusedSimpArgs false
/-! A file's bytes, line by line. -/
def blkP (ds : List Int) : Nat → List Int
  | 0 => []
  | i + 1 => blkP ds i ++ hexD (ds.getD i 0) ++ (if i % 32 = 31 ∨ i + 1 = ds.length then [10] else [])
theorem toB_size (ns : List Int) : (toB ns).size = ns.length := by
  show (toB ns).data.size = _
  rw [toB_data]
  simp
theorem blkP_len (ds : List Int) : ∀ i, (blkP ds i).length ≤ 3 * i
  | 0 => by simp [blkP]
  | i + 1 => by
    have := blkP_len ds i
    have h2 : (hexD (ds.getD i 0)).length = 2 := rfl
    rw [blkP, List.length_append, List.length_append, h2]
    split <;> simp only [List.length_cons, List.length_nil] <;> omega
set_option maxRecDepth 100000 in
set_option maxHeartbeats 4000000 in
theorem block_any {w : World} {X : Nat} {v : Value} {ds : List Int} (h : Bt w X v ds) (hX : X ≤ w.heap.size) (hbd : ∀ x ∈ ds, 0 ≤ x ∧ x < 256) (h1 : ds.length ≤ 10000000000) : Calls Tryd.prog 19 #[v] w fun e w' => e = .returned (.string (toB (blkP ds ds.length ++ [101, 110, 100, 10]))) ∧ Below w.heap.size w w' := by
  obtain ⟨p, c, rfl⟩ := h.form
  obtain ⟨i3, z3, hi3, hz3, hs3, hb3, hzs3⟩ := byte_info
  have HI : Hid (Tryd.prog.info? 5 = some i3 ∧ i3.zero = some z3 ∧ i3.size = 1 ∧ i3.bytes = 1 ∧ z3.cells.size = 1) := ⟨hi3, hz3, hs3, hb3, hzs3⟩
  clear hi3 hz3 hs3 hb3 hzs3
  obtain ⟨base, hbase⟩ : ∃ base, base = w.heap.size := ⟨_, rfl⟩
  rw [← hbase]
  obtain ⟨n, hn⟩ : ∃ n, n = ds.length := ⟨_, rfl⟩
  rw [← hn] at h h1 ⊢
  have H : Hid (Bt w X (.slice p n c) ds ∧ X ≤ base ∧ base = w.heap.size ∧ n = ds.length ∧ n ≤ 10000000000 ∧ ∀ x ∈ ds, 0 ≤ x ∧ x < 256) := ⟨h, by omega, hbase, hn, h1, hbd⟩
  clear h h1 hbd hX hn hbase
  have hT : True := trivial
  go_enter Tryd.func19, Tryd.ntmps19
  go_wp2_with fail
  go_loopw [3, 4] (fun v k wr => ∃ i : Nat, i ≤ n ∧ k = .int .i64 i ∧ ∃ q m cq, v = .slice q m cq ∧ Hid (wr.ownsRow base 5 1 (.slice q m cq) m (by8 (blkP ds i)) ∧ (blkP ds i).length = m ∧ Below base w wr)) (fun _ k _ => (n - intOf k).toNat)
  case atStart => exact ⟨0, by omega, rfl, _, _, _, rfl, World.ownsRow_nil _ _ _ _, rfl, Below.refl _ _⟩
  case round =>
    obtain ⟨i, hi, rfl, q, m, cq, rfl, HO⟩ := hrel
    have HM : Hid (m ≤ 3 * i) := by have h1 := HO.out.2.1; have := blkP_len ds i; show m ≤ _; omega
    have w1 : IntKind.i64.wrap ((i : Int) + 1) = (i : Int) + 1 := by rw [IntKind.wrap_i64]; have := H.out.2.2.2.2.1; omega
    have HBW : Hid (base ≤ wr.heap.size) := Nat.le_trans (by rw [H.out.2.2.1]; exact Nat.le_refl _) HO.out.2.2.size
    by_cases hlt : i < n
    · have g0 : (i : Int) < n := by omega
      obtain ⟨-, bk, o, x, cs, rfl, hbX, hx, rfl, hcl, hr⟩ := H.out.1.at hlt
      have hbb : bk < base := by have := H.out.2.1; omega
      have q0 := (HO.out.2.2.cell (p := ⟨bk, o + i * 1 + 0, .none⟩) hbb).trans (hr 0 _ rfl)
      rw [Nat.add_zero, Nat.mul_one] at q0
      have hxb := H.out.2.2.2.2.2 x (List.mem_of_getElem? hx)
      have HX : Hid (ds.getD i 0 = x) := by show _ = _; rw [List.getD_eq_getElem?_getD, hx]; rfl
      clear hr hcl hx hbX
      have hS : wr.drew.cell? ⟨bk, o + i, .none⟩ = some (.int .u8 x) := q0
      go_upto_region 5 with fail
      refine region_set (fun U => U.cell? ⟨bk, o + i, .none⟩ = some (.int .u8 x)) 13 [0] (by kernel_rfl) ?_
      refine sP 0 (.slice q m cq) rfl ?_ (fun ww => by go_simp)
      simp only [x0,x1,x2,x3,x4,x5,x6]
      refine sT 1 (.slice (some ⟨bk, o, .none⟩) n c) rfl ?_ (fun ww hSw => by (try dsimp only at hSw); go_simp)
      simp only [x0,x1,x2,x3,x4,x5,x6]
      refine sT 2 (.int .i64 i) rfl ?_ (fun ww hSw => by (try dsimp only at hSw); go_simp)
      simp only [x0,x1,x2,x3,x4,x5,x6]
      refine sT 3 (.pointer (some ⟨bk, o + i, .none⟩)) rfl ?_ (fun ww hSw => by (try dsimp only at hSw); go_simp)
      simp only [x0,x1,x2,x3,x4,x5,x6]
      refine sT 4 (.int .u8 x) rfl ?_ (fun ww hSw => by (try dsimp only at hSw); go_simp)
      simp only [x0,x1,x2,x3,x4,x5,x6]
      refine sT 5 (.int .u8 (x / 16)) rfl ?_ (fun ww hSw => by (try dsimp only at hSw); go_simp; exact td16_any x hxb)
      simp only [x0,x1,x2,x3,x4,x5,x6]
      refine sT 6 (.int .u8 (dgt (x / 16))) rfl ?_ (fun ww hSw => by (try dsimp only at hSw); go_simp; rw [dif_pos ⟨by omega, by omega⟩, dig_ok _ (by omega) (by omega)]; rfl)
      simp only [x0,x1,x2,x3,x4,x5,x6]
      refine sT 7 (.slice (some ⟨bk, o, .none⟩) n c) rfl ?_ (fun ww hSw => by (try dsimp only at hSw); go_simp)
      simp only [x0,x1,x2,x3,x4,x5,x6]
      refine sT 8 (.int .i64 i) rfl ?_ (fun ww hSw => by (try dsimp only at hSw); go_simp)
      simp only [x0,x1,x2,x3,x4,x5,x6]
      refine sT 9 (.pointer (some ⟨bk, o + i, .none⟩)) rfl ?_ (fun ww hSw => by (try dsimp only at hSw); go_simp)
      simp only [x0,x1,x2,x3,x4,x5,x6]
      refine sT 10 (.int .u8 x) rfl ?_ (fun ww hSw => by (try dsimp only at hSw); go_simp)
      simp only [x0,x1,x2,x3,x4,x5,x6]
      refine sT 11 (.int .u8 (x % 16)) rfl ?_ (fun ww hSw => by (try dsimp only at hSw); go_simp; exact tm16_any x hxb)
      simp only [x0,x1,x2,x3,x4,x5,x6]
      refine sT 12 (.int .u8 (dgt (x % 16))) rfl ?_ (fun ww hSw => by (try dsimp only at hSw); go_simp; rw [dif_pos ⟨by omega, by omega⟩, dig_ok _ (by omega) (by omega)]; rfl)
      simp only [x0,x1,x2,x3,x4,x5,x6]
      refine set_tail 3 13 _ _ _ _ (by kernel_rfl) (by decide) ?_
      simp only [List.toList_toArray, List.drop_succ_cons, List.drop_zero]
      go_wp2_with (first | (at_builtin; refine wpList_append_own _ rfl _ _ 41 rfl base 5 i3 z3 1 1 Tryd.underlying41 HI.out.1 HI.out.2.1 HI.out.2.2.1 HI.out.2.2.2.1 HI.out.2.2.2.2 (by decide) (.slice q m cq) m (by8 (blkP ds i)) rfl ((HO.out.1.drew).alloc _) ⟨wr.heap.size, 0, .none⟩ 2 2 (by8 [dgt (x / 16), dgt (x % 16)]) rfl rfl (cell2_new _ _ _ _) (by8_one _) ?c4 ?c5 ?c6 ?_) | fail)
      case c4 => have := HM.out; have := H.out.2.2.2.2.1; simp only [maxLen]; omega
      case c5 => have := HM.out; have := H.out.2.2.2.2.1; omega
      case c6 => exact Nat.le_trans HBW.out (by simp)
      intro v' w2 own' grow fb
      clear fb
      have HG : Hid (Below base w w2) := HO.out.2.2.trans (below_append (Below.refl _ _).drew _ grow HBW.out (fun k hk => own_block HO.out.1 k hk))
      have HO2 : Hid (w2.ownsRow base 5 1 v' (m + 2) (by8 (blkP ds i ++ hexD x))) := by have h2 := own'; rw [← by8_app] at h2; exact h2
      have HSZ0 : Hid (wr.heap.size ≤ w2.heap.size) := Nat.le_trans (by simp) grow.size
      obtain ⟨p', c', rfl⟩ := one_slice own'
      clear own' grow q0 hS
      have HNX : Hid (∀ zs, (if i % 32 = 31 ∨ i + 1 = n then [10] else []) = zs → blkP ds (i + 1) = blkP ds i ++ hexD x ++ zs) := fun zs hz => by rw [← hz, blkP, HX.out, H.out.2.2.2.1]
      have hm32 : ((i : Int)).tmod 32 = ((i % 32 : Nat) : Int) := by rw [Int.tmod_eq_emod_of_nonneg (by omega)]; omega
      have w2' : IntKind.i64.wrap ((n : Int) - 1) = (n : Int) - 1 := by rw [IntKind.wrap_i64]; have := H.out.2.2.2.2.1; omega
      have HSZ : Hid (wr.heap.size ≤ w2.heap.size) := HSZ0.out
      by_cases g1 : i % 32 = 31
      · have f1 : ((i : Int) % 32 == 31) = true := by rw [beq_iff_eq]; omega
        go_wp2_with (first | (at_builtin; refine wpList_append_own _ rfl _ _ 41 rfl base 5 i3 z3 1 1 Tryd.underlying41 HI.out.1 HI.out.2.1 HI.out.2.2.1 HI.out.2.2.2.1 HI.out.2.2.2.2 (by decide) (.slice p' (m + 2) c') (m + 2) (by8 (blkP ds i ++ hexD x)) rfl (HO2.out.alloc _) ⟨w2.heap.size, 0, .none⟩ 1 1 (by8 [10]) rfl rfl (le_cell1_new _ _ _) (by8_one _) ?c4 ?c5 ?c6 ?_) | fail)
        case c4 => have := HM.out; have := H.out.2.2.2.2.1; simp only [maxLen]; omega
        case c5 => have := HM.out; have := H.out.2.2.2.2.1; omega
        case c6 => exact Nat.le_trans HBW.out (Nat.le_trans (by have := HSZ.out; exact this) (by simp))
        intro v3 w3 own' grow fb
        clear fb
        have HG3 : Hid (Below base w w3) := HG.out.trans (below_append (Below.refl _ _) _ grow (Nat.le_trans HBW.out HSZ.out) (fun k hk => own_block HO2.out k hk))
        rw [← by8_app, ← HNX.out [10] (if_pos (by exact .inl g1))] at own'
        obtain ⟨p3, c3, rfl⟩ := one_slice own'
        have hl3 : (blkP ds (i + 1)).length = m + 3 := by rw [HNX.out [10] (if_pos (by exact .inl g1)), List.length_append, List.length_append, HO.out.2.1]; rfl
        have HO3 : Hid (w3.ownsRow base 5 1 (.slice p3 (m + 3) c3) (m + 3) (by8 (blkP ds (i + 1))) ∧ (blkP ds (i + 1)).length = m + 3) := ⟨own', hl3⟩
        clear own' grow hl3 hm32 w2'
        go_wp2
        exact ⟨⟨i + 1, by omega, by go_num, _, _, _, rfl, HO3.out.1, HO3.out.2, HG3.out⟩, by simp only [intOf]; omega⟩
      · have f1 : ((i : Int) % 32 == 31) = false := by rw [beq_eq_false_iff_ne]; omega
        by_cases g2 : (i : Int) = (n : Int) - 1
        · have f2 : ((i : Int) == (n : Int) - 1) = true := by rw [beq_iff_eq]; exact g2
          have G2 : Hid (i + 1 = n) := by show _ = _; omega
          clear g2
          go_wp2_with (first | (at_builtin; refine wpList_append_own _ rfl _ _ 41 rfl base 5 i3 z3 1 1 Tryd.underlying41 HI.out.1 HI.out.2.1 HI.out.2.2.1 HI.out.2.2.2.1 HI.out.2.2.2.2 (by decide) (.slice p' (m + 2) c') (m + 2) (by8 (blkP ds i ++ hexD x)) rfl (HO2.out.alloc _) ⟨w2.heap.size, 0, .none⟩ 1 1 (by8 [10]) rfl rfl (le_cell1_new _ _ _) (by8_one _) ?c4 ?c5 ?c6 ?_) | fail)
          case c4 => have := HM.out; have := H.out.2.2.2.2.1; simp only [maxLen]; omega
          case c5 => have := HM.out; have := H.out.2.2.2.2.1; omega
          case c6 => exact Nat.le_trans HBW.out (Nat.le_trans (by have := HSZ.out; exact this) (by simp))
          intro v3 w3 own' grow fb
          clear fb
          have HG3 : Hid (Below base w w3) := HG.out.trans (below_append (Below.refl _ _) _ grow (Nat.le_trans HBW.out HSZ.out) (fun k hk => own_block HO2.out k hk))
          rw [← by8_app, ← HNX.out [10] (if_pos (by exact .inr G2.out))] at own'
          obtain ⟨p3, c3, rfl⟩ := one_slice own'
          have hl3 : (blkP ds (i + 1)).length = m + 3 := by rw [HNX.out [10] (if_pos (by exact .inr G2.out)), List.length_append, List.length_append, HO.out.2.1]; rfl
          have HO3 : Hid (w3.ownsRow base 5 1 (.slice p3 (m + 3) c3) (m + 3) (by8 (blkP ds (i + 1))) ∧ (blkP ds (i + 1)).length = m + 3) := ⟨own', hl3⟩
          clear own' grow hl3 hm32 w2'
          go_wp2
          exact ⟨⟨i + 1, by omega, by go_num, _, _, _, rfl, HO3.out.1, HO3.out.2, HG3.out⟩, by simp only [intOf]; omega⟩
        · have f2 : ((i : Int) == (n : Int) - 1) = false := by rw [beq_eq_false_iff_ne]; exact g2
          have hl3 : blkP ds (i + 1) = blkP ds i ++ hexD x := by rw [HNX.out [] (if_neg (by omega)), List.append_nil]
          have HO3 : Hid (w2.ownsRow base 5 1 (.slice p' (m + 2) c') (m + 2) (by8 (blkP ds (i + 1))) ∧ (blkP ds (i + 1)).length = m + 2) := ⟨by rw [hl3]; exact HO2.out, by rw [hl3, List.length_append, HO.out.2.1]; rfl⟩
          clear hl3 g2
          go_wp2
          exact ⟨⟨i + 1, by omega, by go_num, _, _, _, rfl, HO3.out.1, HO3.out.2, HG.out⟩, by simp only [intOf]; omega⟩
    · have g0 : ¬ (i : Int) < n := by omega
      obtain rfl : i = n := by omega
      have ho := HO.out.1
      have hl := HO.out.2.1
      have hcv := conv_any ho hl
      have HTX : Hid (toB (blkP ds i) ++ (⟨#[101, 110, 100, 10]⟩ : ByteArray) = toB (blkP ds i ++ [101, 110, 100, 10])) := toB_app _ _
      have hz : ¬ 9223372036854775807 < (toB (blkP ds i)).size + 4 := by rw [toB_size, hl]; have := HM.out; have := H.out.2.2.2.2.1; omega
      clear ho hl w1
      go_wp2
      go_ret
      exact ⟨congrArg (fun s => Ending.returned (.string s)) HTX.out, HO.out.2.2⟩
end Go.Proofs.YtjbealefopajcaaDoor
