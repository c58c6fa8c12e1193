import Derived.Test.YtjbealefopajcaaDoorSk
import Derived.Deep.CutBlock
namespace Go.Proofs.YtjbealefopajcaaDoor
open Go Go.RowKit Rg
set_option linter.unusedVariables false
set_option linter.unusedSimpArgs false
theorem td16 : ∀ x : Fin 256, IntKind.u8.wrap ((((x : Nat) : Int)).tdiv 16) = ((x : Nat) : Int) / 16 := by decide +kernel
theorem tm16 : ∀ x : Fin 256, (((x : Nat) : Int)).tmod 16 = ((x : Nat) : Int) % 16 := by decide +kernel
theorem td16_any (x : Int) (h : 0 ≤ x ∧ x < 256) : IntKind.u8.wrap (x.tdiv 16) = x / 16 := by
  have := td16 ⟨x.toNat, by omega⟩
  rwa [show (((⟨x.toNat, by omega⟩ : Fin 256) : Nat) : Int) = x by simp; omega] at this
theorem tm16_any (x : Int) (h : 0 ≤ x ∧ x < 256) : x.tmod 16 = x % 16 := by
  have := tm16 ⟨x.toNat, by omega⟩
  rwa [show (((⟨x.toNat, by omega⟩ : Fin 256) : Nat) : Int) = x by simp; omega] at this
theorem cell4_new (w : World) (x y z u : Int) (t : TypeId) : ∀ j v, (by8 [x, y, z, u])[j]? = some v → (w.alloc (.cells #[.int .u8 x, .int .u8 y, .int .u8 z, .int .u8 u] t)).cell? ((⟨w.heap.size, 0, .none⟩ : Addr).add j) = some v := by
  intro j v hu
  match j, hu with
  | 0, hu => injection hu with hu; subst hu; simp [Addr.add]
  | 1, hu => injection hu with hu; subst hu; simp [Addr.add]
  | 2, hu => injection hu with hu; subst hu; simp [Addr.add]
  | 3, hu => injection hu with hu; subst hu; simp [Addr.add]
set_option maxHeartbeats 2000000 in
theorem rquote_any (s : ByteArray) (hs : s.size ≤ 10000000000) (w : World) : Calls Tryd.prog 18 #[.string s] w fun e w' => e = .returned (.string (toB (qt (bsI s)))) ∧ Below w.heap.size w w' := by
  obtain ⟨i3, z3, hi3, hz3, hs3, hb3, hzs3⟩ := byte_info
  have HI : Hid (Tryd.prog.info? 5 = some i3 ∧ i3.zero = some z3 ∧ i3.size = 1 ∧ i3.bytes = 1 ∧ z3.cells.size = 1) := ⟨hi3, hz3, hs3, hb3, hzs3⟩
  clear hi3 hz3 hs3 hb3 hzs3
  obtain ⟨base, hbase⟩ : ∃ base, base = w.heap.size := ⟨_, rfl⟩
  rw [← hbase]
  have HB : Hid (base = w.heap.size ∧ s.size ≤ 10000000000) := ⟨hbase, hs⟩
  have own0 : (w.alloc (.cells #[.int .u8 34] 5)).ownsRow base 5 1 (.slice (some ⟨base, 0, .none⟩) 1 1) 1 (by8 [34]) := by
    rw [hbase]
    exact bx_own (t := 5) (k := 1) (cs := [.int .u8 34]) (by show (w.heap.push _)[w.heap.size]? = _; simp) rfl (Nat.le_refl _)
  have HO0 : Hid ((w.alloc (.cells #[.int .u8 34] 5)).ownsRow base 5 1 (.slice (some ⟨base, 0, .none⟩) 1 1) 1 (by8 [34]) ∧ Below base w (w.alloc (.cells #[.int .u8 34] 5))) := ⟨own0, by rw [hbase]; exact below1 _ _⟩
  obtain ⟨n, hn⟩ : ∃ n, n = s.size := ⟨_, rfl⟩
  have HN : Hid (n = s.size ∧ n ≤ 10000000000) := ⟨hn, by omega⟩
  clear own0 hs
  go_enter Tryd.func18, Tryd.ntmps18
  go_upto_region 2 with fail
  rw [← hbase]
  generalize (w.alloc (.cells #[.int .u8 34] 5)) = w1 at *
  clear hbase
  have e0 : ((s.size : Nat) : Int) = (n : Int) := by rw [hn]
  clear hn
  go_wp2_with fail
  go_loopw [3, 4] (fun v k wr => ∃ i : Nat, i ≤ n ∧ k = .int .i64 i ∧ ∃ q m cq, v = .slice q m cq ∧ Hid (wr.ownsRow base 5 1 (.slice q m cq) m (by8 ([34] ++ ((bsI s).take i).flatMap qb)) ∧ ([34] ++ ((bsI s).take i).flatMap qb).length = m ∧ Below base w wr)) (fun _ k _ => (n - intOf k).toNat)
  case atStart => exact ⟨0, by omega, rfl, _, _, _, rfl, HO0.out.1, rfl, HO0.out.2⟩
  case round =>
    obtain ⟨i, hi, rfl, q, m, cq, rfl, HO⟩ := hrel
    have hm : m ≤ 50000000000 := by
      have h1 := HO.out.2.1
      have h2 := flat_len4 ((bsI s).take i)
      have h3 := HN.out.2
      rw [List.length_append] at h1
      have h4 : ((bsI s).take i).length ≤ i := List.length_take_le _ _
      simp only [List.length_singleton] at h1
      omega
    have HM : Hid (m ≤ 50000000000) := hm
    clear hm
    by_cases hlt : i < n
    · have g0 : (i : Int) < n := by omega
      have hs : i < s.size := by rw [← HN.out.1]; exact hlt
      have hsz : ((i : Nat) : Int).toNat < s.size := by simpa using hs
      have w1 : IntKind.i64.wrap ((i : Int) + 1) = (i : Int) + 1 := by rw [IntKind.wrap_i64]; have := HN.out.2; omega
      obtain ⟨x, hx⟩ : ∃ x : Int, x = ((s[i].toNat : Nat) : Int) := ⟨_, rfl⟩
      have hxb : 0 ≤ x ∧ x < 256 := by rw [hx]; have := s[i].toNat_lt; omega
      have hat : (bsI s)[i]? = some x := by rw [hx]; exact at_ix s i hs
      have HBW : Hid (base ≤ wr.heap.size) := Nat.le_trans (by rw [HB.out.1]; exact Nat.le_refl _) HO.out.2.2.size
      have HR : Hid (∀ (p' : Option Addr) (c' : Nat) (w2 : World) (zs : List Int), qb x = zs → w2.ownsRow base 5 1 (.slice p' (m + zs.length) c') (m + zs.length) (by8 ([34] ++ ((bsI s).take i).flatMap qb) ++ by8 zs) → Below base wr w2 → w2.ownsRow base 5 1 (.slice p' (m + zs.length) c') (m + zs.length) (by8 ([34] ++ ((bsI s).take (i + 1)).flatMap qb)) ∧ ([34] ++ ((bsI s).take (i + 1)).flatMap qb).length = m + zs.length ∧ Below base w w2) := by
        intro p' c' w2 zs hz ho hb
        have e : [34] ++ ((bsI s).take (i + 1)).flatMap qb = [34] ++ ((bsI s).take i).flatMap qb ++ zs := by rw [← take_flat hat, hz, List.append_assoc]
        rw [e]
        refine ⟨by rw [by8_app]; exact ho, by rw [List.length_append, HO.out.2.1], HO.out.2.2.trans hb⟩
      go_upto_block 2 with fail
      rw [← hx]
      clear hx hat hsz hs e0
      by_cases h10 : x = 10
      · subst h10
        go_wp2_with (first | (at_builtin; refine wpList_append_own _ rfl _ _ 41 rfl base 5 i3 z3 1 1 Tryd.underlying41 HI.out.1 HI.out.2.1 HI.out.2.2.1 HI.out.2.2.2.1 HI.out.2.2.2.2 (by decide) (.slice q m cq) m (by8 ([34] ++ ((bsI s).take i).flatMap qb)) rfl (HO.out.1.alloc _) ⟨wr.heap.size, 0, .none⟩ 2 2 (by8 [92, 110]) rfl rfl (cell2_new _ _ _ _) (by8_one _) ?c4 ?c5 ?c6 ?_) | fail)
        case c4 => have := HM.out; simp only [maxLen]; omega
        case c5 => have := HM.out; omega
        case c6 => exact Nat.le_trans HBW.out (by simp)
        intro v' w2 own' grow fb
        clear fb
        have HG : Hid (Below base wr w2) := below_append (Below.refl _ _) _ grow HBW.out (fun k hk => own_block HO.out.1 k hk)
        obtain ⟨p', c', rfl⟩ := one_slice own'
        have HW2 : Hid (w2.ownsRow base 5 1 (.slice p' (m + 2) c') (m + 2) (by8 ([34] ++ ((bsI s).take (i + 1)).flatMap qb)) ∧ ([34] ++ ((bsI s).take (i + 1)).flatMap qb).length = m + 2 ∧ Below base w w2) := HR.out p' c' w2 [92, 110] (by decide) own' HG.out
        clear own' grow
        go_wp2
        exact ⟨⟨i + 1, by omega, by go_num, _, _, _, rfl, HW2.out.1, HW2.out.2.1, HW2.out.2.2⟩, by simp only [intOf]; omega⟩
      by_cases h9 : x = 9
      · subst h9
        go_wp2_with (first | (at_builtin; refine wpList_append_own _ rfl _ _ 41 rfl base 5 i3 z3 1 1 Tryd.underlying41 HI.out.1 HI.out.2.1 HI.out.2.2.1 HI.out.2.2.2.1 HI.out.2.2.2.2 (by decide) (.slice q m cq) m (by8 ([34] ++ ((bsI s).take i).flatMap qb)) rfl (HO.out.1.alloc _) ⟨wr.heap.size, 0, .none⟩ 2 2 (by8 [92, 116]) rfl rfl (cell2_new _ _ _ _) (by8_one _) ?c4 ?c5 ?c6 ?_) | fail)
        case c4 => have := HM.out; simp only [maxLen]; omega
        case c5 => have := HM.out; omega
        case c6 => exact Nat.le_trans HBW.out (by simp)
        intro v' w2 own' grow fb
        clear fb
        have HG : Hid (Below base wr w2) := below_append (Below.refl _ _) _ grow HBW.out (fun k hk => own_block HO.out.1 k hk)
        obtain ⟨p', c', rfl⟩ := one_slice own'
        have HW2 : Hid (w2.ownsRow base 5 1 (.slice p' (m + 2) c') (m + 2) (by8 ([34] ++ ((bsI s).take (i + 1)).flatMap qb)) ∧ ([34] ++ ((bsI s).take (i + 1)).flatMap qb).length = m + 2 ∧ Below base w w2) := HR.out p' c' w2 [92, 116] (by decide) own' HG.out
        clear own' grow
        go_wp2
        exact ⟨⟨i + 1, by omega, by go_num, _, _, _, rfl, HW2.out.1, HW2.out.2.1, HW2.out.2.2⟩, by simp only [intOf]; omega⟩
      by_cases h13 : x = 13
      · subst h13
        go_wp2_with (first | (at_builtin; refine wpList_append_own _ rfl _ _ 41 rfl base 5 i3 z3 1 1 Tryd.underlying41 HI.out.1 HI.out.2.1 HI.out.2.2.1 HI.out.2.2.2.1 HI.out.2.2.2.2 (by decide) (.slice q m cq) m (by8 ([34] ++ ((bsI s).take i).flatMap qb)) rfl (HO.out.1.alloc _) ⟨wr.heap.size, 0, .none⟩ 2 2 (by8 [92, 114]) rfl rfl (cell2_new _ _ _ _) (by8_one _) ?c4 ?c5 ?c6 ?_) | fail)
        case c4 => have := HM.out; simp only [maxLen]; omega
        case c5 => have := HM.out; omega
        case c6 => exact Nat.le_trans HBW.out (by simp)
        intro v' w2 own' grow fb
        clear fb
        have HG : Hid (Below base wr w2) := below_append (Below.refl _ _) _ grow HBW.out (fun k hk => own_block HO.out.1 k hk)
        obtain ⟨p', c', rfl⟩ := one_slice own'
        have HW2 : Hid (w2.ownsRow base 5 1 (.slice p' (m + 2) c') (m + 2) (by8 ([34] ++ ((bsI s).take (i + 1)).flatMap qb)) ∧ ([34] ++ ((bsI s).take (i + 1)).flatMap qb).length = m + 2 ∧ Below base w w2) := HR.out p' c' w2 [92, 114] (by decide) own' HG.out
        clear own' grow
        go_wp2
        exact ⟨⟨i + 1, by omega, by go_num, _, _, _, rfl, HW2.out.1, HW2.out.2.1, HW2.out.2.2⟩, by simp only [intOf]; omega⟩
      by_cases h34 : x = 34
      · subst h34
        go_wp2_with (first | (at_builtin; refine wpList_append_own _ rfl _ _ 41 rfl base 5 i3 z3 1 1 Tryd.underlying41 HI.out.1 HI.out.2.1 HI.out.2.2.1 HI.out.2.2.2.1 HI.out.2.2.2.2 (by decide) (.slice q m cq) m (by8 ([34] ++ ((bsI s).take i).flatMap qb)) rfl (HO.out.1.alloc _) ⟨wr.heap.size, 0, .none⟩ 2 2 (by8 [92, 34]) rfl rfl (cell2_new _ _ _ _) (by8_one _) ?c4 ?c5 ?c6 ?_) | fail)
        case c4 => have := HM.out; simp only [maxLen]; omega
        case c5 => have := HM.out; omega
        case c6 => exact Nat.le_trans HBW.out (by simp)
        intro v' w2 own' grow fb
        clear fb
        have HG : Hid (Below base wr w2) := below_append (Below.refl _ _) _ grow HBW.out (fun k hk => own_block HO.out.1 k hk)
        obtain ⟨p', c', rfl⟩ := one_slice own'
        have HW2 : Hid (w2.ownsRow base 5 1 (.slice p' (m + 2) c') (m + 2) (by8 ([34] ++ ((bsI s).take (i + 1)).flatMap qb)) ∧ ([34] ++ ((bsI s).take (i + 1)).flatMap qb).length = m + 2 ∧ Below base w w2) := HR.out p' c' w2 [92, 34] (by decide) own' HG.out
        clear own' grow
        go_wp2
        exact ⟨⟨i + 1, by omega, by go_num, _, _, _, rfl, HW2.out.1, HW2.out.2.1, HW2.out.2.2⟩, by simp only [intOf]; omega⟩
      by_cases h92 : x = 92
      · subst h92
        go_wp2_with (first | (at_builtin; refine wpList_append_own _ rfl _ _ 41 rfl base 5 i3 z3 1 1 Tryd.underlying41 HI.out.1 HI.out.2.1 HI.out.2.2.1 HI.out.2.2.2.1 HI.out.2.2.2.2 (by decide) (.slice q m cq) m (by8 ([34] ++ ((bsI s).take i).flatMap qb)) rfl (HO.out.1.alloc _) ⟨wr.heap.size, 0, .none⟩ 2 2 (by8 [92, 92]) rfl rfl (cell2_new _ _ _ _) (by8_one _) ?c4 ?c5 ?c6 ?_) | fail)
        case c4 => have := HM.out; simp only [maxLen]; omega
        case c5 => have := HM.out; omega
        case c6 => exact Nat.le_trans HBW.out (by simp)
        intro v' w2 own' grow fb
        clear fb
        have HG : Hid (Below base wr w2) := below_append (Below.refl _ _) _ grow HBW.out (fun k hk => own_block HO.out.1 k hk)
        obtain ⟨p', c', rfl⟩ := one_slice own'
        have HW2 : Hid (w2.ownsRow base 5 1 (.slice p' (m + 2) c') (m + 2) (by8 ([34] ++ ((bsI s).take (i + 1)).flatMap qb)) ∧ ([34] ++ ((bsI s).take (i + 1)).flatMap qb).length = m + 2 ∧ Below base w w2) := HR.out p' c' w2 [92, 92] (by decide) own' HG.out
        clear own' grow
        go_wp2
        exact ⟨⟨i + 1, by omega, by go_num, _, _, _, rfl, HW2.out.1, HW2.out.2.1, HW2.out.2.2⟩, by simp only [intOf]; omega⟩
      have HQ : Hid (qb x = if x < 32 ∨ 126 < x then [92, 120] ++ hexD x else [x]) := by show _ = _; unfold qb; rw [if_neg h10, if_neg h9, if_neg h13, if_neg h34, if_neg h92]
      have f34 : (x == 34) = false := by simp [h34]
      have f92 : (x == 92) = false := by simp [h92]
      by_cases g1 : x < 32
      · skip
        have hT : True := trivial
        go_upto_region 16 with fail
        refine region_set (fun _ => True) 7 [0] (by kernel_rfl) ?_
        refine sP 0 (.slice q m cq) rfl ?_ (fun ww => by go_simp)
        simp only [x0,x1,x2,x3,x4,x5,x6]
        refine sT 1 (.int .u8 x) rfl ?_ (fun ww hSw => by (try dsimp only at hSw); go_simp)
        simp only [x0,x1,x2,x3,x4,x5,x6]
        refine sT 2 (.int .u8 (x / 16)) rfl ?_ (fun ww hSw => by (try dsimp only at hSw); go_simp; exact td16_any x hxb)
        simp only [x0,x1,x2,x3,x4,x5,x6]
        refine sT 3 (.int .u8 (dgt (x / 16))) rfl ?_ (fun ww hSw => by (try dsimp only at hSw); go_simp; rw [dif_pos ⟨by omega, by omega⟩, dig_ok _ (by omega) (by omega)]; rfl)
        simp only [x0,x1,x2,x3,x4,x5,x6]
        refine sT 4 (.int .u8 x) rfl ?_ (fun ww hSw => by (try dsimp only at hSw); go_simp)
        simp only [x0,x1,x2,x3,x4,x5,x6]
        refine sT 5 (.int .u8 (x % 16)) rfl ?_ (fun ww hSw => by (try dsimp only at hSw); go_simp; exact tm16_any x hxb)
        simp only [x0,x1,x2,x3,x4,x5,x6]
        refine sT 6 (.int .u8 (dgt (x % 16))) rfl ?_ (fun ww hSw => by (try dsimp only at hSw); go_simp; rw [dif_pos ⟨by omega, by omega⟩, dig_ok _ (by omega) (by omega)]; rfl)
        simp only [x0,x1,x2,x3,x4,x5,x6]
        refine set_tail 3 7 _ _ _ _ (by kernel_rfl) (by decide) ?_
        simp only [List.toList_toArray, List.drop_succ_cons, List.drop_zero]
        go_wp2_with (first | (at_builtin; refine wpList_append_own _ rfl _ _ 41 rfl base 5 i3 z3 1 1 Tryd.underlying41 HI.out.1 HI.out.2.1 HI.out.2.2.1 HI.out.2.2.2.1 HI.out.2.2.2.2 (by decide) (.slice q m cq) m (by8 ([34] ++ ((bsI s).take i).flatMap qb)) rfl ((HO.out.1.drew).alloc _) ⟨wr.heap.size, 0, .none⟩ 4 4 (by8 [92, 120, dgt (x / 16), dgt (x % 16)]) rfl rfl (cell4_new _ _ _ _ _ _) (by8_one _) ?c4 ?c5 ?c6 ?_) | fail)
        case c4 => have := HM.out; simp only [maxLen]; omega
        case c5 => have := HM.out; omega
        case c6 => exact Nat.le_trans HBW.out (by simp)
        intro v' w2 own' grow fb
        clear fb
        have HG : Hid (Below base wr w2) := below_append (Below.refl _ _).drew _ grow HBW.out (fun k hk => own_block HO.out.1 k hk)
        obtain ⟨p', c', rfl⟩ := one_slice own'
        have HW2 : Hid (w2.ownsRow base 5 1 (.slice p' (m + 4) c') (m + 4) (by8 ([34] ++ ((bsI s).take (i + 1)).flatMap qb)) ∧ ([34] ++ ((bsI s).take (i + 1)).flatMap qb).length = m + 4 ∧ Below base w w2) := HR.out p' c' w2 [92, 120, dgt (x / 16), dgt (x % 16)] (by rw [HQ.out, if_pos (by omega)]; rfl) own' HG.out
        clear own' grow
        go_wp2
        exact ⟨⟨i + 1, by omega, by go_num, _, _, _, rfl, HW2.out.1, HW2.out.2.1, HW2.out.2.2⟩, by simp only [intOf]; omega⟩
      by_cases g2 : 126 < x
      · skip
        have hT : True := trivial
        go_upto_region 16 with fail
        refine region_set (fun _ => True) 7 [0] (by kernel_rfl) ?_
        refine sP 0 (.slice q m cq) rfl ?_ (fun ww => by go_simp)
        simp only [x0,x1,x2,x3,x4,x5,x6]
        refine sT 1 (.int .u8 x) rfl ?_ (fun ww hSw => by (try dsimp only at hSw); go_simp)
        simp only [x0,x1,x2,x3,x4,x5,x6]
        refine sT 2 (.int .u8 (x / 16)) rfl ?_ (fun ww hSw => by (try dsimp only at hSw); go_simp; exact td16_any x hxb)
        simp only [x0,x1,x2,x3,x4,x5,x6]
        refine sT 3 (.int .u8 (dgt (x / 16))) rfl ?_ (fun ww hSw => by (try dsimp only at hSw); go_simp; rw [dif_pos ⟨by omega, by omega⟩, dig_ok _ (by omega) (by omega)]; rfl)
        simp only [x0,x1,x2,x3,x4,x5,x6]
        refine sT 4 (.int .u8 x) rfl ?_ (fun ww hSw => by (try dsimp only at hSw); go_simp)
        simp only [x0,x1,x2,x3,x4,x5,x6]
        refine sT 5 (.int .u8 (x % 16)) rfl ?_ (fun ww hSw => by (try dsimp only at hSw); go_simp; exact tm16_any x hxb)
        simp only [x0,x1,x2,x3,x4,x5,x6]
        refine sT 6 (.int .u8 (dgt (x % 16))) rfl ?_ (fun ww hSw => by (try dsimp only at hSw); go_simp; rw [dif_pos ⟨by omega, by omega⟩, dig_ok _ (by omega) (by omega)]; rfl)
        simp only [x0,x1,x2,x3,x4,x5,x6]
        refine set_tail 3 7 _ _ _ _ (by kernel_rfl) (by decide) ?_
        simp only [List.toList_toArray, List.drop_succ_cons, List.drop_zero]
        go_wp2_with (first | (at_builtin; refine wpList_append_own _ rfl _ _ 41 rfl base 5 i3 z3 1 1 Tryd.underlying41 HI.out.1 HI.out.2.1 HI.out.2.2.1 HI.out.2.2.2.1 HI.out.2.2.2.2 (by decide) (.slice q m cq) m (by8 ([34] ++ ((bsI s).take i).flatMap qb)) rfl ((HO.out.1.drew).alloc _) ⟨wr.heap.size, 0, .none⟩ 4 4 (by8 [92, 120, dgt (x / 16), dgt (x % 16)]) rfl rfl (cell4_new _ _ _ _ _ _) (by8_one _) ?c4 ?c5 ?c6 ?_) | fail)
        case c4 => have := HM.out; simp only [maxLen]; omega
        case c5 => have := HM.out; omega
        case c6 => exact Nat.le_trans HBW.out (by simp)
        intro v' w2 own' grow fb
        clear fb
        have HG : Hid (Below base wr w2) := below_append (Below.refl _ _).drew _ grow HBW.out (fun k hk => own_block HO.out.1 k hk)
        obtain ⟨p', c', rfl⟩ := one_slice own'
        have HW2 : Hid (w2.ownsRow base 5 1 (.slice p' (m + 4) c') (m + 4) (by8 ([34] ++ ((bsI s).take (i + 1)).flatMap qb)) ∧ ([34] ++ ((bsI s).take (i + 1)).flatMap qb).length = m + 4 ∧ Below base w w2) := HR.out p' c' w2 [92, 120, dgt (x / 16), dgt (x % 16)] (by rw [HQ.out, if_pos (by omega)]; rfl) own' HG.out
        clear own' grow
        go_wp2
        exact ⟨⟨i + 1, by omega, by go_num, _, _, _, rfl, HW2.out.1, HW2.out.2.1, HW2.out.2.2⟩, by simp only [intOf]; omega⟩
      go_wp2_with (first | (at_builtin; refine wpList_append_own _ rfl _ _ 41 rfl base 5 i3 z3 1 1 Tryd.underlying41 HI.out.1 HI.out.2.1 HI.out.2.2.1 HI.out.2.2.2.1 HI.out.2.2.2.2 (by decide) (.slice q m cq) m (by8 ([34] ++ ((bsI s).take i).flatMap qb)) rfl (HO.out.1.alloc _) ⟨wr.heap.size, 0, .none⟩ 1 1 (by8 [x]) rfl rfl (le_cell1_new _ _ _) (by8_one _) ?c4 ?c5 ?c6 ?_) | fail)
      case c4 => have := HM.out; simp only [maxLen]; omega
      case c5 => have := HM.out; omega
      case c6 => exact Nat.le_trans HBW.out (by simp)
      intro v' w2 own' grow fb
      clear fb
      have HG : Hid (Below base wr w2) := below_append (Below.refl _ _) _ grow HBW.out (fun k hk => own_block HO.out.1 k hk)
      obtain ⟨p', c', rfl⟩ := one_slice own'
      have HW2 : Hid (w2.ownsRow base 5 1 (.slice p' (m + 1) c') (m + 1) (by8 ([34] ++ ((bsI s).take (i + 1)).flatMap qb)) ∧ ([34] ++ ((bsI s).take (i + 1)).flatMap qb).length = m + 1 ∧ Below base w w2) := HR.out p' c' w2 [x] (by rw [HQ.out, if_neg (by omega)]) own' HG.out
      clear own' grow
      go_wp2
      exact ⟨⟨i + 1, by omega, by go_num, _, _, _, rfl, HW2.out.1, HW2.out.2.1, HW2.out.2.2⟩, by simp only [intOf]; omega⟩
    · have g0 : ¬ (i : Int) < n := by omega
      obtain rfl : i = n := by omega
      have hb : base ≤ wr.heap.size := Nat.le_trans (by rw [HB.out.1]; exact Nat.le_refl _) HO.out.2.2.size
      have HBW : Hid (base ≤ wr.heap.size) := hb
      clear hb
      go_wp2_with (first | (at_builtin; refine wpList_append_own _ rfl _ _ 41 rfl base 5 i3 z3 1 1 Tryd.underlying41 HI.out.1 HI.out.2.1 HI.out.2.2.1 HI.out.2.2.2.1 HI.out.2.2.2.2 (by decide) (.slice q m cq) m (by8 ([34] ++ ((bsI s).take i).flatMap qb)) rfl (HO.out.1.alloc _) ⟨wr.heap.size, 0, .none⟩ 1 1 (by8 [34]) rfl rfl (le_cell1_new _ _ _) (by8_one _) ?c4 ?c5 ?c6 ?_) | fail)
      case c4 => have := HM.out; simp only [maxLen]; omega
      case c5 => have := HM.out; omega
      case c6 => exact Nat.le_trans HBW.out (by simp)
      intro v' w2 own' grow fb
      clear fb
      have HG : Hid (Below base w w2) := HO.out.2.2.trans (below_append (Below.refl _ _) _ grow HBW.out (fun k hk => own_block HO.out.1 k hk))
      obtain ⟨p', c', rfl⟩ := one_slice own'
      rw [← by8_app] at own'
      have hq : 34 :: ((bsI s).take i).flatMap qb ++ [34] = qt (bsI s) := by
        unfold qt
        rw [List.take_of_length_le (by rw [bsI_len, ← HN.out.1]; exact Nat.le_refl _)]
        rfl
      rw [hq] at own'
      have hl : (qt (bsI s)).length = m + 1 := by
        have h1 := HO.out.2.1
        rw [← hq]
        simp only [List.length_append, List.length_cons, List.length_nil] at h1 ⊢
        omega
      have hcv := conv_own own' hl (by omega)
      clear own' grow hq hl
      go_wp2
      go_ret
      exact ⟨rfl, HG.out⟩
end Go.Proofs.YtjbealefopajcaaDoor
