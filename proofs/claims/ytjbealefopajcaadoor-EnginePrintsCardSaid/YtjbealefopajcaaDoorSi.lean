import Derived.Test.YtjbealefopajcaaDoorSg
import Derived.Test.YtjbealefopajcaaDoorSh
namespace Go.Proofs.YtjbealefopajcaaDoor
open Go Go.RowKit Rg
set_option linter.unusedVariables false
set_option linter.unusedSimpArgs false
/-- A byte in a quoted word. -/
def qb (x : Int) : List Int := if x = 10 then [92, 110] else if x = 9 then [92, 116] else if x = 13 then [92, 114] else if x = 34 then [92, 34] else if x = 92 then [92, 92] else if x < 32 ∨ 126 < x then [92, 120] ++ hexD x else [x]
def lts : ByteArray := ⟨#[10, 9, 13, 34, 92]⟩
theorem ixB : ∀ x : Fin 256, x.1 ≠ 10 → x.1 ≠ 9 → x.1 ≠ 13 → x.1 ≠ 34 → x.1 ≠ 92 → Lib.indexByte [10, 9, 13, 34, 92] (((x.1 : Nat) : Int).toNat.toUInt8) = -1 := by decide +kernel
theorem ixB_any (x : Int) (h : 0 ≤ x ∧ x < 256) (h1 : x ≠ 10) (h2 : x ≠ 9) (h3 : x ≠ 13) (h4 : x ≠ 34) (h5 : x ≠ 92) : Lib.indexByte [10, 9, 13, 34, 92] x.toNat.toUInt8 = -1 := by
  have := ixB ⟨x.toNat, by omega⟩ (by show x.toNat ≠ 10; omega) (by show x.toNat ≠ 9; omega) (by show x.toNat ≠ 13; omega) (by show x.toNat ≠ 34; omega) (by show x.toNat ≠ 92; omega)
  rwa [show (((⟨x.toNat, by omega⟩ : Fin 256).1 : Nat) : Int) = x by simp; omega] at this
theorem ixb_any (x : Int) (w : World) : Calls Tryd.prog 47 #[.string lts, .int .u8 x] w fun e w' => e = .returned (.int .i64 (Lib.indexByte [10, 9, 13, 34, 92] x.toNat.toUInt8)) ∧ w' = w := Tryd.strings_IndexByte lts x w
set_option maxHeartbeats 2000000 in
theorem quoted_any {base n c : Nat} {p : Option Addr} {ys : List Int} {w : World} (hb : base ≤ w.heap.size) (ho : w.ownsRow base 5 1 (.slice p n c) n (by8 ys)) (hn : ys.length = n) (hm : n ≤ 100000000000) (x : Int) (hx : 0 ≤ x ∧ x < 256) :
    Calls Tryd.prog 40 #[.slice p n c, .int .u8 x] w (OwB base w (ys ++ qb x)) := by
  obtain ⟨i3, z3, hi3, hz3, hs3, hb3, hzs3⟩ := byte_info
  have HI : Hid (Tryd.prog.info? 5 = some i3 ∧ i3.zero = some z3 ∧ i3.size = 1 ∧ i3.bytes = 1 ∧ z3.cells.size = 1) := ⟨hi3, hz3, hs3, hb3, hzs3⟩
  clear hi3 hz3 hs3 hb3 hzs3
  have HO : Hid (w.ownsRow base 5 1 (.slice p n c) n (by8 ys) ∧ base ≤ w.heap.size ∧ ys.length = n) := ⟨ho, hb, hn⟩
  clear ho hb hn
  have c47 := ixb_any x w
  have fin : ∀ (v : Value) (w2 : World) (zs : List Int), qb x = zs → w2.ownsRow base 5 1 v (n + zs.length) (by8 ys ++ by8 zs) → Below base w w2 → OwB base w (ys ++ qb x) (.returned v) w2 := fun v w2 zs hz h1 h2 => by
    obtain ⟨p', c', rfl⟩ := one_slice h1
    have e : (ys ++ qb x).length = n + zs.length := by rw [List.length_append, HO.out.2.2, hz]
    refine ⟨p', c', by rw [e], ?_, h2⟩
    rw [← by8_app] at h1
    rw [e, hz]
    exact h1
  have HF : Hid (∀ (v : Value) (w2 : World) (zs : List Int), qb x = zs → w2.ownsRow base 5 1 v (n + zs.length) (by8 ys ++ by8 zs) → Below base w w2 → OwB base w (ys ++ qb x) (.returned v) w2) := fin
  clear fin
  go_enter Tryd.func40, Tryd.ntmps40
  by_cases h10 : x = 10
  · subst h10
    have ek : Lib.indexByte [10, 9, 13, 34, 92] (10 : Int).toNat.toUInt8 = 0 := by decide
    rw [ek] at c47
    clear ek
    go_wp2_with (first | (go_at_call 47; refine c47.mono ?_; rintro _ w9 ⟨rfl, e9⟩; rw [e9]; clear e9 w9) | (at_builtin; refine wpList_append_own _ rfl _ _ 41 rfl base 5 i3 z3 1 1 Tryd.underlying41 HI.out.1 HI.out.2.1 HI.out.2.2.1 HI.out.2.2.2.1 HI.out.2.2.2.2 (by decide) (.slice p n c) n (by8 ys) rfl (HO.out.1.alloc _) ⟨w.heap.size, 0, .none⟩ 2 2 (by8 [92, 110]) rfl rfl (cell2_new _ _ _ _) (by8_one _) ?c4 ?c5 ?c6 ?_) | fail)
    case c4 => simp only [maxLen]; omega
    case c5 => omega
    case c6 => exact Nat.le_trans HO.out.2.1 (by simp)
    intro v' w2 own' grow fb
    clear fb
    have HG : Hid (w2.ownsRow base 5 1 v' (n + 2) (by8 ys ++ by8 [92, 110]) ∧ Below base w w2) := ⟨own', below_append (Below.refl _ _) _ grow HO.out.2.1 (fun k hk => own_block HO.out.1 k hk)⟩
    obtain ⟨p', c', rfl⟩ := one_slice own'
    clear own' grow
    go_wp2
    go_ret
    exact HF.out _ _ [92, 110] (by decide) HG.out.1 HG.out.2
  by_cases h9 : x = 9
  · subst h9
    have ek : Lib.indexByte [10, 9, 13, 34, 92] (9 : Int).toNat.toUInt8 = 1 := by decide
    rw [ek] at c47
    clear ek
    go_wp2_with (first | (go_at_call 47; refine c47.mono ?_; rintro _ w9 ⟨rfl, e9⟩; rw [e9]; clear e9 w9) | (at_builtin; refine wpList_append_own _ rfl _ _ 41 rfl base 5 i3 z3 1 1 Tryd.underlying41 HI.out.1 HI.out.2.1 HI.out.2.2.1 HI.out.2.2.2.1 HI.out.2.2.2.2 (by decide) (.slice p n c) n (by8 ys) rfl (HO.out.1.alloc _) ⟨w.heap.size, 0, .none⟩ 2 2 (by8 [92, 116]) rfl rfl (cell2_new _ _ _ _) (by8_one _) ?c4 ?c5 ?c6 ?_) | fail)
    case c4 => simp only [maxLen]; omega
    case c5 => omega
    case c6 => exact Nat.le_trans HO.out.2.1 (by simp)
    intro v' w2 own' grow fb
    clear fb
    have HG : Hid (w2.ownsRow base 5 1 v' (n + 2) (by8 ys ++ by8 [92, 116]) ∧ Below base w w2) := ⟨own', below_append (Below.refl _ _) _ grow HO.out.2.1 (fun k hk => own_block HO.out.1 k hk)⟩
    obtain ⟨p', c', rfl⟩ := one_slice own'
    clear own' grow
    go_wp2
    go_ret
    exact HF.out _ _ [92, 116] (by decide) HG.out.1 HG.out.2
  by_cases h13 : x = 13
  · subst h13
    have ek : Lib.indexByte [10, 9, 13, 34, 92] (13 : Int).toNat.toUInt8 = 2 := by decide
    rw [ek] at c47
    clear ek
    go_wp2_with (first | (go_at_call 47; refine c47.mono ?_; rintro _ w9 ⟨rfl, e9⟩; rw [e9]; clear e9 w9) | (at_builtin; refine wpList_append_own _ rfl _ _ 41 rfl base 5 i3 z3 1 1 Tryd.underlying41 HI.out.1 HI.out.2.1 HI.out.2.2.1 HI.out.2.2.2.1 HI.out.2.2.2.2 (by decide) (.slice p n c) n (by8 ys) rfl (HO.out.1.alloc _) ⟨w.heap.size, 0, .none⟩ 2 2 (by8 [92, 114]) rfl rfl (cell2_new _ _ _ _) (by8_one _) ?c4 ?c5 ?c6 ?_) | fail)
    case c4 => simp only [maxLen]; omega
    case c5 => omega
    case c6 => exact Nat.le_trans HO.out.2.1 (by simp)
    intro v' w2 own' grow fb
    clear fb
    have HG : Hid (w2.ownsRow base 5 1 v' (n + 2) (by8 ys ++ by8 [92, 114]) ∧ Below base w w2) := ⟨own', below_append (Below.refl _ _) _ grow HO.out.2.1 (fun k hk => own_block HO.out.1 k hk)⟩
    obtain ⟨p', c', rfl⟩ := one_slice own'
    clear own' grow
    go_wp2
    go_ret
    exact HF.out _ _ [92, 114] (by decide) HG.out.1 HG.out.2
  by_cases h34 : x = 34
  · subst h34
    have ek : Lib.indexByte [10, 9, 13, 34, 92] (34 : Int).toNat.toUInt8 = 3 := by decide
    rw [ek] at c47
    clear ek
    go_wp2_with (first | (go_at_call 47; refine c47.mono ?_; rintro _ w9 ⟨rfl, e9⟩; rw [e9]; clear e9 w9) | (at_builtin; refine wpList_append_own _ rfl _ _ 41 rfl base 5 i3 z3 1 1 Tryd.underlying41 HI.out.1 HI.out.2.1 HI.out.2.2.1 HI.out.2.2.2.1 HI.out.2.2.2.2 (by decide) (.slice p n c) n (by8 ys) rfl (HO.out.1.alloc _) ⟨w.heap.size, 0, .none⟩ 2 2 (by8 [92, 34]) rfl rfl (cell2_new _ _ _ _) (by8_one _) ?c4 ?c5 ?c6 ?_) | fail)
    case c4 => simp only [maxLen]; omega
    case c5 => omega
    case c6 => exact Nat.le_trans HO.out.2.1 (by simp)
    intro v' w2 own' grow fb
    clear fb
    have HG : Hid (w2.ownsRow base 5 1 v' (n + 2) (by8 ys ++ by8 [92, 34]) ∧ Below base w w2) := ⟨own', below_append (Below.refl _ _) _ grow HO.out.2.1 (fun k hk => own_block HO.out.1 k hk)⟩
    obtain ⟨p', c', rfl⟩ := one_slice own'
    clear own' grow
    go_wp2
    go_ret
    exact HF.out _ _ [92, 34] (by decide) HG.out.1 HG.out.2
  by_cases h92 : x = 92
  · subst h92
    have ek : Lib.indexByte [10, 9, 13, 34, 92] (92 : Int).toNat.toUInt8 = 4 := by decide
    rw [ek] at c47
    clear ek
    go_wp2_with (first | (go_at_call 47; refine c47.mono ?_; rintro _ w9 ⟨rfl, e9⟩; rw [e9]; clear e9 w9) | (at_builtin; refine wpList_append_own _ rfl _ _ 41 rfl base 5 i3 z3 1 1 Tryd.underlying41 HI.out.1 HI.out.2.1 HI.out.2.2.1 HI.out.2.2.2.1 HI.out.2.2.2.2 (by decide) (.slice p n c) n (by8 ys) rfl (HO.out.1.alloc _) ⟨w.heap.size, 0, .none⟩ 2 2 (by8 [92, 92]) rfl rfl (cell2_new _ _ _ _) (by8_one _) ?c4 ?c5 ?c6 ?_) | fail)
    case c4 => simp only [maxLen]; omega
    case c5 => omega
    case c6 => exact Nat.le_trans HO.out.2.1 (by simp)
    intro v' w2 own' grow fb
    clear fb
    have HG : Hid (w2.ownsRow base 5 1 v' (n + 2) (by8 ys ++ by8 [92, 92]) ∧ Below base w w2) := ⟨own', below_append (Below.refl _ _) _ grow HO.out.2.1 (fun k hk => own_block HO.out.1 k hk)⟩
    obtain ⟨p', c', rfl⟩ := one_slice own'
    clear own' grow
    go_wp2
    go_ret
    exact HF.out _ _ [92, 92] (by decide) HG.out.1 HG.out.2
  have ek := ixB_any x hx h10 h9 h13 h34 h92
  rw [ek] at c47
  have HQ : Hid (qb x = if x < 32 ∨ 126 < x then [92, 120] ++ hexD x else [x]) := by show _ = _; unfold qb; rw [if_neg h10, if_neg h9, if_neg h13, if_neg h34, if_neg h92]
  clear ek h10 h9 h13 h34 h92
  by_cases g1 : x < 32
  · skip
    go_wp2_with (first | (go_at_call 47; refine c47.mono ?_; rintro _ w9 ⟨rfl, e9⟩; rw [e9]; clear e9 w9) | (at_builtin; refine wpList_append_own _ rfl _ _ 41 rfl base 5 i3 z3 1 1 Tryd.underlying41 HI.out.1 HI.out.2.1 HI.out.2.2.1 HI.out.2.2.2.1 HI.out.2.2.2.2 (by decide) (.slice p n c) n (by8 ys) rfl (HO.out.1.alloc _) ⟨w.heap.size, 0, .none⟩ 2 2 (by8 [92, 120]) rfl rfl (cell2_new _ _ _ _) (by8_one _) ?c4 ?c5 ?c6 ?_) | fail)
    case c4 => simp only [maxLen]; omega
    case c5 => omega
    case c6 => exact Nat.le_trans HO.out.2.1 (by simp)
    intro v' w2 own' grow fb
    clear fb
    have HG : Hid (w2.ownsRow base 5 1 v' (n + 2) (by8 ys ++ by8 [92, 120]) ∧ Below base w w2) := ⟨own', below_append (Below.refl _ _) _ grow HO.out.2.1 (fun k hk => own_block HO.out.1 k hk)⟩
    obtain ⟨p', c', rfl⟩ := one_slice own'
    clear own' grow
    have c48 := digits_any (base := base) (p := p') (c := c') (ys := ys ++ [92, 120]) (n := n + 2) (w := w2) (Nat.le_trans HO.out.2.1 (by have := HG.out.2.size; exact this)) (by have h1 := HG.out.1; rw [← by8_app] at h1; exact h1) (by rw [List.length_append, HO.out.2.2]; rfl) (by omega) x hx
    have eL : (ys ++ [92, 120] ++ hexD x).length = n + 4 := by rw [List.length_append, List.length_append, HO.out.2.2]; rfl
    have HL4 : Hid ((ys ++ [92, 120] ++ hexD x).length = n + 4) := eL
    clear eL
    go_wp2_with (go_at_call 48; refine c48.mono ?_; rintro _ w9 ⟨p5, c5, rfl, o5, b5⟩; rw [HL4.out] at o5 ⊢; have O5 : Hid (w9.ownsRow base 5 1 (.slice p5 (n + 4) c5) (n + 4) (by8 (ys ++ [92, 120] ++ hexD x)) ∧ Below base w2 w9) := ⟨o5, b5⟩; clear o5 b5)
    go_ret
    have hz := HQ.out
    rw [if_pos (by omega)] at hz
    have o5 := O5.out.1
    rw [List.append_assoc, by8_app] at o5
    exact HF.out _ _ _ hz o5 (HG.out.2.trans O5.out.2)
  by_cases g2 : 126 < x
  · skip
    go_wp2_with (first | (go_at_call 47; refine c47.mono ?_; rintro _ w9 ⟨rfl, e9⟩; rw [e9]; clear e9 w9) | (at_builtin; refine wpList_append_own _ rfl _ _ 41 rfl base 5 i3 z3 1 1 Tryd.underlying41 HI.out.1 HI.out.2.1 HI.out.2.2.1 HI.out.2.2.2.1 HI.out.2.2.2.2 (by decide) (.slice p n c) n (by8 ys) rfl (HO.out.1.alloc _) ⟨w.heap.size, 0, .none⟩ 2 2 (by8 [92, 120]) rfl rfl (cell2_new _ _ _ _) (by8_one _) ?c4 ?c5 ?c6 ?_) | fail)
    case c4 => simp only [maxLen]; omega
    case c5 => omega
    case c6 => exact Nat.le_trans HO.out.2.1 (by simp)
    intro v' w2 own' grow fb
    clear fb
    have HG : Hid (w2.ownsRow base 5 1 v' (n + 2) (by8 ys ++ by8 [92, 120]) ∧ Below base w w2) := ⟨own', below_append (Below.refl _ _) _ grow HO.out.2.1 (fun k hk => own_block HO.out.1 k hk)⟩
    obtain ⟨p', c', rfl⟩ := one_slice own'
    clear own' grow
    have c48 := digits_any (base := base) (p := p') (c := c') (ys := ys ++ [92, 120]) (n := n + 2) (w := w2) (Nat.le_trans HO.out.2.1 (by have := HG.out.2.size; exact this)) (by have h1 := HG.out.1; rw [← by8_app] at h1; exact h1) (by rw [List.length_append, HO.out.2.2]; rfl) (by omega) x hx
    have eL : (ys ++ [92, 120] ++ hexD x).length = n + 4 := by rw [List.length_append, List.length_append, HO.out.2.2]; rfl
    have HL4 : Hid ((ys ++ [92, 120] ++ hexD x).length = n + 4) := eL
    clear eL
    go_wp2_with (go_at_call 48; refine c48.mono ?_; rintro _ w9 ⟨p5, c5, rfl, o5, b5⟩; rw [HL4.out] at o5 ⊢; have O5 : Hid (w9.ownsRow base 5 1 (.slice p5 (n + 4) c5) (n + 4) (by8 (ys ++ [92, 120] ++ hexD x)) ∧ Below base w2 w9) := ⟨o5, b5⟩; clear o5 b5)
    go_ret
    have hz := HQ.out
    rw [if_pos (by omega)] at hz
    have o5 := O5.out.1
    rw [List.append_assoc, by8_app] at o5
    exact HF.out _ _ _ hz o5 (HG.out.2.trans O5.out.2)
  go_wp2_with (first | (go_at_call 47; refine c47.mono ?_; rintro _ w9 ⟨rfl, e9⟩; rw [e9]; clear e9 w9) | (at_builtin; refine wpList_append_own _ rfl _ _ 41 rfl base 5 i3 z3 1 1 Tryd.underlying41 HI.out.1 HI.out.2.1 HI.out.2.2.1 HI.out.2.2.2.1 HI.out.2.2.2.2 (by decide) (.slice p n c) n (by8 ys) rfl (HO.out.1.alloc _) ⟨w.heap.size, 0, .none⟩ 1 1 (by8 [x]) rfl rfl (le_cell1_new _ _ _) (by8_one _) ?c4 ?c5 ?c6 ?_) | fail)
  case c4 => simp only [maxLen]; omega
  case c5 => omega
  case c6 => exact Nat.le_trans HO.out.2.1 (by simp)
  intro v' w2 own' grow fb
  clear fb
  have HG : Hid (w2.ownsRow base 5 1 v' (n + 1) (by8 ys ++ by8 [x]) ∧ Below base w w2) := ⟨own', below_append (Below.refl _ _) _ grow HO.out.2.1 (fun k hk => own_block HO.out.1 k hk)⟩
  obtain ⟨p', c', rfl⟩ := one_slice own'
  clear own' grow
  go_wp2
  go_ret
  have hz := HQ.out
  rw [if_neg (by omega)] at hz
  exact HF.out _ _ [x] hz HG.out.1 HG.out.2
end Go.Proofs.YtjbealefopajcaaDoor
