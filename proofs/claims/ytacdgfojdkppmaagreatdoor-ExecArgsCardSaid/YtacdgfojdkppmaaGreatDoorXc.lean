import Derived.Test.YtacdgfojdkppmaaGreatDoorRd9
import Derived.Test.YtacdgfojdkppmaaGreatDoorRd2
import Derived.Lib.LazyBuf
import Derived.Laws.Bits128
namespace Go.Proofs.YtacdgfojdkppmaaGreatDoor
open Go.RowKit
set_option linter.unusedVariables false
set_option linter.unusedSimpArgs false
/-- The pages from 0 to the last segment's end. -/
def ePg (S : List Sg) : Int := match S.getLast? with | none => 0 | some l => (l.va + l.mem + 4095) / 4096
theorem ePg_bound (E : List (Sg × Value)) (h : ∀ x ∈ E, Gd x.1) : 0 ≤ ePg (E.map (·.1)) ∧ ePg (E.map (·.1)) ≤ 262144 := by
 unfold ePg
 rw [List.getLast?_map]
 cases hl : E.getLast? with
 | none => simp
 | some l =>
  have hg := h l (List.mem_of_getLast? hl)
  have h1 := hg.v
  have h2 := hg.m
  have h3 := hg.e
  simp only [Option.map_some]
  omega
theorem below_any (va fl mem : Int) (dp : Option Addr) (dn dc : Nat) (w : World) (hv : 0 ≤ va) (hm : 0 ≤ mem) (he : va + mem ≤ 1073741824) :
  Calls Tryz.prog 109 #[.agg #[.int .u64 va, .int .u32 fl, .slice dp dn dc, .int .u64 mem]] w fun e w' => e = .returned (.int .i64 ((va + mem + 4095) / 4096)) ∧ Below w.heap.size w w' := by
 have h1 : IntKind.u64.wrap (va + mem) = va + mem := by rw [IntKind.wrap_u64]; omega
 have h2 : IntKind.u64.wrap (va + mem + 4096) = va + mem + 4096 := by rw [IntKind.wrap_u64]; omega
 have h3 : IntKind.u64.wrap (va + mem + 4096 - 1) = va + mem + 4095 := by rw [IntKind.wrap_u64]; omega
 go_enter Tryz.func109, Tryz.ntmps109
 go_wp2
 go_ret
 exact ⟨rfl, (Below.refl _ _).alloc (Nat.le_refl _) _⟩
theorem addr_any (k : Int) (w : World) (h : 0 ≤ k ∧ k ≤ 1000000) : Calls Tryz.prog 104 #[.int .i64 k] w fun e w' => e = .returned (.int .u64 (k * 4096)) ∧ w' = w := by
 have h1 : IntKind.u64.wrap k = k := by rw [IntKind.wrap_u64]; omega
 have h2 : IntKind.u64.wrap (k * 4096) = k * 4096 := by rw [IntKind.wrap_u64]; omega
 go_enter Tryz.func104, Tryz.ntmps104
 go_wp2
 go_ret
 exact ⟨rfl, rfl⟩
theorem nodes_any (k : Int) (w : World) (h : 0 ≤ k ∧ k ≤ 1000000) : Calls Tryz.prog 23 #[.int .i64 k] w fun e w' => e = .returned (.int .i64 (4 + (k + 511) / 512)) ∧ w' = w := by
 go_enter Tryz.func23, Tryz.ntmps23
 go_wp2
 go_ret
 exact ⟨rfl, rfl⟩
set_option maxHeartbeats 1000000 in
theorem guard_any {w : World} {X c : Nat} {q : Option Addr} {E : List (Sg × Value)} {B : Nat → Int} (h : Segs w X (.slice q E.length c) E B) (h0 : E ≠ []) (hl : E.length ≤ 8) (en sp : Int) (dp : Option Addr) (dn dc : Nat) :
  Calls Tryz.prog 65 #[.agg #[.int .u64 en, .slice q E.length c, .slice dp dn dc, .int .u64 sp]] w fun e w' => e = .returned (.int .i64 (ePg (E.map (·.1)))) ∧ Below w.heap.size w w' := by
 obtain ⟨q', c', e', hc1, hc2, hq⟩ := own_form h.own
 cases e'
 obtain ⟨l, hlast⟩ : ∃ l, E.getLast? = some l := ⟨E.getLast h0, List.getLast?_eq_some_getLast h0⟩
 have hn : 0 < E.length := List.length_pos_iff.2 h0
 obtain ⟨m, hm⟩ : ∃ m, E.length = m + 1 := ⟨E.length - 1, by omega⟩
 have hg : E[m]? = some l := by
  have : E.length - 1 = m := by omega
  rw [← this, ← List.getLast?_eq_getElem?]
  exact hlast
 have hP : ePg (E.map (·.1)) = (l.1.va + l.1.mem + 4095) / 4096 := by simp [ePg, List.getLast?_map, hlast]
 obtain ⟨f0, f1, f2, f3⟩ := flatE_get E _ l hg
 obtain ⟨g, rfl, a0⟩ := own_cell h.own f0 hn (by omega)
 obtain ⟨g1, e1, a1⟩ := own_cell h.own f1 hn (by omega)
 obtain ⟨g2, e2, a2⟩ := own_cell h.own f2 hn (by omega)
 obtain ⟨g3, e3, a3⟩ := own_cell h.own f3 hn (by omega)
 simp only [Option.some.injEq, Addr.mk.injEq, and_true] at e1 e2 e3
 subst e1 e2 e3
 have hgd := h.gd l (List.mem_of_getElem? hg)
 obtain ⟨ldq, ldc, hld, _⟩ := own_form (h.dat l (List.mem_of_getElem? hg))
 rw [hld] at a2
 have HB : Hid (Below w.heap.size w (w.alloc (.cells #[.int .u64 en, .slice (some ⟨g, 0, .none⟩) E.length c, .slice dp dn dc, .int .u64 sp] 75))) := (Below.refl _ _).alloc (Nat.le_refl _) _
 have b0 := (HB.out.cell (lt_of_cell a0)).trans a0
 have b1 := (HB.out.cell (lt_of_cell a1)).trans a1
 have b2 := (HB.out.cell (lt_of_cell a2)).trans a2
 have b3 := (HB.out.cell (lt_of_cell a3)).trans a3
 have hv := hgd.v
 have hmm := hgd.m
 have he := hgd.e
 have c1 := fun wx => below_any l.1.va l.1.fl l.1.mem ldq l.1.sz ldc wx hv hmm he
 rw [hP, hm]
 rw [hm] at HB b0 b1 b2 b3
 have hm8 : m < 8 := by omega
 have gi : (m : Int) < m + 1 := by omega
 clear h hlast hg f0 f1 f2 f3 a0 a1 a2 a3 hld hgd hP hl hc1 hn hm h0 hq
 go_enter Tryz.func65, Tryz.ntmps65
 go_wp2_with (go_at_call 109; refine (c1 _).mono ?_; rintro _ w1 ⟨rfl, hb1⟩)
 go_ret
 exact ⟨rfl, HB.out.trans (hb1.mono HB.out.size)⟩
theorem pages_any {w : World} {X c : Nat} {q : Option Addr} {E : List (Sg × Value)} {B : Nat → Int} (h : Segs w X (.slice q E.length c) E B) (h0 : E ≠ []) (hl : E.length ≤ 8) (en sp : Int) (dp : Option Addr) (dn dc : Nat) :
  Calls Tryz.prog 58 #[.agg #[.int .u64 en, .slice q E.length c, .slice dp dn dc, .int .u64 sp]] w fun e w' => e = .returned (.int .i64 (ePg (E.map (·.1)) + 2)) ∧ Below w.heap.size w w' := by
 have HB : Hid (Below w.heap.size w (w.alloc (.cells #[.int .u64 en, .slice q E.length c, .slice dp dn dc, .int .u64 sp] 75))) := (Below.refl _ _).alloc (Nat.le_refl _) _
 have c1 := guard_any (h.below HB.out) h0 hl en sp dp dn dc
 have hb := ePg_bound E h.gd
 clear h
 go_enter Tryz.func58, Tryz.ntmps58
 go_wp2_with (go_at_call 65; refine c1.mono ?_; rintro _ w1 ⟨rfl, hb1⟩)
 go_ret
 exact ⟨rfl, HB.out.trans (hb1.mono HB.out.size)⟩
theorem stackAt_any {w : World} {X c : Nat} {q : Option Addr} {E : List (Sg × Value)} {B : Nat → Int} (h : Segs w X (.slice q E.length c) E B) (h0 : E ≠ []) (hl : E.length ≤ 8) (en sp : Int) (dp : Option Addr) (dn dc : Nat) :
  Calls Tryz.prog 57 #[.agg #[.int .u64 en, .slice q E.length c, .slice dp dn dc, .int .u64 sp]] w fun e w' => e = .returned (.int .u64 ((ePg (E.map (·.1)) + 1) * 4096)) ∧ Below w.heap.size w w' := by
 have HB : Hid (Below w.heap.size w (w.alloc (.cells #[.int .u64 en, .slice q E.length c, .slice dp dn dc, .int .u64 sp] 75))) := (Below.refl _ _).alloc (Nat.le_refl _) _
 have c1 := pages_any (h.below HB.out) h0 hl en sp dp dn dc
 have hb := ePg_bound E h.gd
 clear h
 go_enter Tryz.func57, Tryz.ntmps57
 go_wp2_with first | (go_at_call 58; refine c1.mono ?_; rintro _ w1 ⟨rfl, hb1⟩) | (go_at_call 104; refine (addr_any _ _ (by omega)).mono ?_; rintro _ _ ⟨rfl, rfl⟩)
 go_ret
 refine ⟨congrArg Ending.returned (congrArg (Value.int .u64) ?_), HB.out.trans (hb1.mono HB.out.size)⟩
 omega
theorem demandP_any {w : World} {X c : Nat} {q : Option Addr} {E : List (Sg × Value)} {B : Nat → Int} (h : Segs w X (.slice q E.length c) E B) (h0 : E ≠ []) (hl : E.length ≤ 8) (en sp : Int) (dp : Option Addr) (dn dc : Nat) :
  Calls Tryz.prog 26 #[.agg #[.int .u64 en, .slice q E.length c, .slice dp dn dc, .int .u64 sp]] w fun e w' => e = .returned (.int .i64 (ePg (E.map (·.1)) + 6 + (ePg (E.map (·.1)) + 513) / 512)) ∧ Below w.heap.size w w' := by
 have HB : Hid (Below w.heap.size w (w.alloc (.cells #[.int .u64 en, .slice q E.length c, .slice dp dn dc, .int .u64 sp] 75))) := (Below.refl _ _).alloc (Nat.le_refl _) _
 have c1 := pages_any (h.below HB.out) h0 hl en sp dp dn dc
 have hb := ePg_bound E h.gd
 clear h
 go_enter Tryz.func26, Tryz.ntmps26
 go_wp2_with (go_at_call 58; refine c1.mono ?_; rintro _ w1 ⟨rfl, hb1⟩)
 go_ret
 refine ⟨congrArg Ending.returned (congrArg (Value.int .i64) ?_), HB.out.trans (hb1.mono HB.out.size)⟩
 omega
set_option maxHeartbeats 1000000 in
theorem pagesQ_any {w : World} {X c : Nat} {q : Option Addr} {E : List (Sg × Value)} {B : Nat → Int} (h : Segs w X (.slice q E.length c) E B) (h0 : E ≠ []) (hl : E.length ≤ 8) (en : Int) :
  Calls Tryz.prog 22 #[.agg #[.int .u64 en, .slice q E.length c]] w fun e w' => e = .returned (.int .i64 (ePg (E.map (·.1)))) ∧ Below w.heap.size w w' := by
 obtain ⟨q', c', e', hc1, hc2, hq⟩ := own_form h.own
 cases e'
 obtain ⟨l, hlast⟩ : ∃ l, E.getLast? = some l := ⟨E.getLast h0, List.getLast?_eq_some_getLast h0⟩
 have hn : 0 < E.length := List.length_pos_iff.2 h0
 obtain ⟨m, hm⟩ : ∃ m, E.length = m + 1 := ⟨E.length - 1, by omega⟩
 have hg : E[m]? = some l := by
  have : E.length - 1 = m := by omega
  rw [← this, ← List.getLast?_eq_getElem?]
  exact hlast
 have hP : ePg (E.map (·.1)) = (l.1.va + l.1.mem + 4095) / 4096 := by simp [ePg, List.getLast?_map, hlast]
 obtain ⟨f0, f1, f2, f3⟩ := flatE_get E _ l hg
 obtain ⟨g, rfl, a0⟩ := own_cell h.own f0 hn (by omega)
 obtain ⟨g1, e1, a1⟩ := own_cell h.own f1 hn (by omega)
 obtain ⟨g2, e2, a2⟩ := own_cell h.own f2 hn (by omega)
 obtain ⟨g3, e3, a3⟩ := own_cell h.own f3 hn (by omega)
 simp only [Option.some.injEq, Addr.mk.injEq, and_true] at e1 e2 e3
 subst e1 e2 e3
 have hgd := h.gd l (List.mem_of_getElem? hg)
 obtain ⟨ldq, ldc, hld, _⟩ := own_form (h.dat l (List.mem_of_getElem? hg))
 rw [hld] at a2
 have HB : Hid (Below w.heap.size w (w.alloc (.cells #[.int .u64 en, .slice (some ⟨g, 0, .none⟩) E.length c] 64))) := (Below.refl _ _).alloc (Nat.le_refl _) _
 have b0 := (HB.out.cell (lt_of_cell a0)).trans a0
 have b1 := (HB.out.cell (lt_of_cell a1)).trans a1
 have b2 := (HB.out.cell (lt_of_cell a2)).trans a2
 have b3 := (HB.out.cell (lt_of_cell a3)).trans a3
 have hv := hgd.v
 have hmm := hgd.m
 have he := hgd.e
 rw [hP, hm]
 rw [hm] at HB b0 b1 b2 b3
 have hm8 : m < 8 := by omega
 have gi : (m : Int) < m + 1 := by omega
 have h1 : IntKind.u64.wrap (l.1.va + l.1.mem) = l.1.va + l.1.mem := by rw [IntKind.wrap_u64]; omega
 have h2 : IntKind.u64.wrap (l.1.va + l.1.mem + 4096) = l.1.va + l.1.mem + 4096 := by rw [IntKind.wrap_u64]; omega
 have h3 : IntKind.u64.wrap (l.1.va + l.1.mem + 4096 - 1) = l.1.va + l.1.mem + 4095 := by rw [IntKind.wrap_u64]; omega
 clear h hlast hg f0 f1 f2 f3 a0 a1 a2 a3 hld hgd hP hl hc1 hn hm h0 hq
 go_enter Tryz.func22, Tryz.ntmps22
 go_wp2
 go_ret
 exact ⟨rfl, HB.out.alloc HB.out.size _⟩
end Go.Proofs.YtacdgfojdkppmaaGreatDoor
namespace Go.Proofs.YtacdgfojdkppmaaGreatDoor
open Go.RowKit Go.Shelf
set_option linter.unusedVariables false
set_option linter.unusedSimpArgs false
theorem nat_and15 (y : Nat) : y &&& 18446744073709551600 = y % 18446744073709551616 / 16 * 16 := by
 apply Nat.eq_of_testBit_eq
 intro i
 rw [Nat.testBit_and, show 18446744073709551600 = (2 ^ 60 - 1) <<< 4 by decide, show y % 18446744073709551616 / 16 * 16 = ((y % 2 ^ 64) >>> 4) <<< 4 by simp [Nat.shiftRight_eq_div_pow, Nat.shiftLeft_eq], Nat.testBit_shiftLeft, Nat.testBit_shiftLeft, Nat.testBit_two_pow_sub_one, Nat.testBit_shiftRight, Nat.testBit_mod_two_pow]
 by_cases h : 4 ≤ i
 ·rw [show 4 + (i - 4) = i by omega]
  by_cases h2 : i < 64
  ·simp [h, h2, show i - 4 < 60 by omega]
  ·simp [h, h2, show ¬ i - 4 < 60 by omega]
 ·simp [h]
theorem andNot15 (x : Int) (h : -4611686018427387904 ≤ x ∧ x < 4611686018427387904) : bits .andNot .i64 x 15 = x / 16 * 16 := by
 show IntKind.i64.wrap ((BitVec.ofInt 64 x &&& ~~~BitVec.ofInt 64 15).toNat : Int) = _
 have h1 : (BitVec.ofInt 64 15).toNat = 15 := by decide
 rw [BitVec.toNat_and, BitVec.toNat_not, h1, show 2 ^ 64 - 1 - 15 = 18446744073709551600 by decide, nat_and15, BitVec.toNat_ofInt]
 rw [IntKind.wrap_i64]
 omega
/-- Bytes. -/
def U8 (bs : List Int) : Prop := ∀ b ∈ bs, 0 ≤ b ∧ b < 256
/-- A number's lowest bytes, the low one first. -/
def l8 (x : Int) (n : Nat) : List Int := (List.range n).map fun i => x / 256 ^ i % 256
theorem l8_succ (x : Int) (n : Nat) : l8 x (n + 1) = l8 x n ++ [x / 256 ^ n % 256] := by
 unfold l8
 rw [List.range_succ, List.map_append]
 rfl
theorem l8_len (x : Int) (n : Nat) : (l8 x n).length = n := by simp [l8]
theorem l8_get (x : Int) {n i : Nat} (h : i < n) : (l8 x n)[i]? = some (x / 256 ^ i % 256) := by
 unfold l8
 rw [List.getElem?_map, List.getElem?_range h]
 rfl
theorem div_next (x : Int) (i : Nat) : x / 256 ^ i / 256 = x / 256 ^ (i + 1) := by
 have h : (0 : Int) ≤ 256 ^ i := Int.pow_nonneg (by decide)
 rw [Int.pow_succ, Int.ediv_ediv, if_neg (fun e => by omega), Int.sub_zero]
def ApP (w : World) (base n : Nat) (bs' : List Int) (e : Ending) (w' : World) : Prop := ∃ q' c', e = .returned (.slice q' n c') ∧ w'.ownsRow base 5 1 (.slice q' n c') n (by8 bs') ∧ U8 bs' ∧ Below base w w'
set_option maxHeartbeats 1000000 in
theorem appendA_any {w : World} {base n c : Nat} {q : Option Addr} {bs : List Int} (h : w.ownsRow base 5 1 (.slice q n c) n (by8 bs)) (hU : U8 bs) (hbase : base ≤ w.heap.size) (hn : n < 1000) (x : Int) (hx : 0 ≤ x ∧ x < 18446744073709551616) :
  Calls Tryz.prog 103 #[.slice q n c, .int .u64 x] w (ApP w base (n + 8) (bs ++ l8 x 8)) := by
 obtain ⟨i3, z3, hi3, hz3, hs3, hb3, hzs3⟩ := byte_info
 have HI : Hid (Tryz.prog.info? 5 = some i3 ∧ i3.zero = some z3 ∧ i3.size = 1 ∧ i3.bytes = 1 ∧ z3.cells.size = 1) := ⟨hi3, hz3, hs3, hb3, hzs3⟩
 clear hi3 hz3 hs3 hb3 hzs3
 have HO : Hid (w.ownsRow base 5 1 (.slice q n c) n (by8 bs) ∧ U8 bs) := ⟨h, hU⟩
 clear h hU
 go_enter Tryz.func103, Tryz.ntmps103
 go_wp2_with fail
 go_loopw [0, 1, 5] (fun v a k wr => ∃ i : Nat, i ≤ 8 ∧ k = .int .i64 i ∧ ∃ q' c' bs' y, v = .slice q' (n + i) c' ∧ a = .int .u64 y ∧ Hid (0 ≤ y ∧ y < 18446744073709551616) ∧ Hid (wr.ownsRow base 5 1 (.slice q' (n + i) c') (n + i) (by8 bs') ∧ U8 bs' ∧ Below base w wr) ∧ Hid (bs' = bs ++ l8 x i ∧ y = x / 256 ^ i)) (fun _ _ k _ => (8 - intOf k).toNat)
 case atStart => exact ⟨0, by omega, rfl, q, c, bs, x, rfl, rfl, hx, ⟨HO.out.1, HO.out.2, Below.refl _ _⟩, by simp [l8], by simp⟩
 case round =>
  obtain ⟨i, hi, rfl, q', c', bs', y, rfl, rfl, HY, HR, HE⟩ := hrel
  by_cases hlt : i < 8
  ·have g0 : (i : Int) < 8 := by omega
   have hy1 := HY.out.1
   have hy2 := HY.out.2
   have z1 := HR.out.2.2.size
   have hw8 : IntKind.u8.wrap y = y % 256 := by simp only [IntKind.wrap, IntKind.bits, IntKind.signed]; simp
   go_wp2_with (first | (at_builtin; refine wpList_append_own _ rfl _ _ 22 rfl base 5 i3 z3 1 1 Tryz.underlying22 HI.out.1 HI.out.2.1 HI.out.2.2.1 HI.out.2.2.2.1 HI.out.2.2.2.2 (by decide) (.slice q' (n + i) c') (n + i) (by8 bs') rfl (HR.out.1.alloc _) ⟨wr.heap.size, 0, .none⟩ 1 1 (by8 [y % 256]) rfl rfl (le_cell1_new _ _ _) (by8_one _) ?c4 ?c5 ?c6 ?_) | go_in)
   case c4 => simp only [maxLen]; omega
   case c5 => omega
   case c6 => simp only [World.size_alloc]; omega
   intro v' w2 own' grow fb
   clear fb
   obtain ⟨p', c2, rfl⟩ := one_slice own'
   have HW : Hid (w2.ownsRow base 5 1 (.slice p' (n + (i + 1)) c2) (n + (i + 1)) (by8 (bs' ++ [y % 256])) ∧ U8 (bs' ++ [y % 256]) ∧ Below base w w2) := by
    refine ⟨?_, ?_, below_append HR.out.2.2 _ grow (by omega) (own_block HR.out.1)⟩
    ·rw [by8_app]
     exact own'
    ·intro b hb
     rcases List.mem_append.1 hb with hb | hb
     ·exact HR.out.2.1 b hb
     ·rw [List.mem_singleton] at hb
      omega
   clear own' grow
   go_wp2
   exact ⟨⟨i + 1, by omega, rfl, p', c2, _, y / 256, rfl, rfl, ⟨by omega, by omega⟩, HW.out, by rw [HE.out.1, HE.out.2, l8_succ, List.append_assoc], by rw [HE.out.2, div_next]⟩, by simp only [intOf]; omega⟩
  ·obtain rfl : i = 8 := by omega
   go_wp2
   go_ret
   exact ⟨_, _, rfl, by rw [← HE.out.1]; exact HR.out.1, by rw [← HE.out.1]; exact HR.out.2.1, HR.out.2.2⟩
theorem cell_heap {w w' : World} {b : Nat} (h : w'.heap[b]? = w.heap[b]?) (o : Nat) (x) : w'.cell? ⟨b, o, x⟩ = w.cell? ⟨b, o, x⟩ := by
 unfold World.cell?
 simp only [h]
theorem frozen_heap {w w' : World} {b : Nat} (h : w'.heap[b]? = w.heap[b]?) (o : Nat) (x) : w'.frozen? ⟨b, o, x⟩ = w.frozen? ⟨b, o, x⟩ := by
 unfold World.frozen?
 simp only [h]
theorem elem22 (W : World) : (sizeOf (Tryz.prog.elem 22)).run Tryz.prog W = .ok 1 W := by
 have e : Tryz.prog.elem 22 = 5 := by kernel_rfl
 obtain ⟨i, z, hi, _, hs, _⟩ := byte_info
 rw [e]
 simp [sizeOf, typeInfo, hi, hs]
theorem cut_from (p : Option Addr) (n c : Nat) (x : Int) (W : World) (h : 0 ≤ x ∧ x < n ∧ x < c ∧ n ≤ c) : (Instr.slice 22 (.slice p n c) (some (.int .i64 x)) none none).run Tryz.prog W = .ok (.slice (p.map (·.add x.toNat)) (n - x.toNat) (c - x.toNat)) W := by
 rw [run_slice_l W 22 p n c (by kernel_rfl) .i64 x (by omega) (by omega), elem22]
 have : ¬ c = x.toNat := by omega
 simp [Result.andThen, sliced, this]
/-- The stack's page in the making: its row, the variable that holds it, and the place. -/
structure Pgs (w : World) (s : Nat) (R : Nat → Int) (pl : Int) : Prop where
 pg : (∀ i, 0 ≤ R i ∧ R i < 256) ∧ w.rowIs (s + 1) 5 4096 (fun i => .int .u8 (R i))
 pp : w.cell? ⟨s + 2, 0, .none⟩ = some (.slice (some ⟨s + 1, 0, .none⟩) 4096 4096)
 pc : w.cell? ⟨s + 3, 0, .none⟩ = some (.int .i64 pl)
 pf : w.frozen? ⟨s + 3, 0, .none⟩ = false
/-- Only the page and the place have turned. -/
structure Lyd (s : Nat) (w w' : World) : Prop where
 bel : Below (s + 1) w w'
 sz : w'.heap.size = w.heap.size
 oth : ∀ k, k ≠ s + 1 → k ≠ s + 3 → w'.heap[k]? = w.heap[k]?
theorem setCells_other (b k : Nat) (h : k ≠ b) : ∀ (vs : List Value) (o : Nat) (w : World), (w.setCells b o vs).heap[k]? = w.heap[k]?
 | [], o, w => rfl
 | v :: r, o, w => (setCells_other b k h r (o + 1) _).trans (Below.heap_setCell _ _ _ _ (fun e => h e))
theorem setCells_size (b : Nat) : ∀ (vs : List Value) (o : Nat) (w : World), (w.setCells b o vs).heap.size = w.heap.size
 | [], o, w => rfl
 | v :: r, o, w => (setCells_size b r (o + 1) _).trans (by simp [World.setCell])
theorem own_same {w w' : World} {B e k n : Nat} {v : Value} {xs : List Value} (h : w.ownsRow B e k v n xs) (hk : ∀ g, B ≤ g → w'.heap[g]? = w.heap[g]?) : w'.ownsRow B e k v n xs := by
 refine ⟨h.1, ?_⟩
 rcases h.2 with h0 | ⟨g, cap, cur, hv, h1, h2, h3⟩
 ·exact .inl h0
 ·exact .inr ⟨g, cap, cur, hv, h1, (hk g h1).trans h2, h3⟩
/-- A text laid on the page. -/
def layR (R : Nat → Int) (m : Nat) (t : Bs) : Nat → Int := fun j => if m ≤ j ∧ j < m + t.length then ((t.getD (j - m) 0).toNat : Int) else R j
def LyP (w : World) (s : Nat) (R : Nat → Int) (t : Bs) (x : Int) (e : Ending) (w' : World) : Prop := e = .returned (.bool (decide (0 ≤ x))) ∧ Pgs w' s (if 0 ≤ x then layR R (x / 16 * 16).toNat t else R) (x / 16 * 16) ∧ Lyd s w w'
set_option maxRecDepth 10000 in
set_option maxHeartbeats 1000000 in
theorem lay_any {w : World} {s : Nat} {R : Nat → Int} {pl : Int} (h : Pgs w s R pl) (hpl : 0 ≤ pl ∧ pl ≤ 4096) (t : Bs) (ht : t.length ≤ 400000) (z : Int) (hz : 1 ≤ z ∧ z ≤ 8) :
  Calls Tryz.prog 102 #[.string ⟨t.toArray⟩, .int .i64 z, .pointer (some ⟨s + 3, 0, .none⟩), .pointer (some ⟨s + 2, 0, .none⟩)] w (LyP w s R t (pl - t.length - z)) := by
 obtain ⟨⟨hR, hpg⟩, hpp, hpc, hpf⟩ := h
 have hsz : (⟨t.toArray⟩ : ByteArray).size = t.length := by simp [ByteArray.size]
 have hb := andNot15 (pl - t.length - z) (by omega)
 by_cases hneg : pl - t.length - z < 0
 ·have hq : (pl - t.length - z) / 16 * 16 < 0 := by omega
  obtain ⟨y, hy⟩ : ∃ y, y = (pl - t.length - z) / 16 * 16 := ⟨_, rfl⟩
  rw [← hy] at hb hq
  have HH : Hid (LyP w s R t (pl - t.length - z) (.returned (.bool false)) (w.setCell ⟨s + 3, 0, .none⟩ (.int .i64 y))) := by
   refine ⟨by simp; omega, ?_, ⟨(Below.refl _ _).setCell (by simp) _, by simp [World.setCell], fun k h1 h2 => Below.heap_setCell _ _ _ _ (fun e => h2 e)⟩⟩
   rw [← hy, if_neg (by omega)]
   exact ⟨⟨hR, hpg.setOther (by simp) _⟩, (World.cell?_setCell_other _ _ _ _ (by simp)).trans hpp, World.cell?_setCell_same' _ _ _ (by rw [hpc]; rfl), by rw [World.frozen?_setCell]; exact hpf⟩
  have HY : Hid (y = (pl - t.length - z) / 16 * 16) := hy
  clear hpg hy hsz hR
  go_enter Tryz.func102, Tryz.ntmps102
  go_wp2
  go_ret
  exact HH.out
 ·obtain ⟨m, hm⟩ : ∃ m : Nat, (pl - t.length - z) / 16 * 16 = m := ⟨((pl - t.length - z) / 16 * 16).toNat, by omega⟩
  rw [hm] at hb
  have hm1 : m + t.length < 4096 := by omega
  obtain ⟨w1, hw1⟩ : ∃ w1, w1 = w.setCell ⟨s + 3, 0, .none⟩ (.int .i64 m) := ⟨_, rfl⟩
  have P1 : w1.rowIs (s + 1) 5 4096 (fun i => .int .u8 (R i)) := by rw [hw1]; exact hpg.setOther (by simp) _
  have c2 : w1.cell? ⟨s + 2, 0, .none⟩ = some (.slice (some ⟨s + 1, 0, .none⟩) 4096 4096) := by rw [hw1]; exact (World.cell?_setCell_other _ _ _ _ (by simp)).trans hpp
  have c3 : w1.cell? ⟨s + 3, 0, .none⟩ = some (.int .i64 m) := by rw [hw1]; exact World.cell?_setCell_same' _ _ _ (by rw [hpc]; rfl)
  have c4 : w1.frozen? ⟨s + 3, 0, .none⟩ = false := by rw [hw1, World.frozen?_setCell]; exact hpf
  have hcp := run_copy_string (P := Tryz.prog) w1 22 9 3 5 (s + 1) m (4096 - m) (4096 - m) ⟨t.toArray⟩ Tryz.underlying22 (fun w => by kernel_rfl) (by rw [hsz]; omega) (fun j hj => by rw [P1.cell (by rw [hsz] at hj; omega)]; rfl) (fun j _ => P1.frozen _)
  rw [hsz] at hcp
  have HH : Hid (LyP w s R t (pl - t.length - z) (.returned (.bool true)) (w1.setCells (s + 1) m ((⟨t.toArray⟩ : ByteArray).data.toList.map fun x => Value.int .u8 (x.toNat : Int)))) := by
   refine ⟨by simp; omega, ?_, ⟨?_, ?_, fun k h1 h2 => ?_⟩⟩
   ·rw [if_pos (by omega), hm, Int.toNat_natCast]
    refine ⟨⟨fun j => ?_, (rowIs_setCells _ _ _ _ P1).congr (fun j hj => ?_)⟩, ?_, ?_, ?_⟩
    ·unfold layR
     split
     ·have := (t.getD (j - m) 0).toNat_lt
      omega
     ·exact hR j
    ·unfold layR
     simp only [List.length_map]
     by_cases e : m ≤ j ∧ j < m + t.length
     ·rw [if_pos e, if_pos (by simpa using e)]
      have hjl : j - m < t.length := by omega
      simp [List.getD_eq_getElem?_getD, hjl]
     ·rw [if_neg e, if_neg (by simpa using e)]
    ·rw [← c2]; exact cell_heap (setCells_other _ _ (by omega) _ _ _) _ _
    ·rw [← c3]; exact cell_heap (setCells_other _ _ (by omega) _ _ _) _ _
    ·rw [← c4]; exact frozen_heap (setCells_other _ _ (by omega) _ _ _) _ _
   ·exact below_setCells (Nat.le_refl _) _ _ _ (hw1 ▸ (Below.refl _ _).setCell (by simp) _)
   ·rw [setCells_size, hw1]; simp [World.setCell]
   ·rw [setCells_other _ _ h1, hw1]; exact Below.heap_setCell _ _ _ _ (fun e => h2 e)
  have hm0 : (m : Int) < 4096 := by omega
  obtain ⟨y, hy⟩ : ∃ y : Int, y = m := ⟨_, rfl⟩
  have hy0 : 0 ≤ y := by omega
  have hcut := cut_from (some ⟨s + 1, 0, .none⟩) 4096 4096 y (w.setCell ⟨s + 3, 0, .none⟩ (.int .i64 y)) (by omega)
  have ey : y.toNat = m := by omega
  rw [ey] at hcut
  rw [← hy] at hb hm0 hw1
  have HM : Hid ((pl - t.length - z) / 16 * 16 = m ∧ y = m) := ⟨hm, hy⟩
  clear ey hy
  clear hneg hpg hsz hm P1 c3 c4 hm1 hR
  subst hw1
  clear c2
  go_enter Tryz.func102, Tryz.ntmps102
  go_wp2
  go_ret
  exact HH.out
end Go.Proofs.YtacdgfojdkppmaaGreatDoor
