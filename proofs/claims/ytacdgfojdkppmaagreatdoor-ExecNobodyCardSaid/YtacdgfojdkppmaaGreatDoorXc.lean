import Derived.Test.YtacdgfojdkppmaaGreatDoorXb
import Derived.Test.YtacdgfojdkppmaaGreatDoorXa
import Derived.Lib.LazyBuf
import Derived.Laws.Bits128
namespace Go.Proofs.YtacdgfojdkppmaaGreatDoor
open Go.RowKit Go.Shelf
set_option linter.unusedVariables false
set_option linter.unusedSimpArgs false
theorem nat_and15 (y : Nat) : y &&& 18446744073709551600 = y % 18446744073709551616 / 16 * 16 := by
  apply Nat.eq_of_testBit_eq
  intro i
  rw [Nat.testBit_and, show 18446744073709551600 = (2 ^ 60 - 1) <<< 4 by decide, show y % 18446744073709551616 / 16 * 16 = ((y % 2 ^ 64) >>> 4) <<< 4 by simp [Nat.shiftRight_eq_div_pow, Nat.shiftLeft_eq], Nat.testBit_shiftLeft, Nat.testBit_shiftLeft, Nat.testBit_two_pow_sub_one, Nat.testBit_shiftRight, Nat.testBit_mod_two_pow]
  by_cases h : 4 ≤ i
  · rw [show 4 + (i - 4) = i by omega]
    by_cases h2 : i < 64
    · simp [h, h2, show i - 4 < 60 by omega]
    · simp [h, h2, show ¬ i - 4 < 60 by omega]
  · simp [h]
theorem andNot15 (x : Int) (h : -4611686018427387904 ≤ x ∧ x < 4611686018427387904) : bits .andNot .i64 x 15 = x / 16 * 16 := by
  show IntKind.i64.wrap ((BitVec.ofInt 64 x &&& ~~~BitVec.ofInt 64 15).toNat : Int) = _
  have h1 : (BitVec.ofInt 64 15).toNat = 15 := by decide
  rw [BitVec.toNat_and, BitVec.toNat_not, h1, show 2 ^ 64 - 1 - 15 = 18446744073709551600 by decide, nat_and15, BitVec.toNat_ofInt]
  rw [IntKind.wrap_i64]
  omega
/-- Bytes. -/
def U8 (bs : List Int) : Prop := ∀ b ∈ bs, 0 ≤ b ∧ b < 256
def ApP (w : World) (base n : Nat) (e : Ending) (w' : World) : Prop := ∃ q' c' bs', e = .returned (.slice q' n c') ∧ w'.ownsRow base 5 1 (.slice q' n c') n (by8 bs') ∧ U8 bs' ∧ Below base w w'
set_option maxHeartbeats 1000000 in
theorem appendA_any {w : World} {base n c : Nat} {q : Option Addr} {bs : List Int} (h : w.ownsRow base 5 1 (.slice q n c) n (by8 bs)) (hU : U8 bs) (hbase : base ≤ w.heap.size) (hn : n < 1000) (x : Int) (hx : 0 ≤ x ∧ x < 18446744073709551616) :
    Calls Tryz.prog 103 #[.slice q n c, .int .u64 x] w (ApP w base (n + 8)) := by
  obtain ⟨i3, z3, hi3, hz3, hs3, hb3, hzs3⟩ := byte_info
  have HI : Hid (Tryz.prog.info? 5 = some i3 ∧ i3.zero = some z3 ∧ i3.size = 1 ∧ i3.bytes = 1 ∧ z3.cells.size = 1) := ⟨hi3, hz3, hs3, hb3, hzs3⟩
  clear hi3 hz3 hs3 hb3 hzs3
  have HO : Hid (w.ownsRow base 5 1 (.slice q n c) n (by8 bs) ∧ U8 bs) := ⟨h, hU⟩
  clear h hU
  go_enter Tryz.func103, Tryz.ntmps103
  go_wp2_with fail
  go_loopw [0, 1, 5] (fun v a k wr => ∃ i : Nat, i ≤ 8 ∧ k = .int .i64 i ∧ ∃ q' c' bs' y, v = .slice q' (n + i) c' ∧ a = .int .u64 y ∧ Hid (0 ≤ y ∧ y < 18446744073709551616) ∧ Hid (wr.ownsRow base 5 1 (.slice q' (n + i) c') (n + i) (by8 bs') ∧ U8 bs' ∧ Below base w wr)) (fun _ _ k _ => (8 - intOf k).toNat)
  case atStart => exact ⟨0, by omega, rfl, q, c, bs, x, rfl, rfl, hx, HO.out.1, HO.out.2, Below.refl _ _⟩
  case round =>
    obtain ⟨i, hi, rfl, q', c', bs', y, rfl, rfl, HY, HR⟩ := hrel
    by_cases hlt : i < 8
    · have g0 : (i : Int) < 8 := by omega
      have hy1 := HY.out.1
      have hy2 := HY.out.2
      have z1 := HR.out.2.2.size
      have hw8 : IntKind.u8.wrap y = y % 256 := by simp only [IntKind.wrap, IntKind.bits, IntKind.signed]; simp
      go_wp2_with (first | (at_builtin; refine wpList_append_own _ rfl _ _ 22 rfl base 5 i3 z3 1 1 Tryz.underlying22 HI.out.1 HI.out.2.1 HI.out.2.2.1 HI.out.2.2.2.1 HI.out.2.2.2.2 (by decide) (.slice q' (n + i) c') (n + i) (by8 bs') rfl (HR.out.1.alloc _) ⟨wr.heap.size, 0, .none⟩ 1 1 (by8 [y % 256]) rfl rfl (le_cell1_new _ _ _) (by8_one _) ?c4 ?c5 ?c6 ?_) | go_in)
      case c4 => simp only [maxLen]; omega
      case c5 => omega
      case c6 => simp only [World.size_alloc]; omega
      intro v' w2 own' grow fb
      clear fb
      obtain ⟨p', c2, rfl⟩ := one_slice own'
      have HW : Hid (w2.ownsRow base 5 1 (.slice p' (n + (i + 1)) c2) (n + (i + 1)) (by8 (bs' ++ [y % 256])) ∧ U8 (bs' ++ [y % 256]) ∧ Below base w w2) := by
        refine ⟨?_, ?_, below_append HR.out.2.2 _ grow (by omega) (own_block HR.out.1)⟩
        · rw [by8_app]
          exact own'
        · intro b hb
          rcases List.mem_append.1 hb with hb | hb
          · exact HR.out.2.1 b hb
          · rw [List.mem_singleton] at hb
            omega
      clear own' grow
      go_wp2
      exact ⟨⟨i + 1, by omega, rfl, p', c2, _, y / 256, rfl, rfl, ⟨by omega, by omega⟩, HW.out⟩, by simp only [intOf]; omega⟩
    · obtain rfl : i = 8 := by omega
      go_wp2
      go_ret
      exact ⟨_, _, _, rfl, HR.out.1, HR.out.2.1, HR.out.2.2⟩
theorem cell_heap {w w' : World} {b : Nat} (h : w'.heap[b]? = w.heap[b]?) (o : Nat) (x) : w'.cell? ⟨b, o, x⟩ = w.cell? ⟨b, o, x⟩ := by
  unfold World.cell?
  simp only [h]
theorem frozen_heap {w w' : World} {b : Nat} (h : w'.heap[b]? = w.heap[b]?) (o : Nat) (x) : w'.frozen? ⟨b, o, x⟩ = w.frozen? ⟨b, o, x⟩ := by
  unfold World.frozen?
  simp only [h]
theorem elem22 (W : World) : (sizeOf (Tryz.prog.elem 22)).run Tryz.prog W = .ok 1 W := by
  have e : Tryz.prog.elem 22 = 5 := by kernel_rfl
  obtain ⟨i, z, hi, _, hs, _⟩ := byte_info
  rw [e]
  simp [sizeOf, typeInfo, hi, hs]
theorem cut_from (p : Option Addr) (n c : Nat) (x : Int) (W : World) (h : 0 ≤ x ∧ x < n ∧ x < c ∧ n ≤ c) : (Instr.slice 22 (.slice p n c) (some (.int .i64 x)) none none).run Tryz.prog W = .ok (.slice (p.map (·.add x.toNat)) (n - x.toNat) (c - x.toNat)) W := by
  rw [run_slice_l W 22 p n c (by kernel_rfl) .i64 x (by omega) (by omega), elem22]
  have : ¬ c = x.toNat := by omega
  simp [Result.andThen, sliced, this]
/-- The stack's page in the making: its row, the variable that holds it, and the place. -/
structure Pgs (w : World) (s : Nat) (pl : Int) : Prop where
  pg : ∃ R : Nat → Int, (∀ i, 0 ≤ R i ∧ R i < 256) ∧ w.rowIs (s + 1) 5 4096 (fun i => .int .u8 (R i))
  pp : w.cell? ⟨s + 2, 0, .none⟩ = some (.slice (some ⟨s + 1, 0, .none⟩) 4096 4096)
  pc : w.cell? ⟨s + 3, 0, .none⟩ = some (.int .i64 pl)
  pf : w.frozen? ⟨s + 3, 0, .none⟩ = false
/-- Only the page and the place have turned. -/
structure Lyd (s : Nat) (w w' : World) : Prop where
  bel : Below (s + 1) w w'
  sz : w'.heap.size = w.heap.size
  oth : ∀ k, k ≠ s + 1 → k ≠ s + 3 → w'.heap[k]? = w.heap[k]?
theorem setCells_other (b k : Nat) (h : k ≠ b) : ∀ (vs : List Value) (o : Nat) (w : World), (w.setCells b o vs).heap[k]? = w.heap[k]?
  | [], o, w => rfl
  | v :: r, o, w => (setCells_other b k h r (o + 1) _).trans (Below.heap_setCell _ _ _ _ (fun e => h e))
theorem setCells_size (b : Nat) : ∀ (vs : List Value) (o : Nat) (w : World), (w.setCells b o vs).heap.size = w.heap.size
  | [], o, w => rfl
  | v :: r, o, w => (setCells_size b r (o + 1) _).trans (by simp [World.setCell])
theorem own_same {w w' : World} {B e k n : Nat} {v : Value} {xs : List Value} (h : w.ownsRow B e k v n xs) (hk : ∀ g, B ≤ g → w'.heap[g]? = w.heap[g]?) : w'.ownsRow B e k v n xs := by
  refine ⟨h.1, ?_⟩
  rcases h.2 with h0 | ⟨g, cap, cur, hv, h1, h2, h3⟩
  · exact .inl h0
  · exact .inr ⟨g, cap, cur, hv, h1, (hk g h1).trans h2, h3⟩
def LyP (w : World) (s : Nat) (x : Int) (e : Ending) (w' : World) : Prop := e = .returned (.bool (decide (0 ≤ x))) ∧ Pgs w' s (x / 16 * 16) ∧ Lyd s w w'
set_option maxRecDepth 10000 in
set_option maxHeartbeats 1000000 in
theorem lay_any {w : World} {s : Nat} {pl : Int} (h : Pgs w s pl) (hpl : 0 ≤ pl ∧ pl ≤ 4096) (t : Bs) (ht : t.length ≤ 400000) (z : Int) (hz : 1 ≤ z ∧ z ≤ 8) :
    Calls Tryz.prog 102 #[.string ⟨t.toArray⟩, .int .i64 z, .pointer (some ⟨s + 3, 0, .none⟩), .pointer (some ⟨s + 2, 0, .none⟩)] w (LyP w s (pl - t.length - z)) := by
  obtain ⟨⟨R, hR, hpg⟩, hpp, hpc, hpf⟩ := h
  have hsz : (⟨t.toArray⟩ : ByteArray).size = t.length := by simp [ByteArray.size]
  have hb := andNot15 (pl - t.length - z) (by omega)
  by_cases hneg : pl - t.length - z < 0
  · have hq : (pl - t.length - z) / 16 * 16 < 0 := by omega
    obtain ⟨y, hy⟩ : ∃ y, y = (pl - t.length - z) / 16 * 16 := ⟨_, rfl⟩
    rw [← hy] at hb hq
    have HH : Hid (LyP w s (pl - t.length - z) (.returned (.bool false)) (w.setCell ⟨s + 3, 0, .none⟩ (.int .i64 y))) := by
      refine ⟨by simp; omega, ?_, ⟨(Below.refl _ _).setCell (by simp) _, by simp [World.setCell], fun k h1 h2 => Below.heap_setCell _ _ _ _ (fun e => h2 e)⟩⟩
      rw [← hy]
      exact ⟨⟨R, hR, hpg.setOther (by simp) _⟩, (World.cell?_setCell_other _ _ _ _ (by simp)).trans hpp, World.cell?_setCell_same' _ _ _ (by rw [hpc]; rfl), by rw [World.frozen?_setCell]; exact hpf⟩
    have HY : Hid (y = (pl - t.length - z) / 16 * 16) := hy
    clear hpg hy hsz hR
    go_enter Tryz.func102, Tryz.ntmps102
    go_wp2
    go_ret
    exact HH.out
  · obtain ⟨m, hm⟩ : ∃ m : Nat, (pl - t.length - z) / 16 * 16 = m := ⟨((pl - t.length - z) / 16 * 16).toNat, by omega⟩
    rw [hm] at hb
    have hm1 : m + t.length < 4096 := by omega
    obtain ⟨w1, hw1⟩ : ∃ w1, w1 = w.setCell ⟨s + 3, 0, .none⟩ (.int .i64 m) := ⟨_, rfl⟩
    have P1 : w1.rowIs (s + 1) 5 4096 (fun i => .int .u8 (R i)) := by rw [hw1]; exact hpg.setOther (by simp) _
    have c2 : w1.cell? ⟨s + 2, 0, .none⟩ = some (.slice (some ⟨s + 1, 0, .none⟩) 4096 4096) := by rw [hw1]; exact (World.cell?_setCell_other _ _ _ _ (by simp)).trans hpp
    have c3 : w1.cell? ⟨s + 3, 0, .none⟩ = some (.int .i64 m) := by rw [hw1]; exact World.cell?_setCell_same' _ _ _ (by rw [hpc]; rfl)
    have c4 : w1.frozen? ⟨s + 3, 0, .none⟩ = false := by rw [hw1, World.frozen?_setCell]; exact hpf
    have hcp := run_copy_string (P := Tryz.prog) w1 22 9 3 5 (s + 1) m (4096 - m) (4096 - m) ⟨t.toArray⟩ Tryz.underlying22 (fun w => by kernel_rfl) (by rw [hsz]; omega) (fun j hj => by rw [P1.cell (by rw [hsz] at hj; omega)]; rfl) (fun j _ => P1.frozen _)
    rw [hsz] at hcp
    have HH : Hid (LyP w s (pl - t.length - z) (.returned (.bool true)) (w1.setCells (s + 1) m ((⟨t.toArray⟩ : ByteArray).data.toList.map fun x => Value.int .u8 (x.toNat : Int)))) := by
      refine ⟨by simp; omega, ?_, ⟨?_, ?_, fun k h1 h2 => ?_⟩⟩
      · rw [hm]
        refine ⟨⟨fun j => if m ≤ j ∧ j < m + t.length then ((t.getD (j - m) 0).toNat : Int) else R j, fun j => ?_, (rowIs_setCells _ _ _ _ P1).congr (fun j hj => ?_)⟩, ?_, ?_, ?_⟩
        · dsimp only
          split
          · have := (t.getD (j - m) 0).toNat_lt
            omega
          · exact hR j
        · simp only [List.length_map]
          by_cases e : m ≤ j ∧ j < m + t.length
          · rw [if_pos e, if_pos (by simpa using e)]
            have hjl : j - m < t.length := by omega
            simp [List.getD_eq_getElem?_getD, hjl]
          · rw [if_neg e, if_neg (by simpa using e)]
        · rw [← c2]; exact cell_heap (setCells_other _ _ (by omega) _ _ _) _ _
        · rw [← c3]; exact cell_heap (setCells_other _ _ (by omega) _ _ _) _ _
        · rw [← c4]; exact frozen_heap (setCells_other _ _ (by omega) _ _ _) _ _
      · exact below_setCells (Nat.le_refl _) _ _ _ (hw1 ▸ (Below.refl _ _).setCell (by simp) _)
      · rw [setCells_size, hw1]; simp [World.setCell]
      · rw [setCells_other _ _ h1, hw1]; exact Below.heap_setCell _ _ _ _ (fun e => h2 e)
    have hm0 : (m : Int) < 4096 := by omega
    obtain ⟨y, hy⟩ : ∃ y : Int, y = m := ⟨_, rfl⟩
    have hy0 : 0 ≤ y := by omega
    have hcut := cut_from (some ⟨s + 1, 0, .none⟩) 4096 4096 y (w.setCell ⟨s + 3, 0, .none⟩ (.int .i64 y)) (by omega)
    have ey : y.toNat = m := by omega
    rw [ey] at hcut
    rw [← hy] at hb hm0 hw1
    have HM : Hid ((pl - t.length - z) / 16 * 16 = m ∧ y = m) := ⟨hm, hy⟩
    clear ey hy
    clear hneg hpg hsz hm P1 c3 c4 hm1 hR
    subst hw1
    clear c2
    go_enter Tryz.func102, Tryz.ntmps102
    go_wp2
    go_ret
    exact HH.out
end Go.Proofs.YtacdgfojdkppmaaGreatDoor
