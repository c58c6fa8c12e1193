import Derived.Test.YtnghcadhilfgnaaQG
import Derived.Test.YtnghcadhilfgnaaHoldM
import Derived.RegionTactic
import Derived.BigRegion
namespace Go.Proofs.Ytnghcadhilfgnaa
open Go.RowKit
set_option linter.unusedVariables false
set_option linter.unusedSimpArgs false
theorem num_front (B : Nat → Int) : ∀ (k o : Nat), num B o (k + 1) = B o + 256 * num B (o + 1) k
  | 0, o => by simp [num]
  | k + 1, o => by
    rw [num, num_front B k o, num]
    have e : o + (k + 1) = o + 1 + k := by omega
    rw [e, Int.pow_succ]
    generalize B (o + 1 + k) = x
    generalize (256 : Int) ^ k = y
    generalize num B (o + 1) k = z
    rw [Int.mul_add, ← Int.mul_assoc, Int.mul_comm y 256]
    omega
theorem pow256 (k : Nat) (h : k ≤ 8) : (256 : Int) ^ k ≤ 18446744073709551616 := by
  have : k = 0 ∨ k = 1 ∨ k = 2 ∨ k = 3 ∨ k = 4 ∨ k = 5 ∨ k = 6 ∨ k = 7 ∨ k = 8 := by omega
  rcases this with rfl | rfl | rfl | rfl | rfl | rfl | rfl | rfl | rfl <;> decide
theorem num_lt (B : Nat → Int) (hB : ∀ i, 0 ≤ B i ∧ B i < 256) (o k : Nat) (h : k ≤ 8) : 0 ≤ num B o k ∧ num B o k < 18446744073709551616 := by
  have := num_bd B hB o k
  have := pow256 k h
  omega
theorem div_pow (v : Int) (k : Nat) : v / 256 ^ k / 256 = v / 256 ^ (k + 1) := by
  rw [Int.pow_succ, Int.ediv_ediv_of_nonneg (Int.le_of_lt (Int.pow_pos (by decide)))]
theorem div_b (v : Int) (hv : 0 ≤ v ∧ v < 18446744073709551616) (k : Nat) : 0 ≤ v / 256 ^ k ∧ v / 256 ^ k < 18446744073709551616 := by
  have hp : (0 : Int) < 256 ^ k := Int.pow_pos (by decide)
  refine ⟨Int.ediv_nonneg hv.1 (Int.le_of_lt hp), ?_⟩
  have h1 : v / 256 ^ k ≤ v := Int.ediv_le_self _ hv.1
  omega
theorem over_snoc (B : Nat → Int) (o : Nat) (vs : List Int) (v : Int) : over (over B o vs) (o + vs.length) [v] = over B o (vs ++ [v]) := by
  funext i
  unfold over
  by_cases h : i = o + vs.length
  · subst h
    rw [if_pos (by simp), if_pos (by simp), Nat.sub_self, show o + vs.length - o = vs.length by omega]
    simp
  · rw [if_neg (by simp; omega)]
    by_cases h2 : o ≤ i ∧ i < o + vs.length
    · rw [if_pos h2, if_pos (by simp; omega)]
      simp only [List.getD_eq_getElem?_getD]
      rw [List.getElem?_append_left (by omega)]
    · rw [if_neg h2, if_neg (by simp; omega)]
/-- The rows of the held frames. -/
def Fb (N : Nat) (L : List Nat) (fb : Nat → Nat) (k : Nat) : Prop := ∃ i, i < N ∧ i ∉ L ∧ k = fb i
section
variable {W : World} {q hb lb N : Nat} {fb : Nat → Nat} {B : Nat → Int} {L : List Nat}
/-- One byte of a held frame is written over. -/
theorem Qm.poke (h : Qm W q hb fb lb N B L) (f off : Nat) (v : Int) (hf : f < N) (hL : f ∉ L) (ho : off < 4096) (hv : 0 ≤ v ∧ v < 256) : Qm (W.setCell ⟨fb f, off, .none⟩ (.int .u8 v)) q hb fb lb N (over B (f * 4096 + off) [v]) L := by
  have := h.store f off [v] hf hL (by simp; omega) (fun x hx => by simp at hx; rw [hx]; exact hv)
  simpa [World.setCells] using this
set_option maxHeartbeats 1000000 in
theorem loadG_ok (h : Qm W q hb fb lb N B L) (pa : Int) (o n : Nat) (hp : pa = 2147483648 + (o : Int)) (hn : n = 1 ∨ n = 2 ∨ n = 4 ∨ n = 8) (hk : okR N L pa n) : Calls Try.prog 20 #[.pointer (some ⟨q, 0, .none⟩), .int .u64 pa, .int .i64 n] W fun e w' => e = .returned (.tuple #[.int .u64 (num B o n), .bool true]) ∧ w' = W := by
  have n2 := h.n2
  have o1 : (o : Int) + n ≤ 4096 * N := by have := hk.2.1; omega
  have c := heldQ_yes h pa n (by omega) (by omega) (by omega) hk
  have HQ : Hid (Qm W q hb fb lb N B L ∧ okR N L pa n) := ⟨h, hk⟩
  have c0 := h.c0
  have o3 : pa + 8 < 18446744073709551616 := by omega
  have o4 : (0 : Int) ≤ pa := by omega
  have HP : Hid (pa = 2147483648 + (o : Int)) := hp
  clear h hk hp
  rcases hn with rfl | rfl | rfl | rfl
  · go_enter Try.func20, Try.ntmps20
    go_wp2_with (go_at_call 49; refine c.mono ?_; rintro e w0 ⟨rfl, rfl⟩)
    go_loop [9, 10] (fun v ix => ∃ j : Nat, ∃ ii : Int, j ≤ 1 ∧ ix = .int .i64 ii ∧ ii = (j : Int) - 1 ∧ v = .int .u64 (num B (o + j) (1 - j))) (fun _ ix => (intOf ix + 1).toNat)
    case atStart => exact ⟨1, _, by omega, rfl, rfl, rfl⟩
    case round =>
      obtain ⟨j, ii, hj, rfl, hii, rfl⟩ := hrel
      have HII : Hid (ii = (j : Int) - 1) := hii
      clear hii
      by_cases hz : j = 0
      · subst hz
        obtain rfl : ii = -1 := by have := HII.out; omega
        go_wp2
        go_ret2
        exact ⟨by simp, rfl⟩
      · obtain ⟨k, rfl⟩ : ∃ k, j = k + 1 := ⟨j - 1, by omega⟩
        obtain rfl : ii = (k : Int) := by have := HII.out; omega
        obtain ⟨f, off, hfN, hoff, hL, hfo⟩ := HQ.out.2.at k (by omega)
        have cN := number_in HQ.out.1 (pa + k) f off hfN hoff hfo
        have cH := HQ.out.1.hh f hfN hL
        have cB := HQ.out.1.cb f hfN hL off hoff
        have bK := HQ.out.1.bb (f * 4096 + off)
        have bn := num_lt B HQ.out.1.bb (o + (k + 1)) (1 - (k + 1)) (by omega)
        have nf : Hid (num B (o + k) (1 - k) = num B (o + (k + 1)) (1 - (k + 1)) * 256 + B (f * 4096 + off)) := by
          have := num_front B (1 - (k + 1)) (o + k)
          rw [show 1 - (k + 1) + 1 = 1 - k by omega, show o + k + 1 = o + (k + 1) by omega] at this
          show _ = _
          have e : f * 4096 + off = o + k := by have := HP.out; omega
          rw [e, this]
          omega
        have bf := num_lt B HQ.out.1.bb (o + k) (1 - k) (by omega)
        rw [nf.out] at bf
        have k0 : (0 : Int) ≤ k := by omega
        have k8 : (k : Int) < 8 := by omega
        have f1 : (f : Int) < N := by omega
        have o5 : (off : Int) < 4096 := by omega
        clear hfo
        generalize num B (o + (k + 1)) (1 - (k + 1)) = vv at *
        generalize B (f * 4096 + off) = bb at *
        go_wp2_with (go_at_call 50; refine cN.mono ?_; rintro e w0 ⟨rfl, rfl⟩)
        go_round
        case rel => exact ⟨k, _, by omega, rfl, rfl, by rw [nf.out]⟩
        case measure => simp [intOf]
  · go_enter Try.func20, Try.ntmps20
    go_wp2_with (go_at_call 49; refine c.mono ?_; rintro e w0 ⟨rfl, rfl⟩)
    go_loop [9, 10] (fun v ix => ∃ j : Nat, ∃ ii : Int, j ≤ 2 ∧ ix = .int .i64 ii ∧ ii = (j : Int) - 1 ∧ v = .int .u64 (num B (o + j) (2 - j))) (fun _ ix => (intOf ix + 1).toNat)
    case atStart => exact ⟨2, _, by omega, rfl, rfl, rfl⟩
    case round =>
      obtain ⟨j, ii, hj, rfl, hii, rfl⟩ := hrel
      have HII : Hid (ii = (j : Int) - 1) := hii
      clear hii
      by_cases hz : j = 0
      · subst hz
        obtain rfl : ii = -1 := by have := HII.out; omega
        go_wp2
        go_ret2
        exact ⟨by simp, rfl⟩
      · obtain ⟨k, rfl⟩ : ∃ k, j = k + 1 := ⟨j - 1, by omega⟩
        obtain rfl : ii = (k : Int) := by have := HII.out; omega
        obtain ⟨f, off, hfN, hoff, hL, hfo⟩ := HQ.out.2.at k (by omega)
        have cN := number_in HQ.out.1 (pa + k) f off hfN hoff hfo
        have cH := HQ.out.1.hh f hfN hL
        have cB := HQ.out.1.cb f hfN hL off hoff
        have bK := HQ.out.1.bb (f * 4096 + off)
        have bn := num_lt B HQ.out.1.bb (o + (k + 1)) (2 - (k + 1)) (by omega)
        have nf : Hid (num B (o + k) (2 - k) = num B (o + (k + 1)) (2 - (k + 1)) * 256 + B (f * 4096 + off)) := by
          have := num_front B (2 - (k + 1)) (o + k)
          rw [show 2 - (k + 1) + 1 = 2 - k by omega, show o + k + 1 = o + (k + 1) by omega] at this
          show _ = _
          have e : f * 4096 + off = o + k := by have := HP.out; omega
          rw [e, this]
          omega
        have bf := num_lt B HQ.out.1.bb (o + k) (2 - k) (by omega)
        rw [nf.out] at bf
        have k0 : (0 : Int) ≤ k := by omega
        have k8 : (k : Int) < 8 := by omega
        have f1 : (f : Int) < N := by omega
        have o5 : (off : Int) < 4096 := by omega
        clear hfo
        generalize num B (o + (k + 1)) (2 - (k + 1)) = vv at *
        generalize B (f * 4096 + off) = bb at *
        go_wp2_with (go_at_call 50; refine cN.mono ?_; rintro e w0 ⟨rfl, rfl⟩)
        go_round
        case rel => exact ⟨k, _, by omega, rfl, rfl, by rw [nf.out]⟩
        case measure => simp [intOf]
  · go_enter Try.func20, Try.ntmps20
    go_wp2_with (go_at_call 49; refine c.mono ?_; rintro e w0 ⟨rfl, rfl⟩)
    go_loop [9, 10] (fun v ix => ∃ j : Nat, ∃ ii : Int, j ≤ 4 ∧ ix = .int .i64 ii ∧ ii = (j : Int) - 1 ∧ v = .int .u64 (num B (o + j) (4 - j))) (fun _ ix => (intOf ix + 1).toNat)
    case atStart => exact ⟨4, _, by omega, rfl, rfl, rfl⟩
    case round =>
      obtain ⟨j, ii, hj, rfl, hii, rfl⟩ := hrel
      have HII : Hid (ii = (j : Int) - 1) := hii
      clear hii
      by_cases hz : j = 0
      · subst hz
        obtain rfl : ii = -1 := by have := HII.out; omega
        go_wp2
        go_ret2
        exact ⟨by simp, rfl⟩
      · obtain ⟨k, rfl⟩ : ∃ k, j = k + 1 := ⟨j - 1, by omega⟩
        obtain rfl : ii = (k : Int) := by have := HII.out; omega
        obtain ⟨f, off, hfN, hoff, hL, hfo⟩ := HQ.out.2.at k (by omega)
        have cN := number_in HQ.out.1 (pa + k) f off hfN hoff hfo
        have cH := HQ.out.1.hh f hfN hL
        have cB := HQ.out.1.cb f hfN hL off hoff
        have bK := HQ.out.1.bb (f * 4096 + off)
        have bn := num_lt B HQ.out.1.bb (o + (k + 1)) (4 - (k + 1)) (by omega)
        have nf : Hid (num B (o + k) (4 - k) = num B (o + (k + 1)) (4 - (k + 1)) * 256 + B (f * 4096 + off)) := by
          have := num_front B (4 - (k + 1)) (o + k)
          rw [show 4 - (k + 1) + 1 = 4 - k by omega, show o + k + 1 = o + (k + 1) by omega] at this
          show _ = _
          have e : f * 4096 + off = o + k := by have := HP.out; omega
          rw [e, this]
          omega
        have bf := num_lt B HQ.out.1.bb (o + k) (4 - k) (by omega)
        rw [nf.out] at bf
        have k0 : (0 : Int) ≤ k := by omega
        have k8 : (k : Int) < 8 := by omega
        have f1 : (f : Int) < N := by omega
        have o5 : (off : Int) < 4096 := by omega
        clear hfo
        generalize num B (o + (k + 1)) (4 - (k + 1)) = vv at *
        generalize B (f * 4096 + off) = bb at *
        go_wp2_with (go_at_call 50; refine cN.mono ?_; rintro e w0 ⟨rfl, rfl⟩)
        go_round
        case rel => exact ⟨k, _, by omega, rfl, rfl, by rw [nf.out]⟩
        case measure => simp [intOf]
  · go_enter Try.func20, Try.ntmps20
    go_wp2_with (go_at_call 49; refine c.mono ?_; rintro e w0 ⟨rfl, rfl⟩)
    go_loop [9, 10] (fun v ix => ∃ j : Nat, ∃ ii : Int, j ≤ 8 ∧ ix = .int .i64 ii ∧ ii = (j : Int) - 1 ∧ v = .int .u64 (num B (o + j) (8 - j))) (fun _ ix => (intOf ix + 1).toNat)
    case atStart => exact ⟨8, _, by omega, rfl, rfl, rfl⟩
    case round =>
      obtain ⟨j, ii, hj, rfl, hii, rfl⟩ := hrel
      have HII : Hid (ii = (j : Int) - 1) := hii
      clear hii
      by_cases hz : j = 0
      · subst hz
        obtain rfl : ii = -1 := by have := HII.out; omega
        go_wp2
        go_ret2
        exact ⟨by simp, rfl⟩
      · obtain ⟨k, rfl⟩ : ∃ k, j = k + 1 := ⟨j - 1, by omega⟩
        obtain rfl : ii = (k : Int) := by have := HII.out; omega
        obtain ⟨f, off, hfN, hoff, hL, hfo⟩ := HQ.out.2.at k (by omega)
        have cN := number_in HQ.out.1 (pa + k) f off hfN hoff hfo
        have cH := HQ.out.1.hh f hfN hL
        have cB := HQ.out.1.cb f hfN hL off hoff
        have bK := HQ.out.1.bb (f * 4096 + off)
        have bn := num_lt B HQ.out.1.bb (o + (k + 1)) (8 - (k + 1)) (by omega)
        have nf : Hid (num B (o + k) (8 - k) = num B (o + (k + 1)) (8 - (k + 1)) * 256 + B (f * 4096 + off)) := by
          have := num_front B (8 - (k + 1)) (o + k)
          rw [show 8 - (k + 1) + 1 = 8 - k by omega, show o + k + 1 = o + (k + 1) by omega] at this
          show _ = _
          have e : f * 4096 + off = o + k := by have := HP.out; omega
          rw [e, this]
          omega
        have bf := num_lt B HQ.out.1.bb (o + k) (8 - k) (by omega)
        rw [nf.out] at bf
        have k0 : (0 : Int) ≤ k := by omega
        have k8 : (k : Int) < 8 := by omega
        have f1 : (f : Int) < N := by omega
        have o5 : (off : Int) < 4096 := by omega
        clear hfo
        generalize num B (o + (k + 1)) (8 - (k + 1)) = vv at *
        generalize B (f * 4096 + off) = bb at *
        go_wp2_with (go_at_call 50; refine cN.mono ?_; rintro e w0 ⟨rfl, rfl⟩)
        go_round
        case rel => exact ⟨k, _, by omega, rfl, rfl, by rw [nf.out]⟩
        case measure => simp [intOf]
/-- What a store of bytes leaves. -/
def StP (W : World) (q hb : Nat) (fb : Nat → Nat) (lb N : Nat) (B : Nat → Int) (L : List Nat) (w' : World) : Prop := Qm w' q hb fb lb N B L ∧ Fx (Fb N L fb) W w'
set_option maxHeartbeats 2000000 in
theorem storeG_ok (h : Qm W q hb fb lb N B L) (pa : Int) (o n : Nat) (hp : pa = 2147483648 + (o : Int)) (v : Int) (hv : 0 ≤ v ∧ v < 18446744073709551616) (hn : n = 1 ∨ n = 2 ∨ n = 4 ∨ n = 8) (hk : okR N L pa n) : Calls Try.prog 22 #[.pointer (some ⟨q, 0, .none⟩), .int .u64 pa, .int .i64 n, .int .u64 v] W fun e w' => e = .returned (.bool true) ∧ StP W q hb fb lb N (over B o (le v n)) L w' := by
  have n2 := h.n2
  have o1 : (o : Int) + n ≤ 4096 * N := by have := hk.2.1; omega
  have c := heldQ_yes h pa n (by omega) (by omega) (by omega) hk
  have H0 : Hid (Qm W q hb fb lb N (over B o (le v 0)) L) := by
    have e : over B o (le v 0) = B := by funext i; exact over_out _ _ _ _ (by rw [le_len]; omega)
    show Qm W q hb fb lb N (over B o (le v 0)) L
    rw [e]; exact h
  have HK : Hid (okR N L pa n) := hk
  have o3 : pa + 8 < 18446744073709551616 := by omega
  have o4 : (0 : Int) ≤ pa := by omega
  have HP : Hid (pa = 2147483648 + (o : Int)) := hp
  clear h hk hp
  rcases hn with rfl | rfl | rfl | rfl
  · go_enter Try.func22, Try.ntmps22
    go_wp2_with (go_at_call 49; refine c.mono ?_; rintro e w0 ⟨rfl, rfl⟩)
    go_loopw [3, 10] (fun x ix V => ∃ j : Nat, j ≤ 1 ∧ ix = .int .i64 j ∧ x = .int .u64 (v / 256 ^ j) ∧ Hid (StP w0 q hb fb lb N (over B o (le v j)) L V)) (fun _ ix _ => 1 - (intOf ix).toNat)
    case atStart => exact ⟨0, by omega, rfl, by simp, H0.out, Fx.refl _ _⟩
    case round =>
      obtain ⟨j, hj, rfl, rfl, HS⟩ := hrel
      by_cases hlt : j < 1
      · obtain ⟨f, off, hfN, hoff, hL, hfo⟩ := HK.out.at j (by omega)
        have cN := number_in HS.out.1 (pa + j) f off hfN hoff hfo
        have c0 := HS.out.1.c0
        have cH := HS.out.1.hh f hfN hL
        have cB := HS.out.1.cb f hfN hL off hoff
        have cF := HS.out.1.gb f hfN hL off hoff
        have HW : Hid (StP w0 q hb fb lb N (over B o (le v (j + 1))) L (wr.setCell ⟨fb f, off, .none⟩ (.int .u8 (v / 256 ^ j % 256)))) := by
          have e : f * 4096 + off = o + (le v j).length := by have := HP.out; rw [le_len]; omega
          have := HS.out.1.poke f off (v / 256 ^ j % 256) hfN hL hoff (by omega)
          rw [e, over_snoc, ← le_succ] at this
          exact ⟨this, HS.out.2.setCell _ _ ⟨f, hfN, hL, rfl⟩⟩
        have db := div_b v hv j
        have dp : Hid (v / 256 ^ j / 256 = v / 256 ^ (j + 1)) := div_pow v j
        have j1 : (j : Int) < 1 := by omega
        have o5 : (off : Int) < 4096 := by omega
        have f1 : (f : Int) < N := by omega
        clear hfo HS
        generalize v / 256 ^ j = vj at *
        generalize over B o (le v j) (f * 4096 + off) = bb at *
        go_wp2_with (go_at_call 50; refine cN.mono ?_; rintro e w1 ⟨rfl, rfl⟩)
        go_roundw
        case rel => exact ⟨j + 1, by omega, by go_num, by rw [← dp.out], HW⟩
        case measure => simp [intOf]; omega
      · have j1 : ¬ (j : Int) < 1 := by omega
        obtain rfl : j = 1 := by omega
        go_wp2
        go_ret
        exact ⟨rfl, HS.out⟩
  · go_enter Try.func22, Try.ntmps22
    go_wp2_with (go_at_call 49; refine c.mono ?_; rintro e w0 ⟨rfl, rfl⟩)
    go_loopw [3, 10] (fun x ix V => ∃ j : Nat, j ≤ 2 ∧ ix = .int .i64 j ∧ x = .int .u64 (v / 256 ^ j) ∧ Hid (StP w0 q hb fb lb N (over B o (le v j)) L V)) (fun _ ix _ => 2 - (intOf ix).toNat)
    case atStart => exact ⟨0, by omega, rfl, by simp, H0.out, Fx.refl _ _⟩
    case round =>
      obtain ⟨j, hj, rfl, rfl, HS⟩ := hrel
      by_cases hlt : j < 2
      · obtain ⟨f, off, hfN, hoff, hL, hfo⟩ := HK.out.at j (by omega)
        have cN := number_in HS.out.1 (pa + j) f off hfN hoff hfo
        have c0 := HS.out.1.c0
        have cH := HS.out.1.hh f hfN hL
        have cB := HS.out.1.cb f hfN hL off hoff
        have cF := HS.out.1.gb f hfN hL off hoff
        have HW : Hid (StP w0 q hb fb lb N (over B o (le v (j + 1))) L (wr.setCell ⟨fb f, off, .none⟩ (.int .u8 (v / 256 ^ j % 256)))) := by
          have e : f * 4096 + off = o + (le v j).length := by have := HP.out; rw [le_len]; omega
          have := HS.out.1.poke f off (v / 256 ^ j % 256) hfN hL hoff (by omega)
          rw [e, over_snoc, ← le_succ] at this
          exact ⟨this, HS.out.2.setCell _ _ ⟨f, hfN, hL, rfl⟩⟩
        have db := div_b v hv j
        have dp : Hid (v / 256 ^ j / 256 = v / 256 ^ (j + 1)) := div_pow v j
        have j1 : (j : Int) < 2 := by omega
        have o5 : (off : Int) < 4096 := by omega
        have f1 : (f : Int) < N := by omega
        clear hfo HS
        generalize v / 256 ^ j = vj at *
        generalize over B o (le v j) (f * 4096 + off) = bb at *
        go_wp2_with (go_at_call 50; refine cN.mono ?_; rintro e w1 ⟨rfl, rfl⟩)
        go_roundw
        case rel => exact ⟨j + 1, by omega, by go_num, by rw [← dp.out], HW⟩
        case measure => simp [intOf]; omega
      · have j1 : ¬ (j : Int) < 2 := by omega
        obtain rfl : j = 2 := by omega
        go_wp2
        go_ret
        exact ⟨rfl, HS.out⟩
  · go_enter Try.func22, Try.ntmps22
    go_wp2_with (go_at_call 49; refine c.mono ?_; rintro e w0 ⟨rfl, rfl⟩)
    go_loopw [3, 10] (fun x ix V => ∃ j : Nat, j ≤ 4 ∧ ix = .int .i64 j ∧ x = .int .u64 (v / 256 ^ j) ∧ Hid (StP w0 q hb fb lb N (over B o (le v j)) L V)) (fun _ ix _ => 4 - (intOf ix).toNat)
    case atStart => exact ⟨0, by omega, rfl, by simp, H0.out, Fx.refl _ _⟩
    case round =>
      obtain ⟨j, hj, rfl, rfl, HS⟩ := hrel
      by_cases hlt : j < 4
      · obtain ⟨f, off, hfN, hoff, hL, hfo⟩ := HK.out.at j (by omega)
        have cN := number_in HS.out.1 (pa + j) f off hfN hoff hfo
        have c0 := HS.out.1.c0
        have cH := HS.out.1.hh f hfN hL
        have cB := HS.out.1.cb f hfN hL off hoff
        have cF := HS.out.1.gb f hfN hL off hoff
        have HW : Hid (StP w0 q hb fb lb N (over B o (le v (j + 1))) L (wr.setCell ⟨fb f, off, .none⟩ (.int .u8 (v / 256 ^ j % 256)))) := by
          have e : f * 4096 + off = o + (le v j).length := by have := HP.out; rw [le_len]; omega
          have := HS.out.1.poke f off (v / 256 ^ j % 256) hfN hL hoff (by omega)
          rw [e, over_snoc, ← le_succ] at this
          exact ⟨this, HS.out.2.setCell _ _ ⟨f, hfN, hL, rfl⟩⟩
        have db := div_b v hv j
        have dp : Hid (v / 256 ^ j / 256 = v / 256 ^ (j + 1)) := div_pow v j
        have j1 : (j : Int) < 4 := by omega
        have o5 : (off : Int) < 4096 := by omega
        have f1 : (f : Int) < N := by omega
        clear hfo HS
        generalize v / 256 ^ j = vj at *
        generalize over B o (le v j) (f * 4096 + off) = bb at *
        go_wp2_with (go_at_call 50; refine cN.mono ?_; rintro e w1 ⟨rfl, rfl⟩)
        go_roundw
        case rel => exact ⟨j + 1, by omega, by go_num, by rw [← dp.out], HW⟩
        case measure => simp [intOf]; omega
      · have j1 : ¬ (j : Int) < 4 := by omega
        obtain rfl : j = 4 := by omega
        go_wp2
        go_ret
        exact ⟨rfl, HS.out⟩
  · go_enter Try.func22, Try.ntmps22
    go_wp2_with (go_at_call 49; refine c.mono ?_; rintro e w0 ⟨rfl, rfl⟩)
    go_loopw [3, 10] (fun x ix V => ∃ j : Nat, j ≤ 8 ∧ ix = .int .i64 j ∧ x = .int .u64 (v / 256 ^ j) ∧ Hid (StP w0 q hb fb lb N (over B o (le v j)) L V)) (fun _ ix _ => 8 - (intOf ix).toNat)
    case atStart => exact ⟨0, by omega, rfl, by simp, H0.out, Fx.refl _ _⟩
    case round =>
      obtain ⟨j, hj, rfl, rfl, HS⟩ := hrel
      by_cases hlt : j < 8
      · obtain ⟨f, off, hfN, hoff, hL, hfo⟩ := HK.out.at j (by omega)
        have cN := number_in HS.out.1 (pa + j) f off hfN hoff hfo
        have c0 := HS.out.1.c0
        have cH := HS.out.1.hh f hfN hL
        have cB := HS.out.1.cb f hfN hL off hoff
        have cF := HS.out.1.gb f hfN hL off hoff
        have HW : Hid (StP w0 q hb fb lb N (over B o (le v (j + 1))) L (wr.setCell ⟨fb f, off, .none⟩ (.int .u8 (v / 256 ^ j % 256)))) := by
          have e : f * 4096 + off = o + (le v j).length := by have := HP.out; rw [le_len]; omega
          have := HS.out.1.poke f off (v / 256 ^ j % 256) hfN hL hoff (by omega)
          rw [e, over_snoc, ← le_succ] at this
          exact ⟨this, HS.out.2.setCell _ _ ⟨f, hfN, hL, rfl⟩⟩
        have db := div_b v hv j
        have dp : Hid (v / 256 ^ j / 256 = v / 256 ^ (j + 1)) := div_pow v j
        have j1 : (j : Int) < 8 := by omega
        have o5 : (off : Int) < 4096 := by omega
        have f1 : (f : Int) < N := by omega
        clear hfo HS
        generalize v / 256 ^ j = vj at *
        generalize over B o (le v j) (f * 4096 + off) = bb at *
        go_wp2_with (go_at_call 50; refine cN.mono ?_; rintro e w1 ⟨rfl, rfl⟩)
        go_roundw
        case rel => exact ⟨j + 1, by omega, by go_num, by rw [← dp.out], HW⟩
        case measure => simp [intOf]; omega
      · have j1 : ¬ (j : Int) < 8 := by omega
        obtain rfl : j = 8 := by omega
        go_wp2
        go_ret
        exact ⟨rfl, HS.out⟩
theorem wide_no {n : Int} (hn : ¬ (n = 1 ∨ n = 2 ∨ n = 4 ∨ n = 8)) : n ≠ 1 ∧ n ≠ 2 ∧ n ≠ 4 ∧ n ≠ 8 := by omega
theorem loadG_width (pa n : Int) (hn : ¬ (n = 1 ∨ n = 2 ∨ n = 4 ∨ n = 8)) : Calls Try.prog 20 #[.pointer (some ⟨q, 0, .none⟩), .int .u64 pa, .int .i64 n] W fun e w' => e = .returned (.tuple #[.int .u64 0, .bool false]) ∧ w' = W := by
  obtain ⟨h1, h2, h3, h4⟩ := wide_no hn
  have x1 : (n != 1) = true := by rw [bne_iff_ne]; exact h1
  have x2 : (n != 2) = true := by rw [bne_iff_ne]; exact h2
  have x3 : (n != 4) = true := by rw [bne_iff_ne]; exact h3
  have x4 : (n != 8) = true := by rw [bne_iff_ne]; exact h4
  clear hn
  go_enter Try.func20, Try.ntmps20
  go_wp2
  go_ret2
  exact ⟨rfl, rfl⟩
theorem storeG_width (pa n v : Int) (hn : ¬ (n = 1 ∨ n = 2 ∨ n = 4 ∨ n = 8)) : Calls Try.prog 22 #[.pointer (some ⟨q, 0, .none⟩), .int .u64 pa, .int .i64 n, .int .u64 v] W fun e w' => e = .returned (.bool false) ∧ w' = W := by
  obtain ⟨h1, h2, h3, h4⟩ := wide_no hn
  have x1 : (n != 1) = true := by rw [bne_iff_ne]; exact h1
  have x2 : (n != 2) = true := by rw [bne_iff_ne]; exact h2
  have x3 : (n != 4) = true := by rw [bne_iff_ne]; exact h3
  have x4 : (n != 8) = true := by rw [bne_iff_ne]; exact h4
  clear hn
  go_enter Try.func22, Try.ntmps22
  go_wp2
  go_ret
  exact ⟨rfl, rfl⟩
theorem loadG_no (pa : Int) (n : Int) (hn : n = 1 ∨ n = 2 ∨ n = 4 ∨ n = 8) (c : Calls Try.prog 49 #[.pointer (some ⟨q, 0, .none⟩), .int .u64 pa, .int .i64 n] W fun e w' => e = .returned (.bool false) ∧ w' = W) : Calls Try.prog 20 #[.pointer (some ⟨q, 0, .none⟩), .int .u64 pa, .int .i64 n] W fun e w' => e = .returned (.tuple #[.int .u64 0, .bool false]) ∧ w' = W := by
  rcases hn with rfl | rfl | rfl | rfl
  all_goals
    go_enter Try.func20, Try.ntmps20
    go_wp2_with (go_at_call 49; refine c.mono ?_; rintro e w0 ⟨rfl, rfl⟩)
    go_ret2
    exact ⟨rfl, rfl⟩
theorem storeG_no (pa : Int) (n v : Int) (hn : n = 1 ∨ n = 2 ∨ n = 4 ∨ n = 8) (c : Calls Try.prog 49 #[.pointer (some ⟨q, 0, .none⟩), .int .u64 pa, .int .i64 n] W fun e w' => e = .returned (.bool false) ∧ w' = W) : Calls Try.prog 22 #[.pointer (some ⟨q, 0, .none⟩), .int .u64 pa, .int .i64 n, .int .u64 v] W fun e w' => e = .returned (.bool false) ∧ w' = W := by
  rcases hn with rfl | rfl | rfl | rfl
  all_goals
    go_enter Try.func22, Try.ntmps22
    go_wp2_with (go_at_call 49; refine c.mono ?_; rintro e w0 ⟨rfl, rfl⟩)
    go_ret
    exact ⟨rfl, rfl⟩
end
end Go.Proofs.Ytnghcadhilfgnaa
