import Derived.Test.YtbpgdepgplmpnaaRw
namespace Go.Proofs.Ytbpgdepgplmpnaa
open Go.RowKit
set_option linter.unusedVariables false
set_option linter.unusedSimpArgs false
theorem over_in (B : Nat → Int) (o : Nat) (vs : List Int) (k : Nat) (h : k < vs.length) : over B o vs (o + k) = vs.getD k 0 := by
  unfold over
  rw [if_pos (by omega), show o + k - o = k by omega]
theorem over_out (B : Nat → Int) (o : Nat) (vs : List Int) (j : Nat) (h : j < o ∨ o + vs.length ≤ j) : over B o vs j = B j := by
  unfold over
  rw [if_neg (by omega)]
theorem over_le (B : Nat → Int) (o : Nat) (v : Int) (n k : Nat) (h : k < n) : over B o (le v n) (o + k) = v / 256 ^ k % 256 := by
  rw [over_in B o (le v n) k (by rw [le_len]; exact h), le_get v n k h]
theorem num_le (B : Nat → Int) (o : Nat) (v : Int) (n : Nat) : ∀ k, k ≤ n → num (over B o (le v n)) o k = md v k := by
  intro k
  induction k with
  | zero => intro _; rw [md_zero]; rfl
  | succ k ih => intro hk; rw [md_step]; simp only [num]; rw [ih (by omega), over_le B o v n k (by omega), Int.mul_comm]
theorem hdL_ok (N : Nat) (L : List Nat) (o n : Nat) (h : ∀ f, o / 4096 ≤ f → f * 4096 < o + n → f < N ∧ f ∉ L) : ∀ f : Nat, o / 4096 ≤ f → f * 4096 < o + n → hdL N L (2147483648 + f * 4096) = true := fun f h1 h2 => by
  rw [hdL_addr N L f (h f h1 h2).1]
  simp [(h f h1 h2).2]
theorem u64_not (v : Int) (hv : 0 ≤ v ∧ v < 18446744073709551616) : 0 ≤ bits .xor .u64 IntKind.u64.max v ∧ bits .xor .u64 IntKind.u64.max v < 18446744073709551616 := by
  have e : bits .xor .u64 IntKind.u64.max v = IntKind.u64.wrap (((BitVec.ofInt 64 IntKind.u64.max ^^^ BitVec.ofInt 64 v).toNat : Nat) : Int) := rfl
  rw [e, IntKind.wrap_u64]
  omega
theorem and_mask (i : Nat) (hi : i ≤ 64) (v : Int) (hv : 0 ≤ v ∧ v < 18446744073709551616) : bits .and .u64 v (2 ^ i - 1) = v % 2 ^ i :=
  bits_mask .u64 64 (by decide) wraps_u64 i hi v hv.1 hv.2
set_option maxHeartbeats 4000000 in
theorem widths_walk (at_ v : Int) (w : World) (ha : 0 ≤ at_ ∧ at_ < 18446744073709551616) (hv : 0 ≤ v ∧ v < 18446744073709551616) :
    Calls Try.prog 3 #[.int .u64 at_, .int .u64 v] w fun e w' => e = .returned (.bool true) ∧ Below w.heap.size w w' := by
  have c := new_any 4 (by omega) (by omega) w
  rw [show ((4 : Nat) : Int) = 4 from rfl] at c
  go_enter Try.func3, Try.ntmps3
  go_wp2_with fail
  refine c.mono ?_
  rintro e w1 ⟨p, b, m, hp, hb, hm, rfl, R1, B1⟩
  clear c
  have R1' : Ram w1 p b m 4 (newB 3) [3, 2, 1] := R1
  have c := alloc_some 3 R1'
  rw [show (2147483648 + ((3 : Nat) : Int) * 4096) = 2147495936 from rfl] at c
  have HB1 : Hid (Below w.heap.size w w1) := B1
  clear R1 R1' B1
  go_wp2_with fail
  refine c.mono ?_
  rintro e w2 ⟨rfl, R2, F2⟩
  clear c
  have c := alloc_some 2 R2
  rw [show (2147483648 + ((2 : Nat) : Int) * 4096) = 2147491840 from rfl] at c
  have HB2 : Hid (Below w.heap.size w w2) := HB1.out.trans (F2.toBelow HB1.out.size hp hb hm)
  clear R2 F2 HB1
  go_wp2_with fail
  refine c.mono ?_
  rintro e w3 ⟨rfl, R3, F3⟩
  clear c
  have HB3 : Hid (Below w.heap.size w w3) := HB2.out.trans (F3.toBelow HB2.out.size hp hb hm)
  have M3 := R3.mem
  generalize zer (zer (newB 3) 3) 2 = B3 at M3
  obtain ⟨o, ho⟩ : ∃ o : Nat, 2147491840 + at_ % 8180 = 2147483648 + (o : Int) := ⟨(8192 + at_ % 8180).toNat, by omega⟩
  have ho1 : 8192 ≤ o ∧ o < 16372 := by omega
  have hh : ∀ n, n ≤ 8 → ∀ f : Nat, o / 4096 ≤ f → f * 4096 < o + n → hdL 4 [1] (2147483648 + f * 4096) = true := fun n hn => hdL_ok 4 [1] o n (fun f h1 h2 => ⟨by omega, by simp; omega⟩)
  have c := store_ok M3 o 8 (by omega) (by omega) (hh 8 (by omega)) v hv
  rw [← ho, show ((8 : Nat) : Int) = 8 from rfl] at c
  clear R3 F3 HB2 M3
  have Hho : Hid (2147491840 + at_ % 8180 = 2147483648 + (o : Int)) := ho
  have Hhh : Hid (∀ n, n ≤ 8 → ∀ f : Nat, o / 4096 ≤ f → f * 4096 < o + n → hdL 4 [1] (2147483648 + f * 4096) = true) := hh
  clear ho hh
  go_wp2_with fail
  refine c.mono ?_
  rintro e w4 ⟨rfl, M4, F4⟩
  clear c
  have HB4 : Hid (Below w.heap.size w w4) := HB3.out.trans (F4.toBelow HB3.out.size hp hb hm)
  have c := read_ok M4 o 8 (by omega) (by omega) (Hhh.out 8 (by omega))
  rw [← Hho.out, show ((8 : Nat) : Int) = 8 from rfl] at c
  have HM4 : Hid (Mem w4 p b m 4 (over B3 o (le v 8)) (adr [1]) (hdL 4 [1]) (4 - [1].length)) := M4
  clear F4 M4 HB3
  go_wp2_with fail
  refine c.mono ?_
  rintro e w5 ⟨g, hg1, hg2, rfl, hr, hf, hb5⟩
  clear c
  have hgp : g ≠ p := by have := HM4.out.plt; omega
  have hgb : g ≠ b := by have := HM4.out.blt; omega
  have hgm : g ≠ m := by have := HM4.out.mlt; omega
  have HR : Hid (RowB w5 g 8 (fun i => over B3 o (le v 8) (o + i))) := hr
  have HM5 : Hid (Mem w5 p b m 4 (over B3 o (le v 8)) (adr [1]) (hdL 4 [1]) (4 - [1].length)) := HM4.out.below hb5
  have HB5 : Hid (Below w.heap.size w w5) := HB4.out.trans (hb5.mono HB4.out.size)
  clear hr hf hb5 HB4 HM4
  go_wp2
  go_loopw [13] (fun k wr => ∃ n : Nat, n ≤ 8 ∧ k = .int .i64 n ∧ wr = w5) (fun k _ => 8 - (intOf k).toNat)
  case atStart => exact ⟨0, by omega, rfl, rfl⟩
  case round =>
    obtain ⟨n, hn, rfl, hwr⟩ := hrel
    have hwr := hwr.symm
    subst hwr
    have hN : n = 0 ∨ n = 1 ∨ n = 2 ∨ n = 3 ∨ n = 4 ∨ n = 5 ∨ n = 6 ∨ n = 7 ∨ n = 8 := by omega
    rcases hN with rfl | rfl | rfl | rfl | rfl | rfl | rfl | rfl | rfl
    · have k1 : w5.cell? ⟨g, 0, .none⟩ = some (.int .u8 (v % 256)) := by
        have : w5.cell? ⟨g, 0, .none⟩ = some (.int .u8 (over B3 o (le v 8) (o + 0))) := HR.out 0 (by omega)
        rw [over_le B3 o v 8 0 (by omega)] at this
        rw [this]; simp
      go_wp2
      exact ⟨⟨1, by omega, rfl, trivial⟩, by simp [intOf]⟩
    · have k1 : w5.cell? ⟨g, 1, .none⟩ = some (.int .u8 (v / 256 % 256)) := by
        have : w5.cell? ⟨g, 1, .none⟩ = some (.int .u8 (over B3 o (le v 8) (o + 1))) := HR.out 1 (by omega)
        rw [over_le B3 o v 8 1 (by omega)] at this
        rw [this, show (256 : Int) ^ 1 = 256 from rfl]
      go_wp2
      exact ⟨⟨2, by omega, rfl, trivial⟩, by simp [intOf]⟩
    · have k1 : w5.cell? ⟨g, 2, .none⟩ = some (.int .u8 (v / 65536 % 256)) := by
        have : w5.cell? ⟨g, 2, .none⟩ = some (.int .u8 (over B3 o (le v 8) (o + 2))) := HR.out 2 (by omega)
        rw [over_le B3 o v 8 2 (by omega)] at this
        rw [this, show (256 : Int) ^ 2 = 65536 from rfl]
      go_wp2
      exact ⟨⟨3, by omega, rfl, trivial⟩, by simp [intOf]⟩
    · have k1 : w5.cell? ⟨g, 3, .none⟩ = some (.int .u8 (v / 16777216 % 256)) := by
        have : w5.cell? ⟨g, 3, .none⟩ = some (.int .u8 (over B3 o (le v 8) (o + 3))) := HR.out 3 (by omega)
        rw [over_le B3 o v 8 3 (by omega)] at this
        rw [this, show (256 : Int) ^ 3 = 16777216 from rfl]
      go_wp2
      exact ⟨⟨4, by omega, rfl, trivial⟩, by simp [intOf]⟩
    · have k1 : w5.cell? ⟨g, 4, .none⟩ = some (.int .u8 (v / 4294967296 % 256)) := by
        have : w5.cell? ⟨g, 4, .none⟩ = some (.int .u8 (over B3 o (le v 8) (o + 4))) := HR.out 4 (by omega)
        rw [over_le B3 o v 8 4 (by omega)] at this
        rw [this, show (256 : Int) ^ 4 = 4294967296 from rfl]
      go_wp2
      exact ⟨⟨5, by omega, rfl, trivial⟩, by simp [intOf]⟩
    · have k1 : w5.cell? ⟨g, 5, .none⟩ = some (.int .u8 (v / 1099511627776 % 256)) := by
        have : w5.cell? ⟨g, 5, .none⟩ = some (.int .u8 (over B3 o (le v 8) (o + 5))) := HR.out 5 (by omega)
        rw [over_le B3 o v 8 5 (by omega)] at this
        rw [this, show (256 : Int) ^ 5 = 1099511627776 from rfl]
      go_wp2
      exact ⟨⟨6, by omega, rfl, trivial⟩, by simp [intOf]⟩
    · have k1 : w5.cell? ⟨g, 6, .none⟩ = some (.int .u8 (v / 281474976710656 % 256)) := by
        have : w5.cell? ⟨g, 6, .none⟩ = some (.int .u8 (over B3 o (le v 8) (o + 6))) := HR.out 6 (by omega)
        rw [over_le B3 o v 8 6 (by omega)] at this
        rw [this, show (256 : Int) ^ 6 = 281474976710656 from rfl]
      go_wp2
      exact ⟨⟨7, by omega, rfl, trivial⟩, by simp [intOf]⟩
    · have k1 : w5.cell? ⟨g, 7, .none⟩ = some (.int .u8 (v / 72057594037927936)) := by
        have : w5.cell? ⟨g, 7, .none⟩ = some (.int .u8 (over B3 o (le v 8) (o + 7))) := HR.out 7 (by omega)
        rw [over_le B3 o v 8 7 (by omega)] at this
        rw [this, show (256 : Int) ^ 7 = 72057594037927936 from rfl, show v / 72057594037927936 % 256 = v / 72057594037927936 by omega]
      go_wp2
      exact ⟨⟨8, by omega, rfl, trivial⟩, by simp [intOf]⟩
    · go_wp2
      have z5 : w5.heap.size < (w5.alloc (.cells #[.int .i64 1, .int .i64 2, .int .i64 4, .int .i64 8] 3)).heap.size := by simp
      have HM6 : Hid (Mem (w5.alloc (.cells #[.int .i64 1, .int .i64 2, .int .i64 4, .int .i64 8] 3)) p b m 4 (over B3 o (le v 8)) (adr [1]) (hdL 4 [1]) (4 - [1].length)) := HM5.out.alloc _
      go_loopw [15] (fun k wq => ∃ n : Nat, n ≤ 4 ∧ k = .int .i64 n ∧ Below (w5.heap.size + 1) (w5.alloc (.cells #[.int .i64 1, .int .i64 2, .int .i64 4, .int .i64 8] 3)) wq) (fun k _ => 4 - (intOf k).toNat)
      case atStart => exact ⟨0, by omega, rfl, Below.refl _ _⟩
      case round =>
      obtain ⟨n, hn, rfl, hB⟩ := hrel
      have HB : Hid (Below (w5.heap.size + 1) (w5.alloc (.cells #[.int .i64 1, .int .i64 2, .int .i64 4, .int .i64 8] 3)) wr) := hB
      have z7 : w5.heap.size + 1 ≤ wr.heap.size := by have := hB.size; simp only [World.size_alloc] at this; exact this
      have z6 : w5.heap.size < wr.heap.size := by omega
      have M : Mem wr p b m 4 (over B3 o (le v 8)) (adr [1]) (hdL 4 [1]) (4 - [1].length) := HM6.out.below (by rw [World.size_alloc]; exact hB)
      have hN : n = 0 ∨ n = 1 ∨ n = 2 ∨ n = 3 ∨ n = 4 := by omega
      rcases hN with rfl | rfl | rfl | rfl | rfl
      · have k1 : wr.cell? ⟨w5.heap.size, 0, .none⟩ = some (.int .i64 1) := (hB.cell (p := ⟨w5.heap.size, 0, .none⟩) (by simp)).trans (by simp)
        have c := load_ok M o 1 (by omega) (by omega) (Hhh.out 1 (by omega))
        rw [← Hho.out, num_le B3 o v 8 1 (by omega), show ((1 : Nat) : Int) = 1 from rfl] at c
        have hq : bits .and .u64 v 255 = md v 1 := by
          have := and_mask 8 (by omega) v hv
          rw [show (2 : Int) ^ 8 - 1 = 255 from rfl, show (2 : Int) ^ 8 = 256 ^ 1 from rfl] at this
          exact this
        clear M hB
        generalize md v 1 = X at *
        go_wp2_with (first | (go_at_call 13; refine c.mono ?_; rintro e w7 ⟨rfl, hb7⟩; have k1 : w7.cell? ⟨w5.heap.size, 0, .none⟩ = some (.int .i64 1) := (hb7.cell (p := ⟨w5.heap.size, 0, .none⟩) z6).trans k1) | fail)
        exact ⟨⟨1, by omega, rfl, HB.out.trans (hb7.mono z7)⟩, by simp [intOf]⟩
      · have k1 : wr.cell? ⟨w5.heap.size, 1, .none⟩ = some (.int .i64 2) := (hB.cell (p := ⟨w5.heap.size, 1, .none⟩) (by simp)).trans (by simp)
        have c := load_ok M o 2 (by omega) (by omega) (Hhh.out 2 (by omega))
        rw [← Hho.out, num_le B3 o v 8 2 (by omega), show ((2 : Nat) : Int) = 2 from rfl] at c
        have hq : bits .and .u64 v 65535 = md v 2 := by
          have := and_mask 16 (by omega) v hv
          rw [show (2 : Int) ^ 16 - 1 = 65535 from rfl, show (2 : Int) ^ 16 = 256 ^ 2 from rfl] at this
          exact this
        clear M hB
        generalize md v 2 = X at *
        go_wp2_with (first | (go_at_call 13; refine c.mono ?_; rintro e w7 ⟨rfl, hb7⟩; have k1 : w7.cell? ⟨w5.heap.size, 1, .none⟩ = some (.int .i64 2) := (hb7.cell (p := ⟨w5.heap.size, 1, .none⟩) z6).trans k1) | fail)
        exact ⟨⟨2, by omega, rfl, HB.out.trans (hb7.mono z7)⟩, by simp [intOf]⟩
      · have k1 : wr.cell? ⟨w5.heap.size, 2, .none⟩ = some (.int .i64 4) := (hB.cell (p := ⟨w5.heap.size, 2, .none⟩) (by simp)).trans (by simp)
        have c := load_ok M o 4 (by omega) (by omega) (Hhh.out 4 (by omega))
        rw [← Hho.out, num_le B3 o v 8 4 (by omega), show ((4 : Nat) : Int) = 4 from rfl] at c
        have hq : bits .and .u64 v 4294967295 = md v 4 := by
          have := and_mask 32 (by omega) v hv
          rw [show (2 : Int) ^ 32 - 1 = 4294967295 from rfl, show (2 : Int) ^ 32 = 256 ^ 4 from rfl] at this
          exact this
        clear M hB
        generalize md v 4 = X at *
        go_wp2_with (first | (go_at_call 13; refine c.mono ?_; rintro e w7 ⟨rfl, hb7⟩; have k1 : w7.cell? ⟨w5.heap.size, 2, .none⟩ = some (.int .i64 4) := (hb7.cell (p := ⟨w5.heap.size, 2, .none⟩) z6).trans k1) | fail)
        exact ⟨⟨3, by omega, rfl, HB.out.trans (hb7.mono z7)⟩, by simp [intOf]⟩
      · have k1 : wr.cell? ⟨w5.heap.size, 3, .none⟩ = some (.int .i64 8) := (hB.cell (p := ⟨w5.heap.size, 3, .none⟩) (by simp)).trans (by simp)
        have c := load_ok M o 8 (by omega) (by omega) (Hhh.out 8 (by omega))
        rw [← Hho.out, num_le B3 o v 8 8 (by omega), show ((8 : Nat) : Int) = 8 from rfl] at c
        have hq : bits .and .u64 v (IntKind.u64.wrap (IntKind.u64.wrap 18446744073709551616 - 1)) = md v 8 := by
          rw [show IntKind.u64.wrap (IntKind.u64.wrap 18446744073709551616 - 1) = 18446744073709551615 by kernel_rfl]
          have := and_mask 64 (by omega) v hv
          rw [show (2 : Int) ^ 64 - 1 = 18446744073709551615 from rfl, show (2 : Int) ^ 64 = 256 ^ 8 from rfl] at this
          exact this
        clear M hB
        generalize md v 8 = X at *
        go_wp2_with (first | (go_at_call 13; refine c.mono ?_; rintro e w7 ⟨rfl, hb7⟩; have k1 : w7.cell? ⟨w5.heap.size, 3, .none⟩ = some (.int .i64 8) := (hb7.cell (p := ⟨w5.heap.size, 3, .none⟩) z6).trans k1) | fail)
        exact ⟨⟨4, by omega, rfl, HB.out.trans (hb7.mono z7)⟩, by simp [intOf]⟩
      · have HW : Hid (Below w.heap.size w wr) := (HB5.out.alloc (Nat.le_trans HB5.out.size (Nat.le_refl _)) _).trans (hB.mono (by have := HB5.out.size; omega))
        have hbelow5 : Below w5.heap.size w5 wr := ((Below.refl _ _).alloc (Nat.le_refl _) _).trans (hB.mono (Nat.le_succ _))
        have HR7 : Hid (RowB wr g 8 (fun i => over B3 o (le v 8) (o + i))) := HR.out.below hbelow5 hg2
        have HMr : Hid (Mem wr p b m 4 (over B3 o (le v 8)) (adr [1]) (hdL 4 [1]) (4 - [1].length)) := M
        have c := store_ok M (o + 2) 2 (by omega) (by omega) (fun f h1 h2 => Hhh.out 8 (by omega) f (by omega) (by omega)) _ (u64_not v hv)
        rw [show (2147483648 + ((o + 2 : Nat) : Int)) = 2147491840 + at_ % 8180 + 2 by have := Hho.out; omega, show ((2 : Nat) : Int) = 2 from rfl] at c
        have hs : IntKind.u64.signed = false := rfl
        have hgr : g < wr.heap.size := by omega
        clear M hB hbelow5
        go_wp2_with fail
        refine c.mono ?_
        rintro e w8 ⟨rfl, M8, F8⟩
        clear c
        have HR8 : ∀ i, i < 4 → w8.cell? ⟨g, 4 + i, .none⟩ = some (.int .u8 (over B3 o (le v 8) (o + (4 + i)))) := fun i hi => (F8.cell (x := ⟨g, 4 + i, .none⟩) hgr hgp hgb hgm).trans (HR7.out (4 + i) (by omega))
        have c := write_ok M8 (o + 4) 4 (by omega) (by omega) (fun f h1 h2 => Hhh.out 8 (by omega) f (by omega) (by omega)) g 4 4 _ (fun i => HMr.out.bb _) HR8
        rw [show (2147483648 + ((o + 4 : Nat) : Int)) = 2147491840 + at_ % 8180 + 4 by have := Hho.out; omega] at c
        have HB8 : Hid (Below w.heap.size w w8) := HW.out.trans (F8.toBelow HW.out.size hp hb hm)
        clear M8 F8 HR8
        go_wp2_with fail
        refine c.mono ?_
        rintro e w9 ⟨rfl, M9, F9⟩
        have HB9 : Hid (Below w.heap.size w w9) := HB8.out.trans (F9.toBelow HB8.out.size hp hb hm)
        clear c M9 F9
        go_wp2
        go_ret
        exact ⟨rfl, HB9.out⟩
end Go.Proofs.Ytbpgdepgplmpnaa
