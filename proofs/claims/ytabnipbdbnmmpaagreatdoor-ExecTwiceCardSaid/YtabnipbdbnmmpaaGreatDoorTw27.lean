import Derived.Test.YtabnipbdbnmmpaaGreatDoorRows
import Derived.Test.YtabnipbdbnmmpaaGreatDoorTw26
import Derived.Shelf.Abstract
import Derived.Shelf.RegionOpen
import Derived.WalkKit
import Derived.WalkSpells
import Derived.RowKit3
import Derived.LoopTactic
import Derived.WalkSmall
import Derived.Laws.Externs
import Derived.Lib.Bytealg
import Derived.Lib.IndexLaws
import Derived.Lib.BytesEntry
import Derived.Deep.Cut
import Derived.Below
import Derived.Laws.NewBlocks
import Derived.Deep.QuietTactic
import Derived.BigQuiet
import Derived.RegionTactic
import Derived.BigRegion
import Derived.Deep.DeepCutAuto
import Derived.Deep.CutBlock
import Derived.OneCell
set_option linter.unusedVariables false
set_option linter.unusedSimpArgs false
namespace Go.Proofs.YtabnipbdbnmmpaaGreatDoor
open Go.RowKit Go.Shelf
attribute [local go_sem] Oper.semAt_some
set_option maxRecDepth 10000
abbrev Bs := List UInt8
abbrev ix (l : Bs) (c : UInt8) : Int := Lib.indexByte l c
theorem ix_cases (l : Bs) (c : UInt8) : ix l c = -1 ∨ ∃ o : Nat, ix l c = o ∧ o < l.length := by
 have h : -1 ≤ ix l c := Lib.indexByte_ge l c
 by_cases e : ix l c = -1
 ·exact .inl e
 ·right
  refine ⟨(ix l c).toNat, by omega, ?_⟩
  have h1 := (Lib.indexByte_some (l := l) (c := c) (o := (ix l c).toNat) (show ix l c = _ by omega)).1
  exact (List.getElem?_eq_some_iff.1 h1).1
def hz (l : Bs) : Bool := decide (0 ∈ l)
theorem ix_hz (l : Bs) : decide (0 ≤ ix l 0) = hz l := by
 unfold hz
 rcases ix_cases l 0 with e | ⟨o, e, ho⟩
 ·have hn : (0 : UInt8) ∉ l := fun hm => by
   obtain ⟨k, hk⟩ := List.mem_iff_getElem?.1 hm
   exact absurd hk (Lib.indexByte_none e k)
  rw [e]
  simp [hn]
 ·have hm : (0 : UInt8) ∈ l := List.mem_iff_getElem?.2 ⟨o, (Lib.indexByte_some e).1⟩
  rw [e]
  simp [hm]
theorem idxS_any (s : ByteArray) (c : Int) (w : World) : Calls Tryz.prog 177 #[.string s, .int .u8 c] w fun e w' => e = .returned (.int .i64 (ix s.data.toList c.toNat.toUInt8)) ∧ w' = w := by
 go_enter Tryz.func177, Tryz.ntmps177
 go_wp2
 rw [run_callFunc_extern Tryz.func206 (by kernel_rfl) (by kernel_rfl) (by kernel_rfl) (e := Extern.BytealgIndexByte.indexByte) (by kernel_rfl), Lib.run_indexByteString]
 simp only [Result.andThen]
 rw [Oper.upon_value]
 go_wp2
 go_ret
 exact ⟨rfl, rfl⟩
theorem indexByte_any (s : ByteArray) (c : Int) (w : World) : Calls Tryz.prog 139 #[.string s, .int .u8 c] w fun e w' => e = .returned (.int .i64 (ix s.data.toList c.toNat.toUInt8)) ∧ w' = w := by
 have c1 := idxS_any s c w
 go_enter Tryz.func139, Tryz.ntmps139
 go_wp2_with (go_at_call 177; refine c1.mono ?_; rintro _ _ ⟨rfl, rfl⟩)
 go_ret
 exact ⟨rfl, rfl⟩
def sv (x : Bs) : Value := .string ⟨x.toArray⟩
theorem hasZero_any (l : Bs) (w : World) : Calls Tryz.prog 87 #[sv l] w fun e w' => e = .returned (.bool (hz l)) ∧ w' = w := by
 have c1 : Calls Tryz.prog 139 #[.string ⟨l.toArray⟩, .int .u8 0] w fun e w' => e = .returned (.int .i64 (ix l 0)) ∧ w' = w := indexByte_any ⟨l.toArray⟩ 0 w
 have h0 := ix_hz l
 unfold sv
 generalize ix l 0 = z at *
 rw [← h0]
 clear h0
 go_enter Tryz.func87, Tryz.ntmps87
 go_wp2_with (go_at_call 139; refine c1.mono ?_; rintro _ _ ⟨rfl, rfl⟩)
 go_ret
 exact ⟨rfl, rfl⟩
def Tex (w : World) (p : Option Addr) (n c : Nat) (xs : List Bs) : Prop :=
 xs.length = n ∧ n ≤ c ∧ c ≤ maxLen ∧ (n = 0 ∨ ∃ b o, p = some ⟨b, o, .none⟩ ∧ b < w.heap.size ∧ ∀ i x, xs[i]? = some x → w.cell? ⟨b, o + i, .none⟩ = some (sv x))
theorem Tex.below {w w' : World} {p : Option Addr} {n c : Nat} {xs : List Bs} (h : Tex w p n c xs) (hb : Below w.heap.size w w') : Tex w' p n c xs := by
 obtain ⟨h1, h2, h3, h4⟩ := h
 refine ⟨h1, h2, h3, ?_⟩
 rcases h4 with h4 | ⟨b, o, rfl, h5, h6⟩
 ·exact .inl h4
 ·exact .inr ⟨b, o, rfl, Nat.lt_of_lt_of_le h5 hb.size, fun i x hx => (hb.cell (p := ⟨b, o + i, .none⟩) h5).trans (h6 i x hx)⟩
theorem Tex.at {w : World} {p : Option Addr} {n c i : Nat} {xs : List Bs} (h : Tex w p n c xs) (hi : i < n) : ∃ b o x, p = some ⟨b, o, .none⟩ ∧ xs[i]? = some x ∧ w.cell? ⟨b, o + i, .none⟩ = some (.string ⟨x.toArray⟩) := by
 obtain ⟨h1, h2, h3, h4⟩ := h
 rcases h4 with h4 | ⟨b, o, rfl, h5, h6⟩
 ·omega
 ·exact ⟨b, o, xs[i]'(by omega), rfl, List.getElem?_eq_getElem _, h6 i _ (List.getElem?_eq_getElem _)⟩
def fz (xs : List Bs) : Option Nat := xs.findIdx? hz
set_option maxHeartbeats 1000000 in
theorem indexF_any (p : Option Addr) (n c : Nat) (xs : List Bs) (w : World) (hn : n < 1000000) (h : Tex w p n c xs) :
  Calls Tryz.prog 138 #[.slice p n c, .func (.func 87) #[] #[]] w fun e w' => (∃ z : Int, e = .returned (.int .i64 z) ∧ decide (0 ≤ z) = xs.any hz) ∧ w' = w := by
 have HT : Hid (Tex w p n c xs) := h
 have hc : c ≤ 9223372036854775807 := h.2.2.1
 have hnc : n ≤ c := h.2.1
 have HL : Hid (xs.length = n) := h.1
 clear h
 go_enter Tryz.func138, Tryz.ntmps138
 go_wp2_with fail
 go_loopw [8] (fun a wr => ∃ i : Nat, i ≤ n ∧ a = .int .i64 i ∧ Hid ((xs.take i).any hz = false) ∧ wr = w) (fun a _ => (n - intOf a).toNat)
 case atStart => exact ⟨0, by omega, rfl, by show _ = _; simp, rfl⟩
 case round =>
  obtain ⟨i, hi, rfl, HA, rfl⟩ := hrel
  by_cases hlt : i < n
  ·have g0 : (i : Int) < n := by omega
   obtain ⟨b, o, x, rfl, hx, a0⟩ := HT.out.at hlt
   have hnext : (xs.take (i + 1)).any hz = hz x := by
    rw [List.take_add_one, hx, List.any_append, HA.out]
    simp
   have c1 := hasZero_any x wr
   unfold sv at c1
   have HX : Hid (xs[i]? = some x) := hx
   clear hx
   cases hzx : hz x with
   | true =>
    rw [hzx] at c1 hnext
    have HN : Hid ((xs.take (i + 1)).any hz = true) := hnext
    clear hnext hzx
    go_wp2_with (go_at_call 87; refine c1.mono ?_; rintro _ _ ⟨rfl, rfl⟩)
    go_ret
    refine ⟨⟨i, rfl, ?_⟩, rfl⟩
    have : xs.any hz = true := by
     rw [← List.take_append_drop (i + 1) xs, List.any_append, HN.out]; rfl
    rw [this]; simp
   | false =>
    rw [hzx] at c1 hnext
    have HN : Hid ((xs.take (i + 1)).any hz = false) := hnext
    clear hnext hzx
    go_wp2_with (go_at_call 87; refine c1.mono ?_; rintro _ _ ⟨rfl, rfl⟩)
    exact ⟨⟨i + 1, by omega, rfl, HN, trivial⟩, by simp only [intOf]; omega⟩
  ·obtain rfl : i = n := by omega
   go_wp2
   go_ret
   refine ⟨⟨-1, rfl, ?_⟩, rfl⟩
   have := HA.out
   rw [← HL.out, List.take_length] at this
   rw [this]; rfl
theorem contains_any (p : Option Addr) (n c : Nat) (xs : List Bs) (w : World) (hn : n < 1000000) (h : Tex w p n c xs) :
  Calls Tryz.prog 86 #[.slice p n c, .func (.func 87) #[] #[]] w fun e w' => e = .returned (.bool (xs.any hz)) ∧ w' = w := by
 have c1 := indexF_any p n c xs w hn h
 clear h
 go_enter Tryz.func86, Tryz.ntmps86
 go_wp2_with (go_at_call 138; refine c1.mono ?_; rintro _ _ ⟨⟨z, rfl, hz1⟩, rfl⟩; have HZ : Hid (decide (0 ≤ z) = xs.any hz) := hz1; clear hz1 c1)
 go_ret
 exact ⟨by rw [← HZ.out]; rfl, rfl⟩
end Go.Proofs.YtabnipbdbnmmpaaGreatDoor
namespace Go.Proofs.YtabnipbdbnmmpaaGreatDoor
open Go.RowKit
def ramB : ByteArray := ⟨#[101, 108, 102]⟩
def FaultIn (w' : World) (B : Nat) (v : Value) (a r : Int) : Prop :=
 ∃ b, B ≤ b ∧ b < w'.heap.size ∧ v = .iface 86 (.pointer (some ⟨b, 0, .none⟩)) ∧ w'.cell? ⟨b, 0, .none⟩ = some (.string ramB) ∧ w'.cell? ⟨b, 1, .none⟩ = some (.int .i64 a) ∧ w'.cell? ⟨b, 2, .none⟩ = some (.iface 45 (.int .i64 r))
theorem faultIn_new (w : World) (B : Nat) (a r : Int) (h : B ≤ w.heap.size) : FaultIn (w.alloc (.cells #[.string ramB, .int .i64 a, .iface 45 (.int .i64 r)] 151)) B (.iface 86 (.pointer (some ⟨w.heap.size, 0, .none⟩))) a r :=
 ⟨w.heap.size, h, by simp, rfl, by simp, by simp, by simp⟩
end Go.Proofs.YtabnipbdbnmmpaaGreatDoor
namespace Go.Proofs.YtabnipbdbnmmpaaGreatDoor
open Go.RowKit
def num (B : Nat → Int) (o : Nat) : Nat → Int
 | 0 => 0
 | k + 1 => num B o k + 256 ^ k * B (o + k)
theorem num_bd (B : Nat → Int) (hB : ∀ i, 0 ≤ B i ∧ B i < 256) (o k : Nat) : 0 ≤ num B o k ∧ num B o k < 256 ^ k := by
 induction k with
 | zero => simp [num]
 | succ k ih =>
  have h1 := hB (o + k)
  have hp : (0 : Int) < 256 ^ k := Int.pow_pos (by decide)
  simp only [num, Int.pow_succ]
  have h2 : 256 ^ k * B (o + k) ≤ 256 ^ k * 255 := Int.mul_le_mul_of_nonneg_left (by omega) (by omega)
  have h3 : 0 ≤ 256 ^ k * B (o + k) := Int.mul_nonneg (by omega) h1.1
  omega
theorem lt_of_cell {w : World} {x : Addr} {v : Value} (h : w.cell? x = some v) : x.block < w.heap.size := by
 by_cases hx : x.block < w.heap.size
 ·exact hx
 ·simp [World.cell?, Array.getElem?_eq_none (Nat.le_of_not_lt hx)] at h
theorem wraps_u64 (n : Int) (h₀ : 0 ≤ n) (h₁ : n < 2 ^ 64) : IntKind.u64.wrap n = n := by rw [IntKind.wrap_u64]; omega
theorem or_u64 (i : Nat) (x y z : Int) (hx : 0 ≤ x) (hxi : x < 2 ^ i) (hy : 0 ≤ y) (hyi : y % 2 ^ i = 0) (hy1 : y < 18446744073709551616) (hz : x + y = z) (hx1 : x < 18446744073709551616) : bits .or .u64 x y = z := by
 have e : bits .or .u64 x y = bits .or .u64 y x := by simp only [bits]; rw [BitVec.or_comm]
 rw [e, bits_join .u64 64 (by decide) wraps_u64 i y x hy hyi (by omega) hx hxi (by omega)]
 omega
theorem or_step (B : Nat → Int) (hB : ∀ i, 0 ≤ B i ∧ B i < 256) (o i : Nat) (hi : i < 8) : bits .or .u64 (num B o i) (IntKind.u64.wrap (B (o + i) * 2 ^ (8 * i))) = num B o (i + 1) := by
 have h1 := num_bd B hB o i
 have h2 := hB (o + i)
 have e : (2 : Int) ^ (8 * i) = 256 ^ i := by rw [Int.pow_mul]; rfl
 have hp : (0 : Int) < 256 ^ i := Int.pow_pos (by decide)
 have hq : (256 : Int) ^ i * 256 ≤ 18446744073709551616 := by
  have : i = 0 ∨ i = 1 ∨ i = 2 ∨ i = 3 ∨ i = 4 ∨ i = 5 ∨ i = 6 ∨ i = 7 := by omega
  rcases this with rfl | rfl | rfl | rfl | rfl | rfl | rfl | rfl <;> decide
 rw [e]
 have h3 : B (o + i) * 256 ^ i ≤ 255 * 256 ^ i := Int.mul_le_mul_of_nonneg_right (by omega) (by omega)
 have h4 : 0 ≤ B (o + i) * 256 ^ i := Int.mul_nonneg h2.1 (by omega)
 rw [wraps_u64 _ h4 (by omega)]
 refine or_u64 (8 * i) _ _ _ h1.1 (by rw [e]; exact h1.2) h4 (by rw [e]; exact Int.mul_emod_left _ _) (by omega) ?_ (by omega)
 simp only [num]
 rw [Int.mul_comm]
def Row (w : World) (b o n : Nat) (B : Nat → Int) : Prop := ∀ i, i < n → w.cell? ⟨b, o + i, .none⟩ = some (.int .u8 (B i))
theorem Row.keep {w w' : World} {b o n : Nat} {B : Nat → Int} (h : Row w b o n B) (hb : Below w.heap.size w w') : Row w' b o n B := fun i hi => (hb.cell (lt_of_cell (h i hi))).trans (h i hi)
theorem cut_any (b o n c at_ k : Nat) (w : World) (hk : 0 < k) (h : at_ + k ≤ c) (hc : c ≤ 9223372036854775807) : Calls Tryz.prog 170 #[.slice (some ⟨b, o, .none⟩) n c, .int .i64 at_, .int .i64 k] w fun e w' => e = .returned (.slice (some ⟨b, o + at_, .none⟩) k k) ∧ w' = w := by
 have h1 : (at_ : Int) + k ≤ c := by omega
 have h2 : (c : Int) ≤ 9223372036854775807 := by omega
 go_enter Tryz.func170, Tryz.ntmps170
 go_wp2
 go_ret
 exact ⟨by simp, rfl⟩
set_option maxHeartbeats 1000000 in
theorem in_any (b o n c at_ k : Nat) (fx : Int) (B : Nat → Int) (w : World) (hn : at_ + k ≤ n) (hc : n ≤ c) (hcm : c ≤ 9223372036854775807) (hk0 : 0 < k) (hk : k ≤ 8) (hB : ∀ i, 0 ≤ B i ∧ B i < 256) (h : Row w b o n B) :
  Calls Tryz.prog 176 #[.agg #[.int .i64 at_, .int .i64 k, .int .u64 fx], .slice (some ⟨b, o, .none⟩) n c] w fun e w' => e = .returned (.int .u64 (num B at_ k)) ∧ Below w.heap.size w w' := by
 have c35 := fun w' => cut_any b o n c at_ k w' hk0 (by omega) hcm
 go_enter Tryz.func176, Tryz.ntmps176
 go_wp2_with (first | (go_at_call 170; refine (c35 _).mono ?_; rintro e w1 ⟨rfl, rfl⟩) | fail)
 have HB1 : Hid (Below w.heap.size w (w.alloc (.cells #[.int .i64 at_, .int .i64 k, .int .u64 fx] 204))) := (Below.refl _ _).alloc (Nat.le_refl _) _
 generalize (w.alloc (.cells #[.int .i64 at_, .int .i64 k, .int .u64 fx] 204)) = W1 at *
 go_loopw [5, 15] (fun v a wr => ∃ i : Nat, i ≤ k ∧ a = .int .i64 i ∧ v = .int .u64 (num B at_ i) ∧ wr = W1) (fun _ a _ => (k - intOf a).toNat)
 case atStart => exact ⟨0, by omega, rfl, rfl, rfl⟩
 case round =>
  obtain ⟨i, hi, rfl, rfl, rfl⟩ := hrel
  by_cases hlt : i < k
  ·have g0 : (i : Int) < k := by omega
   have a0 : wr.cell? ⟨b, o + at_ + i, .none⟩ = some (.int .u8 (B (at_ + i))) := by
    have := (h.keep HB1.out) (at_ + i) (by omega)
    rwa [← Nat.add_assoc] at this
   have bb := hB (at_ + i)
   have ho := or_step B hB at_ i (by omega)
   go_wp2_with fail
   exact ⟨⟨i + 1, by omega, by simp, rfl, trivial⟩, by simp [intOf]; omega⟩
  ·have he : i = k := by omega
   have hn : ¬ ((i : Int) < k) := by omega
   subst he
   go_wp2_with fail
   go_ret
   exact ⟨rfl, HB1.out⟩
end Go.Proofs.YtabnipbdbnmmpaaGreatDoor
namespace Go.Proofs.YtabnipbdbnmmpaaGreatDoor
open Go.RowKit
theorem lies_any (rb n c : Nat) (fp : Option Addr) (a k : Int) (w : World) (h : w.cell? ⟨rb, 0, .none⟩ = some (.slice fp n c)) (hn : n ≤ 300000) (ha : 0 ≤ a ∧ a < 18446744073709551616) (hk : 0 ≤ k ∧ k < 18446744073709551616) :
  Calls Tryz.prog 204 #[.pointer (some ⟨rb, 0, .none⟩), .int .u64 a, .int .u64 k] w fun e w' => e = .returned (.bool (decide (a + k ≤ n))) ∧ w' = w := by
 by_cases h1 : k ≤ n
 ·have h2 : IntKind.u64.wrap ((n : Int) - k) = (n : Int) - k := by rw [IntKind.wrap_u64]; omega
  go_enter Tryz.func204, Tryz.ntmps204
  go_wp2
  all_goals go_ret
  all_goals exact ⟨by simp; omega, rfl⟩
 ·go_enter Tryz.func204, Tryz.ntmps204
  go_wp2
  all_goals go_ret
  all_goals exact ⟨by simp; omega, rfl⟩
def mf (f : Int) : Bool := f == 1 || f == 4 || f == 5 || f == 6 || f == 7
theorem mayFlags_any (f : Int) (w : World) (hf : 0 ≤ f ∧ f < 4294967296) : Calls Tryz.prog 134 #[.int .u32 f] w fun e w' => e = .returned (.bool (mf f)) ∧ w' = w := by
 by_cases h : 1 ≤ f ∧ f ≤ 7
 ·have : f = 1 ∨ f = 2 ∨ f = 3 ∨ f = 4 ∨ f = 5 ∨ f = 6 ∨ f = 7 := by omega
  rcases this with rfl | rfl | rfl | rfl | rfl | rfl | rfl
  all_goals
   go_enter Tryz.func134, Tryz.ntmps134
   go_wp2
   all_goals go_ret
   all_goals exact ⟨by rfl, rfl⟩
 ·go_enter Tryz.func134, Tryz.ntmps134
  go_wp2
  all_goals go_ret
  all_goals exact ⟨by simp [mf]; omega, rfl⟩
def ok1 (va fl sz mem : Int) : Bool := decide (va % 4096 = 0) && mf fl && decide (1 ≤ mem) && decide (sz ≤ mem) && decide (va + mem ≤ 1073741824)
set_option maxHeartbeats 1000000 in
theorem mayBe_any (va fl sz mem : Int) (d : Value) (w : World) (hv : 0 ≤ va ∧ va < 18446744073709551616) (hf : 0 ≤ fl ∧ fl < 4294967296) (hs : 0 ≤ sz ∧ sz < 18446744073709551616) (hm : 0 ≤ mem ∧ mem < 18446744073709551616) (hd : ∃ p n c, d = .slice p n c) :
  Calls Tryz.prog 79 #[.agg #[.int .u64 va, .int .u32 fl, d, .int .u64 mem], .int .u64 sz] w fun e w' => e = .returned (.bool (ok1 va fl sz mem)) ∧ Below w.heap.size w w' := by
 obtain ⟨p, n, c, rfl⟩ := hd
 have HB : Hid (Below w.heap.size w (w.alloc (.cells #[.int .u64 va, .int .u32 fl, .slice p n c, .int .u64 mem] 38))) := (Below.refl _ _).alloc (Nat.le_refl _) _
 have c40 := fun w' => mayFlags_any fl w' hf
 by_cases h0 : va % 4096 = 0
 ·by_cases h1 : mf fl = true
  ·by_cases h2 : mem < 1
   ·rw [h1] at c40
    go_enter Tryz.func79, Tryz.ntmps79
    go_wp2_with (first | (go_at_call 134; refine (c40 _).mono ?_; rintro e w1 ⟨rfl, rfl⟩) | fail)
    all_goals go_ret
    all_goals exact ⟨by simp [ok1]; omega, HB.out⟩
   ·by_cases h3 : mem < sz
    ·rw [h1] at c40
     go_enter Tryz.func79, Tryz.ntmps79
     go_wp2_with (first | (go_at_call 134; refine (c40 _).mono ?_; rintro e w1 ⟨rfl, rfl⟩) | fail)
     all_goals go_ret
     all_goals exact ⟨by simp [ok1]; omega, HB.out⟩
    ·by_cases h4 : mem ≤ 1073741824
     ·rw [h1] at c40
      go_enter Tryz.func79, Tryz.ntmps79
      go_wp2_with (first | (go_at_call 134; refine (c40 _).mono ?_; rintro e w1 ⟨rfl, rfl⟩) | fail)
      all_goals go_ret
      all_goals refine ⟨?_, HB.out⟩
      all_goals simp [ok1, h0, h1]
      all_goals rw [Bool.eq_iff_iff]
      all_goals simp
      all_goals omega
     ·rw [h1] at c40
      go_enter Tryz.func79, Tryz.ntmps79
      go_wp2_with (first | (go_at_call 134; refine (c40 _).mono ?_; rintro e w1 ⟨rfl, rfl⟩) | fail)
      all_goals go_ret
      all_goals refine ⟨?_, HB.out⟩
      all_goals simp [ok1, h0, h1]
      all_goals omega
  ·have h1 : mf fl = false := by simpa using h1
   rw [h1] at c40
   go_enter Tryz.func79, Tryz.ntmps79
   go_wp2_with (first | (go_at_call 134; refine (c40 _).mono ?_; rintro e w1 ⟨rfl, rfl⟩) | fail)
   all_goals go_ret
   all_goals exact ⟨by simp [ok1, h1], HB.out⟩
 ·have h0' : (va % 4096 != 0) = true := by simpa using h0
  go_enter Tryz.func79, Tryz.ntmps79
  go_wp2_with (first | (go_at_call 134; refine (c40 _).mono ?_; rintro e w1 ⟨rfl, rfl⟩) | fail)
  all_goals go_ret
  all_goals exact ⟨by simp [ok1, h0], HB.out⟩
theorem refusal_any (a r : Int) (w : World) : Calls Tryz.prog 38 #[.int .i64 a, .int .i64 r] w fun e w' => e = .returned (.pointer (some ⟨w.heap.size, 0, .none⟩)) ∧ w' = w.alloc (.cells #[.string ramB, .int .i64 a, .iface 45 (.int .i64 r)] 151) := by
 go_enter Tryz.func38, Tryz.ntmps38
 go_wp2
 go_ret
 exact ⟨rfl, rfl⟩
def Up (w : World) (a r : Int) (e : Ending) (w' : World) : Prop := ∃ v, e = .panicked [{ v := v, recovered := false }] ∧ FaultIn w' w.heap.size v a r ∧ Below w.heap.size w w'
theorem giveUp_any (a r : Int) (w : World) : Calls Tryz.prog 175 #[.int .i64 a, .int .i64 r] w fun e w' => Up w a r e w' := by
 go_enter Tryz.func175, Tryz.ntmps175
 go_wp2_with (go_at_call 38; refine (refusal_any a r w).mono ?_; rintro e w0 ⟨rfl, rfl⟩)
 exact ⟨rfl, _, rfl, faultIn_new w w.heap.size a r (Nat.le_refl _), (Below.refl _ _).alloc (Nat.le_refl _) _⟩
theorem Up.back {V w w' : World} {a r : Int} {e : Ending} (h : Up w a r e w') (b : Below V.heap.size V w) : Up V a r e w' := by
 obtain ⟨v, h1, ⟨x, h2, h3⟩, h4⟩ := h
 exact ⟨v, h1, ⟨x, Nat.le_trans b.size h2, h3⟩, b.trans (h4.mono b.size)⟩
end Go.Proofs.YtabnipbdbnmmpaaGreatDoor
