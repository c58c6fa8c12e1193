import Derived.Test.YtabnipbdbnmmpaaGreatDoorTw02
import Derived.LoopN
import Derived.Test.YtabnipbdbnmmpaaGreatDoorTw04
import Derived.Laws.Cover3
import Derived.Deep.QuietTactic
import Derived.BigQuiet
import Derived.Deep.RegionLawGrows
import Derived.Deep.RegionHeld3
set_option linter.unusedVariables false
set_option linter.unusedSimpArgs false
namespace Go.Proofs.YtabnipbdbnmmpaaGreatDoor.Rm
open Go.RowKit
def Unm (w : World) (v : Value) : Prop := v = .pointer .none ∨ ∃ p, v = .pointer (some ⟨p, 0, .none⟩) ∧ p < w.heap.size ∧ w.cell? ⟨p, 0, .none⟩ = some (.slice .none 0 0)
theorem Unm.below {w w' : World} {v : Value} (h : Unm w v) (b : Below w.heap.size w w') : Unm w' v := by
 rcases h with h | ⟨p, h, hp, hc⟩
 ·exact .inl h
 ·exact .inr ⟨p, h, Nat.lt_of_lt_of_le hp b.size, (b.cell hp).trans hc⟩
theorem Unm.alloc {w : World} {v : Value} (h : Unm w v) (o : Obj) : Unm (w.alloc o) v := h.below ((Below.refl _ _).alloc (Nat.le_refl _) _)
section
variable {w : World} {v : Value}
end
end Go.Proofs.YtabnipbdbnmmpaaGreatDoor.Rm
namespace Go.Proofs.YtabnipbdbnmmpaaGreatDoor.Rm
open Go.RowKit
def spn (l : Int) : Int := if l = 0 then 4096 else if l = 1 then 2097152 else if l = 2 then 1073741824 else 549755813888
theorem spn0 : spn 0 = 4096 := rfl
theorem spn1 : spn 1 = 2097152 := rfl
theorem spn2 : spn 2 = 1073741824 := rfl
theorem spn3 : spn 3 = 549755813888 := rfl
def ix (va l : Int) : Int := va / spn l % 512
theorem ix_b (va l : Int) : 0 ≤ ix va l ∧ ix va l < 512 := by unfold ix; omega
theorem span_any (l : Int) (hl : l = 0 ∨ l = 1 ∨ l = 2 ∨ l = 3) (w : World) : Calls Tryz.prog 110 #[.int .i64 l] w fun e w' => e = .returned (.int .u64 (spn l)) ∧ w' = w := by
 rcases hl with rfl | rfl | rfl | rfl
 all_goals
  go_enter Tryz.func110, Tryz.ntmps110
  go_wp2
  go_ret
  exact ⟨rfl, rfl⟩
theorem index_any (va l : Int) (hv : 0 ≤ va ∧ va < 18446744073709551616) (hl : l = 0 ∨ l = 1 ∨ l = 2) (w : World) : Calls Tryz.prog 151 #[.int .u64 va, .int .i64 l] w fun e w' => e = .returned (.int .u64 (ix va l)) ∧ w' = w := by
 rcases hl with rfl | rfl | rfl
 all_goals
  simp only [ix, spn0, spn1, spn2]
  go_enter Tryz.func151, Tryz.ntmps151
  go_wp2
  go_ret
  exact ⟨rfl, rfl⟩
theorem and_mask (i : Nat) (hi : i ≤ 64) (v : Int) (hv : 0 ≤ v ∧ v < 18446744073709551616) : bits .and .u64 v (2 ^ i - 1) = v % 2 ^ i :=
 bits_mask .u64 64 (by decide) wraps_u64 i hi v hv.1 hv.2
theorem inSpan_any (a l : Int) (hv : 0 ≤ a ∧ a < 18446744073709551616) (hl : l = 0 ∨ l = 1 ∨ l = 2 ∨ l = 3) (w : World) : Calls Tryz.prog 57 #[.int .u64 a, .int .i64 l] w fun e w' => e = .returned (.int .u64 (a % spn l)) ∧ w' = w := by
 have c := span_any l hl
 have m0 : Hid (bits .and .u64 a 4095 = a % 4096) := and_mask 12 (by omega) a hv
 have m1 : Hid (bits .and .u64 a 2097151 = a % 2097152) := and_mask 21 (by omega) a hv
 have m2 : Hid (bits .and .u64 a 1073741823 = a % 1073741824) := and_mask 30 (by omega) a hv
 have m3 : Hid (bits .and .u64 a 549755813887 = a % 549755813888) := and_mask 39 (by omega) a hv
 rcases hl with rfl | rfl | rfl | rfl
 all_goals
  simp only [spn0, spn1, spn2, spn3] at c ⊢
  go_enter Tryz.func57, Tryz.ntmps57
  go_wp2_with (go_at_call 110; refine (c _).mono ?_; rintro e w0 ⟨rfl, rfl⟩)
  go_ret
 ·rw [← m0.out]; exact ⟨rfl, rfl⟩
 ·rw [← m1.out]; exact ⟨rfl, rfl⟩
 ·rw [← m2.out]; exact ⟨rfl, rfl⟩
 ·rw [← m3.out]; exact ⟨rfl, rfl⟩
theorem mayBeNode_any (pa : Int) (hp : 0 ≤ pa ∧ pa < 18446744073709551616) (w : World) : Calls Tryz.prog 153 #[.int .u64 pa] w fun e w' => e = .returned (.bool (decide (pa % 4096 = 0 ∧ pa ≠ 2147483648))) ∧ w' = w := by
 by_cases k0 : pa % 4096 = 0
 ·by_cases k1 : pa = 2147483648
  ·have e : decide (pa % 4096 = 0 ∧ pa ≠ 2147483648) = false := by simp [k1]
   rw [e]
   go_enter Tryz.func153, Tryz.ntmps153
   go_wp2
   go_ret
   exact ⟨rfl, rfl⟩
  ·have e : decide (pa % 4096 = 0 ∧ pa ≠ 2147483648) = true := by simp [k0, k1]
   rw [e]
   go_enter Tryz.func153, Tryz.ntmps153
   go_wp2
   go_ret
   exact ⟨by simp [k1], rfl⟩
 ·have e : decide (pa % 4096 = 0 ∧ pa ≠ 2147483648) = false := by simp [k0]
  rw [e]
  go_enter Tryz.func153, Tryz.ntmps153
  go_wp2
  go_ret
  exact ⟨rfl, rfl⟩
end Go.Proofs.YtabnipbdbnmmpaaGreatDoor.Rm
namespace Go.Proofs.YtabnipbdbnmmpaaGreatDoor.Rm
open Go.RowKit
def hs (e c : Int) : Bool := bits .and .u64 e c == c
def ho (e c : Int) : Bool := bits .and .u64 e c != 0
def adE (e : Int) : Int := e / 1024 * 4096 % 18446744073709551616
theorem adE_b (e : Int) : 0 ≤ adE e ∧ adE e < 18446744073709551616 := by unfold adE; omega
def kd (e l : Int) : Int := if hs e 1 = false then 0 else if 18014398509481984 ≤ e then 1 else if hs e 4 = true ∧ hs e 2 = false then 1 else if ho e 10 = true then (if adE e % spn l = 0 then 2 else 1) else if l = 0 then 1 else if ho e 208 = true then 1 else 3
theorem has_any (e c : Int) (w : World) : Calls Tryz.prog 109 #[.int .u64 e, .int .u64 c] w fun r w' => r = .returned (.bool (hs e c)) ∧ w' = w := by
 go_enter Tryz.func109, Tryz.ntmps109
 go_wp2
 go_ret
 exact ⟨rfl, rfl⟩
theorem hasOne_any (e c : Int) (w : World) : Calls Tryz.prog 188 #[.int .u64 e, .int .u64 c] w fun r w' => r = .returned (.bool (ho e c)) ∧ w' = w := by
 go_enter Tryz.func188, Tryz.ntmps188
 go_wp2
 go_ret
 exact ⟨rfl, rfl⟩
theorem readIf_any (e : Int) (w : World) : Calls Tryz.prog 187 #[.int .u64 e] w fun r w' => r = .returned (.bool (!hs e 4 || hs e 2)) ∧ w' = w := by
 cases h4 : hs e 4 <;> cases h2 : hs e 2
 all_goals
  go_enter Tryz.func187, Tryz.ntmps187
  go_wp2_with (first | (go_at_call 109; refine (has_any _ _ _).mono ?_; rintro r w0 ⟨rfl, rfl⟩))
  go_ret
  exact ⟨rfl, rfl⟩
theorem address_any (e : Int) (w : World) (he : 0 ≤ e ∧ e < 18446744073709551616) : Calls Tryz.prog 56 #[.int .u64 e] w fun r w' => r = .returned (.int .u64 (adE e)) ∧ w' = w := by
 have h : IntKind.u64.wrap (e / 1024 * 4096) = adE e := IntKind.wrap_u64 _
 rw [← h]
 clear h
 go_enter Tryz.func56, Tryz.ntmps56
 go_wp2
 go_ret
 exact ⟨rfl, rfl⟩
set_option maxHeartbeats 1000000 in
theorem kind_any (e l : Int) (he : 0 ≤ e ∧ e < 18446744073709551616) (hl : l = 0 ∨ l = 1 ∨ l = 2) (w : World) : Calls Tryz.prog 154 #[.int .u64 e, .int .i64 l] w fun r w' => r = .returned (.int .i64 (kd e l)) ∧ w' = w := by
 have c46 := fun W => address_any e W he
 have c51 := fun W => inSpan_any (adE e) l (adE_b e) (by omega) W
 obtain ⟨x, hx⟩ : ∃ x, x = adE e % spn l := ⟨_, rfl⟩
 have e1 : ∀ k, kd e l = k ↔ (if hs e 1 = false then 0 else if 18014398509481984 ≤ e then 1 else if hs e 4 = true ∧ hs e 2 = false then 1 else if ho e 10 = true then (if x = 0 then 2 else 1) else if l = 0 then 1 else if ho e 208 = true then 1 else 3) = k := fun k => by rw [hx]; exact Iff.rfl
 rw [← hx] at c51
 cases h1 : hs e 1
 ·have ek : kd e l = 0 := (e1 0).2 (by simp [h1])
  rw [ek]
  clear e1 hx c46 c51
  go_enter Tryz.func154, Tryz.ntmps154
  go_wp2_with (first | (go_at_call 109; refine (has_any _ _ _).mono ?_; rintro r w0 ⟨rfl, rfl⟩))
  go_ret
  exact ⟨rfl, rfl⟩
 by_cases h54 : 18014398509481984 ≤ e
 ·have ek : kd e l = 1 := (e1 1).2 (by simp [h1, h54])
  rw [ek]
  have h55 : ¬ e / 18014398509481984 = 0 := by omega
  clear e1 hx c46 c51
  go_enter Tryz.func154, Tryz.ntmps154
  go_wp2_with (first | (go_at_call 109; refine (has_any _ _ _).mono ?_; rintro r w0 ⟨rfl, rfl⟩))
  go_ret
  exact ⟨rfl, rfl⟩
 have h55 : e / 18014398509481984 = 0 := by omega
 cases h6 : (!hs e 4 || hs e 2)
 ·have h6' : hs e 4 = true ∧ hs e 2 = false := by revert h6; cases hs e 4 <;> cases hs e 2 <;> simp
  have ek : kd e l = 1 := (e1 1).2 (by simp [h1, h54, h6'])
  rw [ek]
  have c68 := fun W => readIf_any e W
  rw [h6] at c68
  clear e1 hx c46 c51 h6 h6'
  go_enter Tryz.func154, Tryz.ntmps154
  go_wp2_with (first | (go_at_call 109; refine (has_any _ _ _).mono ?_; rintro r w0 ⟨rfl, rfl⟩) | (go_at_call 187; refine (c68 _).mono ?_; rintro r w0 ⟨rfl, rfl⟩))
  go_ret
  exact ⟨rfl, rfl⟩
 have h6' : ¬ (hs e 4 = true ∧ hs e 2 = false) := by revert h6; cases hs e 4 <;> cases hs e 2 <;> simp
 have c68 := fun W => readIf_any e W
 rw [h6] at c68
 clear h6
 cases h10 : ho e 10
 ·by_cases hl0 : l = 0
  ·have ek : kd e l = 1 := (e1 1).2 (by simp [h1, h54, h6', h10, hl0])
   rw [ek]
   clear e1 hx c46 c51 h6'
   go_enter Tryz.func154, Tryz.ntmps154
   go_wp2_with (first | (go_at_call 109; refine (has_any _ _ _).mono ?_; rintro r w0 ⟨rfl, rfl⟩) | (go_at_call 187; refine (c68 _).mono ?_; rintro r w0 ⟨rfl, rfl⟩) | (go_at_call 188; refine (hasOne_any _ _ _).mono ?_; rintro r w0 ⟨rfl, rfl⟩))
   go_ret
   exact ⟨rfl, rfl⟩
  ·cases h208 : ho e 208
   ·have ek : kd e l = 3 := (e1 3).2 (by simp [h1, h54, h6', h10, hl0, h208])
    rw [ek]
    clear e1 hx c46 c51 h6'
    go_enter Tryz.func154, Tryz.ntmps154
    go_wp2_with (first | (go_at_call 109; refine (has_any _ _ _).mono ?_; rintro r w0 ⟨rfl, rfl⟩) | (go_at_call 187; refine (c68 _).mono ?_; rintro r w0 ⟨rfl, rfl⟩) | (go_at_call 188; refine (hasOne_any _ _ _).mono ?_; rintro r w0 ⟨rfl, rfl⟩))
    go_ret
    exact ⟨rfl, rfl⟩
   ·have ek : kd e l = 1 := (e1 1).2 (by simp [h1, h54, h6', h10, hl0, h208])
    rw [ek]
    clear e1 hx c46 c51 h6'
    go_enter Tryz.func154, Tryz.ntmps154
    go_wp2_with (first | (go_at_call 109; refine (has_any _ _ _).mono ?_; rintro r w0 ⟨rfl, rfl⟩) | (go_at_call 187; refine (c68 _).mono ?_; rintro r w0 ⟨rfl, rfl⟩) | (go_at_call 188; refine (hasOne_any _ _ _).mono ?_; rintro r w0 ⟨rfl, rfl⟩))
    go_ret
    exact ⟨rfl, rfl⟩
 ·by_cases hx0 : x = 0
  ·have ek : kd e l = 2 := (e1 2).2 (by simp [h1, h54, h6', h10, hx0])
   rw [ek]
   clear e1 hx h6'
   go_enter Tryz.func154, Tryz.ntmps154
   go_wp2_with (first | (go_at_call 109; refine (has_any _ _ _).mono ?_; rintro r w0 ⟨rfl, rfl⟩) | (go_at_call 187; refine (c68 _).mono ?_; rintro r w0 ⟨rfl, rfl⟩) | (go_at_call 188; refine (hasOne_any _ _ _).mono ?_; rintro r w0 ⟨rfl, rfl⟩) | (go_at_call 56; refine (c46 _).mono ?_; rintro r w0 ⟨rfl, rfl⟩) | (go_at_call 57; refine (c51 _).mono ?_; rintro r w0 ⟨rfl, rfl⟩))
   go_ret
   exact ⟨rfl, rfl⟩
  ·have ek : kd e l = 1 := (e1 1).2 (by simp [h1, h54, h6', h10, hx0])
   rw [ek]
   clear e1 hx h6'
   go_enter Tryz.func154, Tryz.ntmps154
   go_wp2_with (first | (go_at_call 109; refine (has_any _ _ _).mono ?_; rintro r w0 ⟨rfl, rfl⟩) | (go_at_call 187; refine (c68 _).mono ?_; rintro r w0 ⟨rfl, rfl⟩) | (go_at_call 188; refine (hasOne_any _ _ _).mono ?_; rintro r w0 ⟨rfl, rfl⟩) | (go_at_call 56; refine (c46 _).mono ?_; rintro r w0 ⟨rfl, rfl⟩) | (go_at_call 57; refine (c51 _).mono ?_; rintro r w0 ⟨rfl, rfl⟩))
   go_ret
   exact ⟨rfl, rfl⟩
end Go.Proofs.YtabnipbdbnmmpaaGreatDoor.Rm
namespace Go.Proofs.YtabnipbdbnmmpaaGreatDoor.Rm
open Go.RowKit
section
variable {w : World} {p b m N : Nat} {B : Nat → Int} {L : List Nat}
theorem hdL_in {f : Nat} (hf : f < N) : hdL N L (2147483648 + f * 4096) = !decide (f ∈ L) := by
 have h := hdL_addr N L f hf
 exact h
theorem load_any (h : Ram w p b m N B L) (pa : Int) (hp : 0 ≤ pa ∧ pa < 18446744073709551616) : Calls Tryz.prog 152 #[.pointer (some ⟨p, 0, .none⟩), .int .u64 pa, .int .i64 8] w fun e w' => (∃ x ok, e = .returned (.tuple #[.int .u64 x, .bool ok]) ∧ 0 ≤ x ∧ x < 18446744073709551616) ∧ Below w.heap.size w w' := by
 have n2 := h.mem.n2
 by_cases ho : 2147483648 ≤ pa ∧ pa - 2147483648 + 8 ≤ 4096 * N
 ·obtain ⟨o, rfl⟩ : ∃ o : Nat, pa = 2147483648 + o := ⟨(pa - 2147483648).toNat, by omega⟩
  by_cases hh : ∀ f : Nat, o / 4096 ≤ f → f * 4096 < o + 8 → hdL N L (2147483648 + f * 4096) = true
  ·refine (load_ok h.mem o 8 (by omega) (by omega) hh).mono ?_
   rintro e w' ⟨he, hb⟩
   have nb := num_bd B h.mem.bb o 8
   exact ⟨⟨_, _, he, nb.1, by have := nb.2; simpa using this⟩, hb⟩
  ·simp only [Classical.not_forall] at hh
   obtain ⟨f, h1, h2, h3⟩ := hh
   have h3' : hdL N L (2147483648 + f * 4096) = false := by simpa using h3
   refine (load_no _ 8 (access_no _ 8 0 false (reach_hole h.mem o 8 (by omega) (by omega) f h1 h2 h3'))).mono ?_
   rintro e w' ⟨he, hb⟩
   exact ⟨⟨0, false, he, by omega, by omega⟩, hb⟩
 ·refine (load_no pa 8 (access_no pa 8 0 false (reach_out h.mem pa 8 hp (by omega) (by omega) ho))).mono ?_
  rintro e w' ⟨he, hb⟩
  exact ⟨⟨0, false, he, by omega, by omega⟩, hb⟩
theorem load_held (h : Ram w p b m N B L) (i k : Nat) (hi : i < N) (hL : i ∉ L) (hk : k < 512) : Calls Tryz.prog 152 #[.pointer (some ⟨p, 0, .none⟩), .int .u64 (2147483648 + i * 4096 + k * 8), .int .i64 8] w fun e w' => e = .returned (.tuple #[.int .u64 (num B (i * 4096 + k * 8) 8), .bool true]) ∧ Below w.heap.size w w' := by
 have := load_ok h.mem (i * 4096 + k * 8) 8 (by omega) (by omega) (fun f h1 h2 => by
  obtain rfl : f = i := by omega
  rw [hdL_in hi]
  simp [hL])
 rw [show (2147483648 + ((i * 4096 + k * 8 : Nat) : Int)) = 2147483648 + i * 4096 + k * 8 by omega] at this
 exact this
theorem load_free (h : Ram w p b m N B L) (nd : Int) (k : Nat) (hn : 0 ≤ nd ∧ nd < 18446744073709551616) (ha : nd % 4096 = 0) (hk : k < 512) (hno : ∀ i : Nat, i < N → i ∉ L → nd ≠ 2147483648 + i * 4096) : Calls Tryz.prog 152 #[.pointer (some ⟨p, 0, .none⟩), .int .u64 (nd + k * 8), .int .i64 8] w fun e w' => e = .returned (.tuple #[.int .u64 0, .bool false]) ∧ Below w.heap.size w w' := by
 have n2 := h.mem.n2
 by_cases ho : 2147483648 ≤ nd + k * 8 ∧ nd + k * 8 - 2147483648 + 8 ≤ 4096 * N
 ·obtain ⟨i, rfl⟩ : ∃ i : Nat, nd = 2147483648 + i * 4096 := ⟨((nd - 2147483648) / 4096).toNat, by omega⟩
  have hiN : i < N := by omega
  have hiL : i ∈ L := by
   by_cases hL : i ∈ L
   ·exact hL
   ·exact absurd rfl (hno i hiN hL)
  have c := reach_hole h.mem (i * 4096 + k * 8) 8 (by omega) (by omega) i (by omega) (by omega) (by rw [hdL_in hiN]; simp [hiL])
  rw [show (2147483648 + ((i * 4096 + k * 8 : Nat) : Int)) = 2147483648 + i * 4096 + k * 8 by omega] at c
  exact load_no _ 8 (access_no _ 8 0 false c)
 ·exact load_no _ 8 (access_no _ 8 0 false (reach_out h.mem (nd + k * 8) 8 (by omega) (by omega) (by omega) ho))
end
end Go.Proofs.YtabnipbdbnmmpaaGreatDoor.Rm
namespace Go.Proofs.YtabnipbdbnmmpaaGreatDoor.Rm
open Go.RowKit
def fi (nd : Int) : Nat := ((nd - 2147483648) / 4096).toNat
def ndB (N : Nat) (L : List Nat) (nd : Int) : Bool := decide (nd = 2147483648 + fi nd * 4096 ∧ 1 ≤ fi nd ∧ fi nd < N ∧ fi nd ∉ L)
def ent (B : Nat → Int) (nd va l : Int) : Int := num B (fi nd * 4096 + (ix va l).toNat * 8) 8
def st (nd va l : Int) : Int := nd + ix va l * 8
structure Pt where
 a0 : Int
 a1 : Int
 a2 : Int
 l : Int
 e : Int
 k : Int
def wk (N : Nat) (L : List Nat) (B : Nat → Int) (va : Int) : Nat → Int → Int → Int → Int → Int → Pt
 | 0, nd, a0, a1, a2, e => if ndB N L nd = true then ⟨st nd va 0, a1, a2, 0, ent B nd va 0, kd (ent B nd va 0) 0⟩ else ⟨a0, a1, a2, 0, e, 4⟩
 | l + 1, nd, a0, a1, a2, e => if ndB N L nd = true then
   (if kd (ent B nd va (l + 1 : Nat)) (l + 1 : Nat) = 3 then wk N L B va l (adE (ent B nd va (l + 1 : Nat))) a0 (if l = 0 then st nd va 1 else a1) (if l = 1 then st nd va 2 else a2) (ent B nd va (l + 1 : Nat))
    else ⟨a0, if l = 0 then st nd va 1 else a1, if l = 1 then st nd va 2 else a2, (l + 1 : Nat), ent B nd va (l + 1 : Nat), kd (ent B nd va (l + 1 : Nat)) (l + 1 : Nat)⟩)
  else ⟨a0, a1, a2, (l + 1 : Nat), e, 4⟩
def look (N : Nat) (L : List Nat) (B : Nat → Int) (root va : Int) : Pt := wk N L B va 2 root 0 0 0 0
def Pt.val (x : Pt) : Value := .agg #[.int .u64 x.a0, .int .u64 x.a1, .int .u64 x.a2, .int .i64 x.l, .int .u64 x.e, .int .i64 x.k]
theorem kd0 (e : Int) : kd e 0 ≠ 3 := by
 unfold kd
 split
 ·omega
 split
 ·omega
 split
 ·omega
 split
 ·split <;> omega
 ·simp
theorem ndB_spec {N : Nat} {L : List Nat} {nd : Int} (h : ndB N L nd = true) : nd = 2147483648 + fi nd * 4096 ∧ 1 ≤ fi nd ∧ fi nd < N ∧ fi nd ∉ L := of_decide_eq_true h
theorem ndB_not {N : Nat} {L : List Nat} {nd : Int} (h : ndB N L nd = false) (ha : nd % 4096 = 0) (hb : nd ≠ 2147483648) : ∀ i : Nat, i < N → i ∉ L → nd ≠ 2147483648 + i * 4096 := fun i hi hL e => by
 have hf : fi nd = i := by unfold fi; omega
 have := of_decide_eq_false h
 rw [hf] at this
 exact this ⟨e, by omega, hi, hL⟩
theorem ent_b {B : Nat → Int} (hB : ∀ i, 0 ≤ B i ∧ B i < 256) (nd va l : Int) : 0 ≤ ent B nd va l ∧ ent B nd va l < 18446744073709551616 := by
 have := num_bd B hB (fi nd * 4096 + (ix va l).toNat * 8) 8
 have h2 := this.2
 refine ⟨this.1, ?_⟩
 unfold ent
 simpa using h2
section
variable {w : World} {p b m N : Nat} {B : Nat → Int} {L : List Nat}
theorem load_nd (h : Ram w p b m N B L) (nd va l : Int) (hn : ndB N L nd = true) : Calls Tryz.prog 152 #[.pointer (some ⟨p, 0, .none⟩), .int .u64 (nd + ix va l * 8), .int .i64 8] w fun e w' => e = .returned (.tuple #[.int .u64 (ent B nd va l), .bool true]) ∧ Below w.heap.size w w' := by
 obtain ⟨h1, h2, h3, h4⟩ := ndB_spec hn
 have hb := ix_b va l
 have c := load_held h (fi nd) (ix va l).toNat h3 h4 (by omega)
 rw [show (2147483648 + (fi nd : Int) * 4096 + ((ix va l).toNat : Int) * 8) = nd + ix va l * 8 by omega] at c
 exact c
theorem load_nd_no (h : Ram w p b m N B L) (nd va l : Int) (hr : 0 ≤ nd ∧ nd < 18446744073709551616) (hn : ndB N L nd = false) (ha : nd % 4096 = 0) (hb : nd ≠ 2147483648) : Calls Tryz.prog 152 #[.pointer (some ⟨p, 0, .none⟩), .int .u64 (nd + ix va l * 8), .int .i64 8] w fun e w' => e = .returned (.tuple #[.int .u64 0, .bool false]) ∧ Below w.heap.size w w' := by
 have hi := ix_b va l
 have c := load_free h nd (ix va l).toNat hr ha (by omega) (ndB_not hn ha hb)
 rw [show (nd + ((ix va l).toNat : Int) * 8) = nd + ix va l * 8 by omega] at c
 exact c
theorem meet_any (l at_ e : Int) (w : World) : Calls Tryz.prog 242 #[.agg #[], .int .i64 l, .int .u64 at_, .int .u64 e] w fun r w' => r = .returned (.tuple #[.int .u64 e, .bool true]) ∧ w' = w.alloc (.cells #[] 171) := by
 go_enter Tryz.func242, Tryz.ntmps242
 go_wp2
 go_ret2
 exact ⟨rfl, rfl⟩
end
end Go.Proofs.YtabnipbdbnmmpaaGreatDoor.Rm
namespace Go.Proofs.YtabnipbdbnmmpaaGreatDoor.Rm
open Go.RowKit
theorem below1 (w : World) (o : Obj) : Below w.heap.size w (w.alloc o) := (Below.refl w.heap.size w).alloc (Nat.le_refl _) o
theorem below2 (w : World) (o o1 : Obj) : Below w.heap.size w ((w.alloc o).alloc o1) := (below1 w o).alloc (by simp) o1
theorem below3 (w : World) (o o1 o2 : Obj) : Below w.heap.size w (((w.alloc o).alloc o1).alloc o2) := (below2 w o o1).alloc (by simp only [World.size_alloc]; omega) o2
section
variable {w : World} {v : Value}
end
end Go.Proofs.YtabnipbdbnmmpaaGreatDoor.Rm
namespace Go.Proofs.YtabnipbdbnmmpaaGreatDoor.Rm
open Go.RowKit
theorem blw_drewN (B : Nat) (w : World) (n : Nat) : Below B w (w.drewN n) := ⟨rfl, rfl, rfl, Nat.le_refl _, fun _ _ => rfl⟩
section
variable {w : World} {v : Value}
structure Tour (w : World) (T : Nat) (v : Value) (root va : Int) (m : Value) : Prop where
 c0 : w.cell? ⟨T, 0, .none⟩ = some v
 c1 : w.cell? ⟨T, 1, .none⟩ = some (.int .u64 root)
 c2 : w.cell? ⟨T, 2, .none⟩ = some (.int .u64 va)
 c3 : w.cell? ⟨T, 3, .none⟩ = some m
 f2 : w.frozen? ⟨T, 2, .none⟩ = false
theorem Tour.below {w w' : World} {T : Nat} {v : Value} {root va : Int} {m : Value} (h : Tour w T v root va m) (b : Below w.heap.size w w') : Tour w' T v root va m := by
 have hT : T < w.heap.size := lt_of_cell h.c0
 exact ⟨(b.cell hT).trans h.c0, (b.cell hT).trans h.c1, (b.cell hT).trans h.c2, (b.cell hT).trans h.c3, (b.frozen hT).trans h.f2⟩
theorem Tour.set {w : World} {T : Nat} {v : Value} {root va : Int} {m : Value} (h : Tour w T v root va m) (x : Int) : Tour (w.setCell ⟨T, 2, .none⟩ (.int .u64 x)) T v root x m :=
 ⟨(World.cell?_setCell_other _ _ _ _ (by simp)).trans h.c0, (World.cell?_setCell_other _ _ _ _ (by simp)).trans h.c1, World.cell?_setCell_same' _ _ _ (by rw [h.c2]; rfl), (World.cell?_setCell_other _ _ _ _ (by simp)).trans h.c3, by rw [World.frozen?_setCell]; exact h.f2⟩
end
end Go.Proofs.YtabnipbdbnmmpaaGreatDoor.Rm
