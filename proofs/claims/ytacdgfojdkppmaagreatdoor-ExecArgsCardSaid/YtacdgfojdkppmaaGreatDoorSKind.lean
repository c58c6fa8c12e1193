import Derived.Test.YtacdgfojdkppmaaGreatDoorRows
import Derived.WalkKit
import Derived.WalkSpells
import Derived.RowKit3
import Derived.Deep.Cut
import Derived.LoopTactic
import Derived.Below
import Derived.Laws.NewBlocks
import Derived.Deep.QuietTactic
import Derived.BigQuiet
import Derived.WalkSmall
import Derived.RegionTactic
import Derived.BigRegion
import Derived.Test.YtacdgfojdkppmaaGreatDoorThr
import Derived.LoopN
namespace Go.Proofs.YtacdgfojdkppmaaGreatDoor
open Go.RowKit
set_option linter.unusedVariables false
def ramB : ByteArray := ⟨#[101, 108, 102]⟩
def FaultIn (w' : World) (B : Nat) (v : Value) (a r : Int) : Prop :=
 ∃ b, B ≤ b ∧ b < w'.heap.size ∧ v = .iface 107 (.pointer (some ⟨b, 0, .none⟩)) ∧ w'.cell? ⟨b, 0, .none⟩ = some (.string ramB) ∧ w'.cell? ⟨b, 1, .none⟩ = some (.int .i64 a) ∧ w'.cell? ⟨b, 2, .none⟩ = some (.iface 35 (.int .i64 r))
theorem faultIn_new (w : World) (B : Nat) (a r : Int) (h : B ≤ w.heap.size) : FaultIn (w.alloc (.cells #[.string ramB, .int .i64 a, .iface 35 (.int .i64 r)] 143)) B (.iface 107 (.pointer (some ⟨w.heap.size, 0, .none⟩))) a r :=
 ⟨w.heap.size, h, by simp, rfl, by simp, by simp, by simp⟩
end Go.Proofs.YtacdgfojdkppmaaGreatDoor
namespace Go.Proofs.YtacdgfojdkppmaaGreatDoor.Rm
open Go.RowKit
set_option linter.unusedVariables false
set_option linter.unusedSimpArgs false
/-- A memory that nobody made. -/
def Unm (w : World) (v : Value) : Prop := v = .pointer .none ∨ ∃ p, v = .pointer (some ⟨p, 0, .none⟩) ∧ p < w.heap.size ∧ w.cell? ⟨p, 0, .none⟩ = some (.slice .none 0 0)
theorem Unm.below {w w' : World} {v : Value} (h : Unm w v) (b : Below w.heap.size w w') : Unm w' v := by
 rcases h with h | ⟨p, h, hp, hc⟩
 ·exact .inl h
 ·exact .inr ⟨p, h, Nat.lt_of_lt_of_le hp b.size, (b.cell hp).trans hc⟩
theorem Unm.alloc {w : World} {v : Value} (h : Unm w v) (o : Obj) : Unm (w.alloc o) v := h.below ((Below.refl _ _).alloc (Nat.le_refl _) _)
section
variable {w : World} {v : Value}
theorem no_made (h : Unm w v) : Calls Tryz.prog 31 #[v] w fun e w' => e = .returned (.bool false) ∧ w' = w := by
 rcases h with rfl | ⟨p, rfl, _, hc⟩
 ·exact made_nil w
 ·exact made_plain p w hc
theorem no_frames (h : Unm w v) : Calls Tryz.prog 25 #[v] w fun e w' => e = .returned (.int .i64 0) ∧ w' = w := by
 have c := no_made h
 clear h
 go_enter Tryz.func25, Tryz.ntmps25
 go_wp2_with (go_at_call 31; refine c.mono ?_; rintro e w0 ⟨rfl, rfl⟩)
 go_ret
 exact ⟨rfl, rfl⟩
theorem no_reach (h : Unm w v) (pa n : Int) : Calls Tryz.prog 80 #[v, .int .u64 pa, .int .i64 n] w fun e w' => e = .returned (.tuple #[.slice .none 0 0, .bool false]) ∧ w' = w := by
 have c := no_made h
 clear h
 go_enter Tryz.func80, Tryz.ntmps80
 go_wp2_with (go_at_call 31; refine c.mono ?_; rintro e w0 ⟨rfl, rfl⟩)
 go_ret2
 exact ⟨rfl, rfl⟩
theorem no_access (h : Unm w v) (pa n x : Int) (b : Bool) : Calls Tryz.prog 166 #[v, .int .u64 pa, .int .i64 n, .bool b, .int .u64 x] w fun e w' => e = .returned (.tuple #[.int .u64 0, .bool false]) ∧ w' = w := by
 have c := no_reach h pa n
 clear h
 go_enter Tryz.func166, Tryz.ntmps166
 go_wp2_with (go_at_call 80; refine c.mono ?_; rintro e w0 ⟨rfl, rfl⟩)
 go_ret2
 exact ⟨rfl, rfl⟩
theorem no_load (h : Unm w v) (pa n : Int) : Calls Tryz.prog 139 #[v, .int .u64 pa, .int .i64 n] w fun e w' => e = .returned (.tuple #[.int .u64 0, .bool false]) ∧ w' = w := by
 have c := no_access h pa n 0 false
 clear h
 go_enter Tryz.func139, Tryz.ntmps139
 go_wp2_with (go_at_call 166; refine c.mono ?_; rintro e w0 ⟨rfl, rfl⟩)
 go_ret2
 exact ⟨rfl, rfl⟩
theorem no_read (h : Unm w v) (pa n : Int) : Calls Tryz.prog 39 #[v, .int .u64 pa, .int .i64 n] w fun e w' => e = .returned (.tuple #[.slice .none 0 0, .bool false]) ∧ w' = w := by
 have c := no_reach h pa n
 clear h
 go_enter Tryz.func39, Tryz.ntmps39
 go_wp2_with (go_at_call 80; refine c.mono ?_; rintro e w0 ⟨rfl, rfl⟩)
 go_ret2
 exact ⟨rfl, rfl⟩
theorem no_isMade (h : Unm w v) : Calls Tryz.prog 140 #[v] w fun e w' => e = .returned (.bool false) ∧ w' = w := by
 have c := no_frames h
 clear h
 go_enter Tryz.func140, Tryz.ntmps140
 go_wp2_with (go_at_call 25; refine c.mono ?_; rintro e w0 ⟨rfl, rfl⟩)
 go_ret
 exact ⟨rfl, rfl⟩
theorem no_isNode (h : Unm w v) (pa : Int) : Calls Tryz.prog 144 #[v, .int .u64 pa] w fun e w' => e = .returned (.bool false) ∧ w' = w := by
 have c := no_load h pa 8
 clear h
 go_enter Tryz.func144, Tryz.ntmps144
 go_wp2_with (go_at_call 139; refine c.mono ?_; rintro e w0 ⟨rfl, rfl⟩)
 go_ret
 exact ⟨rfl, rfl⟩
end
end Go.Proofs.YtacdgfojdkppmaaGreatDoor.Rm
namespace Go.Proofs.YtacdgfojdkppmaaGreatDoor.Rm
open Go.RowKit
set_option linter.unusedVariables false
set_option linter.unusedSimpArgs false
/-- How many bytes of addresses an entry of a level serves. -/
def spn (l : Int) : Int := if l = 0 then 4096 else if l = 1 then 2097152 else if l = 2 then 1073741824 else 549755813888
theorem spn0 : spn 0 = 4096 := rfl
theorem spn1 : spn 1 = 2097152 := rfl
theorem spn2 : spn 2 = 1073741824 := rfl
theorem spn3 : spn 3 = 549755813888 := rfl
def ix (va l : Int) : Int := va / spn l % 512
theorem ix_b (va l : Int) : 0 ≤ ix va l ∧ ix va l < 512 := by unfold ix; omega
theorem span_any (l : Int) (hl : l = 0 ∨ l = 1 ∨ l = 2 ∨ l = 3) (w : World) : Calls Tryz.prog 159 #[.int .i64 l] w fun e w' => e = .returned (.int .u64 (spn l)) ∧ w' = w := by
 rcases hl with rfl | rfl | rfl | rfl
 all_goals
  go_enter Tryz.func159, Tryz.ntmps159
  go_wp2
  go_ret
  exact ⟨rfl, rfl⟩
theorem index_any (va l : Int) (hv : 0 ≤ va ∧ va < 18446744073709551616) (hl : l = 0 ∨ l = 1 ∨ l = 2) (w : World) : Calls Tryz.prog 167 #[.int .u64 va, .int .i64 l] w fun e w' => e = .returned (.int .u64 (ix va l)) ∧ w' = w := by
 rcases hl with rfl | rfl | rfl
 all_goals
  simp only [ix, spn0, spn1, spn2]
  go_enter Tryz.func167, Tryz.ntmps167
  go_wp2
  go_ret
  exact ⟨rfl, rfl⟩
theorem and_mask (i : Nat) (hi : i ≤ 64) (v : Int) (hv : 0 ≤ v ∧ v < 18446744073709551616) : bits .and .u64 v (2 ^ i - 1) = v % 2 ^ i :=
 bits_mask .u64 64 (by decide) wraps_u64 i hi v hv.1 hv.2
theorem inSpan_any (a l : Int) (hv : 0 ≤ a ∧ a < 18446744073709551616) (hl : l = 0 ∨ l = 1 ∨ l = 2 ∨ l = 3) (w : World) : Calls Tryz.prog 123 #[.int .u64 a, .int .i64 l] w fun e w' => e = .returned (.int .u64 (a % spn l)) ∧ w' = w := by
 have c := span_any l hl
 have m0 : Hid (bits .and .u64 a 4095 = a % 4096) := and_mask 12 (by omega) a hv
 have m1 : Hid (bits .and .u64 a 2097151 = a % 2097152) := and_mask 21 (by omega) a hv
 have m2 : Hid (bits .and .u64 a 1073741823 = a % 1073741824) := and_mask 30 (by omega) a hv
 have m3 : Hid (bits .and .u64 a 549755813887 = a % 549755813888) := and_mask 39 (by omega) a hv
 rcases hl with rfl | rfl | rfl | rfl
 all_goals
  simp only [spn0, spn1, spn2, spn3] at c ⊢
  go_enter Tryz.func123, Tryz.ntmps123
  go_wp2_with (go_at_call 159; refine (c _).mono ?_; rintro e w0 ⟨rfl, rfl⟩)
  go_ret
 ·rw [← m0.out]; exact ⟨rfl, rfl⟩
 ·rw [← m1.out]; exact ⟨rfl, rfl⟩
 ·rw [← m2.out]; exact ⟨rfl, rfl⟩
 ·rw [← m3.out]; exact ⟨rfl, rfl⟩
theorem mayBeNode_any (pa : Int) (hp : 0 ≤ pa ∧ pa < 18446744073709551616) (w : World) : Calls Tryz.prog 168 #[.int .u64 pa] w fun e w' => e = .returned (.bool (decide (pa % 4096 = 0 ∧ pa ≠ 2147483648))) ∧ w' = w := by
 by_cases k0 : pa % 4096 = 0
 ·by_cases k1 : pa = 2147483648
  ·have e : decide (pa % 4096 = 0 ∧ pa ≠ 2147483648) = false := by simp [k1]
   rw [e]
   go_enter Tryz.func168, Tryz.ntmps168
   go_wp2
   go_ret
   exact ⟨rfl, rfl⟩
  ·have e : decide (pa % 4096 = 0 ∧ pa ≠ 2147483648) = true := by simp [k0, k1]
   rw [e]
   go_enter Tryz.func168, Tryz.ntmps168
   go_wp2
   go_ret
   exact ⟨by simp [k1], rfl⟩
 ·have e : decide (pa % 4096 = 0 ∧ pa ≠ 2147483648) = false := by simp [k0]
  rw [e]
  go_enter Tryz.func168, Tryz.ntmps168
  go_wp2
  go_ret
  exact ⟨rfl, rfl⟩
end Go.Proofs.YtacdgfojdkppmaaGreatDoor.Rm
namespace Go.Proofs.YtacdgfojdkppmaaGreatDoor.Rm
open Go.RowKit
set_option linter.unusedVariables false
set_option linter.unusedSimpArgs false
/-- All bits of c are set in e; one of them is. -/
def hs (e c : Int) : Bool := bits .and .u64 e c == c
def ho (e c : Int) : Bool := bits .and .u64 e c != 0
/-- Where the page of an entry begins. -/
def adE (e : Int) : Int := e / 1024 * 4096 % 18446744073709551616
theorem adE_b (e : Int) : 0 ≤ adE e ∧ adE e < 18446744073709551616 := by unfold adE; omega
/-- What an entry is at a level: 0 empty, 1 bad, 2 a leaf, 3 a pointer. -/
def kd (e l : Int) : Int := if hs e 1 = false then 0 else if 18014398509481984 ≤ e then 1 else if hs e 4 = true ∧ hs e 2 = false then 1 else if ho e 10 = true then (if adE e % spn l = 0 then 2 else 1) else if l = 0 then 1 else if ho e 208 = true then 1 else 3
theorem has_any (e c : Int) (w : World) : Calls Tryz.prog 158 #[.int .u64 e, .int .u64 c] w fun r w' => r = .returned (.bool (hs e c)) ∧ w' = w := by
 go_enter Tryz.func158, Tryz.ntmps158
 go_wp2
 go_ret
 exact ⟨rfl, rfl⟩
theorem hasOne_any (e c : Int) (w : World) : Calls Tryz.prog 170 #[.int .u64 e, .int .u64 c] w fun r w' => r = .returned (.bool (ho e c)) ∧ w' = w := by
 go_enter Tryz.func170, Tryz.ntmps170
 go_wp2
 go_ret
 exact ⟨rfl, rfl⟩
theorem readIf_any (e : Int) (w : World) : Calls Tryz.prog 171 #[.int .u64 e] w fun r w' => r = .returned (.bool (!hs e 4 || hs e 2)) ∧ w' = w := by
 cases h4 : hs e 4 <;> cases h2 : hs e 2
 all_goals
  go_enter Tryz.func171, Tryz.ntmps171
  go_wp2_with (first | (go_at_call 158; refine (has_any _ _ _).mono ?_; rintro r w0 ⟨rfl, rfl⟩))
  go_ret
  exact ⟨rfl, rfl⟩
theorem address_any (e : Int) (w : World) (he : 0 ≤ e ∧ e < 18446744073709551616) : Calls Tryz.prog 122 #[.int .u64 e] w fun r w' => r = .returned (.int .u64 (adE e)) ∧ w' = w := by
 have h : IntKind.u64.wrap (e / 1024 * 4096) = adE e := IntKind.wrap_u64 _
 rw [← h]
 clear h
 go_enter Tryz.func122, Tryz.ntmps122
 go_wp2
 go_ret
 exact ⟨rfl, rfl⟩
set_option maxHeartbeats 1000000 in
theorem kind_any (e l : Int) (he : 0 ≤ e ∧ e < 18446744073709551616) (hl : l = 0 ∨ l = 1 ∨ l = 2) (w : World) : Calls Tryz.prog 169 #[.int .u64 e, .int .i64 l] w fun r w' => r = .returned (.int .i64 (kd e l)) ∧ w' = w := by
 have c46 := fun W => address_any e W he
 have c51 := fun W => inSpan_any (adE e) l (adE_b e) (by omega) W
 obtain ⟨x, hx⟩ : ∃ x, x = adE e % spn l := ⟨_, rfl⟩
 have e1 : ∀ k, kd e l = k ↔ (if hs e 1 = false then 0 else if 18014398509481984 ≤ e then 1 else if hs e 4 = true ∧ hs e 2 = false then 1 else if ho e 10 = true then (if x = 0 then 2 else 1) else if l = 0 then 1 else if ho e 208 = true then 1 else 3) = k := fun k => by rw [hx]; exact Iff.rfl
 rw [← hx] at c51
 cases h1 : hs e 1
 ·have ek : kd e l = 0 := (e1 0).2 (by simp [h1])
  rw [ek]
  clear e1 hx c46 c51
  go_enter Tryz.func169, Tryz.ntmps169
  go_wp2_with (first | (go_at_call 158; refine (has_any _ _ _).mono ?_; rintro r w0 ⟨rfl, rfl⟩))
  go_ret
  exact ⟨rfl, rfl⟩
 by_cases h54 : 18014398509481984 ≤ e
 ·have ek : kd e l = 1 := (e1 1).2 (by simp [h1, h54])
  rw [ek]
  have h55 : ¬ e / 18014398509481984 = 0 := by omega
  clear e1 hx c46 c51
  go_enter Tryz.func169, Tryz.ntmps169
  go_wp2_with (first | (go_at_call 158; refine (has_any _ _ _).mono ?_; rintro r w0 ⟨rfl, rfl⟩))
  go_ret
  exact ⟨rfl, rfl⟩
 have h55 : e / 18014398509481984 = 0 := by omega
 cases h6 : (!hs e 4 || hs e 2)
 ·have h6' : hs e 4 = true ∧ hs e 2 = false := by revert h6; cases hs e 4 <;> cases hs e 2 <;> simp
  have ek : kd e l = 1 := (e1 1).2 (by simp [h1, h54, h6'])
  rw [ek]
  have c68 := fun W => readIf_any e W
  rw [h6] at c68
  clear e1 hx c46 c51 h6 h6'
  go_enter Tryz.func169, Tryz.ntmps169
  go_wp2_with (first | (go_at_call 158; refine (has_any _ _ _).mono ?_; rintro r w0 ⟨rfl, rfl⟩) | (go_at_call 171; refine (c68 _).mono ?_; rintro r w0 ⟨rfl, rfl⟩))
  go_ret
  exact ⟨rfl, rfl⟩
 have h6' : ¬ (hs e 4 = true ∧ hs e 2 = false) := by revert h6; cases hs e 4 <;> cases hs e 2 <;> simp
 have c68 := fun W => readIf_any e W
 rw [h6] at c68
 clear h6
 cases h10 : ho e 10
 ·by_cases hl0 : l = 0
  ·have ek : kd e l = 1 := (e1 1).2 (by simp [h1, h54, h6', h10, hl0])
   rw [ek]
   clear e1 hx c46 c51 h6'
   go_enter Tryz.func169, Tryz.ntmps169
   go_wp2_with (first | (go_at_call 158; refine (has_any _ _ _).mono ?_; rintro r w0 ⟨rfl, rfl⟩) | (go_at_call 171; refine (c68 _).mono ?_; rintro r w0 ⟨rfl, rfl⟩) | (go_at_call 170; refine (hasOne_any _ _ _).mono ?_; rintro r w0 ⟨rfl, rfl⟩))
   go_ret
   exact ⟨rfl, rfl⟩
  ·cases h208 : ho e 208
   ·have ek : kd e l = 3 := (e1 3).2 (by simp [h1, h54, h6', h10, hl0, h208])
    rw [ek]
    clear e1 hx c46 c51 h6'
    go_enter Tryz.func169, Tryz.ntmps169
    go_wp2_with (first | (go_at_call 158; refine (has_any _ _ _).mono ?_; rintro r w0 ⟨rfl, rfl⟩) | (go_at_call 171; refine (c68 _).mono ?_; rintro r w0 ⟨rfl, rfl⟩) | (go_at_call 170; refine (hasOne_any _ _ _).mono ?_; rintro r w0 ⟨rfl, rfl⟩))
    go_ret
    exact ⟨rfl, rfl⟩
   ·have ek : kd e l = 1 := (e1 1).2 (by simp [h1, h54, h6', h10, hl0, h208])
    rw [ek]
    clear e1 hx c46 c51 h6'
    go_enter Tryz.func169, Tryz.ntmps169
    go_wp2_with (first | (go_at_call 158; refine (has_any _ _ _).mono ?_; rintro r w0 ⟨rfl, rfl⟩) | (go_at_call 171; refine (c68 _).mono ?_; rintro r w0 ⟨rfl, rfl⟩) | (go_at_call 170; refine (hasOne_any _ _ _).mono ?_; rintro r w0 ⟨rfl, rfl⟩))
    go_ret
    exact ⟨rfl, rfl⟩
 ·by_cases hx0 : x = 0
  ·have ek : kd e l = 2 := (e1 2).2 (by simp [h1, h54, h6', h10, hx0])
   rw [ek]
   clear e1 hx h6'
   go_enter Tryz.func169, Tryz.ntmps169
   go_wp2_with (first | (go_at_call 158; refine (has_any _ _ _).mono ?_; rintro r w0 ⟨rfl, rfl⟩) | (go_at_call 171; refine (c68 _).mono ?_; rintro r w0 ⟨rfl, rfl⟩) | (go_at_call 170; refine (hasOne_any _ _ _).mono ?_; rintro r w0 ⟨rfl, rfl⟩) | (go_at_call 122; refine (c46 _).mono ?_; rintro r w0 ⟨rfl, rfl⟩) | (go_at_call 123; refine (c51 _).mono ?_; rintro r w0 ⟨rfl, rfl⟩))
   go_ret
   exact ⟨rfl, rfl⟩
  ·have ek : kd e l = 1 := (e1 1).2 (by simp [h1, h54, h6', h10, hx0])
   rw [ek]
   clear e1 hx h6'
   go_enter Tryz.func169, Tryz.ntmps169
   go_wp2_with (first | (go_at_call 158; refine (has_any _ _ _).mono ?_; rintro r w0 ⟨rfl, rfl⟩) | (go_at_call 171; refine (c68 _).mono ?_; rintro r w0 ⟨rfl, rfl⟩) | (go_at_call 170; refine (hasOne_any _ _ _).mono ?_; rintro r w0 ⟨rfl, rfl⟩) | (go_at_call 122; refine (c46 _).mono ?_; rintro r w0 ⟨rfl, rfl⟩) | (go_at_call 123; refine (c51 _).mono ?_; rintro r w0 ⟨rfl, rfl⟩))
   go_ret
   exact ⟨rfl, rfl⟩
end Go.Proofs.YtacdgfojdkppmaaGreatDoor.Rm
