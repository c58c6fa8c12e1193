import Derived.Test.YtacdgfojdkppmaaGreatDoorSLayW
import Derived.Test.YtacdgfojdkppmaaGreatDoorTa
import Derived.Deep.RegionHeld3
namespace Go.Proofs.YtacdgfojdkppmaaGreatDoor.Rm
open Go.RowKit
set_option linter.unusedVariables false
set_option linter.unusedSimpArgs false
/-- What Map answers: why it is refused, or 0. -/
def mapE (N : Nat) (L : List Nat) (x : Pt) (root va pa perm : Int) : Int := if ¬ (va % 4096 = 0 ∧ va < 274877906944) then 80 else if ¬ (pa % 4096 = 0 ∧ pa < 72057594037927936) then 81 else if (!ho perm 18446744073709551361 && ho perm 10 && (!hs perm 4 || hs perm 2)) = false then 82 else if ndB N L root = false then 83 else if ¬ x.k = 0 then 84 else if (L.length : Int) < x.l then 85 else 0
section
variable {w : World} {p b m N : Nat} {B : Nat → Int} {L : List Nat}
set_option maxHeartbeats 2000000 in
/-- P4.6, what is refused. -/
theorem map_early (h : Ram w p b m N B L) (root va pa perm : Int) (hr : 0 ≤ root ∧ root < 18446744073709551616) (hv : 0 ≤ va ∧ va < 18446744073709551616) (hp : 0 ≤ pa ∧ pa < 18446744073709551616) (hm : mapE N L (look N L B root va) root va pa perm = 80 ∨ mapE N L (look N L B root va) root va pa perm = 81 ∨ mapE N L (look N L B root va) root va pa perm = 82) : Calls Tryz.prog 107 #[.pointer (some ⟨p, 0, .none⟩), .int .u64 root, .int .u64 va, .int .u64 pa, .int .u64 perm] w fun r w' => r = .returned (.int .i64 (mapE N L (look N L B root va) root va pa perm)) ∧ Below w.heap.size w w' := by
 have c39 := look_any h root va hr hv
 have HR : Hid (Ram w p b m N B L) := h
 have c40 := fun W => userPage_any va hv W
 have c41 := fun W => mayPerm_any perm W
 generalize look N L B root va = x at *
 obtain ⟨a0, a1, a2, l, e, k⟩ := x
 simp only [Pt.val] at c39
 generalize hM : mapE N L ⟨a0, a1, a2, l, e, k⟩ root va pa perm = M at *
 unfold mapE at hM
 by_cases hu : va % 4096 = 0 ∧ va < 274877906944
 ·have hd : decide (va % 4096 = 0 ∧ va < 274877906944) = true := by simpa using hu
  simp only [hd] at c40
  rw [if_neg (fun f => f hu)] at hM
  by_cases hpa : pa % 4096 = 0 ∧ pa < 72057594037927936
  ·rw [if_neg (fun f => f hpa)] at hM
   generalize (!ho perm 18446744073709551361 && ho perm 10 && (!hs perm 4 || hs perm 2)) = mp at *
   obtain ⟨hp1, hp2⟩ := hpa
   cases mp
   ·rw [if_pos rfl] at hM
    subst hM
    clear h hm hu hd
    go_enter Tryz.func107, Tryz.ntmps107
    go_wp2_with (first | (go_at_call 141; refine c39.mono ?_; rintro r V0 ⟨rfl, hb0⟩; have b1 := hb0.trans ((below1 V0 (.cells #[.int .u64 a0, .int .u64 a1, .int .u64 a2, .int .i64 l, .int .u64 e, .int .i64 k] 199)).mono hb0.size); have c38 := isMade_any (HR.out.below b1); have c42 := isNode_any (HR.out.below b1) root hr; have HB1 : Hid (Below w.heap.size w (V0.alloc (.cells #[.int .u64 a0, .int .u64 a1, .int .u64 a2, .int .i64 l, .int .u64 e, .int .i64 k] 199))) := b1; clear b1 hb0) | (go_at_call 140; refine c38.mono ?_; rintro r V1 ⟨rfl, hV1⟩; subst hV1) | (go_at_call 142; refine (c40 _).mono ?_; rintro r V1 ⟨rfl, hV1⟩; subst hV1) | (go_at_call 143; refine (c41 _).mono ?_; rintro r V1 ⟨rfl, hV1⟩; subst hV1))
    go_ret
    exact ⟨rfl, HB1.out⟩
   ·exfalso
    rw [if_neg (by simp)] at hM
    revert hM
    split
    ·omega
    split
    ·omega
    split <;> omega
  ·rw [if_pos hpa] at hM
   subst hM
   have hpx : (pa % 4096 != 0) = true ∨ ((pa % 4096 != 0) = false ∧ 72057594037927936 ≤ pa) := by
    by_cases h0 : pa % 4096 = 0
    ·exact .inr ⟨by simp [h0], by omega⟩
    ·exact .inl (by simpa using h0)
   clear h hm hu hd hpa
   rcases hpx with hpx | ⟨hpx, hpy⟩
   ·have h0 : ¬ pa % 4096 = 0 := by simpa using hpx
    go_enter Tryz.func107, Tryz.ntmps107
    go_wp2_with (first | (go_at_call 141; refine c39.mono ?_; rintro r V0 ⟨rfl, hb0⟩; have b1 := hb0.trans ((below1 V0 (.cells #[.int .u64 a0, .int .u64 a1, .int .u64 a2, .int .i64 l, .int .u64 e, .int .i64 k] 199)).mono hb0.size); have c38 := isMade_any (HR.out.below b1); have c42 := isNode_any (HR.out.below b1) root hr; have HB1 : Hid (Below w.heap.size w (V0.alloc (.cells #[.int .u64 a0, .int .u64 a1, .int .u64 a2, .int .i64 l, .int .u64 e, .int .i64 k] 199))) := b1; clear b1 hb0) | (go_at_call 140; refine c38.mono ?_; rintro r V1 ⟨rfl, hV1⟩; subst hV1) | (go_at_call 142; refine (c40 _).mono ?_; rintro r V1 ⟨rfl, hV1⟩; subst hV1) | (go_at_call 143; refine (c41 _).mono ?_; rintro r V1 ⟨rfl, hV1⟩; subst hV1))
    go_ret
    exact ⟨rfl, HB1.out⟩
   ·have h0 : pa % 4096 = 0 := by simpa using hpx
    go_enter Tryz.func107, Tryz.ntmps107
    go_wp2_with (first | (go_at_call 141; refine c39.mono ?_; rintro r V0 ⟨rfl, hb0⟩; have b1 := hb0.trans ((below1 V0 (.cells #[.int .u64 a0, .int .u64 a1, .int .u64 a2, .int .i64 l, .int .u64 e, .int .i64 k] 199)).mono hb0.size); have c38 := isMade_any (HR.out.below b1); have c42 := isNode_any (HR.out.below b1) root hr; have HB1 : Hid (Below w.heap.size w (V0.alloc (.cells #[.int .u64 a0, .int .u64 a1, .int .u64 a2, .int .i64 l, .int .u64 e, .int .i64 k] 199))) := b1; clear b1 hb0) | (go_at_call 140; refine c38.mono ?_; rintro r V1 ⟨rfl, hV1⟩; subst hV1) | (go_at_call 142; refine (c40 _).mono ?_; rintro r V1 ⟨rfl, hV1⟩; subst hV1) | (go_at_call 143; refine (c41 _).mono ?_; rintro r V1 ⟨rfl, hV1⟩; subst hV1))
    go_ret
    exact ⟨rfl, HB1.out⟩
 ·have hd : decide (va % 4096 = 0 ∧ va < 274877906944) = false := by simpa using hu
  simp only [hd] at c40
  rw [if_pos hu] at hM
  subst hM
  clear h hm hu hd
  go_enter Tryz.func107, Tryz.ntmps107
  go_wp2_with (first | (go_at_call 141; refine c39.mono ?_; rintro r V0 ⟨rfl, hb0⟩; have b1 := hb0.trans ((below1 V0 (.cells #[.int .u64 a0, .int .u64 a1, .int .u64 a2, .int .i64 l, .int .u64 e, .int .i64 k] 199)).mono hb0.size); have c38 := isMade_any (HR.out.below b1); have c42 := isNode_any (HR.out.below b1) root hr; have HB1 : Hid (Below w.heap.size w (V0.alloc (.cells #[.int .u64 a0, .int .u64 a1, .int .u64 a2, .int .i64 l, .int .u64 e, .int .i64 k] 199))) := b1; clear b1 hb0) | (go_at_call 140; refine c38.mono ?_; rintro r V1 ⟨rfl, hV1⟩; subst hV1) | (go_at_call 142; refine (c40 _).mono ?_; rintro r V1 ⟨rfl, hV1⟩; subst hV1) | (go_at_call 143; refine (c41 _).mono ?_; rintro r V1 ⟨rfl, hV1⟩; subst hV1))
  go_ret
  exact ⟨rfl, HB1.out⟩
end
end Go.Proofs.YtacdgfojdkppmaaGreatDoor.Rm
namespace Go.Proofs.YtacdgfojdkppmaaGreatDoor.Rm
open Go.RowKit
set_option linter.unusedVariables false
set_option linter.unusedSimpArgs false
/-- What Map does where nothing stands against it but the table. -/
def MapP (w : World) (p b m N : Nat) (B : Nat → Int) (L : List Nat) (x : Pt) (root va leaf : Int) (r : Ending) (w' : World) : Prop :=
 (ndB N L root = false ∧ r = .returned (.int .i64 83) ∧ Below w.heap.size w w') ∨ (ndB N L root = true ∧ ¬ x.k = 0 ∧ r = .returned (.int .i64 84) ∧ Below w.heap.size w w') ∨ (ndB N L root = true ∧ x.k = 0 ∧ (L.length : Int) < x.l ∧ r = .returned (.int .i64 85) ∧ Below w.heap.size w w') ∨
 (ndB N L root = true ∧ x.k = 0 ∧ x.l ≤ L.length ∧ r = .returned (.int .i64 0) ∧ ∃ B' L', Lays N va leaf 2 B L root B' L' ∧ L = L.take x.l.toNat ++ L' ∧ Ram w' p b m N B' L' ∧ Fra p b m w w')
section
variable {w : World} {p b m N : Nat} {B : Nat → Int} {L : List Nat}
set_option maxHeartbeats 2000000 in
/-- P4.6 -/
theorem map_late (h : Ram w p b m N B L) (root va pa perm : Int) (hr : 0 ≤ root ∧ root < 18446744073709551616) (hv : 0 ≤ va ∧ va < 18446744073709551616) (hp : 0 ≤ pa ∧ pa < 18446744073709551616) (hu : va % 4096 = 0 ∧ va < 274877906944) (hpa : pa % 4096 = 0 ∧ pa < 72057594037927936) (hmp : (!ho perm 18446744073709551361 && ho perm 10 && (!hs perm 4 || hs perm 2)) = true) : Calls Tryz.prog 107 #[.pointer (some ⟨p, 0, .none⟩), .int .u64 root, .int .u64 va, .int .u64 pa, .int .u64 perm] w fun r w' => MapP w p b m N B L (look N L B root va) root va (toP pa perm) r w' := by
 have c39 := look_any h root va hr hv
 have HR : Hid (Ram w p b m N B L) := h
 have c40 := fun W => userPage_any va hv W
 have c41 := fun W => mayPerm_any perm W
 have hd : decide (va % 4096 = 0 ∧ va < 274877906944) = true := by simpa using hu
 simp only [hd] at c40
 simp only [hmp] at c41
 have HL : Hid ((look N L B root va).k = 0 → (look N L B root va).l ≤ L.length → ∃ B' L', Lays N va (toP pa perm) 2 B L root B' L' ∧ L = L.take (look N L B root va).l.toNat ++ L') := fun h1 h2 => lays_look N va (toP pa perm) B L HR.out.nd HR.out.lt 2 root 0 0 0 0 h1 h2
 have hlen := length_le N L h.mem.n1 h.nd h.lt
 have n2 := h.mem.n2
 generalize look N L B root va = x at *
 obtain ⟨a0, a1, a2, l, e, k⟩ := x
 simp only [Pt.val] at c39
 obtain ⟨hp1, hp2⟩ := hpa
 clear h hu hd hmp
 cases hnd : ndB N L root
 ·go_enter Tryz.func107, Tryz.ntmps107
  go_wp2_with (first | (go_at_call 141; refine c39.mono ?_; rintro r V0 ⟨rfl, hb0⟩; have b1 := hb0.trans ((below1 V0 (.cells #[.int .u64 a0, .int .u64 a1, .int .u64 a2, .int .i64 l, .int .u64 e, .int .i64 k] 199)).mono hb0.size); have c38 := isMade_any (HR.out.below b1); have c42 := (by have := isNode_any (HR.out.below b1) root hr; rw [hnd] at this; exact this : Calls Tryz.prog 144 #[.pointer (some ⟨p, 0, .none⟩), .int .u64 root] _ fun r w2 => r = .returned (.bool false) ∧ Below _ _ w2); have HB1 : Hid (Below w.heap.size w (V0.alloc (.cells #[.int .u64 a0, .int .u64 a1, .int .u64 a2, .int .i64 l, .int .u64 e, .int .i64 k] 199))) := b1; clear b1 hb0) | (go_at_call 140; refine c38.mono ?_; rintro r V1 ⟨rfl, hV1⟩; subst hV1) | (go_at_call 142; refine (c40 _).mono ?_; rintro r V1 ⟨rfl, hV1⟩; subst hV1) | (go_at_call 143; refine (c41 _).mono ?_; rintro r V1 ⟨rfl, hV1⟩; subst hV1) | (go_at_call 144; refine c42.mono ?_; rintro r V2 ⟨rfl, hb2⟩))
  go_ret
  exact .inl ⟨hnd, rfl, HB1.out.trans (hb2.mono HB1.out.size)⟩
 ·by_cases hk : k = 0
  ·subst hk
   obtain ⟨n, hn⟩ : ∃ n : Int, n = L.length := ⟨_, rfl⟩
   have HN : Hid (n = L.length) := hn
   by_cases hlt : n < l
   ·go_enter Tryz.func107, Tryz.ntmps107
    go_upto_region 14 with (first | (go_at_call 141; refine c39.mono ?_; rintro r V0 ⟨rfl, hb0⟩; have b1 := hb0.trans ((below1 V0 (.cells #[.int .u64 a0, .int .u64 a1, .int .u64 a2, .int .i64 l, .int .u64 e, .int .i64 0] 199)).mono hb0.size); have c38 := isMade_any (HR.out.below b1); have c42 := (by have := isNode_any (HR.out.below b1) root hr; rw [hnd] at this; exact this : Calls Tryz.prog 144 #[.pointer (some ⟨p, 0, .none⟩), .int .u64 root] _ fun r w2 => r = .returned (.bool true) ∧ Below _ _ w2); have HB1 : Hid (Below w.heap.size w (V0.alloc (.cells #[.int .u64 a0, .int .u64 a1, .int .u64 a2, .int .i64 l, .int .u64 e, .int .i64 0] 199))) := b1; clear b1 hb0) | (go_at_call 140; refine c38.mono ?_; rintro r V1 ⟨rfl, hV1⟩; subst hV1) | (go_at_call 142; refine (c40 _).mono ?_; rintro r V1 ⟨rfl, hV1⟩; subst hV1) | (go_at_call 143; refine (c41 _).mono ?_; rintro r V1 ⟨rfl, hV1⟩; subst hV1) | (go_at_call 144; refine c42.mono ?_; rintro r V2 ⟨rfl, hb2⟩; have C2 := (C6.new V0 (.int .u64 a0) (.int .u64 a1) (.int .u64 a2) (.int .i64 l) (.int .u64 e) (.int .i64 0) 199).below hb2; obtain ⟨z0, z1, z2, z3, z4, z5, y0, y1, y2, y3, y4, y5⟩ := C2))
    have b2 := HB1.out.trans (hb2.mono HB1.out.size)
    have HB2 : Hid (Below w.heap.size w V2) := b2
    have HZ : Hid (V0.heap.size < V2.heap.size) := lt_of_cell z3
    have s27 : ∀ W, (W.cell? ⟨V0.heap.size, 3, .none⟩ = some (.int .i64 l) ∧ Below V2.heap.size V2 W) → Calls Tryz.prog 10 #[.pointer (some ⟨p, 0, .none⟩)] W fun r W' => r = .returned (.int .i64 n) ∧ (W'.cell? ⟨V0.heap.size, 3, .none⟩ = some (.int .i64 l) ∧ Below V2.heap.size V2 W') := fun W hS => by
     have R2 := HR.out.below (HB2.out.trans (hS.2.mono HB2.out.size))
     refine (count_any R2.mem (by omega)).mono ?_
     rintro r W' ⟨he, kk, rfl⟩
     have hb9 : Below V2.heap.size V2 (W.drewN kk) := hS.2.trans (blw_drewN _ _ _)
     refine ⟨he.trans ?_, hS.1, hb9⟩
     rw [HN.out]
     congr 2
     omega
    have j0 : (V2.drew.cell? ⟨V0.heap.size, 3, .none⟩ = some (.int .i64 l) ∧ Below V2.heap.size V2 V2.drew) := ⟨z3, (Below.refl _ _).drew⟩
    clear c38 c40 c41 c42 hb2 b2 z0 z1 z2 z3 z4 z5 y0 y1 y2 y3 y4 y5
    go_region_held3 (fun W => (W.cell? ⟨V0.heap.size, 3, .none⟩ = some (.int .i64 l) ∧ Below V2.heap.size V2 W)) (first | assumption | exact j0) (first | (go_at_call 10; refine (s27 _ (by assumption)).mono ?_; rintro r V3 ⟨rfl, hS3⟩))
    have HS3 : Hid (Below V2.heap.size V2 V3) := hS3.2
    rename_i hHeld
    clear hS3 hHeld s27 j0
    go_wp2
    go_ret
    exact .inr (.inr (.inl ⟨hnd, rfl, by rw [← HN.out]; exact hlt, rfl, HB2.out.trans (HS3.out.mono HB2.out.size)⟩))
   ·obtain ⟨B', L', hY, hT⟩ := HL.out rfl (by show l ≤ (L.length : Int); omega)
    have HY : Hid (Lays N va (toP pa perm) 2 B L root B' L' ∧ L = L.take l.toNat ++ L') := ⟨hY, hT⟩
    have c44 := fun W => toPage_any pa perm hp W
    have htb := toP_b pa perm
    have c43 : Hid (∀ W, Below w.heap.size w W → Calls Tryz.prog 145 #[.pointer (some ⟨p, 0, .none⟩), .int .u64 root, .int .u64 va, .agg #[.pointer (some ⟨p, 0, .none⟩), .int .u64 (toP pa perm)]] W fun e w' => (∃ v, e = .returned v) ∧ Ram w' p b m N B' L' ∧ Fra p b m W w') := fun W hb => lay_any (HR.out.below hb) root va (toP pa perm) hr hv htb hY
    have hlt2 : l ≤ n := by omega
    clear hY hT
    generalize toP pa perm = lf at *
    go_enter Tryz.func107, Tryz.ntmps107
    go_upto_region 14 with (first | (go_at_call 141; refine c39.mono ?_; rintro r V0 ⟨rfl, hb0⟩; have b1 := hb0.trans ((below1 V0 (.cells #[.int .u64 a0, .int .u64 a1, .int .u64 a2, .int .i64 l, .int .u64 e, .int .i64 0] 199)).mono hb0.size); have c38 := isMade_any (HR.out.below b1); have c42 := (by have := isNode_any (HR.out.below b1) root hr; rw [hnd] at this; exact this : Calls Tryz.prog 144 #[.pointer (some ⟨p, 0, .none⟩), .int .u64 root] _ fun r w2 => r = .returned (.bool true) ∧ Below _ _ w2); have HB1 : Hid (Below w.heap.size w (V0.alloc (.cells #[.int .u64 a0, .int .u64 a1, .int .u64 a2, .int .i64 l, .int .u64 e, .int .i64 0] 199))) := b1; clear b1 hb0) | (go_at_call 140; refine c38.mono ?_; rintro r V1 ⟨rfl, hV1⟩; subst hV1) | (go_at_call 142; refine (c40 _).mono ?_; rintro r V1 ⟨rfl, hV1⟩; subst hV1) | (go_at_call 143; refine (c41 _).mono ?_; rintro r V1 ⟨rfl, hV1⟩; subst hV1) | (go_at_call 144; refine c42.mono ?_; rintro r V2 ⟨rfl, hb2⟩; have C2 := (C6.new V0 (.int .u64 a0) (.int .u64 a1) (.int .u64 a2) (.int .i64 l) (.int .u64 e) (.int .i64 0) 199).below hb2; obtain ⟨z0, z1, z2, z3, z4, z5, y0, y1, y2, y3, y4, y5⟩ := C2))
    have b2 := HB1.out.trans (hb2.mono HB1.out.size)
    have HB2 : Hid (Below w.heap.size w V2) := b2
    have HZ : Hid (V0.heap.size < V2.heap.size) := lt_of_cell z3
    have s27 : ∀ W, (W.cell? ⟨V0.heap.size, 3, .none⟩ = some (.int .i64 l) ∧ Below V2.heap.size V2 W) → Calls Tryz.prog 10 #[.pointer (some ⟨p, 0, .none⟩)] W fun r W' => r = .returned (.int .i64 n) ∧ (W'.cell? ⟨V0.heap.size, 3, .none⟩ = some (.int .i64 l) ∧ Below V2.heap.size V2 W') := fun W hS => by
     have R2 := HR.out.below (HB2.out.trans (hS.2.mono HB2.out.size))
     refine (count_any R2.mem (by omega)).mono ?_
     rintro r W' ⟨he, kk, rfl⟩
     have hb9 : Below V2.heap.size V2 (W.drewN kk) := hS.2.trans (blw_drewN _ _ _)
     refine ⟨he.trans ?_, hS.1, hb9⟩
     rw [HN.out]
     congr 2
     omega
    have j0 : (V2.drew.cell? ⟨V0.heap.size, 3, .none⟩ = some (.int .i64 l) ∧ Below V2.heap.size V2 V2.drew) := ⟨z3, (Below.refl _ _).drew⟩
    clear c38 c40 c41 c42 hb2 b2 z0 z1 z2 z3 z4 z5 y0 y1 y2 y3 y4 y5
    go_region_held3 (fun W => (W.cell? ⟨V0.heap.size, 3, .none⟩ = some (.int .i64 l) ∧ Below V2.heap.size V2 W)) (first | assumption | exact j0) (first | (go_at_call 10; refine (s27 _ (by assumption)).mono ?_; rintro r V3 ⟨rfl, hS3⟩))
    have HS3 : Hid (Below V2.heap.size V2 V3) := hS3.2
    rename_i hHeld
    clear hS3 hHeld s27 j0
    have b3 := HB2.out.trans (HS3.out.mono HB2.out.size)
    have c43' := c43.out V3 b3
    have HB3 : Hid (Below w.heap.size w V3) := b3
    clear b3 c43
    go_wp2_with (first | (go_at_call 146; refine (c44 _).mono ?_; rintro r V4 ⟨rfl, hV4⟩; subst hV4) | (go_at_call 145; refine c43'.mono ?_; rintro r V5 ⟨⟨u, rfl⟩, hR5, hF5⟩) | fail)
    go_ret
    exact .inr (.inr (.inr ⟨hnd, rfl, by show l ≤ (L.length : Int); rw [← HN.out]; exact hlt2, rfl, B', L', HY.out.1, HY.out.2, hR5, (Fra.below HB3.out).trans hF5⟩))
  ·go_enter Tryz.func107, Tryz.ntmps107
   go_wp2_with (first | (go_at_call 141; refine c39.mono ?_; rintro r V0 ⟨rfl, hb0⟩; have b1 := hb0.trans ((below1 V0 (.cells #[.int .u64 a0, .int .u64 a1, .int .u64 a2, .int .i64 l, .int .u64 e, .int .i64 k] 199)).mono hb0.size); have c38 := isMade_any (HR.out.below b1); have c42 := (by have := isNode_any (HR.out.below b1) root hr; rw [hnd] at this; exact this : Calls Tryz.prog 144 #[.pointer (some ⟨p, 0, .none⟩), .int .u64 root] _ fun r w2 => r = .returned (.bool true) ∧ Below _ _ w2); have HB1 : Hid (Below w.heap.size w (V0.alloc (.cells #[.int .u64 a0, .int .u64 a1, .int .u64 a2, .int .i64 l, .int .u64 e, .int .i64 k] 199))) := b1; clear b1 hb0) | (go_at_call 140; refine c38.mono ?_; rintro r V1 ⟨rfl, hV1⟩; subst hV1) | (go_at_call 142; refine (c40 _).mono ?_; rintro r V1 ⟨rfl, hV1⟩; subst hV1) | (go_at_call 143; refine (c41 _).mono ?_; rintro r V1 ⟨rfl, hV1⟩; subst hV1) | (go_at_call 144; refine c42.mono ?_; rintro r V2 ⟨rfl, hb2⟩; have C2 := (C6.new V0 (.int .u64 a0) (.int .u64 a1) (.int .u64 a2) (.int .i64 l) (.int .u64 e) (.int .i64 k) 199).below hb2; obtain ⟨z0, z1, z2, z3, z4, z5, y0, y1, y2, y3, y4, y5⟩ := C2))
   go_ret
   exact .inr (.inl ⟨hnd, hk, rfl, HB1.out.trans (hb2.mono HB1.out.size)⟩)
end
end Go.Proofs.YtacdgfojdkppmaaGreatDoor.Rm
