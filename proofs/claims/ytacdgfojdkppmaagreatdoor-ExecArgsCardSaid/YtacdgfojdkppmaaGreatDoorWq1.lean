import Derived.Test.YtacdgfojdkppmaaGreatDoorKSd
import Derived.Test.YtacdgfojdkppmaaGreatDoorKLb
import Derived.Test.YtacdgfojdkppmaaGreatDoorRd2
import Derived.Deep.Cut
import Derived.Deep.DeepCutAuto
import Derived.Deep.CutBlock
namespace Go.Proofs.YtacdgfojdkppmaaGreatDoor.Rm
open Go Go.RowKit Rg
attribute [local go_sem] Oper.semAt_some
set_option linter.unusedVariables false
set_option linter.unusedSimpArgs false
set_option maxRecDepth 10000
/-- What Str tells. -/
def SrP (w : World) (k : Nat) (R : Nat → Int) (e : Ending) (w' : World) : Prop := (∃ t : List UInt8, e = .returned (.tuple #[.string ⟨t.toArray⟩, .bool true]) ∧ t.map (fun u => (u.toNat : Int)) = (List.range k).map R) ∧ Below w.heap.size w w'
set_option maxHeartbeats 4000000 in
theorem str_any {w : World} {s p b m N r P : Nat} {size : Int} {B : Nat → Int} {L : List Nat} {F : Nat → Option Nat} {lf : Nat → Nat → Int} {fr : Nat → Nat} {c : Nat → Int} (h : SpU w s p b m N r P size B L F lf fr c) (va k : Nat) (hva : va < P * 4096) (hk : va % 4096 + k < 4096) (hacc : accU c 1 va = true) (h0 : btU B fr (va + k) = 0) (hne : ∀ j, j < k → btU B fr (va + j) ≠ 0) :
  Calls Tryz.prog 15 #[.pointer (some ⟨s, 0, .none⟩), .int .u64 va, .int .i64 4096] w (SrP w k (fun j => btU B fr (va + j))) := by
 have hm := h.pm
 have hsz := h.sz
 obtain ⟨w1, hw1⟩ : ∃ w1, w1 = w.alloc (.cells #[.pointer (some ⟨s, 0, .none⟩)] 32) := ⟨_, rfl⟩
 have b1 : Below w.heap.size w w1 := by rw [hw1]; exact below1 _ _
 have s1 : w1.heap.size = w.heap.size + 1 := by rw [hw1]; simp
 have q1 : w1.cell? ⟨w.heap.size, 0, .none⟩ = some (.pointer (some ⟨s, 0, .none⟩)) := by rw [hw1]; simp
 have hE : (size + 4095) / 4096 * 4096 = (P : Int) * 4096 := by rw [hsz.2]
 have c35 := end_any (h.sp.below b1) (by omega)
 rw [hE] at c35
 have c34 := fits_any (va : Int) 1 ((P : Int) * 4096) (by omega) (by omega) (by omega) (by omega) w1
 have HH : Hid (SpU w1 s p b m N r P size B L F lf fr c ∧ Below w.heap.size w w1 ∧ w1.heap.size = w.heap.size + 1) := ⟨h.below b1, b1, s1⟩
 clear h b1 s1
 go_enter Tryz.func15, Tryz.ntmps15
 go_wp2_with fail
 rw [← hw1]
 clear hw1
 refine c35.mono ?_
 rintro _ x1 ⟨rfl, e1⟩
 obtain rfl : w1 = x1 := e1.symm
 clear e1
 go_wp2_with fail
 refine c34.mono ?_
 rintro _ x1 ⟨rfl, e1⟩
 obtain rfl : w1 = x1 := e1.symm
 clear e1 c34
 go_upto_region 5 with fail
 obtain ⟨w3, hw3⟩ : ∃ w3, w3 = (w1.alloc (.cells #[.slice none 0 0] 22)).alloc (.cells #[.bool false] 4) := ⟨_, rfl⟩
 rw [← hw3]
 have b3 : Below w1.heap.size w1 w3 := by rw [hw3]; exact ((Below.refl _ _).alloc (Nat.le_refl _) _).alloc (by simp) _
 have s3 : w3.heap.size = w1.heap.size + 2 := by rw [hw3]; simp
 have y1 : w3.cell? ⟨w1.heap.size, 0, .none⟩ = some (.slice none 0 0) ∧ w3.frozen? ⟨w1.heap.size, 0, .none⟩ = false := by
  rw [hw3]
  refine ⟨by simp, ?_⟩
  have f1 : (w1.alloc (.cells #[.slice none 0 0] 22)).frozen? ⟨w1.heap.size, 0, .none⟩ = false := World.frozen?_alloc_new _ _ _ _
  exact (((Below.refl _ (w1.alloc (.cells #[.slice none 0 0] 22))).alloc (Nat.le_refl _) _).frozen (p := ⟨w1.heap.size, 0, .none⟩) (by simp)).trans f1
 have y2 : w3.cell? ⟨w1.heap.size + 1, 0, .none⟩ = some (.bool false) ∧ w3.frozen? ⟨w1.heap.size + 1, 0, .none⟩ = false := by
  rw [hw3]
  refine ⟨by simp, ?_⟩
  have f2 : ∀ v : World, (v.alloc (.cells #[.bool false] 4)).frozen? ⟨v.heap.size, 0, .none⟩ = false := fun v => World.frozen?_alloc_new _ _ _ _
  have := f2 (w1.alloc (.cells #[.slice none 0 0] 22))
  rw [World.size_alloc] at this
  exact this
 have q3 : w3.cell? ⟨w.heap.size, 0, .none⟩ = some (.pointer (some ⟨s, 0, .none⟩)) := (b3.cell (p := ⟨w.heap.size, 0, .none⟩) (lt_of_cell q1)).trans q1
 have S3 := HH.out.1.below b3
 have H3 : Hid (SpU w3 s p b m N r P size B L F lf fr c ∧ Below w.heap.size w w3 ∧ w3.heap.size = w.heap.size + 3) := ⟨S3, HH.out.2.1.trans (b3.mono HH.out.2.1.size), by rw [s3, HH.out.2.2]⟩
 have d35 := end_any (S3.sp.below (Below.refl _ w3).drew) (by omega)
 rw [hE] at d35
 have HY : Hid ((w3.cell? ⟨w1.heap.size, 0, .none⟩ = some (.slice none 0 0) ∧ w3.frozen? ⟨w1.heap.size, 0, .none⟩ = false) ∧ w3.cell? ⟨w1.heap.size + 1, 0, .none⟩ = some (.bool false) ∧ w3.frozen? ⟨w1.heap.size + 1, 0, .none⟩ = false) := ⟨y1, y2⟩
 obtain ⟨z, hz⟩ : ∃ z, z = w1.heap.size := ⟨_, rfl⟩
 rw [← hz] at HY ⊢
 have HZ : Hid (z = w.heap.size + 1) := by rw [hz]; exact HH.out.2.2
 obtain ⟨x, hx⟩ : ∃ x, x = w.heap.size := ⟨_, rfl⟩
 have HXX : Hid (x = w.heap.size) := hx
 rw [← hx] at q3 q1 ⊢
 have hv1 : IntKind.u64.wrap ((P : Int) * 4096 - va) = (P : Int) * 4096 - va := by rw [IntKind.wrap_u64]; omega
 have hv2 : IntKind.i64.wrap ((P : Int) * 4096 - va) = (P : Int) * 4096 - va := by rw [IntKind.wrap_i64]; omega
 obtain ⟨n, hn⟩ : ∃ n : Nat, min (4096 : Int) ((P : Int) * 4096 - va) = n := ⟨(min (4096 : Int) ((P : Int) * 4096 - va)).toNat, by omega⟩
 have HN : Hid (min (4096 : Int) ((P : Int) * 4096 - va) = n) := hn
 clear hw3 b3 s3 y1 y2 S3 q1 c35 hz hx hn
 have kS : w3.drew.cell? ⟨x, 0, .none⟩ = some (.pointer (some ⟨s, 0, .none⟩)) := q3
 refine wp_region_held_drew (S := (fun U => U.cell? ⟨x, 0, .none⟩ = some (.pointer (some ⟨s, 0, .none⟩)))) (by kernel_rfl) kS (fun hHeld => ?_)
 refine nT 0 (.pointer (some ⟨s, 0, .none⟩)) rfl ?_
 simp only [x0,x1,x2,x3,x4,x5,x6]
 refine nT 1 (.int .u64 va) rfl ?_
 simp only [x0,x1,x2,x3,x4,x5,x6]
 refine nT 2 (.int .i64 4096) rfl ?_
 simp only [x0,x1,x2,x3,x4,x5,x6]
 refine nT 3 (.pointer (some ⟨s, 0, .none⟩)) rfl ?_
 simp only [x0,x1,x2,x3,x4,x5,x6]
 refine nT 5 (.int .u64 va) rfl ?_
 simp only [x0,x1,x2,x3,x4,x5,x6]
 refine nT 9 (.pointer (some ⟨s, 0, .none⟩)) rfl ?_
 simp only [x0,x1,x2,x3,x4,x5,x6]
 refine nT 11 (.func (.func 40) #[] #[.pointer (some ⟨x, 0, .none⟩), .pointer (some ⟨z, 0, .none⟩), .pointer (some ⟨z + 1, 0, .none⟩)]) rfl ?_
 simp only [x0,x1,x2,x3,x4,x5,x6]
 refine wpAnyH_ready (rs := [4]) (by kernel_rfl) (by simp) ?_
 refine AllReadyH.cons rfl (fun K hK => ?_) AllReadyH.nil
 go_simp
 go_at_call 35
 refine d35.mono ?_
 rintro _ x4 ⟨rfl, e4⟩
 obtain rfl : w3.drew = x4 := e4.symm
 refine hK.out _ _ kS (fun hHeld => ?_)
 clear hK K
 try simp only [x0,x1,x2,x3,x4,x5,x6]
 refine nT 6 (.int .u64 ((P : Int) * 4096 - va)) rfl ?_
 simp only [x0,x1,x2,x3,x4,x5,x6]
 refine nT 7 (.int .i64 ((P : Int) * 4096 - va)) rfl ?_
 simp only [x0,x1,x2,x3,x4,x5,x6]
 refine nT 8 (.int .i64 (min (4096 : Int) ((P : Int) * 4096 - va))) rfl ?_
 simp only [x0,x1,x2,x3,x4,x5,x6]
 rw [HN.out]
 obtain ⟨w4, hw4⟩ : ∃ w4, w4 = (w3.drew.alloc (.cells #[.pointer (some ⟨s, 0, .none⟩)] 32)).alloc (.cells #[.int .i64 2] 98) := ⟨_, rfl⟩
 have d37 := forUser_any s 2 w3.drew
 rw [← hw4] at d37
 have b4 : Below w3.heap.size w3 w4 := by rw [hw4]; exact ((Below.refl _ w3).drew.alloc (Nat.le_refl _) _).alloc (by simp) _
 have u1 : w4.cell? ⟨w3.drew.heap.size, 0, .none⟩ = some (.pointer (some ⟨s, 0, .none⟩)) := by
  rw [hw4]
  exact (fun wd : World => (by simp : ((wd.alloc (.cells #[.pointer (some ⟨s, 0, .none⟩)] 32)).alloc (.cells #[.int .i64 2] 98)).cell? ⟨wd.heap.size, 0, .none⟩ = some (.pointer (some ⟨s, 0, .none⟩)))) w3.drew
 have u2 : w4.cell? ⟨w3.drew.heap.size + 1, 0, .none⟩ = some (.int .i64 2) := by
  rw [hw4]
  exact (fun wd : World => (by simp : ((wd.alloc (.cells #[.pointer (some ⟨s, 0, .none⟩)] 32)).alloc (.cells #[.int .i64 2] 98)).cell? ⟨wd.heap.size + 1, 0, .none⟩ = some (.int .i64 2))) w3.drew
 have z3 := H3.out.2.2
 have hzz := HZ.out
 have kS4 : w4.cell? ⟨x, 0, .none⟩ = some (.pointer (some ⟨s, 0, .none⟩)) := (b4.cell (p := ⟨x, 0, .none⟩) (by show x < _; have := HXX.out; omega)).trans q3
 have hS4 := H3.out.1.below b4
 have hpag := hS4.pag (va / 4096) (by omega)
 have B4 : Below w.heap.size w w4 := H3.out.2.1.trans (b4.mono (by omega))
 have hnn : (n : Int) = min (4096 : Int) ((P : Int) * 4096 - va) := HN.out.symm
 have hn1 : 1 ≤ n ∧ n ≤ 4096 := by omega
 have hpc : k < pce va n 0 ∧ va % 4096 + pce va n 0 ≤ 4096 := by
  have hb := pce_b (va : Int) n 0 (by omega)
  have ho : (((va : Int) + (0 : Nat)) % 4096).toNat = va % 4096 := by omega
  rw [ho] at hb
  refine ⟨?_, hb.2.2⟩
  unfold pce
  rw [ho]
  have h9 := Nat.div_add_mod va 4096
  have h8 : va / 4096 < P := by omega
  omega
 have c36 := each_str (w := w4) (s := s) (u1 := w3.drew.heap.size) (u2 := w3.drew.heap.size + 1) (d1 := x) (d2 := z) (d3 := z + 1) (va : Int) n (by omega) hn1.1 (ad (fr (va / 4096)) + (va % 4096 : Nat))
  (fun W' => Below w.heap.size w W' ∧ (∃ v', W'.ownsRow w.heap.size 5 1 v' k (by8 ((List.range k).map fun j => btU B fr (va + j))) ∧ W'.cell? ⟨z, 0, .none⟩ = some v') ∧ W'.cell? ⟨z + 1, 0, .none⟩ = some (.bool true) ∧ W'.cell? ⟨x, 0, .none⟩ = some (.pointer (some ⟨s, 0, .none⟩)))
  (by
   have := user_any hS4.sp (va : Int) 2 _ _ u1 u2 (fun W2 b2 => (hS4.below b2).tra va 1 hva (by omega))
   rw [hacc] at this
   simpa using this)
  (fun W bW => by
   have hSW := hS4.below bW
   have hbt : ∀ j, j ≤ k → btU B fr (va + j) = B (fr (va / 4096) * 4096 + va % 4096 + j) := fun j hj => by
    unfold btU
    rw [show (va + j) / 4096 = va / 4096 by omega, show (va + j) % 4096 = va % 4096 + j by omega, Nat.add_assoc]
   refine (str1_any hSW.sp hSW.ram (fr (va / 4096)) (va % 4096) (pce va n 0) k hpag.qb hpc.1 hpc.2 (by rw [← hbt k (Nat.le_refl _)]; exact h0) (fun j hj => by rw [← hbt j (by omega)]; exact hne j hj) w.heap.size x z (z + 1) ⟨by omega, by omega, by omega, Nat.le_trans B4.size bW.size⟩ ⟨by have := HXX.out; omega, by have := HXX.out; omega⟩
    ((bW.cell (p := ⟨x, 0, .none⟩) (lt_of_cell kS4)).trans kS4) ?_ ?_ ?_ ?_).mono fun e w' h9 => ?_
   ·exact ((b4.trans (bW.mono b4.size)).cell (p := ⟨z, 0, .none⟩) (by show z < _; omega)).trans HY.out.1.1
   ·exact ((b4.trans (bW.mono b4.size)).frozen (p := ⟨z, 0, .none⟩) (by show z < _; omega)).trans HY.out.1.2
   ·exact ((b4.trans (bW.mono b4.size)).cell (p := ⟨z + 1, 0, .none⟩) (by show z + 1 < _; omega)).trans HY.out.2.1
   ·exact ((b4.trans (bW.mono b4.size)).frozen (p := ⟨z + 1, 0, .none⟩) (by show z + 1 < _; omega)).trans HY.out.2.2
   ·obtain ⟨h91, h92, ⟨v', h93, h94⟩, h95, h96⟩ := h9
    refine ⟨h91, (B4.trans (bW.mono B4.size)).trans h92, ⟨v', ?_, h94⟩, h95, h96.trans ((bW.cell (p := ⟨x, 0, .none⟩) (lt_of_cell kS4)).trans kS4)⟩
    have e9 : ((List.range k).map fun j => B (fr (va / 4096) * 4096 + va % 4096 + j)) = (List.range k).map fun j => btU B fr (va + j) := List.map_congr_left fun j hj => (hbt j (by have := List.mem_range.1 hj; omega)).symm
    rw [e9] at h93
    exact own_mono h93 (Nat.le_trans B4.size bW.size))
 clear u1 u2 hS4 hpag hpc B4 hnn z3 hzz b4 hw4
 refine wpAnyH_ready (rs := [10]) (by kernel_rfl) (by simp) ?_
 refine AllReadyH.cons rfl (fun K hK => ?_) AllReadyH.nil
 go_simp
 go_at_call 37
 refine d37.mono ?_
 rintro _ x4 ⟨rfl, e4⟩
 obtain rfl : w4 = x4 := e4.symm
 refine hK.out _ _ kS4 (fun hHeld => ?_)
 clear hK K
 try simp only [x0,x1,x2,x3,x4,x5,x6]
 refine wpAnyH_ready (rs := [12]) (by kernel_rfl) (by simp) ?_
 refine AllReadyH.cons rfl (fun K hK => ?_) AllReadyH.nil
 go_simp
 go_at_call 36
 refine c36.mono ?_
 rintro _ w6 ⟨rfl, b6, ⟨v6, o6, g6⟩, t6, k6⟩
 obtain ⟨q6, c6, rfl⟩ := one_slice o6
 have H6 : Hid (Below w.heap.size w w6) := b6
 obtain ⟨xs, hxs⟩ : ∃ xs, xs = (List.range k).map fun j => btU B fr (va + j) := ⟨_, rfl⟩
 have HXS : Hid (xs = (List.range k).map fun j => btU B fr (va + j)) := hxs
 have hU : U8 xs := fun v hv => by
  rw [hxs] at hv
  obtain ⟨j, -, rfl⟩ := List.mem_map.1 hv
  exact H3.out.1.ram.mem.bb _
 rw [← hxs] at o6
 obtain ⟨t9, ht1, ht2, ht3⟩ := conv_own o6 hU
 have HT : Hid (t9.map (fun u => (u.toNat : Int)) = xs) := ht3
 clear hxs hU b6 o6 c36 ht3 ht1
 refine hK.out _ _ k6 (fun hHeld => ?_)
 clear hK K
 try simp only [x0,x1,x2,x3,x4,x5,x6]
 refine wpAnyH_done (by kernel_rfl) ?_ _
 clear hHeld k6
 go_wp2
 refine bodyPost_ret (v := .tuple #[.string ⟨t9.toArray⟩, .bool true]) (by simp [results, Tryz.results15, go_sem]) rfl ⟨⟨t9, rfl, HT.out.trans HXS.out⟩, H6.out⟩
end Go.Proofs.YtacdgfojdkppmaaGreatDoor.Rm
namespace Go.Proofs.YtacdgfojdkppmaaGreatDoor
open Go.RowKit
set_option linter.unusedVariables false
set_option linter.unusedSimpArgs false
/-- A number's bytes, the low one first. -/
def nums (v : Int) (n : Nat) : List Int := (List.range n).map fun j => v / 256 ^ j % 256
theorem nums_succ (v : Int) (n : Nat) : nums v (n + 1) = nums v n ++ [v / 256 ^ n % 256] := by
 simp only [nums]
 rw [List.range_succ, List.map_append]
 rfl
theorem nums_len (v : Int) (n : Nat) : (nums v n).length = n := by simp [nums]
theorem div_step (v : Int) (i : Nat) : v / 256 ^ i / 256 = v / 256 ^ (i + 1) := by
 rw [Int.pow_succ, ← Int.ediv_ediv_of_nonneg (Int.pow_nonneg (by decide))]
theorem div_bd (v : Int) (hv : 0 ≤ v ∧ v < 18446744073709551616) (i : Nat) : 0 ≤ v / 256 ^ i ∧ v / 256 ^ i < 18446744073709551616 := by
 have hp : (0 : Int) < 256 ^ i := Int.pow_pos (by decide)
 refine ⟨Int.ediv_nonneg hv.1 (by omega), ?_⟩
 have := Int.ediv_le_self (256 ^ i) hv.1
 omega
set_option maxHeartbeats 4000000 in
set_option maxRecDepth 100000 in
theorem number_any (v : Int) (hv : 0 ≤ v ∧ v < 18446744073709551616) (n : Nat) (hn : n ≤ 100) (w : World) : Calls Tryz.prog 75 #[.int .u64 v, .int .i64 n] w (Gb (nums v n) w) := by
 obtain ⟨i3, z3, hi3, hz3, hs3, hb3, hzs3⟩ := byte_info
 have HI : Hid (Tryz.prog.info? 5 = some i3 ∧ i3.zero = some z3 ∧ i3.size = 1 ∧ i3.bytes = 1 ∧ z3.cells.size = 1) := ⟨hi3, hz3, hs3, hb3, hzs3⟩
 clear hi3 hz3 hs3 hb3 hzs3
 go_enter Tryz.func75, Tryz.ntmps75
 go_wp2_with fail
 go_loopw [0, 5, 6] (fun u b k wr => ∃ i : Nat, i ≤ n ∧ k = .int .i64 i ∧ u = .int .u64 (v / 256 ^ i) ∧ ∃ q cq, b = .slice q i cq ∧ Hid (wr.ownsRow w.heap.size 5 1 (.slice q i cq) i (by8 (nums v i)) ∧ Below w.heap.size w wr)) (fun _ _ k _ => (n - intOf k).toNat)
 case atStart => exact ⟨0, by omega, rfl, by simp, none, 0, rfl, World.ownsRow_nil _ _ _ _, Below.refl _ _⟩
 case round =>
  obtain ⟨i, hi, rfl, rfl, q, cq, rfl, HO⟩ := hrel
  by_cases hlt : i < n
  ·have g0 : (i : Int) < n := by omega
   have z1 := HO.out.2.size
   have hbd := div_bd v hv i
   have hst := div_step v i
   have HN : Hid (nums v (i + 1) = nums v i ++ [v / 256 ^ i % 256]) := nums_succ v i
   have HST : Hid (v / 256 ^ i / 256 = v / 256 ^ (i + 1)) := hst
   clear hst
   generalize hy : v / 256 ^ i = y at *
   clear hy
   go_wp2_with (first | (at_builtin; refine wpList_append_own _ rfl _ _ 22 rfl w.heap.size 5 i3 z3 1 1 Tryz.underlying22 HI.out.1 HI.out.2.1 HI.out.2.2.1 HI.out.2.2.2.1 HI.out.2.2.2.2 (by decide) (.slice q i cq) i (by8 (nums v i)) rfl (HO.out.1.alloc _) ⟨wr.heap.size, 0, .none⟩ 1 1 (by8 [y % 256]) rfl rfl (le_cell1_new _ _ _) (by8_one _) ?c4 ?c5 ?c6 ?_) | fail)
   case c4 => simp only [maxLen]; omega
   case c5 => omega
   case c6 => simp only [World.size_alloc]; omega
   intro v' w2 own' grow fb
   clear fb
   obtain ⟨p', c', rfl⟩ := one_slice own'
   have HW : Hid (w2.ownsRow w.heap.size 5 1 (.slice p' (i + 1) c') (i + 1) (by8 (nums v (i + 1))) ∧ Below w.heap.size w w2) := by
    refine ⟨?_, below_append HO.out.2 _ grow z1 (own_block HO.out.1)⟩
    rw [HN.out, by8_app]
    exact own'
   clear own' grow
   go_wp2_with fail
   exact ⟨⟨i + 1, by omega, by simp, by rw [← HST.out], p', c', rfl, HW.out⟩, by simp only [intOf]; omega⟩
  ·obtain rfl : i = n := by omega
   have hn9 : ¬ ((i : Int) < i) := by omega
   go_wp2_with fail
   go_ret
   refine ⟨q, cq, ?_, ?_, HO.out.2⟩
   ·rw [nums_len]
    rfl
   ·rw [nums_len]
    exact HO.out.1
set_option maxHeartbeats 4000000 in
set_option maxRecDepth 100000 in
theorem putQ_any {p1 p2 : Option Addr} {n1 c1 n2 c2 : Nat} {xs ys : List Int} {w : World} (h1 : Byt w p1 n1 c1 xs) (h2 : Byt w p2 n2 c2 ys) (hn1 : n1 < 2000000) (hn2 : n2 < 2000000) :
  Calls Tryz.prog 74 #[.slice p1 n1 c1, .slice p2 n2 c2] w (Gb (xs ++ ys) w) := by
 obtain ⟨hl1, k1, m1, h1⟩ := h1
 obtain ⟨hl2, k2, m2, h2⟩ := h2
 have m1 : c1 ≤ 9223372036854775807 := m1
 have m2 : c2 ≤ 9223372036854775807 := m2
 have HX : Hid (xs.length = n1) := hl1
 have HY : Hid (ys.length = n2) := hl2
 obtain ⟨i3, z3, hi3, hz3, hs3, hb3, hzs3⟩ := byte_info
 have HI : Hid (Tryz.prog.info? 5 = some i3 ∧ i3.zero = some z3 ∧ i3.size = 1 ∧ i3.bytes = 1 ∧ z3.cells.size = 1) := ⟨hi3, hz3, hs3, hb3, hzs3⟩
 clear hi3 hz3 hs3 hb3 hzs3
 have H1 : Hid (∀ i x, xs[i]? = some x → ∃ b1 o1, p1 = some ⟨b1, o1, .none⟩ ∧ b1 < w.heap.size ∧ w.cell? ⟨b1, o1 + i, .none⟩ = some (.int .u8 x)) := by
  intro i x hx
  rcases h1 with h1 | ⟨b1, o1, h2, hb, h3⟩
  ·rw [List.getElem?_eq_none (by omega)] at hx
   cases hx
  ·exact ⟨b1, o1, h2, hb, h3 i x hx⟩
 have H2 : Hid (∀ i x, ys[i]? = some x → ∃ b1 o1, p2 = some ⟨b1, o1, .none⟩ ∧ b1 < w.heap.size ∧ w.cell? ⟨b1, o1 + i, .none⟩ = some (.int .u8 x)) := by
  intro i x hx
  rcases h2 with h2 | ⟨b1, o1, h2, hb, h3⟩
  ·rw [List.getElem?_eq_none (by omega)] at hx
   cases hx
  ·exact ⟨b1, o1, h2, hb, h3 i x hx⟩
 clear h1 h2 hl1 hl2
 obtain ⟨w1, hmk, own1, gr1⟩ := run_make_own (P := Tryz.prog) w w.heap.size 22 5 i3 z3 1 Tryz.underlying22 HI.out.1 HI.out.2.1 HI.out.2.2.1 .i64 .i64 (n1 + n2) (by rw [HI.out.2.2.2.1]; omega) (by simp only [maxLen]; omega) (Nat.le_refl _)
 have hmk : (Instr.makeSlice 22 (.int .i64 0) (.int .i64 ((n1 : Int) + n2))).run Tryz.prog w = .ok (.slice (some ⟨w.heap.size, 0, .none⟩) 0 (n1 + n2)) w1 := by
  have e : ((n1 + n2 : Nat) : Int) = (n1 : Int) + n2 := by omega
  rw [e] at hmk
  exact hmk
 have b1 : Below w.heap.size w w1 := (Below.refl _ _).grown gr1 (Nat.le_refl _) (fun k hk => by cases hk)
 have HO1 : Hid (w1.ownsRow w.heap.size 5 1 (.slice (some ⟨w.heap.size, 0, .none⟩) 0 (n1 + n2)) 0 [] ∧ Below w.heap.size w w1) := ⟨own1, b1⟩
 clear own1 gr1 b1
 go_enter Tryz.func74, Tryz.ntmps74
 go_upto_region 2 with fail
 clear hmk
 go_wp2_with fail
 go_loopw [5, 6] (fun v k wr => ∃ i : Nat, i ≤ n1 ∧ k = .int .i64 i ∧ ∃ q cq, v = .slice q i cq ∧ Hid (wr.ownsRow w.heap.size 5 1 (.slice q i cq) i (by8 (xs.take i)) ∧ Below w.heap.size w wr)) (fun _ k _ => (n1 - intOf k).toNat)
 case atStart => exact ⟨0, by omega, rfl, _, _, rfl, HO1.out.1, HO1.out.2⟩
 case round =>
  obtain ⟨i, hi, rfl, q, cq, rfl, HO⟩ := hrel
  by_cases hlt : i < n1
  ·have g0 : (i : Int) < n1 := by omega
   have hx : ∃ x, xs[i]? = some x := ⟨xs[i]'(by rw [HX.out]; exact hlt), by simp⟩
   obtain ⟨x, hx⟩ := hx
   obtain ⟨b1, o1, rfl, hb, hc⟩ := H1.out i x hx
   have a0 : wr.cell? ⟨b1, o1 + i, .none⟩ = some (.int .u8 x) := (HO.out.2.cell hb).trans hc
   have HT : Hid (xs.take i ++ [x] = xs.take (i + 1)) := take_next hx
   have z1 := HO.out.2.size
   clear hx hc
   go_wp2_with (first | (at_builtin; refine wpList_append_own _ rfl _ _ 22 rfl w.heap.size 5 i3 z3 1 1 Tryz.underlying22 HI.out.1 HI.out.2.1 HI.out.2.2.1 HI.out.2.2.2.1 HI.out.2.2.2.2 (by decide) (.slice q i cq) i (by8 (xs.take i)) rfl (HO.out.1.alloc _) ⟨wr.heap.size, 0, .none⟩ 1 1 (by8 [x]) rfl rfl (le_cell1_new _ _ _) (by8_one _) ?c4 ?c5 ?c6 ?_) | fail)
   case c4 => simp only [maxLen]; omega
   case c5 => omega
   case c6 => simp only [World.size_alloc]; omega
   intro v' w2 own' grow fb
   clear fb
   obtain ⟨p', c', rfl⟩ := one_slice own'
   have HW : Hid (w2.ownsRow w.heap.size 5 1 (.slice p' (i + 1) c') (i + 1) (by8 (xs.take (i + 1))) ∧ Below w.heap.size w w2) := by
    refine ⟨?_, below_append HO.out.2 _ grow z1 (own_block HO.out.1)⟩
    rw [← HT.out, by8_app]
    exact own'
   clear own' grow
   go_wp2_with fail
   exact ⟨⟨i + 1, by omega, by simp, p', c', rfl, HW.out⟩, by simp only [intOf]; omega⟩
  ·obtain rfl : i = n1 := by omega
   have hn9 : ¬ ((i : Int) < i) := by omega
   have HO3 : Hid (wr.ownsRow w.heap.size 5 1 (.slice q i cq) i (by8 xs) ∧ Below w.heap.size w wr) := by
    have h := HO.out
    rw [← HX.out, List.take_length, HX.out] at h
    exact h
   clear HO HO1 hi hlt
   go_upto_region 7 with fail
   go_loopw [5, 7] (fun v k W => ∃ j : Nat, j ≤ n2 ∧ k = .int .i64 j ∧ ∃ q cq, v = .slice q (i + j) cq ∧ Hid (W.ownsRow w.heap.size 5 1 (.slice q (i + j) cq) (i + j) (by8 (xs ++ ys.take j)) ∧ Below w.heap.size w W)) (fun _ k _ => (n2 - intOf k).toNat)
   case atStart =>
    refine ⟨0, by omega, rfl, q, cq, rfl, ?_⟩
    have h := HO3.out
    rw [List.take_zero, List.append_nil, Nat.add_zero]
    exact h
   case round =>
    obtain ⟨j, hj, rfl, q, cq, rfl, HO⟩ := hrel
    by_cases hlj : j < n2
    ·have g1 : (j : Int) < n2 := by omega
     have hx : ∃ x, ys[j]? = some x := ⟨ys[j]'(by rw [HY.out]; exact hlj), by simp⟩
     obtain ⟨x, hx⟩ := hx
     obtain ⟨b1, o1, rfl, hb, hc⟩ := H2.out j x hx
     have a0 : wr.cell? ⟨b1, o1 + j, .none⟩ = some (.int .u8 x) := (HO.out.2.cell hb).trans hc
     have HT : Hid (ys.take j ++ [x] = ys.take (j + 1)) := take_next hx
     have z1 := HO.out.2.size
     clear hx hc
     go_wp2_with (first | (at_builtin; refine wpList_append_own _ rfl _ _ 22 rfl w.heap.size 5 i3 z3 1 1 Tryz.underlying22 HI.out.1 HI.out.2.1 HI.out.2.2.1 HI.out.2.2.2.1 HI.out.2.2.2.2 (by decide) (.slice q (i + j) cq) (i + j) (by8 (xs ++ ys.take j)) rfl (HO.out.1.alloc _) ⟨wr.heap.size, 0, .none⟩ 1 1 (by8 [x]) rfl rfl (le_cell1_new _ _ _) (by8_one _) ?c4 ?c5 ?c6 ?_) | fail)
     case c4 => simp only [maxLen]; omega
     case c5 => omega
     case c6 => simp only [World.size_alloc]; omega
     intro v' w2 own' grow fb
     clear fb
     obtain ⟨p', c', rfl⟩ := one_slice own'
     have HW : Hid (w2.ownsRow w.heap.size 5 1 (.slice p' (i + (j + 1)) c') (i + (j + 1)) (by8 (xs ++ ys.take (j + 1))) ∧ Below w.heap.size w w2) := by
      refine ⟨?_, below_append HO.out.2 _ grow z1 (own_block HO.out.1)⟩
      rw [← HT.out, ← List.append_assoc, by8_app, ← Nat.add_assoc]
      exact own'
     clear own' grow
     go_wp2_with fail
     exact ⟨⟨j + 1, by omega, by simp, p', c', by simp [Nat.add_assoc], HW.out⟩, by simp only [intOf]; omega⟩
    ·obtain rfl : j = n2 := by omega
     have hn8 : ¬ ((j : Int) < j) := by omega
     go_wp2_with fail
     go_ret
     have hlen : (xs ++ ys).length = i + j := by rw [List.length_append, HX.out, HY.out]
     refine ⟨q, cq, by rw [hlen]; rfl, ?_, HO.out.2⟩
     have h := HO.out.1
     rw [← HY.out, List.take_length, HY.out] at h
     rw [hlen]
     exact h
end Go.Proofs.YtacdgfojdkppmaaGreatDoor
