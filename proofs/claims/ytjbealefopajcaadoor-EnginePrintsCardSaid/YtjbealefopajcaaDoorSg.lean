import Derived.Test.YtjbealefopajcaaDoorSa
import Derived.Test.YtjbealefopajcaaDoorRs
namespace Go.Proofs.YtjbealefopajcaaDoor
open Go Go.RowKit Rg
set_option linter.unusedVariables false
set_option linter.unusedSimpArgs false
/-! Digits and quotes, written behind a row of the call's own. -/
def dgt (h : Int) : Int := if h < 10 then 48 + h else 87 + h
theorem dig_nat : ∀ k : Nat, k < 16 → ∀ p, ((((({ data := #[48, 49, 50, 51, 52, 53, 54, 55, 56, 57, 97, 98, 99, 100, 101, 102] } : ByteArray)[k]'p).toNat : Nat)) : Int) = dgt (k : Int)
  | 0, _, _ => rfl
  | 1, _, _ => rfl
  | 2, _, _ => rfl
  | 3, _, _ => rfl
  | 4, _, _ => rfl
  | 5, _, _ => rfl
  | 6, _, _ => rfl
  | 7, _, _ => rfl
  | 8, _, _ => rfl
  | 9, _, _ => rfl
  | 10, _, _ => rfl
  | 11, _, _ => rfl
  | 12, _, _ => rfl
  | 13, _, _ => rfl
  | 14, _, _ => rfl
  | 15, _, _ => rfl
  | k + 16, h, _ => absurd h (by omega)
theorem dig_ok (h : Int) (h0 : 0 ≤ h) (h1 : h < 16) (p) : ((((({ data := #[48, 49, 50, 51, 52, 53, 54, 55, 56, 57, 97, 98, 99, 100, 101, 102] } : ByteArray)[h.toNat]'p).toNat : Nat)) : Int) = dgt h := by
  rw [dig_nat h.toNat (by omega) p]
  congr 1
  omega
theorem and15 : ∀ x : Fin 256, bits .and .u8 ((x : Nat) : Int) 15 = ((x : Nat) : Int) % 16 := by decide +kernel
theorem and15_any (x : Int) (h : 0 ≤ x ∧ x < 256) : bits .and .u8 x 15 = x % 16 := by
  have := and15 ⟨x.toNat, by omega⟩
  rwa [show (((⟨x.toNat, by omega⟩ : Fin 256) : Nat) : Int) = x by simp; omega] at this
def hexD (x : Int) : List Int := [dgt (x / 16), dgt (x % 16)]
/-- A row of bytes of the call's own, and what stands below base. -/
def OwB (base : Nat) (w0 : World) (ys : List Int) (e : Ending) (w' : World) : Prop := ∃ p c, e = .returned (.slice p ys.length c) ∧ w'.ownsRow base 5 1 (.slice p ys.length c) ys.length (by8 ys) ∧ Below base w0 w'
theorem cell2_new (w : World) (x y : Int) (t : TypeId) : ∀ j u, (by8 [x, y])[j]? = some u → (w.alloc (.cells #[.int .u8 x, .int .u8 y] t)).cell? ((⟨w.heap.size, 0, .none⟩ : Addr).add j) = some u := by
  intro j u hu
  match j, hu with
  | 0, hu => injection hu with hu; subst hu; simp [Addr.add]
  | 1, hu => injection hu with hu; subst hu; simp [Addr.add]
set_option maxHeartbeats 1000000 in
theorem digits_any {base n c : Nat} {p : Option Addr} {ys : List Int} {w : World} (hb : base ≤ w.heap.size) (ho : w.ownsRow base 5 1 (.slice p n c) n (by8 ys)) (hn : ys.length = n) (hm : n ≤ 1000000000000) (x : Int) (hx : 0 ≤ x ∧ x < 256) :
    Calls Tryd.prog 48 #[.slice p n c, .int .u8 x] w (OwB base w (ys ++ hexD x)) := by
  obtain ⟨i3, z3, hi3, hz3, hs3, hb3, hzs3⟩ := byte_info
  have HI : Hid (Tryd.prog.info? 5 = some i3 ∧ i3.zero = some z3 ∧ i3.size = 1 ∧ i3.bytes = 1 ∧ z3.cells.size = 1) := ⟨hi3, hz3, hs3, hb3, hzs3⟩
  clear hi3 hz3 hs3 hb3 hzs3
  have HO : Hid (w.ownsRow base 5 1 (.slice p n c) n (by8 ys) ∧ base ≤ w.heap.size ∧ ys.length = n) := ⟨ho, hb, hn⟩
  clear ho hb hn
  have hT : True := trivial
  go_enter Tryd.func48, Tryd.ntmps48
  go_upto_region 1 with fail
  refine region_set (fun _ => True) 7 [0] (by kernel_rfl) ?_
  refine sP 0 (.slice p n c) rfl ?_ (fun ww => by go_simp)
  simp only [x0,x1,x2,x3,x4,x5,x6]
  refine sT 1 (.int .u8 x) rfl ?_ (fun ww hSw => by (try dsimp only at hSw); go_simp)
  simp only [x0,x1,x2,x3,x4,x5,x6]
  refine sT 2 (.int .u8 (x / 16)) rfl ?_ (fun ww hSw => by (try dsimp only at hSw); go_simp)
  simp only [x0,x1,x2,x3,x4,x5,x6]
  refine sT 3 (.int .u8 (dgt (x / 16))) rfl ?_ (fun ww hSw => by (try dsimp only at hSw); go_simp; rw [dif_pos ⟨by omega, by omega⟩, dig_ok _ (by omega) (by omega)]; rfl)
  simp only [x0,x1,x2,x3,x4,x5,x6]
  refine sT 4 (.int .u8 x) rfl ?_ (fun ww hSw => by (try dsimp only at hSw); go_simp)
  simp only [x0,x1,x2,x3,x4,x5,x6]
  refine sT 5 (.int .u8 (x % 16)) rfl ?_ (fun ww hSw => by (try dsimp only at hSw); go_simp; exact and15_any x hx)
  simp only [x0,x1,x2,x3,x4,x5,x6]
  refine sT 6 (.int .u8 (dgt (x % 16))) rfl ?_ (fun ww hSw => by (try dsimp only at hSw); go_simp; rw [dif_pos ⟨by omega, by omega⟩, dig_ok _ (by omega) (by omega)]; rfl)
  simp only [x0,x1,x2,x3,x4,x5,x6]
  refine set_tail 3 7 _ _ _ _ (by kernel_rfl) (by decide) ?_
  simp only [List.toList_toArray, List.drop_succ_cons, List.drop_zero]
  have hmx : maxLen = 9223372036854775807 := rfl
  go_wp2_with (first | (at_builtin; refine wpList_append_own _ rfl _ _ 41 rfl base 5 i3 z3 1 1 Tryd.underlying41 HI.out.1 HI.out.2.1 HI.out.2.2.1 HI.out.2.2.2.1 HI.out.2.2.2.2 (by decide) (.slice p n c) n (by8 ys) rfl ((HO.out.1.drew).alloc _) ⟨w.heap.size, 0, .none⟩ 2 2 (by8 [dgt (x / 16), dgt (x % 16)]) rfl rfl (cell2_new _ _ _ _) (by8_one _) ?c4 ?c5 ?c6 ?_) | go_in)
  case c4 => simp only [maxLen]; omega
  case c5 => omega
  case c6 => exact Nat.le_trans HO.out.2.1 (by simp)
  intro v' w2 own' grow fb
  clear fb
  have HG : Hid (w2.ownsRow base 5 1 v' (n + 2) (by8 ys ++ by8 [dgt (x / 16), dgt (x % 16)]) ∧ Below base w w2) := ⟨own', below_append (Below.refl _ _).drew _ grow HO.out.2.1 (fun k hk => own_block HO.out.1 k hk)⟩
  obtain ⟨p', c', rfl⟩ := one_slice own'
  clear own' grow
  go_wp2
  go_ret
  have e : (ys ++ hexD x).length = n + 2 := by rw [List.length_append, HO.out.2.2]; rfl
  refine ⟨p', c', by rw [e]; rfl, ?_, HG.out.2⟩
  have h1 := HG.out.1
  rw [← by8_app] at h1
  rw [e]
  exact h1
end Go.Proofs.YtjbealefopajcaaDoor
