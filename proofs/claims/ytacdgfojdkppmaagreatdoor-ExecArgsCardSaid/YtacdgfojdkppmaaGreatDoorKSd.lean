import Derived.Test.YtacdgfojdkppmaaGreatDoorKM
import Derived.Test.YtacdgfojdkppmaaGreatDoorXe
import Derived.Lib.BytesEntry
namespace Go.Proofs.YtacdgfojdkppmaaGreatDoor.Rm
open Go Go.RowKit
attribute [local go_sem] Oper.semAt_some
set_option linter.unusedVariables false
set_option linter.unusedSimpArgs false
set_option maxRecDepth 10000
/-! bytes.Cut of a row at its first 0, and Str of one page. -/
theorem indexByte_at : ∀ (l : List UInt8) (k : Nat), l[k]? = some 0 → (∀ j, j < k → l[j]? ≠ some 0) → Lib.indexByte l 0 = k
 | [], k, h, _ => by cases h
 | b :: l, 0, h, _ => by
  simp only [List.getElem?_cons_zero, Option.some.injEq] at h
  subst h
  simp [Lib.indexByte]
 | b :: l, k + 1, h, hn => by
  have h0 : b ≠ 0 := fun e => hn 0 (by omega) (by rw [e]; rfl)
  have ih := indexByte_at l k (by simpa using h) (fun j hj => by have := hn (j + 1) (by omega); simpa using this)
  have hb : (b == 0) = false := by simpa using h0
  unfold Lib.indexByte
  rw [hb, ih]
  have : (((k : Nat) : Int) == -1) = false := by simp
  rw [this]
  simp
theorem z8 {x : Int} (h : 0 ≤ x ∧ x < 256) (e : x.toNat % 256 = 0) : x = 0 := by omega
set_option maxHeartbeats 1000000 in
/-- The place of the first 0 in a row. -/
theorem ixb_any {w : World} {g n cc k : Nat} (R : Nat → Int) (hR : ∀ i, 0 ≤ R i ∧ R i < 256) (hc : ∀ i, i < n → w.cell? ⟨g, i, .none⟩ = some (.int .u8 (R i))) (hk : k < n) (h0 : R k = 0) (hne : ∀ j, j < k → R j ≠ 0) : Calls Tryz.prog 125 #[.slice (some ⟨g, 0, .none⟩) n cc, .int .u8 0] w fun e w' => e = .returned (.int .i64 k) ∧ w' = w := by
 obtain ⟨xs, hxs⟩ : ∃ xs, xs = (List.range n).map R := ⟨_, rfl⟩
 have hl : xs.length = n := by rw [hxs]; simp
 have hx : ∀ i, i < n → xs[i]? = some (R i) := fun i hi => by rw [hxs, List.getElem?_map, List.getElem?_range hi]; rfl
 have hr := Lib.run_indexByteSlice (P := Tryz.prog) (w := w) g 0 n cc xs hl (fun i hi => by rw [Nat.zero_add, hc i hi, List.getD_eq_getElem?_getD, hx i hi]; rfl) 0
 have hb : ∀ i, i < n → (Lib.bytesOf xs)[i]? = some (R i).toNat.toUInt8 := fun i hi => by
  unfold Lib.bytesOf
  rw [List.getElem?_map, hx i hi]
  rfl
 have hi : Lib.indexByte (Lib.bytesOf xs) 0 = k := indexByte_at _ k (by rw [hb k hk, h0]; rfl) (fun j hj => by
  rw [hb j (by omega)]
  intro e
  injection e with e
  have h3 : (R j).toNat % 256 = 0 := congrArg UInt8.toNat e
  exact hne j hj (z8 (hR j) h3))
 rw [show ((0 : Int).toNat.toUInt8) = 0 from rfl, hi] at hr
 have HR : Hid ((Extern.BytealgIndexByte.indexByte #[.slice (some ⟨g, 0, .none⟩) n cc, .int .u8 0]).run Tryz.prog w = .ok (.int .i64 k) w) := hr
 clear hb hi hx hl hc hR h0 hne hr hk hxs xs
 go_enter Tryz.func125, Tryz.ntmps125
 go_wp2
 rw [run_callFunc_extern Tryz.func160 (by kernel_rfl) (by kernel_rfl) (by kernel_rfl) (e := Extern.BytealgIndexByte.indexByte) (by kernel_rfl), HR.out]
 simp only [Result.andThen]
 rw [Oper.upon_value]
 go_wp2
 go_ret
 exact ⟨rfl, rfl⟩
end Go.Proofs.YtacdgfojdkppmaaGreatDoor.Rm
namespace Go.Proofs.YtacdgfojdkppmaaGreatDoor.Rm
open Go Go.RowKit
attribute [local go_sem] Oper.semAt_some
set_option linter.unusedVariables false
set_option linter.unusedSimpArgs false
set_option maxRecDepth 10000
/-- A row whose first 0 stands at k. -/
structure Zat (w : World) (g n cc k : Nat) (R : Nat → Int) : Prop where
 b : ∀ i, 0 ≤ R i ∧ R i < 256
 c : ∀ i, i < n → w.cell? ⟨g, i, .none⟩ = some (.int .u8 (R i))
 h : k < n
 z : R k = 0
 o : ∀ j, j < k → R j ≠ 0
 l : n ≤ cc ∧ cc ≤ 9223372036854775807
theorem Zat.lt {w : World} {g n cc k : Nat} {R : Nat → Int} (h : Zat w g n cc k R) : g < w.heap.size := lt_of_cell (h.c k h.h)
theorem Zat.below {w w' : World} {g n cc k : Nat} {R : Nat → Int} (h : Zat w g n cc k R) (b : Below w.heap.size w w') : Zat w' g n cc k R :=
 ⟨h.b, fun i hi => (b.cell (p := ⟨g, i, .none⟩) h.lt).trans (h.c i hi), h.h, h.z, h.o, h.l⟩
set_option maxHeartbeats 1000000 in
theorem bidx_any {w : World} {g n cc k q : Nat} {R : Nat → Int} (h : Zat w g n cc k R) (hq : w.cell? ⟨q, 0, .none⟩ = some (.int .u8 0)) : Calls Tryz.prog 82 #[.slice (some ⟨g, 0, .none⟩) n cc, .slice (some ⟨q, 0, .none⟩) 1 1] w fun e w' => e = .returned (.int .i64 k) ∧ w' = w := by
 have c := ixb_any (cc := cc) R h.b h.c h.h h.z h.o
 have hc : n ≤ cc ∧ cc ≤ 9223372036854775807 := h.l
 clear h
 generalize (k : Int) = kk at *
 go_enter Tryz.func82, Tryz.ntmps82
 go_wp2_with (go_at_call 125; refine c.mono ?_; rintro _ _ ⟨rfl, rfl⟩)
 go_ret
 exact ⟨rfl, rfl⟩
theorem cutFrom2' (g k n T c : Nat) (h : n ≤ T ∧ T ≤ c) : ∃ q, (n < c → q = some ⟨g, k + n, .none⟩) ∧ ∀ W : World, (Instr.slice 22 (.slice (some ⟨g, k, .none⟩) T c) (some (.int .i64 n)) none none).run Tryz.prog W = .ok (.slice q (T - n : Nat) (c - n : Nat)) W := by
 have hadd : (⟨g, k, .none⟩ : Addr).add n = ⟨g, k + n, .none⟩ := by unfold Addr.add; split <;> simp_all
 refine ⟨if c = n then some ⟨g, k, .none⟩ else some ⟨g, k + n, .none⟩, fun h2 => by rw [if_neg (by omega)], fun W => ?_⟩
 rw [run_slice_l W 22 (some ⟨g, k, .none⟩) T c (by kernel_rfl) .i64 n (by omega) (by omega), elemU8]
 by_cases e : c = n
 ·simp [Result.andThen, sliced, e]
 ·simp [Result.andThen, sliced, e, hadd]
def CtP (w : World) (g cc k : Nat) (e : Ending) (w' : World) : Prop := (∃ v, e = .returned (.tuple #[.slice (some ⟨g, 0, .none⟩) k cc, v, .bool true])) ∧ Below w.heap.size w w'
set_option maxHeartbeats 1000000 in
theorem cut_any {w : World} {g n cc k q : Nat} {R : Nat → Int} (h : Zat w g n cc k R) (hq : w.cell? ⟨q, 0, .none⟩ = some (.int .u8 0)) : Calls Tryz.prog 41 #[.slice (some ⟨g, 0, .none⟩) n cc, .slice (some ⟨q, 0, .none⟩) 1 1] w (CtP w g cc k) := by
 have c := bidx_any h hq
 have hc : n ≤ cc ∧ cc ≤ 9223372036854775807 := h.l
 have hk := h.h
 have s1 := cutTo2 g 0 k n cc ⟨by omega, by omega⟩
 obtain ⟨v, hv⟩ : ∃ v, ∀ W, (Instr.slice 22 (.slice (some ⟨g, 0, .none⟩) n cc) (some (.int .i64 ((k : Int) + 1))) none none).run Tryz.prog W = .ok v W := by
  obtain ⟨q', -, hh⟩ := cutFrom2' g 0 (k + 1) n cc ⟨by omega, by omega⟩
  exact ⟨_, fun W => by have := hh W; rw [show ((k + 1 : Nat) : Int) = (k : Int) + 1 by omega] at this; exact this⟩
 have HF : Hid (∀ W, Below w.heap.size w W → CtP w g cc k (.returned (.tuple #[.slice (some ⟨g, 0, .none⟩) k cc, v, .bool true])) W) := fun W b => ⟨⟨v, rfl⟩, b⟩
 clear h
 have hk0 : (0 : Int) ≤ k := by omega
 have hk1 : (k : Int) < 9223372036854775807 := by omega
 generalize (k : Int) = kk at *
 go_enter Tryz.func41, Tryz.ntmps41
 go_wp2_with (go_at_call 82; refine c.mono ?_; rintro _ _ ⟨rfl, rfl⟩)
 go_region
 go_wp2
 refine bodyPost_ret (v := .tuple #[.slice (some ⟨g, 0, .none⟩) k cc, v, .bool true]) (by simp [results, Tryz.results41, go_sem]) rfl (HF.out _ ?_)
 exact (Below.refl _ _).drew
end Go.Proofs.YtacdgfojdkppmaaGreatDoor.Rm
namespace Go.Proofs.YtacdgfojdkppmaaGreatDoor.Rm
open Go Go.RowKit
attribute [local go_sem] Oper.semAt_some
set_option linter.unusedVariables false
set_option linter.unusedSimpArgs false
set_option maxRecDepth 10000
/-- What Str's own function comes to where the text ends in its piece. -/
def StQ (W : World) (X d1 d2 d3 k : Nat) (R : Nat → Int) (e : Ending) (w' : World) : Prop := e = .returned (.bool false) ∧ Below X W w' ∧ (∃ v', w'.ownsRow W.heap.size 5 1 v' k (by8 ((List.range k).map R)) ∧ w'.cell? ⟨d2, 0, .none⟩ = some v') ∧ w'.cell? ⟨d3, 0, .none⟩ = some (.bool true) ∧ w'.cell? ⟨d1, 0, .none⟩ = W.cell? ⟨d1, 0, .none⟩
set_option maxHeartbeats 2000000 in
theorem str1_any {W : World} {s p b m N : Nat} {B : Nat → Int} {L : List Nat} {root size : Int} (hS : Sp W s p root size) (hR : Ram W p b m N B L) (q o n k : Nat) (hq : q < N ∧ q ∉ L) (hk : k < n) (ho : o + n ≤ 4096) (h0 : B (q * 4096 + o + k) = 0) (hne : ∀ j, j < k → B (q * 4096 + o + j) ≠ 0) (X d1 d2 d3 : Nat) (hX : X ≤ d2 ∧ X ≤ d3 ∧ d2 ≠ d3 ∧ X ≤ W.heap.size) (hd1 : d1 ≠ d2 ∧ d1 ≠ d3)
  (h1 : W.cell? ⟨d1, 0, .none⟩ = some (.pointer (some ⟨s, 0, .none⟩))) (h2 : W.cell? ⟨d2, 0, .none⟩ = some (.slice none 0 0)) (f2 : W.frozen? ⟨d2, 0, .none⟩ = false) (h3 : W.cell? ⟨d3, 0, .none⟩ = some (.bool false)) (f3 : W.frozen? ⟨d3, 0, .none⟩ = false) :
  Calls Tryz.prog 40 #[.int .u64 (ad q + o), .int .i64 n, .pointer (some ⟨d1, 0, .none⟩), .pointer (some ⟨d2, 0, .none⟩), .pointer (some ⟨d3, 0, .none⟩)] W (StQ W X d1 d2 d3 k (fun j => B (q * 4096 + o + j))) := by
 have k0 := hS.c0
 have hN := hR.mem.n2
 have c39 : Calls Tryz.prog 39 #[.pointer (some ⟨p, 0, .none⟩), .int .u64 (ad q + o), .int .i64 n] W fun e w' => ReadP W n (fun i => B (q * 4096 + o + i)) e w' := by
  have := read_ok hR.mem (q * 4096 + o) n (by omega) (by omega) (fun f e1 e2 => by
   obtain rfl : f = q := by omega
   rw [hdL_in hq.1]
   simpa using hq.2)
  have e : ad q + o = 2147483648 + ((q * 4096 + o : Nat) : Int) := by unfold ad; omega
  rw [e]
  exact this
 obtain ⟨R, hRR⟩ : ∃ R : Nat → Int, R = fun j => B (q * 4096 + o + j) := ⟨_, rfl⟩
 have hb : ∀ i, 0 ≤ R i ∧ R i < 256 := fun i => by rw [hRR]; exact hR.mem.bb _
 have r0 : R k = 0 := by rw [hRR]; exact h0
 have rn : ∀ j, j < k → R j ≠ 0 := fun j hj => by rw [hRR]; exact hne j hj
 have ha0 : 0 ≤ ad q + o ∧ ad q + o < 18446744073709551616 := by unfold ad; omega
 rw [← hRR] at c39 ⊢
 have HB : Hid ((∀ i, 0 ≤ R i ∧ R i < 256) ∧ R k = 0 ∧ ∀ j, j < k → R j ≠ 0) := ⟨hb, r0, rn⟩
 obtain ⟨i3, z3, hi3, hz3, hs3, hb3, hzs3⟩ := byte_info
 have HI : Hid (Tryz.prog.info? 5 = some i3 ∧ i3.zero = some z3 ∧ i3.size = 1 ∧ i3.bytes = 1 ∧ z3.cells.size = 1) := ⟨hi3, hz3, hs3, hb3, hzs3⟩
 have HX : Hid (X ≤ d2 ∧ X ≤ d3 ∧ d2 ≠ d3 ∧ X ≤ W.heap.size) := hX
 have HD1 : Hid (d1 < W.heap.size ∧ d1 ≠ d2 ∧ d1 ≠ d3) := ⟨lt_of_cell h1, hd1⟩
 clear hd1
 have l2 := lt_of_cell h2
 have l3 := lt_of_cell h3
 have H23 : Hid (W.cell? ⟨d2, 0, .none⟩ = some (.slice none 0 0) ∧ W.frozen? ⟨d2, 0, .none⟩ = false ∧ W.cell? ⟨d3, 0, .none⟩ = some (.bool false) ∧ W.frozen? ⟨d3, 0, .none⟩ = false ∧ d2 < W.heap.size ∧ d3 < W.heap.size) := ⟨h2, f2, h3, f3, l2, l3⟩
 clear hS hR h0 hne hb r0 rn hRR hi3 hz3 hs3 hb3 hzs3 hX h2 f2 h3 f3 l2 l3
 generalize ad q + o = pa at *
 go_enter Tryz.func40, Tryz.ntmps40
 go_upto_region 2 with (go_at_call 39; refine c39.mono ?_; rintro _ W2 ⟨g, g1, g2, rfl, g3, g4, b2⟩; have H2 : Hid (Zat W2 g n n k R ∧ Below W.heap.size W W2 ∧ W.heap.size ≤ g) := ⟨⟨HB.out.1, fun i hi => g3 i hi, hk, HB.out.2.1, HB.out.2.2, by omega⟩, b2, g1⟩; clear g1 g2 g3 g4 b2 c39)
 go_upto_region 3 with (go_at_call 41; refine (cut_any (k := k) (R := R) (n := n) (H2.out.1.below ((Below.refl _ _).alloc (Nat.le_refl _) _)) (by simp)).mono ?_; rintro _ W4 ⟨⟨v4, rfl⟩, b4⟩; have H4 : Hid (Zat W4 g n n k R ∧ Below W.heap.size W W4 ∧ W.heap.size ≤ g) := ⟨H2.out.1.below (((Below.refl _ _).alloc (Nat.le_refl _) _).trans (b4.mono (by simp))), H2.out.2.1.trans ((((Below.refl _ _).alloc (Nat.le_refl _) _).trans (b4.mono (by simp))).mono H2.out.2.1.size), H2.out.2.2⟩; clear b4)
 clear H2
 have HN9 : Hid (∀ j u, (by8 ((List.range k).map R))[j]? = some u → W4.cell? ((⟨g, 0, .none⟩ : Addr).add j) = some u) := fun j u hj => by
  rw [le_addr_add]
  have hjk : j < k := by
   rcases Nat.lt_or_ge j k with h | h
   ·exact h
   ·rw [List.getElem?_eq_none (by rw [by8_len, List.length_map, List.length_range]; exact h)] at hj
    cases hj
  have := by8_get (xs := (List.range k).map R) (i := j) (x := R j) (by rw [List.getElem?_map, List.getElem?_range hjk]; rfl)
  rw [this] at hj
  injection hj with hj
  rw [← hj, Nat.zero_add]
  exact H4.out.1.c j (by omega)
 have z4 := H4.out.2.1.size
 have y2 : W4.cell? ⟨d2, 0, .none⟩ = some (.slice none 0 0) := (H4.out.2.1.cell (p := ⟨d2, 0, .none⟩) H23.out.2.2.2.2.1).trans H23.out.1
 have g2 : W4.frozen? ⟨d2, 0, .none⟩ = false := (H4.out.2.1.frozen (p := ⟨d2, 0, .none⟩) H23.out.2.2.2.2.1).trans H23.out.2.1
 have hkn : k ≤ 4096 := by omega
 go_upto_region 4 with (first | (at_builtin; refine wpList_append_own _ rfl _ _ 22 rfl W.heap.size 5 i3 z3 1 1 Tryz.underlying22 HI.out.1 HI.out.2.1 HI.out.2.2.1 HI.out.2.2.2.1 HI.out.2.2.2.2 (by decide) (.slice none 0 0) 0 [] rfl (World.ownsRow_nil _ _ _ _) ⟨g, 0, .none⟩ k n (by8 ((List.range k).map R)) rfl (by rw [by8_len, List.length_map, List.length_range, Nat.mul_one]) HN9.out (by8_one _) ?c4 ?c5 ?c6 ?_) | go_in)
 case c4 => simp only [maxLen]; omega
 case c5 => omega
 case c6 => exact z4
 intro v5 W5 own5 grow5 fb5
 clear fb5
 have b5 : Below W4.heap.size W4 W5 := ⟨grow5.os, grow5.tape, grow5.output, grow5.size, fun i hi => grow5.block i hi (by simp [Value.ownBlock])⟩
 have HW : Hid (W5.ownsRow W.heap.size 5 1 v5 k (by8 ((List.range k).map R)) ∧ Below W.heap.size W W5) := by
  exact ⟨own5, H4.out.2.1.trans (b5.mono z4)⟩
 obtain ⟨p5, c5, e5⟩ := one_slice HW.out.1
 have x2 : W5.cell? ⟨d2, 0, .none⟩ = some (.slice none 0 0) := (b5.cell (p := ⟨d2, 0, .none⟩) (by have := H23.out.2.2.2.2.1; show d2 < _; omega)).trans y2
 have e2 : W5.frozen? ⟨d2, 0, .none⟩ = false := (b5.frozen (p := ⟨d2, 0, .none⟩) (by have := H23.out.2.2.2.2.1; show d2 < _; omega)).trans g2
 have x3 : W5.cell? ⟨d3, 0, .none⟩ = some (.bool false) := (HW.out.2.cell (p := ⟨d3, 0, .none⟩) H23.out.2.2.2.2.2).trans H23.out.2.2.1
 have e3 : W5.frozen? ⟨d3, 0, .none⟩ = false := (HW.out.2.frozen (p := ⟨d3, 0, .none⟩) H23.out.2.2.2.2.2).trans H23.out.2.2.2.1
 have HF : Hid (StQ W X d1 d2 d3 k R (.returned (.bool false)) ((W5.setCell ⟨d2, 0, .none⟩ v5).setCell ⟨d3, 0, .none⟩ (.bool true))) := by
  refine ⟨rfl, (((HW.out.2.mono HX.out.2.2.2).setCell (p := ⟨d2, 0, .none⟩) HX.out.1 _).setCell (p := ⟨d3, 0, .none⟩) HX.out.2.1 _), ⟨v5, ?_, ?_⟩, ?_⟩
  ·exact ownsRow_setCell_below (ownsRow_setCell_below HW.out.1 (a := ⟨d2, 0, .none⟩) H23.out.2.2.2.2.1 _) (a := ⟨d3, 0, .none⟩) H23.out.2.2.2.2.2 _
  ·rw [World.cell?_setCell_far _ _ _ _ (by have := HX.out.2.2.1; simp only; omega)]
   exact World.cell?_setCell_same' _ _ _ (by rw [x2]; rfl)
  ·refine ⟨World.cell?_setCell_same' _ _ _ (by rw [World.cell?_setCell_far _ _ _ _ (by have := HX.out.2.2.1; simp only; omega), x3]; rfl), ?_⟩
   rw [World.cell?_setCell_far _ _ _ _ (by have := HD1.out.2.2; simp only; omega), World.cell?_setCell_far _ _ _ _ (by have := HD1.out.2.1; simp only; omega)]
   exact HW.out.2.cell (p := ⟨d1, 0, .none⟩) HD1.out.1
 clear b5 own5 grow5 y2 g2
 subst e5
 have hd23 : d2 ≠ d3 := HX.out.2.2.1
 go_wp2
 go_ret
 exact HF.out
end Go.Proofs.YtacdgfojdkppmaaGreatDoor.Rm
namespace Go.Proofs.YtacdgfojdkppmaaGreatDoor.Rm
open Go Go.RowKit
attribute [local go_sem] Oper.semAt_some
set_option linter.unusedVariables false
set_option linter.unusedSimpArgs false
set_option maxRecDepth 10000
set_option maxHeartbeats 2000000 in
/-- each, whose first piece ends it. -/
theorem each_str {w : World} {s : Nat} {u1 u2 d1 d2 d3 : Nat} (va : Int) (n : Nat) (hv : 0 ≤ va ∧ va + n ≤ 274877906944) (hn : 1 ≤ n) (pa : Int) (Q : World → Prop)
  (ca : Calls Tryz.prog 78 #[.int .u64 va, .pointer (some ⟨u1, 0, .none⟩), .pointer (some ⟨u2, 0, .none⟩)] w fun e W' => e = .returned (.tuple #[.int .u64 pa, .bool true]) ∧ Below w.heap.size w W')
  (cd : ∀ W, Below w.heap.size w W → Calls Tryz.prog 40 #[.int .u64 pa, .int .i64 (pce va n 0), .pointer (some ⟨d1, 0, .none⟩), .pointer (some ⟨d2, 0, .none⟩), .pointer (some ⟨d3, 0, .none⟩)] W fun e W' => e = .returned (.bool false) ∧ Q W') :
  Calls Tryz.prog 36 #[.pointer (some ⟨s, 0, .none⟩), .int .u64 va, .int .i64 n, .func (.func 78) #[] #[.pointer (some ⟨u1, 0, .none⟩), .pointer (some ⟨u2, 0, .none⟩)], .func (.func 40) #[] #[.pointer (some ⟨d1, 0, .none⟩), .pointer (some ⟨d2, 0, .none⟩), .pointer (some ⟨d3, 0, .none⟩)]] w fun e W' => e = .returned (.bool false) ∧ Q W' := by
 have HD : Hid (∀ W, Below w.heap.size w W → Calls Tryz.prog 40 #[.int .u64 pa, .int .i64 (pce va n 0), .pointer (some ⟨d1, 0, .none⟩), .pointer (some ⟨d2, 0, .none⟩), .pointer (some ⟨d3, 0, .none⟩)] W fun e W' => e = .returned (.bool false) ∧ Q W') := cd
 have HA : Hid (Calls Tryz.prog 78 #[.int .u64 va, .pointer (some ⟨u1, 0, .none⟩), .pointer (some ⟨u2, 0, .none⟩)] w fun e W' => e = .returned (.tuple #[.int .u64 pa, .bool true]) ∧ Below w.heap.size w W') := ca
 clear ca cd
 have hb := pce_b va n 0 hn
 have hpos : (0 : Int) < n := by omega
 have hrem : IntKind.u64.wrap (va.tmod 4096) = va % 4096 := by rw [Int.tmod_eq_emod_of_nonneg (by omega), IntKind.wrap_u64]; omega
 have hsub : IntKind.u64.wrap (4096 - va % 4096) = 4096 - va % 4096 := by rw [IntKind.wrap_u64]; omega
 have hcv : IntKind.i64.wrap (4096 - va % 4096) = 4096 - va % 4096 := by rw [IntKind.wrap_i64]; omega
 obtain ⟨pc, hpc⟩ : ∃ pc, pc = pce va n 0 := ⟨_, rfl⟩
 rw [← hpc] at HD hb
 have hq : (pc : Int) = min (n : Int) (4096 - va % 4096) := by
  rw [hpc]
  unfold pce
  simp only [Int.natCast_zero, Int.add_zero, Nat.sub_zero]
  omega
 clear hpc
 rw [hq] at HD
 clear hq
 go_enter Tryz.func36, Tryz.ntmps36
 go_wp2_with fail
 go_loopw [1, 2] (fun v j wr => v = .int .u64 va ∧ j = .int .i64 n ∧ wr = w) (fun _ j _ => (intOf j).toNat)
 case atStart => exact ⟨rfl, rfl, rfl⟩
 case round =>
  obtain ⟨rfl, rfl, rfl⟩ := hrel
  go_wp2_with fail
  refine HA.out.mono ?_
  rintro _ w1 ⟨rfl, b1⟩
  have cd := HD.out w1 b1
  go_wp2_with fail
  refine cd.mono ?_
  rintro _ w2 ⟨rfl, q2⟩
  have HQ : Hid (Q w2) := q2
  clear q2 cd
  go_wp2_with fail
  go_ret
  exact ⟨rfl, HQ.out⟩
end Go.Proofs.YtacdgfojdkppmaaGreatDoor.Rm
